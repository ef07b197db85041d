import Derived.Test.YtedpifhlffcmkaaGreatDoorKHZT
import Derived.Laws.NewBlocks
namespace Go.Proofs.YtedpifhlffcmkaaGreatDoor
open Go Go.RowKit
set_option maxHeartbeats 6400000
set_option maxRecDepth 100000
set_option linter.unusedVariables false
section
variable {K:Act->World->Prop} {N T base g i j n vb:Nat} {Q:Exit->Act->World->Prop} {a:Act} {f':Nat->Value} {l:List Value} {v:Value} {w:World}
attribute [local go_sem] bD
def eU (w:World) (T g N:Nat) (f:Nat->Value):Prop:=∃ cur:Array Value,w.heap[g]?=some (.cells cur T (0,0))/\cur.size=N/\∀ j,j<N->cur[j]?=some (f j)
theorem eU.f {w:World} {T g N:Nat} {f:Nat->Value} (h:eU w T g N f):aD w T g N f:=by
 obtain ⟨cur,h1,h2,h3⟩:=h
 exact ⟨cur,h1,Nat.le_of_eq h2.symm,h3⟩
theorem eU.set {f:Nat->Value} (h:eU w T g N f) (hj:j<N) (x:Value):eU (w.setCell ⟨g,j,none⟩ x) T g N (fun i=>if i=j then x else f i):=by
 obtain ⟨cur,h1,h2,h3⟩:=h
 have e:=heap_setCell_same w g j _ _ x h1
 refine ⟨_,e,by simpa using h2,fun i hi=>?_⟩
 by_cases hij:i=j
 ·subst hij
  have h9:i<cur.size:=by omega
  simp [h9]
 ·have:=h3 i hi
  simp [hij,Ne.symm hij,this]
theorem eU.congr {f:Nat->Value} (h:eU w T g N f) (hf:∀ j,j<N->f j=f' j):eU w T g N f':=by
 obtain ⟨cur,h1,h2,h3⟩:=h
 exact ⟨cur,h1,h2,fun j hj=>by rw [h3 j hj,hf j hj]⟩
theorem eU.sets {T g N:Nat}:∀ (vs:List Value) (o:Nat) (w:World) (f:Nat->Value),eU w T g N f->o+vs.length<=N->eU (w.setCells g o vs) T g N (fun j=>if o<=j/\j<o+vs.length then vs.getD (j-o) (.bool false) else f j)
 | [],o,w,f,h,_=>h.congr (fun j _=>by rw [if_neg (by simp only [List.length_nil];omega)])
 |v::r,o,w,f,h,hl=>by
  rw [List.length_cons] at hl
  refine (eU.sets r (o+1) _ _ (h.set (j:=o) (by omega) v) (by omega)).congr (fun j hj=>?_)
  rw [List.length_cons]
  by_cases c:j=o
  ·subst c
   rw [if_neg (by omega),if_pos rfl,if_pos (by omega),Nat.sub_self]
   rfl
  ·by_cases c2:o+1<=j/\j<o+1+r.length
   ·rw [if_pos c2,if_pos (by omega),show j-o=(j-(o+1))+1 by omega]
    rfl
   ·rw [if_neg c2,if_neg c,if_neg (by omega)]
theorem dW (g:Nat):∀ (vs:List Value) (o:Nat) (w:World),Keeps w (w.setCells g o vs) (fun c=>c=g)
 | [],o,w=>Keeps.refl w _
 |v::r,o,w=>(Keeps.setCell (S:=fun c=>c=g) (Keeps.refl w _) rfl v).trans (dW g r (o+1) _)
theorem eU.own {f:Nat->Value} (h:eU w T g N f) (hb:base<=g) (hn:n<=N) (hm:N<=maxLen) (hll:l.length=n) (hl:∀ j,j<n->l[j]?=some (f j)):w.ownsRow base T 1 (.slice (some ⟨g,0,none⟩) n N) n l:=by
 obtain ⟨cur,h1,h2,h3⟩:=h
 refine ⟨by rw [Nat.mul_one];exact hll,.inr ⟨g,N,cur,rfl,hb,h1,hn,hm,by rw [Nat.mul_one];exact h2,?_⟩⟩
 rw [Nat.mul_one]
 refine List.ext_getElem? (fun j=>?_)
 rw [List.getElem?_take]
 split
 ·rename_i c
  rw [hl j c,Array.getElem?_toList]
  exact h3 j (by omega)
 ·rw [List.getElem?_eq_none (by omega)]
theorem uD {x:Value} (hi:i<=l.length) (f:Nat->Value) (hf:∀ j,j<i->l[j]?=some (f j)):∀ j,j<l.length+1->(l.take i++x::l.drop i)[j]?=some (if i<=j/\j<i+[x].length then [x].getD (j-i) (.bool false) else if i+1<=j/\j<i+1+(l.drop i).length then (l.drop i).getD (j-(i+1)) (.bool false) else f j):=by
 intro j hj
 have ht:(l.take i).length=i:=by rw [List.length_take];omega
 rcases Nat.lt_trichotomy j i with c|c|c
 ·rw [List.getElem?_append_left (by omega),List.getElem?_take,if_pos c,if_neg (by omega),if_neg (by omega)]
  exact hf j c
 ·subst c
  rw [List.getElem?_append_right (by omega),ht,Nat.sub_self,if_pos (by simp)]
  rfl
 ·rw [List.getElem?_append_right (by omega),ht,show j-i=(j-(i+1))+1 by omega,List.getElem?_cons_succ,if_neg (by simp;omega),if_pos (by rw [List.length_drop];omega)]
  rw [List.getD_eq_getElem?_getD,List.getElem?_drop]
  rw [List.getElem?_eq_getElem (by omega)]
  rfl
theorem kE {o:Oper} (d s:Operand) (t:TypeId)
 (ho:o.op=.call { callee:=.builtin .copy,args:=#[d,s],argTypes:=#[t,t] }) (v u:Value) (hd:a.eval d=v) (hs:a.eval s=u) {v':Value} {w':World}
 (hr:(Builtin.copy_ #[t,t] o.type #[v,u]).run Tryz.prog w=.ok v' w') (h:K (a.put o.dst v') w'):Oper.wp Tryz.prog o a w K Q:=by
 unfold Oper.wp execOp
 simp only [ho,resolve,invoke,builtin,Sem.run_bind,Sem.run_pure,Result.andThen_ok,List.map_toArray,List.map_cons,List.map_nil,hd,hs,hr]
 exact h
def rH (base i:Nat) (v x:Value) (l:List Value) (w:World) (e:Ending) (w':World):Prop:=∃ v',e=.returned v'/\w'.ownsRow base 67 1 v' (l.length+1) (l.take i++x::l.drop i)/\Keeps w w' (fun c=>v.ownBlock=some c)/\∀ q,v'.ownBlock=some q->v.ownBlock=some q∨w.heap.size<=q
theorem wX {x:Value} (hown:w.ownsRow base 67 1 v l.length l) (hl:l.length<=1000000) (hx1:x.oneCell'=true) (hv:aD w 67 vb 1 (fun _=>x)) (hbs:base<=w.heap.size):
 Calls Tryz.prog 79 #[v,.int .i64 (l.length:Int),.slice (some ⟨vb,0,none⟩) 1 1] w (rH base l.length v x l w):=by
 obtain ⟨i0,hi0,hz0,hz1,hz2⟩:=info_parts eu
 obtain ⟨v',w',hr,ho,hg,-,hwh⟩:=run_append_own_at (P:=Tryz.prog) w base 70 70 67 i0 .nilIface 1 16 Tryz.underlying70 hi0 hz0 hz1 hz2 rfl (by decide) v l.length l hown ⟨vb,0,none⟩ 1 1 [x] rfl (fun j u hj=>by
  have hj0:j=0:=by have:=(List.getElem?_eq_some_iff.1 hj).1;simp at this;omega
  subst hj0
  simp at hj
  rw [aY,Nat.zero_add,hv.cell (j:=0) (by omega),hj]) (fun u hu=>by simp at hu;rw [hu];exact hx1) (by unfold maxLen;omega) (by omega) hbs
 have H2:Hq (rH base l.length v x l w (.returned v') w'):=ah (by
  refine ⟨v',rfl,?_,⟨hg.os,hg.tape,hg.output,hg.size,fun b hb hn=>hg.block b hb (fun e=>hn e.symm)⟩,fun q hq=>?_⟩
  ·rw [List.take_length,List.drop_length];exact ho
  ·rcases hwh with c|c
   ·exact .inl (c ▸ hq)
   ·rw [c] at hq;simp at hq;exact .inr (Nat.le_of_eq hq))
 have HRR:=ah hr
 obtain ⟨ao,cap,hvv⟩:=aF hown
 subst hvv
 have hcn:ao=none->l.length=0/\cap=0:=fun c=>by
  subst c
  rcases hown.2 with ⟨h1,h2⟩|⟨g,cap',cur,h1,_⟩
  ·simp only [Value.slice.injEq] at h1;exact ⟨h2,h1.2.2⟩
  ·simp at h1
 have hcc:l.length<=cap:=by
  rcases hown.2 with ⟨h1,h2⟩|⟨g,cap',cur,h1,_,_,h4,_⟩
  ·omega
  ·simp only [Value.slice.injEq] at h1;omega
 have h10:((1:Int)==0)=false:=rfl
 have hee:((l.length:Int)==(l.length:Int))=true:=by simp
 clear hown ho hg hwh hr hi0 hz0 hz1 hz2 hv hx1
 cases ao with
 |none=>
  obtain ⟨h1,h2⟩:=hcn rfl
  subst h2
  rw [h1] at HRR
  have HL0:=ah h1
  obtain ⟨n0,hn0⟩:∃ n0,l.length=n0:=⟨_,rfl⟩
  rw [h1] at hee ⊢
  clear h1 hcn hcc hn0
  go_enter Tryz.func79,Tryz.ntmps79
  go_wp2_with (first
   |(at_builtin
     refine tu rfl (.tmp 23) (.tmp 24) 70 rfl _ _ v' rfl rfl HRR.o ?_)
   |fail)
  go_ret
  have:=H2.o
  rw [HL0.o] at this
  exact this
 |some ad=>
  obtain ⟨ab,aoo,asp⟩:=ad
  clear hcn
  go_enter Tryz.func79,Tryz.ntmps79
  go_wp2_with (first
   |(at_builtin
     refine tu rfl (.tmp 23) (.tmp 24) 70 rfl _ _ v' rfl rfl HRR.o ?_)
   |fail)
  all_goals
   go_ret
   exact H2.o
end
section
variable {base cap g i vb:Nat} {l:List Value} {w:World}
attribute [local go_sem] bD
theorem jD:(Tryz.prog.info? 67).map (·.size)=some 1:=by
 obtain ⟨i0,hi0,hz0,hz1,hz2⟩:=info_parts eu
 rw [hi0]
 simp [hz1]
theorem Bz (w:World):(Go.sizeOf 67).run Tryz.prog w=.ok 1 w:=by kernel_rfl
theorem rU {x:Value} (hown:w.ownsRow base 67 1 (.slice (some ⟨g,0,none⟩) l.length cap) l.length l) (h1:∀ u∈l,u.oneCell'=true) (hl:l.length<=1000000) (hx1:x.oneCell'=true) (hv:eU w 67 vb 1 (fun _=>x)) (hvg:vb≠g) (hi:i<l.length) (hroom:l.length+1<=cap):
 Calls Tryz.prog 79 #[.slice (some ⟨g,0,none⟩) l.length cap,.int .i64 (i:Int),.slice (some ⟨vb,0,none⟩) 1 1] w (rH base i (.slice (some ⟨g,0,none⟩) l.length cap) x l w):=by
 rcases hown.2 with ⟨h0,_⟩|⟨g',cap',cur,hvv,h2,h3,h4,h5,h6,h7⟩
 ·cases h0
 ·simp only [Value.slice.injEq,Option.some.injEq,Addr.mk.injEq,true_and,and_true] at hvv
  obtain ⟨rfl,rfl⟩:=hvv
  rw [Nat.mul_one] at h6 h7
  have hX:eU w 67 g cap (fun j=>cur.toList.getD j (.bool false)):=⟨cur,h3,h6,fun j hj=>by
   show cur[j]?=some (cur.toList.getD j (.bool false))
   rw [List.getD_eq_getElem?_getD,Array.getElem?_toList,Array.getElem?_eq_getElem (by omega)]
   rfl⟩
  have hlj:∀ j,j<l.length->l[j]?=some (cur.toList.getD j (.bool false)):=fun j hj=>by
   rw [<-h7,List.getElem?_take,if_pos hj,List.getD_eq_getElem?_getD]
   cases hc:cur.toList[j]? with
   |none=>have:=List.getElem?_eq_none_iff.1 hc;simp at this;omega
   |some u=>rfl
  have hdl:(l.drop i).length=l.length-i:=List.length_drop ..
  have hX1:=eU.sets (l.drop i) (i+1) w.drew _ (show eU w.drew 67 g cap _ from hX) (by rw [hdl];omega)
  have hX2:=eU.sets [x] i _ _ hX1 (by show i+1<=cap;omega)
  have hcell:∀ (j:Nat) (u:Value),l[j]?=some u->w.cell? ⟨g,j,none⟩=some u:=fun j u hj=>by
   have hjl:=(List.getElem?_eq_some_iff.1 hj).1
   rw [hX.f.cell (j:=j) (by omega)]
   rw [hlj j hjl] at hj
   exact hj
  have hcp1:∀ ty dc sc,(Builtin.copy_ #[70,70] ty #[.slice (some ⟨g,i+1,none⟩) (l.length-i) dc,.slice (some ⟨g,i,none⟩) (l.length+1-i) sc]).run Tryz.prog w.drew=.ok (goInt (l.drop i).length) (w.drew.setCells g (i+1) (l.drop i)):=fun ty dc sc=>
   run_copy_cells w.drew _ _ ty 67 g (i+1) (l.length-i) dc ⟨g,i,none⟩ (l.length+1-i) sc (l.drop i) Tryz.underlying70 jD (by rw [hdl];simp only [Nat.min_def];split<;>omega)
    (fun j u hj=>by rw [aY];exact hcell (i+j) u (by rwa [List.getElem?_drop] at hj))
    (fun j hj=>by show (w.cell? _).isSome=true;rw [hX.f.cell (j:=i+1+j) (by rw [hdl] at hj;omega)];rfl) (fun j hj=>hX.f.Jv _) (fun u hu=>h1 u (List.mem_of_mem_drop hu))
  obtain ⟨W1,hW1⟩:∃ W1,W1=w.drew.setCells g (i+1) (l.drop i):=⟨_,rfl⟩
  rw [<-hW1] at hcp1 hX1 hX2
  have hk1:Keeps w W1 (fun c=>c=g):=by
   rw [hW1]
   have:=dW g (l.drop i) (i+1) w.drew
   exact ⟨this.os,this.tape,this.output,this.size,this.block⟩
  have hv1:=hv.f.keep hk1 hvg
  have hcp2:∀ ty dc,(Builtin.copy_ #[70,70] ty #[.slice (some ⟨g,i,none⟩) (l.length+1-i) dc,.slice (some ⟨vb,0,none⟩) 1 1]).run Tryz.prog W1=.ok (goInt [x].length) (W1.setCells g i [x]):=fun ty dc=>
   run_copy_cells W1 _ _ ty 67 g i (l.length+1-i) dc ⟨vb,0,none⟩ 1 1 [x] Tryz.underlying70 jD (by simp only [Nat.min_def,List.length_singleton];split<;>omega)
    (fun j u hj=>by
      have hj0:j=0:=by have:=(List.getElem?_eq_some_iff.1 hj).1;simp at this;omega
      subst hj0
      simp at hj
      rw [aY,Nat.zero_add,hv1.cell (j:=0) (by omega),hj])
    (fun j hj=>by simp at hj;rw [hX1.f.cell (j:=i+j) (by omega)];rfl) (fun j hj=>hX1.f.Jv _) (fun u hu=>by simp at hu;rw [hu];exact hx1)
  have hov:∀ lb cb,(callFunc 109 #[.slice (some ⟨vb,0,none⟩) 1 1,.slice (some ⟨g,i+1,none⟩) lb cb]).run Tryz.prog w=.ok (.value (.bool false)) w:=fun lb cb=>by
   obtain ⟨cv,q1,q2,q3⟩:=hv
   rw [run_callFunc_extern Tryz.func109 (by kernel_rfl) (by kernel_rfl) (by kernel_rfl) (e:=Extern.SlicesOverlaps.overlaps #[70,70] #[4]) (by kernel_rfl),
    Lib.run_overlaps_apart w 70 4 67 Tryz.underlying70 1 Bz ⟨vb,0,none⟩ ⟨g,i+1,none⟩ 1 1 lb cb hvg 67 67 1 cap (by simp [World.shape?,q1,q2]) (by simp [World.shape?,h3,h6]) (by omega) (by simp [World.frozen?,q1]) (by simp [World.frozen?,q1])]
   rfl
  have HF:Hq (rH base i (.slice (some ⟨g,0,none⟩) l.length cap) x l w (.returned (.slice (some ⟨g,0,none⟩) (l.length+1) cap)) (W1.setCells g i [x])):=ah (by
   refine ⟨_,rfl,?_,?_,fun q hq=>.inl (by simpa [Value.ownBlock] using hq)⟩
   ·refine hX2.own h2 (by omega) h5 (by simp;omega) (uD (by omega) _ (fun j hj=>hlj j (by omega)))
   ·exact (hk1.trans (dW g [x] i W1)).mono (fun c e=>by rw [e];simp [Value.ownBlock]))
  have HCP1:=ah hcp1
  have HCP2:=ah hcp2
  have hz2:((i:Int)==(l.length:Int))=false:=by simp;omega
  have hrm:¬ ((l.length:Int)+1 > (cap:Int)):=by omega
  have hb1:(0:Int)<=(i:Int)+1:=by omega
  have hb2:¬ (cap=i+1):=by omega
  have hb4:¬ (cap=i):=by omega
  have hb5:(i:Int)<=(l.length:Int)+1:=by omega
  have hb6:i<=l.length:=by omega
  have hb7:i+1<=l.length+1:=by omega
  have hb8:(l.length:Int)+1<=(cap:Int):=by omega
  have hb9:(i:Int)<=(l.length:Int):=by omega
  have hc5:(cap:Int)<=9223372036854775807:=by unfold maxLen at h5;omega
  have hw1:=IntWalk.i64_in ((i:Int)+1) (by omega)
  have c0v:w.cell? ⟨vb,0,none⟩=some x:=hv.f.cell (j:=0) (by omega)
  have c1v:W1.cell? ⟨vb,0,none⟩=some x:=hv1.cell (j:=0) (by omega)
  clear hcp1 hcp2 hX hX1 hX2 hlj hcell hW1 hk1 hv1 hown h3 h7 hv h1 hx1 h6 h2 h5
  go_enter Tryz.func79,Tryz.ntmps79
  go_wp2_with (simp only [hov])
  go_region_held3 (fun w'=>w'.cell? ⟨vb,0,none⟩=some x) (go_keep)
   (first
     |(refine kE (.tmp 73) (.tmp 76) 70 rfl (.slice (some ⟨g,i+1,none⟩) (l.length-i) (cap-(i+1))) (.slice (some ⟨g,i,none⟩) (l.length+1-i) (cap-i)) rfl rfl (HCP1.o _ _ _) ?_
       have t1:=c1v))
  have hc2:=HCP2.o 3 (cap-i)
  go_wp2
  go_ret
  exact HF.o
end
section
variable {Q:Exit->Act->World->Prop} {a:Act} {base cap g i vb:Nat} {l:List Value} {ops:Array Oper} {rest:List Oper} {v:Value} {w w':World}
attribute [local go_sem] bD
theorem Al {o:Oper} (hgd:o.guard=none) (s x:Operand) (t t2:TypeId)
 (ho:o.op=.call { callee:=.builtin .append,args:=#[s,x],argTypes:=#[t,t2] }) (vs vx v':Value) (hs:a.eval s=vs) (hx:a.eval x=vx) (hr:(Builtin.append_ #[t,t2] o.type #[vs,vx]).run Tryz.prog w=.ok v' w')
 (h:wpList Tryz.prog ops Q rest (a.put o.dst v') w'):wpList Tryz.prog ops Q (o::rest) a w:=
 wpList_plain hgd fun _ hK=>by
  unfold Oper.wp execOp
  simp only [ho,resolve,invoke,builtin,Sem.run_bind,Sem.run_pure,Result.andThen_ok,List.map_toArray,List.map_cons,List.map_nil,hs,hx,hr]
  exact hK _ _ h
theorem tC (n:Nat):(Builtin.zeroCells (Value.nilIface).cells n).size=n:=by simp [Builtin.zeroCells,Value.cells]
theorem vK {x:Value} (hown:w.ownsRow base 67 1 (.slice (some ⟨g,0,none⟩) l.length cap) l.length l) (h1:∀ u∈l,u.oneCell'=true) (hl:l.length<=1000000) (hx1:x.oneCell'=true) (hv:eU w 67 vb 1 (fun _=>x)) (hi:i<l.length) (hroom:cap<l.length+1) (hbs:base<=w.heap.size):
 Calls Tryz.prog 79 #[.slice (some ⟨g,0,none⟩) l.length cap,.int .i64 (i:Int),.slice (some ⟨vb,0,none⟩) 1 1] w (rH base i (.slice (some ⟨g,0,none⟩) l.length cap) x l w):=by
 have hrg:=au hown (g:=g) (by simp [Value.ownBlock])
 have hcap:l.length<=cap:=by
  rcases hown.2 with ⟨h0,_⟩|⟨g',cap',cur,hvv,_,_,h4,_⟩
  ·cases h0
  ·simp only [Value.slice.injEq] at hvv;omega
 obtain ⟨i0,hi0,hz0,hz1,hz2⟩:=info_parts eu
 have hcell:∀ (j:Nat) (u:Value),l[j]?=some u->w.cell? ⟨g,j,none⟩=some u:=fun j u hj=>by
  have hjl:=(List.getElem?_eq_some_iff.1 hj).1
  rw [hrg.cell (j:=j) (by omega),List.getD_eq_getElem?_getD,hj]
  rfl
 have hgl:=hrg.lt
 have hvl:=hv.f.lt
 have hold:(Builtin.firstCells i0.size i (.slice (some ⟨g,0,none⟩) i cap)).run Tryz.prog w.drew=.ok (l.take i).toArray w.drew:=by
  rw [hz1]
  exact run_firstCells_some w.drew 1 i ⟨g,0,none⟩ i cap (l.take i) (by rw [List.length_take];omega) (fun j u hj=>by
   rw [aY,Nat.zero_add]
   rw [List.getElem?_take] at hj
   split at hj
   ·exact hcell j u hj
   ·cases hj)
 obtain ⟨G,hG⟩:∃ G,G=grownCap w (l.length+1) cap 67:=⟨_,rfl⟩
 have hGn:l.length+1<=G:=by rw [hG];exact grownCap_ge w _ _ _
 have hGm:G<=maxLen:=by rw [hG];exact grownCap_le_maxLen w _ _ _ (by unfold maxLen;omega)
 have hrz:∀ ty,(Builtin.append_ #[70,3] ty #[.slice (some ⟨g,0,none⟩) i cap,.int .i64 ((l.length+1-i:Nat):Int)]).run Tryz.prog w=.ok (.slice (some ⟨w.heap.size,0,none⟩) (l.length+1) G) (w.drew.alloc (.cells ((l.take i).toArray++Builtin.zeroCells (Value.nilIface).cells (l.length+1-i)++Builtin.zeroCells (Value.nilIface).cells (G-(l.length+1))) 67)):=fun ty=>by
  have h:=Lib.run_append_grow_zeros w 70 3 ty 67 i0 _ .i64 .i64 Tryz.underlying70 Tryz.underlying3 hi0 hz0 (some ⟨g,0,none⟩) i cap (l.take i) hold (l.length+1-i) (by omega) (by omega) (by omega) (by omega) (by rw [hz2];omega) (by rw [hz2,show i+(l.length+1-i)=l.length+1 by omega];exact growslice_fits hroom (by omega))
  rw [show i+(l.length+1-i)=l.length+1 by omega,<-hG] at h
  exact h
 obtain ⟨ROW,hROW⟩:∃ ROW:Array Value,ROW=(l.take i).toArray++Builtin.zeroCells (Value.nilIface).cells (l.length+1-i)++Builtin.zeroCells (Value.nilIface).cells (G-(l.length+1)):=⟨_,rfl⟩
 rw [<-hROW] at hrz
 have hRs:ROW.size=G:=by
  rw [hROW,Array.size_append,Array.size_append,tC,tC,List.size_toArray,List.length_take]
  omega
 have hRj:∀ j,j<i->ROW[j]?=l[j]?:=fun j hj=>by
  have ht:j<(l.take i).toArray.size:=by rw [List.size_toArray,List.length_take];omega
  rw [hROW,Array.getElem?_append_left (by rw [Array.size_append];omega),Array.getElem?_append_left ht,List.getElem?_toArray,List.getElem?_take,if_pos hj]
 obtain ⟨W1,hW1⟩:∃ W1,W1=w.drew.alloc (.cells ROW 67):=⟨_,rfl⟩
 rw [<-hW1] at hrz
 have hb1:Below w.heap.size w W1:=by
  rw [hW1]
  have:=aJ w.drew (.cells ROW 67)
  exact ⟨this.os,this.tape,this.output,this.size,this.block⟩
 have hX:eU W1 67 w.heap.size G (fun j=>ROW.toList.getD j (.bool false)):=⟨ROW,by rw [hW1];exact Array.getElem?_push_size ..,hRs,fun j hj=>by
  show ROW[j]?=some (ROW.toList.getD j (.bool false))
  rw [List.getD_eq_getElem?_getD,Array.getElem?_toList,Array.getElem?_eq_getElem (by omega)]
  rfl⟩
 have hdl:(l.drop i).length=l.length-i:=List.length_drop ..
 have hX1:=eU.sets [x] i W1 _ hX (by show i+1<=G;omega)
 have hX2:=eU.sets (l.drop i) (i+1) (W1.setCells w.heap.size i [x]).drew _ (show eU (W1.setCells w.heap.size i [x]).drew 67 w.heap.size G _ from hX1) (by rw [hdl];omega)
 have hcp1:∀ ty dc,(Builtin.copy_ #[70,70] ty #[.slice (some ⟨w.heap.size,i,none⟩) (l.length+1-i) dc,.slice (some ⟨vb,0,none⟩) 1 1]).run Tryz.prog W1=.ok (goInt [x].length) (W1.setCells w.heap.size i [x]):=fun ty dc=>
  run_copy_cells W1 _ _ ty 67 w.heap.size i (l.length+1-i) dc ⟨vb,0,none⟩ 1 1 [x] Tryz.underlying70 jD (by simp only [Nat.min_def,List.length_singleton];split<;>omega)
   (fun j u hj=>by
     have hj0:j=0:=by have:=(List.getElem?_eq_some_iff.1 hj).1;simp at this;omega
     subst hj0
     simp at hj
     rw [aY,Nat.zero_add,hb1.cell (p:=⟨vb,0,none⟩) hvl,hv.f.cell (j:=0) (by omega),hj])
   (fun j hj=>by simp at hj;rw [hX.f.cell (j:=i+j) (by omega)];rfl) (fun j hj=>hX.f.Jv _) (fun u hu=>by simp at hu;rw [hu];exact hx1)
 obtain ⟨W2,hW2⟩:∃ W2,W2=W1.setCells w.heap.size i [x]:=⟨_,rfl⟩
 rw [<-hW2] at hcp1 hX1 hX2
 have hk2:Keeps W1 W2 (fun c=>c=w.heap.size):=by rw [hW2];exact dW _ _ _ _
 have hcell2:∀ (j:Nat) (u:Value),l[j]?=some u->W2.cell? ⟨g,j,none⟩=some u:=fun j u hj=>by
  rw [World.cell?_of_block (a:=⟨g,j,none⟩) (hk2.block g (Nat.lt_of_lt_of_le hgl hb1.size) (by show ¬ g=w.heap.size;omega)),hb1.cell (p:=⟨g,j,none⟩) hgl]
  exact hcell j u hj
 have hcp2:∀ ty dc sc,(Builtin.copy_ #[70,70] ty #[.slice (some ⟨w.heap.size,i+1,none⟩) (l.length-i) dc,.slice (some ⟨g,i,none⟩) (l.length-i) sc]).run Tryz.prog W2.drew=.ok (goInt (l.drop i).length) (W2.drew.setCells w.heap.size (i+1) (l.drop i)):=fun ty dc sc=>
  run_copy_cells W2.drew _ _ ty 67 w.heap.size (i+1) (l.length-i) dc ⟨g,i,none⟩ (l.length-i) sc (l.drop i) Tryz.underlying70 jD (by rw [hdl];simp only [Nat.min_def];split<;>omega)
   (fun j u hj=>by rw [aY];exact hcell2 (i+j) u (by rwa [List.getElem?_drop] at hj))
   (fun j hj=>by show (W2.cell? _).isSome=true;rw [hX1.f.cell (j:=i+1+j) (by rw [hdl] at hj;omega)];rfl) (fun j hj=>hX1.f.Jv _) (fun u hu=>h1 u (List.mem_of_mem_drop hu))
 have HF:Hq (rH base i (.slice (some ⟨g,0,none⟩) l.length cap) x l w (.returned (.slice (some ⟨w.heap.size,0,none⟩) (l.length+1) G)) (W2.drew.setCells w.heap.size (i+1) (l.drop i))):=ah (by
  refine ⟨_,rfl,?_,?_,fun q hq=>.inr (by simp [Value.ownBlock] at hq;omega)⟩
  ·refine (hX2.congr (fun j hj=>?_)).own hbs (by omega) hGm (by simp;omega) (uD (by omega) (fun j=>ROW.toList.getD j (.bool false)) (fun j hj=>?_))
   ·by_cases c:i<=j/\j<i+[x].length
    ·rw [if_neg (by simp at c;omega),if_pos c,if_pos c]
    ·rw [if_neg c,if_neg c]
   ·rw [<-hRj j hj,List.getD_eq_getElem?_getD,Array.getElem?_toList]
    rw [Array.getElem?_eq_getElem (by omega)]
    rfl
  ·have k3:=dW w.heap.size (l.drop i) (i+1) W2.drew
   have k3':Keeps W2 (W2.drew.setCells w.heap.size (i+1) (l.drop i)) (fun c=>c=w.heap.size):=⟨k3.os,k3.tape,k3.output,k3.size,k3.block⟩
   exact Keeps.into (Keeps.into (Keeps.of hb1 (Nat.le_refl _) _) hk2 (fun c e=>.inr (by omega))) k3' (fun c e=>.inr (by omega)))
 have HRZ:=ah hrz
 have HCP1:=ah hcp1
 have HCP2:=ah hcp2
 have hz9:((i:Int)==(l.length:Int))=false:=by simp;omega
 have hrm:(l.length:Int)+1 > (cap:Int):=by omega
 have hb1':(0:Int)<=(i:Int)+1:=by omega
 have hb4:¬ (cap=i):=by omega
 have hb5:(i:Int)<=(cap:Int):=by omega
 have hb6:i<=l.length:=by omega
 have hb6':i<=cap:=by omega
 have hb7:i+1<=l.length+1:=by omega
 have hb9:(i:Int)<=(l.length:Int):=by omega
 have hg1:¬ (G=i):=by omega
 have hg2:¬ (G=i+1):=by omega
 have hg3:(i:Int)<=(l.length:Int)+1:=by omega
 have hg4:i<=l.length+1:=by omega
 have hkk:(l.length:Int)+1-(i:Int)=((l.length+1-i:Nat):Int):=by omega
 have hGm':(G:Int)<=9223372036854775807:=by unfold maxLen at hGm;omega
 have hw1:=IntWalk.i64_in ((i:Int)+1) (by omega)
 have c1v:W2.cell? ⟨g,0,none⟩=some l[0]:=hcell2 0 _ (List.getElem?_eq_getElem (by omega))
 have c2v:(W2.drew.setCells w.heap.size (i+1) (l.drop i)).cell? ⟨g,0,none⟩=some l[0]:=by
  rw [World.cell?_of_block (a:=⟨g,0,none⟩) ((dW w.heap.size (l.drop i) (i+1) W2.drew).block g (Nat.lt_of_lt_of_le hgl (Nat.le_trans hb1.size hk2.size)) (by show ¬ g=w.heap.size;omega))]
  exact c1v
 clear hcp1 hcp2 hX hX1 hX2 hcell hcell2 hW1 hk2 hb1 hW2 hown hv h1 hx1 hrz hRj hRs hROW hold hi0 hz0 hz1 hz2 hG hrg hGm hgl hvl
 generalize w.heap.size=N at *
 go_enter Tryz.func79,Tryz.ntmps79
 have hc1:=HCP1.o 3 (G-i)
 go_wp2_with (first
  |(at_builtin
    refine Al rfl (.tmp 34) (.tmp 39) 70 3 rfl _ _ _ rfl rfl (HRZ.o _) ?_)
  |fail)
 go_region_held3 (fun w'=>w'.cell? ⟨g,0,none⟩=some l[0]) (go_keep)
  (first
    |(refine kE (.tmp 50) (.tmp 53) 70 rfl (.slice (some ⟨N,i+1,none⟩) (l.length-i) (G-(i+1))) (.slice (some ⟨g,i,none⟩) (l.length-i) (cap-i)) rfl rfl (HCP2.o _ _ _) ?_
      have t1:=c2v))
 go_wp2
 go_ret
 exact HF.o
theorem yG {x:Value} (hown:w.ownsRow base 67 1 v l.length l) (h1:∀ u∈l,u.oneCell'=true) (hl:l.length<=1000000) (hx1:x.oneCell'=true) (hv:eU w 67 vb 1 (fun _=>x)) (hvg:v.ownBlock≠some vb) (hi:i<=l.length) (hbs:base<=w.heap.size):
 Calls Tryz.prog 79 #[v,.int .i64 (i:Int),.slice (some ⟨vb,0,none⟩) 1 1] w (rH base i v x l w):=by
 rcases Nat.eq_or_lt_of_le hi with c|c
 ·subst c
  exact wX hown hl hx1 hv.f hbs
 ·obtain ⟨g,cap,rfl⟩:∃ g cap,v=.slice (some ⟨g,0,none⟩) l.length cap:=by
   rcases hown.2 with ⟨_,h2⟩|⟨g,cap,cur,h2,_⟩
   ·omega
   ·exact ⟨g,cap,h2⟩
  rcases Nat.lt_or_ge cap (l.length+1) with d|d
  ·exact vK hown h1 hl hx1 hv c d hbs
  ·exact rU hown h1 hl hx1 hv (fun e=>hvg (by rw [e];simp [Value.ownBlock])) c d
end
end Go.Proofs.YtedpifhlffcmkaaGreatDoor
