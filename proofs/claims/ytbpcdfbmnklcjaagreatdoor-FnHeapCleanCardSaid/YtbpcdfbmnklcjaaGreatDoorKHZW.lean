import Derived.Test.YtbpcdfbmnklcjaaGreatDoorKHZT
import Derived.Laws.NewBlocks
namespace Go.Proofs.YtbpcdfbmnklcjaaGreatDoor
open Go Go.RowKit
set_option maxHeartbeats 6400000
set_option maxRecDepth 100000
set_option linter.unusedVariables false
section
variable {K:Act->World->Prop} {N T base i j n vb:Nat} {Q:Exit->Act->World->Prop} {a:Act} {f':Nat->Value} {l:List Value} {v:Value} {w:World}
attribute [local go_sem] bW
def h_ (w:World) (T g N:Nat) (f:Nat->Value):Prop:=∃ cur:Array Value,w.heap[g]?=some (.cells cur T (0,0))/\cur.size=N/\∀ j,j<N->cur[j]?=some (f j)
theorem h_.f {w:World} {T g N:Nat} {f:Nat->Value} (h:h_ w T g N f):aD w T g N f:=by
 obtain ⟨b,e,d,c⟩:=h;exact ⟨b,e,aO d.symm,c⟩
theorem h_.set {g:Nat} {f:Nat->Value} (h:h_ w T g N f) (p:j<N) (x:Value):h_ (w.setCell ⟨g,j,none⟩ x) T g N (fun i=>if i=j then x else f i):=by
 obtain ⟨c,o,m,k⟩:=h;have e:=heap_setCell_same w g j _ _ x o;refine ⟨_,e,by simpa using m,fun i hi=>?_⟩;by_cases b:i=j
 ·subst b
  have d:i<c.size:=by omega
  simp [d]
 ·have:=k i hi
  simp [b,Ne.symm b,this]
theorem h_.congr {g:Nat} {f:Nat->Value} (h:h_ w T g N f) (c:∀ j,j<N->f j=f' j):h_ w T g N f':=by
 obtain ⟨b,k,e,d⟩:=h;exact ⟨b,k,e,fun j hj=>by rw [d j hj,c j hj]⟩
theorem h_.sets {T g N:Nat}:∀ (b:List Value) (o:Nat) (w:World) (f:Nat->Value),h_ w T g N f->o+b.length<=N->h_ (w.setCells g o b) T g N (fun j=>if o<=j/\j<o+b.length then b.getD (j-o) (.bool false) else f j)
 | [],o,w,f,h,_=>h.congr (fun j _=>by rw [if_neg (by simp only [List.length_nil];omega)])
 |v::r,o,w,f,h,hl=>by
  rw [aY] at hl;refine (h_.sets r (o+1) _ _ (h.set (j:=o) (by omega) v) (by omega)).congr (fun j hj=>?_);rw [aY];by_cases c:j=o
  ·subst c
   rw [if_neg (by omega),if_pos rfl,if_pos (by omega),Nat.sub_self];rfl
  ·by_cases c2:o+1<=j/\j<o+1+r.length
   ·rw [if_pos c2,if_pos (by omega),show j-o=(j-(o+1))+1 by omega]
    rfl
   ·rw [if_neg c2,if_neg c,if_neg (by omega)]
theorem gM (g:Nat):∀ (b:List Value) (o:Nat) (w:World),Keeps w (w.setCells g o b) (fun c=>c=g)
 | [],o,w=>Keeps.refl w _
 |v::r,o,w=>(Keeps.setCell (S:=fun c=>c=g) (Keeps.refl w _) rfl v).trans (gM g r (o+1) _)
theorem h_.own {g:Nat} {f:Nat->Value} (h:h_ w T g N f) (hb:base<=g) (e:n<=N) (hm:N<=maxLen) (b:l.length=n) (k:∀ j,j<n->l[j]?=some (f j)):w.ownsRow base T 1 (.slice (some ⟨g,0,none⟩) n N) n l:=by
 obtain ⟨d,p,o,m⟩:=h;refine ⟨by rw [Nat.mul_one];exact b,.inr ⟨g,N,d,rfl,hb,p,e,hm,by rw [Nat.mul_one];exact o,?_⟩⟩;rw [Nat.mul_one];refine List.ext_getElem? (fun j=>?_);rw [List.getElem?_take];split
 ·rename_i c
  rw [k j c,Array.getElem?_toList];exact m j (by omega)
 ·rw [aM (by omega)]
theorem wU {x:Value} (hi:i<=l.length) (f:Nat->Value) (d:∀ j,j<i->l[j]?=some (f j)):∀ j,j<l.length+1->(l.take i++x::l.drop i)[j]?=some (if i<=j/\j<i+[x].length then [x].getD (j-i) (.bool false) else if i+1<=j/\j<i+1+(l.drop i).length then (l.drop i).getD (j-(i+1)) (.bool false) else f j):=by
 intro j e;have b:(l.take i).length=i:=by rw [bf];omega
 rcases Nat.lt_trichotomy j i with c|c|c
 ·rw [dF (by omega),List.getElem?_take,if_pos c,if_neg (by omega),if_neg (by omega)]
  exact d j c
 ·subst c
  rw [fI (by omega),b,Nat.sub_self,if_pos (by simp)];rfl
 ·rw [fI (by omega),b,show j-i=(j-(i+1))+1 by omega,List.getElem?_cons_succ,if_neg (by simp;omega),if_pos (by rw [List.length_drop];omega)]
  rw [bq,List.getElem?_drop];rw [aN (by omega)];rfl
theorem mM {o:Oper} (d s:Operand) (t:TypeId)
 (ho:o.op=.call { callee:=.builtin .copy,args:=#[d,s],argTypes:=#[t,t] }) (v u:Value) (hd:a.eval d=v) (b:a.eval s=u) {v':Value} {w':World}
 (hr:(Builtin.copy_ #[t,t] o.type #[v,u]).run Tryz.prog w=.ok v' w') (h:K (a.put o.dst v') w'):Oper.wp Tryz.prog o a w K Q:=by
 unfold Oper.wp execOp;simp only [ho,resolve,invoke,builtin,Sem.run_bind,Sem.run_pure,Result.andThen_ok,List.map_toArray,List.map_cons,List.map_nil,hd,b,hr];exact h
def uG (base i:Nat) (v x:Value) (l:List Value) (w:World) (e:Ending) (w':World):Prop:=∃ v',e=.returned v'/\w'.ownsRow base 67 1 v' (l.length+1) (l.take i++x::l.drop i)/\Keeps w w' (fun c=>v.ownBlock=some c)/\∀ q,v'.ownBlock=some q->v.ownBlock=some q∨w.heap.size<=q
theorem zw {x:Value} (hown:w.ownsRow base 67 1 v l.length l) (Z:l.length<=1000000) (s:x.oneCell'=true) (R:aD w 67 vb 1 (fun _=>x)) (H:base<=w.heap.size):
 Calls Tryz.prog 79 #[v,.int .i64 (l.length:Int),.slice (some ⟨vb,0,none⟩) 1 1] w (uG base l.length v x l w):=by
 obtain ⟨V,y,r,p,m⟩:=info_parts gY;obtain ⟨v',w',hr,ho,k,-,t⟩:=run_append_own_at (P:=Tryz.prog) w base 70 70 67 V .nilIface 1 16 Tryz.underlying70 y r p m rfl (by decide) v l.length l hown ⟨vb,0,none⟩ 1 1 [x] rfl (fun j u hj=>by
  have E:j=0:=by have:=(aJ.1 hj).1;simp at this;omega
  subst E;simp at hj;rw [bL,Nat.zero_add,R.c 0,hj]) (fun u hu=>by simp at hu;rw [hu];exact s) (by unfold maxLen;omega) (by omega) H
 have U:Hq (uG base l.length v x l w (.returned v') w'):=ah (by
  refine ⟨v',rfl,?_,⟨k.os,k.tape,k.output,k.size,fun b hb hn=>k.block b hb (fun e=>hn e.symm)⟩,fun q hq=>?_⟩
  ·rw [bN,List.drop_length];exact ho
  ·rcases t with c|c
   ·exact .inl (c ▸ hq)
   ·rw [c] at hq;simp at hq;exact .inr (aO hq))
 have h:=ah hr;obtain ⟨S,A,C⟩:=aF hown;subst C;have f:S=none->l.length=0/\A=0:=fun c=>by
  subst c;rcases hown.2 with ⟨d,B⟩|⟨g,z,J,d,_⟩
  ·simp only [Value.slice.injEq] at d;exact ⟨B,d.2.2⟩
  ·simp at d
 have G:l.length<=A:=by
  rcases hown.2 with ⟨d,B⟩|⟨g,z,J,d,_,_,h4,_⟩
  ·omega
  ·simp only [Value.slice.injEq] at d;omega
 have W:((1:Int)==0)=false:=rfl;have F:((l.length:Int)==(l.length:Int))=true:=by simp
 clear hown ho k t hr y r p m R s;cases S with
 |none=>
  obtain ⟨d,B⟩:=f rfl;subst B;rw [d] at h;have L:=ah d;obtain ⟨M,D⟩:∃ M,l.length=M:=⟨_,rfl⟩
  rw [d] at F ⊢;clear d f G D;go_enter Tryz.func79,Tryz.ntmps79;go_wp2_with (first
   |(at_builtin
     refine uZ rfl (.tmp 23) (.tmp 24) 70 rfl _ _ v' rfl rfl h.o ?_)
   |fail)
  go_ret;have:=U.o;rw [L.o] at this;exact this
 |some ad=>
  obtain ⟨ab,Y,X⟩:=ad;clear f;go_enter Tryz.func79,Tryz.ntmps79;go_wp2_with (first
   |(at_builtin
     refine uZ rfl (.tmp 23) (.tmp 24) 70 rfl _ _ v' rfl rfl h.o ?_)
   |fail)
  all_goals
   go_ret;exact U.o
end
section
variable {base cap i vb:Nat} {l:List Value} {w:World}
attribute [local go_sem] bW
theorem lU:(Tryz.prog.info? 67).map (·.size)=some 1:=by
 obtain ⟨e,b,d,a,c⟩:=info_parts gY;rw [b];simp [a]
theorem D5 (w:World):(Go.sizeOf 67).run Tryz.prog w=.ok 1 w:=by kernel_rfl
theorem vO {g:Nat} {x:Value} (hown:w.ownsRow base 67 1 (.slice (some ⟨g,0,none⟩) l.length cap) l.length l) (R:∀ u∈l,u.oneCell'=true) (hl:l.length<=1000000) (y:x.oneCell'=true) (E:h_ w 67 vb 1 (fun _=>x)) (A:vb≠g) (hi:i<l.length) (G:l.length+1<=cap):
 Calls Tryz.prog 79 #[.slice (some ⟨g,0,none⟩) l.length cap,.int .i64 (i:Int),.slice (some ⟨vb,0,none⟩) 1 1] w (uG base i (.slice (some ⟨g,0,none⟩) l.length cap) x l w):=by
 rcases hown.2 with ⟨h0,_⟩|⟨g',S,a,z,Q,N,h4,M,F,L⟩
 ·cases h0
 ·simp only [Value.slice.injEq,Option.some.injEq,Addr.mk.injEq,true_and,and_true] at z
  obtain ⟨rfl,rfl⟩:=z;rw [Nat.mul_one] at F L;have B:h_ w 67 g cap (fun j=>a.toList.getD j (.bool false)):=⟨a,N,F,fun j hj=>by
   show a[j]?=some (a.toList.getD j (.bool false));rw [bq,Array.getElem?_toList,Array.getElem?_eq_getElem (by omega)];rfl⟩
  have p:∀ j,j<l.length->l[j]?=some (a.toList.getD j (.bool false)):=fun j hj=>by
   rw [<-L,List.getElem?_take,if_pos hj,bq];cases hc:a.toList[j]? with
   |none=>have:=List.getElem?_eq_none_iff.1 hc;simp at this;omega
   |some u=>rfl
  have s:(l.drop i).length=l.length-i:=List.length_drop ..;have h:=h_.sets (l.drop i) (i+1) w.drew _ (show h_ w.drew 67 g cap _ from B) (by rw [s];omega);have t:=h_.sets [x] i _ _ h (by show i+1<=cap;omega);have d:∀ (j:Nat) (u:Value),l[j]?=some u->w.cell? ⟨g,j,none⟩=some u:=fun j u hj=>by
   have J:=(aJ.1 hj).1;rw [B.f.c j];rw [p j J] at hj;exact hj
  have b:∀ ty dc sc,(Builtin.copy_ #[70,70] ty #[.slice (some ⟨g,i+1,none⟩) (l.length-i) dc,.slice (some ⟨g,i,none⟩) (l.length+1-i) sc]).run Tryz.prog w.drew=.ok (goInt (l.drop i).length) (w.drew.setCells g (i+1) (l.drop i)):=fun ty dc sc=>
   run_copy_cells w.drew _ _ ty 67 g (i+1) (l.length-i) dc ⟨g,i,none⟩ (l.length+1-i) sc (l.drop i) Tryz.underlying70 lU (by rw [s];simp only [Nat.min_def];split<;>omega)
    (fun j u hj=>by rw [bL];exact d (i+j) u (by rwa [List.getElem?_drop] at hj))
    (fun j hj=>by show (w.cell? _).isSome=true;rw [B.f.cell (j:=i+1+j) (by rw [s] at hj;omega)];rfl) (fun j hj=>B.f.ME _) (fun u hu=>R u (List.mem_of_mem_drop hu))
  obtain ⟨k,v⟩:∃ k,k=w.drew.setCells g (i+1) (l.drop i):=⟨_,rfl⟩
  rw [<-v] at b h t;have r:Keeps w k (fun c=>c=g):=by
   rw [v];have:=gM g (l.drop i) (i+1) w.drew;exact ⟨this.os,this.tape,this.output,this.size,this.block⟩
  have n:=E.f.keep r A;have m:∀ ty dc,(Builtin.copy_ #[70,70] ty #[.slice (some ⟨g,i,none⟩) (l.length+1-i) dc,.slice (some ⟨vb,0,none⟩) 1 1]).run Tryz.prog k=.ok (goInt [x].length) (k.setCells g i [x]):=fun ty dc=>
   run_copy_cells k _ _ ty 67 g i (l.length+1-i) dc ⟨vb,0,none⟩ 1 1 [x] Tryz.underlying70 lU (by simp only [Nat.min_def,List.length_singleton];split<;>omega)
    (fun j u hj=>by
      have K:j=0:=by have:=(aJ.1 hj).1;simp at this;omega
      subst K;simp at hj;rw [bL,Nat.zero_add,n.c 0,hj])
    (fun j hj=>by simp at hj;rw [h.f.c (i+j)];rfl) (fun j hj=>h.f.ME _) (fun u hu=>by simp at hu;rw [hu];exact y)
  have H:∀ lb cb,(callFunc 109 #[.slice (some ⟨vb,0,none⟩) 1 1,.slice (some ⟨g,i+1,none⟩) lb cb]).run Tryz.prog w=.ok (.value (.bool false)) w:=fun lb cb=>by
   obtain ⟨cv,q1,T,q3⟩:=E;rw [run_callFunc_extern Tryz.func109 (by kernel_rfl) (by kernel_rfl) (by kernel_rfl) (e:=Extern.SlicesOverlaps.overlaps #[70,70] #[4]) (by kernel_rfl),
    Lib.run_overlaps_apart w 70 4 67 Tryz.underlying70 1 D5 ⟨vb,0,none⟩ ⟨g,i+1,none⟩ 1 1 lb cb A 67 67 1 cap (by simp [World.shape?,q1,T]) (by simp [World.shape?,N,F]) (by omega) (by simp [World.frozen?,q1]) (by simp [World.frozen?,q1])]
   rfl
  have HF:Hq (uG base i (.slice (some ⟨g,0,none⟩) l.length cap) x l w (.returned (.slice (some ⟨g,0,none⟩) (l.length+1) cap)) (k.setCells g i [x])):=ah (by
   refine ⟨_,rfl,?_,?_,fun q hq=>.inl (by simpa [Value.ownBlock] using hq)⟩
   ·refine t.own Q (by omega) M (by simp;omega) (wU (by omega) _ (fun j hj=>p j (by omega)))
   ·exact (r.trans (gM g [x] i k)).mono (fun c e=>by rw [e];simp [Value.ownBlock]))
  have D:=ah b;have C:=ah m;have U:((i:Int)==(l.length:Int))=false:=by simp;omega
  have W:¬ ((l.length:Int)+1 > (cap:Int)):=by omega
  have a6:(0:Int)<=(i:Int)+1:=by omega
  have a5:¬ (cap=i+1):=by omega
  have a4:¬ (cap=i):=by omega
  have a3:(i:Int)<=(l.length:Int)+1:=by omega
  have a2:i<=l.length:=by omega
  have a1:i+1<=l.length+1:=by omega
  have a0:(l.length:Int)+1<=(cap:Int):=by omega
  have Z:(i:Int)<=(l.length:Int):=by omega
  have X:(cap:Int)<=9223372036854775807:=by unfold maxLen at M;omega
  have V:=IntWalk.i64_in ((i:Int)+1) (by omega);have a7:w.cell? ⟨vb,0,none⟩=some x:=E.f.c 0;have P:k.cell? ⟨vb,0,none⟩=some x:=n.c 0;clear b m B h t p d v r n hown N L E R y F Q M;go_enter Tryz.func79,Tryz.ntmps79;go_wp2_with (simp only [H])
  go_region_held3 (fun w'=>w'.cell? ⟨vb,0,none⟩=some x) (go_keep)
   (first
     |(refine mM (.tmp 73) (.tmp 76) 70 rfl (.slice (some ⟨g,i+1,none⟩) (l.length-i) (cap-(i+1))) (.slice (some ⟨g,i,none⟩) (l.length+1-i) (cap-i)) rfl rfl (D.o _ _ _) ?_
       have t1:=P))
  have Y:=C.o 3 (cap-i);go_wp2;go_ret;exact HF.o
end
section
variable {Q:Exit->Act->World->Prop} {a:Act} {base cap i vb:Nat} {l:List Value} {ops:Array Oper} {rest:List Oper} {v:Value} {w w':World}
attribute [local go_sem] bW
theorem Da {o:Oper} (b:o.guard=none) (s x:Operand) (t e:TypeId)
 (ho:o.op=.call { callee:=.builtin .append,args:=#[s,x],argTypes:=#[t,e] }) (d c v':Value) (f:a.eval s=d) (hx:a.eval x=c) (hr:(Builtin.append_ #[t,e] o.type #[d,c]).run Tryz.prog w=.ok v' w')
 (h:wpList Tryz.prog ops Q rest (a.put o.dst v') w'):wpList Tryz.prog ops Q (o::rest) a w:=
 wpList_plain b fun _ hK=>by
  unfold Oper.wp execOp;simp only [ho,resolve,invoke,builtin,Sem.run_bind,Sem.run_pure,Result.andThen_ok,List.map_toArray,List.map_cons,List.map_nil,f,hx,hr];exact hK _ _ h
theorem xk (n:Nat):(Builtin.zeroCells (Value.nilIface).cells n).size=n:=by simp [Builtin.zeroCells,Value.cells]
theorem yH {g:Nat} {x:Value} (hown:w.ownsRow base 67 1 (.slice (some ⟨g,0,none⟩) l.length cap) l.length l) (h1:∀ u∈l,u.oneCell'=true) (hl:l.length<=1000000) (U:x.oneCell'=true) (hv:h_ w 67 vb 1 (fun _=>x)) (hi:i<l.length) (H:cap<l.length+1) (a4:base<=w.heap.size):
 Calls Tryz.prog 79 #[.slice (some ⟨g,0,none⟩) l.length cap,.int .i64 (i:Int),.slice (some ⟨vb,0,none⟩) 1 1] w (uG base i (.slice (some ⟨g,0,none⟩) l.length cap) x l w):=by
 have J:=ay hown (g:=g) (by simp [Value.ownBlock]);have a8:l.length<=cap:=by
  rcases hown.2 with ⟨h0,_⟩|⟨g',b2,c9,a2,_,_,h4,_⟩
  ·cases h0
  ·simp only [Value.slice.injEq] at a2;omega
 obtain ⟨i0,W,T,S,F⟩:=info_parts gY;have k:∀ (j:Nat) (u:Value),l[j]?=some u->w.cell? ⟨g,j,none⟩=some u:=fun j u hj=>by
  have b7:=(aJ.1 hj).1;rw [J.c j,bq,hj];rfl
 have B:=J.lt;have V:=hv.f.lt;have D:(Builtin.firstCells i0.size i (.slice (some ⟨g,0,none⟩) i cap)).run Tryz.prog w.drew=.ok (l.take i).toArray w.drew:=by
  rw [S];exact run_firstCells_some w.drew 1 i ⟨g,0,none⟩ i cap (l.take i) (by rw [bf];omega) (fun j u hj=>by
   rw [bL,Nat.zero_add];rw [List.getElem?_take] at hj;split at hj
   ·exact k j u hj
   ·cases hj)
 obtain ⟨G,hG⟩:∃ G,G=grownCap w (l.length+1) cap 67:=⟨_,rfl⟩
 have c8:l.length+1<=G:=by rw [hG];exact grownCap_ge w _ _ _
 have P:G<=maxLen:=by rw [hG];exact grownCap_le_maxLen w _ _ _ (by unfold maxLen;omega)
 have z:∀ ty,(Builtin.append_ #[70,3] ty #[.slice (some ⟨g,0,none⟩) i cap,.int .i64 ((l.length+1-i:Nat):Int)]).run Tryz.prog w=.ok (.slice (some ⟨w.heap.size,0,none⟩) (l.length+1) G) (w.drew.alloc (.cells ((l.take i).toArray++Builtin.zeroCells (Value.nilIface).cells (l.length+1-i)++Builtin.zeroCells (Value.nilIface).cells (G-(l.length+1))) 67)):=fun ty=>by
  have h:=Lib.run_append_grow_zeros w 70 3 ty 67 i0 _ .i64 .i64 Tryz.underlying70 Tryz.underlying3 W T (some ⟨g,0,none⟩) i cap (l.take i) D (l.length+1-i) (by omega) (by omega) (by omega) (by omega) (by rw [F];omega) (by rw [F,show i+(l.length+1-i)=l.length+1 by omega];exact growslice_fits H (by omega));rw [show i+(l.length+1-i)=l.length+1 by omega,<-hG] at h;exact h
 obtain ⟨b,n⟩:∃ b:Array Value,b=(l.take i).toArray++Builtin.zeroCells (Value.nilIface).cells (l.length+1-i)++Builtin.zeroCells (Value.nilIface).cells (G-(l.length+1)):=⟨_,rfl⟩
 rw [<-n] at z;have X:b.size=G:=by
  rw [n,Array.size_append,Array.size_append,xk,xk,List.size_toArray,bf];omega
 have Y:∀ j,j<i->b[j]?=l[j]?:=fun j hj=>by
  have ht:j<(l.take i).toArray.size:=by rw [List.size_toArray,bf];omega
  rw [n,Array.getElem?_append_left (by rw [Array.size_append];omega),Array.getElem?_append_left ht,List.getElem?_toArray,List.getElem?_take,if_pos hj]
 obtain ⟨s,C⟩:∃ s,s=w.drew.alloc (.cells b 67):=⟨_,rfl⟩
 rw [<-C] at z;have r:Below w.heap.size w s:=by
  rw [C];have:=aU w.drew (.cells b 67);exact ⟨this.os,this.tape,this.output,this.size,this.block⟩
 have hX:h_ s 67 w.heap.size G (fun j=>b.toList.getD j (.bool false)):=⟨b,by rw [C];exact Array.getElem?_push_size ..,X,fun j hj=>by
  show b[j]?=some (b.toList.getD j (.bool false));rw [bq,Array.getElem?_toList,Array.getElem?_eq_getElem (by omega)];rfl⟩
 have K:(l.drop i).length=l.length-i:=List.length_drop ..;have y:=h_.sets [x] i s _ hX (by show i+1<=G;omega);have L:=h_.sets (l.drop i) (i+1) (s.setCells w.heap.size i [x]).drew _ (show h_ (s.setCells w.heap.size i [x]).drew 67 w.heap.size G _ from y) (by rw [K];omega);have t:∀ ty dc,(Builtin.copy_ #[70,70] ty #[.slice (some ⟨w.heap.size,i,none⟩) (l.length+1-i) dc,.slice (some ⟨vb,0,none⟩) 1 1]).run Tryz.prog s=.ok (goInt [x].length) (s.setCells w.heap.size i [x]):=fun ty dc=>
  run_copy_cells s _ _ ty 67 w.heap.size i (l.length+1-i) dc ⟨vb,0,none⟩ 1 1 [x] Tryz.underlying70 lU (by simp only [Nat.min_def,List.length_singleton];split<;>omega)
   (fun j u hj=>by
     have a3:j=0:=by have:=(aJ.1 hj).1;simp at this;omega
     subst a3;simp at hj;rw [bL,Nat.zero_add,r.cell (p:=⟨vb,0,none⟩) V,hv.f.c 0,hj])
   (fun j hj=>by simp at hj;rw [hX.f.c (i+j)];rfl) (fun j hj=>hX.f.ME _) (fun u hu=>by simp at hu;rw [hu];exact U)
 obtain ⟨m,M⟩:∃ m,m=s.setCells w.heap.size i [x]:=⟨_,rfl⟩
 rw [<-M] at t y L;have A:Keeps s m (fun c=>c=w.heap.size):=by rw [M];exact gM _ _ _ _
 have d:∀ (j:Nat) (u:Value),l[j]?=some u->m.cell? ⟨g,j,none⟩=some u:=fun j u hj=>by
  rw [bM (a:=⟨g,j,none⟩) (A.block g (aW B r.size) (by show ¬ g=w.heap.size;omega)),r.cell (p:=⟨g,j,none⟩) B];exact k j u hj
 have E:∀ ty dc sc,(Builtin.copy_ #[70,70] ty #[.slice (some ⟨w.heap.size,i+1,none⟩) (l.length-i) dc,.slice (some ⟨g,i,none⟩) (l.length-i) sc]).run Tryz.prog m.drew=.ok (goInt (l.drop i).length) (m.drew.setCells w.heap.size (i+1) (l.drop i)):=fun ty dc sc=>
  run_copy_cells m.drew _ _ ty 67 w.heap.size (i+1) (l.length-i) dc ⟨g,i,none⟩ (l.length-i) sc (l.drop i) Tryz.underlying70 lU (by rw [K];simp only [Nat.min_def];split<;>omega)
   (fun j u hj=>by rw [bL];exact d (i+j) u (by rwa [List.getElem?_drop] at hj))
   (fun j hj=>by show (m.cell? _).isSome=true;rw [y.f.cell (j:=i+1+j) (by rw [K] at hj;omega)];rfl) (fun j hj=>y.f.ME _) (fun u hu=>h1 u (List.mem_of_mem_drop hu))
 have HF:Hq (uG base i (.slice (some ⟨g,0,none⟩) l.length cap) x l w (.returned (.slice (some ⟨w.heap.size,0,none⟩) (l.length+1) G)) (m.drew.setCells w.heap.size (i+1) (l.drop i))):=ah (by
  refine ⟨_,rfl,?_,?_,fun q hq=>.inr (by simp [Value.ownBlock] at hq;omega)⟩
  ·refine (L.congr (fun j hj=>?_)).own a4 (by omega) P (by simp;omega) (wU (by omega) (fun j=>b.toList.getD j (.bool false)) (fun j hj=>?_))
   ·by_cases c:i<=j/\j<i+[x].length
    ·rw [if_neg (by simp at c;omega),if_pos c,if_pos c]
    ·rw [if_neg c,if_neg c]
   ·rw [<-Y j hj,bq,Array.getElem?_toList]
    rw [Array.getElem?_eq_getElem (by omega)];rfl
  ·have R:=gM w.heap.size (l.drop i) (i+1) m.drew
   have a1:Keeps m (m.drew.setCells w.heap.size (i+1) (l.drop i)) (fun c=>c=w.heap.size):=⟨R.os,R.tape,R.output,R.size,R.block⟩
   exact Keeps.into (Keeps.into (Keeps.of r (au _) _) A (fun c e=>.inr (by omega))) a1 (fun c e=>.inr (by omega)))
 have a7:=ah z;have a0:=ah t;have Z:=ah E;have b3:((i:Int)==(l.length:Int))=false:=by simp;omega
 have b5:(l.length:Int)+1 > (cap:Int):=by omega
 have b0:(0:Int)<=(i:Int)+1:=by omega
 have c7:¬ (cap=i):=by omega
 have c6:(i:Int)<=(cap:Int):=by omega
 have c5:i<=l.length:=by omega
 have a9:i<=cap:=by omega
 have c4:i+1<=l.length+1:=by omega
 have c3:(i:Int)<=(l.length:Int):=by omega
 have c1:¬ (G=i):=by omega
 have c0:¬ (G=i+1):=by omega
 have b9:(i:Int)<=(l.length:Int)+1:=by omega
 have b8:i<=l.length+1:=by omega
 have b6:(l.length:Int)+1-(i:Int)=((l.length+1-i:Nat):Int):=by omega
 have b1:(G:Int)<=9223372036854775807:=by unfold maxLen at P;omega
 have b4:=IntWalk.i64_in ((i:Int)+1) (by omega);have a6:m.cell? ⟨g,0,none⟩=some l[0]:=d 0 _ (aN (by omega));have a5:(m.drew.setCells w.heap.size (i+1) (l.drop i)).cell? ⟨g,0,none⟩=some l[0]:=by
  rw [bM (a:=⟨g,0,none⟩) ((gM w.heap.size (l.drop i) (i+1) m.drew).block g (aW B (aI r.size A.size)) (by show ¬ g=w.heap.size;omega))];exact a6
 clear t E hX y L k d C A r M hown hv h1 U z Y X n D W T S F hG J P B V;generalize w.heap.size=N at *;go_enter Tryz.func79,Tryz.ntmps79;have c2:=a0.o 3 (G-i);go_wp2_with (first
  |(at_builtin
    refine Da rfl (.tmp 34) (.tmp 39) 70 3 rfl _ _ _ rfl rfl (a7.o _) ?_)
  |fail)
 go_region_held3 (fun w'=>w'.cell? ⟨g,0,none⟩=some l[0]) (go_keep)
  (first
    |(refine mM (.tmp 50) (.tmp 53) 70 rfl (.slice (some ⟨N,i+1,none⟩) (l.length-i) (G-(i+1))) (.slice (some ⟨g,i,none⟩) (l.length-i) (cap-i)) rfl rfl (Z.o _ _ _) ?_
      have t1:=a5))
 go_wp2;go_ret;exact HF.o
theorem Bp {x:Value} (hown:w.ownsRow base 67 1 v l.length l) (o:∀ u∈l,u.oneCell'=true) (m:l.length<=1000000) (b:x.oneCell'=true) (k:h_ w 67 vb 1 (fun _=>x)) (j:v.ownBlock≠some vb) (hi:i<=l.length) (h:base<=w.heap.size):
 Calls Tryz.prog 79 #[v,.int .i64 (i:Int),.slice (some ⟨vb,0,none⟩) 1 1] w (uG base i v x l w):=by
 rcases Nat.eq_or_lt_of_le hi with c|c
 ·subst c
  exact zw hown m b k.f h
 ·obtain ⟨g,cap,rfl⟩:∃ g cap,v=.slice (some ⟨g,0,none⟩) l.length cap:=by
   rcases hown.2 with ⟨_,n⟩|⟨g,cap,p,n,_⟩
   ·omega
   ·exact ⟨g,cap,n⟩
  rcases Nat.lt_or_ge cap (l.length+1) with d|d
  ·exact yH hown o m b k c d h
  ·exact vO hown o m b k (fun e=>j (by rw [e];simp [Value.ownBlock])) c d
end
end Go.Proofs.YtbpcdfbmnklcjaaGreatDoor
