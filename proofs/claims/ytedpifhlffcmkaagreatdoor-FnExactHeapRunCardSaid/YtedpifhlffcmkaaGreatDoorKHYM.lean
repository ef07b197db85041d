import Derived.Test.YtedpifhlffcmkaaGreatDoorKHUE
import Derived.DeepKeys4
import Derived.Maps.Keyed
namespace Go.Proofs.YtedpifhlffcmkaaGreatDoor
open Go Go.RowKit Go.WideMaps
set_option linter.unusedVariables false
section
variable {z:Int}
theorem Cu:laidOutB Tryz.prog=true:=by kernel_rfl
theorem DI:(194:TypeId)<Tryz.prog.types.size:=of_decide_eq_true (by kernel_rfl)
theorem DX:Tryz.prog.keyTypeAt 4 194=true:=by kernel_rfl
theorem CB:Tryz.prog.keyType 194=true:=by kernel_rfl
theorem k5:4+1<=10000:=by omega
theorem oC:KeyLaw Tryz.prog 194:=deep_law_laid Cu (m:=4) k5 DI DX (by rw [Tryz.underlying194])
theorem xH:Tryz.prog.cellsOf 194=5:=by kernel_rfl
theorem uz:Tryz.prog.cellsOf 141=4:=by kernel_rfl
theorem tT:Tryz.prog.cellsOf 3=1:=by kernel_rfl
theorem zS:Tryz.prog.cellsOf 81=1:=by kernel_rfl
theorem Az:Tryz.prog.cellsOf 9=1:=by kernel_rfl
theorem CW:∃ m,Tryz.prog.types.size=m+3:=⟨Tryz.prog.types.size-3,by
 have:Nat.ble 3 Tryz.prog.types.size=true:=by kernel_rfl
 have:=Nat.le_of_ble_eq_true this
 omega⟩
theorem CK (m:Nat) (a b c:Int) (ha:(Lit.int .i64 a).wf=true) (hb:(Lit.int .i64 b).wf=true) (hc:(Lit.int .i64 c).wf=true):∃ ls,Tryz.prog.keyLits (m+4) 194 [.int .i64 a,.int .i64 b,.int .u64 0,.string ByteArray.empty,.int .i64 c]=some ls:=by
 have h3:∀ k x,(Lit.int .i64 x).wf=true->Tryz.prog.keyLits (k+1) 3 [.int .i64 x]=some [.int .i64 x]:=by
  intro k x hx
  unfold Program.keyLits;rw [Tryz.underlying3]
  simp [hx]
 have h8:∀ k,Tryz.prog.keyLits (k+1) 81 [.int .u64 0]=some [.int .u64 0]:=by
  intro k
  unfold Program.keyLits;rw [Tryz.underlying81]
  simp
  rfl
 have hs:∀ k,Tryz.prog.keyLits (k+1) 9 [.string ByteArray.empty]=some [.string []]:=by
  intro k
  unfold Program.keyLits;rw [Tryz.underlying9]
  rfl
 have hL:Tryz.prog.keyLits (m+3) 141 [.int .i64 a,.int .i64 b,.int .u64 0,.string ByteArray.empty]=some [.int .i64 a,.int .i64 b,.int .u64 0,.string []]:=by
  unfold Program.keyLits;rw [Tryz.underlying141]
  simp [uz,tT,zS,Az,h3 (m+1) a ha,h3 (m+1) b hb,h8 (m+1),hs (m+1)]
 refine ⟨[.int .i64 a,.int .i64 b,.int .u64 0,.string [],.int .i64 c],?_⟩
 unfold Program.keyLits;rw [Tryz.underlying194]
 simp [xH,uz,tT,hL,h3 (m+2) c hc]
theorem AZ (h1: -9223372036854775808<=z) (h2:z<=9223372036854775807):(Lit.int .i64 z).wf=true:=by
 show (decide (IntKind.i64.min<=z)&&decide (z<=IntKind.i64.max))=true
 rw [show IntKind.i64.min= -9223372036854775808 from rfl,show IntKind.i64.max=9223372036854775807 from rfl]
 simp [h1,h2]
theorem Bn {k:HV} (h:mD k):∃ l,keyOf Tryz.prog 194 (iE k)=some l:=by
 obtain ⟨m,hm⟩:=CW
 obtain ⟨ls,hls⟩:=CK m (vk k) (vi k) (vr k) (by
  cases k with
  |none=>rfl
  |some x=>cases x<;>rfl) (by
  cases k with
  |none=>rfl
  |some x=>cases x with
   |inl z=>simp only [mD] at h;exact AZ h.1 h.2
   |inr n=>rfl) (by
  cases k with
  |none=>rfl
  |some x=>cases x with
   |inl z=>rfl
   |inr n=>simp only [mD] at h;exact AZ (by show (-9223372036854775808:Int)<=(n:Int);omega) (by show (n:Int)<=9223372036854775807;omega))
 refine ⟨.string (keyBytes ls),?_⟩
 unfold keyOf
 rw [Tryz.underlying194]
 simp only
 rw [if_pos (by rw [CB];simp [iE,Value.formed,Tryz.underlying194,xH]),hm]
 show (Tryz.prog.keyLits (m+4) 194 [.int .i64 (vk k),.int .i64 (vi k),.int .u64 0,.string ByteArray.empty,.int .i64 (vr k)]).map _=_
 rw [hls]
 rfl
end
end Go.Proofs.YtedpifhlffcmkaaGreatDoor
namespace Go.Proofs.YtedpifhlffcmkaaGreatDoor
open Go Go.RowKit Go.WideMaps
open Go.ChangeMaps (setBlock)
set_option linter.unusedVariables false
section
variable {b i:Nat} {e:En} {es:List En} {v:Value} {w:World}
theorem jA {a b:HV} (h:iE a=iE b):a=b:=by
 unfold iE at h
 simp only [Value.agg.injEq,Array.mk.injEq,List.cons.injEq,Value.int.injEq,true_and,and_true] at h
 cases a with
 |none=>cases b with
  |none=>rfl
  |some y=>cases y<;>simp [vk] at h
 |some x=>cases x with
  |inl z=>cases b with
   |none=>simp [vk] at h
   |some y=>cases y with
    |inl z'=>simp [vi] at h;rw [h.2.1]
    |inr m=>simp [vk] at h
  |inr n=>cases b with
   |none=>simp [vk] at h
   |some y=>cases y with
    |inl z'=>simp [vk] at h
    |inr m=>
     have h9:(n:Int)=(m:Int):=h.2.2
     rw [show n=m by omega]
theorem JV.keys {ents:List MapEntry} (c:JV ents es):∀ m∈ents,∃ l,keyOf Tryz.prog 194 m.key=some l:=by
 intro m hm
 obtain ⟨i,e,h1,_,h3,_⟩:=c.tt m hm
 rw [h3]
 exact Bn (c.kk e (List.mem_of_getElem? h1))
theorem JV.find {ents:List MapEntry} {es:List En} (c:JV ents es) (w:World) {k:HV} (hk:mD k):
 ((Instr.findKey 194 (iE k) ents).run Tryz.prog w=.ok none w/\∀ e∈es,e.1=k->k=none)∨∃ j m i e,(Instr.findKey 194 (iE k) ents).run Tryz.prog w=.ok (some (j,m.val)) w/\ents[j]?=some m/\m.key=iE k/\m.val=.int .i64 (i:Nat)/\es[i]?=some e/\e.1=k/\k.isSome=true:=by
 obtain ⟨l,hl⟩:=Bn hk
 rcases oC.find w hl ents c.keys with ⟨h1,h2⟩|⟨j,m,h1,h2,h3⟩
 ·refine .inl ⟨h1,fun e he hek=>?_⟩
  cases hs:k with
  |none=>rfl
  |some x=>
   obtain ⟨i,hi,rfl⟩:=List.getElem_of_mem he
   obtain ⟨m,hm,hmk⟩:=c.Js i _ (List.getElem?_eq_getElem hi) (by rw [hek,hs];rfl)
   exact absurd (hmk.trans (by rw [hek])) (h2 m hm)
 ·obtain ⟨i,e,a1,a2,a3,a4⟩:=c.tt m (List.mem_of_getElem? h2)
  have hek:e.1=k:=jA (a3.symm.trans h3)
  exact .inr ⟨j,m,i,e,h1,h2,h3,a4,a1,hek,by rw [<-hek];exact a2⟩
theorem Kd.IZ (h:Kd es) (i:Nat) (v:HV):Kd (es.set i (none,v)):=by
 intro a b x y hx hy hs he
 rw [List.getElem?_set] at hx hy
 split at hx
 ·split at hx
  ·simp at hx;subst hx;simp at hs
  ·cases hx
 ·split at hy
  ·split at hy
   ·simp at hy;subst hy;rw [he] at hs;simp at hs
   ·cases hy
  ·exact h a b x y hx hy hs he
theorem bW (w:World) (b:Nat) (o:Obj):Keeps w (setBlock w b o) (fun c=>c=b):=by
 refine ⟨rfl,rfl,rfl,by simp [setBlock],fun c hc hn=>?_⟩
 simp only [setBlock]
 rw [Array.getElem?_setIfInBounds,if_neg (fun e=>hn e.symm)]
theorem dN {o o':Obj} (h:w.heap[b]?=some o'):(setBlock w b o).heap[b]?=some o:=by
 simp only [setBlock]
 have hl:b<w.heap.size:=by
  rcases Nat.lt_or_ge b w.heap.size with c|c
  ·exact c
  ·rw [Array.getElem?_eq_none c] at h;cases h
 simp [hl]
theorem BZ (h:kR w v es) (hi:es[i]?=some e) (ty:TypeId):∃ w1,(Builtin.delete_ #[132,194] ty #[v,iE e.1]).run Tryz.prog w=.ok (.tuple #[]) w1/\kR w1 v (es.set i (none,e.2))/\Keeps w w1 (fun b=>bJ v=some b)/\w1.heap.size=w.heap.size:=by
 have hil:=(List.getElem?_eq_some_iff.1 hi).1
 rcases h with ⟨rfl,hes⟩|⟨b,ents,clk,rfl,hb,hc⟩
 ·rw [hes] at hil;simp at hil
 ·have hk:=hc.kk e (List.mem_of_getElem? hi)
  obtain ⟨l,hl⟩:=Bn hk
  have hck:=oC.check w ents.isEmpty hl
  rcases hc.find w hk with ⟨h1,h2⟩|⟨j,m,i',e',h1,h2,h3,h4,h5,h6,h7⟩
  ·refine ⟨setBlock w b (.map ents clk),?_,?_,(bW w b _).mono (fun c e=>by rw [e];rfl),by simp [setBlock]⟩
   ·simp [Builtin.delete_,run_underlying Tryz.underlying132,MapKept.run_getObj_map hb,hck,h1,MapKept.run_setObj_map _ hb,Result.andThen,setBlock]
   ·have he1:e.1=none:=h2 e (List.mem_of_getElem? hi) rfl
    have:es.set i (none,e.2)=es:=by
     refine List.ext_getElem? (fun q=>?_)
     rw [List.getElem?_set]
     split
     ·rename_i c;subst c;rw [hi,<-he1]
     ·rfl
    rw [this]
    exact .inr ⟨b,ents,clk,rfl,dN hb,hc⟩
  ·have hii:i'=i:=hc.kd i' i e' e h5 hi (by rw [h6];exact h7) h6
   subst hii
   have hjl:=(List.getElem?_eq_some_iff.1 h2).1
   refine ⟨setBlock w b (.map (ents.eraseIdxIfInBounds j) clk),?_,.inr ⟨b,_,clk,rfl,dN hb,?_⟩,(bW w b _).mono (fun c e=>by rw [e];rfl),by simp [setBlock]⟩
   ·simp [Builtin.delete_,run_underlying Tryz.underlying132,MapKept.run_getObj_map hb,hck,h1,MapKept.run_setObj_map _ hb,Result.andThen,setBlock]
   ·have htl:(ents.eraseIdxIfInBounds j).toList=ents.toList.eraseIdx j:=by
     have hjl':j<ents.size:=by simpa using hjl
     rw [Array.eraseIdxIfInBounds,dif_pos hjl',Array.toList_eraseIdx]
    rw [htl]
    have hdiff:∀ q m',q≠j->ents.toList[q]?=some m'->m'.key≠m.key:=by
     intro q m' hq hm' hkk
     have hql:=(List.getElem?_eq_some_iff.1 hm').1
     have e1:ents.toList[q]=m':=(List.getElem?_eq_some_iff.1 hm').2
     have e2:ents.toList[j]=m:=(List.getElem?_eq_some_iff.1 h2).2
     have hp:=List.pairwise_iff_getElem.1 hc.nd
     rcases Nat.lt_or_ge q j with c|c
     ·exact hp q j hql hjl c (by rw [e1,e2];exact hkk)
     ·exact hp j q hjl hql (by omega) (by rw [e1,e2];exact hkk.symm)
    refine ⟨fun m' hm'=>?_,fun q e9 hq hs=>?_,hc.nd.sublist (List.eraseIdx_sublist _ _),fun e9 he9=>?_,hc.kd.IZ _ _⟩
    ·obtain ⟨q,hq1,hq2⟩:=List.mem_eraseIdx_iff_getElem?.1 hm'
     obtain ⟨i2,e2,a1,a2,a3,a4⟩:=hc.tt m' (List.mem_of_getElem? hq2)
     refine ⟨i2,e2,?_,a2,a3,a4⟩
     rw [List.getElem?_set,if_neg ?_]
     ·exact a1
     ·intro c
      subst c
      rw [hi] at a1
      cases a1
      exact hdiff q m' hq1 hq2 (a3.trans h3.symm)
    ·rw [List.getElem?_set] at hq
     split at hq
     ·simp at hq;subst hq;simp at hs
     ·rename_i c
      obtain ⟨m',b1,b2⟩:=hc.Js q e9 hq hs
      refine ⟨m',?_,b2⟩
      obtain ⟨q',hq',rfl⟩:=List.getElem_of_mem b1
      refine List.mem_eraseIdx_iff_getElem?.2 ⟨q',?_,List.getElem?_eq_getElem hq'⟩
      intro c2
      subst c2
      rw [List.getElem?_eq_getElem hq'] at h2
      cases h2
      have:=jA (b2.symm.trans h3)
      exact c (hc.kd q i' e9 e hq hi hs this).symm
    ·rw [List.mem_iff_getElem?] at he9
     obtain ⟨q,hq⟩:=he9
     rw [List.getElem?_set] at hq
     split at hq
     ·simp at hq;subst hq;trivial
     ·exact hc.kk e9 (List.mem_of_getElem? hq)
end
end Go.Proofs.YtedpifhlffcmkaaGreatDoor
namespace Go.Proofs.YtedpifhlffcmkaaGreatDoor
open Go Go.RowKit
set_option linter.unusedVariables false
section
variable {G:Gh} {S:Nat->Prop} {base n:Nat} {h h':Hp} {o:Ob} {w w1:World}
def PM.Jj (L:PM) (n:Nat) (ev mv:Value):PM:={ L with es:=fun m=>if m=n then ev else L.es m,mp:=fun m=>if m=n then mv else L.mp m }
theorem PM.Gy (L:PM) (n:Nat):L.Jj n (L.es n) (L.mp n)=L:=by
 obtain ⟨H,tb,es,mp,li⟩:=L
 unfold PM.Jj
 simp only [PM.mk.injEq,true_and,and_true]
 refine ⟨funext fun m=>?_,funext fun m=>?_⟩
 ·split
  ·rename_i c;rw [c]
  ·rfl
 ·split
  ·rename_i c;rw [c]
  ·rfl
theorem JR.IB {L:PM} (a:JR base S h G L w) (f:Ob->Ob) (ho:h.ob n=some o) (ev mv:Value)
 (kk:Keeps w w1 (fun b=>b=L.H∨b=L.tb n∨(L.es n).ownBlock=some b∨bJ (L.mp n)=some b))
 (hh:aD w1 77 L.H 19 (iY h' G L)) (hob:∀ m,h'.ob m=(h.upd n f).ob m) (hls:∀ k,b_ k->dh h' G k=dh h G k)
 (h1:aD w1 136 (L.tb n) 13 (lT (f o) n ev mv)) (h2:w1.ownsRow base 167 10 ev (f o).es.length (fP L.tb (f o).es)) (h3:kR w1 mv (f o).es)
 (he:∀ g,ev.ownBlock=some g->(L.es n).ownBlock=some g∨w.heap.size<=g) (hm:∀ g,bJ mv=some g->bJ (L.mp n)=some g∨w.heap.size<=g):
 JR base S h' G (L.Jj n ev mv) w1/\Keeps w w1 S:=by
 have hr:=a.ob n o ho
 have hE:=a.en n o ho
 have hM:=a.mp n o ho
 have get:∀ m o',h'.ob m=some o'->∃ o2,h.ob m=some o2/\(m=n->o2=o/\o'=f o)/\(m≠n->o'=o2):=by
  intro m o' e
  rw [hob,Hp.Ed] at e
  split at e
  ·rename_i c
   subst c
   rw [ho] at e
   simp at e
   subst e
   exact ⟨o,ho,fun _=>⟨rfl,rfl⟩,fun c=>absurd rfl c⟩
  ·rename_i c
   exact ⟨o',e,fun d=>absurd d.symm c,fun _=>rfl⟩
 have hR:∀ {T g N:Nat} {f:Nat->Value},aD w T g N f->T≠77->T≠136->T≠167->¬ (g=L.H∨g=L.tb n∨(L.es n).ownBlock=some g∨bJ (L.mp n)=some g):=by
  intro T g N f q1 q0 q2 q3 q5
  rcases q5 with q5|q5|q5|q5
  ·exact q1.apart a.hp q0 q5
  ·exact q1.apart hr q2 q5
  ·exact ak hE q1 (Ne.symm q3) q5
  ·exact hM.apart q1 q5
 have hS:∀ b,(b=L.H∨b=L.tb n∨(L.es n).ownBlock=some b∨bJ (L.mp n)=some b)->S b:=by
  intro b e
  rcases e with e|e|e|e
  ·exact e ▸ a.sH
  ·exact e ▸ a.st n o ho
  ·exact a.se n o b ho e
  ·exact a.sm n o b ho e
 have hlt:∀ m o',h.ob m=some o'->∀ g,(L.es m).ownBlock=some g->g<w.heap.size:=fun m o' e g hg=>(au (a.en m o' e) hg).lt
 have hltm:∀ m o',h.ob m=some o'->∀ g,bJ (L.mp m)=some g->g<w.heap.size:=fun m o' e g hg=>(a.mp m o' e).lt hg
 have hup:∀ b,w1.heap.size<=b->S b:=fun b hb=>a.up b (Nat.le_trans kk.size hb)
 refine ⟨⟨hh,fun m o' e=>?_,fun m o' e=>?_,fun m o' e=>?_,fun j hj=>?_,?_,?_,?_,a.lj,a.bH,?_,?_,Nat.le_trans a.bs kk.size,a.sH,?_,?_,?_,a.sl,hup⟩,kk.mono hS⟩
 ·obtain ⟨o2,e2,h4,h5⟩:=get m o' e
  by_cases c:m=n
  ·subst c
   obtain ⟨rfl,rfl⟩:=h4 rfl
   show aD w1 _ (L.tb m) 13 (lT (f o2) m (if m=m then ev else _) (if m=m then mv else _))
   rw [if_pos rfl,if_pos rfl]
   exact h1
  ·obtain rfl:=h5 c
   show aD w1 _ (L.tb m) 13 (lT o' m (if m=n then ev else L.es m) (if m=n then mv else L.mp m))
   rw [if_neg c,if_neg c]
   refine (a.ob m o' e2).keep kk (fun y=>?_)
   rcases y with y|y|y|y
   ·exact (a.ob m o' e2).apart a.hp (by decide) y
   ·exact c (a.ij m n _ _ e2 ho y)
   ·exact ak hE (a.ob m o' e2) (by decide) y
   ·exact hM.apart (a.ob m o' e2) y
 ·obtain ⟨o2,e2,h4,h5⟩:=get m o' e
  by_cases c:m=n
  ·subst c
   obtain ⟨rfl,rfl⟩:=h4 rfl
   show w1.ownsRow base _ 10 (if m=m then ev else _) _ _
   rw [if_pos rfl]
   exact h2
  ·obtain rfl:=h5 c
   show w1.ownsRow base _ 10 (if m=n then ev else L.es m) _ _
   rw [if_neg c]
   refine aj (a.en m o' e2) kk (fun g hg y=>?_)
   rcases y with y|y|y|y
   ·exact ak (a.en m o' e2) a.hp (by decide) (y ▸ hg)
   ·exact ak (a.en m o' e2) hr (by decide) (y ▸ hg)
   ·exact c (a.ei m n _ _ g e2 ho hg y)
   ·exact hM.apart (au (a.en m o' e2) hg) y
 ·obtain ⟨o2,e2,h4,h5⟩:=get m o' e
  by_cases c:m=n
  ·subst c
   obtain ⟨rfl,rfl⟩:=h4 rfl
   show kR w1 (if m=m then mv else _) _
   rw [if_pos rfl]
   exact h3
  ·obtain rfl:=h5 c
   show kR w1 (if m=n then mv else L.mp m) _
   rw [if_neg c]
   refine (a.mp m o' e2).keep kk (fun g hg y=>?_)
   rcases y with y|y|y|y
   ·exact (a.mp m o' e2).apart a.hp (y ▸ hg)
   ·exact (a.mp m o' e2).apart hr (y ▸ hg)
   ·exact (a.mp m o' e2).apart (au hE y) hg
   ·exact c (a.mi m n _ _ g e2 ho hg y)
 ·rw [hls j hj];exact aj (a.li j hj) kk (fun g hg=>hR (au (a.li j hj) hg) (fE hj).1 (fE hj).2.1 (fE hj).2.2)
 ·intro m m' o1 o2 e1 e2
  obtain ⟨p1,q1,_⟩:=get m o1 e1
  obtain ⟨p2,q2,_⟩:=get m' o2 e2
  exact a.ij m m' p1 p2 q1 q2
 ·intro m m' o1 o2 g e1 e2 x1 x2
  obtain ⟨p1,q1,_⟩:=get m o1 e1
  obtain ⟨p2,q2,_⟩:=get m' o2 e2
  simp only [PM.Jj] at x1 x2
  by_cases c1:m=n<;>by_cases c2:m'=n
  ·rw [c1,c2]
  ·rw [if_pos c1] at x1;rw [if_neg c2] at x2
   rcases he g x1 with y|y
   ·rw [c1];exact a.ei n m' o p2 g ho q2 y x2
   ·have:=hlt m' p2 q2 g x2;omega
  ·rw [if_neg c1] at x1;rw [if_pos c2] at x2
   rcases he g x2 with y|y
   ·rw [c2];exact a.ei m n p1 o g q1 ho x1 y
   ·have:=hlt m p1 q1 g x1;omega
  ·rw [if_neg c1] at x1;rw [if_neg c2] at x2
   exact a.ei m m' p1 p2 g q1 q2 x1 x2
 ·intro m m' o1 o2 g e1 e2 x1 x2
  obtain ⟨p1,q1,_⟩:=get m o1 e1
  obtain ⟨p2,q2,_⟩:=get m' o2 e2
  simp only [PM.Jj] at x1 x2
  by_cases c1:m=n<;>by_cases c2:m'=n
  ·rw [c1,c2]
  ·rw [if_pos c1] at x1;rw [if_neg c2] at x2
   rcases hm g x1 with y|y
   ·rw [c1];exact a.mi n m' o p2 g ho q2 y x2
   ·have:=hltm m' p2 q2 g x2;omega
  ·rw [if_neg c1] at x1;rw [if_pos c2] at x2
   rcases hm g x2 with y|y
   ·rw [c2];exact a.mi m n p1 o g q1 ho x1 y
   ·have:=hltm m p1 q1 g x1;omega
  ·rw [if_neg c1] at x1;rw [if_neg c2] at x2
   exact a.mi m m' p1 p2 g q1 q2 x1 x2
 ·intro m o1 e1
  obtain ⟨p1,q1,_⟩:=get m o1 e1
  exact a.bt m p1 q1
 ·intro m o1 g e1 x1
  obtain ⟨p1,q1,_⟩:=get m o1 e1
  simp only [PM.Jj] at x1
  split at x1
  ·rcases hm g x1 with y|y
   ·exact a.bm n o g ho y
   ·exact Nat.le_trans a.bs y
  ·exact a.bm m p1 g q1 x1
 ·intro m o1 e1
  obtain ⟨p1,q1,_⟩:=get m o1 e1
  exact a.st m p1 q1
 ·intro m o1 g e1 x1
  obtain ⟨p1,q1,_⟩:=get m o1 e1
  simp only [PM.Jj] at x1
  split at x1
  ·rcases he g x1 with y|y
   ·exact a.se n o g ho y
   ·exact a.up g y
  ·exact a.se m p1 g q1 x1
 ·intro m o1 g e1 x1
  obtain ⟨p1,q1,_⟩:=get m o1 e1
  simp only [PM.Jj] at x1
  split at x1
  ·rcases hm g x1 with y|y
   ·exact a.sm n o g ho y
   ·exact a.up g y
  ·exact a.sm m p1 g q1 x1
theorem JR.IQ {L:PM} (a:JR base S h G L w) (f:Ob->Ob) (ho:h.ob n=some o) (ev mv:Value)
 (kk:Keeps w w1 (fun b=>b=L.tb n∨(L.es n).ownBlock=some b∨bJ (L.mp n)=some b))
 (h1:aD w1 136 (L.tb n) 13 (lT (f o) n ev mv)) (h2:w1.ownsRow base 167 10 ev (f o).es.length (fP L.tb (f o).es)) (h3:kR w1 mv (f o).es)
 (he:∀ g,ev.ownBlock=some g->(L.es n).ownBlock=some g∨w.heap.size<=g) (hm:∀ g,bJ mv=some g->bJ (L.mp n)=some g∨w.heap.size<=g):
 JR base S (h.upd n f) G (L.Jj n ev mv) w1/\Keeps w w1 S:=by
 refine a.IB f ho ev mv (kk.mono fun b e=>.inr e) ((a.hp.keep kk (fun q=>?_)).congr (fun i _=>?_)) (fun _=>rfl) (fun k hk=>rfl) h1 h2 h3 he hm
 ·rcases q with q|q|q
  ·exact a.hp.apart (a.ob n o ho) (by decide) q
  ·exact ak (a.en n o ho) a.hp (by decide) q
  ·exact (a.mp n o ho).apart a.hp q
 ·unfold iY
  rw [h.El n f]
  rfl
end
section
variable {G:Gh} {L:PM} {S:Nat->Prop} {base cap g i j n:Nat} {e:En} {es:List En} {h:Hp} {o:Ob} {v:Value} {w w0:World}
theorem aT {α:Type} (f:α->List Value) (l r:List α) (X:List Value) (j off:Nat) (c:Value) (hl:(l.flatMap f).length=j*10) (hX:off<X.length):(l.flatMap f++(X++r.flatMap f)).set (j*10+off) c=l.flatMap f++(X.set off c++r.flatMap f):=by
 rw [List.set_append_right _ _ (by omega),hl,Nat.add_sub_cancel_left,List.set_append_left _ _ hX]
theorem jo {α:Type} (f:α->List Value) {es:List α} {e:α} (h:es[j]?=some e) (e':α):es.flatMap f=(es.take j).flatMap f++(f e++(es.drop (j+1)).flatMap f)/\(es.set j e').flatMap f=(es.take j).flatMap f++(f e'++(es.drop (j+1)).flatMap f):=by
 have hj:=(List.getElem?_eq_some_iff.1 h).1
 have he:=(List.getElem?_eq_some_iff.1 h).2
 constructor
 ·conv=>lhs;rw [<-List.take_append_drop j es,List.drop_eq_getElem_cons hj,he]
  rw [List.flatMap_append,List.flatMap_cons]
 ·rw [List.set_eq_take_append_cons_drop,if_pos hj,List.flatMap_append,List.flatMap_cons]
theorem oJ (tb:Nat->Nat) (es:List En) (hj:j<es.length):((es.take j).flatMap (gZ tb)).length=j*10:=by
 rw [show (es.take j).flatMap (gZ tb)=fP tb (es.take j) from rfl,oU,List.length_take,Nat.min_eq_left (by omega)]
theorem yU (tb:Nat->Nat) (v:HV) (h:es[j]?=some e):(((((fP tb es).set (j*10+5) (.int .i64 (vk v))).set (j*10+6) (.int .i64 (vi v))).set (j*10+7) (.int .u64 0)).set (j*10+8) (.string ByteArray.empty)).set (j*10+9) (aG tb v)=fP tb (es.set j (e.1,v)):=by
 obtain ⟨h1,h2⟩:=jo (gZ tb) h (e.1,v)
 have hl:=oJ tb es (List.getElem?_eq_some_iff.1 h).1
 unfold fP
 rw [h1,h2,aT _ _ _ _ _ _ _ hl (by simp [gZ,iV]),aT _ _ _ _ _ _ _ hl (by simp [gZ,iV]),aT _ _ _ _ _ _ _ hl (by simp [gZ,iV]),aT _ _ _ _ _ _ _ hl (by simp [gZ,iV]),aT _ _ _ _ _ _ _ hl (by simp [gZ,iV])]
 rfl
theorem qU (tb:Nat->Nat) (h:es[j]?=some e):(((((fP tb es).set (j*10) (.int .i64 0)).set (j*10+1) (.int .i64 0)).set (j*10+2) (.int .u64 0)).set (j*10+3) (.string ByteArray.empty)).set (j*10+4) .nilIface=fP tb (es.set j (none,e.2)):=by
 obtain ⟨h1,h2⟩:=jo (gZ tb) h (none,e.2)
 have hl:=oJ tb es (List.getElem?_eq_some_iff.1 h).1
 unfold fP
 rw [h1,h2,show j*10=j*10+0 from rfl,aT _ _ _ _ _ _ _ hl (by simp [gZ,iV]),show j*10+0+1=j*10+1 from rfl,show j*10+0+2=j*10+2 from rfl,show j*10+0+3=j*10+3 from rfl,show j*10+0+4=j*10+4 from rfl,aT _ _ _ _ _ _ _ hl (by simp [gZ,iV]),aT _ _ _ _ _ _ _ hl (by simp [gZ,iV]),aT _ _ _ _ _ _ _ hl (by simp [gZ,iV]),aT _ _ _ _ _ _ _ hl (by simp [gZ,iV])]
 rfl
theorem dz (h:es[i]?=some e) (e':En):aK (es.set i e')+(if e.2.isNone then 1 else 0)=aK es+(if e'.2.isNone then 1 else 0):=by
 have hj:=(List.getElem?_eq_some_iff.1 h).1
 have he:=(List.getElem?_eq_some_iff.1 h).2
 have h1:es=es.take i++e::es.drop (i+1):=by conv=>lhs;rw [<-List.take_append_drop i es,List.drop_eq_getElem_cons hj,he]
 have h2:es.set i e'=es.take i++e'::es.drop (i+1):=by rw [List.set_eq_take_append_cons_drop,if_pos hj]
 unfold aK
 rw [h2]
 conv=>rhs;rw [h1]
 rw [List.filter_append,List.filter_append,List.filter_cons,List.filter_cons]
 cases e.2.isNone<;>cases e'.2.isNone<;>simp<;>omega
theorem kR.val (h:kR w v es) (hi:es[i]?=some e) (x:HV):kR w v (es.set i (e.1,x)):=by
 have hil:=(List.getElem?_eq_some_iff.1 hi).1
 rcases h with ⟨rfl,hes⟩|⟨b,ents,clk,rfl,hb,hc⟩
 ·rw [hes] at hil;simp at hil
 ·have hg:∀ (q:Nat) (e9:En),(es.set i (e.1,x))[q]?=some e9->∃ e8:En,es[q]?=some e8/\e8.1=e9.1:=by
   intro q e9 hq
   rw [List.getElem?_set] at hq
   split at hq
   ·rename_i c;subst c;simp at hq;subst hq;exact ⟨e,hi,rfl⟩
   ·exact ⟨e9,hq,rfl⟩
  have hg2:∀ (q:Nat) (e9:En),es[q]?=some e9->∃ e8:En,(es.set i (e.1,x))[q]?=some e8/\e8.1=e9.1:=by
   intro q e9 hq
   rw [List.getElem?_set]
   split
   ·rename_i c;subst c;rw [hi] at hq;cases hq;exact ⟨_,rfl,rfl⟩
   ·exact ⟨e9,hq,rfl⟩
  refine .inr ⟨b,ents,clk,rfl,hb,fun m hm=>?_,fun q e9 hq hs=>?_,hc.nd,fun e9 he9=>?_,?_⟩
  ·obtain ⟨i',e',a1,a2,a3,a4⟩:=hc.tt m hm
   obtain ⟨e8,b1,b2⟩:=hg2 i' e' a1
   exact ⟨i',e8,b1,by rw [b2];exact a2,by rw [b2];exact a3,a4⟩
  ·obtain ⟨e8,b1,b2⟩:=hg q e9 hq
   obtain ⟨m,c1,c2⟩:=hc.Js q e8 b1 (by rw [b2];exact hs)
   exact ⟨m,c1,by rw [c2,b2]⟩
  ·obtain ⟨q,hq⟩:=List.mem_iff_getElem?.1 he9
   obtain ⟨e8,b1,b2⟩:=hg q e9 hq
   rw [<-b2]
   exact hc.kk e8 (List.mem_of_getElem? b1)
  ·intro p q x1 y1 hx hy hs hxy
   obtain ⟨x8,b1,b2⟩:=hg p x1 hx
   obtain ⟨y8,c1,c2⟩:=hg q y1 hy
   exact hc.kd p q x8 y8 b1 c1 (by rw [b2];exact hs) (by rw [b2,c2,hxy])
theorem JR.Ik (a:JR base S h G L w) (ho:h.ob n=some o) (hi:o.es[i]?=some e) (v:HV) (hv:L.es n=.slice (some ⟨g,0,none⟩) o.es.length cap)
 (k0:Keeps w w0 (fun b=>b=L.tb n)) (h0:aD w0 136 (L.tb n) 13 (fun k=>if k=9 then .int .i64 (aK (o.es.set i (e.1,v)):Nat) else lT o n (L.es n) (L.mp n) k)):
 JR base S (h.ents n (o.es.set i (e.1,v))) G L (((((w0.setCell ⟨g,i*10+5,none⟩ (.int .i64 (vk v))).setCell ⟨g,i*10+6,none⟩ (.int .i64 (vi v))).setCell ⟨g,i*10+7,none⟩ (.int .u64 0)).setCell ⟨g,i*10+8,none⟩ (.string ByteArray.empty)).setCell ⟨g,i*10+9,none⟩ (aG L.tb v))/\
 Keeps w (((((w0.setCell ⟨g,i*10+5,none⟩ (.int .i64 (vk v))).setCell ⟨g,i*10+6,none⟩ (.int .i64 (vi v))).setCell ⟨g,i*10+7,none⟩ (.int .u64 0)).setCell ⟨g,i*10+8,none⟩ (.string ByteArray.empty)).setCell ⟨g,i*10+9,none⟩ (aG L.tb v)) S:=by
 have hil:=(List.getElem?_eq_some_iff.1 hi).1
 have hE:=a.en n o ho
 have hrE:=au hE (g:=g) (by rw [hv];simp [Value.ownBlock])
 have hne:g≠L.tb n:=fun c=>hrE.apart (a.ob n o ho) (by decide) c
 have hE0:=aj hE k0 (fun b hb c=>by
  rw [hv] at hb
  simp [Value.ownBlock] at hb
  exact hne (hb.trans c))
 rw [hv] at hE0
 have h1:=aH (aH (aH (aH (aH hE0 (show i*10+5<o.es.length*10 by omega) (.int .i64 (vk v))) (show i*10+6<o.es.length*10 by omega) (.int .i64 (vi v))) (show i*10+7<o.es.length*10 by omega) (.int .u64 0)) (show i*10+8<o.es.length*10 by omega) (.string ByteArray.empty)) (show i*10+9<o.es.length*10 by omega) (aG L.tb v)
 rw [yU L.tb v hi] at h1
 have k1:Keeps w0 (((((w0.setCell ⟨g,i*10+5,none⟩ (.int .i64 (vk v))).setCell ⟨g,i*10+6,none⟩ (.int .i64 (vi v))).setCell ⟨g,i*10+7,none⟩ (.int .u64 0)).setCell ⟨g,i*10+8,none⟩ (.string ByteArray.empty)).setCell ⟨g,i*10+9,none⟩ (aG L.tb v)) (fun b=>b=g):=
  Keeps.setCell (S:=fun b=>b=g) (Keeps.setCell (S:=fun b=>b=g) (Keeps.setCell (S:=fun b=>b=g) (Keeps.setCell (S:=fun b=>b=g) (Keeps.setCell (S:=fun b=>b=g) (Keeps.refl w0 (fun b=>b=g)) rfl (.int .i64 (vk v))) rfl (.int .i64 (vi v))) rfl (.int .u64 0)) rfl (.string ByteArray.empty)) rfl (aG L.tb v)
 have hM:=((a.mp n o ho).keep (k0.trans (w':=w0) (Keeps.refl w0 _)) (fun b hb c=>(a.mp n o ho).apart (a.ob n o ho) (c ▸ hb)))
 have hM1:=hM.keep k1 (fun b hb c=>(a.mp n o ho).apart hrE (c ▸ hb))
 generalize (((((w0.setCell ⟨g,i*10+5,none⟩ (.int .i64 (vk v))).setCell ⟨g,i*10+6,none⟩ (.int .i64 (vi v))).setCell ⟨g,i*10+7,none⟩ (.int .u64 0)).setCell ⟨g,i*10+8,none⟩ (.string ByteArray.empty)).setCell ⟨g,i*10+9,none⟩ (aG L.tb v))=w1 at *
 have hkk:Keeps w w1 (fun b=>b=L.tb n∨(L.es n).ownBlock=some b∨bJ (L.mp n)=some b):=(k0.mono (fun b c=>.inl c)).trans (k1.mono (fun b c=>.inr (.inl (by rw [hv,c];simp [Value.ownBlock]))))
 have:=a.IQ (w1:=w1) (fun o'=>{ o' with es:=o.es.set i (e.1,v) }) ho (L.es n) (L.mp n) hkk ((h0.keep k1 (fun c=>hne c.symm)).congr (fun k hk=>?_)) (by rw [hv,List.length_set];exact h1) (hM1.val hi v) (fun b hb=>.inl hb) (fun b hb=>.inl hb)
 ·rw [PM.Gy] at this
  exact this
 ·refine bK (fun k=>(if k=9 then _ else lT o n (L.es n) (L.mp n) k)=lT { o with es:=o.es.set i (e.1,v) } n (L.es n) (L.mp n) k) rfl rfl ?_ rfl rfl rfl rfl rfl rfl rfl rfl rfl rfl k hk
  simp [lT]
theorem JR.tkey (a:JR base S h G L w) (ho:h.ob n=some o) (hi:o.es[i]?=some e) (hv:L.es n=.slice (some ⟨g,0,none⟩) o.es.length cap)
 (k0:Keeps w w0 (fun b=>bJ (L.mp n)=some b)) (h0:kR w0 (L.mp n) (o.es.set i (none,e.2))):
 JR base S (h.ents n (o.es.set i (none,e.2))) G L (((((w0.setCell ⟨g,i*10,none⟩ (.int .i64 0)).setCell ⟨g,i*10+1,none⟩ (.int .i64 0)).setCell ⟨g,i*10+2,none⟩ (.int .u64 0)).setCell ⟨g,i*10+3,none⟩ (.string ByteArray.empty)).setCell ⟨g,i*10+4,none⟩ .nilIface)/\
 Keeps w (((((w0.setCell ⟨g,i*10,none⟩ (.int .i64 0)).setCell ⟨g,i*10+1,none⟩ (.int .i64 0)).setCell ⟨g,i*10+2,none⟩ (.int .u64 0)).setCell ⟨g,i*10+3,none⟩ (.string ByteArray.empty)).setCell ⟨g,i*10+4,none⟩ .nilIface) S:=by
 have hil:=(List.getElem?_eq_some_iff.1 hi).1
 have hE:=a.en n o ho
 have hrE:=au hE (g:=g) (by rw [hv];simp [Value.ownBlock])
 have hne:g≠L.tb n:=fun c=>hrE.apart (a.ob n o ho) (by decide) c
 have hE0:=aj hE k0 (fun b hb c=>(a.mp n o ho).apart (au hE hb) c)
 rw [hv] at hE0
 have h1:=aH (aH (aH (aH (aH hE0 (show i*10<o.es.length*10 by omega) (.int .i64 0)) (show i*10+1<o.es.length*10 by omega) (.int .i64 0)) (show i*10+2<o.es.length*10 by omega) (.int .u64 0)) (show i*10+3<o.es.length*10 by omega) (.string ByteArray.empty)) (show i*10+4<o.es.length*10 by omega) .nilIface
 rw [qU L.tb hi] at h1
 have k1:Keeps w0 (((((w0.setCell ⟨g,i*10,none⟩ (.int .i64 0)).setCell ⟨g,i*10+1,none⟩ (.int .i64 0)).setCell ⟨g,i*10+2,none⟩ (.int .u64 0)).setCell ⟨g,i*10+3,none⟩ (.string ByteArray.empty)).setCell ⟨g,i*10+4,none⟩ .nilIface) (fun b=>b=g):=
  Keeps.setCell (S:=fun b=>b=g) (Keeps.setCell (S:=fun b=>b=g) (Keeps.setCell (S:=fun b=>b=g) (Keeps.setCell (S:=fun b=>b=g) (Keeps.setCell (S:=fun b=>b=g) (Keeps.refl w0 (fun b=>b=g)) rfl (.int .i64 0)) rfl (.int .i64 0)) rfl (.int .u64 0)) rfl (.string ByteArray.empty)) rfl .nilIface
 have hM1:=h0.keep k1 (fun b hb c=>(a.mp n o ho).apart hrE (c ▸ hb))
 have hR:=((a.ob n o ho).keep k0 (fun c=>(a.mp n o ho).apart (a.ob n o ho) c)).keep k1 (fun c=>hne c.symm)
 generalize (((((w0.setCell ⟨g,i*10,none⟩ (.int .i64 0)).setCell ⟨g,i*10+1,none⟩ (.int .i64 0)).setCell ⟨g,i*10+2,none⟩ (.int .u64 0)).setCell ⟨g,i*10+3,none⟩ (.string ByteArray.empty)).setCell ⟨g,i*10+4,none⟩ .nilIface)=w1 at *
 have hkk:Keeps w w1 (fun b=>b=L.tb n∨(L.es n).ownBlock=some b∨bJ (L.mp n)=some b):=(k0.mono (fun b c=>.inr (.inr c))).trans (k1.mono (fun b c=>.inr (.inl (by rw [hv,c];simp [Value.ownBlock]))))
 have:=a.IQ (w1:=w1) (fun o'=>{ o' with es:=o.es.set i (none,e.2) }) ho (L.es n) (L.mp n) hkk (hR.congr (fun k hk=>?_)) (by rw [hv,List.length_set];exact h1) hM1 (fun b hb=>.inl hb) (fun b hb=>.inl hb)
 ·rw [PM.Gy] at this
  exact this
 ·have hb:aK (o.es.set i (none,e.2))=aK o.es:=by
   have:=dz hi (none,e.2)
   simp only at this
   omega
  refine bK (fun k=>lT o n (L.es n) (L.mp n) k=lT { o with es:=o.es.set i (none,e.2) } n (L.es n) (L.mp n) k) rfl rfl ?_ rfl rfl rfl rfl rfl rfl ?_ rfl rfl rfl k hk
  ·simp [lT]
  ·simp [lT,hb]
end
set_option maxHeartbeats 6400000
set_option maxRecDepth 100000
attribute [local go_sem] bD
theorem dY (w:World) (x lo hi:Int):Calls Tryz.prog 67 #[.int .i64 x,.int .i64 lo,.int .i64 hi] w fun e w'=>e=.returned (.bool (decide (lo<=x)&&decide (x<=hi)))/\w'=w:=by
 by_cases c:lo<=x
 ·have c1:decide (lo<=x)=true:=by simp [c]
  go_enter Tryz.func67,Tryz.ntmps67
  go_wp2
  go_ret
  exact ⟨by simp [c],rfl⟩
 ·have c1:decide (lo<=x)=false:=by simp;omega
  go_enter Tryz.func67,Tryz.ntmps67
  go_wp2
  go_ret
  exact ⟨by simp,rfl⟩
theorem mR (w:World) (t:Nat) (k:Int) (h0:w.cell? ⟨t,10,none⟩=some (.int .i64 0)) (h1:w.cell? ⟨t,11,none⟩=some (.int .i64 0)) (h2:w.cell? ⟨t,12,none⟩=some (.int .i64 0)):Calls Tryz.prog 136 #[.pointer (some ⟨t,10,none⟩),.int .i64 k] w fun e w'=>e=.returned (.tuple #[])/\w'=w:=by
 have HW:=ah (dY w k 1 0)
 rw [show (decide ((1:Int)<=k)&&decide (k<=0))=false by simp;omega] at HW
 by_cases c:(0:Int)<k
 ·have c1:¬ k<=0:=by omega
  go_enter Tryz.func136,Tryz.ntmps136
  go_wp2_with fail
  refine HW.o.mono ?_
  rintro e1 w1 ⟨rfl,rfl⟩
  go_wp2
  go_end0
  exact ⟨rfl,rfl⟩
 ·have c1:¬ k > 0:=by omega
  go_enter Tryz.func136,Tryz.ntmps136
  go_wp2_with fail
  refine HW.o.mono ?_
  rintro e1 w1 ⟨rfl,rfl⟩
  go_wp2
  go_end0
  exact ⟨rfl,rfl⟩
end Go.Proofs.YtedpifhlffcmkaaGreatDoor
