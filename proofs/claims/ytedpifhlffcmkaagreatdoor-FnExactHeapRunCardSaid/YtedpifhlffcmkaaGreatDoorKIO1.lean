import Derived.Test.YtedpifhlffcmkaaGreatDoorKHWC
import Derived.Test.YtedpifhlffcmkaaGreatDoorKHWG
import Derived.Test.YtedpifhlffcmkaaGreatDoorKHWE
import Derived.Test.YtedpifhlffcmkaaGreatDoorKHZO
import Derived.Test.YtedpifhlffcmkaaGreatDoorKIO0
import Derived.Deep.Slices
import Derived.Lib.SmallJoins
namespace Go.Proofs.YtedpifhlffcmkaaGreatDoor
open Go Go.RowKit
set_option linter.unusedVariables false
section
variable {A C kd ref:Int} {R base hand hand0 k n:Nat} {S:Nat->Prop} {rv:Value} {w:World}
structure AM where
 code:Int
 id:Int
 h:Hp
 root:List Bool
def rZ (h:Hp) (n:Nat):Bool:=match h.ob n with
 |some o=>o.fin
 |none=>false
def eD (h:Hp) (root:List Bool) (kd A B C:Int):AM:=
 if kd=1 then (if A<0∨3<A then ⟨2,0,h,root⟩ else ⟨0,(h.objs.length:Int),((h.make A.toNat).Eb (bV 0 (root++[true]))).Fe,root++[true]⟩)
 else if kd=2 then ⟨0,0,h.put A.toNat (some (.inl B)) (cu C.toNat),root⟩
 else if kd=3 then ⟨0,0,h.put A.toNat (cu B.toNat) (cu C.toNat),root⟩
 else if kd=4 then (if B≠0/\B≠1 then ⟨2,0,h,root⟩ else ⟨0,0,h.Eb (bV 0 (dx root A.toNat B)),dx root A.toNat B⟩)
 else if kd=5 then (if rZ h A.toNat then ⟨4,0,h,root⟩ else ⟨0,0,h.EK A.toNat,root⟩)
 else if kd=6 then (if A<1∨1000000<A then ⟨2,0,h,root⟩ else ⟨0,0,Hp.step A h,root⟩)
 else if kd=7 then ⟨0,0,h.full,root⟩
 else if kd=8 then ⟨if h.pending=[] then 4 else 0,((h.pending.getLast?.getD 0:Nat):Int),h.pop,root⟩
 else if kd=9 then ⟨0,0,h,root⟩
 else ⟨1,0,h,root⟩
structure FK (k:Nat) (h:Hp) (root:List Bool) (hand:Nat):Prop where
 g:Gd h
 b:Bd k h
 l:root.length=h.objs.length
 o:h.roots=bV 0 root
 r0:root[0]?=some false
 hd:hand=0∨h.Ok hand
theorem dH.ok {h:Hp} {root:List Bool} (x:FK k h root hand) (a:dH h hand ref):∃ n:Nat,ref=(n:Int)/\1<=n/\n<h.objs.length/\h.Ok n:=by
 obtain ⟨n,h1,h2,h3,h4⟩:=a
 refine ⟨n,h1,h2,h3,?_⟩
 rcases h4 with h4|h4
 ·subst h4
  rcases x.hd with c|c
  ·omega
  ·exact c
 ·exact Hp.FI x.g.i h4
theorem gL {h:Hp} {root:List Bool} (x:FK k h root hand) (a:C=0∨dH h hand C):∃ c:Nat,C=(c:Int)/\∀ r∈bn (cu c),h.Ok r:=by
 rcases a with rfl|a
 ·exact ⟨0,rfl,fun r hr=>by simp [cu,bn] at hr⟩
 ·obtain ⟨n,h1,h2,h3,h4⟩:=a.ok x
  refine ⟨n,h1,fun r hr=>?_⟩
  rw [iJ (by omega)] at hr
  simp [bn] at hr
  subst hr
  exact h4
theorem pq {h:Hp} {root:List Bool} {B:Int} (i:Inv h) (o:h.roots=bV 0 root) (hn:h.Ok n) (hl:n<root.length):∀ m∈bV 0 (dx root n B),h.Ok m:=by
 intro m hm
 rw [bZ] at hm
 unfold dx at hm
 rw [List.getElem?_set] at hm
 split at hm
 ·rename_i c;rw [<-c];exact hn
 ·exact i.ls m (.inl (by rw [o];exact bZ.2 hm))
theorem rJ {h:Hp} {root:List Bool} {B:Int} (x:FK k h root hand) (hk:k+1<=5000) (hf:h.freed=[]) (hh:aW h hand kd A B C):
 FK (k+1) (eD h root kd A B C).h (eD h root kd A B C).root 0/\(kd=8->(eD h root kd A B C).code=0->∃ n:Nat,(eD h root kd A B C).id=(n:Int)/\(eD h root kd A B C).h.Ok n):=by
 have same:FK (k+1) h root 0:=⟨x.g,x.b.up,x.l,x.o,x.r0,.inl rfl⟩
 unfold eD
 by_cases k1:kd=1
 ·subst k1
  rw [if_pos rfl]
  refine ⟨?_,fun c=>absurd c (by decide)⟩
  split
  ·exact same
  ·rename_i hA
   have hm:A.toNat<=3:=by omega
   obtain ⟨g1,b1⟩:=x.g.make x.b hk hf hm
   have hlt:(root++[true]).length=root.length+1:=by simp
   have hmo:(h.make A.toNat).objs.length=h.objs.length+1:=by show (h.objs++[_]).length=_;simp
   obtain ⟨g2,b2⟩:=g1.Eb b1 hk hf (gK x.g.i hm x.l x.o) (by
    have h8:=eZ (root++[true]) 0
    rw [hlt,x.l] at h8
    have h9:=b1.len
    omega)
   have cl:=g2.Gb
   refine ⟨g2.Fe,b2.cl cl,?_,?_,?_,.inl rfl⟩
   ·rw [cl.len]
    show (root++[true]).length=(h.make A.toNat).objs.length
    rw [hlt,hmo,x.l]
   ·rw [cl.rt];rfl
   ·show (root++[true])[0]?=some false
    rw [List.getElem?_append_left (by rw [x.l];exact x.g.i.ps)]
    exact x.r0
 rw [if_neg k1]
 by_cases k2:kd=2
 ·subst k2
  rw [if_pos rfl]
  refine ⟨?_,fun c=>absurd c (by decide)⟩
  obtain ⟨a1,a2⟩:=aW.two.1 hh
  obtain ⟨n,rfl,_,_,hn⟩:=a1.ok x
  obtain ⟨c,rfl,hc⟩:=gL x a2
  simp only [Int.toNat_natCast]
  obtain ⟨g1,b1⟩:=x.g.put x.b hk hf (q:=some (.inl B)) hn (fun r hr=>by simp [bn] at hr) hc
  obtain ⟨p1,p2⟩:=gF h n (some (.inl B)) (cu c)
  exact ⟨g1,b1,x.l.trans p1.symm,p2.trans x.o,x.r0,.inl rfl⟩
 rw [if_neg k2]
 by_cases k3:kd=3
 ·subst k3
  rw [if_pos rfl]
  refine ⟨?_,fun c=>absurd c (by decide)⟩
  obtain ⟨a1,a3,a2⟩:=aW.three.1 hh
  obtain ⟨n,rfl,_,_,hn⟩:=a1.ok x
  obtain ⟨m,rfl,hm⟩:=gL x (.inr a3)
  obtain ⟨c,rfl,hc⟩:=gL x a2
  simp only [Int.toNat_natCast]
  obtain ⟨g1,b1⟩:=x.g.put x.b hk hf (q:=cu m) hn hm hc
  obtain ⟨p1,p2⟩:=gF h n (cu m) (cu c)
  exact ⟨g1,b1,x.l.trans p1.symm,p2.trans x.o,x.r0,.inl rfl⟩
 rw [if_neg k3]
 by_cases k4:kd=4
 ·subst k4
  rw [if_pos rfl]
  refine ⟨?_,fun c=>absurd c (by decide)⟩
  obtain ⟨n,rfl,hn1,hn2,hn⟩:=((aW.four (.inl rfl)).1 hh).ok x
  simp only [Int.toNat_natCast]
  split
  ·exact same
  ·have hl:(dx root n B).length=root.length:=by unfold dx;rw [List.length_set]
   obtain ⟨g1,b1⟩:=x.g.Eb x.b.up hk hf (pq (B:=B) x.g.i x.o hn (by rw [x.l];exact hn2)) (by
    have h8:=eZ (dx root n B) 0
    rw [hl,x.l] at h8
    have h9:=x.b.len
    omega)
   refine ⟨g1,?_,hl.trans x.l,rfl,?_,.inl rfl⟩
   ·exact (x.g.Eb x.b.up hk hf (pq (B:=B) x.g.i x.o hn (by rw [x.l];exact hn2)) (by
     have h8:=eZ (dx root n B) 0
     rw [hl,x.l] at h8
     have h9:=x.b.len
     omega)).2
   ·show (dx root n B)[0]?=some false
    unfold dx
    rw [List.getElem?_set,if_neg (by omega)]
    exact x.r0
 rw [if_neg k4]
 by_cases k5:kd=5
 ·subst k5
  rw [if_pos rfl]
  refine ⟨?_,fun c=>absurd c (by decide)⟩
  obtain ⟨n,rfl,hn1,hn2,hn⟩:=((aW.four (.inr rfl)).1 hh).ok x
  simp only [Int.toNat_natCast]
  split
  ·exact same
  ·obtain ⟨g1,b1⟩:=x.g.EK x.b hk hf hn
   exact ⟨g1,b1,x.l.trans (eO h n).1.symm,(eO h n).2.trans x.o,x.r0,.inl rfl⟩
 rw [if_neg k5]
 by_cases k6:kd=6
 ·subst k6
  rw [if_pos rfl]
  refine ⟨?_,fun c=>absurd c (by decide)⟩
  split
  ·exact same
  ·have cl:=x.g.Ga (u:=A)
   exact ⟨x.g.step,(x.b.cl cl).up,x.l.trans cl.len.symm,cl.rt.trans x.o,x.r0,.inl rfl⟩
 rw [if_neg k6]
 by_cases k7:kd=7
 ·subst k7
  rw [if_pos rfl]
  refine ⟨?_,fun c=>absurd c (by decide)⟩
  have cl:=x.g.G6
  exact ⟨x.g.full,(x.b.cl cl).up,x.l.trans cl.len.symm,cl.rt.trans x.o,x.r0,.inl rfl⟩
 rw [if_neg k7]
 by_cases k8:kd=8
 ·subst k8
  rw [if_pos rfl]
  obtain ⟨g1,b1⟩:=x.g.pop x.b.up hk hf
  refine ⟨⟨g1,b1,x.l,x.o,x.r0,.inl rfl⟩,fun _ hc=>?_⟩
  refine ⟨h.pending.getLast?.getD 0,rfl,?_⟩
  have hne:h.pending≠[]:=by
   intro e
   simp [e] at hc
  have hm:h.pending.getLast?.getD 0∈h.pending:=by
   rw [List.getLast?_eq_some_getLast hne]
   exact List.getLast_mem hne
  exact x.g.i.ls _ (.inr (.inl hm))
 rw [if_neg k8]
 split
 ·rename_i k9;exact ⟨same,fun c=>absurd c k8⟩
 ·exact ⟨same,fun c=>absurd c k8⟩
theorem zw {h:Hp} {L:SM} {root:List Bool} (x:RW base S h L R hand rv root w) (ok:FK k h root hand0) (hk:k+1<=5000) (hf:h.freed=[]) (kd A B C:Int) (hh:aW h hand0 kd A B C):
 Calls Tryz.prog 34 #[.pointer (some ⟨R,0,none⟩),.agg #[.int .i64 kd,.int .i64 A,.int .i64 B,.int .i64 C]] w (dS base S R hand rv w (eD h root kd A B C).code (eD h root kd A B C).id (eD h root kd A B C).h (eD h root kd A B C).root):=by
 unfold eD
 by_cases k1:kd=1
 ·subst k1
  rw [if_pos rfl]
  have:=C_ x ok.g ok.b hk hf A B C A.toNat (fun hA=>by omega)
  split
  ·rename_i c;simpa [if_pos c] using this
  ·rename_i c;simpa [if_neg c] using this
 rw [if_neg k1]
 by_cases k2:kd=2
 ·subst k2
  rw [if_pos rfl]
  obtain ⟨a1,a2⟩:=aW.two.1 hh
  obtain ⟨n,rfl,_,_,o,ho,-⟩:=a1.ok ok
  obtain ⟨c,rfl,hc⟩:=gL ok a2
  simp only [Int.toNat_natCast]
  exact Cx x ok.g ok.b ho B
 rw [if_neg k2]
 by_cases k3:kd=3
 ·subst k3
  rw [if_pos rfl]
  obtain ⟨a1,a3,a2⟩:=aW.three.1 hh
  obtain ⟨n,rfl,_,_,o,ho,-⟩:=a1.ok ok
  obtain ⟨m,rfl,hm⟩:=gL ok (.inr a3)
  obtain ⟨c,rfl,hc⟩:=gL ok a2
  simp only [Int.toNat_natCast]
  exact Dh x ok.g ok.b ho
 rw [if_neg k3]
 by_cases k4:kd=4
 ·subst k4
  rw [if_pos rfl]
  obtain ⟨n,rfl,hn1,hn2,-⟩:=((aW.four (.inl rfl)).1 hh).ok ok
  simp only [Int.toNat_natCast]
  have:=Dj x ok.g.s.len hn1 hn2 B C
  split
  ·rename_i c;simpa only [if_pos c] using this
  ·rename_i c;simpa only [if_neg c] using this
 rw [if_neg k4]
 by_cases k5:kd=5
 ·subst k5
  rw [if_pos rfl]
  obtain ⟨n,rfl,hn1,hn2,o,ho,-⟩:=((aW.four (.inr rfl)).1 hh).ok ok
  simp only [Int.toNat_natCast]
  have:=CY x ok.g ho B C
  have hfn:rZ h n=o.fin:=by unfold rZ;rw [ho]
  rw [hfn]
  split
  ·rename_i c;simpa only [if_pos c] using this
  ·rename_i c;simpa only [if_neg c] using this
 rw [if_neg k5]
 by_cases k6:kd=6
 ·subst k6
  rw [if_pos rfl]
  have:=Dm x ok.g A B C
  split
  ·rename_i c;simpa only [if_pos c] using this
  ·rename_i c;simpa only [if_neg c] using this
 rw [if_neg k6]
 by_cases k7:kd=7
 ·subst k7
  rw [if_pos rfl]
  exact Da x ok.g A B C
 rw [if_neg k7]
 by_cases k8:kd=8
 ·subst k8
  rw [if_pos rfl]
  exact CO x ok.g A B C
 rw [if_neg k8]
 by_cases k9:kd=9
 ·subst k9
  rw [if_pos rfl]
  exact Dl x A B C
 rw [if_neg k9]
 exact Bt x kd A B C (by omega)
end
set_option maxHeartbeats 6400000
set_option maxRecDepth 100000
section
variable {F H R base hand k:Nat} {L L':PM} {S S':Nat->Prop} {h h':Hp} {o:Ob} {root sn:List Bool} {v:Value} {w w' w1:World}
attribute [local go_sem] bD
theorem PS.mono {base:Nat} {S S':Nat->Prop} {h:Hp} {L:PM} {w:World} (p:PS base S h L w) (hs:∀ b,S b->S' b):PS base S' h L w:=by
 obtain ⟨x,y,G,a,r⟩:=p
 exact ⟨x,y,G,a.mono hs,r⟩
theorem PS.hole (p:PS base S h L w) (hb:Below w.heap.size w w1) (h1:w.heap.size<=F) (h2:F<w1.heap.size):PS base (fun b=>S b/\b≠F) h L w1:=by
 obtain ⟨x,y,G,a,r⟩:=p
 have z:=a.low hb
 refine ⟨x,y,G,⟨z.hp,z.ob,z.en,z.mp,z.li,z.ij,z.ei,z.mi,z.lj,z.bH,z.bt,z.bm,z.bs,⟨a.sH,?_⟩,fun n o e=>⟨a.st n o e,?_⟩,fun n o g e hg=>⟨a.se n o g e hg,?_⟩,fun n o g e hg=>⟨a.sm n o g e hg,?_⟩,fun k g hk hg=>⟨a.sl k g hk hg,?_⟩,fun b hb'=>⟨z.up b hb',by omega⟩⟩,r⟩
 ·have:=a.hp.lt;omega
 ·have:=(a.ob n o e).lt;omega
 ·have:=(au (a.en n o e) hg).lt;omega
 ·have:=(a.mp n o e).lt hg;omega
 ·have:=(au (a.li k hk) hg).lt;omega
structure PW (base:Nat) (S:Nat->Prop) (h:Hp) (L:PM) (R hand:Nat) (w:World):Prop where
 p:PS base S h L w
 r:aD w 69 R 2 (Cr L.H (aG L.tb (cu hand)))
 n:¬ S R
theorem PW.low {base:Nat} {S:Nat->Prop} {h:Hp} {L:PM} {R hand:Nat} {w w':World} (x:PW base S h L R hand w) (hb:Below w.heap.size w w'):PW base S h L R hand w':=⟨x.p.low hb,x.r.keep (Keeps.of hb (Nat.le_refl _) (fun _=>False)) id,x.n⟩
theorem PW.hole {base:Nat} {S:Nat->Prop} {h:Hp} {L:PM} {R hand:Nat} {w w1:World} (x:PW base S h L R hand w) (hb:Below w.heap.size w w1) {F:Nat} (h1:w.heap.size<=F) (h2:F<w1.heap.size):PW base (fun b=>S b/\b≠F) h L R hand w1:=⟨x.p.hole hb h1 h2,(x.low hb).r,fun e=>x.n e.1⟩
def gG (base:Nat) (S:Nat->Prop) (H:Nat) (w:World) (v:Value) (h':Hp) (e:Ending) (w':World):Prop:=e=.returned v/\∃ L',L'.H=H/\PS base S h' L' w'/\Keeps w w' S
theorem gG.mk' (hb:Below w.heap.size w w1) (hS:∀ b,S' b->S b) (hH:L'.H=H) (p:PS base S' h' L' w') (k:Keeps w1 w' S'):gG base S H w v h' (.returned v) w':=
 ⟨rfl,L',hH,p.mono hS,(Keeps.of hb (Nat.le_refl _) S).trans (k.mono hS)⟩
theorem gG.same (p:PS base S h L w) (hb:Below w.heap.size w w'):gG base S L.H w v h (.returned v) w':=⟨rfl,L,rfl,p.low hb,Keeps.of hb (Nat.le_refl _) S⟩
theorem jM (hl:sn.length=h.objs.length) (hs:∀ n:Nat,1<=n->(sn[n]?=some true↔(n=hand∨h.Reach n))) (z:Int):fZ sn z=true↔dH h hand z:=by
 constructor
 ·intro c
  obtain ⟨n,h1,h2,h3,h4⟩:=g_ c
  exact ⟨n,h1,h2,by omega,(hs n h2).1 h4⟩
 ·rintro ⟨n,rfl,h2,h3,h4⟩
  exact wD h2 ((hs n h2).2 h4)
theorem lH (x:PW base S h L R hand w) (g:Gd h) (A:Int):
 Calls Tryz.prog 53 #[.pointer (some ⟨R,0,none⟩),.int .i64 A] w (gG base S L.H w (.int .i64 (if A<1∨1000000<A then 2 else 0)) (if A<1∨1000000<A then h else Hp.step A h)):=by
 have HW:=ah (dY w A 1 1000000)
 have r0:w.cell? ⟨R,0,none⟩=some (.pointer (some ⟨L.H,0,none⟩)):=x.r.cell (j:=0) (by omega)
 by_cases hA:A<1∨1000000<A
 ·rw [if_pos hA,if_pos hA]
  rw [show (decide ((1:Int)<=A)&&decide (A<=1000000))=false by simp;omega] at HW
  have HP:=ah x.p
  clear x hA
  go_enter Tryz.func53,Tryz.ntmps53
  go_wp2_with fail
  refine HW.o.mono ?_
  rintro e2 w2 ⟨rfl,rfl⟩
  go_wp2
  go_ret
  exact gG.same HP.o (Below.refl _ _)
 ·rw [if_neg hA,if_neg hA]
  rw [show (decide ((1:Int)<=A)&&decide (A<=1000000))=true by simp;omega] at HW
  have HS:=ah (j4 x.p g A (by omega))
  clear x hA
  go_enter Tryz.func53,Tryz.ntmps53
  go_wp2_with fail
  refine HW.o.mono ?_
  rintro e2 w2 ⟨rfl,rfl⟩
  go_wp2_with fail
  refine HS.o.mono ?_
  rintro e3 w3 ⟨rfl,L3,hl3,hp3,hk3⟩
  have H3:=ah (And.intro hl3 (And.intro hp3 hk3))
  clear hl3 hp3 hk3
  go_wp2
  go_ret
  exact ⟨rfl,L3,H3.o.1.H,H3.o.2.1,H3.o.2.2⟩
theorem FK.put (x:FK k h root hand) (hk:k<=5000) (b:Ja h) {n:Nat} (ho:h.ob n=some o) (hn:h.Ok n) {q:HV} (h1:mD q) (h2:q.isSome=true) (h3:fO h q):GY h o q:=by
 obtain ⟨o',ho',nd⟩:=hn
 rw [ho] at ho';cases ho'
 have e1:=x.g.n.es ho
 have e2:=x.b.JQ
 have e3:=x.b.cr
 have e4:=x.b.na
 refine ⟨h1,h2,h3,by omega,fun e he m hm=>?_,b.k n o ho,by omega,by omega,by omega,by omega⟩
 exact Hp.ES (x.g.i.nc n o ho nd e he m (List.mem_append_left _ (by rw [hm];simp [bn])))
theorem zC {n:Nat} (hl:h.objs.length<=5001) (hn:n<h.objs.length):mD (cu n):=by
 unfold cu
 split
 ·trivial
 ·show n<=1000000
  omega
theorem zY {n:Nat} (hn:n=0∨h.Lv n):fO h (cu n):=by
 intro m hm
 unfold cu at hm
 split at hm
 ·cases hm
 ·rename_i c
  simp at hm
  subst hm
  exact hn.resolve_left c
end
section
variable {L:PM} {R base hand k:Nat} {S:Nat->Prop} {h:Hp} {root:List Bool} {w:World}
attribute [local go_sem] bD
theorem zP {a b:Bool} (h:(a||b)=true):a=true∨b=true:=by cases a<;>simp_all
theorem nC (x:PW base S h L R hand w) (ok:FK k h root hand) (hk:k<=5000) (b:Ja h) (A B C:Int) (hB: -9223372036854775808<=B/\B<=9223372036854775807) (code:Int) (h':Hp) (hyes:dH h hand A/\(C=0∨dH h hand C)->code=0/\h'=h.put A.toNat (some (.inl B)) (cu C.toNat)) (hno:¬ (dH h hand A/\(C=0∨dH h hand C))->code=3/\h'=h):
 Calls Tryz.prog 49 #[.pointer (some ⟨R,0,none⟩),.int .i64 A,.int .i64 B,.int .i64 C] w (gG base S L.H w (.int .i64 code) h'):=by
 have HYES:=ah hyes
 have HNO:=ah hno
 clear hyes hno
 have HD:=ah (iU x.p ok.g ok.g.s.len x.r ok.hd ok.g.s.rt)
 have HX:=ah x
 have HOK:=ah ok
 have HBN:=ah b
 have hl9:=ok.g.s.len
 have sJ:=ok.g.i.ps
 clear x ok b
 go_enter Tryz.func49,Tryz.ntmps49
 go_wp2_with fail
 refine HD.o.mono ?_
 rintro e1 w1 ⟨F,sn,rfl,hsl,hrF,hF1,hsn,hb1⟩
 have HRF:=ah hrF
 have HB1:=ah hb1
 have hN:sn.length<=1000000:=by omega
 have h1s:1<=sn.length:=by omega
 have HIF:=ah (jM hsl hsn)
 have HSN:=ah hsn
 have HW1:=ah (HX.o.hole hb1 hF1 hrF.lt)
 have hFl:=hrF.lt
 have HSL:=ah hsl
 clear hrF hb1 hsn HD hsl
 have HH:=ah (gB HRF.o h1s hN A)
 have HV:=ah (mM HRF.o h1s hN C)
 cases hA:fZ sn A with
 |false=>
  rw [hA] at HH
  have hn:¬ (dH h hand A/\(C=0∨dH h hand C)):=fun c=>by rw [(HIF.o A).2 c.1] at hA;cases hA
  obtain ⟨rfl,rfl⟩:=HNO.o hn
  clear hA hn HNO HYES
  go_wp2_with fail
  refine HH.o.mono ?_
  rintro e2 w2 ⟨rfl,rfl⟩
  go_wp2
  go_ret
  exact gG.same HX.o.p HB1.o
 |true=>
  rw [hA] at HH
  cases hC:(C==0||fZ sn C) with
  |false=>
   rw [hC] at HV
   have hn:¬ (dH h hand A/\(C=0∨dH h hand C)):=fun c=>by
    rcases c.2 with c|c
    ·rw [c] at hC;simp at hC
    ·rw [(HIF.o C).2 c] at hC;simp at hC
   obtain ⟨rfl,rfl⟩:=HNO.o hn
   clear hA hC hn HNO HYES
   go_wp2_with fail
   refine HH.o.mono ?_
   rintro e2 w2 ⟨rfl,rfl⟩
   go_wp2_with fail
   refine HV.out.mono ?_
   rintro e3 w3 ⟨rfl,rfl⟩
   go_wp2
   go_ret
   exact gG.same HX.o.p HB1.o
  |true=>
   rw [hC] at HV
   obtain ⟨n,rfl,hn1,hn2,hn3⟩:=g_ hA
   have hcd:dH h hand (n:Int)/\(C=0∨dH h hand C):=⟨(HIF.o _).1 hA,by
    rcases zP hC with c|c
    ·exact .inl (by simpa using c)
    ·exact .inr ((HIF.o C).1 c)⟩
   obtain ⟨rfl,rfl⟩:=HYES.o hcd
   clear HNO HYES
   obtain ⟨n',hn',-,hnl,hnok⟩:=hcd.1.ok HOK.o
   obtain rfl:n'=n:=by omega
   obtain ⟨o,ho,-⟩:=id hnok
   obtain ⟨c,rfl,hc0⟩:∃ c:Nat,C=(c:Int)/\(c=0∨sn[c]?=some true):=by
    rcases zP hC with d|d
    ·exact ⟨0,by simpa using d,.inl rfl⟩
    ·obtain ⟨m,d1,d2,d3,d4⟩:=g_ d
     exact ⟨m,d1,.inr d4⟩
   have HPO:=ah (HOK.o.put hk HBN.o ho hnok (q:=some (.inl B)) hB rfl (fun m hm=>by cases hm))
   have r0:w1.cell? ⟨R,0,none⟩=some (.pointer (some ⟨L.H,0,none⟩)):=HW1.o.r.cell (j:=0) (by omega)
   have hRl:=HW1.o.r.lt
   have fn:=HRF.o.cell (j:=n') hn2
   rw [lU hn3] at fn
   have hni:(n':Int)<(sn.length:Int):=by omega
   have HC0:=ah hc0
   have HHO:=ah ho
   clear hA hC hcd hc0 hn3 hnok ho
   go_wp2_with fail
   refine HH.o.mono ?_
   rintro e2 w2 ⟨rfl,rfl⟩
   go_wp2_with fail
   refine HV.out.mono ?_
   rintro e3 w3 ⟨rfl,rfl⟩
   go_wp2_with fail
   go_region_held3 (fun w'=>w'.cell? ⟨R,0,none⟩=some (.pointer (some ⟨L.H,0,none⟩))/\w'.cell? ⟨F,n',none⟩=some (.pointer (some ⟨L.tb n',0,none⟩))) (go_keep)
    (first
      |(go_at_call 74
        refine (rC _ L.tb B).mono ?_
        rintro e4 w4 ⟨rfl,hb4x⟩
        have hb4:Below w3.heap.size w3 w4:=(ay (Below.refl w3.heap.size w3) _).trans hb4x
        have HB4:=ah hb4
        have t0:=(hb4.cell (p:=⟨R,0,none⟩) hRl).trans r0
        have t1:=(hb4.cell (p:=⟨F,n',none⟩) hFl).trans fn
        clear hb4 hb4x)
      |(go_at_call 75
        refine (jX (HRF.o.keep (Keeps.of HB4.o (Nat.le_refl _) (fun _=>False)) id) c HC0.o hN).mono ?_
        rintro e5 w5 ⟨rfl,hb5⟩
        have HB5:=ah (HB4.o.trans (hb5.mono HB4.o.size))
        have u0:=(hb5.cell (p:=⟨R,0,none⟩) (Nat.lt_of_lt_of_le hRl HB4.o.size)).trans t0
        have u1:=(hb5.cell (p:=⟨F,n',none⟩) (Nat.lt_of_lt_of_le hFl HB4.o.size)).trans t1
        clear hb5)
      |(go_at_call 73
        refine (mO (HW1.o.low HB5.o).p HHO.o HPO.o).mono ?_
        rintro e6 w6 ⟨rfl,L6,hl6,hp6,hk6⟩
        have H6:=ah (And.intro hl6 (And.intro hp6 ((Keeps.of HB5.o (Nat.le_refl _) (fun b=>S b/\b≠F)).trans hk6)))
        have v0:=((HW1.o.r.keep (Keeps.of HB5.o (Nat.le_refl _) (fun _=>False)) id).keep hk6 (fun e=>HW1.o.n e)).cell (j:=0) (by omega)
        have v1:=((HRF.o.keep (Keeps.of HB5.o (Nat.le_refl _) (fun _=>False)) id).keep hk6 (fun e=>e.2 rfl)).cell (j:=n') hn2
        have v0':w6.cell? ⟨R,0,none⟩=some (.pointer (some ⟨L.H,0,none⟩)):=v0
        have v1':w6.cell? ⟨F,n',none⟩=some (.pointer (some ⟨L.tb n',0,none⟩)):=v1.trans (u1.symm.trans u1 ▸ (by rw [<-(((HRF.o.keep (Keeps.of HB5.o (Nat.le_refl _) (fun _=>False)) id).cell (j:=n') hn2)),u1]))
        clear hl6 hp6 hk6 v0 v1))
   clear r0 fn t0 t1 u0 u1 v0' v1'
   go_wp2
   go_ret
   exact gG.mk' HB1.o (fun b e=>e.1) H6.o.1.H H6.o.2.1 H6.o.2.2
theorem mV (x:PW base S h L R hand w) (ok:FK k h root hand) (hk:k<=5000) (b:Ja h) (A B C:Int) (code:Int) (h':Hp) (hyes:dH h hand A/\dH h hand B/\(C=0∨dH h hand C)->code=0/\h'=h.put A.toNat (cu B.toNat) (cu C.toNat)) (hno:¬ (dH h hand A/\dH h hand B/\(C=0∨dH h hand C))->code=3/\h'=h):
 Calls Tryz.prog 50 #[.pointer (some ⟨R,0,none⟩),.int .i64 A,.int .i64 B,.int .i64 C] w (gG base S L.H w (.int .i64 code) h'):=by
 have HYES:=ah hyes
 have HNO:=ah hno
 clear hyes hno
 have HD:=ah (iU x.p ok.g ok.g.s.len x.r ok.hd ok.g.s.rt)
 have HX:=ah x
 have HOK:=ah ok
 have HBN:=ah b
 have hl9:=ok.g.s.len
 have sJ:=ok.g.i.ps
 clear x ok b
 go_enter Tryz.func50,Tryz.ntmps50
 go_wp2_with fail
 refine HD.o.mono ?_
 rintro e1 w1 ⟨F,sn,rfl,hsl,hrF,hF1,hsn,hb1⟩
 have HRF:=ah hrF
 have HB1:=ah hb1
 have hN:sn.length<=1000000:=by omega
 have h1s:1<=sn.length:=by omega
 have HIF:=ah (jM hsl hsn)
 have HSN:=ah hsn
 have HW1:=ah (HX.o.hole hb1 hF1 hrF.lt)
 have hFl:=hrF.lt
 have HSL:=ah hsl
 clear hrF hb1 hsn HD hsl
 have HH:=ah (gB HRF.o h1s hN A)
 have HH2:=ah (gB HRF.o h1s hN B)
 have HV:=ah (mM HRF.o h1s hN C)
 cases hA:fZ sn A with
 |false=>
  rw [hA] at HH
  obtain ⟨rfl,rfl⟩:=HNO.o (fun c=>by rw [(HIF.o A).2 c.1] at hA;cases hA)
  clear hA HNO HYES
  go_wp2_with fail
  refine HH.o.mono ?_
  rintro e2 w2 ⟨rfl,rfl⟩
  go_wp2
  go_ret
  exact gG.same HX.o.p HB1.o
 |true=>
  rw [hA] at HH
  cases hB:fZ sn B with
  |false=>
   rw [hB] at HH2
   obtain ⟨rfl,rfl⟩:=HNO.o (fun c=>by rw [(HIF.o B).2 c.2.1] at hB;cases hB)
   clear hA hB HNO HYES
   go_wp2_with fail
   refine HH.o.mono ?_
   rintro e2 w2 ⟨rfl,rfl⟩
   go_wp2_with fail
   refine HH2.o.mono ?_
   rintro e3 w3 ⟨rfl,rfl⟩
   go_wp2
   go_ret
   exact gG.same HX.o.p HB1.o
  |true=>
   rw [hB] at HH2
   cases hC:(C==0||fZ sn C) with
   |false=>
    rw [hC] at HV
    obtain ⟨rfl,rfl⟩:=HNO.o (fun c=>by
     rcases c.2.2 with c|c
     ·rw [c] at hC;simp at hC
     ·rw [(HIF.o C).2 c] at hC;simp at hC)
    clear hA hB hC HNO HYES
    go_wp2_with fail
    refine HH.o.mono ?_
    rintro e2 w2 ⟨rfl,rfl⟩
    go_wp2_with fail
    refine HH2.o.mono ?_
    rintro e3 w3 ⟨rfl,rfl⟩
    go_wp2_with fail
    refine HV.out.mono ?_
    rintro e4 w4 ⟨rfl,rfl⟩
    go_wp2
    go_ret
    exact gG.same HX.o.p HB1.o
   |true=>
    rw [hC] at HV
    obtain ⟨n,rfl,hn1,hn2,hn3⟩:=g_ hA
    obtain ⟨m,rfl,hm1,hm2,hm3⟩:=g_ hB
    have hcd:dH h hand (n:Int)/\dH h hand (m:Int)/\(C=0∨dH h hand C):=⟨(HIF.o _).1 hA,(HIF.o _).1 hB,by
     rcases zP hC with c|c
     ·exact .inl (by simpa using c)
     ·exact .inr ((HIF.o C).1 c)⟩
    obtain ⟨rfl,rfl⟩:=HYES.o hcd
    clear HNO HYES
    obtain ⟨n',hn',-,hnl,hnok⟩:=hcd.1.ok HOK.o
    obtain rfl:n'=n:=by omega
    obtain ⟨o,ho,-⟩:=id hnok
    obtain ⟨m',hm',-,hml,hmok⟩:=hcd.2.1.ok HOK.o
    obtain rfl:m'=m:=by omega
    obtain ⟨c,rfl,hc0⟩:∃ c:Nat,C=(c:Int)/\(c=0∨sn[c]?=some true):=by
     rcases zP hC with d|d
     ·exact ⟨0,by simpa using d,.inl rfl⟩
     ·obtain ⟨q,d1,d2,d3,d4⟩:=g_ d
      exact ⟨q,d1,.inr d4⟩
    have HPO:=ah (HOK.o.put hk HBN.o ho hnok (q:=cu m') (zC hl9 hml) (by rw [iJ (by omega)];rfl) (zY (.inr (Hp.ES hmok))))
    have r0:w1.cell? ⟨R,0,none⟩=some (.pointer (some ⟨L.H,0,none⟩)):=HW1.o.r.cell (j:=0) (by omega)
    have hRl:=HW1.o.r.lt
    have fn:=HRF.o.cell (j:=n') hn2
    rw [lU hn3] at fn
    have hni:(n':Int)<(sn.length:Int):=by omega
    have HC0:=ah hc0
    have HM0:=ah hm3
    have HHO:=ah ho
    clear hA hB hC hcd hc0 hn3 hm3 hnok ho hmok
    go_wp2_with fail
    refine HH.o.mono ?_
    rintro e2 w2 ⟨rfl,rfl⟩
    go_wp2_with fail
    refine HH2.o.mono ?_
    rintro e3 w3 ⟨rfl,rfl⟩
    go_wp2_with fail
    refine HV.out.mono ?_
    rintro e4 w4 ⟨rfl,rfl⟩
    go_wp2_with fail
    go_region_held3 (fun w'=>w'.cell? ⟨R,0,none⟩=some (.pointer (some ⟨L.H,0,none⟩))/\w'.cell? ⟨F,n',none⟩=some (.pointer (some ⟨L.tb n',0,none⟩))) (go_keep)
     (first
       |(have _z:=HB6
         go_at_call 73
         refine (mO (HW1.o.low HB6.o).p HHO.o HPO.o).mono ?_
         rintro e7 w7 ⟨rfl,L7,hl7,hp7,hk7⟩
         have H7:=ah (And.intro hl7 (And.intro hp7 ((Keeps.of HB6.o (Nat.le_refl _) (fun b=>S b/\b≠F)).trans hk7)))
         have v0':w7.cell? ⟨R,0,none⟩=some (.pointer (some ⟨L.H,0,none⟩)):=((HW1.o.r.keep (Keeps.of HB6.o (Nat.le_refl _) (fun _=>False)) id).keep hk7 (fun e=>HW1.o.n e)).cell (j:=0) (by omega)
         have v1':w7.cell? ⟨F,n',none⟩=some (.pointer (some ⟨L.tb n',0,none⟩)):=(World.cell?_of_block (a:=⟨F,n',none⟩) (hk7.block F (Nat.lt_of_lt_of_le hFl HB6.o.size) (fun e=>e.2 rfl))).trans u1
         clear hl7 hp7 hk7)
       |(have _z:=HB5
         go_at_call 75
         refine (jX (HRF.o.keep (Keeps.of HB5.o (Nat.le_refl _) (fun _=>False)) id) c HC0.o hN).mono ?_
         rintro e6 w6 ⟨rfl,hb6⟩
         have HB6:=ah (HB5.o.trans (hb6.mono HB5.o.size))
         have u0:=(hb6.cell (p:=⟨R,0,none⟩) (Nat.lt_of_lt_of_le hRl HB5.o.size)).trans t0
         have u1:=(hb6.cell (p:=⟨F,n',none⟩) (Nat.lt_of_lt_of_le hFl HB5.o.size)).trans t1
         clear hb6)
       |(go_at_call 75
         refine (jX (HRF.o.keep (Keeps.of (ay (Below.refl w4.heap.size w4) _) (Nat.le_refl _) (fun _=>False)) id) m' (.inr HM0.o) hN).mono ?_
         rintro e5 w5 ⟨rfl,hb5x⟩
         have hb5:Below w4.heap.size w4 w5:=(ay (Below.refl w4.heap.size w4) _).trans hb5x
         have HB5:=ah hb5
         have t0:=(hb5.cell (p:=⟨R,0,none⟩) hRl).trans r0
         have t1:=(hb5.cell (p:=⟨F,n',none⟩) hFl).trans fn
         clear hb5 hb5x))
    clear r0 fn t0 t1 u0 u1 v0' v1'
    go_wp2
    go_ret
    exact gG.mk' HB1.o (fun b e=>e.1) H7.o.1.H H7.o.2.1 H7.o.2.2
theorem j_ (x:PW base S h L R hand w) (ok:FK k h root hand) (hk:k<=5000) (b:Ja h) (A:Int) (code:Int) (h':Hp) (hyes:dH h hand A->rZ h A.toNat=false->code=0/\h'=h.EK A.toNat) (hfin:dH h hand A->rZ h A.toNat=true->code=4/\h'=h) (hno:¬ dH h hand A->code=3/\h'=h):
 Calls Tryz.prog 52 #[.pointer (some ⟨R,0,none⟩),.int .i64 A] w (gG base S L.H w (.int .i64 code) h'):=by
 have HYES:=ah hyes
 have HFIN:=ah hfin
 have HNO:=ah hno
 clear hyes hno hfin
 have HD:=ah (iU x.p ok.g ok.g.s.len x.r ok.hd ok.g.s.rt)
 have HX:=ah x
 have HOK:=ah ok
 have HBN:=ah b
 have hl9:=ok.g.s.len
 have sJ:=ok.g.i.ps
 clear x ok b
 go_enter Tryz.func52,Tryz.ntmps52
 go_wp2_with fail
 refine HD.o.mono ?_
 rintro e1 w1 ⟨F,sn,rfl,hsl,hrF,hF1,hsn,hb1⟩
 have HRF:=ah hrF
 have HB1:=ah hb1
 have hN:sn.length<=1000000:=by omega
 have h1s:1<=sn.length:=by omega
 have HIF:=ah (jM hsl hsn)
 have HSN:=ah hsn
 have HW1:=ah (HX.o.hole hb1 hF1 hrF.lt)
 have hFl:=hrF.lt
 have HSL:=ah hsl
 clear hrF hb1 hsn HD hsl
 have HH:=ah (gB HRF.o h1s hN A)
 cases hA:fZ sn A with
 |false=>
  rw [hA] at HH
  obtain ⟨rfl,rfl⟩:=HNO.o (fun c=>by rw [(HIF.o A).2 c] at hA;cases hA)
  clear hA HNO HYES HFIN
  go_wp2_with fail
  refine HH.o.mono ?_
  rintro e2 w2 ⟨rfl,rfl⟩
  go_wp2
  go_ret
  exact gG.same HX.o.p HB1.o
 |true=>
  rw [hA] at HH
  obtain ⟨n,rfl,hn1,hn2,hn3⟩:=g_ hA
  have hcd:=(HIF.o _).1 hA
  obtain ⟨n',hn',-,hnl,hnok⟩:=hcd.ok HOK.o
  obtain rfl:n'=n:=by omega
  obtain ⟨o,ho,-⟩:=id hnok
  have hfe:rZ h (n':Int).toNat=o.fin:=by rw [Int.toNat_natCast];unfold rZ;rw [ho]
  have r0:w1.cell? ⟨R,0,none⟩=some (.pointer (some ⟨L.H,0,none⟩)):=HW1.o.r.cell (j:=0) (by omega)
  have hRl:=HW1.o.r.lt
  have fn:=HRF.o.cell (j:=n') hn2
  rw [lU hn3] at fn
  have hni:(n':Int)<(sn.length:Int):=by omega
  obtain ⟨_,_,_,aP,_⟩:=id HW1.o.p
  have t4:w1.cell? ⟨L.tb n',4,none⟩=some (.bool o.fin):=(aP.ob n' o ho).cell (j:=4) (by omega)
  clear aP
  cases hf:o.fin with
  |true=>
   rw [hf] at t4 hfe
   obtain ⟨rfl,rfl⟩:=HFIN.o hcd hfe
   clear hA HNO HYES HFIN hcd hnok ho hf hfe hn3
   go_wp2_with fail
   refine HH.o.mono ?_
   rintro e2 w2 ⟨rfl,rfl⟩
   go_wp2
   go_ret
   exact gG.same HX.o.p HB1.o
  |false=>
   rw [hf] at t4 hfe
   obtain ⟨rfl,rfl⟩:=HYES.o hcd hfe
   have HFL:Hq (h.finals.length<=20000):=ah (by have:=HOK.o.b.fp;omega)
   have HHO:=ah ho
   have hH':Hq ((n':Int).toNat=n'):=ah (Int.toNat_natCast n')
   rw [hH'.out]
   clear hA HNO HYES HFIN hcd hnok ho hf hfe hn3
   go_wp2_with fail
   refine HH.o.mono ?_
   rintro e2 w2 ⟨rfl,rfl⟩
   go_wp2_with fail
   go_region_held3 (fun w'=>w'.cell? ⟨R,0,none⟩=some (.pointer (some ⟨L.H,0,none⟩))/\w'.cell? ⟨F,n',none⟩=some (.pointer (some ⟨L.tb n',0,none⟩))) (go_keep)
    (first
      |(go_at_call 80
        refine (rz (HW1.o.low (ay (Below.refl _ _) _)).p HHO.o HFL.o).mono ?_
        rintro e7 w7 ⟨rfl,L7,hl7,hp7,hk7⟩
        have hbd:=ay (Below.refl w2.heap.size w2) 1
        have H7:=ah (And.intro hl7 (And.intro hp7 ((Keeps.of (ay (Below.refl w2.heap.size w2) _) (Nat.le_refl _) (fun b=>S b/\b≠F)).trans hk7)))
        have v0':w7.cell? ⟨R,0,none⟩=some (.pointer (some ⟨L.H,0,none⟩)):=(World.cell?_of_block (a:=⟨R,0,none⟩) (hk7.block R hRl (fun e=>HW1.o.n e))).trans r0
        have v1':w7.cell? ⟨F,n',none⟩=some (.pointer (some ⟨L.tb n',0,none⟩)):=(World.cell?_of_block (a:=⟨F,n',none⟩) (hk7.block F hFl (fun e=>e.2 rfl))).trans fn
        clear hl7 hp7 hk7))
   clear r0 fn t4 v0' v1'
   go_wp2
   go_ret
   exact gG.mk' HB1.o (fun b e=>e.1) H7.o.1.H H7.o.2.1 H7.o.2.2
end
section
variable {A C kd:Int} {R base g k:Nat} {S:Nat->Prop} {f:Nat->Value} {rv:Value} {w:World}
structure An where
 code:Int
 id:Int
 live:Int
 bytes:Int
 state:Int
 pend:Int
 freed:List Nat
def An.no (c:Int):An:=⟨c,0,0,0,0,0,[]⟩
structure Rn where
 h:Hp
 root:List Bool
 hand:Nat
def Rn.Ok (k:Nat) (r:Rn):Prop:=FK k r.h r.root r.hand
open Classical in
noncomputable def dI (r:Rn) (kd A B C:Int):An × Rn:=
 if aW r.h r.hand kd A B C then
  (let m:=eD r.h.forget r.root kd A B C
   if m.code≠0 then (An.no m.code,⟨m.h,m.root,0⟩)
   else (⟨0,m.id,(m.h.live:Int),(m.h.bytes:Int),(m.h.state:Int),(m.h.pending.length:Int),m.h.freed⟩,⟨m.h,m.root,if kd=8 then m.id.toNat else 0⟩))
 else (An.no 3,⟨r.h,r.root,0⟩)
theorem cZ {h:Hp} {hand:Nat} {B:Int}:aW h.forget hand kd A B C↔aW h hand kd A B C:=Iff.rfl
theorem FK.forget {k:Nat} {h:Hp} {root:List Bool} {hand:Nat} (x:FK k h root hand) (hk:k<=5000):FK k h.forget root hand:=by
 obtain ⟨g1,b1⟩:=x.g.forget x.b hk
 exact ⟨g1,b1,x.l,x.o,x.r0,x.hd⟩
theorem zL {r:Rn} (x:r.Ok k) (hk:k+1<=5000) (kd A B C:Int):(dI r kd A B C).2.Ok (k+1):=by
 unfold dI
 split
 ·rename_i hh
  obtain ⟨h1,h2⟩:=rJ (x.forget (by omega)) hk rfl (cZ.2 hh)
  simp only
  split
  ·exact h1
  ·rename_i hc
   refine ⟨h1.g,h1.b,h1.l,h1.o,h1.r0,?_⟩
   by_cases k8:kd=8
   ·obtain ⟨n,e,hn⟩:=h2 k8 (by simpa using hc)
    right
    show Hp.Ok _ (if kd=8 then _ else 0)
    rw [if_pos k8,e,Int.toNat_natCast]
    exact hn
   ·left
    show (if kd=8 then _ else 0)=0
    rw [if_neg k8]
 ·exact ⟨x.g,x.b.up,x.l,x.o,x.r0,.inl rfl⟩
theorem RW.Hf {h:Hp} {L:SM} {hand:Nat} {root:List Bool} (x:RW base S h L R hand rv root w) (n:Nat):RW base S h L R n rv root (w.setCell ⟨R,2,none⟩ (.int .i64 (n:Int)))/\Keeps w (w.setCell ⟨R,2,none⟩ (.int .i64 (n:Int))) (fun b=>b=R):=by
 have k1:Keeps w (w.setCell ⟨R,2,none⟩ (.int .i64 (n:Int))) (fun b=>b=R):=Keeps.setCell (S:=fun b=>b=R) (Keeps.refl w _) rfl _
 refine ⟨⟨⟨x.x.a.out (k1.mono (fun b e=>e ▸ x.nR)),?_,aj x.x.v k1 (fun g hg e=>ak x.x.v x.x.r (by decide) (e ▸ hg)),x.x.l,x.x.o⟩,x.nR,x.nb,x.r0⟩,k1⟩
 refine (x.x.r.set (j:=2) (by omega) _).congr (fun j hj=>?_)
 have:j=0∨j=1∨j=2:=by omega
 rcases this with rfl|rfl|rfl<;>rfl
theorem RW.forget {base:Nat} {S:Nat->Prop} {h:Hp} {L:SM} {R hand:Nat} {rv:Value} {root:List Bool} {w:World} (x:RW base S h L R hand rv root w):∃ L',L'.H=L.H/\RW base S h.forget L' R hand rv root (w.setCell ⟨L.H,15,none⟩ (.slice none 0 0))/\Keeps w (w.setCell ⟨L.H,15,none⟩ (.slice none 0 0)) S:=by
 obtain ⟨-,p2,p3⟩:=x.x.a.Gm (w1:=w) 15 (by simp [cB]) (Keeps.refl w _) (.slice none 0 0) [] ⟨rfl,.inl ⟨rfl,rfl⟩⟩ (fun g e=>by simp [Value.ownBlock] at e)
 have e:bL h 15 []=h.forget:=rfl
 rw [e] at p2
 exact ⟨{ L with li:=fun j=>if j=15 then .slice none 0 0 else L.li j },rfl,x.heap p2 rfl p3 rfl rfl,p3⟩
theorem RW.less {base:Nat} {S:Nat->Prop} {h:Hp} {L:SM} {R hand:Nat} {rv:Value} {root:List Bool} {w:World} (x:RW base S h L R hand rv root w) (v:Value) (hv:∀ g,v.ownBlock=some g->Free h L g/\g<w.heap.size):RW base (fun b=>S b/\v.ownBlock≠some b) h L R hand rv root w:=
 ⟨⟨x.x.a.less v hv,x.x.r,x.x.v,x.x.l,x.x.o⟩,fun e=>x.nR e.1,fun g hg e=>x.nb g hg e.1,x.r0⟩
def kI (a:An) (fv:Value):List Value:=[.int .i64 a.code,.int .i64 a.id,.int .i64 a.live,.int .i64 a.bytes,.int .i64 a.state,.int .i64 a.pend,fv]
def Cv (base:Nat) (S:Nat->Prop) (R:Nat) (rv:Value) (w:World) (a:An) (r:Rn) (e:Ending) (w':World):Prop:=
 ∃ fv,e=.returned (.agg (kI a fv).toArray)/\w'.ownsRow w.heap.size 3 1 fv a.freed.length (bU a.freed)/\Keeps w w' (Zs S R rv)/\
   ∃ S' L' rv',RW base S' r.h L' R r.hand rv' r.root w'/\(∀ b,S' b->S b)/\(∀ g,rv'.ownBlock=some g->rv.ownBlock=some g∨S g)/\∀ g,fv.ownBlock=some g->¬ S' g
theorem Bv (wr:World):aD (wr.alloc (.cells #[.int .i64 0,.int .i64 0,.int .i64 0,.int .i64 0,.int .i64 0,.int .i64 0,.slice none 0 0] 36)) 36 wr.heap.size 7 (fun j=>(kI (An.no 0) (.slice none 0 0)).getD j (.bool false)):=by
 have h:=aD.mk' wr 36 #[.int .i64 0,.int .i64 0,.int .i64 0,.int .i64 0,.int .i64 0,.int .i64 0,.slice none 0 0]
 refine aD.congr (show aD _ _ _ 7 _ from h) (fun j hj=>?_)
 have:j=0∨j=1∨j=2∨j=3∨j=4∨j=5∨j=6:=by omega
 rcases this with rfl|rfl|rfl|rfl|rfl|rfl|rfl<;>rfl
def mI (w:World) (g:Nat) (x0 x1 x2 x3 x4 x5 x6:Value):World:=((((((w.setCell ⟨g,0,none⟩ x0).setCell ⟨g,1,none⟩ x1).setCell ⟨g,2,none⟩ x2).setCell ⟨g,3,none⟩ x3).setCell ⟨g,4,none⟩ x4).setCell ⟨g,5,none⟩ x5).setCell ⟨g,6,none⟩ x6
theorem eG (h:aD w 36 g 7 f) (x0 x1 x2 x3 x4 x5 x6:Value):aD (mI w g x0 x1 x2 x3 x4 x5 x6) 36 g 7 (fun j=>[x0,x1,x2,x3,x4,x5,x6].getD j (.bool false)):=by
 have h7:=((((((h.set (j:=0) (by omega) x0).set (j:=1) (by omega) x1).set (j:=2) (by omega) x2).set (j:=3) (by omega) x3).set (j:=4) (by omega) x4).set (j:=5) (by omega) x5).set (j:=6) (by omega) x6
 refine aD.congr h7 (fun j hj=>?_)
 have:j=0∨j=1∨j=2∨j=3∨j=4∨j=5∨j=6:=by omega
 rcases this with rfl|rfl|rfl|rfl|rfl|rfl|rfl<;>rfl
theorem dL (w:World) (g:Nat) (x0 x1 x2 x3 x4 x5 x6:Value):Keeps w (mI w g x0 x1 x2 x3 x4 x5 x6) (fun b=>b=g):=
 ((((((Keeps.setCell (S:=fun b=>b=g) (Keeps.refl w _) (g:=g) (j:=0) rfl x0).setCell (g:=g) (j:=1) rfl x1).setCell (g:=g) (j:=2) rfl x2).setCell (g:=g) (j:=3) rfl x3).setCell (g:=g) (j:=4) rfl x4).setCell (g:=g) (j:=5) rfl x5).setCell (g:=g) (j:=6) rfl x6
end
end Go.Proofs.YtedpifhlffcmkaaGreatDoor
namespace Go.Proofs.YtedpifhlffcmkaaGreatDoor
open Go.ChangeShapes Go.WideShapes Go.ChangeAt Go Go.RowKit Go.ChangeMaps Go.WideElems Go.Joins Go.Deep
set_option linter.unusedVariables false
section
variable {cap fuel n:Nat} {cs:List Value} {v:Value}
section
variable {H : Type} {enc : TypeId × Value → H} {P : Program} {w : World} {sp : Nat → Bool} {hd : Bool}
theorem wE {t e:TypeId} {sz:Nat} {a:Option Addr} {x:DataW H × List MemPlace} (ht:P.underlying t=some (.slice e)) (hc:P.cellsOf e=sz) (hsz:0<sz)
 (h:DataW.trod enc P w 0 sp hd fuel t [.slice a n cap]=some x):
 n<=maxLen/\(n=0∨∃ b o m,a=some ⟨b,o,none⟩/\b<w.heap.size/\n<=cap/\∀ i,i<n->∃ cs y,cs.length=sz/\(∀ j,j<sz->w.cell? ⟨b,o+(i*sz+j),none⟩=cs[j]?)/\DataW.trod enc P w 0 sp hd m e cs=some y):=by
 rcases open_slice ht h with ⟨h0,_⟩|⟨a',len,cap',m,q,D,Pl,h0,_,hlc,hcm,hm,_,hel⟩
 ·simp at h0
  obtain ⟨-,rfl,-⟩:=h0
  exact ⟨Nat.zero_le _,.inl rfl⟩
 ·simp at h0
  obtain ⟨rfl,rfl,rfl⟩:=h0
  refine ⟨by omega,?_⟩
  by_cases hn:n=0
  ·exact .inl hn
  right
  have hnm:n<=m:=by rw [hm];split<;>omega
  obtain ⟨b,o,s⟩:=a'
  obtain ⟨cs0,hc0,_⟩:=hel 0 (by omega)
  obtain ⟨_,l0,k0⟩:=World.cells?_some hc0
  have k1:=k0 0 (by omega)
  rw [Nat.zero_mul,List.getElem?_eq_getElem (by omega)] at k1
  have hs:s=none:=sK k1
  subst hs
  refine ⟨b,o,q,rfl,xV k1,hlc,fun i hi=>?_⟩
  obtain ⟨cs,hcs,htr⟩:=hel i (by omega)
  obtain ⟨_,l1,k2⟩:=World.cells?_some hcs
  refine ⟨cs,_,by omega,fun j hj=>?_,htr⟩
  have k3:=k2 j (by omega)
  rw [qA,qA,hc,Nat.add_assoc] at k3
  exact k3
theorem zW {fs:Array Field} {t:TypeId} {x:DataW H × List MemPlace} (ht:P.underlying t=some (.struct fs)) (h:DataW.trod enc P w 0 sp hd fuel t cs=some x) (j:Nat) (f:Field) (hf:fs[j]?=some f) (hc:P.cellsOf f.type=1) (ho:f.offset=j) (hv:cs[j]?=some v):
 ∃ n y,DataW.trod enc P w 0 sp hd n f.type [v]=some y:=by
 obtain ⟨xs,n,_,rfl,hl,hlen,hF⟩:=DataW.trod_struct ht h
 have hk:=hF j f hf
 rw [hc,ho] at hk
 have e:(cs.drop j).take 1=[v]:=by
  rw [List.getElem?_eq_some_iff] at hv
  obtain ⟨hj,rfl⟩:=hv
  rw [List.drop_eq_getElem_cons hj]
  rfl
 rw [e] at hk
 have hj:j<xs.length:=by
  rw [hlen]
  exact (Array.getElem?_eq_some_iff.1 hf).1
 rw [List.getElem?_eq_getElem hj] at hk
 exact ⟨n,_,hk⟩
end
end
end Go.Proofs.YtedpifhlffcmkaaGreatDoor
