import Derived.Test.YtlgodacccilabaaGreatDoorJQL
import Derived.Deep.RegionLaw
import Derived.Test.YtlgodacccilabaaGreatDoorPQ
import Derived.Test.YtlgodacccilabaaGreatDoorJQC
import Derived.RangeFuncNested
import Derived.RangeFuncBound
import Derived.RangeFuncCalls
import Derived.RangeFuncLeaves
import Derived.Shelf.Abstract
import Derived.Shelf.RegionOpen
import Derived.WalkKit
import Derived.OwnWalkIn
import Derived.TacticsInMore
import Derived.LoopNIn
import Derived.LoopIn
namespace Go.Proofs.YtlgodacccilabaaGreatDoor
open Go Go.RowKit
set_option linter.unusedVariables false
set_option maxHeartbeats 3200000 in
set_option maxRecDepth 100000 in
theorem item_place (R:Nat) (p:ByteArray) (rd:Rd) (us:List (It × Value)) (vi vo vd:Value) (w:World) (hp:p.size≤200) (hpos:rd.pos<p.size) (hj:RdJ rd) (hu:us.length≤rd.pos∧rd.opn.length≤rd.pos∧rd.done.length≤rd.pos) (hit:us.map Prod.fst=rd.items) (h:QR w R p rd.pos us rd.opn rd.done vi vo vd) (h40:hb p rd.pos=40) (h1:rd.pos+1<p.size) (h41:hb p (rd.pos+1)=41):
 Calls Tryz.prog 25 #[.pointer (some ⟨R,0,none⟩)] w fun e w'=>ItR R p rd.pos (rdItem p rd) w e w':=by
 obtain ⟨pos,items,opn,done⟩:=rd
 dsimp only at *
 have hu1:=hu.1
 have hu2:=hu.2.1
 have hu3:=hu.2.2
 have HJ:=hide hj
 clear hu hj
 have hRl:=h.lt
 have HQ:=hide h
 clear h
 go_enter Tryz.func25,Tryz.ntmps25
 go_wp2_with fail
 refine (here_in R p pos 0 false vi vo vd w (by omega) (by omega) (by omega) HQ.out.b (by omega)).mono ?_
 rintro e w1 ⟨rfl,hk1⟩
 rw [Nat.add_zero]
 have HQ1:=hide (HQ.out.keep hk1)
 have HB1:=hide (below_keeps (R:=R) hk1 (by omega))
 clear hk1 HQ
 go_wp2_with fail
 refine (here_in R p pos 1 false vi vo vd w1 (by omega) (by omega) (by omega) HQ1.out.b (by omega)).mono ?_
 rintro e w2 ⟨rfl,hk2⟩
 have HQ:=hide (HQ1.out.keep hk2)
 have HB:=hide (HB1.out.trans (below_keeps (R:=R) hk2 (by have:=HB1.out.size;omega)))
 have hs2:R<w2.heap.size:=HQ.out.lt
 clear hk2 HQ1 HB1
 have HR:=hide (show rdItem p ⟨pos,items,opn,done⟩=some ⟨pos+2,items++[itPlace done.length],opn,done++[true]⟩ by
  rw [rdItem,if_pos h40,if_pos ⟨h1,h41⟩])
 have b2:(hb p (pos+1)==41)=true:=beq_iff_eq.2 h41
 clear h41
 have b1:(hb p pos==40)=true:=beq_iff_eq.2 h40
 clear h40
 have c5:w2.cell? ⟨R,5,none⟩=some vd:=RowF.cell HQ.out.b (j:=5) (by omega)
 go_upto_region 10 with (first
  |(have _z:=HQ
    at_builtin
    clear _z
    refine app_at rfl _ _ 34 4 1 1 _ rfl Tryz.underlying34 Tryz.info4 rfl (by omega) (R+1) vd done.length (boC done) [.bool false] HQ.out.d rfl rfl rfl (one_b1 false) (by omega) (by omega) (by omega) ?_
    intro v' w5 h1' h2 h3 h4
    obtain ⟨a9,k9,rfl⟩:=owns_val h1'
    have HQ5:=hide (HQ.out.app_d false h1' h2 h3 h4)
    have HB5:=hide (h2 R w HB.out (by omega))
    have c9:w5.cell? ⟨R,5,none⟩=some vd:=((h2 _ _ (Below.refl (R+1) w2) (Nat.le_refl _)).cell (p:=⟨R,5,none⟩) (Nat.lt_succ_self _)).trans (RowF.cell HQ.out.b (j:=5) (by omega))
    have z9:w5.frozen? ⟨R,5,none⟩=false:=(RowF.low HQ.out.b (h2 _ _ (Below.refl (R+1) w2) (Nat.le_refl _)) (Nat.lt_succ_self _)).frz 5
    clear h1' h2 h3 h4 HQ)
  |fail)
 have HB:=hide (HB5.out.setCell (p:=⟨R,5,none⟩) (Nat.le_refl _) (.slice a9 (done.length+1) k9))
 clear c5 c9 z9 HB5
 generalize w5.setCell ⟨R,5,none⟩ (.slice a9 (done.length+1) k9)=w3 at *
 have HQ:=HQ5
 clear HQ5
 have c5:w3.cell? ⟨R,5,none⟩=some (.slice a9 (done.length+1) k9):=RowF.cell HQ.out.b (j:=5) (by omega)
 have hs3:R<w3.heap.size:=HQ.out.lt
 have hvX:∀ g,vi.ownBlock=some g→g≠w3.heap.size:=fun g hg=>by have:=(owns_blt HQ.out.i hg).2;omega
 have kb:Keeps w3 (w3.alloc (.cells #[.int .i64 2,nilS,.int .u8 0,.int .i64 done.length,.int .u8 0,.int .u8 0] 91)) (fun _=>False):=Keeps.of (b_1 w3 _) (Nat.le_refl _) _
 have HQ4:=hide (HQ.out.keep kb)
 have HB4:=hide (HB.out.trans (below_keeps (R:=R) kb (by omega)))
 have HX:=hide (show RowF (w3.alloc (.cells #[.int .i64 2,nilS,.int .u8 0,.int .i64 done.length,.int .u8 0,.int .u8 0] 91)) 91 w3.heap.size 6 (fun j=>#[Value.int .i64 2,nilS,.int .u8 0,.int .i64 done.length,.int .u8 0,.int .u8 0].getD j (.bool false)) from RowF.mk' w3 91 #[.int .i64 2,nilS,.int .u8 0,.int .i64 done.length,.int .u8 0,.int .u8 0])
 clear HQ HB kb
 go_upto_region 12 with (fail)
 clear c5
 generalize w3.alloc (.cells #[.int .i64 2,nilS,.int .u8 0,.int .i64 done.length,.int .u8 0,.int .u8 0] 91)=w4 at *
 generalize w3.heap.size=X at *
 have HQ:=HQ4
 have HB:=HB4
 clear HQ4 HB4
 obtain ⟨gd,kd,hvd,hcd,hzd,hgR⟩:=HQ.out.done_cell (j:=done.length) (by simp)
 simp only [List.length_append,List.length_singleton,Value.slice.injEq,true_and] at hvd
 obtain ⟨rfl,rfl⟩:=hvd
 have c5:w4.cell? ⟨R,5,none⟩=some (.slice (some ⟨gd,0,none⟩) (done.length+1) k9):=RowF.cell HQ.out.b (j:=5) (by omega)
 go_region
 have HQ5:=hide ((HQ.out.set_d (g:=gd) (j:=done.length) rfl (by simp)).keep ((Keeps.refl _ _).dr1))
 rw [show (done++[false]).set done.length true=done++[true] by simp] at HQ5
 have HB5:=hide ((HB.out.setCell (p:=⟨gd,done.length,none⟩) (show R≤gd by omega) (.bool true)).drew)
 have kd:Keeps w4 (w4.setCell ⟨gd,done.length,none⟩ (.bool true)).drew (fun b=>b=gd):=((Keeps.refl w4 (fun b=>b=gd)).setCell (S:=fun b=>b=gd) (j:=done.length) rfl (.bool true)).dr1
 obtain ⟨fd,hfd⟩:=owns_rowF HQ.out.d (g:=gd) rfl
 have HX5:=hide (HX.out.keep kd (fun e=>RowF.apart HX.out hfd (by decide) e))
 clear HQ HB HX kd hfd c5 hcd hzd
 generalize (w4.setCell ⟨gd,done.length,none⟩ (.bool true)).drew=w6 at *
 have y0:w6.cell? ⟨X,0,none⟩=some (.int .i64 2):=HX5.out.cell (j:=0) (by omega)
 have yz:=HX5.out.frz 0
 go_upto_region 14 with (fail)
 have HQ:=hide (HQ5.out.putX (j:=0) (x:=.int .i64 1) HX5.out hvX)
 have HB:=hide (HB5.out.setCell (p:=⟨X,0,none⟩) (show R≤X by omega) (.int .i64 1))
 have HX:=hide ((HX5.out.set (j:=0) (by omega) (.int .i64 1)).congr (f':=fun j=>#[Value.int .i64 1,nilS,.int .u8 0,.int .i64 done.length,.int .u8 0,.int .u8 0].getD j (.bool false)) fun j hj=>by
  rcases j with _|_|_|_|_|_|j
  all_goals simp
  all_goals omega)
 clear HQ5 HB5 HX5 y0 yz
 generalize w6.setCell ⟨X,0,none⟩ (.int .i64 1)=w7 at *
 have c1:w7.cell? ⟨R,1,none⟩=some (.int .i64 (pos:Int)):=RowF.cell HQ.out.b (j:=1) (by omega)
 have zc1:w7.frozen? ⟨R,1,none⟩=false:=RowF.frz HQ.out.b 1
 go_upto_region 16 with (fail)
 clear c1 zc1
 have HQ9:=hide (HQ.out.posn (pos+1))
 have HB9:=hide (HB.out.setCell (p:=⟨R,1,none⟩) (Nat.le_refl _) (.int .i64 ((pos+1:Nat):Int)))
 rw [show ((pos+1:Nat):Int)=(pos:Int)+1 by omega] at HQ9 HB9
 have HX9:=hide (HX.out.keep ((Keeps.refl w7 (fun b=>b=R)).setCell (S:=fun b=>b=R) (j:=1) rfl (.int .i64 ((pos+1:Nat):Int))) (fun e=>RowF.apart HX.out HQ.out.b (by decide) e))
 rw [show ((pos+1:Nat):Int)=(pos:Int)+1 by omega] at HX9
 clear HX
 have HX:=HX9
 clear HX9
 clear HQ HB
 have HQ:=HQ9
 have HB:=HB9
 clear HQ9 HB9
 generalize w7.setCell ⟨R,1,none⟩ (.int .i64 ((pos:Int)+1))=w8 at *
 have hs2:R<w8.heap.size:=HQ.out.lt
 obtain ⟨P1,hP1⟩:∃ P1,P1=pos+1:=⟨_,rfl⟩
 rw [←hP1] at HQ
 have hP2:(P1:Int)=(pos:Int)+1:=by omega
 have hP9:P1≤1000:=by omega
 rw [←hP2]
 have HP1:=hide hP1
 clear hP1 hP2
 have c1:w8.cell? ⟨R,1,none⟩=some (.int .i64 (P1:Int)):=RowF.cell HQ.out.b (j:=1) (by omega)
 have zc1:w8.frozen? ⟨R,1,none⟩=false:=RowF.frz HQ.out.b 1
 go_upto_region 17 with (fail)
 clear c1 zc1
 have HQ9:=hide (HQ.out.posn (P1+1))
 have HB9:=hide (HB.out.setCell (p:=⟨R,1,none⟩) (Nat.le_refl _) (.int .i64 ((P1+1:Nat):Int)))
 rw [show ((P1+1:Nat):Int)=(P1:Int)+1 by omega] at HQ9 HB9
 have HX9:=hide (HX.out.keep ((Keeps.refl w8 (fun b=>b=R)).setCell (S:=fun b=>b=R) (j:=1) rfl (.int .i64 ((P1+1:Nat):Int))) (fun e=>RowF.apart HX.out HQ.out.b (by decide) e))
 rw [show ((P1+1:Nat):Int)=(P1:Int)+1 by omega] at HX9
 clear HX
 have HX:=HX9
 clear HX9
 clear HQ HB
 have HQ:=HQ9
 have HB:=HB9
 clear HQ9 HB9
 generalize w8.setCell ⟨R,1,none⟩ (.int .i64 ((P1:Int)+1))=w10 at *
 have hs2:R<w10.heap.size:=HQ.out.lt
 rw [HP1.out] at HQ
 have x0:w10.cell? ⟨X,0,none⟩=some (.int .i64 1):=RowF.cell HX.out (j:=0) (by omega)
 have x1:w10.cell? ⟨X,1,none⟩=some (nilS):=RowF.cell HX.out (j:=1) (by omega)
 have x2:w10.cell? ⟨X,2,none⟩=some (.int .u8 0):=RowF.cell HX.out (j:=2) (by omega)
 have x3:w10.cell? ⟨X,3,none⟩=some (.int .i64 done.length):=RowF.cell HX.out (j:=3) (by omega)
 have x4:w10.cell? ⟨X,4,none⟩=some (.int .u8 0):=RowF.cell HX.out (j:=4) (by omega)
 have x5:w10.cell? ⟨X,5,none⟩=some (.int .u8 0):=RowF.cell HX.out (j:=5) (by omega)
 have HQd:=hide (HQ.out.keep ((Keeps.refl w10 _).dr1))
 have HBd:=hide (show Below R w w10.drew from HB.out.drew)
 clear HQ HB
 have HQ:=HQd
 have HB:=HBd
 clear HQd HBd
 have c3:w10.drew.cell? ⟨R,3,none⟩=some vi:=RowF.cell HQ.out.b (j:=3) (by omega)
 have c33:(w10.alloc (.cells #[.int .i64 1,nilS,.int .u8 0,.int .i64 done.length,.int .u8 0,.int .u8 0] 91)).cell? ⟨R,3,none⟩=some vi:=((b_1 w10 _).cell (p:=⟨R,3,none⟩) HQ.out.lt).trans c3
 go_region_law (first
  |(have _z:=HQ
    rw [if_pos (by rfl)]
    clear _z
    refine app_new_opd _ _ 33 91 6 56 _ rfl Tryz.underlying33 Tryz.info91 rfl (by omega) (R+1) vi us.length (itsC us) [.int .i64 1,nilS,.int .u8 0,.int .i64 done.length,.int .u8 0,.int .u8 0] HQ.out.i rfl rfl rfl (one_it (itPlace done.length) none 0 0) (by omega) (by omega) (by have:=HQ.out.lt;omega) ?_
    intro v' w5 h1 h2 h3
    obtain ⟨a9,k9,rfl⟩:=owns_val h1
    have HQ5:=hide (HQ.out.app_i (itPlace done.length,nilS) (setv_nil _ (by show (1:Nat)≠0;omega) (by show (1:Nat)≠6;omega)) (fun g hg=>nil_own g hg) h1 h2 h3)
    have HB5:=hide (h2 R w HB.out (by omega))
    have c5:w5.cell? ⟨R,3,none⟩=some vi:=((h2 _ _ (Below.refl (R+1) w10.drew) (Nat.le_refl _)).cell (p:=⟨R,3,none⟩) (Nat.lt_succ_self _)).trans (RowF.cell HQ.out.b (j:=3) (by omega))
    have z5:w5.frozen? ⟨R,3,none⟩=false:=(RowF.low HQ.out.b (h2 _ _ (Below.refl (R+1) w10.drew) (Nat.le_refl _)) (Nat.lt_succ_self _)).frz 3
    clear h1 h2 h3 HQ)
  |fail)
 all_goals
  clear c5 z5
  have HB6:=hide (HB5.out.setCell (p:=⟨R,3,none⟩) (Nat.le_refl _) (.slice a9 (us.length+1) k9))
  go_wp2_with fail
  go_end0
  exact ⟨rfl,HB6.out,.inl ⟨⟨pos+2,items++[itPlace done.length],opn,done++[true]⟩,us++[(itPlace done.length,nilS)],.slice a9 (us.length+1) k9,_,_,HR.out,by simp [hit],HQ5.out,by simp,by simp;omega⟩⟩
end Go.Proofs.YtlgodacccilabaaGreatDoor
namespace Go.Proofs.YtlgodacccilabaaGreatDoor
open Go Go.RowKit
set_option linter.unusedVariables false
theorem rdItem_len {p:ByteArray} {rd rd':Rd} (h:rdItem p rd=some rd'):rd'.items.length≤rd.items.length+1∧rd'.opn.length≤rd.opn.length+1∧rd'.done.length≤rd.done.length+1:=by
 rw [rdItem] at h
 split at h
 ·split at h<;>(simp only [Option.some.injEq] at h;subst h;simp)
 split at h
 ·cases e:rd.opn.getLast? with
  |none=>rw [e] at h;cases h
  |some n=>
   rw [e] at h
   simp only [Option.some.injEq] at h
   subst h
   simp
   omega
 split at h
 ·split at h
  ·cases h
  ·simp only [Option.some.injEq] at h;subst h;simp
 split at h
 ·split at h
  ·simp only [Option.some.injEq] at h;subst h;simp
  ·cases h
 split at h
 ·split at h
  ·cases e:rdSet p (rd.pos+2) with
   |none=>rw [e] at h;cases h
   |some r=>rw [e] at h;simp only [Option.map_some,Option.some.injEq] at h;subst h;simp
  ·cases h
 split at h
 ·simp only [Option.some.injEq] at h;subst h;simp
 ·cases e:rdOne p rd.pos with
  |none=>rw [e] at h;cases h
  |some r=>
   rw [e] at h
   simp only [Option.map_some,Option.some.injEq] at h
   split at h<;>(subst h;simp)
theorem mc_row (w:World) {MC:Array Value} {n:Nat} (h:MC=madeCells #[Value.bool false] n):RowF (w.alloc (.cells MC 4)) 4 w.heap.size n (fun _=>.bool false):=by
 have h1:=RowF.mk' w 4 MC
 have hs:MC.size=n:=by rw [h];exact size_madeCells _ _
 rw [hs] at h1
 refine h1.congr fun j hj=>?_
 have h2:MC.toList=List.replicate n (Value.bool false):=by rw [h];exact toList_madeCells_one _ _
 have h3:MC[j]?=some (.bool false):=by
  rw [←Array.getElem?_toList,h2]
  simp [hj]
 simp [h3]
theorem owns_slF {w:World} {B:Nat} {v:Value} {us:List (It × Value)} (h:w.ownsRow B 91 6 v us.length (itsC us)):SlF w 91 6 v us.length (itF us):=by
 have h0:=h
 obtain ⟨h1,⟨rfl,h2⟩|⟨g,cap,cur,rfl,hb,hg,hnc,hr⟩⟩:=h
 ·exact ⟨none,0,by rw [h2],by omega,.inl ⟨rfl,h2⟩⟩
 ·exact ⟨_,cap,rfl,hnc,.inr ⟨g,rfl,rowF_owns h0⟩⟩
theorem rdAll_end {p:ByteArray} {k:Nat} {R:Rd} (h:¬ R.pos<p.size):rdAll p k R=some R:=by
 cases k with
 |zero=>rw [rdAll,if_neg h]
 |succ k=>rw [rdAll,if_neg h]
theorem rdAll_on {p:ByteArray} {k:Nat} {R:Rd} (h:R.pos<p.size):rdAll p (k+1) R=(rdItem p R).bind (rdAll p k):=by rw [rdAll,if_pos h]
def rd0 (p:ByteArray):Rd:=⟨if hb p 0=94 then 1 else 0,[],[],[]⟩
theorem rdPat_eq {p:ByteArray} (h:p.size≤200):rdPat p=(rdAll p 200 (rd0 p)).bind (fun R=>if R.opn=[]∧R.done.length≤16 then some ⟨R.items,R.done.length,isPl R.items,decide (hb p 0=94)⟩ else none):=by rw [rdPat,if_neg (by omega)];rfl
theorem rdJ0 (p:ByteArray):RdJ (rd0 p):=⟨fun k hk=>by simp [rd0] at hk,fun n hn=>by simp [rd0] at hn,fun n hn=>by simp [rd0] at hn,fun j hj=>by simp [rd0] at hj⟩
def mRd (p:ByteArray) (R:Nat) (w:World):Nat:=match w.cell? ⟨R,2,none⟩ with |some (.bool true)=>0|_=>p.size+2-posOf w R
theorem mRd_bad {p:ByteArray} {R:Nat} {w:World} {q:Nat} {vi vo vd:Value} (h:RdB w R p q true vi vo vd):mRd p R w=0:=by
 unfold mRd
 rw [show w.cell? ⟨R,2,none⟩=some (.bool true) from RowF.cell h (j:=2) (by omega)]
theorem mRd_ok {p:ByteArray} {R:Nat} {w:World} {q:Nat} {vi vo vd:Value} (h:RdB w R p q false vi vo vd):mRd p R w=p.size+2-q:=by
 unfold mRd
 rw [show w.cell? ⟨R,2,none⟩=some (.bool false) from RowF.cell h (j:=2) (by omega),h.posOf]
def PtR (p:ByteArray) (w:World) (e:Ending) (w':World):Prop:=
 Below w.heap.size w w'∧((rdPat p=none∧e=.returned (.tuple #[.agg #[nilS,nilS,.bool false],.bool false]))∨
  ∃ t us a1 c1 a2 c2,rdPat p=some t∧e=.returned (.tuple #[.agg #[.slice a1 us.length c1,.slice a2 t.caps c2,.bool t.start],.bool true])∧us.map Prod.fst=t.items∧us.length≤200∧
    SlF w' 91 6 (.slice a1 us.length c1) us.length (itF us)∧SlF w' 4 1 (.slice a2 t.caps c2) t.caps (fun j=>.bool (t.place j))∧∀ u∈us,SetV w' u)
end Go.Proofs.YtlgodacccilabaaGreatDoor
namespace Go.Proofs.YtlgodacccilabaaGreatDoor
open Go Go.RowKit Go.Shelf
set_option linter.unusedVariables false
theorem mem_snoc {α:Type} {l:List α} {a x:α} (h:x∈l++[a]):x∈l∨x=a:=by
 rcases List.mem_append.1 h with h|h
 ·exact .inl h
 ·exact .inr (List.mem_singleton.1 h)
structure RdL (R:Rd):Prop extends RdK R where
 all:∀ n,n<R.done.length→n∈R.opn∨R.done.getD n false=true
theorem rdK_pre {its:List It} {it:It} (h:∀ k (hk:k<its.length),its[k].kind=3→∀ j∈its.take k,j.kind=1∨j.kind=3→j.n≠its[k].n) (hi:it.kind=3→∀ j∈its,j.kind=1∨j.kind=3→j.n≠it.n):
 ∀ k (hk:k<(its++[it]).length),(its++[it])[k].kind=3→∀ j∈(its++[it]).take k,j.kind=1∨j.kind=3→j.n≠(its++[it])[k].n:=fun k hk=>by
 have hk':=hk
 rw [List.length_append,List.length_singleton] at hk'
 rcases Nat.lt_or_ge k its.length with c|c
 ·rw [List.take_append_of_le_length (Nat.le_of_lt c),List.getElem_append_left c]
  exact h k c
 ·obtain rfl:k=its.length:=by omega
  rw [List.take_append_of_le_length (Nat.le_refl _),List.take_length,List.getElem_append_right (Nat.le_refl _)]
  simpa using hi
theorem RdL.more {R:Rd} {it:It} (h:RdL R) (q:Nat) (hk:it.kind≠1∧it.kind≠3):RdL ⟨q,R.items++[it],R.opn,R.done⟩:=
 ⟨⟨h.nod,h.lt,h.opn,fun j hj hk2=>by
   rcases mem_snoc hj with hj|rfl
   ·exact h.don j hj hk2
   ·omega,rdK_pre h.pre (fun x=>absurd x hk.2)⟩,h.all⟩
theorem getD_left {l:List Bool} {b:Bool} {n:Nat} (h:n<l.length):(l++[b]).getD n false=l.getD n false:=by
 rw [List.getD_eq_getElem?_getD,List.getD_eq_getElem?_getD,List.getElem?_append_left h]
theorem getD_last (l:List Bool) (b:Bool):(l++[b]).getD l.length false=b:=by
 rw [List.getD_eq_getElem?_getD,List.getElem?_append_right (Nat.le_refl _)]
 simp
theorem getD_set_ne {l:List Bool} {b:Bool} {n m:Nat} (h:m≠n):(l.set n b).getD m false=l.getD m false:=by
 rw [List.getD_eq_getElem?_getD,List.getD_eq_getElem?_getD,List.getElem?_set_ne (fun e=>h e.symm)]
theorem getD_set_eq {l:List Bool} {b:Bool} {n:Nat} (h:n<l.length):(l.set n b).getD n false=b:=by
 rw [List.getD_eq_getElem?_getD,List.getElem?_set_self h]
 rfl
theorem getLast_split {l:List Nat} {n:Nat} (h:l.getLast?=some n):l=l.dropLast++[n]:=by
 have hne:l≠[]:=fun e=>by rw [e] at h;cases h
 rw [List.getLast?_eq_some_getLast hne,Option.some.injEq] at h
 rw [←h,List.dropLast_concat_getLast]
theorem rdItem_l {p:ByteArray} {R R':Rd} (hj:RdJ R) (h:RdL R) (e:rdItem p R=some R'):RdL R':=by
 unfold rdItem at e
 split at e
 ·split at e
  ·cases e
   refine ⟨⟨h.nod,fun n hn=>?_,fun n hn=>?_,fun j hj1 hk=>?_,rdK_pre h.pre (fun x=>by simp [itPlace] at x)⟩,fun n hn=>?_⟩
   ·have:=h.lt n hn
    simp only [List.length_append,List.length_singleton];omega
   ·rw [getD_left (h.lt n hn)];exact h.opn n hn
   ·rcases mem_snoc hj1 with hj1|rfl
    ·rw [getD_left (hj.lt j hj1 (by omega) (by omega))];exact h.don j hj1 hk
    ·exact getD_last _ _
   ·simp only [List.length_append,List.length_singleton] at hn
    rcases Nat.lt_or_ge n R.done.length with c|c
    ·rw [getD_left c];exact h.all n c
    ·obtain rfl:n=R.done.length:=by omega
     exact .inr (getD_last _ _)
  ·cases e
   refine ⟨⟨?_,fun n hn=>?_,fun n hn=>?_,fun j hj1 hk=>?_,rdK_pre h.pre (fun x=>by simp [itOpen] at x)⟩,fun n hn=>?_⟩
   ·show (R.opn++[R.done.length]).Nodup
    rw [List.nodup_append]
    refine ⟨h.nod,by simp,fun a ha b hb=>?_⟩
    have h1:=h.lt a ha
    have h2:=List.mem_singleton.1 hb
    omega
   ·rcases mem_snoc hn with hn|rfl
    ·have:=h.lt n hn
     simp only [List.length_append,List.length_singleton];omega
    ·simp
   ·rcases mem_snoc hn with hn|rfl
    ·rw [getD_left (h.lt n hn)];exact h.opn n hn
    ·exact getD_last _ _
   ·rcases mem_snoc hj1 with hj1|rfl
    ·rw [getD_left (hj.lt j hj1 (by omega) (by omega))];exact h.don j hj1 hk
    ·simp [itOpen] at hk
   ·simp only [List.length_append,List.length_singleton] at hn
    rcases Nat.lt_or_ge n R.done.length with c|c
    ·rw [getD_left c]
     rcases h.all n c with d|d
     ·exact .inl (List.mem_append_left _ d)
     ·exact .inr d
    ·obtain rfl:n=R.done.length:=by omega
     exact .inl (List.mem_append_right _ (List.mem_singleton.2 rfl))
 split at e
 ·split at e
  ·cases e
  ·rename_i n hn
   cases e
   have hm:n∈R.opn:=List.mem_of_getLast? hn
   have hlt:=h.lt n hm
   have hsp:=getLast_split hn
   have hnod:=h.nod
   rw [hsp,List.nodup_append] at hnod
   obtain ⟨hn1,_,hn2⟩:=hnod
   have hnot:∀ m∈R.opn.dropLast,m≠n:=fun m hm2=>hn2 m hm2 n (List.mem_singleton.2 rfl)
   have hof:=h.opn n hm
   have hsh:∀ j∈R.items,j.kind=1∨j.kind=3→j.n≠n:=fun j hj1 hk c=>by
    have:=h.don j hj1 hk
    rw [c,hof] at this
    cases this
   refine ⟨⟨hn1,fun m hm2=>?_,fun m hm2=>?_,fun j hj1 hk=>?_,rdK_pre h.pre (fun _=>hsh)⟩,fun m hm2=>?_⟩
   ·show m<(R.done.set n true).length
    rw [List.length_set]
    exact h.lt m ((List.dropLast_sublist _).subset hm2)
   ·show (R.done.set n true).getD m false=false
    rw [getD_set_ne (hnot m hm2)]
    exact h.opn m ((List.dropLast_sublist _).subset hm2)
   ·show (R.done.set n true).getD j.n false=true
    rcases mem_snoc hj1 with hj1|rfl
    ·rw [getD_set_ne (hsh j hj1 hk)]
     exact h.don j hj1 hk
    ·exact getD_set_eq hlt
   ·show m∈R.opn.dropLast∨(R.done.set n true).getD m false=true
    have hm3:m<R.done.length:=by
     have:m<(R.done.set n true).length:=hm2
     rwa [List.length_set] at this
    by_cases c:m=n
    ·subst c;exact .inr (getD_set_eq hlt)
    ·rw [getD_set_ne c]
     rcases h.all m hm3 with d|d
     ·rw [hsp] at d
      rcases mem_snoc d with d|d
      ·exact .inl d
      ·exact absurd d c
     ·exact .inr d
 split at e
 ·split at e
  ·cases e
  ·cases e;exact h.more _ (by simp [itBack])
 split at e
 ·split at e
  ·cases e;exact h.more _ (by simp [itPair])
  ·cases e
 split at e
 ·split at e
  ·obtain ⟨r,_,rfl⟩:=Option.map_eq_some_iff.1 e
   exact h.more _ (by simp [itEdge])
  ·cases e
 split at e
 ·cases e;exact h.more _ (by simp [itEnd])
 ·obtain ⟨r,_,rfl⟩:=Option.map_eq_some_iff.1 e
  split
  ·exact h.more _ (by simp [itOne,it0])
  ·exact h.more _ (by simp [itOne,it0])
theorem rdAll_l {p:ByteArray}:∀ {k:Nat} {R R':Rd},RdJ R→RdL R→rdAll p k R=some R'→RdL R'
 |0,R,R',_,h,e=>by
  rw [rdAll] at e
  split at e
  ·cases e
  ·cases e;exact h
 |k+1,R,R',hj,h,e=>by
  rw [rdAll] at e
  split at e
  ·obtain ⟨R1,e1,e2⟩:=Option.bind_eq_some_iff.1 e
   exact rdAll_l (rdItem_j hj e1) (rdItem_l hj h e1) e2
  ·cases e;exact h
structure PtK (t:Pt):Prop where
 wf:WF t.caps t.items
 caps:t.caps≤16
 place:t.place=isPl t.items
 pre:∀ k (hk:k<t.items.length),t.items[k].kind=3→∀ j∈t.items.take k,j.kind=1∨j.kind=3→j.n≠t.items[k].n
 all:∀ n,n<t.caps→∃ j∈t.items,(j.kind=1∨j.kind=3)∧j.n=n
theorem rdPat_k {p:ByteArray} {t:Pt} (e:rdPat p=some t):PtK t:=by
 have hw:=rdPat_wf e
 unfold rdPat at e
 split at e
 ·cases e
 ·obtain ⟨R,e1,e2⟩:=Option.bind_eq_some_iff.1 e
  split at e2
  ·rename_i h
   cases e2
   have h0:RdJ ⟨if hb p 0=94 then 1 else 0,[],[],[]⟩:=⟨fun k hk=>by simp at hk,fun n hn=>by simp at hn,fun n hn=>by simp at hn,fun j hj=>by simp at hj⟩
   have hj:=rdAll_j h0 e1
   have hl:=rdAll_l h0 ⟨⟨by simp,fun n hn=>by simp at hn,fun n hn=>by simp at hn,fun j hj=>by simp at hj,fun k hk=>by simp at hk⟩,fun n hn=>by simp at hn⟩ e1
   refine ⟨hw.1,hw.2.1,hw.2.2,hl.pre,fun n hn=>?_⟩
   rcases hl.all n hn with d|d
   ·rw [h.1] at d;cases d
   ·exact hj.done n d
  ·cases e2
theorem PtK.apart {t:Pt} (h:PtK t) {j:It} (hj:j∈t.items) (hk:j.kind=3):t.place j.n=false:=by
 rw [h.place]
 cases hp:isPl t.items j.n
 ·rfl
 ·unfold isPl at hp
  rw [List.any_eq_true] at hp
  obtain ⟨i,hi,hi2⟩:=hp
  simp only [Bool.and_eq_true,decide_eq_true_eq] at hi2
  obtain ⟨a,ha,rfl⟩:=List.getElem_of_mem hj
  obtain ⟨b,hb,rfl⟩:=List.getElem_of_mem hi
  rcases Nat.lt_trichotomy a b with c|c|c
  ·exact absurd hi2.2.symm (((h.wf b hb).1 (.inl hi2.1)).2 _ (List.mem_take_iff_getElem.2 ⟨a,by omega,rfl⟩) (.inr (.inr hk)))
  ·subst c;omega
  ·exact absurd hi2.2 (h.pre a ha hk _ (List.mem_take_iff_getElem.2 ⟨b,by omega,rfl⟩) (.inl hi2.1))
theorem PtK.opened {t:Pt} (h:PtK t) {a:Nat} (ha:a<t.items.length) (hk:t.items[a].kind=3):∃ j∈t.items.take a,j.kind=2∧j.n=t.items[a].n:=((h.wf a ha).2.1 hk).2
theorem PtK.preOk {t:Pt} (h:PtK t) {k:Nat} (hk:k<t.items.length):PreOk t.place (t.items.take k) t.items[k]:=by
 refine ⟨(h.wf k hk).mono h.caps,fun h3=>h.pre k hk h3,fun h4=>?_⟩
 obtain ⟨_,j,hj,hk2,hn⟩:=(h.wf k hk).2.2 h4
 obtain ⟨a,ha,rfl⟩:=List.mem_take_iff_getElem.1 hj
 rcases hk2 with hk2|hk2
 ·exact .inl ⟨by rw [h.place,←hn];exact isPl_of (List.getElem_mem _) hk2,_,hj,hk2,hn⟩
 ·refine .inr ⟨by rw [←hn];exact h.apart (List.getElem_mem _) hk2,?_,_,hj,hk2,hn⟩
  obtain ⟨i,hi,hi1,hi2⟩:=h.opened (by omega) hk2
  obtain ⟨b,hb,rfl⟩:=List.mem_take_iff_getElem.1 hi
  exact ⟨_,List.mem_take_iff_getElem.2 ⟨b,by omega,rfl⟩,hi1,hi2.trans hn⟩
theorem PtK.noted {t:Pt} (h:PtK t) (nt:Nt) (σ:Ms) (hg:Ag t.items nt σ) (k:Nat) (hk:k<t.caps):nt k=capAt t σ k:=by
 obtain ⟨j,hj,hk2,rfl⟩:=h.all k hk
 rcases hk2 with hk2|hk2
 ·have hp:t.place j.n=true:=by rw [h.place];exact isPl_of hj hk2
  rw [(hg j hj).1 hk2,capAt,hp,if_pos rfl]
 ·have hp:=h.apart hj hk2
  have h3:=(hg j hj).2.2 hk2
  obtain ⟨a,ha,rfl⟩:=List.getElem_of_mem hj
  obtain ⟨i,hi,hi1,hi2⟩:=h.opened ha hk2
  have h2:=(hg i (List.take_subset _ _ hi)).2.1 hi1
  rw [hi2] at h2
  rw [capAt,hp,if_neg (by simp),←h2.1,←h2.2,←h3]
end Go.Proofs.YtlgodacccilabaaGreatDoor
namespace Go.Proofs.YtlgodacccilabaaGreatDoor
open Go Go.RowKit Go.Shelf
set_option linter.unusedVariables false
attribute [local go_sem] Oper.semAt_some
def upTo {α:Type} (f:Nat→α) (k:Nat):List α:=(List.range k).map f
theorem upTo_succ {α:Type} (f:Nat→α) (k:Nat):upTo f (k+1)=upTo f k++[f k]:=by simp [upTo,List.range_succ]
theorem upTo_length {α:Type} (f:Nat→α) (k:Nat):(upTo f k).length=k:=by simp [upTo]
def Kb (n0 Bs:Nat) (W W':World):Prop:=Below n0 W W'∧W'.heap[Bs]?=W.heap[Bs]?
theorem Kb.trans {n0 Bs:Nat} {A B C:World} (h:Kb n0 Bs A B) (k:Kb n0 Bs B C):Kb n0 Bs A C:=⟨h.1.trans k.1,k.2.trans h.2⟩
theorem Kb.rfl' (n0 Bs:Nat) (A:World):Kb n0 Bs A A:=⟨Below.refl _ _,rfl⟩
theorem Kb.put {n0 Bs:Nat} {w:World} (hn:n0≤w.heap.size) (hB:Bs<w.heap.size) (W:World) (l:Nat) (o o':Obj) (hl:w.heap.size≤l) (h:W.heap[l]?=some o) (h1:o.isCells=false) (h2:o.isWalk=false):Kb n0 Bs W (W.putObj l o'):=
 ⟨belowK_b hn W l o o' hl h h1 h2,World.putObj_heap_other (fun e=>by omega)⟩
theorem Kb.alloc {n0 Bs:Nat} {W:World} (hn:n0≤W.heap.size) (hB:Bs<W.heap.size) (o:Obj):Kb n0 Bs W (W.alloc o):=
 ⟨(Below.refl _ W).alloc hn _,Below.heap_alloc W _ Bs hB⟩
def bkF (n:Nat) (fs:Nat→Nat × Array Value):Nat→Nat × Nat × Array Value:=fun j=>(n-1-j,(fs (n-1-j)).1,(fs (n-1-j)).2)
set_option maxRecDepth 100000 in
set_option maxHeartbeats 2000000 in
theorem backward1_in (F:Fence) (n:Nat) (hf:F.fn 57) (hro:F.round=none) (hn:1≤n) (l Bs n0 b len cap:Nat) (fs:Nat→Nat × Array Value) (hlen:len≤1000) (hb:b<n0) (J Jx:List (Nat × Nat × Array Value)→World→Prop)
 (hY:∀ pre x W,J pre W→pre.length<len→YieldAt F (n-1) Tryz.prog l #[.int .i64 (x.1:Int),.func (.func x.2.1) #[] x.2.2] W fun e W'=>
   (e=.returned (.bool true)∧J (pre++[x]) W'∧Kb n0 Bs W W')∨(e=.returned (.bool false)∧Jx (pre++[x]) W'))
 (W:World) (hBs:W.cell? ⟨Bs,0,none⟩=some (.slice (some ⟨b,0,none⟩) len cap)) (hc:∀ j,j<len→W.cell? ⟨b,j,none⟩=some (.func (.func (fs j).1) #[] (fs j).2)) (h0:J [] W):
 CallsIn F n Tryz.prog 57 #[.func (.yield l) #[] #[],.pointer (some ⟨Bs,0,none⟩)] W fun e W'=>(∃ v,e=.returned v)∧
  ((∃ ys,ys=upTo (bkF len fs) len∧J ys W')∨(∃ pre,(∃ k,k≤len∧pre=upTo (bkF len fs) k)∧Jx pre W')):=by
 refine callsIn_of_wp Tryz.func57 rfl hf ?_ hro
 simp only [Tryz.ntmps57,List.size_toArray,List.length_cons,List.length_nil,Nat.reduceAdd,Nat.reduceSub,Array.replicate_succ,Array.replicate_zero,List.push_toArray,List.append_toArray,List.nil_append,List.cons_append]
 have hw0:wrap64 ((len:Int)-1)=(len:Int)-1:=by unfold wrap64;omega
 gi_wp2
 gi_loopw [3] (fun i wr=>∃ k:Nat,k≤len∧i=.int .i64 ((len:Int)-1-k)∧J (upTo (bkF len fs) k) wr∧Kb n0 Bs W wr)
  (fun i _=>(intOf i+1).toNat)
 case atStart=>exact ⟨0,Nat.zero_le _,by simp,h0,Kb.rfl' _ _ _⟩
 case round=>
  obtain ⟨k,hk,rfl,hJs,hnx⟩:=hrel
  by_cases hlt:k<len
  ·have hcx:=(hnx.1.cell (p:=⟨b,len-1-k,none⟩) hb).trans (hc (len-1-k) (by omega))
   have hcs:wr.cell? ⟨Bs,0,none⟩=some (.slice (some ⟨b,0,none⟩) len cap):=by rw [←hBs];simp only [World.cell?,hnx.2]
   obtain ⟨fn,tmps,assign,body,hy,hR⟩:=hY _ (bkF len fs k) wr hJs (by rw [upTo_length];exact hlt)
   dsimp only [bkF] at hy
   obtain ⟨m,hm⟩:∃ m,len-1-k=m:=⟨_,rfl⟩
   have hmi:(len:Int)-1-k=(m:Int):=by omega
   rw [hm] at hy hcx
   rw [hmi]
   gi_wp2
   refine hR.mono ?_
   rintro e W3 (⟨rfl,hJ3,hk3⟩|⟨rfl,hJx3⟩)
   ·gi_wp2
    go_roundw
    case rel=>exact ⟨k+1,by omega,by simp;omega,by rw [upTo_succ];exact hJ3,hnx.trans hk3⟩
    case measure=>simp [intOf]
   ·gi_wp2
    refine bodyPost_ret (results_none rfl _ _ _) rfl ?_
    exact ⟨⟨_,rfl⟩,.inr ⟨_,⟨k+1,by omega,(upTo_succ _ _).symm⟩,hJx3⟩⟩
  ·obtain rfl:k=len:=by omega
   gi_wp2
   go_end0
   exact ⟨⟨_,rfl⟩,.inl ⟨_,rfl,hJs⟩⟩
set_option maxRecDepth 100000 in
set_option maxHeartbeats 1000000 in
theorem backward1_nil (F:Fence) (n:Nat) (hf:F.fn 57) (hro:F.round=none) (l Bs:Nat) (J:List (Nat × Nat × Array Value)→World→Prop) (W:World) (hBs:W.cell? ⟨Bs,0,none⟩=some (.slice none 0 0)) (h0:J [] W):
 CallsIn F n Tryz.prog 57 #[.func (.yield l) #[] #[],.pointer (some ⟨Bs,0,none⟩)] W fun e W'=>(∃ v,e=.returned v)∧J [] W':=by
 refine callsIn_of_wp Tryz.func57 rfl hf ?_ hro
 simp only [Tryz.ntmps57,List.size_toArray,List.length_cons,List.length_nil,Nat.reduceAdd,Nat.reduceSub,Array.replicate_succ,Array.replicate_zero,List.push_toArray,List.append_toArray,List.nil_append,List.cons_append]
 gi_wp2
 gi_loopw [3] (fun i wr=>i=.int .i64 (-1)∧J [] wr) (fun _ _=>0)
 case atStart=>exact ⟨by simp,h0⟩
 case round=>
  obtain ⟨rfl,hJs⟩:=hrel
  gi_wp2
  go_end0
  exact ⟨⟨_,rfl⟩,hJs⟩
set_option maxHeartbeats 1000000 in
theorem backward_in (F:Fence) (n:Nat) (hf:F.fn 31) (hro:F.round=none) (a:Option Addr) (len cap:Nat) (w:World):
 CallsIn F n Tryz.prog 31 #[.slice a len cap] w fun e w'=>e=.returned (.func (.func 57) #[] #[.pointer (some ⟨w.heap.size,0,none⟩)])∧w'=w.alloc (.cells #[.slice a len cap] 73):=by
 refine callsIn_of_wp Tryz.func31 rfl hf ?_ hro
 simp only [Tryz.ntmps31,List.size_toArray,List.length_cons,List.length_nil,Nat.reduceAdd,Nat.reduceSub,Array.replicate_succ,Array.replicate_zero,List.push_toArray,List.append_toArray,List.nil_append,List.cons_append]
 gi_wp2
 go_ret
 exact ⟨rfl,rfl⟩
def FnsA (w:World) (v:Value) (n:Nat) (fs:Nat→Nat × Array Value):Prop:=SlF w 97 1 v n (fun j=>.func (.func (fs j).1) #[] (fs j).2)
theorem backward_stops (F:Fence) (n:Nat) (hf:F.fn 57) (hro:F.round=none) (hn:1≤n) (Bs len:Nat) (sv:Value) (fs:Nat→Nat × Array Value) (hlen:len≤1000) (w0 w:World) (hB0:Below w0.heap.size w0 w) (hBs:Bs<w.heap.size)
 (hc:w.cell? ⟨Bs,0,none⟩=some sv) (hI:FnsA w0 sv len fs) (hcn:∀ cap,sv=.slice none 0 cap→cap=0):
 SeqStopsK F n Tryz.prog 57 #[.pointer (some ⟨Bs,0,none⟩)] (fun x:Nat × Nat × Array Value=>#[Value.int .i64 (x.1:Int),.func (.func x.2.1) #[] x.2.2]) (Kb w0.heap.size Bs) (fun ys=>ys=upTo (bkF len fs) len)
  (fun pre=>∃ k,k≤len∧pre=upTo (bkF len fs) k) len w:=fun l J Jx W hW _ _ hY h0=>by
 have hc':=(hW.cell (p:=⟨Bs,0,none⟩) hBs).trans hc
 obtain ⟨a,cap,rfl,hle,⟨rfl,rfl⟩|⟨g,rfl,hr⟩⟩:=hI
 ·obtain rfl:=hcn cap rfl
  exact (backward1_nil F n hf hro l Bs J W hc' h0).mono fun e W' ⟨he,hj⟩=>⟨he,.inl ⟨_,rfl,hj⟩⟩
 ·have hr2:=(hr.low hB0 hr.lt).low (hW.mono hB0.size) hr.lt
  exact backward1_in F n hf hro hn l Bs w0.heap.size g len cap fs hlen hr.lt J Jx hY W hc' (fun j hj=>RowF.cell hr2 (by omega)) h0
end Go.Proofs.YtlgodacccilabaaGreatDoor
