import Derived.Test.YtjibjahfbblieaaGreatDoorKMC1
import Derived.Test.YtjibjahfbblieaaGreatDoorKLF
import Derived.Test.YtjibjahfbblieaaGreatDoorKP1A4
import Derived.Lib.FrozenHead
import Derived.Lib.SmallJoins
import Derived.Deep.RegionHeld3
import Derived.Test.YtjibjahfbblieaaGreatDoorKBR
import Derived.Deep.RegionHeld
import Derived.Test.YtjibjahfbblieaaGreatDoorKShelf
import Derived.Lib.AppendIntMem
namespace Go.Proofs.YtjibjahfbblieaaGreatDoor
open Go Go.RowKit Go.Maps Go.Sort Go.Shelf
set_option linter.unusedVariables false
theorem Ji (m:Nat):AnyZI.SortsIn Tryz.prog Tryz.sortedA_ren Fence.wide m:=
 ⟨fun blk off cap ss W hH hblk hsz=>callsIn_wide.2 (Tryz.slices_Sort_int blk off cap ss W hH hblk hsz),
  fun p cap W=>callsIn_wide.2 (Tryz.slices_Sort_int_none p cap W)⟩
set_option maxHeartbeats 1000000 in
theorem rF {H:Type} (b nn:Nat) (D0:DataW H) (R:Value->Option (DataW H × List MemPlace)) (w:World) (hown:w.ownsMap Tryz.prog 3 R b nn D0) (hmax:Maps.size D0<=maxLen) (hbytes:Maps.size D0*8<=140737488355328):
 Calls Tryz.prog 97 #[.map (some b)] w fun e w'=>∃ (v:Value) (ss:List Int),e=.returned v/\ss.Perm (intKeys D0)/\
  w'.ownsRow w.heap.size 3 1 v ss.length ((ss.mergeSort (fun x y=>decide (x<=y))).map encZ)/\(v=.slice none 0 0↔ss=[])/\Below w.heap.size w w':=by
 refine (callsIn_wide (n:=6)).1 ?_
 have hbl:=hown.lt
 have hseq:SeqGives Fence.wide 2 Tryz.prog 134 #[.pointer (some ⟨w.heap.size,0,none⟩)] encZ (fun ss=>ss.Perm (intKeys D0)) (Maps.size D0) (w.alloc (.cells #[.map (some b)] 150)):=
  AnyZI.keys_gives (ρ:=Tryz.keysA_ren) { Tryz.keysA with } Fence.wide _ trivial rfl (by omega) w.heap.size b nn D0 _ (by simp) (by simp) (by
   obtain ⟨es,clock,hb,Ft,hs,hD⟩:=hown
   exact ⟨es,clock,(Below.heap_alloc _ _ b hbl).trans hb,Ft,hs,hD⟩)
 have cK:∀ mb W,CallsIn Fence.wide 5 Tryz.prog 116 #[.map mb] W fun e w'=>e=.returned (.func (.func 134) #[] #[.pointer (some ⟨W.heap.size,0,none⟩)])/\w'=W.alloc (.cells #[.map mb] 150):=fun mb W=>AnyZI.keys_in Tryz.keysA Fence.wide 5 trivial rfl mb W
 have cS:=AnyZI.sorted_in Tryz.sortedA Fence.wide 5 trivial trivial trivial trivial rfl (by omega) (Ji _) (enters_of Tryz.func133 (by kernel_rfl) rfl) 134 #[.pointer (some ⟨w.heap.size,0,none⟩)] trivial (enters_of Tryz.func134 (by kernel_rfl) rfl) _ _ hmax hbytes _ hseq
 change CallsIn _ _ Tryz.prog 115 _ _ _ at cS
 have hfK:Fence.wide.fn 116:=trivial
 have hfS:Fence.wide.fn 115:=trivial
 refine callsIn_of_wp Tryz.func97 rfl trivial ?_ rfl
 simp only [Tryz.ntmps97,List.size_toArray,List.length_cons,List.length_nil,Nat.reduceAdd,Nat.reduceSub,Array.replicate_succ,Array.replicate_zero,List.push_toArray,List.append_toArray,List.nil_append,List.cons_append]
 gi_wp2_with (first
  |(gi_at_call 116;refine (cK _ _).mono ?_;rintro e w' ⟨rfl,rfl⟩)
  |(gi_at_call 115;refine cS.mono ?_;rintro e w' ⟨v,ss,rfl,hS,hrow,hnil,hb⟩))
 go_ret
 exact ⟨v,ss,rfl,hS,ownsRow_base_a hrow (by simp),hnil,((Below.refl _ w).alloc (Nat.le_refl _) _).trans (hb.mono (by simp))⟩
theorem zq {w:World} {b n:Nat} {s:Nat->Bool} (h:fP w b n s) (hn:n<=1048576):
 Calls Tryz.prog 97 #[.map (some b)] w fun e w'=>∃ v,e=.returned v/\w'.ownsRow w.heap.size 3 1 v (ls n s).length (IK (ls n s))/\Below w.heap.size w w':=by
 obtain ⟨D,h1,h2⟩:=h
 have hp:=set_perm h1 h2
 have hsz:Maps.size D<=n:=by rw [kY h1,<-hp.length_eq,List.length_map];exact Jc n s
 refine (rF b n D unitElem w h1 (by unfold maxLen;omega) (by omega)).mono ?_
 rintro e w' ⟨v,ss,rfl,h3,h4,_,h5⟩
 have hpp:ss.Perm ((ls n s).map (fun (p:Nat)=>(p:Int))):=h3.trans hp.symm
 have hms:ss.mergeSort (fun x y=>decide (x<=y))=(ls n s).map (fun (p:Nat)=>(p:Int)):=by
  have e1:=mergeSort_of_perm_i hpp
  have e2:((ls n s).map (fun (p:Nat)=>(p:Int))).mergeSort Go.leI=(ls n s).map (fun (p:Nat)=>(p:Int)):=by
   refine List.mergeSort_of_pairwise ?_
   refine List.pairwise_map.2 ?_
   unfold ls
   refine List.Pairwise.sublist List.filter_sublist ?_
   exact (List.pairwise_lt_range).imp (fun h=>by simp only [Go.leI,decide_eq_true_eq];omega)
  exact e1.trans e2
 have hl:=hpp.length_eq
 rw [List.length_map] at hl
 rw [hms,hl,List.map_map] at h4
 exact ⟨v,rfl,h4,h5⟩
end Go.Proofs.YtjibjahfbblieaaGreatDoor
namespace Go.Proofs.YtjibjahfbblieaaGreatDoor
open Go Go.RowKit
set_option linter.unusedVariables false
theorem Kc (p:PV) (q:Nat):aH p 0 q=false:=rfl
theorem nH (p:PV) (m q:Nat):aH p (m+1) q=(aH p m q||(mJ p m&&decide (p.i2 m=(q:Int)))):=by
 unfold aH
 rw [List.range_succ,List.any_append]
 simp
theorem JC (p:PV) (q:Nat):lbl p (q+1)=if aH p p.ni q then lbl p q+1 else lbl p q:=by
 unfold lbl
 rw [List.range_succ,List.filter_append,List.length_append]
 by_cases h:aH p p.ni q=true
 ·simp [h]
 ·simp only [Bool.not_eq_true] at h
  simp [h]
theorem qV (p:PV) (q:Nat):lbl p q<=q:=by
 unfold lbl
 exact Nat.le_trans (List.length_filter_le _ _) (by simp)
def rX (p:PV) (q:Nat):Int:=if aH p p.ni q then (lbl p q:Int) else -1
theorem N_ (p:PV) (q:Nat):decide (0<=rX p q)=aH p p.ni q:=by
 unfold rX
 split
 ·rename_i h;rw [h];simp
 ·rename_i h;simp only [Bool.not_eq_true] at h;rw [h];simp
def fE (w:World) (g n:Nat) (f:Nat->Int):Prop:=ah w 3 g (n*1) (fun j=>.int .i64 (f j))
theorem fE.get {w:World} {g n:Nat} {f:Nat->Int} (h:fE w g n f) {j:Nat} (hj:j<n):w.cell? ⟨g,j,none⟩=some (.int .i64 (f j)):=ah.cell h (by omega)
theorem fE.low {w w':World} {g n B:Nat} {f:Nat->Int} (h:fE w g n f) (hb:Below B w w') (hB:g<B):fE w' g n f:=ah.low h hb hB
theorem fE.set {w:World} {g n:Nat} {f f':Nat->Int} {k:Nat} {x:Int} (h:fE w g n f) (hk:k<n) (he:∀ j,j<n->f' j=if j=k then x else f j):fE (w.setCell ⟨g,k,none⟩ (.int .i64 x)) g n f':=
 (ah.set h (by omega) (.int .i64 x)).congr (fun j hj=>by
   have:=he j (by omega)
   by_cases e:j=k
   ·subst e;simp [this]
   ·simp [this,e])
theorem fE.same {w:World} {g n:Nat} {f f':Nat->Int} (h:fE w g n f) (he:∀ j,j<n->f j=f' j):fE w g n f':=ah.congr h (fun j hj=>congrArg (Value.int .i64) (he j (by omega)))
theorem Ew {w w1:World} {n cap:Nat} (h:w1.ownsRow w.heap.size 3 1 (.slice (some ⟨w.heap.size,0,none⟩) n cap) n (madeCells (Value.int .i64 0).cells (n*1)).toList):fE w1 w.heap.size n (fun _=>0):=by
 refine (bQ h).congr (fun j hj=>?_)
 rw [F.made_ints,List.getD_eq_getElem?_getD,List.getElem?_map,List.getElem?_replicate,if_pos (by omega)]
 rfl
theorem Gh (p:PV) (k:Nat):(jmp (p.i0 k)&&inI (p.i2 k) 0 ((p.ni:Int)-1))=mJ p k:=by
 unfold mJ inI
 cases jmp (p.i0 k)
 ·rfl
 ·by_cases h0:0<=p.i2 k
  ·by_cases h1:p.i2 k<p.ni
   ·have h2:p.i2 k<=(p.ni:Int)-1:=by omega
    simp [h0,h1,h2]
   ·have h2:¬ p.i2 k<=(p.ni:Int)-1:=by omega
    simp [h0,h1,h2]
  ·simp [h0]
theorem sV {w:World} {v:Value} {n:Nat} {i0 i1 i2 i3:Nat->Int} (h:jQ w v n i0 i1 i2 i3) {k:Nat} (hk:k<n):∃ b o cap,v=.slice (some ⟨b,o,none⟩) n cap/\b<w.heap.size/\w.cell? ⟨b,o+k*4,none⟩=some (.int .i64 (i0 k))/\w.cell? ⟨b,o+k*4+1,none⟩=some (.int .i64 (i1 k))/\w.cell? ⟨b,o+k*4+2,none⟩=some (.int .i64 (i2 k))/\w.cell? ⟨b,o+k*4+3,none⟩=some (.int .i64 (i3 k)):=by
 rcases h with ⟨h0,_⟩|⟨b,o,cap,hv,hb,hc,h⟩
 ·omega
 ·exact ⟨b,o,cap,hv,hb,(h k hk).1,(h k hk).2.1,(h k hk).2.2.1,(h k hk).2.2.2⟩
abbrev iO (p:PV) (s4 s5 s6 s7:Value):Obj:=.cells #[.int .i64 p.params,.int .i64 p.regs,.int .i64 p.line,.bool p.dots,s4,s5,s6,s7] 43
set_option maxHeartbeats 3200000 in
set_option maxRecDepth 100000 in
theorem yx (p:PV) (s4 s5 s6 s7:Value) (w:World) (hn:p.ni<=1048576) (h:jQ w s6 p.ni p.i0 p.i1 p.i2 p.i3):
 Calls Tryz.prog 35 #[p.agg s4 s5 s6 s7] w fun e w'=>∃ g,e=.returned (.slice (some ⟨g,0,none⟩) p.ni p.ni)/\w.heap.size<=g/\fE w' g p.ni (rX p)/\Below w.heap.size w w':=by
 have HI:=hide h
 obtain ⟨a,cap,rfl⟩:=h.val
 clear h
 unfold PV.agg
 have HB0:=hide (b_1 w (iO p s4 s5 (.slice a p.ni cap) s7))
 have x6:(w.alloc (iO p s4 s5 (.slice a p.ni cap) s7)).cell? ⟨w.heap.size,6,none⟩=some (.slice a p.ni cap):=by simp
 have HX:Hid (ah (w.alloc (iO p s4 s5 (.slice a p.ni cap) s7)) 43 w.heap.size 8 (fun j=>(#[.int .i64 p.params,.int .i64 p.regs,.int .i64 p.line,.bool p.dots,s4,s5,.slice a p.ni cap,s7]:Array Value).getD j (.bool false))):=hide (ah.mk' w 43 _)
 obtain ⟨i9,hi0,hz0,hz1,hz2⟩:=info_parts Tryz.info3
 go_enter Tryz.func35,Tryz.ntmps35
 go_wp2_with (first
  |(at_make;refine wpList_make_full _ rfl _ _ 41 rfl _ 3 i9 (.int .i64 0) 1 Tryz.underlying41 hi0 hz0 hz1 _ _ _ _ p.ni rfl rfl rfl rfl (by rw [hz2];omega) (by unfold maxLen;omega) (Nat.le_refl _) ?_;intro w1 hown hgrow)
  |go_in)
 have HS0:Hid (fE w1 (w.heap.size+1) p.ni (fun _=>0)):=hide (by
  have:=Ew (w:=w.alloc (iO p s4 s5 (.slice a p.ni cap) s7)) hown
  simpa using this)
 have HB1:Hid (Below w.heap.size w w1):=hide (HB0.out.trans ((Below.refl _ _).grown hgrow (by simp) (fun _ h=>by cases h)))
 have HX1:=hide (HX.out.kept hgrow (by simp))
 clear hown hgrow HB0 HX x6
 generalize hgO:w.heap.size+1=gO at *
 have HG:Hid (w.heap.size<=gO):=hide (by omega)
 have HG2:Hid (w.heap.size≠gO):=hide (by omega)
 clear hgO
 go_loopw [16] (fun iv wr=>∃ k:Nat,k<=p.ni/\iv=.int .i64 (k:Int)/\Hid (fE wr gO p.ni (fun j=>if j<k then -1 else 0))/\Hid (ah wr 43 w.heap.size 8 (fun j=>(#[.int .i64 p.params,.int .i64 p.regs,.int .i64 p.line,.bool p.dots,s4,s5,.slice a p.ni cap,s7]:Array Value).getD j (.bool false)))/\Hid (Below w.heap.size w wr)) (fun iv _=>p.ni-gX iv)
 case atStart=>exact ⟨0,Nat.zero_le _,rfl,by simpa using HS0,HX1,HB1⟩
 case round=>
  clear HS0 HX1 HB1
  obtain ⟨k,hk,rfl,HS,HX,HB⟩:=hrel
  by_cases hkn:k<p.ni
  ·have c0:=HS.out.get hkn
   have fz:wr.frozen? ⟨gO,k,none⟩=false:=ah.frz HS.out k
   rw [if_neg (Nat.lt_irrefl k)] at c0
   go_wp2_with fail
   go_roundw
   case rel=>exact ⟨k+1,by omega,by simp,hide (HS.out.set hkn (fun j hj=>by
    by_cases e:j=k
    ·subst e;simp
    ·have:(j<k+1)↔(j<k):=by omega
     simp [this,e])),hide (HX.out.other HG2.out),hide (HB.out.setCell HG.out _)⟩
   case measure=>simp [gX];omega
  ·obtain rfl:k=p.ni:=by omega
   have HS':Hid (fE wr gO p.ni (fun j=>if aH p 0 j then 0 else -1)):=hide (HS.out.congr (fun j hj=>by
    have:j<p.ni:=by omega
    simp [this,Kc]))
   have y6:wr.cell? ⟨w.heap.size,6,none⟩=some (.slice a p.ni cap):=HX.out.cell (j:=6) (by omega)
   clear HS
   have HB1:=HB
   have HX1:=HX
   clear HB HX
   go_wp2_with fail
   generalize wr=w2 at *
   clear y6
   go_loopw [26] (fun iv wr=>∃ k:Nat,k<=p.ni/\iv=.int .i64 (k:Int)/\Hid (fE wr gO p.ni (fun j=>if aH p k j then 0 else -1))/\Hid (ah wr 43 w.heap.size 8 (fun j=>(#[.int .i64 p.params,.int .i64 p.regs,.int .i64 p.line,.bool p.dots,s4,s5,.slice a p.ni cap,s7]:Array Value).getD j (.bool false)))/\Hid (Below w.heap.size w wr)) (fun iv _=>p.ni-gX iv)
   case atStart=>exact ⟨0,Nat.zero_le _,rfl,HS',HX1,HB1⟩
   case round=>
    clear HS' HX1 HB1
    obtain ⟨k,hk,rfl,HS,HX,HB⟩:=hrel
    by_cases hkn:k<p.ni
    ·obtain ⟨b,o,cap',hv,hb,c0,c1,c2,c3⟩:=sV (HI.out.low HB.out (Nat.le_refl _)) hkn
     simp only [Value.slice.injEq,true_and] at hv
     obtain ⟨rfl,rfl⟩:=hv
     obtain ⟨wi,hwi⟩:∃ wi,wr.alloc (.cells #[.int .i64 (p.i0 k),.int .i64 (p.i1 k),.int .i64 (p.i2 k),.int .i64 (p.i3 k)] 45)=wi:=⟨_,rfl⟩
     have hB:=b_1 wr (.cells #[.int .i64 (p.i0 k),.int .i64 (p.i1 k),.int .i64 (p.i2 k),.int .i64 (p.i3 k)] 45)
     rw [hwi] at hB
     have hZr:=HX.out.lt
     have hGr:gO<wr.heap.size:=ah.lt HS.out
     have HS9:=hide (fE.low HS.out hB hGr)
     have HX9:=hide (HX.out.low hB hZr)
     have HB9:=hide (HB.out.trans (hB.mono (Nat.le_of_lt hZr)))
     have y6:wi.cell? ⟨w.heap.size,6,none⟩=some (.slice (some ⟨b,o,none⟩) p.ni cap):=HX9.out.cell (j:=6) (by omega)
     have i0:wi.cell? ⟨wr.heap.size,0,none⟩=some (.int .i64 (p.i0 k)):=by rw [<-hwi];simp
     have i2:wi.cell? ⟨wr.heap.size,2,none⟩=some (.int .i64 (p.i2 k)):=by rw [<-hwi];simp
     have hij:=Gh p k
     have fz:∀ q,wi.frozen? ⟨gO,q,none⟩=false:=fun q=>ah.frz HS9.out q
     have nxt:Hid (∀ (f':Nat->Int) (w':World),fE w' gO p.ni f'->(∀ j,j<p.ni->f' j=if aH p (k+1) j then 0 else -1)->fE w' gO p.ni (fun j=>if aH p (k+1) j then 0 else -1)):=hide (fun f' w' h1 h2=>ah.congr h1 (fun j hj=>by rw [h2 j (by omega)]))
     clear hB
     by_cases hJ:mJ p k=true
     ·have hj1:jmp (p.i0 k)=true:=by
       unfold mJ at hJ
       simp only [Bool.and_eq_true] at hJ
       exact hJ.1.1
      obtain ⟨q,hq⟩:∃ q:Nat,p.i2 k=(q:Int):=by
       unfold mJ at hJ
       simp only [Bool.and_eq_true,decide_eq_true_eq] at hJ
       exact ⟨(p.i2 k).toNat,by omega⟩
      have hq2:q<p.ni:=by
       unfold mJ at hJ
       simp only [Bool.and_eq_true,decide_eq_true_eq] at hJ
       omega
      have hin:inI (q:Int) 0 ((p.ni:Int)-1)=true:=by
       rw [hj1,hJ,hq] at hij
       simpa using hij
      have cq:=HS9.out.get hq2
      have Hs:Hid (∀ j,j<p.ni->(if j=q then (0:Int) else if aH p k j then 0 else -1)=if aH p (k+1) j then 0 else -1):=hide (fun j hj=>by
       rw [nH,hJ,hq]
       by_cases e:j=q
       ·subst e;simp
       ·have:¬ ((q:Int)=(j:Int)):=by omega
        simp [e,this])
      rw [hq] at c2 i2 hwi
      clear hij hJ hq
      go_wp2_with (first
       |(go_at_call 36;refine (d_ _ _).mono ?_;rintro e w9 ⟨rfl,rfl⟩)
       |(go_at_call 37;refine (bC _ _ _ _).mono ?_;rintro e w9 ⟨rfl,rfl⟩)
       |fail)
      go_roundw
      case rel=>exact ⟨k+1,by omega,by simp,hide (HS9.out.set hq2 (fun j hj=>(Hs.out j hj).symm)),hide (HX9.out.other HG2.out),hide (HB9.out.setCell HG.out _)⟩
      case measure=>simp [gX];omega
     ·simp only [Bool.not_eq_true] at hJ
      have Hs:Hid (∀ j,(if aH p k j then (0:Int) else -1)=if aH p (k+1) j then 0 else -1):=hide (fun j=>by
       rw [nH,hJ]
       simp)
      have HS8:Hid (fE wi gO p.ni (fun j=>if aH p (k+1) j then 0 else -1)):=hide (fE.same HS9.out (fun j _=>Hs.out j))
      rw [hJ] at hij
      clear hJ
      by_cases hj1:jmp (p.i0 k)=true
      ·have hin:inI (p.i2 k) 0 ((p.ni:Int)-1)=false:=by
        rw [hj1] at hij
        simpa using hij
       clear hij
       go_wp2_with (first
        |(go_at_call 36;refine (d_ _ _).mono ?_;rintro e w9 ⟨rfl,rfl⟩)
        |(go_at_call 37;refine (bC _ _ _ _).mono ?_;rintro e w9 ⟨rfl,rfl⟩)
        |fail)
       go_roundw
       case rel=>exact ⟨k+1,by omega,by simp,HS8,HX9,HB9⟩
       case measure=>simp [gX];omega
      ·simp only [Bool.not_eq_true] at hj1
       clear hij
       go_wp2_with (first
        |(go_at_call 36;refine (d_ _ _).mono ?_;rintro e w9 ⟨rfl,rfl⟩)
        |(go_at_call 37;refine (bC _ _ _ _).mono ?_;rintro e w9 ⟨rfl,rfl⟩)
        |fail)
       go_roundw
       case rel=>exact ⟨k+1,by omega,by simp,HS8,HX9,HB9⟩
       case measure=>simp [gX];omega
    ·obtain rfl:k=p.ni:=by omega
     have HS':Hid (fE wr gO p.ni (fun j=>if j<0 then rX p j else if aH p p.ni j then 0 else -1)):=hide (HS.out.congr (fun j hj=>by simp))
     have HB1:=HB
     clear HS HB HX
     go_wp2_with fail
     generalize wr=w3 at *
     go_loopw [7,49] (fun nv iv wr=>∃ k:Nat,k<=p.ni/\nv=.int .i64 (lbl p k:Int)/\iv=.int .i64 (k:Int)/\Hid (fE wr gO p.ni (fun j=>if j<k then rX p j else if aH p p.ni j then 0 else -1))/\Hid (Below w.heap.size w wr)) (fun _ iv _=>p.ni-gX iv)
     case atStart=>exact ⟨0,Nat.zero_le _,rfl,rfl,HS',HB1⟩
     case round=>
      clear HS' HB1
      obtain ⟨k,hk,rfl,rfl,HS,HB⟩:=hrel
      by_cases hkn:k<p.ni
      ·have c0:=HS.out.get hkn
       have fz:wr.frozen? ⟨gO,k,none⟩=false:=ah.frz HS.out k
       rw [if_neg (Nat.lt_irrefl k)] at c0
       have hll:=qV p k
       by_cases ha:aH p p.ni k=true
       ·rw [ha,if_pos rfl] at c0
        have HL:Hid (lbl p (k+1)=lbl p k+1):=hide (by rw [JC,ha];simp)
        have HV:Hid (rX p k=lbl p k):=hide (by unfold rX;rw [ha];simp)
        clear ha
        go_wp2_with fail
        go_roundw
        case rel=>exact ⟨k+1,by omega,by rw [HL.out];simp,by simp,hide (HS.out.set hkn (fun j hj=>by
         by_cases e:j=k
         ·subst e;simp [HV.out]
         ·have:(j<k+1)↔(j<k):=by omega
          simp [this,e])),hide (HB.out.setCell HG.out _)⟩
        case measure=>simp [gX];omega
       ·simp only [Bool.not_eq_true] at ha
        rw [ha] at c0
        simp only [Bool.false_eq_true,if_false] at c0
        have HL:Hid (lbl p (k+1)=lbl p k):=hide (by rw [JC,ha];simp)
        have HV:Hid (∀ j,(if j<k then rX p j else if aH p p.ni j then 0 else -1)=(if j<k+1 then rX p j else if aH p p.ni j then 0 else -1)):=hide (fun j=>by
         by_cases e:j=k
         ·subst e;simp [ha,rX]
         ·have:(j<k+1)↔(j<k):=by omega
          simp [this])
        clear ha
        go_wp2_with fail
        go_roundw
        case rel=>exact ⟨k+1,by omega,by rw [HL.out],by simp,hide (fE.same HS.out (fun j _=>HV.out j)),HB⟩
        case measure=>simp [gX];omega
      ·obtain rfl:k=p.ni:=by omega
       have HS':Hid (fE wr gO p.ni (rX p)):=hide (HS.out.congr (fun j hj=>by
        have:j<p.ni:=by omega
        simp [this]))
       clear HS
       go_wp2_with fail
       go_ret
       exact ⟨gO,rfl,HG.out,HS'.out,HB.out⟩
def lJ (w:World) (B:Nat) (v:Value) (L:List UInt8):Prop:=
 ∃ g cap cur fz,v=.slice (some ⟨g,0,none⟩) L.length cap/\B<=g/\w.heap[g]?=some (.cells cur 5 fz)/\(cur.size<=fz.1∨fz.2=0)/\L.length<=cap/\cap<=maxLen/\cur.size=cap/\cur.toList.take L.length=Lib.byteCells L
theorem lJ.lt {w:World} {B:Nat} {v:Value} {L:List UInt8} (h:lJ w B v L):∀ q,v.ownBlock=some q->B<=q/\q<w.heap.size:=by
 obtain ⟨g,cap,cur,fz,rfl,hB,hg,_⟩:=h
 intro q hq
 simp [Value.ownBlock] at hq
 subst hq
 exact ⟨hB,(Array.getElem?_eq_some_iff.1 hg).1⟩
theorem lJ.val {w:World} {B:Nat} {v:Value} {L:List UInt8} (h:lJ w B v L):∃ g cap,v=.slice (some ⟨g,0,none⟩) L.length cap/\B<=g/\g<w.heap.size:=by
 obtain ⟨g,cap,cur,fz,rfl,hB,hg,_⟩:=h
 exact ⟨g,cap,rfl,hB,(Array.getElem?_eq_some_iff.1 hg).1⟩
theorem lJ.low {w w':World} {B:Nat} {v:Value} {L:List UInt8} (h:lJ w B v L) (hb:Below w.heap.size w w'):lJ w' B v L:=by
 obtain ⟨g,cap,cur,fz,rfl,hB,hg,r⟩:=h
 exact ⟨g,cap,cur,fz,rfl,hB,(hb.block g (Array.getElem?_eq_some_iff.1 hg).1).trans hg,r⟩
theorem lJ.less {w:World} {B B':Nat} {v:Value} {L:List UInt8} (h:lJ w B v L) (hB:B'<=B):lJ w B' v L:=by
 obtain ⟨g,cap,cur,fz,rfl,h1,r⟩:=h
 exact ⟨g,cap,cur,fz,rfl,by omega,r⟩
theorem lJ.apart {w:World} {B T g N:Nat} {v:Value} {L:List UInt8} {f:Nat->Value} (h:lJ w B v L) (h':ah w T g N f) (hT:5≠T):v.ownBlock≠some g:=by
 obtain ⟨g',cap,cur,fz,rfl,h1,hg,_⟩:=h
 obtain ⟨cur',e,_⟩:=h'
 intro hq
 simp [Value.ownBlock] at hq
 subst hq
 rw [hg] at e
 simp only [Option.some.injEq,Obj.cells.injEq] at e
 exact hT e.2.1
theorem lJ.cells {w:World} {B:Nat} {v:Value} {L:List UInt8} (h:lJ w B v L):∃ g cap,v=.slice (some ⟨g,0,none⟩) L.length cap/\∀ j u,(Lib.byteCells L)[j]?=some u->w.cell? ((⟨g,0,none⟩:Addr).add j)=some u:=by
 obtain ⟨g,cap,cur,fz,rfl,hB,hg,hz,hn,hc,hs,ht⟩:=h
 refine ⟨g,cap,rfl,fun j u hu=>?_⟩
 rw [eu,Nat.zero_add,cell_of_row w g j cur _ fz hg]
 rw [<-ht,List.getElem?_take] at hu
 split at hu
 ·simpa using hu
 ·cases hu
theorem lJ.conv (w:World) (s:ByteArray) (hs:s.size<=140737488355328):lJ (Lib.bytesWorld w 5 s) w.heap.size (.slice (some ⟨w.heap.size,0,none⟩) s.size (grownCap w s.size 0 5)) s.data.toList:=by
 have hl:s.data.toList.length=s.size:=by simp
 have hge:=grownCap_ge w s.size 0 5
 have hmx:=grownCap_le_maxLen w s.size 0 5 (by unfold maxLen;omega)
 have hsz:(Lib.bytesCells w 5 s).size=grownCap w s.size 0 5:=by
  unfold Lib.bytesCells
  rw [Array.size_append,Array.size_map,Array.size_replicate]
  show s.size+_=_
  omega
 refine ⟨w.heap.size,_,_,_,by rw [hl],Nat.le_refl _,Lib.bytesWorld_at_new w 5 s,.inl (Nat.le_refl _),by rw [hl];exact hge,hmx,hsz,?_⟩
 unfold Lib.bytesCells Lib.byteCells
 rw [Array.toList_append,Array.toList_map]
 rw [List.take_append_of_le_length (by simp)]
 rw [List.take_of_length_le (by simp)]
theorem Cn (P:Program) (g o:Nat) (t:TypeId) (fz:Nat × Nat):∀ (vs:List Value) (i:Nat) (cur:Array Value) (w:World),w.heap[g]?=some (.cells cur t fz)->(cur.size<=fz.1∨fz.2=0)->o+i+vs.length<=cur.size->(∀ u∈vs,u.oneCell'=true)->
 (storeCells ⟨g,o,none⟩ vs i).run P w=.ok () (w.setRow g (cur.toList.take (o+i)++vs++cur.toList.drop (o+i+vs.length)).toArray)
 | [],i,cur,w,hg,_,_,_=>by
   simp only [storeCells,List.append_nil,List.length_nil,Nat.add_zero,List.take_append_drop,Array.toArray_toList]
   rw [setRow_self w g cur t fz hg]
   rfl
 |v::rest,i,cur,w,hg,hfz,hl,h1=>by
  have hi:o+i<cur.size:=by simp at hl;omega
  have hadd:(⟨g,o,none⟩:Addr).add i=⟨g,o+i,none⟩:=eu ..
  have hcell:w.cell? ⟨g,o+i,none⟩=some cur[o+i]:=by simp [World.cell?,hg,hi]
  have hfro:w.frozen? ⟨g,o+i,none⟩=false:=by
   obtain ⟨lo,hi'⟩:=fz
   simp only [World.frozen?,hg,Bool.and_eq_false_iff,decide_eq_false_iff_not]
   simp only at hfz
   rcases hfz with h|h
   ·left;omega
   ·right;omega
  have hst:(store ((⟨g,o,none⟩:Addr).add i) v).run P w=.ok () (w.setRow g (cur.setIfInBounds (o+i) v)):=by
   rw [hadd,run_store P w _ v _ (h1 v (by simp)),hcell]
   simp [hfro,setCell_eq_setRow w g (o+i) cur t fz v hg]
  have ih:=Cn P g o t fz rest (i+1) (cur.setIfInBounds (o+i) v) (w.setRow g (cur.setIfInBounds (o+i) v)) (setRow_heap w g cur _ t _ hg) (by simpa using hfz) (by simp at hl ⊢;omega) (fun x hx=>h1 x (by simp [hx]))
  simp only [storeCells,Sem.run_bind,hst,Result.andThen_ok,ih,setRow_setRow]
  congr 3
  have e:=list_seg_step cur.toList (o+i) v rest (by simp at hl ⊢;omega)
  simpa [Array.toList_setIfInBounds,Nat.add_assoc] using e
theorem Dx (w:World) (base:Nat) (ty:TypeId) (v:Value) (L:List UInt8) (s:ByteArray) (hown:lJ w base v L) (hlen:L.length+s.size<=140737488355328) (hbase:base<=w.heap.size):
 ∃ v' w',(Builtin.append_ #[35,9] ty #[v,.string s]).run Tryz.prog w=.ok v' w'/\lJ w' base v' (L++s.data.toList)/\w.grownBy w' v.ownBlock:=by
 obtain ⟨i,hi,hz,hsize,hby⟩:=info_parts lZ
 have ht:=Tryz.underlying35
 have hu:=Tryz.underlying9
 have hsl:s.data.toList.length=s.size:=by simp
 have hcl:(Lib.byteCells (L++s.data.toList))=Lib.byteCells L++Lib.strCells s:=by rw [Lib.byteCells_append];rfl
 obtain ⟨g,cap,cur,fz,rfl,hbg,hg,hfz,hnc,hcm,hcs,htake⟩:=hown
 have hxl:(Lib.byteCells L).length=L.length:=by simp [Lib.byteCells]
 have hlen':(Lib.byteCells L++Lib.strCells s).length=L.length+s.size:=by rw [List.length_append,hxl,Lib.strCells_length]
 by_cases hroom:L.length+s.size<=cap
 ·have hst:=Cn Tryz.prog g L.length 5 fz (Lib.strCells s) 0 cur w hg hfz (by rw [Lib.strCells_length];omega) (Lib.strCells_oneCell s)
  simp only [Nat.add_zero,Lib.strCells_length] at hst
  have hr:(Builtin.append_ #[35,9] ty #[.slice (some ⟨g,0,none⟩) L.length cap,.string s]).run Tryz.prog w=.ok (.slice (some ⟨g,0,none⟩) (L.length+s.size) cap) (w.setRow g (cur.toList.take L.length++Lib.strCells s++cur.toList.drop (L.length+s.size)).toArray):=by
   have hf:=Lib.run_firstCells_string (P:=Tryz.prog) w 1 s
   simp [Builtin.append_,run_underlying ht,run_underlying hu,sizeOf,typeInfo,hi,hsize,Builtin.lenOf,hroom,hf,Addr.add_lit,hst]
  refine ⟨_,_,hr,⟨g,cap,_,fz,by rw [List.length_append,hsl],hbg,setRow_heap w g cur _ _ _ hg,?_,by rw [List.length_append,hsl];exact hroom,hcm,?_,?_⟩,⟨rfl,rfl,rfl,by simp,fun k _ hk=>setRow_other w g k _ (fun e=>hk (by simp [Value.ownBlock,e]))⟩⟩
  ·have e:(cur.toList.take L.length++Lib.strCells s++cur.toList.drop (L.length+s.size)).toArray.size=cur.size:=by
    simp only [List.size_toArray,List.length_append,List.length_take,List.length_drop,Array.length_toList,Lib.strCells_length]
    omega
   rw [e]
   exact hfz
  ·simp only [List.size_toArray,List.length_append,List.length_take,List.length_drop,Array.length_toList,Lib.strCells_length]
   omega
  ·rw [hcl,htake,List.length_append,hsl,<-hlen']
   exact List.take_left
 ·have holds:∀ j u,(Lib.byteCells L)[j]?=some u->w.cell? ((⟨g,0,none⟩:Addr).add j)=some u:=by
   obtain ⟨g',cap',e,hh⟩:=lJ.cells (w:=w) (B:=base) (v:=.slice (some ⟨g,0,none⟩) L.length cap) (L:=L) ⟨g,cap,cur,fz,rfl,hbg,hg,hfz,hnc,hcm,hcs,htake⟩
   simp only [Value.slice.injEq,Option.some.injEq,Addr.mk.injEq,and_true,true_and] at e
   obtain ⟨rfl,_⟩:=e
   exact hh
  have hr:=Lib.run_append_grow_string (P:=Tryz.prog) w 35 9 ty 5 i (.int .u8 0) ht hu hi hz ⟨g,0,none⟩ L.length cap (Lib.byteCells L) (by rw [hsize];simpa using hxl) holds s (by omega) (by omega) (by rw [hby];exact growslice_fits (by omega) (by omega))
  have hge:=grownCap_ge w (L.length+s.size) cap 5
  have hcm2:grownCap w (L.length+s.size) cap 5<=maxLen:=grownCap_le_maxLen w (L.length+s.size) cap 5 (by unfold maxLen;omega)
  refine ⟨_,_,hr,⟨w.heap.size,_,_,(0,0),by rw [List.length_append,hsl],hbase,heap_alloc_new w.drew _,.inr rfl,by rw [List.length_append,hsl];exact hge,hcm2,?_,?_⟩,⟨rfl,rfl,rfl,by simp,fun k hk _=>(b_1 w.drew _).block k hk⟩⟩
  ·have hz1:(Value.int IntKind.u8 0).cells.size=1:=rfl
   simp only [Array.size_append,List.size_toArray,size_zeroCells,hz1,hxl,Lib.strCells_length]
   omega
  ·simp only [Array.toList_append,List.append_assoc]
   rw [hcl,List.length_append,hsl,<-List.append_assoc,<-hlen']
   exact List.take_left
theorem iY {wr:World} {o:Oper} {a:Act} {K:Act->World->Prop} {Q:Exit->Act->World->Prop} (sl x:Operand)
 (ho:o.op=.call { callee:=.builtin .append,args:=#[sl,x],argTypes:=#[35,9] }) (base:Nat) (v:Value) (L:List UInt8) (s:ByteArray) (hown:lJ wr base v L) (hs:a.eval sl=v) (hx:a.eval x=.string s)
 (hlen:L.length+s.size<=140737488355328) (hbase:base<=wr.heap.size)
 (h:∀ oa oc w' L',Hid (L'=L++s.data.toList)->Hid (lJ w' base (.slice oa L'.length oc) L')->Hid (∀ B w0,Below B w0 wr->B<=base->Below B w0 w')->Hid (∀ gx,gx<wr.heap.size->v.ownBlock≠some gx->w'.heap[gx]?=wr.heap[gx]?)->Hid (wr.heap.size<=w'.heap.size)->K (a.put o.dst (.slice oa L'.length oc)) w'):
 Oper.wp Tryz.prog o a wr K Q:=by
 obtain ⟨v',w',hr,h2,h3⟩:=Dx wr base o.type v L s hown hlen hbase
 unfold Oper.wp execOp
 simp only [ho,resolve,invoke,builtin,Sem.run_bind,Sem.run_pure,Result.andThen_ok,List.map_toArray,List.map_cons,List.map_nil,hs,hx,hr]
 have g1:∀ B w0,Below B w0 wr->B<=base->Below B w0 w':=fun B w0 hb hB=>hb.grown h3 (by omega) (fun q hq=>by have:=(hown.lt q hq).1;omega)
 obtain ⟨g,cap,rfl,_,_⟩:=h2.val
 exact h _ _ w' _ (hide rfl) (hide h2) (hide g1) (hide (fun gx hgx hne=>h3.block gx hgx (fun e=>hne e.symm))) (hide h3.size)
theorem zx {wr:World} {ops:Array Oper} {rest:List Oper} {o:Oper} {a:Act} {Q:Exit->Act->World->Prop} (hgd:o.guard=none) (sl x:Operand)
 (ho:o.op=.call { callee:=.builtin .append,args:=#[sl,x],argTypes:=#[35,9] }) (base:Nat) (v:Value) (L:List UInt8) (s:ByteArray) (hown:lJ wr base v L) (hs:a.eval sl=v) (hx:a.eval x=.string s)
 (hlen:L.length+s.size<=140737488355328) (hbase:base<=wr.heap.size)
 (h:∀ oa oc w' L',Hid (L'=L++s.data.toList)->Hid (lJ w' base (.slice oa L'.length oc) L')->Hid (∀ B w0,Below B w0 wr->B<=base->Below B w0 w')->Hid (∀ gx,gx<wr.heap.size->v.ownBlock≠some gx->w'.heap[gx]?=wr.heap[gx]?)->Hid (wr.heap.size<=w'.heap.size)->wpList Tryz.prog ops Q rest (a.put o.dst (.slice oa L'.length oc)) w'):
 wpList Tryz.prog ops Q (o::rest) a wr:=
 wpList_plain hgd fun _ hK=>iY sl x ho base v L s hown hs hx hlen hbase fun oa oc w' L' h1 h2 h3 h4 h5=>hK _ _ (h oa oc w' L' h1 h2 h3 h4 h5)
def dA (w:World) (g:Nat) (p:PV) (s4 s5 s6 s7:Value):Prop:=ah w 43 g 8 (fun j=>(#[.int .i64 p.params,.int .i64 p.regs,.int .i64 p.line,.bool p.dots,s4,s5,s6,s7]:Array Value).getD j (.bool false))
theorem dA.mk (w:World) (p:PV) (s4 s5 s6 s7:Value):dA (w.alloc (iO p s4 s5 s6 s7)) w.heap.size p s4 s5 s6 s7:=ah.mk' w 43 _
theorem dA.low {w w':World} {g B:Nat} {p:PV} {s4 s5 s6 s7:Value} (h:dA w g p s4 s5 s6 s7) (hb:Below B w w') (hg:g<B):dA w' g p s4 s5 s6 s7:=ah.low h hb hg
theorem dA.all {w:World} {g:Nat} {p:PV} {s4 s5 s6 s7:Value} (h:dA w g p s4 s5 s6 s7):w.cell? ⟨g,0,none⟩=some (.int .i64 p.params)/\w.cell? ⟨g,1,none⟩=some (.int .i64 p.regs)/\w.cell? ⟨g,2,none⟩=some (.int .i64 p.line)/\w.cell? ⟨g,3,none⟩=some (.bool p.dots)/\w.cell? ⟨g,4,none⟩=some s4/\w.cell? ⟨g,5,none⟩=some s5/\w.cell? ⟨g,6,none⟩=some s6/\w.cell? ⟨g,7,none⟩=some s7:=
 ⟨ah.cell h (j:=0) (by omega),ah.cell h (j:=1) (by omega),ah.cell h (j:=2) (by omega),ah.cell h (j:=3) (by omega),ah.cell h (j:=4) (by omega),ah.cell h (j:=5) (by omega),ah.cell h (j:=6) (by omega),ah.cell h (j:=7) (by omega)⟩
theorem aj {x y:List UInt8} {a b:Nat} (hx:x.length<=a) (hy:y.length<=b):(x++y).length<=a+b:=by rw [List.length_append];omega
theorem aD {x y:List UInt8} {a b:Nat} (hx:x.length<=a) (hy:y.length<=b) (h:a+b<=1000000000) (w:World):(Op.stringOp .add (bT x) (bT y)).run Tryz.prog w=.ok (.string (bT (x++y))) w:=by
 rw [run_string_add_sum w (bT x) (bT y) (by rw [dN,dN];omega),Nh]
def E1 (p:PV) (i:Nat):List UInt8:=flat (je p::(List.range i).map (qc p))
def E2 (T:Int->List UInt8) (p:PV) (i:Nat):List UInt8:=E1 p p.nu++flat ((List.range i).map (dB T p))
def E3 (T:Int->List UInt8) (p:PV) (i:Nat):List UInt8:=E2 T p p.nc++flat ((List.range i).map (iL p))
theorem QS (p:PV):E1 p 0=je p++[10]:=by simp [E1,flat]
theorem QF (T:Int->List UInt8) (p:PV):E2 T p 0=E1 p p.nu:=by simp [E2,flat]
theorem Qr (T:Int->List UInt8) (p:PV):E3 T p 0=E2 T p p.nc:=by simp [E3,flat]
theorem Qd (p:PV) (i:Nat):E1 p (i+1)=E1 p i++(qc p i++[10]):=by
 unfold E1
 rw [jI,jI,ko]
 simp only [List.append_assoc]
theorem Oy (T:Int->List UInt8) (p:PV) (i:Nat):E2 T p (i+1)=E2 T p i++(dB T p i++[10]):=by
 unfold E2
 rw [ko,List.append_assoc]
theorem Fh (T:Int->List UInt8) (p:PV) (i:Nat):E3 T p (i+1)=E3 T p i++(iL p i++[10]):=by
 unfold E3
 rw [ko,List.append_assoc]
theorem Jq (T:Int->List UInt8) (p:PV):E3 T p p.ni=flat (aJ T p):=by
 unfold E3 E2 E1 aJ
 rw [jI,jI,jN,jN]
 simp only [List.append_assoc]
theorem qK {f:Nat->List UInt8} {m:Nat} (k:Nat) (h:∀ i,i<k->(f i).length<=m):(flat ((List.range k).map f)).length<=k*(m+1):=by
 induction k with
 |zero=>simp [flat]
 |succ k ih=>
  rw [ko,List.length_append,List.length_append]
  have h1:=ih (fun i hi=>h i (by omega))
  have h2:=h k (by omega)
  rw [Nat.succ_mul]
  simp only [List.length_cons,List.length_nil]
  omega
theorem cO (o:Int):(aU o).length<=9:=by
 unfold aU
 have h1:∀ k,(oH.getD k []).length<=9:=fun k=>by
  by_cases hk:k<39
  ·have:∀ k:Fin 39,(oH.getD k.val []).length<=9:=by decide
   exact this ⟨k,hk⟩
  ·have hl:oH.length=39:=rfl
   rw [List.getD_eq_getElem?_getD,List.getElem?_eq_none (by omega)]
   simp
 have h2:∀ k,(jA.getD k []).length<=9:=fun k=>by
  by_cases hk:k<15
  ·have:∀ k:Fin 15,(jA.getD k.val []).length<=9:=by decide
   exact this ⟨k,hk⟩
  ·have hl:jA.length=15:=rfl
   rw [List.getD_eq_getElem?_getD,List.getElem?_eq_none (by omega)]
   simp
 split
 ·exact h1 _
 ·split
  ·exact h2 _
  ·simp
structure Wri (p:PV):Prop where
 ok:fU p
 ints:∀ k,k<p.nc-> -9223372036854775808<=p.c1 k/\p.c1 k<=9223372036854775807
 bits:p.bitsOk
theorem j6 {v lo hi:Int} (h:inI v lo hi=true):lo<=v/\v<=hi:=by simpa [inI] using h
theorem Wri.head {p:PV} (h:Wri p):(0<=p.params/\p.params<=255)/\(0<=p.regs/\p.regs<=255)/\(0<=p.line/\p.line<=2147483647)/\p.nu<=255/\p.nc<=65535/\p.ni<=65535/\p.nl=p.ni:=by
 obtain ⟨h1,h2,h3,h4⟩:=h.ok.1
 exact ⟨j6 h1,j6 h2,j6 h3,h4⟩
theorem Wri.up {p:PV} (h:Wri p) {k:Nat} (hk:k<p.nu):0<=p.u1 k/\p.u1 k<=255:=j6 (h.ok.2.1 k hk)
theorem Wri.ins {p:PV} (h:Wri p) {k:Nat} (hk:k<p.ni):(0<=p.i0 k/\p.i0 k<=255)/\(0<=p.i1 k/\p.i1 k<=255)/\(-2147483648<=p.i2 k/\p.i2 k<=2147483647)/\(-2147483648<=p.i3 k/\p.i3 k<=2147483647)/\0<=p.l0 k/\p.l0 k<=2147483647:=by
 obtain ⟨⟨h1,h2,h3,h4⟩,h5⟩:=h.ok.2.2.2 k hk
 exact ⟨j6 h1,j6 h2,j6 h3,j6 h4,j6 h5⟩
theorem Wri.text {p:PV} (h:Wri p) {k:Nat} (hk:k<p.nc):(p.c3 k).size<=65536:=by
 rcases h.ok.2.2.1 k hk with ⟨_,_,ht⟩|⟨_,_,ht,_⟩|⟨_,_,_,ht⟩
 ·have:(p.c3 k).toList.length=0:=by rw [ht];rfl
  have h2:(p.c3 k).toList.length=(p.c3 k).size:=by rw [Go.ByteArray.toList_eq];simp
  omega
 ·have:(p.c3 k).toList.length=0:=by rw [ht];rfl
  have h2:(p.c3 k).toList.length=(p.c3 k).size:=by rw [Go.ByteArray.toList_eq];simp
  omega
 ·exact ht
theorem Wri.nan {p:PV} (h:Wri p) {k:Nat} (hk:k<p.nc) (h5:p.c0 k=5):kI (p.c2 k)=p.c2 k:=by
 rcases h.ok.2.2.1 k hk with ⟨h9,_⟩|⟨_,_,_,hn⟩|⟨h9,_⟩
 ·omega
 ·unfold kI
  split
  ·rename_i hgt
   by_cases e:p.c2 k=9221120237041090560
   ·exact e.symm
   ·exfalso
    refine hn ⟨?_,e⟩
    have hb:=h.bits k hk
    unfold isNanI
    simp
    omega
  ·rfl
 ·omega
theorem BJ (u:Int) (w:World) (h0:0<=u):Calls Tryz.prog 33 #[.int .u64 u] w fun e w'=>e=.returned (.agg #[.bool true,.int .i64 0,.int .u64 (kI u)])/\Below w.heap.size w w':=by
 by_cases hn:9218868437227405312<u%9223372036854775808
 ·have e:kI u=9221120237041090560:=by unfold kI;rw [if_pos hn]
  rw [e]
  go_enter Tryz.func33,Tryz.ntmps33
  go_wp2_with (first
   |(go_at_call 53;refine (F.isNanU_any u _ h0).mono ?_;rintro e w9 ⟨rfl,rfl⟩)
   |fail)
  exact bodyPost_ret (v:=.agg #[.bool true,.int .i64 0,.int .u64 9221120237041090560]) (by simp [results,Tryz.results33,go_sem]) rfl ⟨rfl,(Below.refl _ _).alloc (Nat.le_refl _) _⟩
 ·have e:kI u=u:=by unfold kI;rw [if_neg hn]
  rw [e]
  go_enter Tryz.func33,Tryz.ntmps33
  go_wp2_with (first
   |(go_at_call 53;refine (F.isNanU_any u _ h0).mono ?_;rintro e w9 ⟨rfl,rfl⟩)
   |fail)
  exact bodyPost_ret (v:=.agg #[.bool true,.int .i64 0,.int .u64 u]) (by simp [results,Tryz.results33,go_sem]) rfl ⟨rfl,(Below.refl _ _).alloc (Nat.le_refl _) _⟩
theorem Ro (p:PV) (i:Nat):qc p i++[10]=([32,32,117,112,32]:List UInt8)++(if p.u0 i then [108,111,99,97,108,32] else [111,117,116,101,114,32])++aW (p.u1 i)++[10]:=by
 unfold qc
 simp
theorem IL {p:PV} (hw:Wri p) {i:Nat} (hi:i<=p.nu):(E1 p i).length<=20000:=by
 obtain ⟨⟨p0,p1⟩,⟨r0,r1⟩,⟨l0,l1⟩,n1,n2,n3,n4⟩:=hw.head
 unfold E1
 rw [jI,List.length_append]
 have h1:=qK (f:=qc p) (m:=40) i (fun j hj=>by
  have hu:=hw.up (k:=j) (by omega)
  have hl:=aO (v:=p.u1 j) (by omega) (by omega)
  unfold qc
  split<;>(simp only [List.length_append,List.length_cons,List.length_nil];omega))
 have h2:(je p++[10]).length<=200:=by
  have a:=aO (v:=p.line) (by omega) (by omega)
  have b:=aO (v:=p.params) (by omega) (by omega)
  have c:=aO (v:=p.regs) (by omega) (by omega)
  unfold je oh
  simp only [List.length_append,List.length_cons,List.length_nil]
  omega
 have h3:i*(40+1)<=255*41:=Nat.mul_le_mul (by omega) (Nat.le_refl _)
 omega
theorem uj {T:Int->List UInt8} (hT:∀ u,(T u).length<=1000) {p:PV} (hw:Wri p) {j:Nat} (hj:j<p.nc):(dB T p j).length<=300000:=by
 have hc:=hw.ints j hj
 have hl:=aO (v:=p.c1 j) (by omega) (by omega)
 have hf:=hT (p.c2 j)
 have ht:=hw.text hj
 have hq:=vG (p.c3 j).data.toList
 have hs:(p.c3 j).data.toList.length=(p.c3 j).size:=by simp
 unfold dB yg
 split
 ·simp only [List.length_append,List.length_cons,List.length_nil];omega
 ·split
  ·simp only [List.length_append,List.length_cons,List.length_nil];omega
  ·simp only [List.length_append,List.length_cons,List.length_nil];omega
theorem wO {s:ByteArray} (h:s.size<=65536):(yg s.data.toList).length<=262146:=by
 have hq:=vG s.data.toList
 have hs:s.data.toList.length=s.size:=by simp
 unfold yg
 simp only [List.length_append,List.length_cons,List.length_nil]
 omega
theorem I6 {T:Int->List UInt8} (hT:∀ u,(T u).length<=1000) {p:PV} (hw:Wri p) {i:Nat} (hi:i<=p.nc):(E2 T p i).length<=20000000000:=by
 obtain ⟨_,_,_,n1,n2,n3,n4⟩:=hw.head
 unfold E2
 rw [List.length_append]
 have h0:=IL hw (Nat.le_refl p.nu)
 have h1:=qK (f:=dB T p) (m:=300000) i (fun j hj=>uj hT hw (by omega))
 have h3:i*(300000+1)<=65535*300001:=Nat.mul_le_mul (by omega) (Nat.le_refl _)
 omega
theorem Df {p:PV} (hw:Wri p) {j:Nat} (hj:j<p.ni):(iL p j).length<=200:=by
 obtain ⟨⟨a0,a1⟩,⟨b0,b1⟩,⟨c0,c1⟩,⟨d0,d1⟩,e0,e1⟩:=hw.ins hj
 obtain ⟨_,_,_,n1,n2,n3,n4⟩:=hw.head
 have l1:=aO (v:=p.l0 j) (by omega) (by omega)
 have l2:=aO (v:=p.i1 j) (by omega) (by omega)
 have l3:=aO (v:=p.i2 j) (by omega) (by omega)
 have l4:=aO (v:=p.i3 j) (by omega) (by omega)
 have l5:=cO (p.i0 j)
 have g1:=qV p j
 have g2:=qV p (p.i2 j).toNat
 have l6:=aO (v:=(lbl p j:Int)) (by omega) (by omega)
 have l7:=aO (v:=(lbl p (p.i2 j).toNat:Int)) (by omega) (by omega)
 unfold iL
 split<;>split<;>(simp only [List.length_append,List.length_cons,List.length_nil];omega)
theorem Ia {T:Int->List UInt8} (hT:∀ u,(T u).length<=1000) {p:PV} (hw:Wri p) {i:Nat} (hi:i<=p.ni):(E3 T p i).length<=30000000000:=by
 obtain ⟨_,_,_,n1,n2,n3,n4⟩:=hw.head
 unfold E3
 rw [List.length_append]
 have h0:=I6 hT hw (Nat.le_refl p.nc)
 have h1:=qK (f:=iL p) (m:=200) i (fun j hj=>Df hw (by omega))
 have h3:i*(200+1)<=65535*201:=Nat.mul_le_mul (by omega) (Nat.le_refl _)
 omega
theorem qO {p:PV} {i:Nat} (hi:i<p.ni) (h:mJ p i=true):aH p p.ni (p.i2 i).toNat=true:=by
 have h2:=h
 unfold mJ at h2
 simp only [Bool.and_eq_true,decide_eq_true_eq] at h2
 unfold aH
 rw [List.any_eq_true]
 refine ⟨i,List.mem_range.2 hi,?_⟩
 rw [h,Bool.true_and,decide_eq_true_eq]
 omega
def lD (v:Int):Prop:= -9223372036854775808<=v/\v<=9223372036854775807
theorem eZ {v:Int} (h:lD v):(aW v).length<=20:=aO h.1 h.2
theorem oK {v:Int} (h:lD v) (w:World):Calls Tryz.prog 30 #[.int .i64 v] w fun e w'=>e=.returned (.string (bT (aW v)))/\Below w.heap.size w w':=mW v w h.1 h.2
structure InsD (p:PV) (k:Nat):Prop where
 a:lD (p.i0 k)
 b:lD (p.i1 k)
 c:lD (p.i2 k)
 d:lD (p.i3 k)
 l:lD (p.l0 k)
 x:lD ((lbl p k:Nat):Int)
 y:lD ((lbl p (p.i2 k).toNat:Nat):Int)
theorem Wri.insD {p:PV} (h:Wri p) {k:Nat} (hk:k<p.ni):InsD p k:=by
 obtain ⟨⟨x0,x1⟩,⟨y0,y1⟩,⟨z0,z1⟩,⟨t0,t1⟩,v0,v1⟩:=h.ins hk
 obtain ⟨_,_,_,n1,n2,n3,n4⟩:=h.head
 have g1:=qV p k
 have g2:=qV p (p.i2 k).toNat
 exact ⟨⟨by omega,by omega⟩,⟨by omega,by omega⟩,⟨by omega,by omega⟩,⟨by omega,by omega⟩,⟨by omega,by omega⟩,⟨by omega,by omega⟩,⟨by omega,by omega⟩⟩
theorem MF {w:World} {v:Value} {n:Nat} {x0:Nat->Bool} {x1:Nat->Int} (h:mq w v n x0 x1) {k:Nat} (hk:k<n):∃ b o cap,v=.slice (some ⟨b,o,none⟩) n cap/\b<w.heap.size/\w.cell? ⟨b,o+k*2,none⟩=some (.bool (x0 k))/\w.cell? ⟨b,o+k*2+1,none⟩=some (.int .i64 (x1 k)):=by
 rcases h with ⟨h0,_⟩|⟨b,o,cap,hv,hb,hc,h⟩
 ·omega
 ·exact ⟨b,o,cap,hv,hb,(h k hk).1,(h k hk).2⟩
theorem Jv {w:World} {v:Value} {n:Nat} {c0 c1 c2:Nat->Int} {c3:Nat->ByteArray} (h:gD w v n c0 c1 c2 c3) {k:Nat} (hk:k<n):∃ b o cap,v=.slice (some ⟨b,o,none⟩) n cap/\b<w.heap.size/\w.cell? ⟨b,o+k*4,none⟩=some (.int .i64 (c0 k))/\w.cell? ⟨b,o+k*4+1,none⟩=some (.int .i64 (c1 k))/\w.cell? ⟨b,o+k*4+2,none⟩=some (.int .u64 (c2 k))/\w.cell? ⟨b,o+k*4+3,none⟩=some (.string (c3 k)):=by
 rcases h with ⟨h0,_⟩|⟨b,o,cap,hv,hb,hc,h⟩
 ·omega
 ·exact ⟨b,o,cap,hv,hb,(h k hk).1,(h k hk).2.1,(h k hk).2.2.1,(h k hk).2.2.2⟩
theorem I9 {w:World} {v:Value} {n:Nat} {x0:Nat->Int} (h:gy w v n x0) {k:Nat} (hk:k<n):∃ b o cap,v=.slice (some ⟨b,o,none⟩) n cap/\b<w.heap.size/\w.cell? ⟨b,o+k,none⟩=some (.int .i64 (x0 k)):=by
 rcases h with ⟨h0,_⟩|⟨b,o,cap,hv,hb,hc,h⟩
 ·omega
 ·exact ⟨b,o,cap,hv,hb,h k hk⟩
structure RdL (wi:World) (Z gL gI bl ol:Nat) (p:PV) (s4 s5 s6 s7:Value) (i:Nat) (L:List UInt8) (ov:Value) (w:World):Prop where
 o:lJ wi Z ov L
 l:fE wi gL p.ni (rX p)
 fp:dA wi Z p s4 s5 s6 s7
 r:ah wi 45 gI 4 (fun j=>(#[.int .i64 (p.i0 i),.int .i64 (p.i1 i),.int .i64 (p.i2 i),.int .i64 (p.i3 i)]:Array Value).getD j (.bool false))
 c:wi.cell? ⟨bl,ol,none⟩=some (.int .i64 (p.l0 i))
 b:Below Z w wi
 lt:bl<gI
 gz:Z<=gL
 zi:Z<=gI
theorem RdL.low {wi w' w:World} {Z gL gI bl ol:Nat} {p:PV} {s4 s5 s6 s7:Value} {i:Nat} {L:List UInt8} {ov:Value} (h:RdL wi Z gL gI bl ol p s4 s5 s6 s7 i L ov w) (hb:Below wi.heap.size wi w'):RdL w' Z gL gI bl ol p s4 s5 s6 s7 i L ov w:=
 have hr:=ah.lt h.r
 ⟨h.o.low hb,fE.low h.l hb (ah.lt h.l),h.fp.low hb (ah.lt h.fp),ah.low h.r hb hr,(hb.cell (p:=⟨bl,ol,none⟩) (Nat.lt_trans h.lt hr)).trans h.c,h.b.trans (hb.mono (Nat.le_of_lt (ah.lt h.fp))),h.lt,h.gz,h.zi⟩
theorem RdL.cells {wi w:World} {Z gL gI bl ol:Nat} {p:PV} {s4 s5 s6 s7:Value} {i:Nat} {L:List UInt8} {ov:Value} (h:RdL wi Z gL gI bl ol p s4 s5 s6 s7 i L ov w):wi.cell? ⟨gI,0,none⟩=some (.int .i64 (p.i0 i))/\wi.cell? ⟨gI,1,none⟩=some (.int .i64 (p.i1 i))/\wi.cell? ⟨gI,2,none⟩=some (.int .i64 (p.i2 i))/\wi.cell? ⟨gI,3,none⟩=some (.int .i64 (p.i3 i))/\wi.cell? ⟨Z,6,none⟩=some s6/\wi.cell? ⟨Z,7,none⟩=some s7/\wi.cell? ⟨bl,ol,none⟩=some (.int .i64 (p.l0 i)):=
 ⟨ah.cell h.r (j:=0) (by omega),ah.cell h.r (j:=1) (by omega),ah.cell h.r (j:=2) (by omega),ah.cell h.r (j:=3) (by omega),h.fp.all.2.2.2.2.2.2.1,h.fp.all.2.2.2.2.2.2.2,h.c⟩
def LV (w:World):Prop:=Lib.TabIs Tryz.prog w "internal/strconv.uint64pow10" .u64 Lib.pow10Tab
theorem bW {v:Int} (h:lD v) (w:World) (ht:LV w):Calls Tryz.prog 92 #[.int .i64 v] w fun e w'=>e=.returned (.string (bT (aW v)))/\Below w.heap.size w w':=by
 refine (Tryz.strconv_Itoa v h.1 h.2 w ht).mono ?_
 rintro e w' ⟨rfl,n,os,rfl⟩
 exact ⟨rfl,Lib.below_grow _ _ (Nat.le_refl _) _ _⟩
theorem rJ {v:Int} (h:lD v) (w:World) (ht:LV w):Calls Tryz.prog 98 #[.int .i64 v] w fun e w'=>e=.returned (.string (bT (([64]:List UInt8)++aW v)))/\Below w.heap.size w w':=by
 have HT:=hide ht
 have HV:=hide h
 clear ht h
 obtain ⟨L,hL⟩:∃ l:List UInt8,l=([64]:List UInt8)++aW v:=⟨_,rfl⟩
 have sL:∀ w:World,(Op.stringOp .add ⟨#[64]⟩ (bT (aW v))).run Tryz.prog w=.ok (.string (bT L)) w:=fun w=>by rw [hL];exact aD (a:=1) (b:=20) (by simp) (eZ HV.out) (by omega) w
 rw [<-hL]
 clear hL
 go_enter Tryz.func98,Tryz.ntmps98
 go_wp2_with (first
  |(go_at_call 92
    refine (bW HV.out _ HT.out).mono ?_
    rintro e w' ⟨rfl,hb⟩)
  |fail)
 go_ret
 exact ⟨rfl,hb⟩
def bG (l:List (List UInt8)):List UInt8:=Lib.join l [32]
theorem mY (d:List UInt8) (bk:Nat) (xs:List (List UInt8)) (c:Nat) (w:World) (hd:d.length<=100) (hcells:∀ (j:Nat) x,xs[j]?=some x->w.cell? ⟨bk,j,none⟩=some (.string (bT x))) (hbk:bk<w.heap.size) (hN:xs.length<=1000) (hcap:xs.length<=c) (hlen:(bG xs).length<=1000000):
 Calls Tryz.prog 91 #[.string (bT d),.slice (some ⟨bk,0,none⟩) xs.length c] w fun e w'=>e=.returned (.string (bT (d++bG xs)))/\Below w.heap.size w w':=by
 have e1:(xs.map bT).map (·.data.toList)=xs:=by rw [List.map_map];exact List.map_id'' (fun x=>bP x) xs
 have HJ:=hide (Tryz.strings_Join bk 0 c (xs.map bT) ⟨#[32]⟩ w (fun j x hx=>by
  rw [List.getElem?_map] at hx
  cases hy:xs[j]? with
  |none=>rw [hy] at hx;cases hx
  |some y=>
   rw [hy] at hx
   simp at hx
   subst hx
   rw [Nat.zero_add]
   exact hcells j y hy) hbk (by rw [List.length_map];omega) (by rw [List.length_map];exact hcap) (by rw [e1];show (bG xs).length<=_;omega))
 rw [e1,List.length_map] at HJ
 have HJ2:Hid (Calls Tryz.prog 109 #[.slice (some ⟨bk,0,none⟩) xs.length c,.string ⟨#[32]⟩] w fun e w'=>e=.returned (.string (bT (bG xs)))/\Below w.heap.size w w'):=HJ
 clear HJ e1 hcells hbk hcap
 have sL:∀ w:World,(Op.stringOp .add (bT d) (bT (bG xs))).run Tryz.prog w=.ok (.string (bT (d++bG xs))) w:=fun w=>aD (a:=100) (b:=1000000) hd hlen (by omega) w
 go_enter Tryz.func91,Tryz.ntmps91
 go_wp2_with (first
  |(go_at_call 109
    refine HJ2.out.mono ?_
    rintro e w' ⟨rfl,hb⟩)
  |fail)
 go_ret
 exact ⟨rfl,hb⟩
end Go.Proofs.YtjibjahfbblieaaGreatDoor
