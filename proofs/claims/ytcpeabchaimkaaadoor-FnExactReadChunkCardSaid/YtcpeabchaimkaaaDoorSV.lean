import Derived.Test.YtcpeabchaimkaaaDoorSU
namespace Go.Proofs.YtcpeabchaimkaaaDoor
open Go Go.RowKit
set_option linter.unusedVariables false

set_option maxHeartbeats 6400000 in
set_option maxRecDepth 100000 in
theorem rdLaw_any (v : Value) (n : Nat) (f : Nat → Nat) (w : World) (h : ByA w v n f) (hg : ErrT w) (h0 : 0 < w.heap.size) :
    Calls Tryd.prog 3 #[v] w fun e w' => e = .returned (.bool true) ∧ Below w.heap.size w w' := by
  have HA := hide h
  have HG := hide hg
  obtain ⟨a, cap, rfl⟩ := h.val
  clear h hg
  by_cases hn : n ≤ 1048576
  case neg =>
    have hlen : ((1048576 : Int) < (n : Int)) := by omega
    go_enter Tryd.func3, Tryd.ntmps3
    go_wp2
    go_ret
    exact ⟨rfl, Below.refl _ _⟩
  have hlen : ¬ ((1048576 : Int) < (n : Int)) := by omega
  have HL := hide (show (byL n f).length ≤ 1048576 by rw [byL_len]; exact hn)
  go_enter Tryd.func3, Tryd.ntmps3
  go_wp2_with fail
  refine (toByteS_any _ n f w hn HA.out).mono ?_
  rintro e w1 ⟨v1, rfl, ho1, hb1⟩
  have HB := hide hb1
  have HO := hide ho1.slB
  clear hb1 ho1
  go_wp2_with fail
  refine ((specRead_any v1 _ w1 HL.out HO.out.2 HO.out.1).mono fun _ _ h => h.v).mono ?_
  rintro e w2 ⟨hb2, ys, vS, loS, c, rfl, hS, hlo, hch⟩
  obtain ⟨aS, kS, rfl⟩ := hch.form
  have HS := hide hS
  have HFit := hide (hS.fits HL.out rfl)
  have hA3 := b_1 w2 (.cells #[.slice aS ys.length kS] 25)
  have HX3 := hide (RowF.mk' w2 25 #[.slice aS ys.length kS])
  have HC := hide (hch.low hA3 (Nat.le_refl _))
  have HB0 := HB
  have HB := hide ((HB.out.trans (hb2.mono HB.out.size)).trans (hA3.mono (HB.out.trans (hb2.mono HB.out.size)).size))
  have HBy := hide HO.out.2
  have hws : w.heap.size ≤ w2.heap.size := (HB0.out.trans (hb2.mono HB0.out.size)).size
  clear hb2 hS hch hA3 hlo HO HB0
  go_wp2_with fail
  generalize hg3 : w2.heap.size = g3 at *
  generalize w2.alloc (.cells #[.slice aS ys.length kS] 25) = w3 at *
  have h3 : g3 < w3.heap.size := HX3.out.lt
  refine (toByteS_any _ n f w3 hn (HA.out.low HB.out (Nat.le_refl _))).mono ?_
  rintro e w4 ⟨v4, rfl, ho4, hb4⟩
  obtain ⟨g4, e4, hg4, hl4, f4, hr4⟩ := ho4.row
  have HX3 := hide (HX3.out.low hb4 HX3.out.lt)
  have HC := hide (HC.out.low hb4 (Nat.le_refl _))
  have HB := hide (HB.out.trans (hb4.mono HB.out.size))
  have HO4 := hide ho4
  have HR4 := hide hr4
  clear hb4 ho4 hr4
  subst e4
  go_wp2_with fail
  refine ((implRead_any _ _ w4 HL.out HBy.out HO4.out.slB.1 (HG.out.low HB.out h0) (Nat.lt_of_le_of_lt (Nat.zero_le _) hl4)).mono fun _ _ h => h.v).mono ?_
  rintro e w5 ⟨hb5, zs, vI, loI, c', rfl, hI, hlo, hch⟩
  obtain ⟨hxs, rfl⟩ := hI.unique HS.out
  obtain ⟨hpv, hln⟩ := pvs_same hxs
  have HI := hide hI
  have HPv := hide hpv
  have HLn := hide hln
  have HFit6 := hide (hI.fits HL.out rfl)
  obtain ⟨aI, kI, rfl⟩ := hch.form
  have hA6 := b_1 w5 (.cells #[.slice aI zs.length kI] 25)
  have HX6 := hide (RowF.mk' w5 25 #[.slice aI zs.length kI])
  have HX3 := hide ((HX3.out.low hb5 HX3.out.lt).low hA6 (HX3.out.low hb5 HX3.out.lt).lt)
  have HC := hide ((HC.out.low hb5 (Nat.le_refl _)).low hA6 (Nat.le_refl _))
  have HC6 := hide (hch.low hA6 (Nat.le_refl _))
  have HO4 := hide ((HO4.out.low hb5 (Nat.le_refl _)).low hA6 (Nat.le_refl _))
  have HR4 := hide ((HR4.out.low hb5 HR4.out.lt).low hA6 (HR4.out.low hb5 HR4.out.lt).lt)
  have HB := hide ((HB.out.trans (hb5.mono HB.out.size)).trans (hA6.mono (HB.out.trans (hb5.mono HB.out.size)).size))
  have hs5 : w4.heap.size ≤ w5.heap.size := hb5.size
  clear hb5 hI hxs hpv hln hch hA6
  have x3 : (w5.alloc (.cells #[.slice aI zs.length kI] 25)).cell? ⟨g3, 0, none⟩ = some (.slice aS ys.length kS) := HX3.out.cell (j := 0) (by simp)
  have x6 : (w5.alloc (.cells #[.slice aI zs.length kI] 25)).cell? ⟨w5.heap.size, 0, none⟩ = some (.slice aI zs.length kI) := HX6.out.cell (j := 0) (by simp)
  go_wp2_with fail
  generalize hg6 : w5.heap.size = g6 at *
  generalize w5.alloc (.cells #[.slice aI zs.length kI] 25) = w6 at *
  have h6 : g6 < w6.heap.size := HX6.out.lt
  refine (eqChunk_any _ _ ys.length (pvs ys) w6 HFit.out.1 HFit.out.2.1 (by have := HC6.out.pros; rw [HPv.out, HLn.out] at this; rw [HLn.out]; exact this) HC.out.pros).mono ?_
  rintro e w7 ⟨rfl, hb⟩
  have HX3 := hide (HX3.out.low hb HX3.out.lt)
  have HX6 := hide (HX6.out.low hb HX6.out.lt)
  have HC := hide (HC.out.low hb (Nat.le_refl _))
  have HC6 := hide (HC6.out.low hb (Nat.le_refl _))
  have HO4 := hide (HO4.out.low hb (Nat.le_refl _))
  have HR4 := hide (HR4.out.low hb HR4.out.lt)
  have HB := hide (HB.out.trans (hb.mono HB.out.size))
  clear hb x3 x6
  go_wp2_with fail
  refine (toByteS_any _ n f w7 hn (HA.out.low HB.out (Nat.le_refl _))).mono ?_
  rintro e w8 ⟨v8, rfl, ho8, hb⟩
  have HX3 := hide (HX3.out.low hb HX3.out.lt)
  have HX6 := hide (HX6.out.low hb HX6.out.lt)
  have HC := hide (HC.out.low hb (Nat.le_refl _))
  have HC6 := hide (HC6.out.low hb (Nat.le_refl _))
  have HO4 := hide (HO4.out.low hb (Nat.le_refl _))
  have HR4 := hide (HR4.out.low hb HR4.out.lt)
  have HB := hide (HB.out.trans (hb.mono HB.out.size))
  have HO8 := hide ho8
  clear hb ho8
  go_wp2_with fail
  refine (eqByteS_any _ v8 n f w8 hn HO4.out.by HO8.out.by).mono ?_
  rintro e w9 ⟨rfl, hb⟩
  have HX3 := hide (HX3.out.low hb HX3.out.lt)
  have HX6 := hide (HX6.out.low hb HX6.out.lt)
  have HC := hide (HC.out.low hb (Nat.le_refl _))
  have HC6 := hide (HC6.out.low hb (Nat.le_refl _))
  have HR4 := hide (HR4.out.low hb HR4.out.lt)
  have HB := hide (HB.out.trans (hb.mono HB.out.size))
  clear hb HO4 HO8
  go_wp2_with fail
  refine (markByteS_any g4 n n 1 _ w9 (by omega) (by omega) (Nat.le_refl _) HR4.out).mono ?_
  rintro e wA ⟨rfl, hrA, hkA⟩
  have HX3 := hide (HX3.out.keep hkA (by omega))
  have HX6 := hide (HX6.out.keep hkA (by omega))
  have HC := hide (HC.out.keep hkA (fun b hb1 hb2 => by omega))
  have HC6 := hide (HC6.out.keep hkA (fun b hb1 hb2 => by omega))
  have HB := hide (HB.out.trans (hkA.below (B := w.heap.size) HB.out.size (fun b hb => by omega)))
  clear hkA hrA HR4
  have hk9 : ¬ (1 + (n : Int) < 0) := by omega
  have x3 : wA.cell? ⟨g3, 0, none⟩ = some (.slice aS ys.length kS) := HX3.out.cell (j := 0) (by simp)
  have x6 : wA.cell? ⟨g6, 0, none⟩ = some (.slice aI zs.length kI) := HX6.out.cell (j := 0) (by simp)
  go_wp2_with fail
  refine (eqChunk_any _ _ ys.length (pvs ys) wA HFit.out.1 HFit.out.2.1 (by have := HC6.out.pros; rw [HPv.out, HLn.out] at this; rw [HLn.out]; exact this) HC.out.pros).mono ?_
  rintro e wB ⟨rfl, hb⟩
  have HX3 := hide (HX3.out.low hb HX3.out.lt)
  have HX6 := hide (HX6.out.low hb HX6.out.lt)
  have HC := hide (HC.out.low hb (Nat.le_refl _))
  have HB := hide (HB.out.trans (hb.mono HB.out.size))
  have HC6 := hide (HC6.out.low hb (Nat.le_refl _))
  clear hb x3 x6
  have x6 : wB.cell? ⟨g6, 0, none⟩ = some (.slice aI zs.length kI) := HX6.out.cell (j := 0) (by simp)
  go_wp2_with fail
  refine (markChunk_f loI g6 _ zs wB HFit6.out.1 HFit6.out.2.2 HC6.out).mono ?_
  rintro e wC ⟨rfl, hm, hk⟩
  have HX3 := hide (HX3.out.keep hk (by omega))
  have HX6 := hide (HX6.out.keep hk (by omega))
  have HC := hide (HC.out.keep hk (fun b hb1 hb2 => by omega))
  have HB := hide (HB.out.trans (hk.below (B := w.heap.size) HB.out.size (fun b hb => by omega)))
  have HM := hide hm
  clear hm hk HC6 x6
  have x6 : wC.cell? ⟨g6, 0, none⟩ = some (.slice aI zs.length kI) := HX6.out.cell (j := 0) (by simp)
  go_wp2_with fail
  refine (heldChunk_f _ zs wC HFit6.out.1 HFit6.out.2.2 HM.out).mono ?_
  rintro e wD ⟨rfl, hb⟩
  have HX3 := hide (HX3.out.low hb HX3.out.lt)
  have HX6 := hide (HX6.out.low hb HX6.out.lt)
  have HC := hide (HC.out.low hb (Nat.le_refl _))
  have HB := hide (HB.out.trans (hb.mono HB.out.size))
  have HM := hide (HM.out.low hb (Nat.le_refl _))
  clear hb x6
  have hK : ¬ ((kF (fun j => zs.getD j fv0) 1 zs.length : Int) < 0) := by omega
  go_wp2_with fail
  refine (toByteS_any _ n f wD hn (HA.out.low HB.out (Nat.le_refl _))).mono ?_
  rintro e wE ⟨vE, rfl, hoE, hb⟩
  have HX3 := hide (HX3.out.low hb HX3.out.lt)
  have HX6 := hide (HX6.out.low hb HX6.out.lt)
  have HC := hide (HC.out.low hb (Nat.le_refl _))
  have HB := hide (HB.out.trans (hb.mono HB.out.size))
  have HM := hide (HM.out.low hb (Nat.le_refl _))
  have HOE := hide hoE
  clear hb hoE
  go_wp2_with fail
  refine ((implRead_any _ _ wE HL.out HBy.out HOE.out.slB.1 (HG.out.low HB.out h0) (Nat.lt_of_lt_of_le h0 HB.out.size)).mono fun _ _ h => h.v).mono ?_
  rintro e wF ⟨hbF, zs', vJ, loJ, c9, rfl, hJ, hlo9, hch⟩
  obtain ⟨hxs, rfl⟩ := hJ.unique HS.out
  obtain ⟨hpv, hln⟩ := pvs_same hxs
  have HPw := hide hpv
  have HLw := hide hln
  obtain ⟨aJ, kJ, rfl⟩ := hch.form
  have hAG := b_1 wF (.cells #[.slice aJ zs'.length kJ] 25)
  have HXJ := hide (RowF.mk' wF 25 #[.slice aJ zs'.length kJ])
  have HX3 := hide ((HX3.out.low hbF HX3.out.lt).low hAG (HX3.out.low hbF HX3.out.lt).lt)
  have HX6 := hide ((HX6.out.low hbF HX6.out.lt).low hAG (HX6.out.low hbF HX6.out.lt).lt)
  have HC := hide ((HC.out.low hbF (Nat.le_refl _)).low hAG (Nat.le_refl _))
  have HM := hide ((HM.out.low hbF (Nat.le_refl _)).low hAG (Nat.le_refl _))
  have HCJ := hide (hch.low hAG (Nat.le_refl _))
  have HB := hide ((HB.out.trans (hbF.mono HB.out.size)).trans (hAG.mono (HB.out.trans (hbF.mono HB.out.size)).size))
  clear hbF hJ hxs hpv hln hch hAG HOE
  have x3 : (wF.alloc (.cells #[.slice aJ zs'.length kJ] 25)).cell? ⟨g3, 0, none⟩ = some (.slice aS ys.length kS) := HX3.out.cell (j := 0) (by simp)
  have xJ : (wF.alloc (.cells #[.slice aJ zs'.length kJ] 25)).cell? ⟨wF.heap.size, 0, none⟩ = some (.slice aJ zs'.length kJ) := HXJ.out.cell (j := 0) (by simp)
  go_wp2_with fail
  generalize wF.alloc (.cells #[.slice aJ zs'.length kJ] 25) = wG at *
  refine (eqChunk_any _ _ ys.length (pvs ys) wG HFit.out.1 HFit.out.2.1 (by have := HCJ.out.pros; rw [HPw.out, HLw.out] at this; rw [HLw.out]; exact this) HC.out.pros).mono ?_
  rintro e wH ⟨rfl, hb⟩
  have HX3 := hide (HX3.out.low hb HX3.out.lt)
  have HX6 := hide (HX6.out.low hb HX6.out.lt)
  have HC := hide (HC.out.low hb (Nat.le_refl _))
  have HB := hide (HB.out.trans (hb.mono HB.out.size))
  have HM := hide (HM.out.low hb (Nat.le_refl _))
  clear hb x3 xJ HCJ HXJ
  have x6 : wH.cell? ⟨g6, 0, none⟩ = some (.slice aI zs.length kI) := HX6.out.cell (j := 0) (by simp)
  go_wp2_with fail
  refine (heldChunk_f _ zs wH HFit6.out.1 HFit6.out.2.2 HM.out).mono ?_
  rintro e wI ⟨rfl, hb⟩
  have HB := hide (HB.out.trans (hb.mono HB.out.size))
  clear hb x6
  go_wp2_with fail
  go_ret
  exact ⟨rfl, HB.out⟩

end Go.Proofs.YtcpeabchaimkaaaDoor
