import Derived.Test.YtgnbhhgpaldheaaGreatKEQ1
namespace Go.Proofs.YtgnbhhgpaldheaaGreat
open Go Go.RowKit
set_option linter.unusedVariables false
set_option maxHeartbeats 1600000 in
set_option maxRecDepth 100000 in
theorem heldProtoS_f (G n cap : Nat) (Y : Nat → FW) (w : World) (hn : n ≤ 1048576) (hc : n ≤ cap) (hwt : wtY Y n ≤ 1048576) (h : MkS w G n Y 1 n) :
    Calls Tryz.prog 25 #[.slice (some ⟨G, 0, none⟩) n cap, .int .i64 1] w fun e w' => e = .returned (.int .i64 (kF Y 1 n)) ∧ Below w.heap.size w w' := by
  have HW := hide hwt
  have HE := hide h
  clear hwt h
  go_enter Tryz.func25, Tryz.ntmps25
  go_wp2
  go_loopw [1, 5] (fun kv iv wr => ∃ i : Nat, i ≤ n ∧ iv = .int .i64 i ∧ kv = .int .i64 (kF Y 1 i) ∧ Hid (Below w.heap.size w wr)) (fun _ iv _ => n - ivN iv)
  case atStart => exact ⟨0, by omega, rfl, rfl, hide (Below.refl _ _)⟩
  case round =>
    obtain ⟨i, hi9, rfl, rfl, HB⟩ := hrel
    by_cases hin : i < n
    · have HE := hide (HE.out.low HB.out (Nat.le_refl _))
      obtain ⟨f, hf, hS, hM⟩ := HE.out.row
      obtain ⟨y4, y5, y6, y7⟩ := hS i hin
      obtain ⟨y0, y1, y2, y3⟩ := hM i hin
      obtain ⟨o1, o2, o3, o4⟩ := HE.out.old i hin hin
      have HWj := hide (show wtY Y (i + 1) ≤ wtY Y n from wtY_mono Y hin)
      have HW1 := hide (wtY_1 Y i)
      have HNu := hide (show (Y i).nu ≤ 1048576 ∧ (Y i).nc ≤ 1048576 ∧ (Y i).ni ≤ 1048576 ∧ 1 ≤ kF Y 1 i ∧ kF Y 1 i + fvK (Y i) ≤ 9000000 by
        have h1 := HW1.out
        have h2 := HWj.out
        have h3 := HW.out
        have h4 := pv_wt (Y i)
        have h5 := kF_le Y 1 i
        have h6 := kF_ge Y 1 i
        unfold fvK
        omega)
      have hfk : kF Y 1 (i + 1) = kF Y 1 i + fvK (Y i) := rfl
      have HFK := hide hfk
      clear hfk
      obtain ⟨a4, k4, e4⟩ := o1.form
      obtain ⟨a5, k5, e5⟩ := o2.form
      obtain ⟨a6, k6, e6⟩ := o3.form
      obtain ⟨a7, k7, e7⟩ := o4.form
      rw [e4] at o1 y4
      rw [e5] at o2 y5
      rw [e6] at o3 y6
      rw [e7] at o4 y7
      clear e4 e5 e6 e7
      have HFu := hide (show (fvK (Y i) : Nat) = 4 + (Y i).nu * 2 + (Y i).nc * 4 + (Y i).ni * 4 + (Y i).ni from rfl)
      generalize (Y i).nu = nu at *
      generalize (Y i).nc = nc at *
      generalize (Y i).ni = ni at *
      have HN1 := hide HNu.out
      clear hS hM
      generalize hK : kF Y 1 i = kk at *
      have c0 := hf.cell (j := i * 8) (by omega)
      have c1 := hf.cell (j := i * 8 + 1) (by omega)
      have c2 := hf.cell (j := i * 8 + 2) (by omega)
      have c3 := hf.cell (j := i * 8 + 3) (by omega)
      have c4 := hf.cell (j := i * 8 + 4) (by omega)
      have c5 := hf.cell (j := i * 8 + 5) (by omega)
      have c6 := hf.cell (j := i * 8 + 6) (by omega)
      have c7 := hf.cell (j := i * 8 + 7) (by omega)
      rw [y0] at c0
      rw [y1] at c1
      rw [y2] at c2
      rw [y3] at c3
      rw [y4] at c4
      rw [y5] at c5
      rw [y6] at c6
      rw [y7] at c7
      have HGl := hide hf.lt
      have P1 := hide o1
      have P2 := hide o2
      have P3 := hide o3
      have P4 := hide o4
      have C5 := hide c5
      have C6 := hide c6
      have C7 := hide c7
      clear o1 o2 o3 o4 hf y0 y1 y2 y3 y4 y5 y6 y7 c5 c6 c7
      have hkb1 : 1 ≤ kk := HN1.out.2.2.2.1
      have hkb2 : kk ≤ 9000000 := by have := HN1.out; omega
      have hnu : nu ≤ 1048576 := HN1.out.1
      have hnc : nc ≤ 1048576 := HN1.out.2.1
      have hni : ni ≤ 1048576 := HN1.out.2.2.1
      go_wp2_with fail
      refine (heldUpS_v _ _ _ (kk + 4) _ (by omega) (by have := HN1.out; omega) (by omega) (by have := HN1.out; have := HFu.out; omega) P1.out).mono ?_
      rintro e w5 ⟨rfl, hb5⟩
      have HB5 := hide hb5
      have e5 := (HB5.out.cell (p := ⟨G, i * 8 + 5, none⟩) HGl.out).trans C5.out
      have t5 : ¬ ((kk : Int) + 1 + 1 + 1 + 1 + (nu : Int) * 2 < 0) := by omega
      clear hb5
      go_wp2_with fail
      refine (heldConstS_v _ _ _ (kk + 4 + nu * 2) _ (by omega) (by have := HN1.out; omega) (by omega) (by have := HN1.out; have := HFu.out; omega) (P2.out.low HB5.out (Nat.le_refl _))).mono ?_
      rintro e w6 ⟨rfl, hb6⟩
      have HB6 := hide (HB5.out.trans (hb6.mono HB5.out.size))
      have e6 := (HB6.out.cell (p := ⟨G, i * 8 + 6, none⟩) HGl.out).trans C6.out
      have t6 : ¬ ((kk : Int) + 1 + 1 + 1 + 1 + (nu : Int) * 2 + (nc : Int) * 4 < 0) := by omega
      clear hb6
      go_wp2_with fail
      refine (heldInstrS_v _ _ _ (kk + 4 + nu * 2 + nc * 4) _ (by omega) (by have := HN1.out; omega) (by omega) (by have := HN1.out; have := HFu.out; omega) (P3.out.low HB6.out (Nat.le_refl _))).mono ?_
      rintro e w7 ⟨rfl, hb7⟩
      have HB7 := hide (HB6.out.trans (hb7.mono HB6.out.size))
      have e7 := (HB7.out.cell (p := ⟨G, i * 8 + 7, none⟩) HGl.out).trans C7.out
      have t7 : ¬ ((kk : Int) + 1 + 1 + 1 + 1 + (nu : Int) * 2 + (nc : Int) * 4 + (ni : Int) * 4 < 0) := by omega
      clear hb7
      go_wp2_with fail
      refine (heldIntS_v _ _ _ (kk + 4 + nu * 2 + nc * 4 + ni * 4) _ (by omega) (by have := HN1.out; omega) (by omega) (by have := HN1.out; have := HFu.out; omega) (P4.out.low HB7.out (Nat.le_refl _))).mono ?_
      rintro e w8 ⟨rfl, hb8⟩
      have HB8 := hide (HB7.out.trans (hb8.mono HB7.out.size))
      have t8 : ¬ ((kk : Int) + 1 + 1 + 1 + 1 + (nu : Int) * 2 + (nc : Int) * 4 + (ni : Int) * 4 + (ni : Int) < 0) := by omega
      clear hb8
      go_wp2_with fail
      have HY := hide (HB.out.trans (HB8.out.mono HB.out.size))
      have hnx : (kF Y 1 (i + 1) : Int) = (kk : Int) + 1 + 1 + 1 + 1 + (nu : Int) * 2 + (nc : Int) * 4 + (ni : Int) * 4 + (ni : Int) := by
        rw [HFK.out, HFu.out]
        omega
      clear HB8 HB7 HB6 HB5
      go_roundw
      case rel => exact ⟨i + 1, by omega, by simp, by rw [hnx], HY⟩
      case measure => show n - ivN (.int .i64 _) < n - ivN (.int .i64 _); simp [ivN]; omega
    · obtain rfl : i = n := by omega
      go_wp2_with fail
      go_ret
      exact ⟨rfl, HB.out⟩
end Go.Proofs.YtgnbhhgpaldheaaGreat
