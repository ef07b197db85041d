import Derived.Test.YtplfgfdlcfdfdaaCH
import Derived.Test.YtplfgfdlcfdfdaaBA
namespace Go.Proofs.Ytplfgfdlcfdfdaa
open Go Go.RowKit
set_option linter.unusedVariables false

/-- A block of N cells, whatever they hold. -/
def RowE (w : World) (T g N : Nat) : Prop := ∃ f, RowF w T g N f
theorem RowE.keep {w w' : World} {T g N : Nat} {S : Nat → Prop} (h : RowE w T g N) (k : Keeps w w' S) (hn : ¬ S g) : RowE w' T g N := by
  obtain ⟨f, h⟩ := h
  exact ⟨f, h.keep k hn⟩
theorem markUpS_e (g N cap : Nat) (k : Int) (w : World) (hN : N ≤ 2000000) (hk0 : 1 ≤ k) (hk : k ≤ 20000000) (hc : N ≤ cap) (h : RowE w 71 g (N * 2)) :
    Calls Try.prog 39 #[.slice (some ⟨g, 0, none⟩) N cap, .int .i64 k] w fun e w' => e = .returned (.int .i64 (k + (N : Int) * 2)) ∧ RowE w' 71 g (N * 2) ∧ Keeps w w' (fun b => b = g) := by
  obtain ⟨f, h⟩ := h
  obtain ⟨m, rfl⟩ := Int.eq_ofNat_of_zero_le (show 0 ≤ k by omega)
  refine (markUpS_any g N cap m f w hN (by omega) (by omega) hc h).mono ?_
  rintro e w' ⟨rfl, h1, h2⟩
  exact ⟨rfl, ⟨_, h1⟩, h2⟩
theorem markConstS_e (g N cap : Nat) (k : Int) (w : World) (hN : N ≤ 2000000) (hk0 : 1 ≤ k) (hk : k ≤ 20000000) (hc : N ≤ cap) (h : RowE w 73 g (N * 4)) :
    Calls Try.prog 40 #[.slice (some ⟨g, 0, none⟩) N cap, .int .i64 k] w fun e w' => e = .returned (.int .i64 (k + (N : Int) * 4)) ∧ RowE w' 73 g (N * 4) ∧ Keeps w w' (fun b => b = g) := by
  obtain ⟨f, h⟩ := h
  obtain ⟨m, rfl⟩ := Int.eq_ofNat_of_zero_le (show 0 ≤ k by omega)
  refine (markConstS_any g N cap m f w hN (by omega) (by omega) hc h).mono ?_
  rintro e w' ⟨rfl, h1, h2⟩
  exact ⟨rfl, ⟨_, h1⟩, h2⟩
theorem markInstrS_e (g N cap : Nat) (k : Int) (w : World) (hN : N ≤ 2000000) (hk0 : 1 ≤ k) (hk : k ≤ 20000000) (hc : N ≤ cap) (h : RowE w 76 g (N * 4)) :
    Calls Try.prog 41 #[.slice (some ⟨g, 0, none⟩) N cap, .int .i64 k] w fun e w' => e = .returned (.int .i64 (k + (N : Int) * 4)) ∧ RowE w' 76 g (N * 4) ∧ Keeps w w' (fun b => b = g) := by
  obtain ⟨f, h⟩ := h
  obtain ⟨m, rfl⟩ := Int.eq_ofNat_of_zero_le (show 0 ≤ k by omega)
  refine (markInstrS_any g N cap m f w hN (by omega) (by omega) hc h).mono ?_
  rintro e w' ⟨rfl, h1, h2⟩
  exact ⟨rfl, ⟨_, h1⟩, h2⟩
theorem markIntS_e (g N cap : Nat) (k : Int) (w : World) (hN : N ≤ 2000000) (hk0 : 1 ≤ k) (hk : k ≤ 20000000) (hc : N ≤ cap) (h : RowE w 3 g N) :
    Calls Try.prog 42 #[.slice (some ⟨g, 0, none⟩) N cap, .int .i64 k] w fun e w' => e = .returned (.int .i64 (k + (N : Int))) ∧ RowE w' 3 g N ∧ Keeps w w' (fun b => b = g) := by
  obtain ⟨f, h⟩ := h
  obtain ⟨m, rfl⟩ := Int.eq_ofNat_of_zero_le (show 0 ≤ k by omega)
  refine (markIntS_any g N cap m f w hN (by omega) (by omega) hc h).mono ?_
  rintro e w' ⟨rfl, h1, h2⟩
  exact ⟨rfl, ⟨_, h1⟩, h2⟩

/-- The functions from i on, in a list of n in block G, whatever else they hold. -/
structure ProsE (w : World) (G n : Nat) (P : Nat → PV) (i : Nat) (b4 b5 b6 b7 : Nat → Nat) : Prop where
  row : ∃ f, RowF w 46 G (n * 8) f ∧ ∀ j, i ≤ j → j < n → f (j * 8 + 4) = sl (b4 j) (P j).nu ∧ f (j * 8 + 5) = sl (b5 j) (P j).nc ∧ f (j * 8 + 6) = sl (b6 j) (P j).ni ∧ f (j * 8 + 7) = sl (b7 j) (P j).nl
  own : ∀ j, i ≤ j → j < n → RowE w 71 (b4 j) ((P j).nu * 2) ∧ RowE w 73 (b5 j) ((P j).nc * 4) ∧ RowE w 76 (b6 j) ((P j).ni * 4) ∧ RowE w 3 (b7 j) (P j).nl
/-- How the blocks lie. -/
structure Rise (G n : Nat) (L b4 b5 b6 b7 : Nat → Nat) : Prop where
  ord : ∀ i, i < n → L i ≤ b4 i ∧ b4 i < b5 i ∧ b5 i < b6 i ∧ b6 i < b7 i ∧ b7 i < L (i + 1)
  low : ∀ i, i ≤ n → G < L i
theorem Rise.mono {G n : Nat} {L b4 b5 b6 b7 : Nat → Nat} (h : Rise G n L b4 b5 b6 b7) {i j : Nat} (hij : i ≤ j) (hj : j ≤ n) : L i ≤ L j := by
  induction hij with
  | refl => exact Nat.le_refl _
  | @step m hm ih =>
    have o := h.ord m hj
    have t := ih (Nat.le_of_lt hj)
    show L i ≤ L (m + 1)
    omega
theorem ProsK.e {w : World} {G n : Nat} {P : Nat → PV} {f : Nat → Value} {L b4 b5 b6 b7 : Nat → Nat} (h : ProsK w G n P n f L b4 b5 b6 b7) : ProsE w G n P 0 b4 b5 b6 b7 ∧ Rise G n L b4 b5 b6 b7 := by
  refine ⟨⟨⟨f, h.row, fun j _ hj => ⟨(h.cel j hj).2.2.2.2.1, (h.cel j hj).2.2.2.2.2.1, (h.cel j hj).2.2.2.2.2.2.1, (h.cel j hj).2.2.2.2.2.2.2⟩⟩, fun j _ hj => ?_⟩, ⟨h.ord, h.low⟩⟩
  obtain ⟨⟨f4, r4, _⟩, ⟨f5, r5, _⟩, ⟨f6, r6, _⟩, ⟨f7, r7, _⟩⟩ := h.own j hj
  exact ⟨⟨f4, r4⟩, ⟨f5, r5⟩, ⟨f6, r6⟩, ⟨f7, by simpa using r7⟩⟩

set_option maxHeartbeats 1600000 in
set_option maxRecDepth 100000 in
theorem markProtoS_e (G n : Nat) (P : Nat → PV) (L b4 b5 b6 b7 : Nat → Nat) (k : Int) (w : World) (hn : n ≤ 1048576) (hwt : wts P n ≤ 1048576) (hk0 : 1 ≤ k) (hk : k ≤ 1000) (hr : Rise G n L b4 b5 b6 b7) (h : ProsE w G n P 0 b4 b5 b6 b7) :
    Calls Try.prog 26 #[sl G n, .int .i64 k] w fun e w' => ∃ k' : Int, e = .returned (.int .i64 k') ∧ 0 ≤ k' ∧ Keeps w w' (fun b => G ≤ b ∧ b < L n) := by
  have HW := hide hwt
  have HR := hide hr
  have HE := hide h
  clear hwt hr h
  unfold sl
  go_enter Try.func26, Try.ntmps26
  go_wp2
  go_loopw [1, 5] (fun kv iv wr => ∃ (i : Nat) (kk : Int), i ≤ n ∧ iv = .int .i64 i ∧ kv = .int .i64 kk ∧ 1 ≤ kk ∧ Hid (kk ≤ k + 4 * i + 4 * wts P i) ∧ Hid (ProsE wr G n P i b4 b5 b6 b7) ∧ Hid (Keeps w wr (fun b => G ≤ b ∧ b < L n))) (fun _ iv _ => n - ivN iv)
  case atStart => exact ⟨0, k, by omega, rfl, rfl, hk0, hide (by simp [wts_0]), HE, hide (Keeps.refl _ _)⟩
  case round =>
    clear HE
    obtain ⟨i, kk, hi9, rfl, rfl, hkk, HB, HE, HK⟩ := hrel
    by_cases hin : i < n
    · obtain ⟨f, hf, hS⟩ := HE.out.row
      obtain ⟨y4, y5, y6, y7⟩ := hS i (Nat.le_refl _) hin
      obtain ⟨o1, o2, o3, o4⟩ := HE.out.own i (Nat.le_refl _) hin
      have HO := hide (HR.out.ord i hin)
      have HG := hide (HR.out.low i (Nat.le_of_lt hin))
      have HLn := hide (show L (i + 1) ≤ L n from HR.out.mono hin (Nat.le_refl n))
      have HWi := hide (wts_mono P (Nat.le_of_lt hin))
      have HWj := hide (show wts P (i + 1) ≤ wts P n from wts_mono P hin)
      have HW1 := hide (wts_1 P i)
      have HSf := hide hS
      have HO1 := hide o1
      have HO2 := hide o2
      have HO3 := hide o3
      have HO4 := hide o4
      have HNu := hide (show (P i).nu ≤ 1048576 ∧ (P i).nc ≤ 1048576 ∧ (P i).ni ≤ 1048576 ∧ (P i).nl ≤ 1048576 ∧ (P i).nu + (P i).nc + (P i).ni + (P i).nl ≤ (P i).weight by have := HW1.out; have := HWj.out; have := HW.out; unfold PV.weight at *; omega)
      have hkb2 : kk ≤ 9000000 := by have := HB.out; have := HWi.out; have := HW.out; omega
      have hnu := HNu.out.1
      have hnc := HNu.out.2.1
      have hni := HNu.out.2.2.1
      have hnl := HNu.out.2.2.2.1
      have c0 := hf.cell (j := i * 8) (by omega)
      have c1 := hf.cell (j := i * 8 + 1) (by omega)
      have c2 := hf.cell (j := i * 8 + 2) (by omega)
      have c3 := hf.cell (j := i * 8 + 3) (by omega)
      have c4 := hf.cell (j := i * 8 + 4) (by omega)
      have c5 := hf.cell (j := i * 8 + 5) (by omega)
      have c6 := hf.cell (j := i * 8 + 6) (by omega)
      have c7 := hf.cell (j := i * 8 + 7) (by omega)
      have z0 := hf.frz (i * 8)
      have z1 := hf.frz (i * 8 + 1)
      have z2 := hf.frz (i * 8 + 2)
      have z3 := hf.frz (i * 8 + 3)
      rw [y4] at c4
      rw [y5] at c5
      rw [y6] at c6
      rw [y7] at c7
      unfold sl at c4 c5 c6 c7
      have HG4 := hide ((((hf.set (j := i * 8) (by omega) (.int .i64 kk)).set (j := i * 8 + 1) (by omega) (.int .i64 (kk + 1))).set (j := i * 8 + 2) (by omega) (.int .i64 (kk + 1 + 1))).set (j := i * 8 + 3) (by omega) (.bool ((kk + 1 + 1 + 1) % 3 == 0)))
      have HK4 := hide (((((Keeps.refl wr (fun b => b = G)).setCell (j := i * 8) rfl (.int .i64 kk)).setCell (j := i * 8 + 1) rfl (.int .i64 (kk + 1))).setCell (j := i * 8 + 2) rfl (.int .i64 (kk + 1 + 1))).setCell (j := i * 8 + 3) rfl (.bool ((kk + 1 + 1 + 1) % 3 == 0)))
      have d5 : ((((wr.setCell ⟨G, i * 8, none⟩ (.int .i64 kk)).setCell ⟨G, i * 8 + 1, none⟩ (.int .i64 (kk + 1))).setCell ⟨G, i * 8 + 2, none⟩ (.int .i64 (kk + 1 + 1))).setCell ⟨G, i * 8 + 3, none⟩ (.bool ((kk + 1 + 1 + 1) % 3 == 0))).cell? ⟨G, i * 8 + 5, none⟩ = some (.slice (some ⟨b5 i, 0, none⟩) (P i).nc (P i).nc) := by
        have e := HG4.out.cell (j := i * 8 + 5) (by omega)
        rw [e]; simp [y5, sl]
      have d6 : ((((wr.setCell ⟨G, i * 8, none⟩ (.int .i64 kk)).setCell ⟨G, i * 8 + 1, none⟩ (.int .i64 (kk + 1))).setCell ⟨G, i * 8 + 2, none⟩ (.int .i64 (kk + 1 + 1))).setCell ⟨G, i * 8 + 3, none⟩ (.bool ((kk + 1 + 1 + 1) % 3 == 0))).cell? ⟨G, i * 8 + 6, none⟩ = some (.slice (some ⟨b6 i, 0, none⟩) (P i).ni (P i).ni) := by
        have e := HG4.out.cell (j := i * 8 + 6) (by omega)
        rw [e]; simp [y6, sl]
      have d7 : ((((wr.setCell ⟨G, i * 8, none⟩ (.int .i64 kk)).setCell ⟨G, i * 8 + 1, none⟩ (.int .i64 (kk + 1))).setCell ⟨G, i * 8 + 2, none⟩ (.int .i64 (kk + 1 + 1))).setCell ⟨G, i * 8 + 3, none⟩ (.bool ((kk + 1 + 1 + 1) % 3 == 0))).cell? ⟨G, i * 8 + 7, none⟩ = some (.slice (some ⟨b7 i, 0, none⟩) (P i).nl (P i).nl) := by
        have e := HG4.out.cell (j := i * 8 + 7) (by omega)
        rw [e]; simp [y7, sl]
      have HD5 := hide d5
      have HD6 := hide d6
      have HD7 := hide d7
      have hGl := HG4.out.lt
      have HGl := hide hGl
      clear d5 d6 d7 y4 y5 y6 y7 hS hf o1 o2 o3 o4 hGl
      go_wp2_with (first
        | (have _z := HK7
           go_at_call 42
           clear _z
           refine (markIntS_e (b7 i) _ _ _ _ (by omega) (by omega) (by omega) (Nat.le_refl _) (HO4.out.keep HK7.out (by have := HO.out; have := HG.out; omega))).mono ?_
           rintro e w8 ⟨rfl, hr8, hk8⟩
           have HK8 := hide ((HK7.out.mono (S' := fun b => b = G ∨ b = b4 i ∨ b = b5 i ∨ b = b6 i ∨ b = b7 i) (fun b hb => by omega)).trans (hk8.mono (fun b hb => by omega)))
           have HG8 := hide (HG7.out.keep hk8 (by have := HO.out; have := HG.out; omega))
           clear hr8 hk8)
        | (have _z := HK6
           go_at_call 41
           clear _z
           refine (markInstrS_e (b6 i) _ _ _ _ (by omega) (by omega) (by omega) (Nat.le_refl _) (HO3.out.keep HK6.out (by have := HO.out; have := HG.out; omega))).mono ?_
           rintro e w7 ⟨rfl, hr7, hk7⟩
           have HK7 := hide ((HK6.out.mono (S' := fun b => b = G ∨ b = b4 i ∨ b = b5 i ∨ b = b6 i) (fun b hb => by omega)).trans (hk7.mono (fun b hb => by omega)))
           have HG7 := hide (HG6.out.keep hk7 (by have := HO.out; have := HG.out; omega))
           have e7 := (World.cell?_of_block (a := ⟨G, i * 8 + 7, none⟩) (hk7.block G HG6.out.lt (by have := HO.out; have := HG.out; omega))).trans e67
           clear hr7 hk7 e67)
        | (have _z := HK5
           go_at_call 40
           clear _z
           refine (markConstS_e (b5 i) _ _ _ _ (by omega) (by omega) (by omega) (Nat.le_refl _) (HO2.out.keep HK5.out (by have := HO.out; have := HG.out; omega))).mono ?_
           rintro e w6 ⟨rfl, hr6, hk6⟩
           have HK6 := hide ((HK5.out.mono (S' := fun b => b = G ∨ b = b4 i ∨ b = b5 i) (fun b hb => by omega)).trans (hk6.mono (fun b hb => by omega)))
           have HG6 := hide (HG5.out.keep hk6 (by have := HO.out; have := HG.out; omega))
           have e6 := (World.cell?_of_block (a := ⟨G, i * 8 + 6, none⟩) (hk6.block G HG5.out.lt (by have := HO.out; have := HG.out; omega))).trans e56
           have e67 := (World.cell?_of_block (a := ⟨G, i * 8 + 7, none⟩) (hk6.block G HG5.out.lt (by have := HO.out; have := HG.out; omega))).trans e57
           clear hr6 hk6 e56 e57)
        | (go_at_call 39
           refine (markUpS_e (b4 i) _ _ _ _ (by omega) (by omega) (by omega) (Nat.le_refl _) (HO1.out.keep HK4.out (by have := HO.out; have := HG.out; omega))).mono ?_
           rintro e w5 ⟨rfl, hr5, hk5⟩
           have HK5 := hide ((HK4.out.mono (S' := fun b => b = G ∨ b = b4 i) (fun b hb => by omega)).trans (hk5.mono (fun b hb => by omega)))
           have HG5 := hide (HG4.out.keep hk5 (by have := HO.out; have := HG.out; omega))
           have e5 := (World.cell?_of_block (a := ⟨G, i * 8 + 5, none⟩) (hk5.block G HGl.out (by have := HO.out; have := HG.out; omega))).trans HD5.out
           have e56 := (World.cell?_of_block (a := ⟨G, i * 8 + 6, none⟩) (hk5.block G HGl.out (by have := HO.out; have := HG.out; omega))).trans HD6.out
           have e57 := (World.cell?_of_block (a := ⟨G, i * 8 + 7, none⟩) (hk5.block G HGl.out (by have := HO.out; have := HG.out; omega))).trans HD7.out
           clear hr5 hk5)
        | go_in)
      have HX := hide (show ProsE w8 G n P (i + 1) b4 b5 b6 b7 from by
        refine ⟨⟨_, HG8.out, fun j hj hjn => ?_⟩, fun j hj hjn => ?_⟩
        · obtain ⟨t4, t5, t6, t7⟩ := HSf.out j (by omega) hjn
          refine ⟨?_, ?_, ?_, ?_⟩
          · rw [if_neg (by omega), if_neg (by omega), if_neg (by omega), if_neg (by omega)]; exact t4
          · rw [if_neg (by omega), if_neg (by omega), if_neg (by omega), if_neg (by omega)]; exact t5
          · rw [if_neg (by omega), if_neg (by omega), if_neg (by omega), if_neg (by omega)]; exact t6
          · rw [if_neg (by omega), if_neg (by omega), if_neg (by omega), if_neg (by omega)]; exact t7
        · obtain ⟨t4, t5, t6, t7⟩ := HE.out.own j (by omega) hjn
          have q1 := HR.out.ord j hjn
          have q2 := HR.out.low j (Nat.le_of_lt hjn)
          have q3 : L (i + 1) ≤ L j := HR.out.mono hj (Nat.le_of_lt hjn)
          have q4 := HO.out
          have q5 := HG.out
          exact ⟨t4.keep HK8.out (by omega), t5.keep HK8.out (by omega), t6.keep HK8.out (by omega), t7.keep HK8.out (by omega)⟩)
      have HY := hide (HK.out.trans (HK8.out.mono (S' := fun b => G ≤ b ∧ b < L n) (fun b hb => by have := HO.out; have := HG.out; have := HLn.out; omega)))
      clear HG8 HK8 HK4 HK5 HK6 HK7 HG4 HG5 HG6 HG7
      go_roundw
      case rel => exact ⟨i + 1, _, by omega, by simp, rfl, by omega, hide (by have := HB.out; have := HW1.out; have := HNu.out; omega), HX, HY⟩
      case measure => show n - ivN (.int .i64 _) < n - ivN (.int .i64 _); simp [ivN]; omega
    · obtain rfl : i = n := by omega
      go_wp2_with fail
      go_ret
      exact ⟨kk, rfl, by omega, HK.out⟩

/-- A chunk of the call's own whose blocks all lie below B. -/
def ProsB (w : World) (G n : Nat) (P : Nat → PV) (B : Nat) : Prop := ∃ f L b4 b5 b6 b7, ProsK w G n P n f L b4 b5 b6 b7 ∧ L n ≤ B
theorem ProsO.b {w : World} {G n : Nat} {P : Nat → PV} (h : ProsO w G n P n) : ProsB w G n P w.heap.size := by
  obtain ⟨f, L, b4, b5, b6, b7, h⟩ := h
  exact ⟨f, L, b4, b5, b6, b7, h, h.top⟩
theorem ProsB.low {w w' : World} {G n C : Nat} {P : Nat → PV} {B : Nat} (h : ProsB w G n P C) (hb : Below B w w') (hB : w.heap.size ≤ B) : ProsB w' G n P C := by
  obtain ⟨f, L, b4, b5, b6, b7, h, hc⟩ := h
  exact ⟨f, L, b4, b5, b6, b7, ⟨h.row.low hb (Nat.lt_of_lt_of_le h.row.lt hB), h.cel, fun i hi => (h.own i hi).low hb hB, h.ord, h.low, Nat.le_trans h.top hb.size⟩, hc⟩
theorem ProsB.by {w : World} {G n C : Nat} {P : Nat → PV} (h : ProsB w G n P C) : ProsA w (sl G n) n P := by
  obtain ⟨f, L, b4, b5, b6, b7, h, hc⟩ := h
  exact ProsO.by ⟨f, L, b4, b5, b6, b7, h⟩

set_option maxHeartbeats 800000 in
set_option maxRecDepth 100000 in
theorem markChunk_e (G n C : Nat) (P : Nat → PV) (k : Int) (w : World) (hn : n ≤ 1048576) (hwt : wts P n ≤ 1048576) (hk0 : 1 ≤ k) (hk : k ≤ 1000) (h : ProsB w G n P C) :
    Calls Try.prog 10 #[.agg #[sl G n], .int .i64 k] w fun e w' => ∃ k' : Int, e = .returned (.int .i64 k') ∧ 0 ≤ k' ∧ Keeps w w' (fun b => G ≤ b ∧ b < C) := by
  have HW := hide hwt
  have HB := hide (b_1 w (.cells #[sl G n] 31))
  have HE := hide (h.low HB.out (Nat.le_refl _))
  clear h hwt
  unfold sl at *
  go_enter Try.func10, Try.ntmps10
  go_wp2_with fail
  generalize w.alloc (.cells #[.slice (some ⟨G, 0, none⟩) n n] 31) = w1 at *
  obtain ⟨f, L, b4, b5, b6, b7, hK, hC⟩ := HE.out
  refine (markProtoS_e G n P L b4 b5 b6 b7 k w1 hn HW.out hk0 hk hK.e.2 hK.e.1).mono ?_
  rintro e w2 ⟨k', rfl, hk', hkeep⟩
  have HK := hide ((Keeps.of HB.out (Nat.le_refl _) (fun b => G ≤ b ∧ b < C)).trans (hkeep.mono (fun b hb => by omega)))
  clear hkeep hK
  go_wp2_with fail
  go_ret
  exact ⟨k', rfl, hk', HK.out⟩

end Go.Proofs.Ytplfgfdlcfdfdaa
