import Derived.Test.YtgnbhhgpaldheaaGreatKBQ
import Derived.Test.YtgnbhhgpaldheaaGreatKBD
import Derived.BigRegion
import Derived.Deep.RegionHeld3
import Derived.Deep.QuietTactic
import Derived.BigQuiet
namespace Go.Proofs.YtgnbhhgpaldheaaGreat
open Go Go.RowKit
set_option linter.unusedVariables false
def mkUpS (k j : Nat) : Value := if j % 2 = 0 then .bool (((k : Int) + (j : Int)) % 3 == 0) else .int .i64 ((k : Int) + (j : Int))
theorem mkUpS_0 (k i : Nat) : mkUpS k (i * 2) = .bool (((k : Int) + (i : Int) * 2) % 3 == 0) := by
  unfold mkUpS
  rw [if_pos (show (i * 2) % 2 = 0 by omega)]
  rw [show (k : Int) + ((i * 2 : Nat) : Int) = (k : Int) + (i : Int) * 2 by omega]
theorem mkUpS_1 (k i : Nat) : mkUpS k (i * 2 + 1) = .int .i64 ((k : Int) + (i : Int) * 2 + 1) := by
  unfold mkUpS
  rw [if_neg (show ¬ (i * 2 + 1) % 2 = 0 by omega)]
  rw [show (k : Int) + ((i * 2 + 1 : Nat) : Int) = (k : Int) + (i : Int) * 2 + 1 by omega]
set_option maxHeartbeats 1600000 in
set_option maxRecDepth 100000 in
theorem markUpS_any (g N cap k : Nat) (f : Nat → Value) (w : World) (hN : N ≤ 2000000) (hk0 : 1 ≤ k) (hk : k ≤ 20000000) (hc : N ≤ cap) (h : RowF w 104 g (N * 2) f) :
    Calls Tryz.prog 54 #[.slice (some ⟨g, 0, none⟩) N cap, .int .i64 k] w fun e w' => e = .returned (.int .i64 ((k : Int) + (N : Int) * 2)) ∧ RowF w' 104 g (N * 2) (mkUpS k) ∧ Keeps w w' (fun b => b = g) := by
  have HR := hide h
  clear h
  go_enter Tryz.func54, Tryz.ntmps54
  go_wp2
  go_loopw [1, 5] (fun kv iv wr => ∃ i : Nat, i ≤ N ∧ iv = .int .i64 i ∧ kv = .int .i64 ((k : Int) + (i : Int) * 2) ∧ Hid (RowF wr 104 g (N * 2) (fun j => if j < i * 2 then mkUpS k j else f j)) ∧ Hid (Keeps w wr (fun b => b = g))) (fun _ iv _ => N - ivN iv)
  case atStart => exact ⟨0, by omega, rfl, by simp, hide (HR.out.congr fun j hj => by simp), hide (Keeps.refl _ _)⟩
  case round =>
    obtain ⟨i, hi9, rfl, rfl, HRw, HKw⟩ := hrel
    by_cases hin : i < N
    · skip
      have c0 := HRw.out.cell (j := i * 2) (by omega)
      have c1 := HRw.out.cell (j := i * 2 + 1) (by omega)
      have z0 := HRw.out.frz (i * 2)
      have z1 := HRw.out.frz (i * 2 + 1)
      have HS := hide ((HRw.out.set (j := i * 2) (by omega) (.bool (((k : Int) + (i : Int) * 2) % 3 == 0))).set (j := i * 2 + 1) (by omega) (.int .i64 ((k : Int) + (i : Int) * 2 + 1)))
      have HK2 := hide ((HKw.out.setCell (j := i * 2) (S := fun b => b = g) rfl (.bool (((k : Int) + (i : Int) * 2) % 3 == 0))).setCell (j := i * 2 + 1) (S := fun b => b = g) rfl (.int .i64 ((k : Int) + (i : Int) * 2 + 1)))
      clear HRw HKw
      go_wp2_with fail
      go_roundw
      case rel =>
        refine ⟨i + 1, by omega, by simp, by simp; omega, hide (HS.out.congr fun j hj => ?_), HK2⟩
        show _ = if j < (i + 1) * 2 then mkUpS k j else f j
        by_cases e0 : j = i * 2
        · rw [e0, if_pos (show i * 2 < (i + 1) * 2 by omega), mkUpS_0]; simp
        by_cases e1 : j = i * 2 + 1
        · rw [e1, if_pos (show i * 2 + 1 < (i + 1) * 2 by omega), mkUpS_1]; simp
        by_cases e9 : j < i * 2
        · simp [e0, e1, e9, show j < (i + 1) * 2 by omega]
        · simp [e0, e1, e9, show ¬ j < (i + 1) * 2 by omega]
      case measure => show N - ivN (.int .i64 _) < N - ivN (.int .i64 _); simp [ivN]; omega
    · obtain rfl : i = N := by omega
      go_wp2_with fail
      go_ret
      exact ⟨rfl, HRw.out.congr fun j hj => by simp [hj], HKw.out⟩
def mkConstS (k j : Nat) : Value := if j % 4 = 0 then .int .i64 ((k : Int) + (j : Int)) else if j % 4 = 1 then .int .i64 ((k : Int) + (j : Int)) else if j % 4 = 2 then .int .u64 ((k : Int) + (j : Int)) else .string (mtx (k + j))
theorem mkConstS_0 (k i : Nat) : mkConstS k (i * 4) = .int .i64 ((k : Int) + (i : Int) * 4) := by
  unfold mkConstS
  rw [if_pos (show (i * 4) % 4 = 0 by omega)]
  rw [show (k : Int) + ((i * 4 : Nat) : Int) = (k : Int) + (i : Int) * 4 by omega]
theorem mkConstS_1 (k i : Nat) : mkConstS k (i * 4 + 1) = .int .i64 ((k : Int) + (i : Int) * 4 + 1) := by
  unfold mkConstS
  rw [if_neg (show ¬ (i * 4 + 1) % 4 = 0 by omega)]
  rw [if_pos (show (i * 4 + 1) % 4 = 1 by omega)]
  rw [show (k : Int) + ((i * 4 + 1 : Nat) : Int) = (k : Int) + (i : Int) * 4 + 1 by omega]
theorem mkConstS_2 (k i : Nat) : mkConstS k (i * 4 + 2) = .int .u64 ((k : Int) + (i : Int) * 4 + 2) := by
  unfold mkConstS
  rw [if_neg (show ¬ (i * 4 + 2) % 4 = 0 by omega)]
  rw [if_neg (show ¬ (i * 4 + 2) % 4 = 1 by omega)]
  rw [if_pos (show (i * 4 + 2) % 4 = 2 by omega)]
  rw [show (k : Int) + ((i * 4 + 2 : Nat) : Int) = (k : Int) + (i : Int) * 4 + 2 by omega]
theorem mkConstS_3 (k i : Nat) : mkConstS k (i * 4 + 3) = .string (mtx (k + i * 4 + 3)) := by
  unfold mkConstS
  rw [if_neg (show ¬ (i * 4 + 3) % 4 = 0 by omega)]
  rw [if_neg (show ¬ (i * 4 + 3) % 4 = 1 by omega)]
  rw [if_neg (show ¬ (i * 4 + 3) % 4 = 2 by omega)]
  rfl
set_option maxHeartbeats 1600000 in
set_option maxRecDepth 100000 in
theorem markConstS_any (g N cap k : Nat) (f : Nat → Value) (w : World) (hN : N ≤ 2000000) (hk0 : 1 ≤ k) (hk : k ≤ 20000000) (hc : N ≤ cap) (h : RowF w 81 g (N * 4) f) :
    Calls Tryz.prog 55 #[.slice (some ⟨g, 0, none⟩) N cap, .int .i64 k] w fun e w' => e = .returned (.int .i64 ((k : Int) + (N : Int) * 4)) ∧ RowF w' 81 g (N * 4) (mkConstS k) ∧ Keeps w w' (fun b => b = g) := by
  have HR := hide h
  clear h
  go_enter Tryz.func55, Tryz.ntmps55
  go_wp2
  go_loopw [1, 5] (fun kv iv wr => ∃ i : Nat, i ≤ N ∧ iv = .int .i64 i ∧ kv = .int .i64 ((k : Int) + (i : Int) * 4) ∧ Hid (RowF wr 81 g (N * 4) (fun j => if j < i * 4 then mkConstS k j else f j)) ∧ Hid (Keeps w wr (fun b => b = g))) (fun _ iv _ => N - ivN iv)
  case atStart => exact ⟨0, by omega, rfl, by simp, hide (HR.out.congr fun j hj => by simp), hide (Keeps.refl _ _)⟩
  case round =>
    obtain ⟨i, hi9, rfl, rfl, HRw, HKw⟩ := hrel
    by_cases hin : i < N
    · skip
      have c0 := HRw.out.cell (j := i * 4) (by omega)
      have c1 := HRw.out.cell (j := i * 4 + 1) (by omega)
      have c2 := HRw.out.cell (j := i * 4 + 2) (by omega)
      have c3 := HRw.out.cell (j := i * 4 + 3) (by omega)
      have z0 := HRw.out.frz (i * 4)
      have z1 := HRw.out.frz (i * 4 + 1)
      have z2 := HRw.out.frz (i * 4 + 2)
      have z3 := HRw.out.frz (i * 4 + 3)
      have HSa := hide (((HRw.out.set (j := i * 4) (by omega) (.int .i64 ((k : Int) + (i : Int) * 4))).set (j := i * 4 + 1) (by omega) (.int .i64 ((k : Int) + (i : Int) * 4 + 1))).set (j := i * 4 + 2) (by omega) (.int .u64 ((k : Int) + (i : Int) * 4 + 2)))
      have HKa := hide (((HKw.out.setCell (j := i * 4) (S := fun b => b = g) rfl (.int .i64 ((k : Int) + (i : Int) * 4))).setCell (j := i * 4 + 1) (S := fun b => b = g) rfl (.int .i64 ((k : Int) + (i : Int) * 4 + 1))).setCell (j := i * 4 + 2) (S := fun b => b = g) rfl (.int .u64 ((k : Int) + (i : Int) * 4 + 2)))
      clear HRw HKw
      go_wp2_with (first
        | (go_at_call 101
           refine (markText_any (k + i * 4 + 3) _ (by omega) (by omega)).mono ?_
           rintro e w8 ⟨rfl, hb⟩
           have HSb := hide (HSa.out.low hb HSa.out.lt)
           have y3 := HSb.out.cell (j := i * 4 + 3) (by omega)
           have x3 := HSb.out.frz (i * 4 + 3)
           have HS := hide (HSb.out.set (j := i * 4 + 3) (by omega) (.string (mtx (k + i * 4 + 3))))
           have HK2 := hide ((HKa.out.trans (Keeps.of hb (Nat.le_refl _) _)).setCell (j := i * 4 + 3) (S := fun b => b = g) rfl (.string (mtx (k + i * 4 + 3))))
           clear hb)
        | go_in)
      go_roundw
      case rel =>
        refine ⟨i + 1, by omega, by simp, by simp; omega, hide (HS.out.congr fun j hj => ?_), HK2⟩
        show _ = if j < (i + 1) * 4 then mkConstS k j else f j
        by_cases e0 : j = i * 4
        · rw [e0, if_pos (show i * 4 < (i + 1) * 4 by omega), mkConstS_0]; simp
        by_cases e1 : j = i * 4 + 1
        · rw [e1, if_pos (show i * 4 + 1 < (i + 1) * 4 by omega), mkConstS_1]; simp
        by_cases e2 : j = i * 4 + 2
        · rw [e2, if_pos (show i * 4 + 2 < (i + 1) * 4 by omega), mkConstS_2]; simp
        by_cases e3 : j = i * 4 + 3
        · rw [e3, if_pos (show i * 4 + 3 < (i + 1) * 4 by omega), mkConstS_3]; simp
        by_cases e9 : j < i * 4
        · simp [e0, e1, e2, e3, e9, show j < (i + 1) * 4 by omega]
        · simp [e0, e1, e2, e3, e9, show ¬ j < (i + 1) * 4 by omega]
      case measure => show N - ivN (.int .i64 _) < N - ivN (.int .i64 _); simp [ivN]; omega
    · obtain rfl : i = N := by omega
      go_wp2_with fail
      go_ret
      exact ⟨rfl, HRw.out.congr fun j hj => by simp [hj], HKw.out⟩
def mkInstrS (k j : Nat) : Value := if j % 4 = 0 then .int .i64 ((k : Int) + (j : Int)) else if j % 4 = 1 then .int .i64 ((k : Int) + (j : Int)) else if j % 4 = 2 then .int .i64 ((k : Int) + (j : Int)) else .int .i64 ((k : Int) + (j : Int))
theorem mkInstrS_0 (k i : Nat) : mkInstrS k (i * 4) = .int .i64 ((k : Int) + (i : Int) * 4) := by
  unfold mkInstrS
  rw [if_pos (show (i * 4) % 4 = 0 by omega)]
  rw [show (k : Int) + ((i * 4 : Nat) : Int) = (k : Int) + (i : Int) * 4 by omega]
theorem mkInstrS_1 (k i : Nat) : mkInstrS k (i * 4 + 1) = .int .i64 ((k : Int) + (i : Int) * 4 + 1) := by
  unfold mkInstrS
  rw [if_neg (show ¬ (i * 4 + 1) % 4 = 0 by omega)]
  rw [if_pos (show (i * 4 + 1) % 4 = 1 by omega)]
  rw [show (k : Int) + ((i * 4 + 1 : Nat) : Int) = (k : Int) + (i : Int) * 4 + 1 by omega]
theorem mkInstrS_2 (k i : Nat) : mkInstrS k (i * 4 + 2) = .int .i64 ((k : Int) + (i : Int) * 4 + 2) := by
  unfold mkInstrS
  rw [if_neg (show ¬ (i * 4 + 2) % 4 = 0 by omega)]
  rw [if_neg (show ¬ (i * 4 + 2) % 4 = 1 by omega)]
  rw [if_pos (show (i * 4 + 2) % 4 = 2 by omega)]
  rw [show (k : Int) + ((i * 4 + 2 : Nat) : Int) = (k : Int) + (i : Int) * 4 + 2 by omega]
theorem mkInstrS_3 (k i : Nat) : mkInstrS k (i * 4 + 3) = .int .i64 ((k : Int) + (i : Int) * 4 + 3) := by
  unfold mkInstrS
  rw [if_neg (show ¬ (i * 4 + 3) % 4 = 0 by omega)]
  rw [if_neg (show ¬ (i * 4 + 3) % 4 = 1 by omega)]
  rw [if_neg (show ¬ (i * 4 + 3) % 4 = 2 by omega)]
  rw [show (k : Int) + ((i * 4 + 3 : Nat) : Int) = (k : Int) + (i : Int) * 4 + 3 by omega]
set_option maxHeartbeats 1600000 in
set_option maxRecDepth 100000 in
theorem markInstrS_any (g N cap k : Nat) (f : Nat → Value) (w : World) (hN : N ≤ 2000000) (hk0 : 1 ≤ k) (hk : k ≤ 20000000) (hc : N ≤ cap) (h : RowF w 51 g (N * 4) f) :
    Calls Tryz.prog 56 #[.slice (some ⟨g, 0, none⟩) N cap, .int .i64 k] w fun e w' => e = .returned (.int .i64 ((k : Int) + (N : Int) * 4)) ∧ RowF w' 51 g (N * 4) (mkInstrS k) ∧ Keeps w w' (fun b => b = g) := by
  have HR := hide h
  clear h
  go_enter Tryz.func56, Tryz.ntmps56
  go_wp2
  go_loopw [1, 5] (fun kv iv wr => ∃ i : Nat, i ≤ N ∧ iv = .int .i64 i ∧ kv = .int .i64 ((k : Int) + (i : Int) * 4) ∧ Hid (RowF wr 51 g (N * 4) (fun j => if j < i * 4 then mkInstrS k j else f j)) ∧ Hid (Keeps w wr (fun b => b = g))) (fun _ iv _ => N - ivN iv)
  case atStart => exact ⟨0, by omega, rfl, by simp, hide (HR.out.congr fun j hj => by simp), hide (Keeps.refl _ _)⟩
  case round =>
    obtain ⟨i, hi9, rfl, rfl, HRw, HKw⟩ := hrel
    by_cases hin : i < N
    · skip
      have c0 := HRw.out.cell (j := i * 4) (by omega)
      have c1 := HRw.out.cell (j := i * 4 + 1) (by omega)
      have c2 := HRw.out.cell (j := i * 4 + 2) (by omega)
      have c3 := HRw.out.cell (j := i * 4 + 3) (by omega)
      have z0 := HRw.out.frz (i * 4)
      have z1 := HRw.out.frz (i * 4 + 1)
      have z2 := HRw.out.frz (i * 4 + 2)
      have z3 := HRw.out.frz (i * 4 + 3)
      have HS := hide ((((HRw.out.set (j := i * 4) (by omega) (.int .i64 ((k : Int) + (i : Int) * 4))).set (j := i * 4 + 1) (by omega) (.int .i64 ((k : Int) + (i : Int) * 4 + 1))).set (j := i * 4 + 2) (by omega) (.int .i64 ((k : Int) + (i : Int) * 4 + 2))).set (j := i * 4 + 3) (by omega) (.int .i64 ((k : Int) + (i : Int) * 4 + 3)))
      have HK2 := hide ((((HKw.out.setCell (j := i * 4) (S := fun b => b = g) rfl (.int .i64 ((k : Int) + (i : Int) * 4))).setCell (j := i * 4 + 1) (S := fun b => b = g) rfl (.int .i64 ((k : Int) + (i : Int) * 4 + 1))).setCell (j := i * 4 + 2) (S := fun b => b = g) rfl (.int .i64 ((k : Int) + (i : Int) * 4 + 2))).setCell (j := i * 4 + 3) (S := fun b => b = g) rfl (.int .i64 ((k : Int) + (i : Int) * 4 + 3)))
      clear HRw HKw
      go_wp2_with fail
      go_roundw
      case rel =>
        refine ⟨i + 1, by omega, by simp, by simp; omega, hide (HS.out.congr fun j hj => ?_), HK2⟩
        show _ = if j < (i + 1) * 4 then mkInstrS k j else f j
        by_cases e0 : j = i * 4
        · rw [e0, if_pos (show i * 4 < (i + 1) * 4 by omega), mkInstrS_0]; simp
        by_cases e1 : j = i * 4 + 1
        · rw [e1, if_pos (show i * 4 + 1 < (i + 1) * 4 by omega), mkInstrS_1]; simp
        by_cases e2 : j = i * 4 + 2
        · rw [e2, if_pos (show i * 4 + 2 < (i + 1) * 4 by omega), mkInstrS_2]; simp
        by_cases e3 : j = i * 4 + 3
        · rw [e3, if_pos (show i * 4 + 3 < (i + 1) * 4 by omega), mkInstrS_3]; simp
        by_cases e9 : j < i * 4
        · simp [e0, e1, e2, e3, e9, show j < (i + 1) * 4 by omega]
        · simp [e0, e1, e2, e3, e9, show ¬ j < (i + 1) * 4 by omega]
      case measure => show N - ivN (.int .i64 _) < N - ivN (.int .i64 _); simp [ivN]; omega
    · obtain rfl : i = N := by omega
      go_wp2_with fail
      go_ret
      exact ⟨rfl, HRw.out.congr fun j hj => by simp [hj], HKw.out⟩
def mkIntS (k j : Nat) : Value := .int .i64 ((k : Int) + (j : Int))
theorem mkIntS_0 (k i : Nat) : mkIntS k (i) = .int .i64 ((k : Int) + (i : Int)) := by
  unfold mkIntS
  rfl
set_option maxHeartbeats 1600000 in
set_option maxRecDepth 100000 in
theorem markIntS_any (g N cap k : Nat) (f : Nat → Value) (w : World) (hN : N ≤ 2000000) (hk0 : 1 ≤ k) (hk : k ≤ 20000000) (hc : N ≤ cap) (h : RowF w 3 g N f) :
    Calls Tryz.prog 57 #[.slice (some ⟨g, 0, none⟩) N cap, .int .i64 k] w fun e w' => e = .returned (.int .i64 ((k : Int) + (N : Int))) ∧ RowF w' 3 g N (mkIntS k) ∧ Keeps w w' (fun b => b = g) := by
  have HR := hide h
  clear h
  go_enter Tryz.func57, Tryz.ntmps57
  go_wp2
  go_loopw [1, 5] (fun kv iv wr => ∃ i : Nat, i ≤ N ∧ iv = .int .i64 i ∧ kv = .int .i64 ((k : Int) + (i : Int)) ∧ Hid (RowF wr 3 g N (fun j => if j < i then mkIntS k j else f j)) ∧ Hid (Keeps w wr (fun b => b = g))) (fun _ iv _ => N - ivN iv)
  case atStart => exact ⟨0, by omega, rfl, by simp, hide (HR.out.congr fun j hj => by simp), hide (Keeps.refl _ _)⟩
  case round =>
    obtain ⟨i, hi9, rfl, rfl, HRw, HKw⟩ := hrel
    by_cases hin : i < N
    · skip
      have c0 := HRw.out.cell (j := i) (by omega)
      have z0 := HRw.out.frz (i)
      have HS := hide (HRw.out.set (j := i) (by omega) (.int .i64 ((k : Int) + (i : Int))))
      have HK2 := hide (HKw.out.setCell (j := i) (S := fun b => b = g) rfl (.int .i64 ((k : Int) + (i : Int))))
      clear HRw HKw
      go_wp2_with fail
      go_roundw
      case rel =>
        refine ⟨i + 1, by omega, by simp, by simp; omega, hide (HS.out.congr fun j hj => ?_), HK2⟩
        show _ = if j < i + 1 then mkIntS k j else f j
        by_cases e0 : j = i
        · rw [e0, if_pos (show i < i + 1 by omega), mkIntS_0]; simp
        by_cases e9 : j < i
        · simp [e0, e9, show j < i + 1 by omega]
        · simp [e0, e9, show ¬ j < i + 1 by omega]
      case measure => show N - ivN (.int .i64 _) < N - ivN (.int .i64 _); simp [ivN]; omega
    · obtain rfl : i = N := by omega
      go_wp2_with fail
      go_ret
      exact ⟨rfl, HRw.out.congr fun j hj => by simp [hj], HKw.out⟩
def RowE (w : World) (T g N : Nat) : Prop := ∃ f, RowF w T g N f
theorem RowE.keep {w w' : World} {T g N : Nat} {S : Nat → Prop} (h : RowE w T g N) (k : Keeps w w' S) (hn : ¬ S g) : RowE w' T g N := by
  obtain ⟨f, h⟩ := h
  exact ⟨f, h.keep k hn⟩
theorem markUpS_e (g N cap : Nat) (k : Int) (w : World) (hN : N ≤ 2000000) (hk0 : 1 ≤ k) (hk : k ≤ 20000000) (hc : N ≤ cap) (h : RowE w 104 g (N * 2)) :
    Calls Tryz.prog 54 #[.slice (some ⟨g, 0, none⟩) N cap, .int .i64 k] w fun e w' => e = .returned (.int .i64 (k + (N : Int) * 2)) ∧ RowE w' 104 g (N * 2) ∧ Keeps w w' (fun b => b = g) := by
  obtain ⟨f, h⟩ := h
  obtain ⟨m, rfl⟩ := Int.eq_ofNat_of_zero_le (show 0 ≤ k by omega)
  refine (markUpS_any g N cap m f w hN (by omega) (by omega) hc h).mono ?_
  rintro e w' ⟨rfl, h1, h2⟩
  exact ⟨rfl, ⟨_, h1⟩, h2⟩
theorem markConstS_e (g N cap : Nat) (k : Int) (w : World) (hN : N ≤ 2000000) (hk0 : 1 ≤ k) (hk : k ≤ 20000000) (hc : N ≤ cap) (h : RowE w 81 g (N * 4)) :
    Calls Tryz.prog 55 #[.slice (some ⟨g, 0, none⟩) N cap, .int .i64 k] w fun e w' => e = .returned (.int .i64 (k + (N : Int) * 4)) ∧ RowE w' 81 g (N * 4) ∧ Keeps w w' (fun b => b = g) := by
  obtain ⟨f, h⟩ := h
  obtain ⟨m, rfl⟩ := Int.eq_ofNat_of_zero_le (show 0 ≤ k by omega)
  refine (markConstS_any g N cap m f w hN (by omega) (by omega) hc h).mono ?_
  rintro e w' ⟨rfl, h1, h2⟩
  exact ⟨rfl, ⟨_, h1⟩, h2⟩
theorem markInstrS_e (g N cap : Nat) (k : Int) (w : World) (hN : N ≤ 2000000) (hk0 : 1 ≤ k) (hk : k ≤ 20000000) (hc : N ≤ cap) (h : RowE w 51 g (N * 4)) :
    Calls Tryz.prog 56 #[.slice (some ⟨g, 0, none⟩) N cap, .int .i64 k] w fun e w' => e = .returned (.int .i64 (k + (N : Int) * 4)) ∧ RowE w' 51 g (N * 4) ∧ Keeps w w' (fun b => b = g) := by
  obtain ⟨f, h⟩ := h
  obtain ⟨m, rfl⟩ := Int.eq_ofNat_of_zero_le (show 0 ≤ k by omega)
  refine (markInstrS_any g N cap m f w hN (by omega) (by omega) hc h).mono ?_
  rintro e w' ⟨rfl, h1, h2⟩
  exact ⟨rfl, ⟨_, h1⟩, h2⟩
theorem markIntS_e (g N cap : Nat) (k : Int) (w : World) (hN : N ≤ 2000000) (hk0 : 1 ≤ k) (hk : k ≤ 20000000) (hc : N ≤ cap) (h : RowE w 3 g N) :
    Calls Tryz.prog 57 #[.slice (some ⟨g, 0, none⟩) N cap, .int .i64 k] w fun e w' => e = .returned (.int .i64 (k + (N : Int))) ∧ RowE w' 3 g N ∧ Keeps w w' (fun b => b = g) := by
  obtain ⟨f, h⟩ := h
  obtain ⟨m, rfl⟩ := Int.eq_ofNat_of_zero_le (show 0 ≤ k by omega)
  refine (markIntS_any g N cap m f w hN (by omega) (by omega) hc h).mono ?_
  rintro e w' ⟨rfl, h1, h2⟩
  exact ⟨rfl, ⟨_, h1⟩, h2⟩
structure ProsE (w : World) (G n : Nat) (P : Nat → PV) (i : Nat) (b4 b5 b6 b7 : Nat → Nat) : Prop where
  row : ∃ f, RowF w 45 G (n * 8) f ∧ ∀ j, i ≤ j → j < n → f (j * 8 + 4) = sl (b4 j) (P j).nu ∧ f (j * 8 + 5) = sl (b5 j) (P j).nc ∧ f (j * 8 + 6) = sl (b6 j) (P j).ni ∧ f (j * 8 + 7) = sl (b7 j) (P j).nl
  own : ∀ j, i ≤ j → j < n → RowE w 104 (b4 j) ((P j).nu * 2) ∧ RowE w 81 (b5 j) ((P j).nc * 4) ∧ RowE w 51 (b6 j) ((P j).ni * 4) ∧ RowE w 3 (b7 j) (P j).nl
structure Rise (G n : Nat) (L b4 b5 b6 b7 : Nat → Nat) : Prop where
  ord : ∀ i, i < n → L i ≤ b4 i ∧ b4 i < b5 i ∧ b5 i < b6 i ∧ b6 i < b7 i ∧ b7 i < L (i + 1)
  low : ∀ i, i ≤ n → G < L i
theorem Rise.mono {G n : Nat} {L b4 b5 b6 b7 : Nat → Nat} (h : Rise G n L b4 b5 b6 b7) {i j : Nat} (hij : i ≤ j) (hj : j ≤ n) : L i ≤ L j := by
  induction hij with
  | refl => exact Nat.le_refl _
  | @step m hm ih =>
    have o := h.ord m hj
    have t := ih (Nat.le_of_lt hj)
    show L i ≤ L (m + 1)
    omega
theorem ProsK.e {w : World} {G n : Nat} {P : Nat → PV} {f : Nat → Value} {L b4 b5 b6 b7 : Nat → Nat} (h : ProsK w G n P n f L b4 b5 b6 b7) : ProsE w G n P 0 b4 b5 b6 b7 ∧ Rise G n L b4 b5 b6 b7 := by
  refine ⟨⟨⟨f, h.row, fun j _ hj => ⟨(h.cel j hj).2.2.2.2.1, (h.cel j hj).2.2.2.2.2.1, (h.cel j hj).2.2.2.2.2.2.1, (h.cel j hj).2.2.2.2.2.2.2⟩⟩, fun j _ hj => ?_⟩, ⟨h.ord, h.low⟩⟩
  obtain ⟨⟨f4, r4, _⟩, ⟨f5, r5, _⟩, ⟨f6, r6, _⟩, ⟨f7, r7, _⟩⟩ := h.own j hj
  exact ⟨⟨f4, r4⟩, ⟨f5, r5⟩, ⟨f6, r6⟩, ⟨f7, by simpa using r7⟩⟩
set_option maxHeartbeats 1600000 in
set_option maxRecDepth 100000 in
theorem markProtoS_e (G n : Nat) (P : Nat → PV) (L b4 b5 b6 b7 : Nat → Nat) (k : Int) (w : World) (hn : n ≤ 1048576) (hwt : wts P n ≤ 1048576) (hk0 : 1 ≤ k) (hk : k ≤ 1000) (hr : Rise G n L b4 b5 b6 b7) (h : ProsE w G n P 0 b4 b5 b6 b7) :
    Calls Tryz.prog 24 #[sl G n, .int .i64 k] w fun e w' => ∃ k' : Int, e = .returned (.int .i64 k') ∧ 0 ≤ k' ∧ Keeps w w' (fun b => G ≤ b ∧ b < L n) := by
  have HW := hide hwt
  have HR := hide hr
  have HE := hide h
  clear hwt hr h
  unfold sl
  go_enter Tryz.func24, Tryz.ntmps24
  go_wp2
  go_loopw [1, 5] (fun kv iv wr => ∃ (i : Nat) (kk : Int), i ≤ n ∧ iv = .int .i64 i ∧ kv = .int .i64 kk ∧ 1 ≤ kk ∧ Hid (kk ≤ k + 4 * i + 4 * wts P i) ∧ Hid (ProsE wr G n P i b4 b5 b6 b7) ∧ Hid (Keeps w wr (fun b => G ≤ b ∧ b < L n))) (fun _ iv _ => n - ivN iv)
  case atStart => exact ⟨0, k, by omega, rfl, rfl, hk0, hide (by simp [wts_0]), HE, hide (Keeps.refl _ _)⟩
  case round =>
    clear HE
    obtain ⟨i, kk, hi9, rfl, rfl, hkk, HB, HE, HK⟩ := hrel
    by_cases hin : i < n
    · obtain ⟨f, hf, hS⟩ := HE.out.row
      obtain ⟨y4, y5, y6, y7⟩ := hS i (Nat.le_refl _) hin
      obtain ⟨o1, o2, o3, o4⟩ := HE.out.own i (Nat.le_refl _) hin
      have HO := hide (HR.out.ord i hin)
      have HG := hide (HR.out.low i (Nat.le_of_lt hin))
      have HLn := hide (show L (i + 1) ≤ L n from HR.out.mono hin (Nat.le_refl n))
      have HWi := hide (wts_mono P (Nat.le_of_lt hin))
      have HWj := hide (show wts P (i + 1) ≤ wts P n from wts_mono P hin)
      have HW1 := hide (wts_1 P i)
      have HSf := hide hS
      have HO1 := hide o1
      have HO2 := hide o2
      have HO3 := hide o3
      have HO4 := hide o4
      have HNu := hide (show (P i).nu ≤ 1048576 ∧ (P i).nc ≤ 1048576 ∧ (P i).ni ≤ 1048576 ∧ (P i).nl ≤ 1048576 ∧ (P i).nu + (P i).nc + (P i).ni + (P i).nl ≤ (P i).weight by have := HW1.out; have := HWj.out; have := HW.out; unfold PV.weight at *; omega)
      have hkb2 : kk ≤ 9000000 := by have := HB.out; have := HWi.out; have := HW.out; omega
      have hnu := HNu.out.1
      have hnc := HNu.out.2.1
      have hni := HNu.out.2.2.1
      have hnl := HNu.out.2.2.2.1
      have c0 := hf.cell (j := i * 8) (by omega)
      have c1 := hf.cell (j := i * 8 + 1) (by omega)
      have c2 := hf.cell (j := i * 8 + 2) (by omega)
      have c3 := hf.cell (j := i * 8 + 3) (by omega)
      have c4 := hf.cell (j := i * 8 + 4) (by omega)
      have c5 := hf.cell (j := i * 8 + 5) (by omega)
      have c6 := hf.cell (j := i * 8 + 6) (by omega)
      have c7 := hf.cell (j := i * 8 + 7) (by omega)
      have z0 := hf.frz (i * 8)
      have z1 := hf.frz (i * 8 + 1)
      have z2 := hf.frz (i * 8 + 2)
      have z3 := hf.frz (i * 8 + 3)
      rw [y4] at c4
      rw [y5] at c5
      rw [y6] at c6
      rw [y7] at c7
      unfold sl at c4 c5 c6 c7
      have HG4 := hide ((((hf.set (j := i * 8) (by omega) (.int .i64 kk)).set (j := i * 8 + 1) (by omega) (.int .i64 (kk + 1))).set (j := i * 8 + 2) (by omega) (.int .i64 (kk + 1 + 1))).set (j := i * 8 + 3) (by omega) (.bool ((kk + 1 + 1 + 1) % 3 == 0)))
      have HK4 := hide (((((Keeps.refl wr (fun b => b = G)).setCell (j := i * 8) rfl (.int .i64 kk)).setCell (j := i * 8 + 1) rfl (.int .i64 (kk + 1))).setCell (j := i * 8 + 2) rfl (.int .i64 (kk + 1 + 1))).setCell (j := i * 8 + 3) rfl (.bool ((kk + 1 + 1 + 1) % 3 == 0)))
      have d5 : ((((wr.setCell ⟨G, i * 8, none⟩ (.int .i64 kk)).setCell ⟨G, i * 8 + 1, none⟩ (.int .i64 (kk + 1))).setCell ⟨G, i * 8 + 2, none⟩ (.int .i64 (kk + 1 + 1))).setCell ⟨G, i * 8 + 3, none⟩ (.bool ((kk + 1 + 1 + 1) % 3 == 0))).cell? ⟨G, i * 8 + 5, none⟩ = some (.slice (some ⟨b5 i, 0, none⟩) (P i).nc (P i).nc) := by
        have e := HG4.out.cell (j := i * 8 + 5) (by omega)
        rw [e]; simp [y5, sl]
      have d6 : ((((wr.setCell ⟨G, i * 8, none⟩ (.int .i64 kk)).setCell ⟨G, i * 8 + 1, none⟩ (.int .i64 (kk + 1))).setCell ⟨G, i * 8 + 2, none⟩ (.int .i64 (kk + 1 + 1))).setCell ⟨G, i * 8 + 3, none⟩ (.bool ((kk + 1 + 1 + 1) % 3 == 0))).cell? ⟨G, i * 8 + 6, none⟩ = some (.slice (some ⟨b6 i, 0, none⟩) (P i).ni (P i).ni) := by
        have e := HG4.out.cell (j := i * 8 + 6) (by omega)
        rw [e]; simp [y6, sl]
      have d7 : ((((wr.setCell ⟨G, i * 8, none⟩ (.int .i64 kk)).setCell ⟨G, i * 8 + 1, none⟩ (.int .i64 (kk + 1))).setCell ⟨G, i * 8 + 2, none⟩ (.int .i64 (kk + 1 + 1))).setCell ⟨G, i * 8 + 3, none⟩ (.bool ((kk + 1 + 1 + 1) % 3 == 0))).cell? ⟨G, i * 8 + 7, none⟩ = some (.slice (some ⟨b7 i, 0, none⟩) (P i).nl (P i).nl) := by
        have e := HG4.out.cell (j := i * 8 + 7) (by omega)
        rw [e]; simp [y7, sl]
      have HD5 := hide d5
      have HD6 := hide d6
      have HD7 := hide d7
      have hGl := HG4.out.lt
      have HGl := hide hGl
      clear d5 d6 d7 y4 y5 y6 y7 hS hf o1 o2 o3 o4 hGl
      go_wp2_with (first
        | (have _z := HK7
           go_at_call 57
           clear _z
           refine (markIntS_e (b7 i) _ _ _ _ (by omega) (by omega) (by omega) (Nat.le_refl _) (HO4.out.keep HK7.out (by have := HO.out; have := HG.out; omega))).mono ?_
           rintro e w8 ⟨rfl, hr8, hk8⟩
           have HK8 := hide ((HK7.out.mono (S' := fun b => b = G ∨ b = b4 i ∨ b = b5 i ∨ b = b6 i ∨ b = b7 i) (fun b hb => by omega)).trans (hk8.mono (fun b hb => by omega)))
           have HG8 := hide (HG7.out.keep hk8 (by have := HO.out; have := HG.out; omega))
           clear hr8 hk8)
        | (have _z := HK6
           go_at_call 56
           clear _z
           refine (markInstrS_e (b6 i) _ _ _ _ (by omega) (by omega) (by omega) (Nat.le_refl _) (HO3.out.keep HK6.out (by have := HO.out; have := HG.out; omega))).mono ?_
           rintro e w7 ⟨rfl, hr7, hk7⟩
           have HK7 := hide ((HK6.out.mono (S' := fun b => b = G ∨ b = b4 i ∨ b = b5 i ∨ b = b6 i) (fun b hb => by omega)).trans (hk7.mono (fun b hb => by omega)))
           have HG7 := hide (HG6.out.keep hk7 (by have := HO.out; have := HG.out; omega))
           have e7 := (World.cell?_of_block (a := ⟨G, i * 8 + 7, none⟩) (hk7.block G HG6.out.lt (by have := HO.out; have := HG.out; omega))).trans e67
           clear hr7 hk7 e67)
        | (have _z := HK5
           go_at_call 55
           clear _z
           refine (markConstS_e (b5 i) _ _ _ _ (by omega) (by omega) (by omega) (Nat.le_refl _) (HO2.out.keep HK5.out (by have := HO.out; have := HG.out; omega))).mono ?_
           rintro e w6 ⟨rfl, hr6, hk6⟩
           have HK6 := hide ((HK5.out.mono (S' := fun b => b = G ∨ b = b4 i ∨ b = b5 i) (fun b hb => by omega)).trans (hk6.mono (fun b hb => by omega)))
           have HG6 := hide (HG5.out.keep hk6 (by have := HO.out; have := HG.out; omega))
           have e6 := (World.cell?_of_block (a := ⟨G, i * 8 + 6, none⟩) (hk6.block G HG5.out.lt (by have := HO.out; have := HG.out; omega))).trans e56
           have e67 := (World.cell?_of_block (a := ⟨G, i * 8 + 7, none⟩) (hk6.block G HG5.out.lt (by have := HO.out; have := HG.out; omega))).trans e57
           clear hr6 hk6 e56 e57)
        | (go_at_call 54
           refine (markUpS_e (b4 i) _ _ _ _ (by omega) (by omega) (by omega) (Nat.le_refl _) (HO1.out.keep HK4.out (by have := HO.out; have := HG.out; omega))).mono ?_
           rintro e w5 ⟨rfl, hr5, hk5⟩
           have HK5 := hide ((HK4.out.mono (S' := fun b => b = G ∨ b = b4 i) (fun b hb => by omega)).trans (hk5.mono (fun b hb => by omega)))
           have HG5 := hide (HG4.out.keep hk5 (by have := HO.out; have := HG.out; omega))
           have e5 := (World.cell?_of_block (a := ⟨G, i * 8 + 5, none⟩) (hk5.block G HGl.out (by have := HO.out; have := HG.out; omega))).trans HD5.out
           have e56 := (World.cell?_of_block (a := ⟨G, i * 8 + 6, none⟩) (hk5.block G HGl.out (by have := HO.out; have := HG.out; omega))).trans HD6.out
           have e57 := (World.cell?_of_block (a := ⟨G, i * 8 + 7, none⟩) (hk5.block G HGl.out (by have := HO.out; have := HG.out; omega))).trans HD7.out
           clear hr5 hk5)
        | go_in)
      have HX := hide (show ProsE w8 G n P (i + 1) b4 b5 b6 b7 from by
        refine ⟨⟨_, HG8.out, fun j hj hjn => ?_⟩, fun j hj hjn => ?_⟩
        · obtain ⟨t4, t5, t6, t7⟩ := HSf.out j (by omega) hjn
          refine ⟨?_, ?_, ?_, ?_⟩
          · rw [if_neg (by omega), if_neg (by omega), if_neg (by omega), if_neg (by omega)]; exact t4
          · rw [if_neg (by omega), if_neg (by omega), if_neg (by omega), if_neg (by omega)]; exact t5
          · rw [if_neg (by omega), if_neg (by omega), if_neg (by omega), if_neg (by omega)]; exact t6
          · rw [if_neg (by omega), if_neg (by omega), if_neg (by omega), if_neg (by omega)]; exact t7
        · obtain ⟨t4, t5, t6, t7⟩ := HE.out.own j (by omega) hjn
          have q1 := HR.out.ord j hjn
          have q2 := HR.out.low j (Nat.le_of_lt hjn)
          have q3 : L (i + 1) ≤ L j := HR.out.mono hj (Nat.le_of_lt hjn)
          have q4 := HO.out
          have q5 := HG.out
          exact ⟨t4.keep HK8.out (by omega), t5.keep HK8.out (by omega), t6.keep HK8.out (by omega), t7.keep HK8.out (by omega)⟩)
      have HY := hide (HK.out.trans (HK8.out.mono (S' := fun b => G ≤ b ∧ b < L n) (fun b hb => by have := HO.out; have := HG.out; have := HLn.out; omega)))
      clear HG8 HK8 HK4 HK5 HK6 HK7 HG4 HG5 HG6 HG7
      go_roundw
      case rel => exact ⟨i + 1, _, by omega, by simp, rfl, by omega, hide (by have := HB.out; have := HW1.out; have := HNu.out; omega), HX, HY⟩
      case measure => show n - ivN (.int .i64 _) < n - ivN (.int .i64 _); simp [ivN]; omega
    · obtain rfl : i = n := by omega
      go_wp2_with fail
      go_ret
      exact ⟨kk, rfl, by omega, HK.out⟩
def ProsB (w : World) (G n : Nat) (P : Nat → PV) (B : Nat) : Prop := ∃ f L b4 b5 b6 b7, ProsK w G n P n f L b4 b5 b6 b7 ∧ L n ≤ B
theorem ProsO.b {w : World} {G n : Nat} {P : Nat → PV} (h : ProsO w G n P n) : ProsB w G n P w.heap.size := by
  obtain ⟨f, L, b4, b5, b6, b7, h⟩ := h
  exact ⟨f, L, b4, b5, b6, b7, h, h.top⟩
theorem ProsB.low {w w' : World} {G n C : Nat} {P : Nat → PV} {B : Nat} (h : ProsB w G n P C) (hb : Below B w w') (hB : w.heap.size ≤ B) : ProsB w' G n P C := by
  obtain ⟨f, L, b4, b5, b6, b7, h, hc⟩ := h
  exact ⟨f, L, b4, b5, b6, b7, ⟨h.row.low hb (Nat.lt_of_lt_of_le h.row.lt hB), h.cel, fun i hi => (h.own i hi).low hb hB, h.ord, h.low, Nat.le_trans h.top hb.size⟩, hc⟩
theorem ProsB.by {w : World} {G n C : Nat} {P : Nat → PV} (h : ProsB w G n P C) : ProsA w (sl G n) n P := by
  obtain ⟨f, L, b4, b5, b6, b7, h, hc⟩ := h
  exact ProsO.by ⟨f, L, b4, b5, b6, b7, h⟩
set_option maxHeartbeats 800000 in
set_option maxRecDepth 100000 in
theorem markChunk_e (G n C : Nat) (P : Nat → PV) (k : Int) (w : World) (hn : n ≤ 1048576) (hwt : wts P n ≤ 1048576) (hk0 : 1 ≤ k) (hk : k ≤ 1000) (h : ProsB w G n P C) :
    Calls Tryz.prog 10 #[.agg #[sl G n], .int .i64 k] w fun e w' => ∃ k' : Int, e = .returned (.int .i64 k') ∧ 0 ≤ k' ∧ Keeps w w' (fun b => G ≤ b ∧ b < C) := by
  have HW := hide hwt
  have HB := hide (b_1 w (.cells #[sl G n] 28))
  have HE := hide (h.low HB.out (Nat.le_refl _))
  clear h hwt
  unfold sl at *
  go_enter Tryz.func10, Tryz.ntmps10
  go_wp2_with fail
  generalize w.alloc (.cells #[.slice (some ⟨G, 0, none⟩) n n] 28) = w1 at *
  obtain ⟨f, L, b4, b5, b6, b7, hK, hC⟩ := HE.out
  refine (markProtoS_e G n P L b4 b5 b6 b7 k w1 hn HW.out hk0 hk hK.e.2 hK.e.1).mono ?_
  rintro e w2 ⟨k', rfl, hk', hkeep⟩
  have HK := hide ((Keeps.of HB.out (Nat.le_refl _) (fun b => G ≤ b ∧ b < C)).trans (hkeep.mono (fun b hb => by omega)))
  clear hkeep hK
  go_wp2_with fail
  go_ret
  exact ⟨k', rfl, hk', HK.out⟩
def SlF (w : World) (T s : Nat) (v : Value) (n : Nat) (f : Nat → Value) : Prop := ∃ a cap, v = .slice a n cap ∧ n ≤ cap ∧ ((a = none ∧ n = 0) ∨ ∃ g, a = some ⟨g, 0, none⟩ ∧ RowF w T g (n * s) f)
theorem SlF.keep {w w' : World} {T s n : Nat} {v : Value} {f : Nat → Value} {S : Nat → Prop} (h : SlF w T s v n f) (k : Keeps w w' S) (hn : ∀ b, v.ownBlock = some b → ¬ S b) : SlF w' T s v n f := by
  obtain ⟨a, cap, rfl, h1, h2 | ⟨g, rfl, h3⟩⟩ := h
  · exact ⟨a, cap, rfl, h1, .inl h2⟩
  · exact ⟨_, cap, rfl, h1, .inr ⟨g, rfl, h3.keep k (hn g (by simp [Value.ownBlock]))⟩⟩
theorem SlF.low {w w' : World} {T s n B : Nat} {v : Value} {f : Nat → Value} (h : SlF w T s v n f) (hb : Below B w w') (hB : w.heap.size ≤ B) : SlF w' T s v n f := h.keep (Keeps.of hb hB (fun _ => False)) (fun _ _ x => x)
theorem SlF.congr {w : World} {T s n : Nat} {v : Value} {f f' : Nat → Value} (h : SlF w T s v n f) (hf : ∀ j, j < n * s → f j = f' j) : SlF w T s v n f' := by
  obtain ⟨a, cap, rfl, h1, h2 | ⟨g, rfl, h3⟩⟩ := h
  · exact ⟨a, cap, rfl, h1, .inl h2⟩
  · exact ⟨_, cap, rfl, h1, .inr ⟨g, rfl, h3.congr hf⟩⟩
theorem SlF.form {w : World} {T s n : Nat} {v : Value} {f : Nat → Value} (h : SlF w T s v n f) : ∃ a cap, v = .slice a n cap := by
  obtain ⟨a, cap, rfl, _⟩ := h
  exact ⟨a, cap, rfl⟩
theorem SlF.of {w : World} {B T s n : Nat} {v : Value} {xs : List Value} (h : w.ownsRow B T s v n xs) : ∃ f, SlF w T s v n f := by
  obtain ⟨h1, ⟨rfl, h2⟩ | ⟨g, cap, cur, rfl, hb, hg, hnc, hr⟩⟩ := h
  · subst h2
    exact ⟨fun _ => .bool false, none, 0, rfl, Nat.le_refl _, .inl ⟨rfl, rfl⟩⟩
  · exact ⟨_, _, cap, rfl, hnc, .inr ⟨g, rfl, rowF_owns ⟨h1, .inr ⟨g, cap, cur, rfl, hb, hg, hnc, hr⟩⟩⟩⟩
theorem RowF.apart {w : World} {T T' g g' N N' : Nat} {f f' : Nat → Value} (h : RowF w T g N f) (h' : RowF w T' g' N' f') (hT : T ≠ T') : g ≠ g' := by
  rintro rfl
  obtain ⟨c, h1, _⟩ := h
  obtain ⟨c', h1', _⟩ := h'
  rw [h1] at h1'
  simp at h1'
  exact hT h1'.2
theorem SlF.own {w : World} {T s n b : Nat} {v : Value} {f : Nat → Value} (h : SlF w T s v n f) (hb : v.ownBlock = some b) : RowF w T b (n * s) f := by
  obtain ⟨a, cap, rfl, h1, ⟨rfl, h2⟩ | ⟨g, rfl, h3⟩⟩ := h
  · simp [Value.ownBlock] at hb
  · have e : g = b := by simpa [Value.ownBlock] using hb
    subst e
    exact h3
theorem SlF.past {w w' : World} {T s n T' s' n' : Nat} {v v' : Value} {f f' : Nat → Value} (h : SlF w T s v n f) (k : Keeps w w' (fun b => v'.ownBlock = some b)) (h' : SlF w T' s' v' n' f') (hT : T ≠ T') : SlF w' T s v n f :=
  h.keep k (fun b hb hb' => (h.own hb).apart (h'.own hb') hT rfl)
theorem SlF.pastG {w w' : World} {T s n T' G N : Nat} {v : Value} {f f' : Nat → Value} (h : SlF w T s v n f) (k : Keeps w w' (fun b => b = G)) (h' : RowF w T' G N f') (hT : T ≠ T') : SlF w' T s v n f :=
  h.keep k (fun b hb hb' => (h.own hb).apart h' hT hb')
theorem RowF.past {w w' : World} {T g N T' s' n' : Nat} {v' : Value} {f f' : Nat → Value} (h : RowF w T g N f) (k : Keeps w w' (fun b => v'.ownBlock = some b)) (h' : SlF w T' s' v' n' f') (hT : T ≠ T') : RowF w' T g N f :=
  h.keep k (fun hb' => h.apart (h'.own hb') hT rfl)
set_option maxHeartbeats 1600000 in
set_option maxRecDepth 100000 in
theorem heldUpS_any (g N cap k : Nat) (w : World) (hN : N ≤ 2000000) (hk0 : 1 ≤ k) (hk : k ≤ 20000000) (hc : N ≤ cap) (h : RowF w 104 g (N * 2) (mkUpS k)) :
    Calls Tryz.prog 58 #[.slice (some ⟨g, 0, none⟩) N cap, .int .i64 k] w fun e w' => e = .returned (.int .i64 ((k : Int) + (N : Int) * 2)) ∧ Below w.heap.size w w' := by
  have HR := hide h
  clear h
  go_enter Tryz.func58, Tryz.ntmps58
  go_wp2
  go_loopw [1, 5] (fun kv iv wr => ∃ i : Nat, i ≤ N ∧ iv = .int .i64 i ∧ kv = .int .i64 ((k : Int) + (i : Int) * 2) ∧ Below w.heap.size w wr) (fun _ iv _ => N - ivN iv)
  case atStart => exact ⟨0, by omega, rfl, by simp, Below.refl _ _⟩
  case round =>
    obtain ⟨i, hi9, rfl, rfl, hb⟩ := hrel
    by_cases hin : i < N
    · have hr := HR.out.low hb HR.out.lt
      have c0 := hr.cell (j := i * 2) (by omega)
      rw [mkUpS_0] at c0
      have c1 := hr.cell (j := i * 2 + 1) (by omega)
      rw [mkUpS_1] at c1
      clear hr
      go_wp2_with fail
      go_roundw
      case rel => exact ⟨i + 1, by omega, by simp, by simp; omega, hb⟩
      case measure => show N - ivN (.int .i64 _) < N - ivN (.int .i64 _); simp [ivN]; omega
    · obtain rfl : i = N := by omega
      go_wp2_with fail
      go_ret
      exact ⟨rfl, hb⟩
set_option maxHeartbeats 800000 in
set_option maxRecDepth 100000 in
theorem markUpS_v (v : Value) (n : Nat) (k : Int) (m : Nat) (w : World) (hm : k = (m : Int)) (hN : n ≤ 2000000) (hk0 : 1 ≤ m) (hk : m ≤ 20000000) (h : ∃ f, SlF w 104 2 v n f) :
    Calls Tryz.prog 54 #[v, .int .i64 k] w fun e w' => e = .returned (.int .i64 (k + (n : Int) * 2)) ∧ SlF w' 104 2 v n (mkUpS m) ∧ Keeps w w' (fun b => v.ownBlock = some b) := by
  subst hm
  obtain ⟨f, h⟩ := h
  obtain ⟨a, cap, rfl, h1, ⟨rfl, rfl⟩ | ⟨g, rfl, h3⟩⟩ := h
  · clear h1
    go_enter Tryz.func54, Tryz.ntmps54
    go_wp2
    go_loopw [1, 5] (fun kv iv wr => kv = .int .i64 m ∧ iv = .int .i64 0 ∧ wr = w) (fun _ _ _ => 0)
    case atStart => exact ⟨rfl, rfl, rfl⟩
    case round =>
      obtain ⟨rfl, rfl, rfl⟩ := hrel
      go_wp2
      go_ret
      refine ⟨by simp, ?_⟩
      exact ⟨⟨_, _, rfl, Nat.zero_le _, .inl ⟨rfl, rfl⟩⟩, Keeps.refl _ _⟩
  · refine (markUpS_any g n cap m _ w hN hk0 hk h1 h3).mono ?_
    rintro e w' ⟨rfl, h4, h5⟩
    exact ⟨rfl, ⟨_, cap, rfl, h1, .inr ⟨g, rfl, h4⟩⟩, h5.mono (fun b hb => by subst hb; simp [Value.ownBlock])⟩
set_option maxHeartbeats 800000 in
set_option maxRecDepth 100000 in
theorem heldUpS_v (v : Value) (n : Nat) (k : Int) (m : Nat) (w : World) (hm : k = (m : Int)) (hN : n ≤ 2000000) (hk0 : 1 ≤ m) (hk : m ≤ 20000000) (h : SlF w 104 2 v n (mkUpS m)) :
    Calls Tryz.prog 58 #[v, .int .i64 k] w fun e w' => e = .returned (.int .i64 (k + (n : Int) * 2)) ∧ Below w.heap.size w w' := by
  subst hm
  obtain ⟨a, cap, rfl, h1, ⟨rfl, rfl⟩ | ⟨g, rfl, h3⟩⟩ := h
  · clear h1
    go_enter Tryz.func58, Tryz.ntmps58
    go_wp2
    go_loopw [1, 5] (fun kv iv wr => kv = .int .i64 m ∧ iv = .int .i64 0 ∧ wr = w) (fun _ _ _ => 0)
    case atStart => exact ⟨rfl, rfl, rfl⟩
    case round =>
      obtain ⟨rfl, rfl, rfl⟩ := hrel
      go_wp2
      go_ret
      refine ⟨by simp, ?_⟩
      exact Below.refl _ _
  · exact heldUpS_any g n cap m w hN hk0 hk h1 h3
set_option maxHeartbeats 1600000 in
set_option maxRecDepth 100000 in
theorem heldConstS_any (g N cap k : Nat) (w : World) (hN : N ≤ 2000000) (hk0 : 1 ≤ k) (hk : k ≤ 20000000) (hc : N ≤ cap) (h : RowF w 81 g (N * 4) (mkConstS k)) :
    Calls Tryz.prog 59 #[.slice (some ⟨g, 0, none⟩) N cap, .int .i64 k] w fun e w' => e = .returned (.int .i64 ((k : Int) + (N : Int) * 4)) ∧ Below w.heap.size w w' := by
  have HR := hide h
  clear h
  go_enter Tryz.func59, Tryz.ntmps59
  go_wp2
  go_loopw [1, 5] (fun kv iv wr => ∃ i : Nat, i ≤ N ∧ iv = .int .i64 i ∧ kv = .int .i64 ((k : Int) + (i : Int) * 4) ∧ Below w.heap.size w wr) (fun _ iv _ => N - ivN iv)
  case atStart => exact ⟨0, by omega, rfl, by simp, Below.refl _ _⟩
  case round =>
    obtain ⟨i, hi9, rfl, rfl, hb⟩ := hrel
    by_cases hin : i < N
    · have hr := HR.out.low hb HR.out.lt
      have c0 := hr.cell (j := i * 4) (by omega)
      rw [mkConstS_0] at c0
      have c1 := hr.cell (j := i * 4 + 1) (by omega)
      rw [mkConstS_1] at c1
      have c2 := hr.cell (j := i * 4 + 2) (by omega)
      rw [mkConstS_2] at c2
      have c3 := hr.cell (j := i * 4 + 3) (by omega)
      rw [mkConstS_3] at c3
      have hr3 := HR.out.lt
      have HB := hide hb
      clear hr hb
      have HMT : Hid (∀ w', Calls Tryz.prog 101 #[.int .i64 ((k : Int) + (i : Int) * 4 + 1 + 1 + 1)] w' fun e w'' => e = .returned (.string (mtx (k + i * 4 + 3))) ∧ Below w'.heap.size w' w'') := hide (fun w' => by
        have hm := markText_any (k + i * 4 + 3) w' (by omega) (by omega)
        rw [show (((k + i * 4 + 3 : Nat)) : Int) = (k : Int) + (i : Int) * 4 + 1 + 1 + 1 by omega] at hm
        exact hm)
      have HGL := hide (show g < wr.heap.size from Nat.lt_of_lt_of_le hr3 HB.out.size)
      go_wp2_with fail
      go_region_held3 (fun w' => w'.cell? ⟨g, i * 4 + 3, none⟩ = some (.string (mtx (k + i * 4 + 3)))) (go_keep)
        (first | (go_at_call 101; refine (HMT.out _).mono ?_; rintro e w2 ⟨rfl, hb2⟩; have q3 : w2.cell? ⟨g, i * 4 + 3, none⟩ = some (.string (mtx (k + i * 4 + 3))) := (hb2.cell (p := ⟨g, i * 4 + 3, none⟩) HGL.out).trans c3; have HB2 := hide hb2; clear hb2))
      have HB3 := hide (HB.out.drew.trans (HB2.out.mono HB.out.size))
      clear HMT c0 c1 c2 c3 q3
      go_wp2_with fail
      go_roundw
      case rel => exact ⟨i + 1, by omega, by simp, by simp; omega, HB3.out⟩
      case measure => show N - ivN (.int .i64 _) < N - ivN (.int .i64 _); simp [ivN]; omega
    · obtain rfl : i = N := by omega
      go_wp2_with fail
      go_ret
      exact ⟨rfl, hb⟩
set_option maxHeartbeats 800000 in
set_option maxRecDepth 100000 in
theorem markConstS_v (v : Value) (n : Nat) (k : Int) (m : Nat) (w : World) (hm : k = (m : Int)) (hN : n ≤ 2000000) (hk0 : 1 ≤ m) (hk : m ≤ 20000000) (h : ∃ f, SlF w 81 4 v n f) :
    Calls Tryz.prog 55 #[v, .int .i64 k] w fun e w' => e = .returned (.int .i64 (k + (n : Int) * 4)) ∧ SlF w' 81 4 v n (mkConstS m) ∧ Keeps w w' (fun b => v.ownBlock = some b) := by
  subst hm
  obtain ⟨f, h⟩ := h
  obtain ⟨a, cap, rfl, h1, ⟨rfl, rfl⟩ | ⟨g, rfl, h3⟩⟩ := h
  · clear h1
    go_enter Tryz.func55, Tryz.ntmps55
    go_wp2
    go_loopw [1, 5] (fun kv iv wr => kv = .int .i64 m ∧ iv = .int .i64 0 ∧ wr = w) (fun _ _ _ => 0)
    case atStart => exact ⟨rfl, rfl, rfl⟩
    case round =>
      obtain ⟨rfl, rfl, rfl⟩ := hrel
      go_wp2
      go_ret
      refine ⟨by simp, ?_⟩
      exact ⟨⟨_, _, rfl, Nat.zero_le _, .inl ⟨rfl, rfl⟩⟩, Keeps.refl _ _⟩
  · refine (markConstS_any g n cap m _ w hN hk0 hk h1 h3).mono ?_
    rintro e w' ⟨rfl, h4, h5⟩
    exact ⟨rfl, ⟨_, cap, rfl, h1, .inr ⟨g, rfl, h4⟩⟩, h5.mono (fun b hb => by subst hb; simp [Value.ownBlock])⟩
set_option maxHeartbeats 800000 in
set_option maxRecDepth 100000 in
theorem heldConstS_v (v : Value) (n : Nat) (k : Int) (m : Nat) (w : World) (hm : k = (m : Int)) (hN : n ≤ 2000000) (hk0 : 1 ≤ m) (hk : m ≤ 20000000) (h : SlF w 81 4 v n (mkConstS m)) :
    Calls Tryz.prog 59 #[v, .int .i64 k] w fun e w' => e = .returned (.int .i64 (k + (n : Int) * 4)) ∧ Below w.heap.size w w' := by
  subst hm
  obtain ⟨a, cap, rfl, h1, ⟨rfl, rfl⟩ | ⟨g, rfl, h3⟩⟩ := h
  · clear h1
    go_enter Tryz.func59, Tryz.ntmps59
    go_wp2
    go_loopw [1, 5] (fun kv iv wr => kv = .int .i64 m ∧ iv = .int .i64 0 ∧ wr = w) (fun _ _ _ => 0)
    case atStart => exact ⟨rfl, rfl, rfl⟩
    case round =>
      obtain ⟨rfl, rfl, rfl⟩ := hrel
      go_wp2
      go_ret
      refine ⟨by simp, ?_⟩
      exact Below.refl _ _
  · exact heldConstS_any g n cap m w hN hk0 hk h1 h3
set_option maxHeartbeats 1600000 in
set_option maxRecDepth 100000 in
theorem heldInstrS_any (g N cap k : Nat) (w : World) (hN : N ≤ 2000000) (hk0 : 1 ≤ k) (hk : k ≤ 20000000) (hc : N ≤ cap) (h : RowF w 51 g (N * 4) (mkInstrS k)) :
    Calls Tryz.prog 60 #[.slice (some ⟨g, 0, none⟩) N cap, .int .i64 k] w fun e w' => e = .returned (.int .i64 ((k : Int) + (N : Int) * 4)) ∧ Below w.heap.size w w' := by
  have HR := hide h
  clear h
  go_enter Tryz.func60, Tryz.ntmps60
  go_wp2
  go_loopw [1, 5] (fun kv iv wr => ∃ i : Nat, i ≤ N ∧ iv = .int .i64 i ∧ kv = .int .i64 ((k : Int) + (i : Int) * 4) ∧ Below w.heap.size w wr) (fun _ iv _ => N - ivN iv)
  case atStart => exact ⟨0, by omega, rfl, by simp, Below.refl _ _⟩
  case round =>
    obtain ⟨i, hi9, rfl, rfl, hb⟩ := hrel
    by_cases hin : i < N
    · have hr := HR.out.low hb HR.out.lt
      have c0 := hr.cell (j := i * 4) (by omega)
      rw [mkInstrS_0] at c0
      have c1 := hr.cell (j := i * 4 + 1) (by omega)
      rw [mkInstrS_1] at c1
      have c2 := hr.cell (j := i * 4 + 2) (by omega)
      rw [mkInstrS_2] at c2
      have c3 := hr.cell (j := i * 4 + 3) (by omega)
      rw [mkInstrS_3] at c3
      clear hr
      go_wp2_with fail
      go_roundw
      case rel => exact ⟨i + 1, by omega, by simp, by simp; omega, hb⟩
      case measure => show N - ivN (.int .i64 _) < N - ivN (.int .i64 _); simp [ivN]; omega
    · obtain rfl : i = N := by omega
      go_wp2_with fail
      go_ret
      exact ⟨rfl, hb⟩
set_option maxHeartbeats 800000 in
set_option maxRecDepth 100000 in
theorem markInstrS_v (v : Value) (n : Nat) (k : Int) (m : Nat) (w : World) (hm : k = (m : Int)) (hN : n ≤ 2000000) (hk0 : 1 ≤ m) (hk : m ≤ 20000000) (h : ∃ f, SlF w 51 4 v n f) :
    Calls Tryz.prog 56 #[v, .int .i64 k] w fun e w' => e = .returned (.int .i64 (k + (n : Int) * 4)) ∧ SlF w' 51 4 v n (mkInstrS m) ∧ Keeps w w' (fun b => v.ownBlock = some b) := by
  subst hm
  obtain ⟨f, h⟩ := h
  obtain ⟨a, cap, rfl, h1, ⟨rfl, rfl⟩ | ⟨g, rfl, h3⟩⟩ := h
  · clear h1
    go_enter Tryz.func56, Tryz.ntmps56
    go_wp2
    go_loopw [1, 5] (fun kv iv wr => kv = .int .i64 m ∧ iv = .int .i64 0 ∧ wr = w) (fun _ _ _ => 0)
    case atStart => exact ⟨rfl, rfl, rfl⟩
    case round =>
      obtain ⟨rfl, rfl, rfl⟩ := hrel
      go_wp2
      go_ret
      refine ⟨by simp, ?_⟩
      exact ⟨⟨_, _, rfl, Nat.zero_le _, .inl ⟨rfl, rfl⟩⟩, Keeps.refl _ _⟩
  · refine (markInstrS_any g n cap m _ w hN hk0 hk h1 h3).mono ?_
    rintro e w' ⟨rfl, h4, h5⟩
    exact ⟨rfl, ⟨_, cap, rfl, h1, .inr ⟨g, rfl, h4⟩⟩, h5.mono (fun b hb => by subst hb; simp [Value.ownBlock])⟩
set_option maxHeartbeats 800000 in
set_option maxRecDepth 100000 in
theorem heldInstrS_v (v : Value) (n : Nat) (k : Int) (m : Nat) (w : World) (hm : k = (m : Int)) (hN : n ≤ 2000000) (hk0 : 1 ≤ m) (hk : m ≤ 20000000) (h : SlF w 51 4 v n (mkInstrS m)) :
    Calls Tryz.prog 60 #[v, .int .i64 k] w fun e w' => e = .returned (.int .i64 (k + (n : Int) * 4)) ∧ Below w.heap.size w w' := by
  subst hm
  obtain ⟨a, cap, rfl, h1, ⟨rfl, rfl⟩ | ⟨g, rfl, h3⟩⟩ := h
  · clear h1
    go_enter Tryz.func60, Tryz.ntmps60
    go_wp2
    go_loopw [1, 5] (fun kv iv wr => kv = .int .i64 m ∧ iv = .int .i64 0 ∧ wr = w) (fun _ _ _ => 0)
    case atStart => exact ⟨rfl, rfl, rfl⟩
    case round =>
      obtain ⟨rfl, rfl, rfl⟩ := hrel
      go_wp2
      go_ret
      refine ⟨by simp, ?_⟩
      exact Below.refl _ _
  · exact heldInstrS_any g n cap m w hN hk0 hk h1 h3
set_option maxHeartbeats 1600000 in
set_option maxRecDepth 100000 in
theorem heldIntS_any (g N cap k : Nat) (w : World) (hN : N ≤ 2000000) (hk0 : 1 ≤ k) (hk : k ≤ 20000000) (hc : N ≤ cap) (h : RowF w 3 g N (mkIntS k)) :
    Calls Tryz.prog 61 #[.slice (some ⟨g, 0, none⟩) N cap, .int .i64 k] w fun e w' => e = .returned (.int .i64 ((k : Int) + (N : Int))) ∧ Below w.heap.size w w' := by
  have HR := hide h
  clear h
  go_enter Tryz.func61, Tryz.ntmps61
  go_wp2
  go_loopw [1, 5] (fun kv iv wr => ∃ i : Nat, i ≤ N ∧ iv = .int .i64 i ∧ kv = .int .i64 ((k : Int) + (i : Int)) ∧ Below w.heap.size w wr) (fun _ iv _ => N - ivN iv)
  case atStart => exact ⟨0, by omega, rfl, by simp, Below.refl _ _⟩
  case round =>
    obtain ⟨i, hi9, rfl, rfl, hb⟩ := hrel
    by_cases hin : i < N
    · have hr := HR.out.low hb HR.out.lt
      have c0 := hr.cell (j := i) (by omega)
      rw [mkIntS_0] at c0
      clear hr
      go_wp2_with fail
      go_roundw
      case rel => exact ⟨i + 1, by omega, by simp, by simp; omega, hb⟩
      case measure => show N - ivN (.int .i64 _) < N - ivN (.int .i64 _); simp [ivN]; omega
    · obtain rfl : i = N := by omega
      go_wp2_with fail
      go_ret
      exact ⟨rfl, hb⟩
set_option maxHeartbeats 800000 in
set_option maxRecDepth 100000 in
theorem markIntS_v (v : Value) (n : Nat) (k : Int) (m : Nat) (w : World) (hm : k = (m : Int)) (hN : n ≤ 2000000) (hk0 : 1 ≤ m) (hk : m ≤ 20000000) (h : ∃ f, SlF w 3 1 v n f) :
    Calls Tryz.prog 57 #[v, .int .i64 k] w fun e w' => e = .returned (.int .i64 (k + (n : Int))) ∧ SlF w' 3 1 v n (mkIntS m) ∧ Keeps w w' (fun b => v.ownBlock = some b) := by
  subst hm
  obtain ⟨f, h⟩ := h
  obtain ⟨a, cap, rfl, h1, ⟨rfl, rfl⟩ | ⟨g, rfl, h3⟩⟩ := h
  · clear h1
    go_enter Tryz.func57, Tryz.ntmps57
    go_wp2
    go_loopw [1, 5] (fun kv iv wr => kv = .int .i64 m ∧ iv = .int .i64 0 ∧ wr = w) (fun _ _ _ => 0)
    case atStart => exact ⟨rfl, rfl, rfl⟩
    case round =>
      obtain ⟨rfl, rfl, rfl⟩ := hrel
      go_wp2
      go_ret
      refine ⟨by simp, ?_⟩
      exact ⟨⟨_, _, rfl, Nat.zero_le _, .inl ⟨rfl, rfl⟩⟩, Keeps.refl _ _⟩
  · refine (markIntS_any g n cap m _ w hN hk0 hk h1 (by simpa using h3)).mono ?_
    rintro e w' ⟨rfl, h4, h5⟩
    exact ⟨rfl, ⟨_, cap, rfl, h1, .inr ⟨g, rfl, by simpa using h4⟩⟩, h5.mono (fun b hb => by subst hb; simp [Value.ownBlock])⟩
set_option maxHeartbeats 800000 in
set_option maxRecDepth 100000 in
theorem heldIntS_v (v : Value) (n : Nat) (k : Int) (m : Nat) (w : World) (hm : k = (m : Int)) (hN : n ≤ 2000000) (hk0 : 1 ≤ m) (hk : m ≤ 20000000) (h : SlF w 3 1 v n (mkIntS m)) :
    Calls Tryz.prog 61 #[v, .int .i64 k] w fun e w' => e = .returned (.int .i64 (k + (n : Int))) ∧ Below w.heap.size w w' := by
  subst hm
  obtain ⟨a, cap, rfl, h1, ⟨rfl, rfl⟩ | ⟨g, rfl, h3⟩⟩ := h
  · clear h1
    go_enter Tryz.func61, Tryz.ntmps61
    go_wp2
    go_loopw [1, 5] (fun kv iv wr => kv = .int .i64 m ∧ iv = .int .i64 0 ∧ wr = w) (fun _ _ _ => 0)
    case atStart => exact ⟨rfl, rfl, rfl⟩
    case round =>
      obtain ⟨rfl, rfl, rfl⟩ := hrel
      go_wp2
      go_ret
      refine ⟨by simp, ?_⟩
      exact Below.refl _ _
  · exact heldIntS_any g n cap m w hN hk0 hk h1 (by simpa using h3)
end Go.Proofs.YtgnbhhgpaldheaaGreat
