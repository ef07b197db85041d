import Derived.Test.YtplfgfdlcfdfdaaCG
namespace Go.Proofs.Ytplfgfdlcfdfdaa
open Go Go.RowKit
set_option linter.unusedVariables false

def mkUpS (k j : Nat) : Value := if j % 2 = 0 then .bool (((k : Int) + (j : Int)) % 3 == 0) else .int .i64 ((k : Int) + (j : Int))
theorem mkUpS_0 (k i : Nat) : mkUpS k (i * 2) = .bool (((k : Int) + (i : Int) * 2) % 3 == 0) := by
  unfold mkUpS
  rw [if_pos (show (i * 2) % 2 = 0 by omega)]
  rw [show (k : Int) + ((i * 2 : Nat) : Int) = (k : Int) + (i : Int) * 2 by omega]
theorem mkUpS_1 (k i : Nat) : mkUpS k (i * 2 + 1) = .int .i64 ((k : Int) + (i : Int) * 2 + 1) := by
  unfold mkUpS
  rw [if_neg (show ¬ (i * 2 + 1) % 2 = 0 by omega)]
  rw [show (k : Int) + ((i * 2 + 1 : Nat) : Int) = (k : Int) + (i : Int) * 2 + 1 by omega]

set_option maxHeartbeats 1600000 in
set_option maxRecDepth 100000 in
theorem markUpS_any (g N cap k : Nat) (f : Nat → Value) (w : World) (hN : N ≤ 2000000) (hk0 : 1 ≤ k) (hk : k ≤ 20000000) (hc : N ≤ cap) (h : RowF w 71 g (N * 2) f) :
    Calls Try.prog 39 #[.slice (some ⟨g, 0, none⟩) N cap, .int .i64 k] w fun e w' => e = .returned (.int .i64 ((k : Int) + (N : Int) * 2)) ∧ RowF w' 71 g (N * 2) (mkUpS k) ∧ Keeps w w' (fun b => b = g) := by
  have HR := hide h
  clear h
  go_enter Try.func39, Try.ntmps39
  go_wp2
  go_loopw [1, 5] (fun kv iv wr => ∃ i : Nat, i ≤ N ∧ iv = .int .i64 i ∧ kv = .int .i64 ((k : Int) + (i : Int) * 2) ∧ Hid (RowF wr 71 g (N * 2) (fun j => if j < i * 2 then mkUpS k j else f j)) ∧ Hid (Keeps w wr (fun b => b = g))) (fun _ iv _ => N - ivN iv)
  case atStart => exact ⟨0, by omega, rfl, by simp, hide (HR.out.congr fun j hj => by simp), hide (Keeps.refl _ _)⟩
  case round =>
    obtain ⟨i, hi9, rfl, rfl, HRw, HKw⟩ := hrel
    by_cases hin : i < N
    · skip
      have c0 := HRw.out.cell (j := i * 2) (by omega)
      have c1 := HRw.out.cell (j := i * 2 + 1) (by omega)
      have z0 := HRw.out.frz (i * 2)
      have z1 := HRw.out.frz (i * 2 + 1)
      have HS := hide ((HRw.out.set (j := i * 2) (by omega) (.bool (((k : Int) + (i : Int) * 2) % 3 == 0))).set (j := i * 2 + 1) (by omega) (.int .i64 ((k : Int) + (i : Int) * 2 + 1)))
      have HK2 := hide ((HKw.out.setCell (j := i * 2) (S := fun b => b = g) rfl (.bool (((k : Int) + (i : Int) * 2) % 3 == 0))).setCell (j := i * 2 + 1) (S := fun b => b = g) rfl (.int .i64 ((k : Int) + (i : Int) * 2 + 1)))
      clear HRw HKw
      go_wp2_with fail
      go_roundw
      case rel =>
        refine ⟨i + 1, by omega, by simp, by simp; omega, hide (HS.out.congr fun j hj => ?_), HK2⟩
        show _ = if j < (i + 1) * 2 then mkUpS k j else f j
        by_cases e0 : j = i * 2
        · rw [e0, if_pos (show i * 2 < (i + 1) * 2 by omega), mkUpS_0]; simp
        by_cases e1 : j = i * 2 + 1
        · rw [e1, if_pos (show i * 2 + 1 < (i + 1) * 2 by omega), mkUpS_1]; simp
        by_cases e9 : j < i * 2
        · simp [e0, e1, e9, show j < (i + 1) * 2 by omega]
        · simp [e0, e1, e9, show ¬ j < (i + 1) * 2 by omega]
      case measure => show N - ivN (.int .i64 _) < N - ivN (.int .i64 _); simp [ivN]; omega
    · obtain rfl : i = N := by omega
      go_wp2_with fail
      go_ret
      exact ⟨rfl, HRw.out.congr fun j hj => by simp [hj], HKw.out⟩
def mkConstS (k j : Nat) : Value := if j % 4 = 0 then .int .i64 ((k : Int) + (j : Int)) else if j % 4 = 1 then .int .i64 ((k : Int) + (j : Int)) else if j % 4 = 2 then .int .u64 ((k : Int) + (j : Int)) else .string (mtx (k + j))
theorem mkConstS_0 (k i : Nat) : mkConstS k (i * 4) = .int .i64 ((k : Int) + (i : Int) * 4) := by
  unfold mkConstS
  rw [if_pos (show (i * 4) % 4 = 0 by omega)]
  rw [show (k : Int) + ((i * 4 : Nat) : Int) = (k : Int) + (i : Int) * 4 by omega]
theorem mkConstS_1 (k i : Nat) : mkConstS k (i * 4 + 1) = .int .i64 ((k : Int) + (i : Int) * 4 + 1) := by
  unfold mkConstS
  rw [if_neg (show ¬ (i * 4 + 1) % 4 = 0 by omega)]
  rw [if_pos (show (i * 4 + 1) % 4 = 1 by omega)]
  rw [show (k : Int) + ((i * 4 + 1 : Nat) : Int) = (k : Int) + (i : Int) * 4 + 1 by omega]
theorem mkConstS_2 (k i : Nat) : mkConstS k (i * 4 + 2) = .int .u64 ((k : Int) + (i : Int) * 4 + 2) := by
  unfold mkConstS
  rw [if_neg (show ¬ (i * 4 + 2) % 4 = 0 by omega)]
  rw [if_neg (show ¬ (i * 4 + 2) % 4 = 1 by omega)]
  rw [if_pos (show (i * 4 + 2) % 4 = 2 by omega)]
  rw [show (k : Int) + ((i * 4 + 2 : Nat) : Int) = (k : Int) + (i : Int) * 4 + 2 by omega]
theorem mkConstS_3 (k i : Nat) : mkConstS k (i * 4 + 3) = .string (mtx (k + i * 4 + 3)) := by
  unfold mkConstS
  rw [if_neg (show ¬ (i * 4 + 3) % 4 = 0 by omega)]
  rw [if_neg (show ¬ (i * 4 + 3) % 4 = 1 by omega)]
  rw [if_neg (show ¬ (i * 4 + 3) % 4 = 2 by omega)]
  rfl

set_option maxHeartbeats 1600000 in
set_option maxRecDepth 100000 in
theorem markConstS_any (g N cap k : Nat) (f : Nat → Value) (w : World) (hN : N ≤ 2000000) (hk0 : 1 ≤ k) (hk : k ≤ 20000000) (hc : N ≤ cap) (h : RowF w 73 g (N * 4) f) :
    Calls Try.prog 40 #[.slice (some ⟨g, 0, none⟩) N cap, .int .i64 k] w fun e w' => e = .returned (.int .i64 ((k : Int) + (N : Int) * 4)) ∧ RowF w' 73 g (N * 4) (mkConstS k) ∧ Keeps w w' (fun b => b = g) := by
  have HR := hide h
  clear h
  go_enter Try.func40, Try.ntmps40
  go_wp2
  go_loopw [1, 5] (fun kv iv wr => ∃ i : Nat, i ≤ N ∧ iv = .int .i64 i ∧ kv = .int .i64 ((k : Int) + (i : Int) * 4) ∧ Hid (RowF wr 73 g (N * 4) (fun j => if j < i * 4 then mkConstS k j else f j)) ∧ Hid (Keeps w wr (fun b => b = g))) (fun _ iv _ => N - ivN iv)
  case atStart => exact ⟨0, by omega, rfl, by simp, hide (HR.out.congr fun j hj => by simp), hide (Keeps.refl _ _)⟩
  case round =>
    obtain ⟨i, hi9, rfl, rfl, HRw, HKw⟩ := hrel
    by_cases hin : i < N
    · skip
      have c0 := HRw.out.cell (j := i * 4) (by omega)
      have c1 := HRw.out.cell (j := i * 4 + 1) (by omega)
      have c2 := HRw.out.cell (j := i * 4 + 2) (by omega)
      have c3 := HRw.out.cell (j := i * 4 + 3) (by omega)
      have z0 := HRw.out.frz (i * 4)
      have z1 := HRw.out.frz (i * 4 + 1)
      have z2 := HRw.out.frz (i * 4 + 2)
      have z3 := HRw.out.frz (i * 4 + 3)
      have HSa := hide (((HRw.out.set (j := i * 4) (by omega) (.int .i64 ((k : Int) + (i : Int) * 4))).set (j := i * 4 + 1) (by omega) (.int .i64 ((k : Int) + (i : Int) * 4 + 1))).set (j := i * 4 + 2) (by omega) (.int .u64 ((k : Int) + (i : Int) * 4 + 2)))
      have HKa := hide (((HKw.out.setCell (j := i * 4) (S := fun b => b = g) rfl (.int .i64 ((k : Int) + (i : Int) * 4))).setCell (j := i * 4 + 1) (S := fun b => b = g) rfl (.int .i64 ((k : Int) + (i : Int) * 4 + 1))).setCell (j := i * 4 + 2) (S := fun b => b = g) rfl (.int .u64 ((k : Int) + (i : Int) * 4 + 2)))
      clear HRw HKw
      go_wp2_with (first
        | (go_at_call 65
           refine (markText_any (k + i * 4 + 3) _ (by omega) (by omega)).mono ?_
           rintro e w8 ⟨rfl, hb⟩
           have HSb := hide (HSa.out.low hb HSa.out.lt)
           have y3 := HSb.out.cell (j := i * 4 + 3) (by omega)
           have x3 := HSb.out.frz (i * 4 + 3)
           have HS := hide (HSb.out.set (j := i * 4 + 3) (by omega) (.string (mtx (k + i * 4 + 3))))
           have HK2 := hide ((HKa.out.trans (Keeps.of hb (Nat.le_refl _) _)).setCell (j := i * 4 + 3) (S := fun b => b = g) rfl (.string (mtx (k + i * 4 + 3))))
           clear hb)
        | go_in)
      go_roundw
      case rel =>
        refine ⟨i + 1, by omega, by simp, by simp; omega, hide (HS.out.congr fun j hj => ?_), HK2⟩
        show _ = if j < (i + 1) * 4 then mkConstS k j else f j
        by_cases e0 : j = i * 4
        · rw [e0, if_pos (show i * 4 < (i + 1) * 4 by omega), mkConstS_0]; simp
        by_cases e1 : j = i * 4 + 1
        · rw [e1, if_pos (show i * 4 + 1 < (i + 1) * 4 by omega), mkConstS_1]; simp
        by_cases e2 : j = i * 4 + 2
        · rw [e2, if_pos (show i * 4 + 2 < (i + 1) * 4 by omega), mkConstS_2]; simp
        by_cases e3 : j = i * 4 + 3
        · rw [e3, if_pos (show i * 4 + 3 < (i + 1) * 4 by omega), mkConstS_3]; simp
        by_cases e9 : j < i * 4
        · simp [e0, e1, e2, e3, e9, show j < (i + 1) * 4 by omega]
        · simp [e0, e1, e2, e3, e9, show ¬ j < (i + 1) * 4 by omega]
      case measure => show N - ivN (.int .i64 _) < N - ivN (.int .i64 _); simp [ivN]; omega
    · obtain rfl : i = N := by omega
      go_wp2_with fail
      go_ret
      exact ⟨rfl, HRw.out.congr fun j hj => by simp [hj], HKw.out⟩
def mkInstrS (k j : Nat) : Value := if j % 4 = 0 then .int .i64 ((k : Int) + (j : Int)) else if j % 4 = 1 then .int .i64 ((k : Int) + (j : Int)) else if j % 4 = 2 then .int .i64 ((k : Int) + (j : Int)) else .int .i64 ((k : Int) + (j : Int))
theorem mkInstrS_0 (k i : Nat) : mkInstrS k (i * 4) = .int .i64 ((k : Int) + (i : Int) * 4) := by
  unfold mkInstrS
  rw [if_pos (show (i * 4) % 4 = 0 by omega)]
  rw [show (k : Int) + ((i * 4 : Nat) : Int) = (k : Int) + (i : Int) * 4 by omega]
theorem mkInstrS_1 (k i : Nat) : mkInstrS k (i * 4 + 1) = .int .i64 ((k : Int) + (i : Int) * 4 + 1) := by
  unfold mkInstrS
  rw [if_neg (show ¬ (i * 4 + 1) % 4 = 0 by omega)]
  rw [if_pos (show (i * 4 + 1) % 4 = 1 by omega)]
  rw [show (k : Int) + ((i * 4 + 1 : Nat) : Int) = (k : Int) + (i : Int) * 4 + 1 by omega]
theorem mkInstrS_2 (k i : Nat) : mkInstrS k (i * 4 + 2) = .int .i64 ((k : Int) + (i : Int) * 4 + 2) := by
  unfold mkInstrS
  rw [if_neg (show ¬ (i * 4 + 2) % 4 = 0 by omega)]
  rw [if_neg (show ¬ (i * 4 + 2) % 4 = 1 by omega)]
  rw [if_pos (show (i * 4 + 2) % 4 = 2 by omega)]
  rw [show (k : Int) + ((i * 4 + 2 : Nat) : Int) = (k : Int) + (i : Int) * 4 + 2 by omega]
theorem mkInstrS_3 (k i : Nat) : mkInstrS k (i * 4 + 3) = .int .i64 ((k : Int) + (i : Int) * 4 + 3) := by
  unfold mkInstrS
  rw [if_neg (show ¬ (i * 4 + 3) % 4 = 0 by omega)]
  rw [if_neg (show ¬ (i * 4 + 3) % 4 = 1 by omega)]
  rw [if_neg (show ¬ (i * 4 + 3) % 4 = 2 by omega)]
  rw [show (k : Int) + ((i * 4 + 3 : Nat) : Int) = (k : Int) + (i : Int) * 4 + 3 by omega]

set_option maxHeartbeats 1600000 in
set_option maxRecDepth 100000 in
theorem markInstrS_any (g N cap k : Nat) (f : Nat → Value) (w : World) (hN : N ≤ 2000000) (hk0 : 1 ≤ k) (hk : k ≤ 20000000) (hc : N ≤ cap) (h : RowF w 76 g (N * 4) f) :
    Calls Try.prog 41 #[.slice (some ⟨g, 0, none⟩) N cap, .int .i64 k] w fun e w' => e = .returned (.int .i64 ((k : Int) + (N : Int) * 4)) ∧ RowF w' 76 g (N * 4) (mkInstrS k) ∧ Keeps w w' (fun b => b = g) := by
  have HR := hide h
  clear h
  go_enter Try.func41, Try.ntmps41
  go_wp2
  go_loopw [1, 5] (fun kv iv wr => ∃ i : Nat, i ≤ N ∧ iv = .int .i64 i ∧ kv = .int .i64 ((k : Int) + (i : Int) * 4) ∧ Hid (RowF wr 76 g (N * 4) (fun j => if j < i * 4 then mkInstrS k j else f j)) ∧ Hid (Keeps w wr (fun b => b = g))) (fun _ iv _ => N - ivN iv)
  case atStart => exact ⟨0, by omega, rfl, by simp, hide (HR.out.congr fun j hj => by simp), hide (Keeps.refl _ _)⟩
  case round =>
    obtain ⟨i, hi9, rfl, rfl, HRw, HKw⟩ := hrel
    by_cases hin : i < N
    · skip
      have c0 := HRw.out.cell (j := i * 4) (by omega)
      have c1 := HRw.out.cell (j := i * 4 + 1) (by omega)
      have c2 := HRw.out.cell (j := i * 4 + 2) (by omega)
      have c3 := HRw.out.cell (j := i * 4 + 3) (by omega)
      have z0 := HRw.out.frz (i * 4)
      have z1 := HRw.out.frz (i * 4 + 1)
      have z2 := HRw.out.frz (i * 4 + 2)
      have z3 := HRw.out.frz (i * 4 + 3)
      have HS := hide ((((HRw.out.set (j := i * 4) (by omega) (.int .i64 ((k : Int) + (i : Int) * 4))).set (j := i * 4 + 1) (by omega) (.int .i64 ((k : Int) + (i : Int) * 4 + 1))).set (j := i * 4 + 2) (by omega) (.int .i64 ((k : Int) + (i : Int) * 4 + 2))).set (j := i * 4 + 3) (by omega) (.int .i64 ((k : Int) + (i : Int) * 4 + 3)))
      have HK2 := hide ((((HKw.out.setCell (j := i * 4) (S := fun b => b = g) rfl (.int .i64 ((k : Int) + (i : Int) * 4))).setCell (j := i * 4 + 1) (S := fun b => b = g) rfl (.int .i64 ((k : Int) + (i : Int) * 4 + 1))).setCell (j := i * 4 + 2) (S := fun b => b = g) rfl (.int .i64 ((k : Int) + (i : Int) * 4 + 2))).setCell (j := i * 4 + 3) (S := fun b => b = g) rfl (.int .i64 ((k : Int) + (i : Int) * 4 + 3)))
      clear HRw HKw
      go_wp2_with fail
      go_roundw
      case rel =>
        refine ⟨i + 1, by omega, by simp, by simp; omega, hide (HS.out.congr fun j hj => ?_), HK2⟩
        show _ = if j < (i + 1) * 4 then mkInstrS k j else f j
        by_cases e0 : j = i * 4
        · rw [e0, if_pos (show i * 4 < (i + 1) * 4 by omega), mkInstrS_0]; simp
        by_cases e1 : j = i * 4 + 1
        · rw [e1, if_pos (show i * 4 + 1 < (i + 1) * 4 by omega), mkInstrS_1]; simp
        by_cases e2 : j = i * 4 + 2
        · rw [e2, if_pos (show i * 4 + 2 < (i + 1) * 4 by omega), mkInstrS_2]; simp
        by_cases e3 : j = i * 4 + 3
        · rw [e3, if_pos (show i * 4 + 3 < (i + 1) * 4 by omega), mkInstrS_3]; simp
        by_cases e9 : j < i * 4
        · simp [e0, e1, e2, e3, e9, show j < (i + 1) * 4 by omega]
        · simp [e0, e1, e2, e3, e9, show ¬ j < (i + 1) * 4 by omega]
      case measure => show N - ivN (.int .i64 _) < N - ivN (.int .i64 _); simp [ivN]; omega
    · obtain rfl : i = N := by omega
      go_wp2_with fail
      go_ret
      exact ⟨rfl, HRw.out.congr fun j hj => by simp [hj], HKw.out⟩
def mkIntS (k j : Nat) : Value := .int .i64 ((k : Int) + (j : Int))
theorem mkIntS_0 (k i : Nat) : mkIntS k (i) = .int .i64 ((k : Int) + (i : Int)) := by
  unfold mkIntS
  rfl

set_option maxHeartbeats 1600000 in
set_option maxRecDepth 100000 in
theorem markIntS_any (g N cap k : Nat) (f : Nat → Value) (w : World) (hN : N ≤ 2000000) (hk0 : 1 ≤ k) (hk : k ≤ 20000000) (hc : N ≤ cap) (h : RowF w 3 g N f) :
    Calls Try.prog 42 #[.slice (some ⟨g, 0, none⟩) N cap, .int .i64 k] w fun e w' => e = .returned (.int .i64 ((k : Int) + (N : Int))) ∧ RowF w' 3 g N (mkIntS k) ∧ Keeps w w' (fun b => b = g) := by
  have HR := hide h
  clear h
  go_enter Try.func42, Try.ntmps42
  go_wp2
  go_loopw [1, 5] (fun kv iv wr => ∃ i : Nat, i ≤ N ∧ iv = .int .i64 i ∧ kv = .int .i64 ((k : Int) + (i : Int)) ∧ Hid (RowF wr 3 g N (fun j => if j < i then mkIntS k j else f j)) ∧ Hid (Keeps w wr (fun b => b = g))) (fun _ iv _ => N - ivN iv)
  case atStart => exact ⟨0, by omega, rfl, by simp, hide (HR.out.congr fun j hj => by simp), hide (Keeps.refl _ _)⟩
  case round =>
    obtain ⟨i, hi9, rfl, rfl, HRw, HKw⟩ := hrel
    by_cases hin : i < N
    · skip
      have c0 := HRw.out.cell (j := i) (by omega)
      have z0 := HRw.out.frz (i)
      have HS := hide (HRw.out.set (j := i) (by omega) (.int .i64 ((k : Int) + (i : Int))))
      have HK2 := hide (HKw.out.setCell (j := i) (S := fun b => b = g) rfl (.int .i64 ((k : Int) + (i : Int))))
      clear HRw HKw
      go_wp2_with fail
      go_roundw
      case rel =>
        refine ⟨i + 1, by omega, by simp, by simp; omega, hide (HS.out.congr fun j hj => ?_), HK2⟩
        show _ = if j < i + 1 then mkIntS k j else f j
        by_cases e0 : j = i
        · rw [e0, if_pos (show i < i + 1 by omega), mkIntS_0]; simp
        by_cases e9 : j < i
        · simp [e0, e9, show j < i + 1 by omega]
        · simp [e0, e9, show ¬ j < i + 1 by omega]
      case measure => show N - ivN (.int .i64 _) < N - ivN (.int .i64 _); simp [ivN]; omega
    · obtain rfl : i = N := by omega
      go_wp2_with fail
      go_ret
      exact ⟨rfl, HRw.out.congr fun j hj => by simp [hj], HKw.out⟩

end Go.Proofs.Ytplfgfdlcfdfdaa
