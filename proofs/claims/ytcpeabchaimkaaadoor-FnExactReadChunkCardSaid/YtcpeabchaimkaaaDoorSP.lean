import Derived.Test.YtcpeabchaimkaaaDoorCI
import Derived.BigRegion
import Derived.Deep.RegionHeld3
import Derived.Deep.QuietTactic
import Derived.BigQuiet
namespace Go.Proofs.YtcpeabchaimkaaaDoor
open Go Go.RowKit
set_option linter.unusedVariables false

/-- A list of n elements of s cells each: none, or a block of its own from its beginning on. -/
def SlF (w : World) (T s : Nat) (v : Value) (n : Nat) (f : Nat → Value) : Prop := ∃ a cap, v = .slice a n cap ∧ n ≤ cap ∧ ((a = none ∧ n = 0) ∨ ∃ g, a = some ⟨g, 0, none⟩ ∧ RowF w T g (n * s) f)
theorem SlF.keep {w w' : World} {T s n : Nat} {v : Value} {f : Nat → Value} {S : Nat → Prop} (h : SlF w T s v n f) (k : Keeps w w' S) (hn : ∀ b, v.ownBlock = some b → ¬ S b) : SlF w' T s v n f := by
  obtain ⟨a, cap, rfl, h1, h2 | ⟨g, rfl, h3⟩⟩ := h
  · exact ⟨a, cap, rfl, h1, .inl h2⟩
  · exact ⟨_, cap, rfl, h1, .inr ⟨g, rfl, h3.keep k (hn g (by simp [Value.ownBlock]))⟩⟩
theorem SlF.low {w w' : World} {T s n B : Nat} {v : Value} {f : Nat → Value} (h : SlF w T s v n f) (hb : Below B w w') (hB : w.heap.size ≤ B) : SlF w' T s v n f := h.keep (Keeps.of hb hB (fun _ => False)) (fun _ _ x => x)
theorem SlF.congr {w : World} {T s n : Nat} {v : Value} {f f' : Nat → Value} (h : SlF w T s v n f) (hf : ∀ j, j < n * s → f j = f' j) : SlF w T s v n f' := by
  obtain ⟨a, cap, rfl, h1, h2 | ⟨g, rfl, h3⟩⟩ := h
  · exact ⟨a, cap, rfl, h1, .inl h2⟩
  · exact ⟨_, cap, rfl, h1, .inr ⟨g, rfl, h3.congr hf⟩⟩
theorem SlF.form {w : World} {T s n : Nat} {v : Value} {f : Nat → Value} (h : SlF w T s v n f) : ∃ a cap, v = .slice a n cap := by
  obtain ⟨a, cap, rfl, _⟩ := h
  exact ⟨a, cap, rfl⟩
theorem SlF.of {w : World} {B T s n : Nat} {v : Value} {xs : List Value} (h : w.ownsRow B T s v n xs) : ∃ f, SlF w T s v n f := by
  obtain ⟨h1, ⟨rfl, h2⟩ | ⟨g, cap, cur, rfl, hb, hg, hnc, hr⟩⟩ := h
  · subst h2
    exact ⟨fun _ => .bool false, none, 0, rfl, Nat.le_refl _, .inl ⟨rfl, rfl⟩⟩
  · exact ⟨_, _, cap, rfl, hnc, .inr ⟨g, rfl, rowF_owns ⟨h1, .inr ⟨g, cap, cur, rfl, hb, hg, hnc, hr⟩⟩⟩⟩
/-- Blocks of lists of different types are different. -/
theorem RowF.apart {w : World} {T T' g g' N N' : Nat} {f f' : Nat → Value} (h : RowF w T g N f) (h' : RowF w T' g' N' f') (hT : T ≠ T') : g ≠ g' := by
  rintro rfl
  obtain ⟨c, h1, _⟩ := h
  obtain ⟨c', h1', _⟩ := h'
  rw [h1] at h1'
  simp at h1'
  exact hT h1'.2
theorem SlF.own {w : World} {T s n b : Nat} {v : Value} {f : Nat → Value} (h : SlF w T s v n f) (hb : v.ownBlock = some b) : RowF w T b (n * s) f := by
  obtain ⟨a, cap, rfl, h1, ⟨rfl, h2⟩ | ⟨g, rfl, h3⟩⟩ := h
  · simp [Value.ownBlock] at hb
  · have e : g = b := by simpa [Value.ownBlock] using hb
    subst e
    exact h3
theorem SlF.past {w w' : World} {T s n T' s' n' : Nat} {v v' : Value} {f f' : Nat → Value} (h : SlF w T s v n f) (k : Keeps w w' (fun b => v'.ownBlock = some b)) (h' : SlF w T' s' v' n' f') (hT : T ≠ T') : SlF w' T s v n f :=
  h.keep k (fun b hb hb' => (h.own hb).apart (h'.own hb') hT rfl)
theorem SlF.pastG {w w' : World} {T s n T' G N : Nat} {v : Value} {f f' : Nat → Value} (h : SlF w T s v n f) (k : Keeps w w' (fun b => b = G)) (h' : RowF w T' G N f') (hT : T ≠ T') : SlF w' T s v n f :=
  h.keep k (fun b hb hb' => (h.own hb).apart h' hT hb')
theorem RowF.past {w w' : World} {T g N T' s' n' : Nat} {v' : Value} {f f' : Nat → Value} (h : RowF w T g N f) (k : Keeps w w' (fun b => v'.ownBlock = some b)) (h' : SlF w T' s' v' n' f') (hT : T ≠ T') : RowF w' T g N f :=
  h.keep k (fun hb' => h.apart (h'.own hb') hT rfl)

set_option maxHeartbeats 1600000 in
set_option maxRecDepth 100000 in
theorem heldUpS_any (g N cap k : Nat) (w : World) (hN : N ≤ 2000000) (hk0 : 1 ≤ k) (hk : k ≤ 20000000) (hc : N ≤ cap) (h : RowF w 57 g (N * 2) (mkUpS k)) :
    Calls Tryd.prog 38 #[.slice (some ⟨g, 0, none⟩) N cap, .int .i64 k] w fun e w' => e = .returned (.int .i64 ((k : Int) + (N : Int) * 2)) ∧ Below w.heap.size w w' := by
  have HR := hide h
  clear h
  go_enter Tryd.func38, Tryd.ntmps38
  go_wp2
  go_loopw [1, 5] (fun kv iv wr => ∃ i : Nat, i ≤ N ∧ iv = .int .i64 i ∧ kv = .int .i64 ((k : Int) + (i : Int) * 2) ∧ Below w.heap.size w wr) (fun _ iv _ => N - ivN iv)
  case atStart => exact ⟨0, by omega, rfl, by simp, Below.refl _ _⟩
  case round =>
    obtain ⟨i, hi9, rfl, rfl, hb⟩ := hrel
    by_cases hin : i < N
    · have hr := HR.out.low hb HR.out.lt
      have c0 := hr.cell (j := i * 2) (by omega)
      rw [mkUpS_0] at c0
      have c1 := hr.cell (j := i * 2 + 1) (by omega)
      rw [mkUpS_1] at c1
      clear hr
      go_wp2_with fail
      go_roundw
      case rel => exact ⟨i + 1, by omega, by simp, by simp; omega, hb⟩
      case measure => show N - ivN (.int .i64 _) < N - ivN (.int .i64 _); simp [ivN]; omega
    · obtain rfl : i = N := by omega
      go_wp2_with fail
      go_ret
      exact ⟨rfl, hb⟩
set_option maxHeartbeats 800000 in
set_option maxRecDepth 100000 in
theorem markUpS_v (v : Value) (n : Nat) (k : Int) (m : Nat) (w : World) (hm : k = (m : Int)) (hN : n ≤ 2000000) (hk0 : 1 ≤ m) (hk : m ≤ 20000000) (h : ∃ f, SlF w 57 2 v n f) :
    Calls Tryd.prog 34 #[v, .int .i64 k] w fun e w' => e = .returned (.int .i64 (k + (n : Int) * 2)) ∧ SlF w' 57 2 v n (mkUpS m) ∧ Keeps w w' (fun b => v.ownBlock = some b) := by
  subst hm
  obtain ⟨f, h⟩ := h
  obtain ⟨a, cap, rfl, h1, ⟨rfl, rfl⟩ | ⟨g, rfl, h3⟩⟩ := h
  · clear h1
    go_enter Tryd.func34, Tryd.ntmps34
    go_wp2
    go_loopw [1, 5] (fun kv iv wr => kv = .int .i64 m ∧ iv = .int .i64 0 ∧ wr = w) (fun _ _ _ => 0)
    case atStart => exact ⟨rfl, rfl, rfl⟩
    case round =>
      obtain ⟨rfl, rfl, rfl⟩ := hrel
      go_wp2
      go_ret
      refine ⟨by simp, ?_⟩
      exact ⟨⟨_, _, rfl, Nat.zero_le _, .inl ⟨rfl, rfl⟩⟩, Keeps.refl _ _⟩
  · refine (markUpS_any g n cap m _ w hN hk0 hk h1 h3).mono ?_
    rintro e w' ⟨rfl, h4, h5⟩
    exact ⟨rfl, ⟨_, cap, rfl, h1, .inr ⟨g, rfl, h4⟩⟩, h5.mono (fun b hb => by subst hb; simp [Value.ownBlock])⟩
set_option maxHeartbeats 800000 in
set_option maxRecDepth 100000 in
theorem heldUpS_v (v : Value) (n : Nat) (k : Int) (m : Nat) (w : World) (hm : k = (m : Int)) (hN : n ≤ 2000000) (hk0 : 1 ≤ m) (hk : m ≤ 20000000) (h : SlF w 57 2 v n (mkUpS m)) :
    Calls Tryd.prog 38 #[v, .int .i64 k] w fun e w' => e = .returned (.int .i64 (k + (n : Int) * 2)) ∧ Below w.heap.size w w' := by
  subst hm
  obtain ⟨a, cap, rfl, h1, ⟨rfl, rfl⟩ | ⟨g, rfl, h3⟩⟩ := h
  · clear h1
    go_enter Tryd.func38, Tryd.ntmps38
    go_wp2
    go_loopw [1, 5] (fun kv iv wr => kv = .int .i64 m ∧ iv = .int .i64 0 ∧ wr = w) (fun _ _ _ => 0)
    case atStart => exact ⟨rfl, rfl, rfl⟩
    case round =>
      obtain ⟨rfl, rfl, rfl⟩ := hrel
      go_wp2
      go_ret
      refine ⟨by simp, ?_⟩
      exact Below.refl _ _
  · exact heldUpS_any g n cap m w hN hk0 hk h1 h3

set_option maxHeartbeats 1600000 in
set_option maxRecDepth 100000 in
theorem heldConstS_any (g N cap k : Nat) (w : World) (hN : N ≤ 2000000) (hk0 : 1 ≤ k) (hk : k ≤ 20000000) (hc : N ≤ cap) (h : RowF w 59 g (N * 4) (mkConstS k)) :
    Calls Tryd.prog 39 #[.slice (some ⟨g, 0, none⟩) N cap, .int .i64 k] w fun e w' => e = .returned (.int .i64 ((k : Int) + (N : Int) * 4)) ∧ Below w.heap.size w w' := by
  have HR := hide h
  clear h
  go_enter Tryd.func39, Tryd.ntmps39
  go_wp2
  go_loopw [1, 5] (fun kv iv wr => ∃ i : Nat, i ≤ N ∧ iv = .int .i64 i ∧ kv = .int .i64 ((k : Int) + (i : Int) * 4) ∧ Below w.heap.size w wr) (fun _ iv _ => N - ivN iv)
  case atStart => exact ⟨0, by omega, rfl, by simp, Below.refl _ _⟩
  case round =>
    obtain ⟨i, hi9, rfl, rfl, hb⟩ := hrel
    by_cases hin : i < N
    · have hr := HR.out.low hb HR.out.lt
      have c0 := hr.cell (j := i * 4) (by omega)
      rw [mkConstS_0] at c0
      have c1 := hr.cell (j := i * 4 + 1) (by omega)
      rw [mkConstS_1] at c1
      have c2 := hr.cell (j := i * 4 + 2) (by omega)
      rw [mkConstS_2] at c2
      have c3 := hr.cell (j := i * 4 + 3) (by omega)
      rw [mkConstS_3] at c3
      have hr3 := HR.out.lt
      have HB := hide hb
      clear hr hb
      have HMT : Hid (∀ w', Calls Tryd.prog 59 #[.int .i64 ((k : Int) + (i : Int) * 4 + 1 + 1 + 1)] w' fun e w'' => e = .returned (.string (mtx (k + i * 4 + 3))) ∧ Below w'.heap.size w' w'') := hide (fun w' => by
        have hm := markText_any (k + i * 4 + 3) w' (by omega) (by omega)
        rw [show (((k + i * 4 + 3 : Nat)) : Int) = (k : Int) + (i : Int) * 4 + 1 + 1 + 1 by omega] at hm
        exact hm)
      have HGL := hide (show g < wr.heap.size from Nat.lt_of_lt_of_le hr3 HB.out.size)
      go_wp2_with fail
      go_region_held3 (fun w' => w'.cell? ⟨g, i * 4 + 3, none⟩ = some (.string (mtx (k + i * 4 + 3)))) (go_keep)
        (first | (go_at_call 59; refine (HMT.out _).mono ?_; rintro e w2 ⟨rfl, hb2⟩; have q3 : w2.cell? ⟨g, i * 4 + 3, none⟩ = some (.string (mtx (k + i * 4 + 3))) := (hb2.cell (p := ⟨g, i * 4 + 3, none⟩) HGL.out).trans c3; have HB2 := hide hb2; clear hb2))
      have HB3 := hide (HB.out.drew.trans (HB2.out.mono HB.out.size))
      clear HMT c0 c1 c2 c3 q3
      go_wp2_with fail
      go_roundw
      case rel => exact ⟨i + 1, by omega, by simp, by simp; omega, HB3.out⟩
      case measure => show N - ivN (.int .i64 _) < N - ivN (.int .i64 _); simp [ivN]; omega
    · obtain rfl : i = N := by omega
      go_wp2_with fail
      go_ret
      exact ⟨rfl, hb⟩
set_option maxHeartbeats 800000 in
set_option maxRecDepth 100000 in
theorem markConstS_v (v : Value) (n : Nat) (k : Int) (m : Nat) (w : World) (hm : k = (m : Int)) (hN : n ≤ 2000000) (hk0 : 1 ≤ m) (hk : m ≤ 20000000) (h : ∃ f, SlF w 59 4 v n f) :
    Calls Tryd.prog 35 #[v, .int .i64 k] w fun e w' => e = .returned (.int .i64 (k + (n : Int) * 4)) ∧ SlF w' 59 4 v n (mkConstS m) ∧ Keeps w w' (fun b => v.ownBlock = some b) := by
  subst hm
  obtain ⟨f, h⟩ := h
  obtain ⟨a, cap, rfl, h1, ⟨rfl, rfl⟩ | ⟨g, rfl, h3⟩⟩ := h
  · clear h1
    go_enter Tryd.func35, Tryd.ntmps35
    go_wp2
    go_loopw [1, 5] (fun kv iv wr => kv = .int .i64 m ∧ iv = .int .i64 0 ∧ wr = w) (fun _ _ _ => 0)
    case atStart => exact ⟨rfl, rfl, rfl⟩
    case round =>
      obtain ⟨rfl, rfl, rfl⟩ := hrel
      go_wp2
      go_ret
      refine ⟨by simp, ?_⟩
      exact ⟨⟨_, _, rfl, Nat.zero_le _, .inl ⟨rfl, rfl⟩⟩, Keeps.refl _ _⟩
  · refine (markConstS_any g n cap m _ w hN hk0 hk h1 h3).mono ?_
    rintro e w' ⟨rfl, h4, h5⟩
    exact ⟨rfl, ⟨_, cap, rfl, h1, .inr ⟨g, rfl, h4⟩⟩, h5.mono (fun b hb => by subst hb; simp [Value.ownBlock])⟩
set_option maxHeartbeats 800000 in
set_option maxRecDepth 100000 in
theorem heldConstS_v (v : Value) (n : Nat) (k : Int) (m : Nat) (w : World) (hm : k = (m : Int)) (hN : n ≤ 2000000) (hk0 : 1 ≤ m) (hk : m ≤ 20000000) (h : SlF w 59 4 v n (mkConstS m)) :
    Calls Tryd.prog 39 #[v, .int .i64 k] w fun e w' => e = .returned (.int .i64 (k + (n : Int) * 4)) ∧ Below w.heap.size w w' := by
  subst hm
  obtain ⟨a, cap, rfl, h1, ⟨rfl, rfl⟩ | ⟨g, rfl, h3⟩⟩ := h
  · clear h1
    go_enter Tryd.func39, Tryd.ntmps39
    go_wp2
    go_loopw [1, 5] (fun kv iv wr => kv = .int .i64 m ∧ iv = .int .i64 0 ∧ wr = w) (fun _ _ _ => 0)
    case atStart => exact ⟨rfl, rfl, rfl⟩
    case round =>
      obtain ⟨rfl, rfl, rfl⟩ := hrel
      go_wp2
      go_ret
      refine ⟨by simp, ?_⟩
      exact Below.refl _ _
  · exact heldConstS_any g n cap m w hN hk0 hk h1 h3

set_option maxHeartbeats 1600000 in
set_option maxRecDepth 100000 in
theorem heldInstrS_any (g N cap k : Nat) (w : World) (hN : N ≤ 2000000) (hk0 : 1 ≤ k) (hk : k ≤ 20000000) (hc : N ≤ cap) (h : RowF w 61 g (N * 4) (mkInstrS k)) :
    Calls Tryd.prog 40 #[.slice (some ⟨g, 0, none⟩) N cap, .int .i64 k] w fun e w' => e = .returned (.int .i64 ((k : Int) + (N : Int) * 4)) ∧ Below w.heap.size w w' := by
  have HR := hide h
  clear h
  go_enter Tryd.func40, Tryd.ntmps40
  go_wp2
  go_loopw [1, 5] (fun kv iv wr => ∃ i : Nat, i ≤ N ∧ iv = .int .i64 i ∧ kv = .int .i64 ((k : Int) + (i : Int) * 4) ∧ Below w.heap.size w wr) (fun _ iv _ => N - ivN iv)
  case atStart => exact ⟨0, by omega, rfl, by simp, Below.refl _ _⟩
  case round =>
    obtain ⟨i, hi9, rfl, rfl, hb⟩ := hrel
    by_cases hin : i < N
    · have hr := HR.out.low hb HR.out.lt
      have c0 := hr.cell (j := i * 4) (by omega)
      rw [mkInstrS_0] at c0
      have c1 := hr.cell (j := i * 4 + 1) (by omega)
      rw [mkInstrS_1] at c1
      have c2 := hr.cell (j := i * 4 + 2) (by omega)
      rw [mkInstrS_2] at c2
      have c3 := hr.cell (j := i * 4 + 3) (by omega)
      rw [mkInstrS_3] at c3
      clear hr
      go_wp2_with fail
      go_roundw
      case rel => exact ⟨i + 1, by omega, by simp, by simp; omega, hb⟩
      case measure => show N - ivN (.int .i64 _) < N - ivN (.int .i64 _); simp [ivN]; omega
    · obtain rfl : i = N := by omega
      go_wp2_with fail
      go_ret
      exact ⟨rfl, hb⟩
set_option maxHeartbeats 800000 in
set_option maxRecDepth 100000 in
theorem markInstrS_v (v : Value) (n : Nat) (k : Int) (m : Nat) (w : World) (hm : k = (m : Int)) (hN : n ≤ 2000000) (hk0 : 1 ≤ m) (hk : m ≤ 20000000) (h : ∃ f, SlF w 61 4 v n f) :
    Calls Tryd.prog 36 #[v, .int .i64 k] w fun e w' => e = .returned (.int .i64 (k + (n : Int) * 4)) ∧ SlF w' 61 4 v n (mkInstrS m) ∧ Keeps w w' (fun b => v.ownBlock = some b) := by
  subst hm
  obtain ⟨f, h⟩ := h
  obtain ⟨a, cap, rfl, h1, ⟨rfl, rfl⟩ | ⟨g, rfl, h3⟩⟩ := h
  · clear h1
    go_enter Tryd.func36, Tryd.ntmps36
    go_wp2
    go_loopw [1, 5] (fun kv iv wr => kv = .int .i64 m ∧ iv = .int .i64 0 ∧ wr = w) (fun _ _ _ => 0)
    case atStart => exact ⟨rfl, rfl, rfl⟩
    case round =>
      obtain ⟨rfl, rfl, rfl⟩ := hrel
      go_wp2
      go_ret
      refine ⟨by simp, ?_⟩
      exact ⟨⟨_, _, rfl, Nat.zero_le _, .inl ⟨rfl, rfl⟩⟩, Keeps.refl _ _⟩
  · refine (markInstrS_any g n cap m _ w hN hk0 hk h1 h3).mono ?_
    rintro e w' ⟨rfl, h4, h5⟩
    exact ⟨rfl, ⟨_, cap, rfl, h1, .inr ⟨g, rfl, h4⟩⟩, h5.mono (fun b hb => by subst hb; simp [Value.ownBlock])⟩
set_option maxHeartbeats 800000 in
set_option maxRecDepth 100000 in
theorem heldInstrS_v (v : Value) (n : Nat) (k : Int) (m : Nat) (w : World) (hm : k = (m : Int)) (hN : n ≤ 2000000) (hk0 : 1 ≤ m) (hk : m ≤ 20000000) (h : SlF w 61 4 v n (mkInstrS m)) :
    Calls Tryd.prog 40 #[v, .int .i64 k] w fun e w' => e = .returned (.int .i64 (k + (n : Int) * 4)) ∧ Below w.heap.size w w' := by
  subst hm
  obtain ⟨a, cap, rfl, h1, ⟨rfl, rfl⟩ | ⟨g, rfl, h3⟩⟩ := h
  · clear h1
    go_enter Tryd.func40, Tryd.ntmps40
    go_wp2
    go_loopw [1, 5] (fun kv iv wr => kv = .int .i64 m ∧ iv = .int .i64 0 ∧ wr = w) (fun _ _ _ => 0)
    case atStart => exact ⟨rfl, rfl, rfl⟩
    case round =>
      obtain ⟨rfl, rfl, rfl⟩ := hrel
      go_wp2
      go_ret
      refine ⟨by simp, ?_⟩
      exact Below.refl _ _
  · exact heldInstrS_any g n cap m w hN hk0 hk h1 h3

set_option maxHeartbeats 1600000 in
set_option maxRecDepth 100000 in
theorem heldIntS_any (g N cap k : Nat) (w : World) (hN : N ≤ 2000000) (hk0 : 1 ≤ k) (hk : k ≤ 20000000) (hc : N ≤ cap) (h : RowF w 3 g N (mkIntS k)) :
    Calls Tryd.prog 41 #[.slice (some ⟨g, 0, none⟩) N cap, .int .i64 k] w fun e w' => e = .returned (.int .i64 ((k : Int) + (N : Int))) ∧ Below w.heap.size w w' := by
  have HR := hide h
  clear h
  go_enter Tryd.func41, Tryd.ntmps41
  go_wp2
  go_loopw [1, 5] (fun kv iv wr => ∃ i : Nat, i ≤ N ∧ iv = .int .i64 i ∧ kv = .int .i64 ((k : Int) + (i : Int)) ∧ Below w.heap.size w wr) (fun _ iv _ => N - ivN iv)
  case atStart => exact ⟨0, by omega, rfl, by simp, Below.refl _ _⟩
  case round =>
    obtain ⟨i, hi9, rfl, rfl, hb⟩ := hrel
    by_cases hin : i < N
    · have hr := HR.out.low hb HR.out.lt
      have c0 := hr.cell (j := i) (by omega)
      rw [mkIntS_0] at c0
      clear hr
      go_wp2_with fail
      go_roundw
      case rel => exact ⟨i + 1, by omega, by simp, by simp; omega, hb⟩
      case measure => show N - ivN (.int .i64 _) < N - ivN (.int .i64 _); simp [ivN]; omega
    · obtain rfl : i = N := by omega
      go_wp2_with fail
      go_ret
      exact ⟨rfl, hb⟩
set_option maxHeartbeats 800000 in
set_option maxRecDepth 100000 in
theorem markIntS_v (v : Value) (n : Nat) (k : Int) (m : Nat) (w : World) (hm : k = (m : Int)) (hN : n ≤ 2000000) (hk0 : 1 ≤ m) (hk : m ≤ 20000000) (h : ∃ f, SlF w 3 1 v n f) :
    Calls Tryd.prog 37 #[v, .int .i64 k] w fun e w' => e = .returned (.int .i64 (k + (n : Int))) ∧ SlF w' 3 1 v n (mkIntS m) ∧ Keeps w w' (fun b => v.ownBlock = some b) := by
  subst hm
  obtain ⟨f, h⟩ := h
  obtain ⟨a, cap, rfl, h1, ⟨rfl, rfl⟩ | ⟨g, rfl, h3⟩⟩ := h
  · clear h1
    go_enter Tryd.func37, Tryd.ntmps37
    go_wp2
    go_loopw [1, 5] (fun kv iv wr => kv = .int .i64 m ∧ iv = .int .i64 0 ∧ wr = w) (fun _ _ _ => 0)
    case atStart => exact ⟨rfl, rfl, rfl⟩
    case round =>
      obtain ⟨rfl, rfl, rfl⟩ := hrel
      go_wp2
      go_ret
      refine ⟨by simp, ?_⟩
      exact ⟨⟨_, _, rfl, Nat.zero_le _, .inl ⟨rfl, rfl⟩⟩, Keeps.refl _ _⟩
  · refine (markIntS_any g n cap m _ w hN hk0 hk h1 (by simpa using h3)).mono ?_
    rintro e w' ⟨rfl, h4, h5⟩
    exact ⟨rfl, ⟨_, cap, rfl, h1, .inr ⟨g, rfl, by simpa using h4⟩⟩, h5.mono (fun b hb => by subst hb; simp [Value.ownBlock])⟩
set_option maxHeartbeats 800000 in
set_option maxRecDepth 100000 in
theorem heldIntS_v (v : Value) (n : Nat) (k : Int) (m : Nat) (w : World) (hm : k = (m : Int)) (hN : n ≤ 2000000) (hk0 : 1 ≤ m) (hk : m ≤ 20000000) (h : SlF w 3 1 v n (mkIntS m)) :
    Calls Tryd.prog 41 #[v, .int .i64 k] w fun e w' => e = .returned (.int .i64 (k + (n : Int))) ∧ Below w.heap.size w w' := by
  subst hm
  obtain ⟨a, cap, rfl, h1, ⟨rfl, rfl⟩ | ⟨g, rfl, h3⟩⟩ := h
  · clear h1
    go_enter Tryd.func41, Tryd.ntmps41
    go_wp2
    go_loopw [1, 5] (fun kv iv wr => kv = .int .i64 m ∧ iv = .int .i64 0 ∧ wr = w) (fun _ _ _ => 0)
    case atStart => exact ⟨rfl, rfl, rfl⟩
    case round =>
      obtain ⟨rfl, rfl, rfl⟩ := hrel
      go_wp2
      go_ret
      refine ⟨by simp, ?_⟩
      exact Below.refl _ _
  · exact heldIntS_any g n cap m w hN hk0 hk h1 (by simpa using h3)

end Go.Proofs.YtcpeabchaimkaaaDoor
