import Derived.Test.YtplfgfdlcfdfdaaB0
namespace Go.Proofs.Ytplfgfdlcfdfdaa
open Go Go.RowKit
set_option linter.unusedVariables false

def IntsA (w : World) (v : Value) (n : Nat) (x0 : Nat → Int) : Prop :=
  (n = 0 ∧ ∃ a cap, v = .slice a 0 cap) ∨ ∃ b o cap, v = .slice (some ⟨b, o, none⟩) n cap ∧ b < w.heap.size ∧ n ≤ cap ∧ ∀ i, i < n → w.cell? ⟨b, o + i, none⟩ = some (.int .i64 (x0 i))
theorem IntsA.low {w w' : World} {v : Value} {n B : Nat} {x0 : Nat → Int} (h : IntsA w v n x0) (hb : Below B w w') (hB : w.heap.size ≤ B) : IntsA w' v n x0 := by
  rcases h with h | ⟨b, o, cap, rfl, hbB, hcap, hc⟩
  · exact .inl h
  · refine .inr ⟨b, o, cap, rfl, Nat.lt_of_lt_of_le hbB hb.size, hcap, fun i hi => ?_⟩
    have hc := hc i hi
    exact (hb.cell (p := ⟨b, o + i, none⟩) (Nat.lt_of_lt_of_le hbB hB)).trans hc
theorem IntsA.val {w : World} {v : Value} {n : Nat} {x0 : Nat → Int} (h : IntsA w v n x0) : ∃ a cap, v = .slice a n cap := by
  rcases h with ⟨rfl, a, cap, rfl⟩ | ⟨b, o, cap, rfl, _⟩
  · exact ⟨a, cap, rfl⟩
  · exact ⟨_, cap, rfl⟩
def IntsO (w : World) (g n : Nat) (x0 : Nat → Int) : Prop := ∃ f, RowF w 3 g (n * 1) f ∧ ∀ i, i < n → f (i) = (.int .i64 (x0 i))
theorem IntsO.by {w : World} {g n : Nat} {x0 : Nat → Int} (h : IntsO w g n x0) : IntsA w (.slice (some ⟨g, 0, none⟩) n n) n x0 := by
  obtain ⟨f, h1, h2⟩ := h
  refine .inr ⟨g, 0, n, rfl, h1.lt, Nat.le_refl _, fun i hi => ?_⟩
  have h2 := h2 i hi
  rw [Nat.zero_add, h1.cell (j := i) (by omega), h2]
theorem IntsO.low {w w' : World} {g n B : Nat} {x0 : Nat → Int} (h : IntsO w g n x0) (hb : Below B w w') (hg : g < B) : IntsO w' g n x0 := by
  obtain ⟨f, h1, h2⟩ := h
  exact ⟨f, h1.low hb hg, h2⟩
theorem IntsO.other {w : World} {g g' j n : Nat} {x0 : Nat → Int} {x : Value} (h : IntsO w g n x0) (hn : g ≠ g') : IntsO (w.setCell ⟨g', j, none⟩ x) g n x0 := by
  obtain ⟨f, h1, h2⟩ := h
  exact ⟨f, h1.other hn, h2⟩
theorem IntsO.lt {w : World} {g n : Nat} {x0 : Nat → Int} (h : IntsO w g n x0) : g < w.heap.size := by
  obtain ⟨f, h1, h2⟩ := h
  exact h1.lt

theorem Try.info3 : (Try.prog.info? 3).map (fun i => (i.zero, i.size, i.bytes)) = some (some (.int .i64 0), 1, 8) := by kernel_rfl

theorem Ints_step {n i : Nat} {f : Nat → Value} {x0 : Nat → Int} (h : ∀ k, k < i → f (k) = (.int .i64 (x0 k))) : ∀ k, k < i + 1 → (fun j => if j = i then (.int .i64 (x0 i)) else f j) (k) = (.int .i64 (x0 k)) := by
  intro k hk
  by_cases e : k = i
  · subst e
    simp
  · have := h k (by omega)
    exact (if_neg (by omega)).trans this

set_option maxHeartbeats 800000 in
set_option maxRecDepth 100000 in
theorem toIntS_any (v : Value) (n : Nat) (x0 : Nat → Int) (w : World) (hn : n ≤ 1048576) (h : IntsA w v n x0) :
    Calls Try.prog 51 #[v] w fun e w' => e = .returned (.slice (some ⟨w.heap.size, 0, none⟩) n n) ∧ IntsO w' w.heap.size n x0 ∧ Below w.heap.size w w' := by
  obtain ⟨i0, hi, hz0, hz1, hz2⟩ := info_parts Try.info3
  rcases h with ⟨rfl, a, cap, rfl⟩ | ⟨b, o, cap, rfl, hb, hcap, hc⟩
  · go_enter Try.func51, Try.ntmps51
    go_wp2_with (first
      | (at_make; refine wpList_make_full _ rfl _ _ 44 rfl w.heap.size 3 i0 (.int .i64 0) 1 Try.underlying44 hi hz0 hz1 _ _ _ _ 0 rfl rfl rfl rfl (by rw [hz2]; omega) (by unfold maxLen; omega) (Nat.le_refl _) ?_; intro w1 hown hgrow)
      | go_in)
    have hb1 : Below w.heap.size w w1 := (Below.refl _ _).grown hgrow (Nat.le_refl _) (fun _ h => by cases h)
    have HO := hide (rowF_owns hown)
    clear hgrow hown
    go_wp2
    go_loopw [4] (fun iv wr => iv = .int .i64 0 ∧ wr = w1) (fun _ _ => 0)
    case atStart => exact ⟨rfl, rfl⟩
    case round =>
      obtain ⟨rfl, rfl⟩ := hrel
      go_wp2
      go_ret
      exact ⟨rfl, ⟨_, HO.out, fun i hi => by omega⟩, hb1⟩
  · have HC := hide hc
    clear hc
    go_enter Try.func51, Try.ntmps51
    go_wp2_with (first
      | (at_make; refine wpList_make_full _ rfl _ _ 44 rfl w.heap.size 3 i0 (.int .i64 0) 1 Try.underlying44 hi hz0 hz1 _ _ _ _ n rfl rfl rfl rfl (by rw [hz2]; omega) (by unfold maxLen; omega) (Nat.le_refl _) ?_; intro w1 hown hgrow)
      | go_in)
    have hb1 : Below w.heap.size w w1 := (Below.refl _ _).grown hgrow (Nat.le_refl _) (fun _ h => by cases h)
    have HO := hide (rowF_owns hown)
    clear hgrow hown
    go_wp2
    go_loopw [4] (fun iv wr => ∃ i : Nat, i ≤ n ∧ iv = .int .i64 i ∧ (∃ f, RowF wr 3 w.heap.size (n * 1) f ∧ ∀ k, k < i → f (k) = (.int .i64 (x0 k))) ∧ Below w.heap.size w wr) (fun iv _ => match iv with | .int _ x => n - x.toNat | _ => 0)
    case atStart => exact ⟨0, by omega, rfl, ⟨_, HO.out, fun k hk => by omega⟩, hb1⟩
    case round =>
      clear HO hb1
      obtain ⟨i, hi9, rfl, ⟨f, hF, hf⟩, hbw⟩ := hrel
      by_cases hin : i < n
      · have c0 := (hbw.cell (p := ⟨b, o + i, none⟩) (by assumption)).trans (HC.out i hin)
        have hbw2 := hbw
        have hF2 := hF
        clear hF hbw
        have d0 := hF2.cell (j := i) (by omega)
        have z0 := hF2.frz (i)
        have HF := hide hf
        have HR := hide (hF2.set (j := i) (by omega) (.int .i64 (x0 i)))
        have HB := hide (hbw2.setCell (p := ⟨w.heap.size, i, none⟩) (Nat.le_refl _) (.int .i64 (x0 i)))
        clear hf hF2 hbw2
        go_wp2
        go_roundw
        case rel => exact ⟨i + 1, by omega, by simp, ⟨_, HR.out, Ints_step (n := n) HF.out⟩, HB.out⟩
        case measure => simp; omega
      · obtain rfl : i = n := by omega
        have HO := hide hF
        have HF := hide hf
        clear hF hf
        go_wp2
        go_ret
        exact ⟨rfl, ⟨f, HO.out, HF.out⟩, hbw⟩

set_option maxHeartbeats 800000 in
set_option maxRecDepth 100000 in
theorem eqIntS_any (v v' : Value) (n : Nat) (x0 : Nat → Int) (w : World) (hn : n ≤ 1048576) (h : IntsA w v n x0) (h' : IntsA w v' n x0) :
    Calls Try.prog 64 #[v, v'] w fun e w' => e = .returned (.bool true) ∧ Below w.heap.size w w' := by
  by_cases h0 : n = 0
  · subst h0
    obtain ⟨a, cap, rfl⟩ := h.val
    obtain ⟨a', cap', rfl⟩ := h'.val
    clear h h'
    go_enter Try.func64, Try.ntmps64
    go_wp2
    go_loopw [5] (fun iv wr => iv = .int .i64 0 ∧ wr = w) (fun _ _ => 0)
    case atStart => exact ⟨rfl, rfl⟩
    case round =>
      obtain ⟨rfl, rfl⟩ := hrel
      go_wp2
      go_ret
      exact ⟨rfl, Below.refl _ _⟩
  · rcases h with ⟨h9, _⟩ | ⟨b, o, cap, rfl, hb, hcap, hc⟩
    · exact absurd h9 h0
    rcases h' with ⟨h9, _⟩ | ⟨b', o', cap', rfl, hb', hcap', hc'⟩
    · exact absurd h9 h0
    have HC := hide hc
    have HC' := hide hc'
    clear hc hc'
    go_enter Try.func64, Try.ntmps64
    go_wp2
    go_loopw [5] (fun iv wr => ∃ i : Nat, i ≤ n ∧ iv = .int .i64 i ∧ Below w.heap.size w wr) (fun iv _ => match iv with | .int _ x => n - x.toNat | _ => 0)
    case atStart => exact ⟨0, by omega, rfl, Below.refl _ _⟩
    case round =>
      obtain ⟨i, hi9, rfl, hbw⟩ := hrel
      by_cases hin : i < n
      · have c0 := (hbw.cell (p := ⟨b, o + i, none⟩) (by assumption)).trans (HC.out i hin)
        have e0 := (hbw.cell (p := ⟨b', o' + i, none⟩) (by assumption)).trans (HC'.out i hin)
        go_wp2
        go_quiet (fail)
        go_wp2
        go_roundw
        case rel => exact ⟨i + 1, by omega, by simp, below_drw hbw _⟩
        case measure => simp; omega
      · obtain rfl : i = n := by omega
        go_wp2
        go_ret
        exact ⟨rfl, hbw⟩

end Go.Proofs.Ytplfgfdlcfdfdaa
