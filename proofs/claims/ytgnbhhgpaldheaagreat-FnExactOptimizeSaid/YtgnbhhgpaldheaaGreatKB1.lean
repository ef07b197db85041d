import Derived.Test.YtgnbhhgpaldheaaGreatKOB
namespace Go.Proofs.YtgnbhhgpaldheaaGreat
open Go Go.RowKit
set_option linter.unusedVariables false
def UpsA (w : World) (v : Value) (n : Nat) (x0 : Nat → Bool) (x1 : Nat → Int) : Prop :=
  (n = 0 ∧ ∃ a cap, v = .slice a 0 cap) ∨ ∃ b o cap, v = .slice (some ⟨b, o, none⟩) n cap ∧ b < w.heap.size ∧ n ≤ cap ∧ ∀ i, i < n → w.cell? ⟨b, o + i * 2, none⟩ = some (.bool (x0 i)) ∧ w.cell? ⟨b, o + i * 2 + 1, none⟩ = some (.int .i64 (x1 i))
theorem UpsA.low {w w' : World} {v : Value} {n B : Nat} {x0 : Nat → Bool} {x1 : Nat → Int} (h : UpsA w v n x0 x1) (hb : Below B w w') (hB : w.heap.size ≤ B) : UpsA w' v n x0 x1 := by
  rcases h with h | ⟨b, o, cap, rfl, hbB, hcap, hc⟩
  · exact .inl h
  · refine .inr ⟨b, o, cap, rfl, Nat.lt_of_lt_of_le hbB hb.size, hcap, fun i hi => ?_⟩
    have hc := hc i hi
    exact ⟨(hb.cell (p := ⟨b, o + i * 2, none⟩) (Nat.lt_of_lt_of_le hbB hB)).trans hc.1, (hb.cell (p := ⟨b, o + i * 2 + 1, none⟩) (Nat.lt_of_lt_of_le hbB hB)).trans hc.2⟩
theorem UpsA.val {w : World} {v : Value} {n : Nat} {x0 : Nat → Bool} {x1 : Nat → Int} (h : UpsA w v n x0 x1) : ∃ a cap, v = .slice a n cap := by
  rcases h with ⟨rfl, a, cap, rfl⟩ | ⟨b, o, cap, rfl, _⟩
  · exact ⟨a, cap, rfl⟩
  · exact ⟨_, cap, rfl⟩
def UpsO (w : World) (g n : Nat) (x0 : Nat → Bool) (x1 : Nat → Int) : Prop := ∃ f, RowF w 104 g (n * 2) f ∧ ∀ i, i < n → f (i * 2) = (.bool (x0 i)) ∧ f (i * 2 + 1) = (.int .i64 (x1 i))
theorem UpsO.by {w : World} {g n : Nat} {x0 : Nat → Bool} {x1 : Nat → Int} (h : UpsO w g n x0 x1) : UpsA w (.slice (some ⟨g, 0, none⟩) n n) n x0 x1 := by
  obtain ⟨f, h1, h2⟩ := h
  refine .inr ⟨g, 0, n, rfl, h1.lt, Nat.le_refl _, fun i hi => ?_⟩
  have h2 := h2 i hi
  rw [Nat.zero_add, h1.cell (j := i * 2) (by omega), h2.1, h1.cell (j := i * 2 + 1) (by omega), h2.2]
  exact ⟨rfl, rfl⟩
theorem UpsO.low {w w' : World} {g n B : Nat} {x0 : Nat → Bool} {x1 : Nat → Int} (h : UpsO w g n x0 x1) (hb : Below B w w') (hg : g < B) : UpsO w' g n x0 x1 := by
  obtain ⟨f, h1, h2⟩ := h
  exact ⟨f, h1.low hb hg, h2⟩
theorem UpsO.other {w : World} {g g' j n : Nat} {x0 : Nat → Bool} {x1 : Nat → Int} {x : Value} (h : UpsO w g n x0 x1) (hn : g ≠ g') : UpsO (w.setCell ⟨g', j, none⟩ x) g n x0 x1 := by
  obtain ⟨f, h1, h2⟩ := h
  exact ⟨f, h1.other hn, h2⟩
theorem UpsO.lt {w : World} {g n : Nat} {x0 : Nat → Bool} {x1 : Nat → Int} (h : UpsO w g n x0 x1) : g < w.heap.size := by
  obtain ⟨f, h1, h2⟩ := h
  exact h1.lt
theorem Tryz.info104 : (Tryz.prog.info? 104).map (fun i => (i.zero, i.size, i.bytes)) = some (some (.agg #[.bool false, .int .i64 0]), 2, 16) := by kernel_rfl
set_option maxHeartbeats 800000 in
set_option maxRecDepth 100000 in
theorem toUp_any (p0 : Bool) (p1 : Int) (w : World) :
    Calls Tryz.prog 107 #[.agg #[.bool (p0), .int .i64 (p1)]] w fun e w' => e = .returned (.agg #[.bool (p0), .int .i64 (p1)]) ∧ Below w.heap.size w w' := by
  go_enter Tryz.func107, Tryz.ntmps107
  go_wp2
  refine bodyPost_ret (v := .agg #[.bool (p0), .int .i64 (p1)]) ?_ rfl ⟨rfl, b_3 _ _ _ _⟩
  simp [results, Tryz.results107, go_sem]
set_option maxHeartbeats 800000 in
set_option maxRecDepth 100000 in
theorem eqUp_any (p0 : Bool) (p1 : Int) (w : World) :
    Calls Tryz.prog 128 #[.agg #[.bool (p0), .int .i64 (p1)], .agg #[.bool (p0), .int .i64 (p1)]] w fun e w' => e = .returned (.bool true) ∧ Below w.heap.size w w' := by
  go_enter Tryz.func128, Tryz.ntmps128
  go_wp2
  go_ret
  exact ⟨rfl, b_2 _ _ _⟩
theorem Ups_step {n i : Nat} {f : Nat → Value} {x0 : Nat → Bool} {x1 : Nat → Int} (h : ∀ k, k < i → f (k * 2) = (.bool (x0 k)) ∧ f (k * 2 + 1) = (.int .i64 (x1 k))) : ∀ k, k < i + 1 → (fun j => if j = i * 2 + 1 then (.int .i64 (x1 i)) else if j = i * 2 then (.bool (x0 i)) else f j) (k * 2) = (.bool (x0 k)) ∧ (fun j => if j = i * 2 + 1 then (.int .i64 (x1 i)) else if j = i * 2 then (.bool (x0 i)) else f j) (k * 2 + 1) = (.int .i64 (x1 k)) := by
  intro k hk
  by_cases e : k = i
  · subst e
    simp
  · have := h k (by omega)
    exact ⟨(if_neg (by omega)).trans ((if_neg (by omega)).trans (this.1)), (if_neg (by omega)).trans ((if_neg (by omega)).trans (this.2))⟩
set_option maxHeartbeats 800000 in
set_option maxRecDepth 100000 in
theorem toUpS_any (v : Value) (n : Nat) (x0 : Nat → Bool) (x1 : Nat → Int) (w : World) (hn : n ≤ 1048576) (h : UpsA w v n x0 x1) :
    Calls Tryz.prog 77 #[v] w fun e w' => e = .returned (.slice (some ⟨w.heap.size, 0, none⟩) n n) ∧ UpsO w' w.heap.size n x0 x1 ∧ Below w.heap.size w w' := by
  obtain ⟨i0, hi, hz0, hz1, hz2⟩ := info_parts Tryz.info104
  rcases h with ⟨rfl, a, cap, rfl⟩ | ⟨b, o, cap, rfl, hb, hcap, hc⟩
  · go_enter Tryz.func77, Tryz.ntmps77
    go_wp2_with (first
      | (at_make; refine wpList_make_full _ rfl _ _ 40 rfl w.heap.size 104 i0 (.agg #[.bool false, .int .i64 0]) 2 Tryz.underlying40 hi hz0 hz1 _ _ _ _ 0 rfl rfl rfl rfl (by rw [hz2]; omega) (by unfold maxLen; omega) (Nat.le_refl _) ?_; intro w1 hown hgrow)
      | go_in)
    have hb1 : Below w.heap.size w w1 := (Below.refl _ _).grown hgrow (Nat.le_refl _) (fun _ h => by cases h)
    have HO := hide (rowF_owns hown)
    clear hgrow hown
    go_wp2
    go_loopw [4] (fun iv wr => iv = .int .i64 0 ∧ wr = w1) (fun _ _ => 0)
    case atStart => exact ⟨rfl, rfl⟩
    case round =>
      obtain ⟨rfl, rfl⟩ := hrel
      go_wp2
      go_ret
      exact ⟨rfl, ⟨_, HO.out, fun i hi => by omega⟩, hb1⟩
  · have HC := hide hc
    clear hc
    go_enter Tryz.func77, Tryz.ntmps77
    go_wp2_with (first
      | (at_make; refine wpList_make_full _ rfl _ _ 40 rfl w.heap.size 104 i0 (.agg #[.bool false, .int .i64 0]) 2 Tryz.underlying40 hi hz0 hz1 _ _ _ _ n rfl rfl rfl rfl (by rw [hz2]; omega) (by unfold maxLen; omega) (Nat.le_refl _) ?_; intro w1 hown hgrow)
      | go_in)
    have hb1 : Below w.heap.size w w1 := (Below.refl _ _).grown hgrow (Nat.le_refl _) (fun _ h => by cases h)
    have HO := hide (rowF_owns hown)
    clear hgrow hown
    go_wp2
    go_loopw [4] (fun iv wr => ∃ i : Nat, i ≤ n ∧ iv = .int .i64 i ∧ (∃ f, RowF wr 104 w.heap.size (n * 2) f ∧ ∀ k, k < i → f (k * 2) = (.bool (x0 k)) ∧ f (k * 2 + 1) = (.int .i64 (x1 k))) ∧ Below w.heap.size w wr) (fun iv _ => match iv with | .int _ x => n - x.toNat | _ => 0)
    case atStart => exact ⟨0, by omega, rfl, ⟨_, HO.out, fun k hk => by omega⟩, hb1⟩
    case round =>
      clear HO hb1
      obtain ⟨i, hi9, rfl, ⟨f, hF, hf⟩, hbw⟩ := hrel
      by_cases hin : i < n
      · have c0 := (hbw.cell (p := ⟨b, o + i * 2, none⟩) (by assumption)).trans (HC.out i hin).1
        have c1 := (hbw.cell (p := ⟨b, o + i * 2 + 1, none⟩) (by assumption)).trans (HC.out i hin).2
        go_wp2_with fail
        refine (toUp_any (x0 i) (x1 i) wr).mono ?_
        rintro e w2 ⟨rfl, hb2⟩
        have hbw2 := hbw.trans (hb2.mono hbw.size)
        have hF2 := hF.low hb2 hF.lt
        clear c0 c1 hb2 hF hbw
        have d0 := hF2.cell (j := i * 2) (by omega)
        have z0 := hF2.frz (i * 2)
        have d1 := hF2.cell (j := i * 2 + 1) (by omega)
        have z1 := hF2.frz (i * 2 + 1)
        have HF := hide hf
        have HR := hide ((hF2.set (j := i * 2) (by omega) (.bool (x0 i))).set (j := i * 2 + 1) (by omega) (.int .i64 (x1 i)))
        have HB := hide ((hbw2.setCell (p := ⟨w.heap.size, i * 2, none⟩) (Nat.le_refl _) (.bool (x0 i))).setCell (p := ⟨w.heap.size, i * 2 + 1, none⟩) (Nat.le_refl _) (.int .i64 (x1 i)))
        clear hf hF2 hbw2
        go_wp2
        go_roundw
        case rel => exact ⟨i + 1, by omega, by simp, ⟨_, HR.out, Ups_step (n := n) HF.out⟩, HB.out⟩
        case measure => simp; omega
      · obtain rfl : i = n := by omega
        have HO := hide hF
        have HF := hide hf
        clear hF hf
        go_wp2
        go_ret
        exact ⟨rfl, ⟨f, HO.out, HF.out⟩, hbw⟩
set_option maxHeartbeats 800000 in
set_option maxRecDepth 100000 in
theorem eqUpS_any (v v' : Value) (n : Nat) (x0 : Nat → Bool) (x1 : Nat → Int) (w : World) (hn : n ≤ 1048576) (h : UpsA w v n x0 x1) (h' : UpsA w v' n x0 x1) :
    Calls Tryz.prog 97 #[v, v'] w fun e w' => e = .returned (.bool true) ∧ Below w.heap.size w w' := by
  by_cases h0 : n = 0
  · subst h0
    obtain ⟨a, cap, rfl⟩ := h.val
    obtain ⟨a', cap', rfl⟩ := h'.val
    clear h h'
    go_enter Tryz.func97, Tryz.ntmps97
    go_wp2
    go_loopw [5] (fun iv wr => iv = .int .i64 0 ∧ wr = w) (fun _ _ => 0)
    case atStart => exact ⟨rfl, rfl⟩
    case round =>
      obtain ⟨rfl, rfl⟩ := hrel
      go_wp2
      go_ret
      exact ⟨rfl, Below.refl _ _⟩
  · rcases h with ⟨h9, _⟩ | ⟨b, o, cap, rfl, hb, hcap, hc⟩
    · exact absurd h9 h0
    rcases h' with ⟨h9, _⟩ | ⟨b', o', cap', rfl, hb', hcap', hc'⟩
    · exact absurd h9 h0
    have HC := hide hc
    have HC' := hide hc'
    clear hc hc'
    go_enter Tryz.func97, Tryz.ntmps97
    go_wp2
    go_loopw [5] (fun iv wr => ∃ i : Nat, i ≤ n ∧ iv = .int .i64 i ∧ Below w.heap.size w wr) (fun iv _ => match iv with | .int _ x => n - x.toNat | _ => 0)
    case atStart => exact ⟨0, by omega, rfl, Below.refl _ _⟩
    case round =>
      obtain ⟨i, hi9, rfl, hbw⟩ := hrel
      by_cases hin : i < n
      · have c0 := (hbw.cell (p := ⟨b, o + i * 2, none⟩) (by assumption)).trans (HC.out i hin).1
        have c1 := (hbw.cell (p := ⟨b, o + i * 2 + 1, none⟩) (by assumption)).trans (HC.out i hin).2
        have e0 := (hbw.cell (p := ⟨b', o' + i * 2, none⟩) (by assumption)).trans (HC'.out i hin).1
        have e1 := (hbw.cell (p := ⟨b', o' + i * 2 + 1, none⟩) (by assumption)).trans (HC'.out i hin).2
        have hlb : b < wr.heap.size := Nat.lt_of_lt_of_le hb hbw.size
        have hlb' : b' < wr.heap.size := Nat.lt_of_lt_of_le hb' hbw.size
        have HB := hide hbw
        clear hbw
        go_wp2_with fail
        go_region_held3 (fun w9 => (w9.cell? ⟨b, o + i * 2, none⟩ = some (.bool (x0 i)) ∧ w9.cell? ⟨b, o + i * 2 + 1, none⟩ = some (.int .i64 (x1 i))) ∧ w9.cell? ⟨b', o' + i * 2, none⟩ = some (.bool (x0 i)) ∧ w9.cell? ⟨b', o' + i * 2 + 1, none⟩ = some (.int .i64 (x1 i))) (go_keep)
          (first | (go_at_call 128; refine (eqUp_any (x0 i) (x1 i) _).mono ?_; rintro e w2 ⟨rfl, hb2⟩; have q0 := (hb2.cell (p := ⟨b, o + i * 2, none⟩) hlb).trans c0; have r0 := (hb2.cell (p := ⟨b', o' + i * 2, none⟩) hlb').trans e0; have q1 := (hb2.cell (p := ⟨b, o + i * 2 + 1, none⟩) hlb).trans c1; have r1 := (hb2.cell (p := ⟨b', o' + i * 2 + 1, none⟩) hlb').trans e1; have HB2 := hide hb2; clear hb2))
        have HB3 := hide (HB.out.drew.trans (HB2.out.mono HB.out.size))
        rename_i hh
        clear hh c0 e0 q0 r0 c1 e1 q1 r1
        go_wp2
        go_roundw
        case rel => exact ⟨i + 1, by omega, by simp, HB3.out⟩
        case measure => simp; omega
      · obtain rfl : i = n := by omega
        go_wp2
        go_ret
        exact ⟨rfl, hbw⟩
end Go.Proofs.YtgnbhhgpaldheaaGreat
