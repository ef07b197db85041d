import Derived.Test.YtgnbhhgpaldheaaGreatKOB
namespace Go.Proofs.YtgnbhhgpaldheaaGreat
open Go Go.RowKit
set_option linter.unusedVariables false
def InsA (w : World) (v : Value) (n : Nat) (x0 : Nat → Int) (x1 : Nat → Int) (x2 : Nat → Int) (x3 : Nat → Int) : Prop :=
  (n = 0 ∧ ∃ a cap, v = .slice a 0 cap) ∨ ∃ b o cap, v = .slice (some ⟨b, o, none⟩) n cap ∧ b < w.heap.size ∧ n ≤ cap ∧ ∀ i, i < n → w.cell? ⟨b, o + i * 4, none⟩ = some (.int .i64 (x0 i)) ∧ w.cell? ⟨b, o + i * 4 + 1, none⟩ = some (.int .i64 (x1 i)) ∧ w.cell? ⟨b, o + i * 4 + 2, none⟩ = some (.int .i64 (x2 i)) ∧ w.cell? ⟨b, o + i * 4 + 3, none⟩ = some (.int .i64 (x3 i))
theorem InsA.low {w w' : World} {v : Value} {n B : Nat} {x0 : Nat → Int} {x1 : Nat → Int} {x2 : Nat → Int} {x3 : Nat → Int} (h : InsA w v n x0 x1 x2 x3) (hb : Below B w w') (hB : w.heap.size ≤ B) : InsA w' v n x0 x1 x2 x3 := by
  rcases h with h | ⟨b, o, cap, rfl, hbB, hcap, hc⟩
  · exact .inl h
  · refine .inr ⟨b, o, cap, rfl, Nat.lt_of_lt_of_le hbB hb.size, hcap, fun i hi => ?_⟩
    have hc := hc i hi
    exact ⟨(hb.cell (p := ⟨b, o + i * 4, none⟩) (Nat.lt_of_lt_of_le hbB hB)).trans hc.1, (hb.cell (p := ⟨b, o + i * 4 + 1, none⟩) (Nat.lt_of_lt_of_le hbB hB)).trans hc.2.1, (hb.cell (p := ⟨b, o + i * 4 + 2, none⟩) (Nat.lt_of_lt_of_le hbB hB)).trans hc.2.2.1, (hb.cell (p := ⟨b, o + i * 4 + 3, none⟩) (Nat.lt_of_lt_of_le hbB hB)).trans hc.2.2.2⟩
theorem InsA.val {w : World} {v : Value} {n : Nat} {x0 : Nat → Int} {x1 : Nat → Int} {x2 : Nat → Int} {x3 : Nat → Int} (h : InsA w v n x0 x1 x2 x3) : ∃ a cap, v = .slice a n cap := by
  rcases h with ⟨rfl, a, cap, rfl⟩ | ⟨b, o, cap, rfl, _⟩
  · exact ⟨a, cap, rfl⟩
  · exact ⟨_, cap, rfl⟩
def InsO (w : World) (g n : Nat) (x0 : Nat → Int) (x1 : Nat → Int) (x2 : Nat → Int) (x3 : Nat → Int) : Prop := ∃ f, RowF w 51 g (n * 4) f ∧ ∀ i, i < n → f (i * 4) = (.int .i64 (x0 i)) ∧ f (i * 4 + 1) = (.int .i64 (x1 i)) ∧ f (i * 4 + 2) = (.int .i64 (x2 i)) ∧ f (i * 4 + 3) = (.int .i64 (x3 i))
theorem InsO.by {w : World} {g n : Nat} {x0 : Nat → Int} {x1 : Nat → Int} {x2 : Nat → Int} {x3 : Nat → Int} (h : InsO w g n x0 x1 x2 x3) : InsA w (.slice (some ⟨g, 0, none⟩) n n) n x0 x1 x2 x3 := by
  obtain ⟨f, h1, h2⟩ := h
  refine .inr ⟨g, 0, n, rfl, h1.lt, Nat.le_refl _, fun i hi => ?_⟩
  have h2 := h2 i hi
  rw [Nat.zero_add, h1.cell (j := i * 4) (by omega), h2.1, h1.cell (j := i * 4 + 1) (by omega), h2.2.1, h1.cell (j := i * 4 + 2) (by omega), h2.2.2.1, h1.cell (j := i * 4 + 3) (by omega), h2.2.2.2]
  exact ⟨rfl, rfl, rfl, rfl⟩
theorem InsO.low {w w' : World} {g n B : Nat} {x0 : Nat → Int} {x1 : Nat → Int} {x2 : Nat → Int} {x3 : Nat → Int} (h : InsO w g n x0 x1 x2 x3) (hb : Below B w w') (hg : g < B) : InsO w' g n x0 x1 x2 x3 := by
  obtain ⟨f, h1, h2⟩ := h
  exact ⟨f, h1.low hb hg, h2⟩
theorem InsO.other {w : World} {g g' j n : Nat} {x0 : Nat → Int} {x1 : Nat → Int} {x2 : Nat → Int} {x3 : Nat → Int} {x : Value} (h : InsO w g n x0 x1 x2 x3) (hn : g ≠ g') : InsO (w.setCell ⟨g', j, none⟩ x) g n x0 x1 x2 x3 := by
  obtain ⟨f, h1, h2⟩ := h
  exact ⟨f, h1.other hn, h2⟩
theorem InsO.lt {w : World} {g n : Nat} {x0 : Nat → Int} {x1 : Nat → Int} {x2 : Nat → Int} {x3 : Nat → Int} (h : InsO w g n x0 x1 x2 x3) : g < w.heap.size := by
  obtain ⟨f, h1, h2⟩ := h
  exact h1.lt
theorem Tryz.info51 : (Tryz.prog.info? 51).map (fun i => (i.zero, i.size, i.bytes)) = some (some (.agg #[.int .i64 0, .int .i64 0, .int .i64 0, .int .i64 0]), 4, 32) := by kernel_rfl
set_option maxHeartbeats 800000 in
set_option maxRecDepth 100000 in
theorem toInstr_any (p0 : Int) (p1 : Int) (p2 : Int) (p3 : Int) (w : World) :
    Calls Tryz.prog 109 #[.agg #[.int .i64 (p0), .int .i64 (p1), .int .i64 (p2), .int .i64 (p3)]] w fun e w' => e = .returned (.agg #[.int .i64 (p0), .int .i64 (p1), .int .i64 (p2), .int .i64 (p3)]) ∧ Below w.heap.size w w' := by
  go_enter Tryz.func109, Tryz.ntmps109
  go_wp2
  refine bodyPost_ret (v := .agg #[.int .i64 (p0), .int .i64 (p1), .int .i64 (p2), .int .i64 (p3)]) ?_ rfl ⟨rfl, b_3 _ _ _ _⟩
  simp [results, Tryz.results109, go_sem]
set_option maxHeartbeats 800000 in
set_option maxRecDepth 100000 in
theorem eqInstr_any (p0 : Int) (p1 : Int) (p2 : Int) (p3 : Int) (w : World) :
    Calls Tryz.prog 130 #[.agg #[.int .i64 (p0), .int .i64 (p1), .int .i64 (p2), .int .i64 (p3)], .agg #[.int .i64 (p0), .int .i64 (p1), .int .i64 (p2), .int .i64 (p3)]] w fun e w' => e = .returned (.bool true) ∧ Below w.heap.size w w' := by
  go_enter Tryz.func130, Tryz.ntmps130
  go_wp2
  go_ret
  exact ⟨rfl, b_2 _ _ _⟩
theorem Ins_step {n i : Nat} {f : Nat → Value} {x0 : Nat → Int} {x1 : Nat → Int} {x2 : Nat → Int} {x3 : Nat → Int} (h : ∀ k, k < i → f (k * 4) = (.int .i64 (x0 k)) ∧ f (k * 4 + 1) = (.int .i64 (x1 k)) ∧ f (k * 4 + 2) = (.int .i64 (x2 k)) ∧ f (k * 4 + 3) = (.int .i64 (x3 k))) : ∀ k, k < i + 1 → (fun j => if j = i * 4 + 3 then (.int .i64 (x3 i)) else if j = i * 4 + 2 then (.int .i64 (x2 i)) else if j = i * 4 + 1 then (.int .i64 (x1 i)) else if j = i * 4 then (.int .i64 (x0 i)) else f j) (k * 4) = (.int .i64 (x0 k)) ∧ (fun j => if j = i * 4 + 3 then (.int .i64 (x3 i)) else if j = i * 4 + 2 then (.int .i64 (x2 i)) else if j = i * 4 + 1 then (.int .i64 (x1 i)) else if j = i * 4 then (.int .i64 (x0 i)) else f j) (k * 4 + 1) = (.int .i64 (x1 k)) ∧ (fun j => if j = i * 4 + 3 then (.int .i64 (x3 i)) else if j = i * 4 + 2 then (.int .i64 (x2 i)) else if j = i * 4 + 1 then (.int .i64 (x1 i)) else if j = i * 4 then (.int .i64 (x0 i)) else f j) (k * 4 + 2) = (.int .i64 (x2 k)) ∧ (fun j => if j = i * 4 + 3 then (.int .i64 (x3 i)) else if j = i * 4 + 2 then (.int .i64 (x2 i)) else if j = i * 4 + 1 then (.int .i64 (x1 i)) else if j = i * 4 then (.int .i64 (x0 i)) else f j) (k * 4 + 3) = (.int .i64 (x3 k)) := by
  intro k hk
  by_cases e : k = i
  · subst e
    simp
  · have := h k (by omega)
    exact ⟨(if_neg (by omega)).trans ((if_neg (by omega)).trans ((if_neg (by omega)).trans ((if_neg (by omega)).trans (this.1)))), (if_neg (by omega)).trans ((if_neg (by omega)).trans ((if_neg (by omega)).trans ((if_neg (by omega)).trans (this.2.1)))), (if_neg (by omega)).trans ((if_neg (by omega)).trans ((if_neg (by omega)).trans ((if_neg (by omega)).trans (this.2.2.1)))), (if_neg (by omega)).trans ((if_neg (by omega)).trans ((if_neg (by omega)).trans ((if_neg (by omega)).trans (this.2.2.2))))⟩
set_option maxHeartbeats 800000 in
set_option maxRecDepth 100000 in
theorem toInstrS_any (v : Value) (n : Nat) (x0 : Nat → Int) (x1 : Nat → Int) (x2 : Nat → Int) (x3 : Nat → Int) (w : World) (hn : n ≤ 1048576) (h : InsA w v n x0 x1 x2 x3) :
    Calls Tryz.prog 79 #[v] w fun e w' => e = .returned (.slice (some ⟨w.heap.size, 0, none⟩) n n) ∧ InsO w' w.heap.size n x0 x1 x2 x3 ∧ Below w.heap.size w w' := by
  obtain ⟨i0, hi, hz0, hz1, hz2⟩ := info_parts Tryz.info51
  rcases h with ⟨rfl, a, cap, rfl⟩ | ⟨b, o, cap, rfl, hb, hcap, hc⟩
  · go_enter Tryz.func79, Tryz.ntmps79
    go_wp2_with (first
      | (at_make; refine wpList_make_full _ rfl _ _ 42 rfl w.heap.size 51 i0 (.agg #[.int .i64 0, .int .i64 0, .int .i64 0, .int .i64 0]) 4 Tryz.underlying42 hi hz0 hz1 _ _ _ _ 0 rfl rfl rfl rfl (by rw [hz2]; omega) (by unfold maxLen; omega) (Nat.le_refl _) ?_; intro w1 hown hgrow)
      | go_in)
    have hb1 : Below w.heap.size w w1 := (Below.refl _ _).grown hgrow (Nat.le_refl _) (fun _ h => by cases h)
    have HO := hide (rowF_owns hown)
    clear hgrow hown
    go_wp2
    go_loopw [4] (fun iv wr => iv = .int .i64 0 ∧ wr = w1) (fun _ _ => 0)
    case atStart => exact ⟨rfl, rfl⟩
    case round =>
      obtain ⟨rfl, rfl⟩ := hrel
      go_wp2
      go_ret
      exact ⟨rfl, ⟨_, HO.out, fun i hi => by omega⟩, hb1⟩
  · have HC := hide hc
    clear hc
    go_enter Tryz.func79, Tryz.ntmps79
    go_wp2_with (first
      | (at_make; refine wpList_make_full _ rfl _ _ 42 rfl w.heap.size 51 i0 (.agg #[.int .i64 0, .int .i64 0, .int .i64 0, .int .i64 0]) 4 Tryz.underlying42 hi hz0 hz1 _ _ _ _ n rfl rfl rfl rfl (by rw [hz2]; omega) (by unfold maxLen; omega) (Nat.le_refl _) ?_; intro w1 hown hgrow)
      | go_in)
    have hb1 : Below w.heap.size w w1 := (Below.refl _ _).grown hgrow (Nat.le_refl _) (fun _ h => by cases h)
    have HO := hide (rowF_owns hown)
    clear hgrow hown
    go_wp2
    go_loopw [4] (fun iv wr => ∃ i : Nat, i ≤ n ∧ iv = .int .i64 i ∧ (∃ f, RowF wr 51 w.heap.size (n * 4) f ∧ ∀ k, k < i → f (k * 4) = (.int .i64 (x0 k)) ∧ f (k * 4 + 1) = (.int .i64 (x1 k)) ∧ f (k * 4 + 2) = (.int .i64 (x2 k)) ∧ f (k * 4 + 3) = (.int .i64 (x3 k))) ∧ Below w.heap.size w wr) (fun iv _ => match iv with | .int _ x => n - x.toNat | _ => 0)
    case atStart => exact ⟨0, by omega, rfl, ⟨_, HO.out, fun k hk => by omega⟩, hb1⟩
    case round =>
      clear HO hb1
      obtain ⟨i, hi9, rfl, ⟨f, hF, hf⟩, hbw⟩ := hrel
      by_cases hin : i < n
      · have c0 := (hbw.cell (p := ⟨b, o + i * 4, none⟩) (by assumption)).trans (HC.out i hin).1
        have c1 := (hbw.cell (p := ⟨b, o + i * 4 + 1, none⟩) (by assumption)).trans (HC.out i hin).2.1
        have c2 := (hbw.cell (p := ⟨b, o + i * 4 + 2, none⟩) (by assumption)).trans (HC.out i hin).2.2.1
        have c3 := (hbw.cell (p := ⟨b, o + i * 4 + 3, none⟩) (by assumption)).trans (HC.out i hin).2.2.2
        go_wp2_with fail
        refine (toInstr_any (x0 i) (x1 i) (x2 i) (x3 i) wr).mono ?_
        rintro e w2 ⟨rfl, hb2⟩
        have hbw2 := hbw.trans (hb2.mono hbw.size)
        have hF2 := hF.low hb2 hF.lt
        clear c0 c1 c2 c3 hb2 hF hbw
        have d0 := hF2.cell (j := i * 4) (by omega)
        have z0 := hF2.frz (i * 4)
        have d1 := hF2.cell (j := i * 4 + 1) (by omega)
        have z1 := hF2.frz (i * 4 + 1)
        have d2 := hF2.cell (j := i * 4 + 2) (by omega)
        have z2 := hF2.frz (i * 4 + 2)
        have d3 := hF2.cell (j := i * 4 + 3) (by omega)
        have z3 := hF2.frz (i * 4 + 3)
        have HF := hide hf
        have HR := hide ((((hF2.set (j := i * 4) (by omega) (.int .i64 (x0 i))).set (j := i * 4 + 1) (by omega) (.int .i64 (x1 i))).set (j := i * 4 + 2) (by omega) (.int .i64 (x2 i))).set (j := i * 4 + 3) (by omega) (.int .i64 (x3 i)))
        have HB := hide ((((hbw2.setCell (p := ⟨w.heap.size, i * 4, none⟩) (Nat.le_refl _) (.int .i64 (x0 i))).setCell (p := ⟨w.heap.size, i * 4 + 1, none⟩) (Nat.le_refl _) (.int .i64 (x1 i))).setCell (p := ⟨w.heap.size, i * 4 + 2, none⟩) (Nat.le_refl _) (.int .i64 (x2 i))).setCell (p := ⟨w.heap.size, i * 4 + 3, none⟩) (Nat.le_refl _) (.int .i64 (x3 i)))
        clear hf hF2 hbw2
        go_wp2
        go_roundw
        case rel => exact ⟨i + 1, by omega, by simp, ⟨_, HR.out, Ins_step (n := n) HF.out⟩, HB.out⟩
        case measure => simp; omega
      · obtain rfl : i = n := by omega
        have HO := hide hF
        have HF := hide hf
        clear hF hf
        go_wp2
        go_ret
        exact ⟨rfl, ⟨f, HO.out, HF.out⟩, hbw⟩
set_option maxHeartbeats 800000 in
set_option maxRecDepth 100000 in
theorem eqInstrS_any (v v' : Value) (n : Nat) (x0 : Nat → Int) (x1 : Nat → Int) (x2 : Nat → Int) (x3 : Nat → Int) (w : World) (hn : n ≤ 1048576) (h : InsA w v n x0 x1 x2 x3) (h' : InsA w v' n x0 x1 x2 x3) :
    Calls Tryz.prog 99 #[v, v'] w fun e w' => e = .returned (.bool true) ∧ Below w.heap.size w w' := by
  by_cases h0 : n = 0
  · subst h0
    obtain ⟨a, cap, rfl⟩ := h.val
    obtain ⟨a', cap', rfl⟩ := h'.val
    clear h h'
    go_enter Tryz.func99, Tryz.ntmps99
    go_wp2
    go_loopw [5] (fun iv wr => iv = .int .i64 0 ∧ wr = w) (fun _ _ => 0)
    case atStart => exact ⟨rfl, rfl⟩
    case round =>
      obtain ⟨rfl, rfl⟩ := hrel
      go_wp2
      go_ret
      exact ⟨rfl, Below.refl _ _⟩
  · rcases h with ⟨h9, _⟩ | ⟨b, o, cap, rfl, hb, hcap, hc⟩
    · exact absurd h9 h0
    rcases h' with ⟨h9, _⟩ | ⟨b', o', cap', rfl, hb', hcap', hc'⟩
    · exact absurd h9 h0
    have HC := hide hc
    have HC' := hide hc'
    clear hc hc'
    go_enter Tryz.func99, Tryz.ntmps99
    go_wp2
    go_loopw [5] (fun iv wr => ∃ i : Nat, i ≤ n ∧ iv = .int .i64 i ∧ Below w.heap.size w wr) (fun iv _ => match iv with | .int _ x => n - x.toNat | _ => 0)
    case atStart => exact ⟨0, by omega, rfl, Below.refl _ _⟩
    case round =>
      obtain ⟨i, hi9, rfl, hbw⟩ := hrel
      by_cases hin : i < n
      · have c0 := (hbw.cell (p := ⟨b, o + i * 4, none⟩) (by assumption)).trans (HC.out i hin).1
        have c1 := (hbw.cell (p := ⟨b, o + i * 4 + 1, none⟩) (by assumption)).trans (HC.out i hin).2.1
        have c2 := (hbw.cell (p := ⟨b, o + i * 4 + 2, none⟩) (by assumption)).trans (HC.out i hin).2.2.1
        have c3 := (hbw.cell (p := ⟨b, o + i * 4 + 3, none⟩) (by assumption)).trans (HC.out i hin).2.2.2
        have e0 := (hbw.cell (p := ⟨b', o' + i * 4, none⟩) (by assumption)).trans (HC'.out i hin).1
        have e1 := (hbw.cell (p := ⟨b', o' + i * 4 + 1, none⟩) (by assumption)).trans (HC'.out i hin).2.1
        have e2 := (hbw.cell (p := ⟨b', o' + i * 4 + 2, none⟩) (by assumption)).trans (HC'.out i hin).2.2.1
        have e3 := (hbw.cell (p := ⟨b', o' + i * 4 + 3, none⟩) (by assumption)).trans (HC'.out i hin).2.2.2
        have hlb : b < wr.heap.size := Nat.lt_of_lt_of_le hb hbw.size
        have hlb' : b' < wr.heap.size := Nat.lt_of_lt_of_le hb' hbw.size
        have HB := hide hbw
        clear hbw
        go_wp2_with fail
        go_region_held3 (fun w9 => (w9.cell? ⟨b, o + i * 4, none⟩ = some (.int .i64 (x0 i)) ∧ w9.cell? ⟨b, o + i * 4 + 1, none⟩ = some (.int .i64 (x1 i)) ∧ w9.cell? ⟨b, o + i * 4 + 2, none⟩ = some (.int .i64 (x2 i)) ∧ w9.cell? ⟨b, o + i * 4 + 3, none⟩ = some (.int .i64 (x3 i))) ∧ w9.cell? ⟨b', o' + i * 4, none⟩ = some (.int .i64 (x0 i)) ∧ w9.cell? ⟨b', o' + i * 4 + 1, none⟩ = some (.int .i64 (x1 i)) ∧ w9.cell? ⟨b', o' + i * 4 + 2, none⟩ = some (.int .i64 (x2 i)) ∧ w9.cell? ⟨b', o' + i * 4 + 3, none⟩ = some (.int .i64 (x3 i))) (go_keep)
          (first | (go_at_call 130; refine (eqInstr_any (x0 i) (x1 i) (x2 i) (x3 i) _).mono ?_; rintro e w2 ⟨rfl, hb2⟩; have q0 := (hb2.cell (p := ⟨b, o + i * 4, none⟩) hlb).trans c0; have r0 := (hb2.cell (p := ⟨b', o' + i * 4, none⟩) hlb').trans e0; have q1 := (hb2.cell (p := ⟨b, o + i * 4 + 1, none⟩) hlb).trans c1; have r1 := (hb2.cell (p := ⟨b', o' + i * 4 + 1, none⟩) hlb').trans e1; have q2 := (hb2.cell (p := ⟨b, o + i * 4 + 2, none⟩) hlb).trans c2; have r2 := (hb2.cell (p := ⟨b', o' + i * 4 + 2, none⟩) hlb').trans e2; have q3 := (hb2.cell (p := ⟨b, o + i * 4 + 3, none⟩) hlb).trans c3; have r3 := (hb2.cell (p := ⟨b', o' + i * 4 + 3, none⟩) hlb').trans e3; have HB2 := hide hb2; clear hb2))
        have HB3 := hide (HB.out.drew.trans (HB2.out.mono HB.out.size))
        rename_i hh
        clear hh c0 e0 q0 r0 c1 e1 q1 r1 c2 e2 q2 r2 c3 e3 q3 r3
        go_wp2
        go_roundw
        case rel => exact ⟨i + 1, by omega, by simp, HB3.out⟩
        case measure => simp; omega
      · obtain rfl : i = n := by omega
        go_wp2
        go_ret
        exact ⟨rfl, hbw⟩
end Go.Proofs.YtgnbhhgpaldheaaGreat
