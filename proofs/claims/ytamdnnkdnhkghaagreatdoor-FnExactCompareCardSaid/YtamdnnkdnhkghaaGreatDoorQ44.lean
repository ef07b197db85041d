import Derived.Test.YtamdnnkdnhkghaaGreatDoorQ43
namespace Go.Proofs.YtamdnnkdnhkghaaGreatDoor
open Go Go.RowKit
set_option linter.unusedVariables false

theorem isNanU_any (x : Int) (w : World) (h0 : 0 ≤ x) : Calls Tryz.prog 46 #[.int .u64 x] w fun e w' => e = .returned (.bool (decide (9218868437227405312 < x % 9223372036854775808))) ∧ w' = w := by
  go_enter Tryz.func46, Tryz.ntmps46
  go_wp2
  all_goals go_ret
  all_goals exact ⟨rfl, rfl⟩

theorem isInf_any (x : Int) (w : World) (h0 : 0 ≤ x) : Calls Tryz.prog 48 #[.int .u64 x] w fun e w' => e = .returned (.bool (x % 9223372036854775808 == 9218868437227405312)) ∧ w' = w := by
  go_enter Tryz.func48, Tryz.ntmps48
  go_wp2
  all_goals go_ret
  all_goals exact ⟨rfl, rfl⟩

theorem minor_any (x : Int) (w : World) : Calls Tryz.prog 47 #[.int .u64 x] w fun e w' => e = .returned (.bool (decide (9223372036854775808 ≤ x))) ∧ w' = w := by
  go_enter Tryz.func47, Tryz.ntmps47
  go_wp2
  all_goals go_ret
  all_goals exact ⟨rfl, rfl⟩

theorem ret_tup {a b c d : Int} (h1 : a = c) (h2 : b = d) : Ending.returned (.tuple #[.int .i64 a, .int .i64 b]) = .returned (.tuple #[.int .i64 c, .int .i64 d]) := by rw [h1, h2]

set_option maxHeartbeats 400000 in
theorem parts_any (r : Nat) (w : World) (hr : r < infW) : Calls Tryz.prog 71 #[.int .u64 r] w fun e w' => e = .returned (.tuple #[.int .i64 (wM r), .int .i64 (wE r)]) ∧ w' = w := by
  have h0 : (r : Int) < 9218868437227405312 := by unfold infW at hr; omega
  by_cases hs : r < 4503599627370496
  · have hM : (wM r : Int) = (r : Int) % 4503599627370496 := by unfold wM; rw [if_pos hs]; omega
    have hE : wE r = -1074 := by unfold wE wK; omega
    have hq : (r : Int) / 4503599627370496 % 2048 = 0 := by omega
    rw [hM, hE]
    go_enter Tryz.func71, Tryz.ntmps71
    go_wp2
    all_goals go_ret2
    all_goals exact ⟨rfl, rfl⟩
  · have hM : (wM r : Int) = (r : Int) % 4503599627370496 + 4503599627370496 := by unfold wM; rw [if_neg hs]; omega
    have hE : wE r = (r : Int) / 4503599627370496 % 2048 - 1075 := by unfold wE wK; omega
    have hb : ((r : Int) / 4503599627370496 % 2048 == 0) = false := by rw [beq_eq_false_iff_ne]; omega
    have h1 : 0 ≤ (r : Int) % 4503599627370496 ∧ (r : Int) % 4503599627370496 < 4503599627370496 := by omega
    have h2 : 0 ≤ (r : Int) / 4503599627370496 % 2048 ∧ (r : Int) / 4503599627370496 % 2048 < 2048 := by omega
    rw [hM, hE]
    go_enter Tryz.func71, Tryz.ntmps71
    generalize hxx : (r : Int) % 4503599627370496 = x at *
    generalize hyy : (r : Int) / 4503599627370496 % 2048 = y at *
    go_wp2
    all_goals go_ret2
    all_goals exact ⟨ret_tup (by first | rfl | (unfold wrap64; omega)) (by first | rfl | (unfold wrap64; omega)), rfl⟩

/-- What 'L01AsInt' hands back. -/
def asIntV : Option Int → Value
  | some i => .tuple #[.int .i64 i, .bool true]
  | none => .tuple #[.int .i64 0, .bool false]

abbrev fltV (W : Nat) : Value := .agg #[.bool true, .int .i64 0, .int .u64 W]

theorem asInt_int (i : Int) (w : World) :
    Calls Tryz.prog 37 #[.agg #[.bool false, .int .i64 i, .int .u64 0]] w fun e w' => e = .returned (asIntV (some i)) ∧ Below w.heap.size w w' := by
  go_enter Tryz.func37, Tryz.ntmps37
  go_wp2
  all_goals go_ret2
  all_goals exact ⟨rfl, (Below.refl _ _).alloc (Nat.le_refl _) _⟩

/-- The calls that every way makes. -/
structure AsCalls (W : Nat) (nan inf : Bool) : Prop where
  c1 : ∀ w, Calls Tryz.prog 46 #[.int .u64 W] w fun e w' => e = .returned (.bool nan) ∧ w' = w
  c2 : ∀ w, Calls Tryz.prog 48 #[.int .u64 W] w fun e w' => e = .returned (.bool inf) ∧ w' = w

theorem wordS_mod {s : Bool} {r : Nat} (hr : r < 9223372036854775808) : ((wordS s r : Nat) : Int) % 9223372036854775808 = r := by
  unfold wordS; cases s <;> simp <;> omega

theorem wordS_minor {s : Bool} {r : Nat} (hr : r < 9223372036854775808) : decide (9223372036854775808 ≤ ((wordS s r : Nat) : Int)) = s := by
  unfold wordS; cases s <;> simp <;> omega

theorem asCalls {s : Bool} {r : Nat} (hr : r < 9223372036854775808) : AsCalls (wordS s r) (decide (infW < r)) (decide (r = infW)) := {
  c1 := fun w => by
    have := isNanU_any (wordS s r : Nat) w (by omega)
    rw [wordS_mod hr] at this
    have e : decide ((9218868437227405312 : Int) < r) = decide (infW < r) := by
      by_cases h : infW < r
      · rw [decide_eq_true h, decide_eq_true]; unfold infW at h; omega
      · rw [decide_eq_false h, decide_eq_false]; unfold infW at h; omega
    rw [e] at this
    exact this
  c2 := fun w => by
    have := isInf_any (wordS s r : Nat) w (by omega)
    rw [wordS_mod hr] at this
    have e : ((r : Int) == 9218868437227405312) = decide (r = infW) := by
      by_cases h : r = infW
      · rw [decide_eq_true h, beq_iff_eq]; unfold infW at h; omega
      · rw [decide_eq_false h, beq_eq_false_iff_ne]; unfold infW at h; omega
    rw [e] at this
    exact this }

set_option maxHeartbeats 400000 in
theorem asInt_nan {W : Nat} {nan inf : Bool} (h : AsCalls W nan inf) (hn : (nan || inf) = true) (w : World) :
    Calls Tryz.prog 37 #[fltV W] w fun e w' => e = .returned (asIntV none) ∧ Below w.heap.size w w' := by
  have H1 := hide h.c1
  have H2 := hide h.c2
  clear h
  cases nan with
  | true =>
    go_enter Tryz.func37, Tryz.ntmps37
    go_wp2_with (go_at_call 46; refine (H1.out _).mono ?_; rintro e w' ⟨rfl, rfl⟩)
    all_goals go_ret2
    all_goals exact ⟨rfl, (Below.refl _ _).alloc (Nat.le_refl _) _⟩
  | false =>
    rw [Bool.false_or] at hn
    subst hn
    go_enter Tryz.func37, Tryz.ntmps37
    go_wp2_with (first | (go_at_call 46; refine (H1.out _).mono ?_; rintro e w' ⟨rfl, rfl⟩) | (go_at_call 48; refine (H2.out _).mono ?_; rintro e w' ⟨rfl, rfl⟩))
    all_goals go_ret2
    all_goals exact ⟨rfl, (Below.refl _ _).alloc (Nat.le_refl _) _⟩

/-- What the walks below call. -/
structure AsFin (W r : Nat) (M E : Int) (s : Bool) : Prop where
  a : AsCalls W false false
  p : ∀ w, Calls Tryz.prog 71 #[.int .u64 r] w fun e w' => e = .returned (.tuple #[.int .i64 M, .int .i64 E]) ∧ w' = w
  n : ∀ w, Calls Tryz.prog 47 #[.int .u64 W] w fun e w' => e = .returned (.bool s) ∧ w' = w
  m : (W : Int) % 9223372036854775808 = r

theorem asFin {s : Bool} {r : Nat} (hr : r < infW) : AsFin (wordS s r) r (wM r) (wE r) s := {
  a := by
    have hr' : r < 9223372036854775808 := by unfold infW at hr; omega
    have := asCalls (s := s) hr'
    rw [decide_eq_false (by omega), decide_eq_false (by omega)] at this
    exact this
  p := fun w => parts_any r w hr
  n := fun w => by
    have hr' : r < 9223372036854775808 := by unfold infW at hr; omega
    have := minor_any (wordS s r : Nat) w
    rw [wordS_minor hr'] at this
    exact this
  m := wordS_mod (by unfold infW at hr; omega) }

set_option maxHeartbeats 800000 in
theorem asInt_least {r : Nat} {M E : Int} {s : Bool} (h : AsFin 14114281232179134464 r M E s) (hE : 0 ≤ E) (w : World) :
    Calls Tryz.prog 37 #[fltV 14114281232179134464] w fun e w' => e = .returned (asIntV (some (-9223372036854775808))) ∧ Below w.heap.size w w' := by
  have H1 := hide h.a.c1
  have H2 := hide h.a.c2
  have H3 := hide h.p
  have H4 := hide h.n
  have hm := h.m
  clear h
  have hr : (r : Int) = 4890909195324358656 := by omega
  clear hm
  have hr' : r = 4890909195324358656 := by omega
  subst hr'
  clear hr
  go_enter Tryz.func37, Tryz.ntmps37
  go_wp2_with (first | (go_at_call 46; refine (H1.out _).mono ?_; rintro e w' ⟨rfl, rfl⟩) | (go_at_call 48; refine (H2.out _).mono ?_; rintro e w' ⟨rfl, rfl⟩) | (go_at_call 71; refine (H3.out _).mono ?_; rintro e w' ⟨rfl, rfl⟩))
  all_goals go_ret2
  all_goals exact ⟨rfl, (Below.refl _ _).alloc (Nat.le_refl _) _⟩

set_option maxHeartbeats 800000 in
theorem asInt_great {W r : Nat} {M E : Int} {s : Bool} (h : AsFin W r M E s) (hE : 10 < E) (hW : W ≠ 14114281232179134464) (w : World) :
    Calls Tryz.prog 37 #[fltV W] w fun e w' => e = .returned (asIntV none) ∧ Below w.heap.size w w' := by
  have H1 := hide h.a.c1
  have H2 := hide h.a.c2
  have H3 := hide h.p
  have H4 := hide h.n
  have hm := h.m
  clear h
  have hb : ((W : Int) == 14114281232179134464) = false := by rw [beq_eq_false_iff_ne]; omega
  clear hW
  have hE0 : 0 ≤ E := by omega
  go_enter Tryz.func37, Tryz.ntmps37
  go_wp2_with (first | (go_at_call 46; refine (H1.out _).mono ?_; rintro e w' ⟨rfl, rfl⟩) | (go_at_call 48; refine (H2.out _).mono ?_; rintro e w' ⟨rfl, rfl⟩) | (go_at_call 71; refine (H3.out _).mono ?_; rintro e w' ⟨rfl, rfl⟩))
  all_goals go_ret2
  all_goals exact ⟨rfl, (Below.refl _ _).alloc (Nat.le_refl _) _⟩

set_option maxHeartbeats 800000 in
theorem asInt_up {W r : Nat} {M E X : Int} {s : Bool} (h : AsFin W r M E s) (hE : 0 ≤ E) (hE2 : E ≤ 10) (hW : W ≠ 14114281232179134464) (hX : wrap64 (M * 2 ^ E.toNat) = X) (h0 : 0 ≤ X) (h1 : X ≤ 9223372036854775807) (w : World) :
    Calls Tryz.prog 37 #[fltV W] w fun e w' => e = .returned (asIntV (some (if s then -X else X))) ∧ Below w.heap.size w w' := by
  have H1 := hide h.a.c1
  have H2 := hide h.a.c2
  have H3 := hide h.p
  have H4 := hide h.n
  have hm := h.m
  clear h
  have hb : ((W : Int) == 14114281232179134464) = false := by rw [beq_eq_false_iff_ne]; omega
  clear hW
  cases s
  all_goals (go_enter Tryz.func37, Tryz.ntmps37; go_wp2_with (first | (go_at_call 46; refine (H1.out _).mono ?_; rintro e w' ⟨rfl, rfl⟩) | (go_at_call 48; refine (H2.out _).mono ?_; rintro e w' ⟨rfl, rfl⟩) | (go_at_call 71; refine (H3.out _).mono ?_; rintro e w' ⟨rfl, rfl⟩) | (go_at_call 47; refine (H4.out _).mono ?_; rintro e w' ⟨rfl, rfl⟩)))
  all_goals go_ret2
  all_goals exact ⟨rfl, (Below.refl _ _).alloc (Nat.le_refl _) _⟩

set_option maxHeartbeats 800000 in
theorem asInt_down {W r : Nat} {M E T : Int} {s b : Bool} (h : AsFin W r M E s) (hE : E < 0) (hE2 : -63 < E) (hM : (M != 0) = true) (hM0 : 0 ≤ M) (hT : M / 2 ^ (-E).toNat = T) (hb : (wrap64 (T * 2 ^ (-E).toNat) != M) = b) (h0 : 0 ≤ T) (h1 : T ≤ 9223372036854775807) (w : World) :
    Calls Tryz.prog 37 #[fltV W] w fun e w' => e = .returned (asIntV (if b then none else some (if s then -T else T))) ∧ Below w.heap.size w w' := by
  have H1 := hide h.a.c1
  have H2 := hide h.a.c2
  have H3 := hide h.p
  have H4 := hide h.n
  have hm := h.m
  clear h
  cases b <;> cases s
  all_goals (go_enter Tryz.func37, Tryz.ntmps37; go_wp2_with (first | (go_at_call 46; refine (H1.out _).mono ?_; rintro e w' ⟨rfl, rfl⟩) | (go_at_call 48; refine (H2.out _).mono ?_; rintro e w' ⟨rfl, rfl⟩) | (go_at_call 71; refine (H3.out _).mono ?_; rintro e w' ⟨rfl, rfl⟩) | (go_at_call 47; refine (H4.out _).mono ?_; rintro e w' ⟨rfl, rfl⟩)))
  all_goals go_ret2
  all_goals exact ⟨rfl, (Below.refl _ _).alloc (Nat.le_refl _) _⟩

set_option maxHeartbeats 800000 in
theorem asInt_deep {W r : Nat} {M E : Int} {s : Bool} (h : AsFin W r M E s) (hE : E ≤ -63) (hM : (M != 0) = true) (w : World) :
    Calls Tryz.prog 37 #[fltV W] w fun e w' => e = .returned (asIntV none) ∧ Below w.heap.size w w' := by
  have H1 := hide h.a.c1
  have H2 := hide h.a.c2
  have H3 := hide h.p
  have H4 := hide h.n
  have hm := h.m
  clear h
  have hE0 : E < 0 := by omega
  go_enter Tryz.func37, Tryz.ntmps37
  go_wp2_with (first | (go_at_call 46; refine (H1.out _).mono ?_; rintro e w' ⟨rfl, rfl⟩) | (go_at_call 48; refine (H2.out _).mono ?_; rintro e w' ⟨rfl, rfl⟩) | (go_at_call 71; refine (H3.out _).mono ?_; rintro e w' ⟨rfl, rfl⟩) | (go_at_call 47; refine (H4.out _).mono ?_; rintro e w' ⟨rfl, rfl⟩))
  all_goals go_ret2
  all_goals exact ⟨rfl, (Below.refl _ _).alloc (Nat.le_refl _) _⟩

set_option maxHeartbeats 800000 in
theorem asInt_nought {W r : Nat} {E : Int} {s : Bool} (h : AsFin W r 0 E s) (hE : E < 0) (w : World) :
    Calls Tryz.prog 37 #[fltV W] w fun e w' => e = .returned (asIntV (some 0)) ∧ Below w.heap.size w w' := by
  have H1 := hide h.a.c1
  have H2 := hide h.a.c2
  have H3 := hide h.p
  have H4 := hide h.n
  have hm := h.m
  clear h
  by_cases hE0 : E ≤ -63
  all_goals cases s
  all_goals (go_enter Tryz.func37, Tryz.ntmps37; go_wp2_with (first | (go_at_call 46; refine (H1.out _).mono ?_; rintro e w' ⟨rfl, rfl⟩) | (go_at_call 48; refine (H2.out _).mono ?_; rintro e w' ⟨rfl, rfl⟩) | (go_at_call 71; refine (H3.out _).mono ?_; rintro e w' ⟨rfl, rfl⟩) | (go_at_call 47; refine (H4.out _).mono ?_; rintro e w' ⟨rfl, rfl⟩)))
  all_goals go_ret2
  all_goals exact ⟨rfl, (Below.refl _ _).alloc (Nat.le_refl _) _⟩

/-- The spec's integer of a word is the same function of it. -/
theorem asInt_flt (s : Bool) (r : Nat) (w : World) (hr : r < 9223372036854775808) :
    Calls Tryz.prog 37 #[fltV (wordS s r)] w fun e w' => e = .returned (asIntV (wholeZ s r)) ∧ Below w.heap.size w w' := by
  by_cases hf : r < infW
  · have A := asFin (s := s) hf
    have hm := wM_lt r
    by_cases htop : wordS s r = 14114281232179134464
    · have hs : s = true ∧ r = 4890909195324358656 := by
        unfold wordS at htop
        unfold infW at hf
        cases s with
        | false => rw [if_neg (by decide)] at htop; omega
        | true => rw [if_pos rfl] at htop; exact ⟨rfl, by omega⟩
      have hz : wholeZ s r = some (-9223372036854775808) := by
        rw [hs.1, hs.2]
        decide +kernel
      rw [hz]
      rw [htop] at A ⊢
      exact asInt_least A (by rw [hs.2, top_E]; decide) w
    · by_cases hg : 10 < wE r
      · have hz : wholeZ s r = none := by
          unfold wholeZ
          rw [if_neg]
          intro hh
          rcases (of_decide_eq_true hh.1).2 with h1 | ⟨h1, h2⟩
          · omega
          · refine htop ?_
            rw [h1, h2]
            rfl
        rw [hz]
        exact asInt_great A hg htop w
      · have hfit : fitsB s r = true := decide_eq_true ⟨hf, .inl (by omega)⟩
        have hlt := wT_lt (r := r) (by omega)
        by_cases he : 0 ≤ wE r
        · have e0 : (-(wE r)).toNat = 0 := by omega
          have hT : wT (wM r) (wE r) = wM r * 2 ^ (wE r).toNat := by unfold wT; rw [e0, Nat.pow_zero, Nat.div_one]
          have hz : wholeZ s r = some (if s then -((wT (wM r) (wE r) : Nat) : Int) else ((wT (wM r) (wE r) : Nat) : Int)) := by
            unfold wholeZ
            rw [if_pos ⟨hfit, by rw [e0, Nat.pow_zero, Nat.mod_one]⟩]
            rfl
          rw [hz]
          refine asInt_up A he (by omega) htop ?_ (by omega) (by omega) w
          have : ((wM r : Int) * 2 ^ (wE r).toNat) = ((wT (wM r) (wE r) : Nat) : Int) := by rw [hT]; norm_cast
          rw [this]
          generalize wT (wM r) (wE r) = T at *
          unfold wrap64
          omega
        · have e0 : (wE r).toNat = 0 := by omega
          have hT : wT (wM r) (wE r) = wM r / 2 ^ (-(wE r)).toNat := by unfold wT; rw [e0, Nat.pow_zero, Nat.mul_one]
          have hz : wholeZ s r = if wM r % 2 ^ (-(wE r)).toNat = 0 then some (if s then -((wT (wM r) (wE r) : Nat) : Int) else ((wT (wM r) (wE r) : Nat) : Int)) else none := by
            unfold wholeZ
            simp only [hfit, true_and]
            rfl
          by_cases h0 : wM r = 0
          · have hz0 : wholeZ s r = some 0 := by
              rw [hz, if_pos (by rw [h0, Nat.zero_mod]), hT, h0, Nat.zero_div]
              cases s <;> rfl
            rw [hz0]
            rw [h0] at A
            exact asInt_nought A (by omega) w
          · have hM : ((wM r : Int) != 0) = true := by rw [bne_iff_ne]; omega
            by_cases hd : wE r ≤ -63
            · have hz0 : wholeZ s r = none := by
                rw [hz, if_neg]
                have h2 : 2 ^ 53 ≤ 2 ^ (-(wE r)).toNat := Nat.pow_le_pow_right (by omega) (by omega)
                rw [Nat.mod_eq_of_lt (by omega)]
                exact h0
              rw [hz0]
              exact asInt_deep A hd hM w
            · rw [hz]
              have hp : 0 < 2 ^ (-(wE r)).toNat := Nat.pow_pos (by omega)
              have hTi : (wM r : Int) / 2 ^ (-(wE r)).toNat = ((wT (wM r) (wE r) : Nat) : Int) := by rw [hT]; norm_cast
              have hle : wT (wM r) (wE r) * 2 ^ (-(wE r)).toNat ≤ wM r := by rw [hT]; exact Nat.div_mul_le_self _ _
              have hmul : ((wT (wM r) (wE r) : Nat) : Int) * 2 ^ (-(wE r)).toNat = ((wT (wM r) (wE r) * 2 ^ (-(wE r)).toNat : Nat) : Int) := by norm_cast
              have hbb : (wrap64 (((wT (wM r) (wE r) : Nat) : Int) * 2 ^ (-(wE r)).toNat) != (wM r : Int)) = !decide (wM r % 2 ^ (-(wE r)).toNat = 0) := by
                rw [hmul]
                have hdm := Nat.div_add_mod (wM r) (2 ^ (-(wE r)).toNat)
                rw [Nat.mul_comm, ← hT] at hdm
                generalize wT (wM r) (wE r) * 2 ^ (-(wE r)).toNat = Y at *
                generalize wM r % 2 ^ (-(wE r)).toNat = Z at *
                have hw : wrap64 (Y : Int) = Y := by unfold wrap64; omega
                rw [hw]
                by_cases hZ : Z = 0
                · rw [decide_eq_true hZ]; show _ = false; rw [bne_eq_false_iff_eq]; omega
                · rw [decide_eq_false hZ]; show _ = true; rw [bne_iff_ne]; omega
              have := asInt_down A (by omega) (by omega) hM (by omega) hTi hbb (by omega) (by omega) w
              by_cases hZ : wM r % 2 ^ (-(wE r)).toNat = 0
              · rw [decide_eq_true hZ] at this
                rw [if_pos hZ]
                exact this
              · rw [decide_eq_false hZ] at this
                rw [if_neg hZ]
                exact this
  · have hz : wholeZ s r = none := by
      unfold wholeZ
      rw [if_neg]
      exact fun hh => hf (of_decide_eq_true hh.1).1
    rw [hz]
    refine asInt_nan (asCalls hr) ?_ w
    by_cases h : r = infW
    · rw [decide_eq_true h, Bool.or_true]
    · rw [decide_eq_true (show infW < r by omega), Bool.true_or]

end Go.Proofs.YtamdnnkdnhkghaaGreatDoor
