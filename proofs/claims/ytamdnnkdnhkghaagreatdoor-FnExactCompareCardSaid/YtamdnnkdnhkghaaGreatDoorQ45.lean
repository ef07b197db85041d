import Derived.Test.YtamdnnkdnhkghaaGreatDoorQ44
import Derived.Test.YtamdnnkdnhkghaaGreatDoorQ19
import Derived.Laws.Bits64
namespace Go.Proofs.YtamdnnkdnhkghaaGreatDoor
open Go Go.RowKit
set_option linter.unusedVariables false

theorem dig_len5 {n : Nat} (h : n < 9223372036854775808) : (dig n).length ≤ 5 := dig_length_le (by omega)

set_option maxHeartbeats 1600000 in
set_option maxRecDepth 100000 in
theorem of_any (n : Nat) (w : World) (hn : n < 9223372036854775808) :
    Calls Tryz.prog 107 #[.int .i64 n] w fun e w' => ∃ v', e = .returned v' ∧ Big w' v' (dig n) ∧ Below w.heap.size w w' := by
  have H5 := hide (dig_len5 hn)
  go_enter Tryz.func107, Tryz.ntmps107
  go_wp2
  go_loopw [0, 3] (fun v o wr => ∃ (x : Nat) (L : List Int), v = .int .i64 x ∧ x < 9223372036854775808 ∧ OwnI wr w.heap.size o L ∧ Hid (dig n = L ++ dig x) ∧ Below w.heap.size w wr) (fun v _ _ => (intOf v).toNat)
  case atStart => exact ⟨n, [], rfl, hn, ownI_empty w, hide rfl, (Below.refl _ _).alloc (Nat.le_refl _) _⟩
  case round =>
    obtain ⟨x, L, rfl, hx, hown, He, hb⟩ := hrel
    have hbs := hb.size
    by_cases h0 : 0 < x
    · have hL : L.length ≤ 5 := by
        have h1 := H5.out
        rw [He.out, List.length_append] at h1
        omega
      have HL := hide hL
      have Hn := hide (show dig n = (L ++ [((x % 10000 : Nat) : Int)]) ++ dig (x / 10000) by rw [He.out, dig_pos (show x ≠ 0 by omega), List.append_assoc]; rfl)
      clear hL He
      go_wp2_with (first
        | (at_builtin; (refine app_int rfl _ _ rfl w.heap.size _ L ((x : Int) % 10000) hown rfl rfl (by have := HL.out; omega) hbs ?_; intro v' w1 hown' hgrow))
        | go_in)
      have R : OwnI w1 w.heap.size v' (L ++ [((x % 10000 : Nat) : Int)]) ∧ Below w.heap.size w w1 := ⟨by exact hown', hgrow _ _ hb (Nat.le_refl _)⟩
      clear hown' hgrow hown
      go_wp2
      go_roundw
      case rel => exact ⟨x / 10000, L ++ [((x % 10000 : Nat) : Int)], by go_num, by omega, R.1, Hn, R.2⟩
      case measure => simp [intOf]; omega
    · have hx0 : x = 0 := by omega
      subst hx0
      go_wp2
      go_ret
      exact ⟨_, rfl, by rw [He.out, dig_zero, List.append_nil]; exact hown.big, hb⟩

set_option maxHeartbeats 800000 in
theorem word_zero (vd : Value) (vn : Value) (w : World) (hn : Big w vn (dig 0)) (e0 : Int) :
    Calls Tryz.prog 106 #[vn, vd, .int .i64 e0] w fun e w' => e = .returned (.int .u64 0) ∧ w' = w := by
  obtain ⟨gn, cn, hvn⟩ := hn.len
  rw [dig_zero] at hvn
  subst hvn
  clear hn
  go_enter Tryz.func106, Tryz.ntmps106
  go_wp2
  all_goals go_ret
  all_goals exact ⟨rfl, rfl⟩

/-- The word of a whole number. -/
theorem word_int (n : Nat) (w : World) (vn vd : Value) (hn : n < 9223372036854775808) (h : Big w vn (dig n)) (hd : Big w vd (dig 1)) :
    Calls Tryz.prog 106 #[vn, vd, .int .i64 0] w fun e w' => ∃ W : Nat, e = .returned (.int .u64 W) ∧ IsRnd (n * 2 ^ ((0 : Int) + 1074).toNat) (1 * 2 ^ (-1074 - (0 : Int)).toNat) W ∧ Below w.heap.size w w' := by
  by_cases h0 : n = 0
  · subst h0
    refine (word_zero vd vn w h 0).mono ?_
    rintro e w' ⟨rfl, rfl⟩
    refine ⟨0, rfl, ?_, Below.refl _ _⟩
    rw [Nat.zero_mul]
    exact rnd_small (Nat.mul_pos (by omega) (Nat.pow_pos (by omega)))
  · have h1 := dig_len5 hn
    have h2 := dig_len5 (n := 1) (by omega)
    exact word_any n 1 0 vn vd w h hd (by omega) (by omega) (by omega) (by omega) (by omega) h0

set_option maxHeartbeats 1600000 in
set_option maxRecDepth 100000 in
theorem fromInt_any (i : Int) (w : World) (h0 : -9223372036854775808 ≤ i) (h1 : i ≤ 9223372036854775807) :
    Calls Tryz.prog 59 #[.int .i64 i] w fun e w' => ∃ W : Int, e = .returned (.int .u64 W) ∧ Below w.heap.size w w' := by
  by_cases hl : i = -9223372036854775808
  · subst hl
    go_enter Tryz.func59, Tryz.ntmps59
    go_wp2
    all_goals go_ret
    all_goals exact ⟨_, rfl, Below.refl _ _⟩
  · have hb : (i == -9223372036854775808) = false := by rw [beq_eq_false_iff_ne]; exact hl
    by_cases hn : i < 0
    · obtain ⟨n, hni, hn2⟩ : ∃ n : Nat, -i = n ∧ n < 9223372036854775808 := ⟨(-i).toNat, by omega, by omega⟩
      have O := hide (fun w' => of_any n w' hn2)
      have Wd := hide (fun w' vn vd h hd => word_int n w' vn vd hn2 h hd)
      go_enter Tryz.func59, Tryz.ntmps59
      go_wp2_with fail
      refine (O.out _).mono ?_
      rintro e w1 ⟨v1, rfl, hbig, hb1⟩
      go_wp2_with fail
      refine (Wd.out _ _ _ (hbig.below ((Below.refl _ _).alloc (Nat.le_refl _) _)) (big_one w1)).mono ?_
      rintro e w2 ⟨W, rfl, _, hb2⟩
      go_wp2
      go_ret
      exact ⟨_, rfl, hb1.trans (((Below.refl w1.heap.size w1).alloc (Nat.le_refl _) _).trans (hb2.mono (by simp)) |>.mono hb1.size)⟩
    · obtain ⟨n, hni, hn2⟩ : ∃ n : Nat, i = n ∧ n < 9223372036854775808 := ⟨i.toNat, by omega, by omega⟩
      subst hni
      have O := hide (fun w' => of_any n w' hn2)
      have Wd := hide (fun w' vn vd h hd => word_int n w' vn vd hn2 h hd)
      go_enter Tryz.func59, Tryz.ntmps59
      go_wp2_with fail
      refine (O.out _).mono ?_
      rintro e w1 ⟨v1, rfl, hbig, hb1⟩
      go_wp2_with fail
      refine (Wd.out _ _ _ (hbig.below ((Below.refl _ _).alloc (Nat.le_refl _) _)) (big_one w1)).mono ?_
      rintro e w2 ⟨W, rfl, _, hb2⟩
      go_wp2
      go_ret
      exact ⟨_, rfl, hb1.trans (((Below.refl w1.heap.size w1).alloc (Nat.le_refl _) _).trans (hb2.mono (by simp)) |>.mono hb1.size)⟩

/-- 'l01Float' of a word that is no nan, and of the nan. -/
theorem float_num (x : Nat) (w : World) (h : x % 9223372036854775808 ≤ infW) : Calls Tryz.prog 28 #[.int .u64 x] w fun e w' => e = .returned (fltV x) ∧ Below w.heap.size w w' := by
  have N := isNanU_any (x : Int)
  have hd : decide (9218868437227405312 < (x : Int) % 9223372036854775808) = false := by unfold infW at h; rw [decide_eq_false]; omega
  rw [hd] at N
  have HN := hide N
  clear N hd h
  go_enter Tryz.func28, Tryz.ntmps28
  go_wp2_with (go_at_call 46; refine (HN.out _ (by omega)).mono ?_; rintro e w' ⟨rfl, rfl⟩)
  exact bodyPost_ret (v := fltV x) (by simp [results, Tryz.results28, go_sem]) rfl ⟨rfl, (Below.refl _ _).alloc (Nat.le_refl _) _⟩

theorem float_nan (w : World) : Calls Tryz.prog 28 #[.int .u64 9221120237041090560] w fun e w' => e = .returned (fltV 9221120237041090560) ∧ Below w.heap.size w w' := by
  have HN := hide (isNanU_any 9221120237041090560)
  go_enter Tryz.func28, Tryz.ntmps28
  go_wp2_with (go_at_call 46; refine (HN.out _ (by omega)).mono ?_; rintro e w' ⟨rfl, rfl⟩)
  all_goals exact bodyPost_ret (v := fltV 9221120237041090560) (by simp [results, Tryz.results28, go_sem]) rfl ⟨rfl, (Below.refl _ _).alloc (Nat.le_refl _) _⟩

abbrev intV (i : Int) : Value := .agg #[.bool false, .int .i64 i, .int .u64 0]

set_option maxHeartbeats 800000 in
theorem asFloat_int (i : Int) (w : World) (h0 : -9223372036854775808 ≤ i) (h1 : i ≤ 9223372036854775807) :
    Calls Tryz.prog 84 #[intV i] w fun e w' => ∃ W : Int, e = .returned (.int .u64 W) ∧ Below w.heap.size w w' := by
  have HF := hide (fun w => fromInt_any i w h0 h1)
  clear h0 h1
  go_enter Tryz.func84, Tryz.ntmps84
  go_wp2_with fail
  refine (HF.out _).mono ?_
  rintro e w1 ⟨W, rfl, hb⟩
  go_wp2
  go_ret
  exact ⟨_, rfl, ((Below.refl w.heap.size w).alloc (Nat.le_refl _) _).trans (hb.mono (by simp))⟩

theorem field_bits (x : Int) (w : World) : (Instr.field 26 (.agg #[.bool true, .int .i64 0, .int .u64 x]) 2).run Tryz.prog w = .ok (.int .u64 x) w := by kernel_rfl

set_option maxHeartbeats 800000 in
set_option maxRecDepth 100000 in
theorem asFloat_flt (x : Nat) (w : World) (h : x % 9223372036854775808 ≤ infW) :
    Calls Tryz.prog 84 #[fltV x] w fun e w' => e = .returned (.int .u64 x) ∧ Below w.heap.size w w' := by
  have HF := hide (fun w => float_num x w h)
  clear h
  unfold fltV at HF ⊢
  have hfb := field_bits
  go_enter Tryz.func84, Tryz.ntmps84
  go_wp2_with fail
  refine (HF.out _).mono ?_
  rintro e w1 ⟨rfl, hb⟩
  go_wp2
  all_goals go_ret
  all_goals exact ⟨rfl, ((Below.refl w.heap.size w).alloc (Nat.le_refl _) _).trans (hb.mono (by simp))⟩

theorem below_arit {w wr : World} {A B C : Obj} (h : Below (((w.alloc A).alloc B).alloc C).heap.size (((w.alloc A).alloc B).alloc C) wr) : Below w.heap.size w wr :=
  ((((Below.refl w.heap.size w).alloc (Nat.le_refl _) A).alloc (by simp) B).alloc (by simp; omega) C).trans (h.mono (by simp; omega))

set_option maxHeartbeats 800000 in
set_option maxRecDepth 100000 in
theorem arith_neg_int (i : Int) (w : World) (h0 : -9223372036854775808 ≤ i) (h1 : i ≤ 9223372036854775807) :
    Calls Tryz.prog 44 #[.int .i64 13, intV i, intV i] w fun e w' => e = .returned (.tuple #[intV (wrap64 (-i)), .int .i64 0]) ∧ Below w.heap.size w w' := by
  have HF := hide (fun w => asFloat_int i w h0 h1)
  go_enter Tryz.func44, Tryz.ntmps44
  go_wp2_with fail
  refine (HF.out _).mono ?_
  rintro e w1 ⟨W1, rfl, hb1⟩
  obtain ⟨hc, hf⟩ := bcell hb1
  have HB1 := hide hb1
  clear hb1
  go_wp2_with fail
  refine (HF.out _).mono ?_
  rintro e w2 ⟨W2, rfl, hb2⟩
  have hb12 := HB1.out.trans (hb2.mono HB1.out.size)
  clear hc hf hb2
  obtain ⟨hc, hf⟩ := bcell hb12
  have HB2 := hide hb12
  clear hb12
  go_wp2_with fail
  refine (int_any _ _).mono ?_
  rintro e w3 ⟨rfl, hb3⟩
  have hb13 := HB2.out.trans (hb3.mono HB2.out.size)
  clear hc hf hb3
  obtain ⟨hc, hf⟩ := bcell hb13
  have HB3 := hide hb13
  clear hb13
  go_wp2
  refine bodyPost_ret (v := .tuple #[intV (wrap64 (-i)), .int .i64 0]) ?_ rfl ⟨rfl, ?_⟩
  · simp [results, Tryz.results44, go_sem, hc]
  · refine Below.setCell (Below.setCell (Below.setCell (below_arit HB3.out) ?_ _) ?_ _) ?_ _
    all_goals (simp; try omega)

theorem xor_top {x : Nat} (h : x < 9223372036854775808) : x ^^^ 9223372036854775808 = 9223372036854775808 + x := by
  show x ^^^ 2 ^ 63 = 2 ^ 63 + x
  apply Nat.eq_of_testBit_eq
  intro i
  rw [Nat.testBit_xor, Nat.testBit_two_pow]
  rcases Nat.lt_trichotomy i 63 with hi | hi | hi
  · rw [Nat.testBit_two_pow_add_gt hi, decide_eq_false (by omega), Bool.xor_false]
  · subst hi
    rw [Nat.testBit_two_pow_add_eq, decide_eq_true rfl, Bool.xor_true]
  · have h1 : x < 2 ^ i := Nat.lt_of_lt_of_le h (Nat.pow_le_pow_right (show 2 > 0 by omega) (show 63 ≤ i by omega))
    have h2 : 2 ^ 63 + x < 2 ^ i := Nat.lt_of_lt_of_le (show 2 ^ 63 + x < 2 ^ 64 by omega) (Nat.pow_le_pow_right (by omega) (by omega))
    rw [Nat.testBit_lt_two_pow h1, Nat.testBit_lt_two_pow h2, decide_eq_false (by omega), Bool.xor_false]

set_option maxHeartbeats 800000 in
set_option maxRecDepth 100000 in
theorem arith_neg_flt (x y : Nat) (w : World) (hx : x ≤ infW) (hy : y = 9223372036854775808 + x) :
    Calls Tryz.prog 44 #[.int .i64 13, fltV x, fltV x] w fun e w' => e = .returned (.tuple #[fltV y, .int .i64 0]) ∧ Below w.heap.size w w' := by
  have HF := hide (fun w => asFloat_flt x w (by unfold infW at *; omega))
  have HN := hide (fun w => float_num y w (by unfold infW at *; omega))
  unfold fltV at *
  go_enter Tryz.func44, Tryz.ntmps44
  go_wp2_with fail
  refine (HF.out _).mono ?_
  rintro e w1 ⟨rfl, hb1⟩
  obtain ⟨hc, hf⟩ := bcell hb1
  have HB1 := hide hb1
  clear hb1
  go_wp2_with fail
  refine (HF.out _).mono ?_
  rintro e w2 ⟨rfl, hb2⟩
  have hb12 := HB1.out.trans (hb2.mono HB1.out.size)
  clear hc hf hb2
  obtain ⟨hc, hf⟩ := bcell hb12
  have HB2 := hide hb12
  clear hb12
  have hxor : bits BinOp.xor IntKind.u64 (x : Int) 9223372036854775808 = (y : Int) := by
    have hx2 : x < 9223372036854775808 := by unfold infW at hx; omega
    have := bits_xor_u64_nat x 9223372036854775808 (by omega) (by omega)
    rw [xor_top hx2, ← hy] at this
    exact this
  clear hy hx
  go_wp2_with fail
  refine (HN.out _).mono ?_
  rintro e w3 ⟨rfl, hb3⟩
  have hb13 := HB2.out.trans (hb3.mono HB2.out.size)
  clear hc hf hb3
  obtain ⟨hc, hf⟩ := bcell hb13
  have HB3 := hide hb13
  clear hb13
  go_wp2
  refine bodyPost_ret (v := .tuple #[.agg #[.bool true, .int .i64 0, .int .u64 y], .int .i64 0]) ?_ rfl ⟨rfl, ?_⟩
  · simp [results, Tryz.results44, go_sem, hc]
  · refine Below.setCell (Below.setCell (Below.setCell (below_arit HB3.out) ?_ _) ?_ _) ?_ _
    all_goals (simp; try omega)

end Go.Proofs.YtamdnnkdnhkghaaGreatDoor

namespace Go.Proofs.YtamdnnkdnhkghaaGreatDoor
open Go Go.RowKit
set_option linter.unusedVariables false

theorem dval_cons (c : Int) (l : List Int) : dval (c :: l) = (c - 48).toNat * 10 ^ l.length + dval l := by
  have key : ∀ (l : List Int) (a : Nat), l.foldl (fun a c => a * 10 + (c - 48).toNat) a = a * 10 ^ l.length + l.foldl (fun a c => a * 10 + (c - 48).toNat) 0 := by
    intro l
    induction l with
    | nil => intro a; simp
    | cons c l ih =>
      intro a
      rw [List.foldl_cons, List.foldl_cons, ih, ih (0 * 10 + (c - 48).toNat), List.length_cons, Nat.pow_succ, Nat.zero_mul, Nat.zero_add, Nat.add_mul]
      generalize 10 ^ l.length = p
      grind
  unfold dval
  rw [List.foldl_cons, key, Nat.zero_mul, Nat.zero_add]

theorem dig_cons {c : Int} {l : List Int} (h : allDig (c :: l) = true) : 48 ≤ c ∧ c ≤ 57 ∧ allDig l = true := by
  unfold allDig at h ⊢
  rw [List.all_cons, Bool.and_eq_true] at h
  have := of_decide_eq_true h.1
  exact ⟨this.1, this.2, h.2⟩

theorem dval_lt {l : List Int} (h : allDig l = true) : dval l < 10 ^ l.length := by
  induction l with
  | nil => simp [dval]
  | cons c l ih =>
    obtain ⟨h1, h2, h3⟩ := dig_cons h
    have h4 := ih h3
    rw [dval_cons, List.length_cons, Nat.pow_succ]
    have h5 : (c - 48).toNat ≤ 9 := by omega
    have h6 := Nat.mul_le_mul_right (10 ^ l.length) h5
    omega

theorem dval_inj : ∀ {l m : List Int}, allDig l = true → allDig m = true → l.length = m.length → dval l = dval m → l = m
  | [], [], _, _, _, _ => rfl
  | [], _ :: _, _, _, h, _ => by cases h
  | _ :: _, [], _, _, h, _ => by cases h
  | c :: l, d :: m, h1, h2, h3, h4 => by
    obtain ⟨a1, a2, a3⟩ := dig_cons h1
    obtain ⟨b1, b2, b3⟩ := dig_cons h2
    have hl : l.length = m.length := by simpa using h3
    rw [dval_cons, dval_cons, hl] at h4
    have e1 := dval_lt a3
    have e2 := dval_lt b3
    rw [hl] at e1
    have hp : 0 < 10 ^ m.length := Nat.pow_pos (by omega)
    have hc : (c - 48).toNat = (d - 48).toNat := by
      have x1 : ((c - 48).toNat * 10 ^ m.length + dval l) / 10 ^ m.length = (c - 48).toNat := by
        rw [Nat.add_comm, Nat.add_mul_div_right _ _ hp, Nat.div_eq_of_lt e1, Nat.zero_add]
      have x2 : ((d - 48).toNat * 10 ^ m.length + dval m) / 10 ^ m.length = (d - 48).toNat := by
        rw [Nat.add_comm, Nat.add_mul_div_right _ _ hp, Nat.div_eq_of_lt e2, Nat.zero_add]
      rw [← x1, h4, x2]
    have hv : dval l = dval m := by rw [hc] at h4; omega
    have hcd : c = d := by omega
    rw [hcd, dval_inj a3 b3 hl hv]

/-- The digits of 2^63. -/
def top63 : List Int := [57, 50, 50, 51, 51, 55, 50, 48, 51, 54, 56, 53, 52, 55, 55, 53, 56, 48, 56]

theorem top63_val : dval top63 = 9223372036854775808 := by decide
theorem top63_dig : allDig top63 = true := by decide

theorem dval_zero (l : List Int) : dval (48 :: l) = dval l := by rw [dval_cons]; simp

/-- Digits without a nought ahead that come to 2^63 are those of 2^63. -/
theorem top_only {l : List Int} (h : allDig l = true) (hv : dval l = 9223372036854775808) (h0 : ¬ (1 < l.length ∧ l.getD 0 0 = 48)) : l = top63 := by
  cases l with
  | nil => simp [dval] at hv
  | cons c l =>
    have hlt := dval_lt h
    obtain ⟨h1, h2, h3⟩ := dig_cons h
    have hlen : (c :: l).length = 19 := by
      rw [hv] at hlt
      have u : 19 ≤ (c :: l).length := by
        refine Classical.byContradiction fun hn => ?_
        have : 10 ^ (c :: l).length ≤ 10 ^ 18 := Nat.pow_le_pow_right (by omega) (by omega)
        omega
      refine Nat.le_antisymm ?_ u
      refine Classical.byContradiction fun hn => ?_
      have hc : c ≠ 48 := fun hc => h0 ⟨by omega, by rw [hc]; rfl⟩
      rw [dval_cons] at hv
      have h5 : 1 ≤ (c - 48).toNat := by omega
      have h6 := Nat.mul_le_mul_right (10 ^ l.length) h5
      have h7 : 10 ^ 19 ≤ 10 ^ l.length := Nat.pow_le_pow_right (by omega) (by simp at hn; omega)
      omega
    exact dval_inj h top63_dig (by rw [hlen]; rfl) (by rw [hv, top63_val])

theorem bs_inj {s t : ByteArray} (h : bs s = bs t) : s = t := by
  unfold bs at h
  have : s.data.toList = t.data.toList := by
    refine List.map_inj_right (fun a b hab => ?_) |>.1 h
    have : a.toNat = b.toNat := by omega
    exact UInt8.toNat_inj.1 this
  cases s; cases t
  simp at this
  rw [this]

theorem top_no {t : ByteArray} (h : bs t ≠ top63) : (t.toList == [57, 50, 50, 51, 51, 55, 50, 48, 51, 54, 56, 53, 52, 55, 55, 53, 56, 48, 56]) = false := by
  rw [beq_eq_false_iff_ne]
  intro hh
  rw [ByteArray.toList_eq] at hh
  apply h
  unfold bs
  rw [hh]
  rfl

theorem top_yes {t : ByteArray} (h : bs t = top63) : (t.toList == [57, 50, 50, 51, 51, 55, 50, 48, 51, 54, 56, 53, 52, 55, 55, 53, 56, 48, 56]) = true := by
  have e : t = ⟨#[57, 50, 50, 51, 51, 55, 50, 48, 51, 54, 56, 53, 52, 55, 55, 53, 56, 48, 56]⟩ := bs_inj (by rw [h]; rfl)
  rw [e, ByteArray.toList_eq]
  decide

/-- What a minus ahead of a numeral makes of it. -/
def negOut (s : ByteArray) (v : Value) : Value := if allDig (bs s) = true ∧ dval (bs s) = 9223372036854775808 then intV (-9223372036854775808) else v

theorem below_two {w wr : World} {A B : Obj} (h : Below ((w.alloc A).alloc B).heap.size ((w.alloc A).alloc B) wr) : Below w.heap.size w wr :=
  (((Below.refl w.heap.size w).alloc (Nat.le_refl _) A).alloc (by simp) B).trans (h.mono (by simp; omega))

def strSize : Value → Nat
  | .string t => t.size
  | _ => 0

theorem strip_step {t s : ByteArray} (h1 : 1 < t.size) (h2 : ((t[0].toNat : Nat) : Int) = 48) (h : allDig (bs t) = true ∧ dval (bs t) = dval (bs s)) :
    allDig (bs (t.extract 1 t.size)) = true ∧ dval (bs (t.extract 1 t.size)) = dval (bs s) := by
  rw [bs_tail]
  have hg := bs_getD (s := t) (k := 0) (by omega)
  have hl := bs_length t
  cases hb : bs t with
  | nil => rw [hb] at hl; simp at hl; omega
  | cons c l =>
    rw [hb] at h hg
    have hc : c = 48 := by rw [← h2, ← hg]; rfl
    subst hc
    exact ⟨(dig_cons h.1).2.2, by rw [← h.2, dval_zero]; rfl⟩

set_option maxHeartbeats 1600000 in
set_option maxRecDepth 100000 in
theorem negated_any (s : ByteArray) (f f' : Bool) (i i' u u' : Int) (w : World) (hs : s.size ≤ 1000)
    (hA : ∀ w, Calls Tryz.prog 44 #[.int .i64 13, .agg #[.bool f, .int .i64 i, .int .u64 u], .agg #[.bool f, .int .i64 i, .int .u64 u]] w fun e w' => e = .returned (.tuple #[.agg #[.bool f', .int .i64 i', .int .u64 u'], .int .i64 0]) ∧ Below w.heap.size w w') :
    Calls Tryz.prog 70 #[.string s, .agg #[.bool f, .int .i64 i, .int .u64 u]] w fun e w' => e = .returned (negOut s (.agg #[.bool f', .int .i64 i', .int .u64 u'])) ∧ Below w.heap.size w w' := by
  have HA := hide hA
  clear hA
  have Hl := hide (bs_length s)
  go_enter Tryz.func70, Tryz.ntmps70
  go_wp2
  go_loop [5, 6] (fun dv iv => ∃ (k : Nat), k ≤ s.size ∧ iv = .int .i64 k ∧ dv = .bool (allDig ((bs s).take k))) (fun _ iv => s.size - (intOf iv).toNat)
  case atStart => exact ⟨0, Nat.zero_le _, rfl, rfl⟩
  case round =>
    obtain ⟨k, hk, rfl, rfl⟩ := hrel
    by_cases hlt : k < s.size
    · have Hg := hide (bs_getD hlt)
      have Ht := hide (allDig_take (l := bs s) (k := k) (by rw [Hl.out]; exact hlt))
      have hb0 : (0 : Int) ≤ ((s[k].toNat : Nat) : Int) := by omega
      have hb1 : ((s[k].toNat : Nat) : Int) < 256 := by have := s[k].toNat_lt; omega
      cases hb : allDig ((bs s).take k) with
      | true =>
        go_wp2_with (go_at_call 115; refine (digit_any _ _ hb0 hb1).mono ?_; rintro e w' ⟨rfl, rfl⟩)
        go_round
        case rel => exact ⟨k + 1, by omega, by go_num, by rw [Ht.out, hb, Hg.out, Bool.true_and]; rfl⟩
        case measure => simp [intOf]; omega
      | false =>
        go_wp2
        go_round
        case rel => exact ⟨k + 1, by omega, by go_num, by rw [Ht.out, hb, Bool.false_and]⟩
        case measure => simp [intOf]; omega
    · have hks : k = s.size := by omega
      subst hks
      have e0 : (bs s).take s.size = bs s := by rw [← Hl.out, List.take_length]
      rw [e0]
      clear e0
      cases hb : allDig (bs s) with
      | false =>
        have Ho : Hid (∀ v, negOut s v = v) := hide (fun v => by unfold negOut; rw [if_neg]; rw [hb]; exact fun h => Bool.noConfusion h.1)
        have hne := top_no (t := s) (fun h => by rw [h, top63_dig] at hb; cases hb)
        go_wp2
        refine wp_loop_rounds 1 ?_
        rw [rounds_succ]
        go_wp2_with fail
        refine (HA.out _).mono ?_
        rintro e w1 ⟨rfl, hb1⟩
        have hb2 := hb1.alloc hb1.size (.cells #[.bool f', .int .i64 i', .int .u64 u'] 26)
        obtain ⟨hc, hf⟩ := bcell hb1
        obtain ⟨hc2, hf2⟩ := bcell hb2
        have HB2 := hide hb2
        have hz : w.heap.size + 1 ≠ w1.heap.size := by have := hb1.size; simp at this; omega
        have hz2 : ¬ (w.heap.size + 1 = w1.heap.size) := hz
        clear hb1 hb2
        go_wp2
        refine bodyPost_ret (v := .agg #[.bool f', .int .i64 i', .int .u64 u']) ?_ rfl ⟨by rw [Ho.out], ?_⟩
        · simp [results, Tryz.results70, go_sem, hc2]
        · refine Below.setCell (Below.setCell (Below.setCell (below_two HB2.out) ?_ _) ?_ _) ?_ _
          all_goals simp
      | true =>
        go_wp2
        go_loop [0] (fun dv => ∃ t : ByteArray, dv = .string t ∧ t.size ≤ 1000 ∧ Hid (allDig (bs t) = true ∧ dval (bs t) = dval (bs s))) (fun dv => strSize dv)
        case atStart => exact ⟨s, rfl, hs, hide ⟨hb, rfl⟩⟩
        case round =>
          obtain ⟨t, rfl, hts, Ht⟩ := hrel
          by_cases h1 : 1 < t.size
          · by_cases h2 : ((t[0].toNat : Nat) : Int) = 48
            · have Hn : Hid (allDig (bs (t.extract 1 t.size)) = true ∧ dval (bs (t.extract 1 t.size)) = dval (bs s)) := hide (strip_step h1 h2 Ht.out)
              have hsz : (t.extract 1 t.size).size = t.size - 1 := by simp
              clear Ht
              have hq : ((t[0].toNat : Nat) : Int) == 48 := by rw [h2]; rfl
              go_wp2
              go_round
              case rel => exact ⟨_, rfl, by omega, Hn⟩
              case measure => simp [strSize]; omega
            · have hq : (((t[0].toNat : Nat) : Int) == 48) = false := by rw [beq_eq_false_iff_ne]; exact h2
              have hlead : ¬ (1 < (bs t).length ∧ (bs t).getD 0 0 = 48) := by
                intro hh
                rw [bs_getD (show 0 < t.size by omega)] at hh
                exact h2 hh.2
              by_cases hv : dval (bs s) = 9223372036854775808
              · have heq := top_yes (top_only Ht.out.1 (by rw [Ht.out.2, hv]) hlead)
                have Ho : Hid (∀ v, negOut s v = intV (-9223372036854775808)) := hide (fun v => by unfold negOut; rw [if_pos ⟨hb, hv⟩])
                clear hlead hv Ht
                go_wp2_with fail
                refine (int_any _ _).mono ?_
                rintro e w1 ⟨rfl, hb1⟩
                obtain ⟨hc, hf⟩ := bcell hb1
                have HB1 := hide hb1
                clear hb1
                go_wp2
                refine bodyPost_ret (v := intV (-9223372036854775808)) ?_ rfl ⟨by rw [Ho.out], ?_⟩
                · simp [results, Tryz.results70, go_sem, hc]
                · refine Below.setCell (Below.setCell (Below.setCell (below_two HB1.out) ?_ _) ?_ _) ?_ _
                  all_goals simp
              · have heq := top_no (t := t) (fun h => hv (by rw [← Ht.out.2, h, top63_val]))
                have Ho : Hid (∀ v, negOut s v = v) := hide (fun v => by unfold negOut; rw [if_neg (fun h => hv h.2)])
                clear hlead hv Ht
                go_wp2_with fail
                refine (HA.out _).mono ?_
                rintro e w1 ⟨rfl, hb1⟩
                have hb2 := hb1.alloc hb1.size (.cells #[.bool f', .int .i64 i', .int .u64 u'] 26)
                obtain ⟨hc, hf⟩ := bcell hb1
                obtain ⟨hc2, hf2⟩ := bcell hb2
                have HB2 := hide hb2
                have hz : w.heap.size + 1 ≠ w1.heap.size := by have := hb1.size; simp at this; omega
                have hz2 : ¬ (w.heap.size + 1 = w1.heap.size) := hz
                clear hb1 hb2
                go_wp2
                refine bodyPost_ret (v := .agg #[.bool f', .int .i64 i', .int .u64 u']) ?_ rfl ⟨by rw [Ho.out], ?_⟩
                · simp [results, Tryz.results70, go_sem, hc2]
                · refine Below.setCell (Below.setCell (Below.setCell (below_two HB2.out) ?_ _) ?_ _) ?_ _
                  all_goals simp
          · skip
            have hlead : ¬ (1 < (bs t).length ∧ (bs t).getD 0 0 = 48) := by
              intro hh
              rw [bs_length] at hh
              exact h1 hh.1
            by_cases hv : dval (bs s) = 9223372036854775808
            · have heq := top_yes (top_only Ht.out.1 (by rw [Ht.out.2, hv]) hlead)
              have Ho : Hid (∀ v, negOut s v = intV (-9223372036854775808)) := hide (fun v => by unfold negOut; rw [if_pos ⟨hb, hv⟩])
              clear hlead hv Ht
              go_wp2_with fail
              refine (int_any _ _).mono ?_
              rintro e w1 ⟨rfl, hb1⟩
              obtain ⟨hc, hf⟩ := bcell hb1
              have HB1 := hide hb1
              clear hb1
              go_wp2
              refine bodyPost_ret (v := intV (-9223372036854775808)) ?_ rfl ⟨by rw [Ho.out], ?_⟩
              · simp [results, Tryz.results70, go_sem, hc]
              · refine Below.setCell (Below.setCell (Below.setCell (below_two HB1.out) ?_ _) ?_ _) ?_ _
                all_goals simp
            · have heq := top_no (t := t) (fun h => hv (by rw [← Ht.out.2, h, top63_val]))
              have Ho : Hid (∀ v, negOut s v = v) := hide (fun v => by unfold negOut; rw [if_neg (fun h => hv h.2)])
              clear hlead hv Ht
              go_wp2_with fail
              refine (HA.out _).mono ?_
              rintro e w1 ⟨rfl, hb1⟩
              have hb2 := hb1.alloc hb1.size (.cells #[.bool f', .int .i64 i', .int .u64 u'] 26)
              obtain ⟨hc, hf⟩ := bcell hb1
              obtain ⟨hc2, hf2⟩ := bcell hb2
              have HB2 := hide hb2
              have hz : w.heap.size + 1 ≠ w1.heap.size := by have := hb1.size; simp at this; omega
              have hz2 : ¬ (w.heap.size + 1 = w1.heap.size) := hz
              clear hb1 hb2
              go_wp2
              refine bodyPost_ret (v := .agg #[.bool f', .int .i64 i', .int .u64 u']) ?_ rfl ⟨by rw [Ho.out], ?_⟩
              · simp [results, Tryz.results70, go_sem, hc2]
              · refine Below.setCell (Below.setCell (Below.setCell (below_two HB2.out) ?_ _) ?_ _) ?_ _
                all_goals simp

end Go.Proofs.YtamdnnkdnhkghaaGreatDoor
