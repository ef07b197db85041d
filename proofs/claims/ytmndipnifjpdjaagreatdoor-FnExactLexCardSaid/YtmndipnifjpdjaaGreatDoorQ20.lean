import Ieee.Arith
import Derived.Test.YtmndipnifjpdjaaGreatDoorQ18
import Derived.Laws.FloatArith
import Derived.Test.YtmndipnifjpdjaaGreatDoorQ19
namespace Go.Proofs.YtmndipnifjpdjaaGreatDoor
theorem rq_ratio {A B A' B' : Nat} (hB : 0 < B) (hB' : 0 < B') (h : A * B' = A' * B) : rq A B = rq A' B' := by
  rw [← rq_scale (N := A) (D := B) hB', ← rq_scale (N := A') (D := B') hB, h, Nat.mul_comm B B']
theorem cut_even (neg : Bool) (n drop : Nat) : Ieee.Toward.even.cut neg n drop = rq n (2 ^ drop) := by
  unfold Ieee.Toward.cut
  have hlt : n < 2 ^ (n.log2 + 1) := Nat.lt_log2_self
  rw [Nat.one_shiftLeft]
  have key : ∀ g, (n / g + (decide (g < 2 * (n % g)) || (g == 2 * (n % g) && n / g % 2 == 1)).toNat) = rq n g := by
    intro g
    unfold rq
    congr 1
    by_cases h1 : g < 2 * (n % g)
    · simp [h1]
    · by_cases h2 : 2 * (n % g) = g
      · by_cases h3 : n / g % 2 = 1
        · simp [h2, h3]
        · simp [h2, h3]
      · have h2' : ¬ g = 2 * (n % g) := fun e => h2 e.symm
        simp [h1, h2, h2']
  by_cases hd : drop ≤ n.log2 + 2
  · rw [Nat.min_eq_left hd]
    exact key _
  · rw [Nat.min_eq_right (by omega)]
    have k1 := key (2 ^ (n.log2 + 2))
    have small : ∀ j, n.log2 + 2 ≤ j → rq n (2 ^ j) = 0 := by
      intro j hj
      have h2 : 2 ^ (n.log2 + 2) ≤ 2 ^ j := Nat.pow_le_pow_right (by omega) hj
      have h3 : 2 ^ (n.log2 + 2) = 2 * 2 ^ (n.log2 + 1) := by rw [Nat.pow_succ]; omega
      unfold rq
      rw [Nat.div_eq_of_lt (by omega), Nat.mod_eq_of_lt (by omega), if_neg (by omega)]
    rw [small drop (by omega)]
    rw [small _ (Nat.le_refl _)] at k1
    exact k1
theorem nearest_rnd {mag : Nat} {place : Int} (hm : mag ≠ 0) {A B : Nat} (hAB : (A : Int) - B = place + 1074) :
    IsRnd (mag * 2 ^ A) (2 ^ B) (Ieee.double.nearest false mag place) := by
  have hlo : 2 ^ mag.log2 ≤ mag := Nat.log2_self_le hm
  have hhi : mag < 2 ^ (mag.log2 + 1) := Nat.lt_log2_self
  unfold Ieee.Format.nearest
  rw [if_neg hm]
  have lp : Ieee.double.leastPlace = -1074 := by decide
  have fb : (Ieee.double.fractionBits : Int) = 52 := rfl
  have bn : Ieee.double.binade = 4503599627370496 := by decide
  have ir : Ieee.double.infRung = infW := by decide
  simp only [lp, fb, bn, ir]
  generalize hlast : max (place + (mag.log2 : Int) - 52) (-1074) = last
  rw [cut_even, Nat.shiftLeft_eq]
  unfold Ieee.Format.word
  simp only [Bool.false_eq_true, if_false]
  have p : ∀ x : Nat, 0 < 2 ^ x := fun x => Nat.pow_pos (by omega)
  obtain ⟨k, hk⟩ : ∃ k : Nat, (k : Int) = last + 1074 := ⟨(last + 1074).toNat, by omega⟩
  refine ⟨k, ?_, ?_, ?_⟩
  · -- mag * 2^A < 2^B * 2^(53+k)
    have h1 : mag * 2 ^ A < 2 ^ (mag.log2 + 1) * 2 ^ A := Nat.mul_lt_mul_of_pos_right hhi (p A)
    refine Nat.lt_of_lt_of_le h1 ?_
    rw [← Nat.pow_add, ← Nat.pow_add]
    exact Nat.pow_le_pow_right (by omega) (by omega)
  · by_cases h0 : k = 0
    · left; exact h0
    · right
      have h1 : 2 ^ mag.log2 * 2 ^ A ≤ mag * 2 ^ A := Nat.mul_le_mul_right _ hlo
      refine Nat.le_trans ?_ h1
      rw [← Nat.pow_add, ← Nat.pow_add]
      exact Nat.pow_le_pow_right (by omega) (by omega)
  · have e1 : (last - -1074).toNat = k := by omega
    rw [e1]
    have e2 : rq (mag * 2 ^ (place - last).toNat) (2 ^ (last - place).toNat) = rq (mag * 2 ^ A) (2 ^ B * 2 ^ k) := by
      refine rq_ratio (p _) (Nat.mul_pos (p _) (p _)) ?_
      rw [Nat.mul_assoc, Nat.mul_assoc, ← Nat.pow_add, ← Nat.pow_add, ← Nat.pow_add]
      congr 2
      omega
    rw [e2]
end Go.Proofs.YtmndipnifjpdjaaGreatDoor
namespace Go.Proofs.YtmndipnifjpdjaaGreatDoor
theorem rq_unr {A B t : Nat} (hB : 0 < B) (ht : 2 ≤ t) : rq (unr A B) (2 ^ t) = rq A (B * 2 ^ t) := by
  obtain ⟨h, hh⟩ : ∃ h, 2 ^ t = 4 * h := ⟨2 ^ (t - 2), by
    have : t = 2 + (t - 2) := by omega
    conv => lhs; rw [this, Nat.pow_add]⟩
  rw [hh]
  have hpos : 0 < h := by
    rcases Nat.eq_zero_or_pos h with e | e
    · subst e; have := Nat.pow_pos (n := t) (show 0 < 2 by omega); omega
    · exact e
  have hBh : 0 < B * (4 * h) := Nat.mul_pos hB (by omega)
  have d1 := Nat.div_add_mod A (B * (4 * h))
  have d2 := Nat.mod_lt A hBh
  unfold rq
  generalize A / (B * (4 * h)) = q at *
  generalize A % (B * (4 * h)) = r at *
  have d3 := Nat.div_add_mod r B
  have d4 := Nat.mod_lt r hB
  generalize hy : r / B = y at *
  generalize hz : r % B = z at *
  have hy4 : y < 4 * h := by rw [← hy, Nat.div_lt_iff_lt_mul hB, Nat.mul_comm]; exact d2
  have hA : A = B * (4 * h * q + y) + z := by rw [← d1, ← d3, Nat.mul_add, ← Nat.mul_assoc B (4 * h) q]; omega
  have e1 : A / B = 4 * h * q + y := by rw [hA, Nat.mul_add_div hB, Nat.div_eq_of_lt d4]; omega
  have e2 : A % B = z := by rw [hA, Nat.mul_add_mod, Nat.mod_eq_of_lt d4]
  have hu : unr A B = 4 * h * q + (if z = 0 then y else y / 2 * 2 + 1) := by
    rw [unr_val, e1, e2]
    have e4 : 4 * h * q = 2 * (2 * h * q) := by grind
    rw [e4]
    split
    · rfl
    · omega
  rw [hu]
  generalize hρ : (if z = 0 then y else y / 2 * 2 + 1) = ρ
  have hρ4 : ρ < 4 * h := by rw [← hρ]; split <;> omega
  have f1 : (4 * h * q + ρ) / (4 * h) = q := by rw [Nat.mul_add_div (by omega), Nat.div_eq_of_lt hρ4]; omega
  have f2 : (4 * h * q + ρ) % (4 * h) = ρ := by rw [Nat.mul_add_mod, Nat.mod_eq_of_lt hρ4]
  rw [f1, f2]
  -- compare twice the rests
  have bh : B * (4 * h) = 2 * (B * (2 * h)) := by grind
  have cmpy : ∀ c, (B * c ≤ r ↔ c ≤ y) := by
    intro c
    rw [← hy, Nat.le_div_iff_mul_le hB, Nat.mul_comm]
  have c1 := cmpy (2 * h)
  have c2 := cmpy (2 * h + 1)
  have m1 : B * (2 * h + 1) = B * (2 * h) + B := by rw [Nat.mul_add, Nat.mul_one]
  rw [m1] at c2
  rw [bh]
  have hzz : z = 0 ↔ r = B * y := by omega
  congr 1
  by_cases hlt : y < 2 * h
  · have : ¬ B * (2 * h) ≤ r := fun e => by have := c1.1 e; omega
    rw [if_neg (by rw [← hρ]; split <;> omega), if_neg (by omega)]
  · have hge : B * (2 * h) ≤ r := c1.2 (by omega)
    by_cases heq : y = 2 * h
    · by_cases hz0 : z = 0
      · have hr : r = B * (2 * h) := by rw [hzz.1 hz0, heq]
        rw [if_pos hz0] at hρ
        have a1 : (4 * h < 2 * ρ ∨ 2 * ρ = 4 * h ∧ q % 2 = 1) ↔ (2 * (B * (2 * h)) < 2 * r ∨ 2 * r = 2 * (B * (2 * h)) ∧ q % 2 = 1) := by omega
        simp only [a1]
      · rw [if_neg hz0] at hρ
        have hr : B * (2 * h) < r := by
          rcases Nat.lt_or_eq_of_le hge with e | e
          · exact e
          · exact absurd (hzz.2 (by rw [← e, heq])) hz0
        rw [if_pos (by omega), if_pos (by omega)]
    · have hr : B * (2 * h) < r := by
        have := c2.2 (by omega)
        omega
      rw [if_pos (by rw [← hρ]; split <;> omega), if_pos (by omega)]
end Go.Proofs.YtmndipnifjpdjaaGreatDoor
namespace Go.Proofs.YtmndipnifjpdjaaGreatDoor
theorem pow_lt_shift {m n a b a' b' : Nat} (h : m * 2 ^ a < n * 2 ^ b) (hh : b + a' ≤ b' + a) : m * 2 ^ a' < n * 2 ^ b' := by
  have p : ∀ x : Nat, 0 < 2 ^ x := fun x => Nat.pow_pos (by omega)
  have h1 : m * 2 ^ a * 2 ^ a' < n * 2 ^ b * 2 ^ a' := Nat.mul_lt_mul_of_pos_right h (p a')
  have h2 : n * 2 ^ b * 2 ^ a' ≤ n * 2 ^ b' * 2 ^ a := by
    rw [Nat.mul_assoc, Nat.mul_assoc, ← Nat.pow_add, ← Nat.pow_add]
    exact Nat.mul_le_mul_left _ (Nat.pow_le_pow_right (by omega) hh)
  have h3 : m * 2 ^ a * 2 ^ a' = m * 2 ^ a' * 2 ^ a := by rw [Nat.mul_right_comm]
  rw [h3] at h1
  exact Nat.lt_of_mul_lt_mul_right (Nat.lt_of_lt_of_le h1 h2)
theorem pow_le_shift {m n a b a' b' : Nat} (h : n * 2 ^ b ≤ m * 2 ^ a) (hh : b' + a ≤ b + a') : n * 2 ^ b' ≤ m * 2 ^ a' := by
  have p : ∀ x : Nat, 0 < 2 ^ x := fun x => Nat.pow_pos (by omega)
  have h1 : n * 2 ^ b * 2 ^ a' ≤ m * 2 ^ a * 2 ^ a' := Nat.mul_le_mul_right _ h
  have h2 : n * 2 ^ b' * 2 ^ a ≤ n * 2 ^ b * 2 ^ a' := by
    rw [Nat.mul_assoc, Nat.mul_assoc, ← Nat.pow_add, ← Nat.pow_add]
    exact Nat.mul_le_mul_left _ (Nat.pow_le_pow_right (by omega) hh)
  have h3 : m * 2 ^ a * 2 ^ a' = m * 2 ^ a' * 2 ^ a := by rw [Nat.mul_right_comm]
  rw [h3] at h1
  exact Nat.le_of_mul_le_mul_right (Nat.le_trans h2 h1) (p a)
theorem unr_two {x n : Nat} (hn : 0 < n) : 2 * (x / n) + (x % n != 0).toNat = unr (2 * x) n := by
  have h1 := Nat.div_add_mod x n
  have h2 := Nat.mod_lt x hn
  generalize x / n = q at *
  generalize x % n = r at *
  have e : 2 * x = n * (2 * q) + 2 * r := by rw [← h1]; grind
  rw [unr_val]
  by_cases hr : r = 0
  · subst hr
    have e1 : 2 * x % n = 0 := by rw [e]; simp
    have e2 : 2 * x / n = 2 * q := by rw [e]; simp [Nat.mul_div_cancel_left _ hn]
    rw [if_pos e1, e2]; rfl
  · have hb : (r != 0).toNat = 1 := by simp [hr]
    rw [hb]
    by_cases hlt : 2 * r < n
    · have e2 : 2 * x / n = 2 * q := by rw [e, Nat.mul_add_div hn, Nat.div_eq_of_lt hlt, Nat.add_zero]
      have e1 : 2 * x % n = 2 * r := by rw [e, Nat.mul_add_mod, Nat.mod_eq_of_lt hlt]
      rw [e1, if_neg (by omega), e2]; omega
    · have e3 : 2 * x = n * (2 * q + 1) + (2 * r - n) := by rw [e, Nat.mul_add n, Nat.mul_one]; omega
      have e2 : 2 * x / n = 2 * q + 1 := by rw [e3, Nat.mul_add_div hn, Nat.div_eq_of_lt (by omega)]
      rw [e2]
      split <;> omega
theorem quot_rnd {m n : Nat} {i j : Int} (hm : m ≠ 0) (hn : n ≠ 0) {A B : Nat} (hAB : (A : Int) - B = i - j + 1074) {D : Ieee.Datum}
    (hD : Ieee.Datum.quotient 54 (.number false m i) (.number false n j) = some D) : IsRnd (m * 2 ^ A) (n * 2 ^ B) (Ieee.double.write D) := by
  have p : ∀ x : Nat, 0 < 2 ^ x := fun x => Nat.pow_pos (by omega)
  have hn0 : 0 < n := Nat.pos_of_ne_zero hn
  unfold Ieee.Datum.quotient at hD
  simp only [hn, if_false, Bool.false_bne] at hD
  have hD' := Option.some.inj hD
  subst hD'
  generalize hmo : 54 + n.log2 - m.log2 = more at *
  rw [Nat.shiftLeft_eq, unr_two hn0]
  have hmlo : 2 ^ m.log2 ≤ m := Nat.log2_self_le hm
  have hnhi : n < 2 ^ (n.log2 + 1) := Nat.lt_log2_self
  -- the unrounded quotient
  have e9 : m * 2 ^ (more + 1) = 2 * (m * 2 ^ more) := by rw [Nat.pow_succ]; grind
  have hfl : 2 ^ 54 ≤ 2 * (m * 2 ^ more) / n := by
    rw [Nat.le_div_iff_mul_le hn0]
    have h1 : 2 ^ 54 * n ≤ 2 ^ 54 * 2 ^ (n.log2 + 1) := Nat.mul_le_mul_left _ (Nat.le_of_lt hnhi)
    have h2 : 2 ^ m.log2 * 2 ^ more ≤ m * 2 ^ more := Nat.mul_le_mul_right _ hmlo
    have h3 : 2 ^ 54 * 2 ^ (n.log2 + 1) ≤ 2 * (2 ^ m.log2 * 2 ^ more) := by
      have : 2 * (2 ^ m.log2 * 2 ^ more) = 2 ^ (1 + (m.log2 + more)) := by rw [Nat.pow_add, Nat.pow_add]
      rw [this, ← Nat.pow_add]
      exact Nat.pow_le_pow_right (by omega) (by omega)
    omega
  have hdm := Nat.div_add_mod (2 * (m * 2 ^ more)) n
  have hml := Nat.mod_lt (2 * (m * 2 ^ more)) hn0
  have huge : 2 * (m * 2 ^ more) / n ≤ unr (2 * (m * 2 ^ more)) n := by rw [unr_val]; split <;> omega
  have hmag : unr (2 * (m * 2 ^ more)) n ≠ 0 := by have := p 54; omega
  have hL1 : 2 ^ (unr (2 * (m * 2 ^ more)) n).log2 ≤ unr (2 * (m * 2 ^ more)) n := Nat.log2_self_le hmag
  have hL2 : unr (2 * (m * 2 ^ more)) n < 2 ^ ((unr (2 * (m * 2 ^ more)) n).log2 + 1) := Nat.lt_log2_self
  have hL3 : 54 ≤ (unr (2 * (m * 2 ^ more)) n).log2 := (Nat.le_log2 hmag).2 (Nat.le_trans hfl huge)
  have hlow : n * 2 ^ (unr (2 * (m * 2 ^ more)) n).log2 ≤ m * 2 ^ (more + 1) := by
    have hev : ∃ g, 2 ^ (unr (2 * (m * 2 ^ more)) n).log2 = 2 * g := ⟨2 ^ ((unr (2 * (m * 2 ^ more)) n).log2 - 1), by rw [← Nat.pow_succ']; congr 1; omega⟩
    obtain ⟨g, hg⟩ := hev
    have hfl2 : 2 ^ (unr (2 * (m * 2 ^ more)) n).log2 ≤ 2 * (m * 2 ^ more) / n := by
      have hv := unr_val (2 * (m * 2 ^ more)) n
      rw [hg] at hL1 ⊢
      split at hv <;> omega
    have h5 := (Nat.le_div_iff_mul_le hn0).1 hfl2
    rw [Nat.mul_comm] at h5
    rw [e9]
    exact h5
  have hhigh : m * 2 ^ (more + 1) < n * 2 ^ ((unr (2 * (m * 2 ^ more)) n).log2 + 1) := by
    have h6 : 2 * (m * 2 ^ more) < n * (2 * (m * 2 ^ more) / n + 1) := by rw [Nat.mul_add, Nat.mul_one]; omega
    have h7 : n * (2 * (m * 2 ^ more) / n + 1) ≤ n * 2 ^ ((unr (2 * (m * 2 ^ more)) n).log2 + 1) := Nat.mul_le_mul_left _ (by omega)
    rw [e9]
    exact Nat.lt_of_lt_of_le h6 h7
  have hrq := fun t (ht : 2 ≤ t) => rq_unr (A := 2 * (m * 2 ^ more)) (B := n) (t := t) hn0 ht
  generalize unr (2 * (m * 2 ^ more)) n = U at *
  show IsRnd (m * 2 ^ A) (n * 2 ^ B) (Ieee.double.nearest false U (i - j - more - 1))
  unfold Ieee.Format.nearest
  rw [if_neg hmag]
  have lp : Ieee.double.leastPlace = -1074 := by decide
  have fb : (Ieee.double.fractionBits : Int) = 52 := rfl
  have bn : Ieee.double.binade = 4503599627370496 := by decide
  have ir : Ieee.double.infRung = infW := by decide
  simp only [lp, fb, bn, ir]
  generalize hlast : max (i - j - (more : Int) - 1 + (U.log2 : Int) - 52) (-1074) = last
  rw [cut_even, Nat.shiftLeft_eq]
  unfold Ieee.Format.word
  simp only [Bool.false_eq_true, if_false]
  obtain ⟨k, hk⟩ : ∃ k : Nat, (k : Int) = last + 1074 := ⟨(last + 1074).toNat, by omega⟩
  have e0 : (i - j - (more : Int) - 1 - last).toNat = 0 := by omega
  have e1 : (last - -1074).toNat = k := by omega
  rw [e0, e1, Nat.pow_zero, Nat.mul_one, hrq _ (by omega)]
  refine ⟨k, ?_, ?_, ?_⟩
  · rw [Nat.mul_assoc, ← Nat.pow_add]
    exact pow_lt_shift hhigh (by omega)
  · by_cases h0 : k = 0
    · left; exact h0
    · right
      rw [Nat.mul_assoc, ← Nat.pow_add]
      exact pow_le_shift hlow (by omega)
  · congr 2
    refine rq_ratio (Nat.mul_pos hn0 (p _)) (Nat.mul_pos (Nat.mul_pos hn0 (p _)) (p _)) ?_
    have e2 : 2 * (m * 2 ^ more) * (n * 2 ^ B * 2 ^ k) = m * n * 2 ^ (1 + more + B + k) := by
      rw [Nat.pow_add, Nat.pow_add, Nat.pow_add]; grind
    have e3 : m * 2 ^ A * (n * 2 ^ (last - (i - j - (more : Int) - 1)).toNat) = m * n * 2 ^ (A + (last - (i - j - (more : Int) - 1)).toNat) := by
      rw [Nat.pow_add]; grind
    rw [e2, e3]
    congr 2
    omega
end Go.Proofs.YtmndipnifjpdjaaGreatDoor
namespace Go.Proofs.YtmndipnifjpdjaaGreatDoor
theorem dbl_lp : Ieee.double.leastPlace = -1074 := by decide
theorem dbl_bn : Ieee.double.binade = 4503599627370496 := by decide
theorem dbl_ir : Ieee.double.infRung = infW := by decide
theorem dbl_sw : Ieee.double.signWeight = 9223372036854775808 := by decide
theorem read_word {k q : Nat} (hq : q < 9007199254740992) (hk : k = 0 ∨ 4503599627370496 ≤ q) (hw : k * 4503599627370496 + q < infW) :
    Ieee.double.read (k * 4503599627370496 + q) = .number false q ((k : Int) - 1074) := by
  unfold Ieee.Format.read
  rw [dbl_sw, dbl_bn, dbl_ir, dbl_lp]
  unfold infW at hw ⊢
  have h1 : (k * 4503599627370496 + q) % 9223372036854775808 = k * 4503599627370496 + q := Nat.mod_eq_of_lt (by omega)
  have h2 : (k * 4503599627370496 + q) / 9223372036854775808 = 0 := Nat.div_eq_of_lt (by omega)
  simp only [h1, h2]
  by_cases hs : k * 4503599627370496 + q < 4503599627370496
  · rw [if_pos hs]
    have hk0 : k = 0 := by omega
    subst hk0
    simp
  · rw [if_neg hs, if_pos hw]
    have e1 : (k * 4503599627370496 + q) / 4503599627370496 = k + q / 4503599627370496 := by
      rw [Nat.add_comm, Nat.add_mul_div_right _ _ (by omega), Nat.add_comm]
    have e2 : (k * 4503599627370496 + q) % 4503599627370496 = q % 4503599627370496 := by
      rw [Nat.add_comm, Nat.add_mul_mod_self_right]
    have e3 : q / 4503599627370496 = 1 := by omega
    have e4 : 4503599627370496 + q % 4503599627370496 = q := by omega
    rw [e1, e2, e3, e4]
    simp
    omega
theorem read_int {d : Nat} (h0 : d ≠ 0) (h : d < 9007199254740992) : ∃ (q g : Nat), Ieee.double.read (Ieee.double.nearest false d 0) = .number false q (-(g : Int)) ∧ q = d * 2 ^ g ∧ g ≤ 52 := by
  have hlo : 2 ^ d.log2 ≤ d := Nat.log2_self_le h0
  have hhi : d < 2 ^ (d.log2 + 1) := Nat.lt_log2_self
  have hL : d.log2 ≤ 52 := by
    have : 2 ^ d.log2 < 2 ^ 53 := Nat.lt_of_le_of_lt hlo h
    have := (Nat.pow_lt_pow_iff_right (by omega)).1 this
    omega
  have hnear : Ieee.double.nearest false d 0 = (1022 + d.log2) * 4503599627370496 + d * 2 ^ (52 - d.log2) := by
    unfold Ieee.Format.nearest
    rw [if_neg h0]
    have fb : (Ieee.double.fractionBits : Int) = 52 := rfl
    simp only [dbl_lp, fb, dbl_bn, dbl_ir]
    have hlast : max ((0 : Int) + (d.log2 : Int) - 52) (-1074) = (d.log2 : Int) - 52 := by omega
    rw [hlast, cut_even, Nat.shiftLeft_eq]
    unfold Ieee.Format.word
    simp only [Bool.false_eq_true, if_false]
    have e1 : ((d.log2 : Int) - 52 - -1074).toNat = 1022 + d.log2 := by omega
    have e2 : ((0 : Int) - ((d.log2 : Int) - 52)).toNat = 52 - d.log2 := by omega
    have e3 : ((d.log2 : Int) - 52 - 0).toNat = 0 := by omega
    rw [e1, e2, e3]
    have e4 : rq (d * 2 ^ (52 - d.log2)) (2 ^ 0) = d * 2 ^ (52 - d.log2) := by
      unfold rq
      rw [Nat.pow_zero, Nat.div_one, Nat.mod_one]
      simp
    rw [e4]
    have hb : d * 2 ^ (52 - d.log2) < 9007199254740992 := by
      have : d * 2 ^ (52 - d.log2) < 2 ^ (d.log2 + 1) * 2 ^ (52 - d.log2) := Nat.mul_lt_mul_of_pos_right hhi (Nat.pow_pos (by omega))
      rw [← Nat.pow_add, show d.log2 + 1 + (52 - d.log2) = 53 by omega] at this
      exact this
    rw [Nat.min_eq_left (by unfold infW; omega)]
  have hb : d * 2 ^ (52 - d.log2) < 9007199254740992 := by
    have : d * 2 ^ (52 - d.log2) < 2 ^ (d.log2 + 1) * 2 ^ (52 - d.log2) := Nat.mul_lt_mul_of_pos_right hhi (Nat.pow_pos (by omega))
    rw [← Nat.pow_add, show d.log2 + 1 + (52 - d.log2) = 53 by omega] at this
    exact this
  have hb2 : 4503599627370496 ≤ d * 2 ^ (52 - d.log2) := by
    have : 2 ^ d.log2 * 2 ^ (52 - d.log2) ≤ d * 2 ^ (52 - d.log2) := Nat.mul_le_mul_right _ hlo
    rw [← Nat.pow_add, show d.log2 + (52 - d.log2) = 52 by omega] at this
    exact this
  rw [hnear]
  refine ⟨d * 2 ^ (52 - d.log2), 52 - d.log2, ?_, rfl, by omega⟩
  rw [read_word hb (.inr hb2) (by unfold infW; omega)]
  congr 1
  omega
theorem mul_rnd {x y q1 q2 : Nat} {i1 i2 : Int} (hx : Ieee.double.read x = .number false q1 i1) (hy : Ieee.double.read y = .number false q2 i2) (h1 : q1 ≠ 0) (h2 : q2 ≠ 0) {A B : Nat} (hAB : (A : Int) - B = i1 + i2 + 1074) :
    ∃ r, Ieee.double.mul x y = some r ∧ IsRnd (q1 * q2 * 2 ^ A) (2 ^ B) r := by
  unfold Ieee.Format.mul
  rw [hx, hy]
  refine ⟨_, rfl, ?_⟩
  show IsRnd (q1 * q2 * 2 ^ A) (2 ^ B) (Ieee.double.nearest (false ^^ false) (q1 * q2) (i1 + i2))
  exact nearest_rnd (Nat.mul_ne_zero h1 h2) hAB
theorem div_rnd {x y q1 q2 : Nat} {i1 i2 : Int} (hx : Ieee.double.read x = .number false q1 i1) (hy : Ieee.double.read y = .number false q2 i2) (h1 : q1 ≠ 0) (h2 : q2 ≠ 0) {A B : Nat} (hAB : (A : Int) - B = i1 - i2 + 1074) :
    ∃ r, Ieee.double.div x y = some r ∧ IsRnd (q1 * 2 ^ A) (q2 * 2 ^ B) r := by
  unfold Ieee.Format.div
  rw [hx, hy]
  have hq : ∃ D, Ieee.Datum.quotient 54 (.number false q1 i1) (.number false q2 i2) = some D := by
    unfold Ieee.Datum.quotient
    simp only [h2, if_false]
    exact ⟨_, rfl⟩
  obtain ⟨D, hD⟩ := hq
  refine ⟨Ieee.double.write D, ?_, quot_rnd h1 h2 hAB hD⟩
  have : Ieee.double.fractionBits + 2 = 54 := rfl
  rw [this, hD]
  rfl
end Go.Proofs.YtmndipnifjpdjaaGreatDoor
namespace Go.Proofs.YtmndipnifjpdjaaGreatDoor
def IsWhole (x v : Nat) : Prop := ∃ (q : Nat) (i : Int), Ieee.double.read x = .number false q i ∧ -60 ≤ i ∧ i ≤ 60 ∧ q * 2 ^ (i + 60).toNat = v * 2 ^ 60 ∧ q ≠ 0
theorem whole_int {d : Nat} (h0 : d ≠ 0) (h : d < 9007199254740992) : IsWhole (Ieee.double.nearest false d 0) d := by
  obtain ⟨q, g, hr, hq, hg⟩ := read_int h0 h
  refine ⟨q, -(g : Int), hr, by omega, by omega, ?_, ?_⟩
  · rw [hq, Nat.mul_assoc, ← Nat.pow_add]
    congr 2
    omega
  · rw [hq]; exact Nat.mul_ne_zero h0 (Nat.pos_iff_ne_zero.1 (Nat.pow_pos (by omega)))
def pow10Words : List Nat := [4607182418800017408, 4621819117588971520, 4636737291354636288, 4652007308841189376, 4666723172467343360, 4681608360884174848, 4696837146684686336, 4711630319722168320, 4726483295884279808, 4741671816366391296, 4756540486875873280, 4771362005757984768, 4786511204640096256, 4801453603149578240, 4816244402031689728, 4831355200913801216, 4846369599423283200, 4861130398305394688, 4876203697187506176, 4891288408196988160, 4906019910204099648, 4921056587992461136, 4936209963552724370]
def wholeB (x v : Nat) : Bool := match Ieee.double.read x with
  | .number false q i => decide (-60 ≤ i ∧ i ≤ 60 ∧ q * 2 ^ (i + 60).toNat = v * 2 ^ 60 ∧ q ≠ 0)
  | _ => false
theorem wholeB_ok {x v : Nat} (h : wholeB x v = true) : IsWhole x v := by
  unfold wholeB at h
  split at h
  · rename_i q i hr
    have := of_decide_eq_true h
    exact ⟨q, i, hr, this.1, this.2.1, this.2.2.1, this.2.2.2⟩
  · cases h
theorem pow10_whole : ∀ k : Fin 23, wholeB (pow10Words.getD k.val 0) (10 ^ k.val) = true := by decide +kernel
theorem whole_mul {x y v u : Nat} (hx : IsWhole x v) (hy : IsWhole y u) {c : Nat} (hc : c = 1074) : ∃ r, Ieee.double.mul x y = some r ∧ IsRnd (v * u * 2 ^ c) 1 r := by
  obtain ⟨q1, i1, r1, a1, b1, e1, n1⟩ := hx
  obtain ⟨q2, i2, r2, a2, b2, e2, n2⟩ := hy
  obtain ⟨r, hr, hrnd⟩ := mul_rnd r1 r2 n1 n2 (A := (i1 + i2 + 1074).toNat) (B := 0) (by omega)
  refine ⟨r, hr, ?_⟩
  rw [Nat.pow_zero] at hrnd
  have e : q1 * q2 * 2 ^ (i1 + i2 + 1074).toNat = v * u * 2 ^ c := by
    obtain ⟨n9, h9⟩ : ∃ n9 : Nat, n9 = 954 := ⟨_, rfl⟩
    have h1 : (i1 + i2 + 1074).toNat = (i1 + 60).toNat + (i2 + 60).toNat + n9 := by omega
    have h2 : c = 60 + 60 + n9 := by omega
    clear h9 hrnd hc
    subst h2
    rw [h1, Nat.pow_add, Nat.pow_add, Nat.pow_add (2 : Nat) (60 + 60), Nat.pow_add]
    generalize 2 ^ n9 = z
    calc q1 * q2 * (2 ^ (i1 + 60).toNat * 2 ^ (i2 + 60).toNat * z) = (q1 * 2 ^ (i1 + 60).toNat) * (q2 * 2 ^ (i2 + 60).toNat) * z := by grind
      _ = (v * 2 ^ 60) * (u * 2 ^ 60) * z := by rw [e1, e2]
      _ = _ := by grind
  rw [e] at hrnd
  exact hrnd
theorem whole_div {x y v u : Nat} (hx : IsWhole x v) (hy : IsWhole y u) {c : Nat} (hc : c = 1074) : ∃ r, Ieee.double.div x y = some r ∧ IsRnd (v * 2 ^ c) u r := by
  obtain ⟨q1, i1, r1, a1, b1, e1, n1⟩ := hx
  obtain ⟨q2, i2, r2, a2, b2, e2, n2⟩ := hy
  obtain ⟨r, hr, hrnd⟩ := div_rnd r1 r2 n1 n2 (A := (i1 - i2 + 1074).toNat) (B := 0) (by omega)
  refine ⟨r, hr, ?_⟩
  rw [Nat.pow_zero, Nat.mul_one] at hrnd
  -- scale both sides by 2^(i2 + 60)
  rw [← IsRnd.scale (c := 2 ^ (i2 + 60).toNat) (Nat.pow_pos (by omega)), e2] at hrnd
  have e : q1 * 2 ^ (i1 - i2 + 1074).toNat * 2 ^ (i2 + 60).toNat = v * 2 ^ c * 2 ^ 60 := by
    have h1 : (i1 - i2 + 1074).toNat + (i2 + 60).toNat = (i1 + 60).toNat + c := by omega
    clear hc hrnd
    rw [Nat.mul_assoc, ← Nat.pow_add, h1, Nat.pow_add, ← Nat.mul_assoc, e1]
    generalize 2 ^ c = z
    grind
  rw [e] at hrnd
  exact (IsRnd.scale (Nat.pow_pos (by omega))).1 hrnd
end Go.Proofs.YtmndipnifjpdjaaGreatDoor
namespace Go.Proofs.YtmndipnifjpdjaaGreatDoor
open Go Go.RowKit
set_option linter.unusedVariables false
set_option maxRecDepth 100000 in
set_option maxHeartbeats 800000 in
theorem exact_big (d : Nat) (z p : Int) (w : World) (hz : Hid (z = (d : Int))) (h0 : 0 ≤ z) (h1 : z < 18446744073709551616) (hbig : 4503599627370496 ≤ z) (m0 : w.cell? ⟨13, 0, none⟩ = some (.int .u64 52)) :
    Calls Tryz.prog 284 #[.int .u64 z, .int .i64 p, .bool false] w fun r w' => r = .returned (.tuple #[.float .f64 0, .bool false]) ∧ w' = w := by
  have hne : (z / 4503599627370496 != 0) = true := by rw [bne_iff_ne]; omega
  go_enter Tryz.func284, Tryz.ntmps284
  go_wp2
  go_ret2
  exact ⟨rfl, rfl⟩
set_option maxRecDepth 100000 in
set_option maxHeartbeats 800000 in
theorem exact_zero (d f : Nat) (z : Int) (w : World) (hz : Hid (z = (d : Int))) (h0 : 0 ≤ z) (hs : z < 4503599627370496) (m0 : w.cell? ⟨13, 0, none⟩ = some (.int .u64 52)) (hf : floatOfInt .f64 z = f) :
    Calls Tryz.prog 284 #[.int .u64 z, .int .i64 0, .bool false] w fun r w' => r = .returned (.tuple #[.float .f64 f, .bool true]) ∧ w' = w := by
  have hne : (z / 4503599627370496 != 0) = false := by rw [bne_eq_false_iff_eq]; omega
  go_enter Tryz.func284, Tryz.ntmps284
  go_wp2
  go_ret2
  exact ⟨rfl, rfl⟩
set_option maxRecDepth 100000 in
set_option maxHeartbeats 800000 in
theorem exact_neg (d f g r k G o : Nat) (z : Int) (w : World) (hz : Hid (z = (d : Int))) (h0 : 0 ≤ z) (hs : z < 4503599627370496) (m0 : w.cell? ⟨13, 0, none⟩ = some (.int .u64 52)) (hf : floatOfInt .f64 z = f)
    (k1 : 1 ≤ k) (k2 : k ≤ 22) (sl : w.cell? ⟨18, 0, none⟩ = some (.slice (some ⟨G, o, none⟩) 23 23)) (tb : w.cell? ⟨G, o + k, none⟩ = some (.float .f64 g)) (hq : floatBits .quo .f64 f g = some r) :
    Calls Tryz.prog 284 #[.int .u64 z, .int .i64 (-(k : Int)), .bool false] w fun e w' => e = .returned (.tuple #[.float .f64 r, .bool true]) ∧ w' = w := by
  have hne : (z / 4503599627370496 != 0) = false := by rw [bne_eq_false_iff_eq]; omega
  have hk0 : (-(k : Int) == 0) = false := by rw [beq_eq_false_iff_ne]; omega
  have hd := fun (w : World) => run_float_arith (P := Tryz.prog) w .quo 107 .f64 f g r hq
  clear hq
  go_enter Tryz.func284, Tryz.ntmps284
  go_wp2
  go_ret2
  exact ⟨rfl, rfl⟩
def OkIs (r : Nat) (e : Ending) : Prop := ∃ f ok, e = .returned (.tuple #[.float .f64 f, .bool ok]) ∧ (ok = true → f = r)
theorem okIs_no {r : Nat} {e : Ending} (f : Nat) (h : e = .returned (.tuple #[.float .f64 f, .bool false])) : OkIs r e := ⟨f, false, h, fun h => by cases h⟩
theorem okIs_yes {r : Nat} {e : Ending} (h : e = .returned (.tuple #[.float .f64 r, .bool true])) : OkIs r e := ⟨r, true, h, fun _ => rfl⟩
set_option maxRecDepth 100000 in
set_option maxHeartbeats 800000 in
theorem exact_pos (d f g r k G o : Nat) (z : Int) (w : World) (hz : Hid (z = (d : Int))) (h0 : 0 ≤ z) (hs : z < 4503599627370496) (m0 : w.cell? ⟨13, 0, none⟩ = some (.int .u64 52)) (hf : floatOfInt .f64 z = f)
    (k1 : 1 ≤ k) (k2 : k ≤ 22) (sl : w.cell? ⟨18, 0, none⟩ = some (.slice (some ⟨G, o, none⟩) 23 23)) (tb : w.cell? ⟨G, o + k, none⟩ = some (.float .f64 g)) (hq : floatBits .mul .f64 f g = some r) :
    Calls Tryz.prog 284 #[.int .u64 z, .int .i64 (k : Int), .bool false] w fun e w' => OkIs r e ∧ w' = w := by
  have hne : (z / 4503599627370496 != 0) = false := by rw [bne_eq_false_iff_eq]; omega
  have hk0 : ((k : Int) == 0) = false := by rw [beq_eq_false_iff_ne]; omega
  have hd := fun (w : World) => run_float_arith (P := Tryz.prog) w .mul 107 .f64 f g r hq
  clear hq
  go_enter Tryz.func284, Tryz.ntmps284
  go_wp2
  all_goals go_ret2
  all_goals first
    | exact ⟨okIs_no f rfl, rfl⟩
    | exact ⟨okIs_yes rfl, rfl⟩
set_option maxRecDepth 100000 in
set_option maxHeartbeats 1600000 in
theorem exact_far_no (d f g1 r1 k G o : Nat) (z : Int) (w : World) (hz : Hid (z = (d : Int))) (h0 : 0 ≤ z) (hs : z < 4503599627370496) (m0 : w.cell? ⟨13, 0, none⟩ = some (.int .u64 52)) (hf : floatOfInt .f64 z = f)
    (k1 : 23 ≤ k) (k2 : k ≤ 37) (sl : w.cell? ⟨18, 0, none⟩ = some (.slice (some ⟨G, o, none⟩) 23 23)) (tb1 : w.cell? ⟨G, o + (k - 22), none⟩ = some (.float .f64 g1))
    (hq1 : floatBits .mul .f64 f g1 = some r1) (ho : FloatKind.f64.format.order r1 4831355200913801216 = some .gt) :
    Calls Tryz.prog 284 #[.int .u64 z, .int .i64 (k : Int), .bool false] w fun e w' => e = .returned (.tuple #[.float .f64 r1, .bool false]) ∧ w' = w := by
  have hne : (z / 4503599627370496 != 0) = false := by rw [bne_eq_false_iff_eq]; omega
  have hk0 : ((k : Int) == 0) = false := by rw [beq_eq_false_iff_ne]; omega
  have hd1 := fun (w : World) => run_float_arith (P := Tryz.prog) w .mul 107 .f64 f g1 r1 hq1
  clear hq1
  have hob : (FloatKind.f64.format.order r1 4831355200913801216 == some .gt) = true := by rw [ho]; rfl
  go_enter Tryz.func284, Tryz.ntmps284
  go_wp2
  all_goals go_ret2
  all_goals exact ⟨rfl, rfl⟩
set_option maxRecDepth 100000 in
set_option maxHeartbeats 1600000 in
theorem exact_far (d f g1 r1 k G o : Nat) (z : Int) (w : World) (hz : Hid (z = (d : Int))) (h0 : 0 ≤ z) (hs : z < 4503599627370496) (m0 : w.cell? ⟨13, 0, none⟩ = some (.int .u64 52)) (hf : floatOfInt .f64 z = f)
    (k1 : 23 ≤ k) (k2 : k ≤ 37) (sl : w.cell? ⟨18, 0, none⟩ = some (.slice (some ⟨G, o, none⟩) 23 23)) (tb1 : w.cell? ⟨G, o + (k - 22), none⟩ = some (.float .f64 g1))
    (hq1 : floatBits .mul .f64 f g1 = some r1) (g2 r2 : Nat) (tb2 : w.cell? ⟨G, o + 22, none⟩ = some (.float .f64 g2)) (ho : ¬ FloatKind.f64.format.order r1 4831355200913801216 = some .gt) (hq2 : floatBits .mul .f64 r1 g2 = some r2) :
    Calls Tryz.prog 284 #[.int .u64 z, .int .i64 (k : Int), .bool false] w fun e w' => OkIs r2 e ∧ w' = w := by
  have hne : (z / 4503599627370496 != 0) = false := by rw [bne_eq_false_iff_eq]; omega
  have hk0 : ((k : Int) == 0) = false := by rw [beq_eq_false_iff_ne]; omega
  have hd1 := fun (w : World) => run_float_arith (P := Tryz.prog) w .mul 107 .f64 f g1 r1 hq1
  clear hq1
  have hob : (FloatKind.f64.format.order r1 4831355200913801216 == some .gt) = false := by rw [beq_eq_false_iff_ne]; exact ho
  have hd2 := fun (w : World) => run_float_arith (P := Tryz.prog) w .mul 107 .f64 r1 g2 r2 hq2
  clear hq2
  go_enter Tryz.func284, Tryz.ntmps284
  go_wp2
  all_goals go_ret2
  all_goals first
    | exact ⟨okIs_no r1 rfl, rfl⟩
    | exact ⟨okIs_yes rfl, rfl⟩
set_option maxRecDepth 100000 in
set_option maxHeartbeats 800000 in
theorem exact_out (d f : Nat) (z p : Int) (w : World) (hz : Hid (z = (d : Int))) (h0 : 0 ≤ z) (hs : z < 4503599627370496) (m0 : w.cell? ⟨13, 0, none⟩ = some (.int .u64 52)) (hf : floatOfInt .f64 z = f)
    (hp : 37 < p ∨ p < -22) :
    Calls Tryz.prog 284 #[.int .u64 z, .int .i64 p, .bool false] w fun e w' => e = .returned (.tuple #[.float .f64 f, .bool false]) ∧ w' = w := by
  have hne : (z / 4503599627370496 != 0) = false := by rw [bne_eq_false_iff_eq]; omega
  have hk0 : (p == 0) = false := by rw [beq_eq_false_iff_ne]; omega
  rcases hp with hp | hp
  all_goals go_enter Tryz.func284, Tryz.ntmps284
  all_goals go_wp2
  all_goals go_ret2
  all_goals exact ⟨rfl, rfl⟩
end Go.Proofs.YtmndipnifjpdjaaGreatDoor
namespace Go.Proofs.YtmndipnifjpdjaaGreatDoor
theorem rnd_fin {N d W a : Nat} (hd : 0 < d) (ha : a ≤ 2096) (h : N < d * 2 ^ a) (hw : IsRnd N d W) : W < infW := by
  obtain ⟨k, h1, h2, h3⟩ := hw
  have hD : 0 < d * 2 ^ k := Nat.mul_pos hd (Nat.pow_pos (by omega))
  have hk : k ≤ 2043 := by
    rcases h2 with h2 | h2
    · rw [h2]; exact Nat.zero_le _
    · have h4 : d * 2 ^ (52 + k) < d * 2 ^ a := Nat.lt_of_le_of_lt h2 h
      have h5 : 2 ^ (52 + k) < 2 ^ a := Nat.lt_of_mul_lt_mul_left h4
      have h6 := (Nat.pow_lt_pow_iff_right (show 1 < 2 from Nat.lt_succ_self 1)).1 h5
      clear h h1 h2 h3 h4 h5 hD
      omega
  clear h
  have hq : rq N (d * 2 ^ k) ≤ 9007199254740992 := by
    refine rq_le hD ?_
    have e : d * 2 ^ (53 + k) = d * 2 ^ k * 9007199254740992 := by rw [Nat.pow_add, Nat.mul_comm (2 ^ 53), ← Nat.mul_assoc]
    rw [e] at h1
    exact Nat.le_of_lt h1
  rw [h3]
  generalize rq N (d * 2 ^ k) = q at *
  clear h1 h2 h3 hD
  unfold infW
  omega
theorem whole_of_rnd {v r c : Nat} (h0 : v ≠ 0) (hv : v < 9007199254740992) (hc : c = 1074) (h : IsRnd (v * 2 ^ c) 1 r) : IsWhole r v := by
  have h2 := nearest_rnd (mag := v) (place := 0) h0 (A := c) (B := 0) (by omega)
  rw [Nat.pow_zero] at h2
  rw [IsRnd.unique h h2]
  exact whole_int h0 hv
theorem read_1e15 : Ieee.double.read 4831355200913801216 = .number false 8000000000000000 (-3) := by decide +kernel
theorem some_gt {X Y : Nat} (h : Y < X) : some (compare (X : Int) (Y : Int)) = some Ordering.gt := by
  have : compare (X : Int) (Y : Int) = .gt := by
    show compareOfLessAndEq (X : Int) (Y : Int) = .gt
    unfold compareOfLessAndEq
    rw [if_neg (by omega), if_neg (by omega)]
  rw [this]
theorem order_gt {v r c : Nat} (hv : 9007199254740992 ≤ v) (hc : c = 1074) (h : IsRnd (v * 2 ^ c) 1 r) : Ieee.double.order r 4831355200913801216 = some .gt := by
  obtain ⟨k, h1, h2, h3⟩ := h
  rw [Nat.one_mul] at h1 h2
  have hk : 1075 ≤ k := by
    have h4 : 2 ^ (53 + c) < 2 ^ (53 + k) := by
      refine Nat.lt_of_le_of_lt ?_ h1
      rw [Nat.pow_add]
      exact Nat.mul_le_mul_right _ hv
    have h6 := (Nat.pow_lt_pow_iff_right (show 1 < 2 from Nat.lt_succ_self 1)).1 h4
    clear h1 h2 h3 h4
    omega
  have hlow : 2 ^ (52 + k) ≤ v * 2 ^ c := by
    rcases h2 with h2 | h2
    · clear h1 h3; omega
    · exact h2
  have hD : 0 < 1 * 2 ^ k := Nat.mul_pos (by omega) (Nat.pow_pos (by omega))
  have hq1 : 4503599627370496 ≤ rq (v * 2 ^ c) (1 * 2 ^ k) := by
    refine rq_ge' hD ?_
    rw [Nat.one_mul]
    have e : 2 ^ (52 + k) = 2 ^ k * 4503599627370496 := by rw [Nat.pow_add, Nat.mul_comm]
    rw [e] at hlow
    exact hlow
  have hq2 : rq (v * 2 ^ c) (1 * 2 ^ k) ≤ 9007199254740992 := by
    refine rq_le hD ?_
    rw [Nat.one_mul]
    have e : 2 ^ (53 + k) = 2 ^ k * 9007199254740992 := by rw [Nat.pow_add, Nat.mul_comm]
    rw [e] at h1
    exact Nat.le_of_lt h1
  generalize rq (v * 2 ^ c) (1 * 2 ^ k) = q at *
  clear h1 h2 hlow hD
  unfold Ieee.Format.order
  rw [read_1e15]
  have big : ∀ (k q : Nat), 1075 ≤ k → 4503599627370496 ≤ q → q < 9007199254740992 → k * 4503599627370496 + q < infW →
      Ieee.Datum.order (Ieee.double.read (k * 4503599627370496 + q)) (.number false 8000000000000000 (-3)) = some .gt := by
    intro k q hk hq1 hq2 hw
    rw [read_word hq2 (.inr hq1) hw]
    unfold Ieee.Datum.order
    have hmin : min ((k : Int) - 1074) (-3) = -3 := by omega
    simp only [hmin]
    have e1 : ((-3 : Int) - -3).toNat = 0 := by decide
    rw [e1]
    unfold Ieee.signed
    simp only [Bool.false_eq_true, if_false]
    rw [Nat.shiftLeft_eq, Nat.shiftLeft_zero]
    have hp : 1 ≤ 2 ^ ((k : Int) - 1074 - -3).toNat := Nat.one_le_two_pow
    have h2 : 2 ^ 1 ≤ 2 ^ ((k : Int) - 1074 - -3).toNat := Nat.pow_le_pow_right (by omega) (by omega)
    have h3 : q * 2 ≤ q * 2 ^ ((k : Int) - 1074 - -3).toNat := Nat.mul_le_mul_left _ h2
    generalize q * 2 ^ ((k : Int) - 1074 - -3).toNat = X at *
    exact some_gt (by omega)
  by_cases hinf : infW ≤ k * 4503599627370496 + q
  · rw [h3, Nat.min_eq_right hinf]
    have : Ieee.double.read infW = .infinity false := by decide +kernel
    rw [this]
    rfl
  · rw [h3, Nat.min_eq_left (by omega)]
    by_cases hq3 : q < 9007199254740992
    · exact big k q hk hq1 hq3 (by omega)
    · have hq4 : q = 9007199254740992 := by omega
      subst hq4
      have e : k * 4503599627370496 + 9007199254740992 = (k + 1) * 4503599627370496 + 4503599627370496 := by omega
      rw [e]
      exact big (k + 1) 4503599627370496 (by omega) (by omega) (by omega) (by omega)
end Go.Proofs.YtmndipnifjpdjaaGreatDoor
namespace Go.Proofs.YtmndipnifjpdjaaGreatDoor
open Go Go.RowKit
set_option linter.unusedVariables false
structure Tabs (w : World) (G o : Nat) : Prop where
  size : 14 < w.heap.size
  hG : G < w.heap.size
  mant : w.cell? ⟨13, 0, none⟩ = some (.int .u64 52)
  slice : w.cell? ⟨18, 0, none⟩ = some (.slice (some ⟨G, o, none⟩) 23 23)
  tens : ∀ k, k < 23 → w.cell? ⟨G, o + k, none⟩ = some (.float .f64 (pow10Words.getD k 0))
  rows0 : ∀ i, i < 696 → w.cell? ⟨14, i * 2, none⟩ = some (.int .u64 ((Go.Pinned.pow10Rows.getD i (0, 0)).1 : Nat))
  rows1 : ∀ i, i < 696 → w.cell? ⟨14, i * 2 + 1, none⟩ = some (.int .u64 ((Go.Pinned.pow10Rows.getD i (0, 0)).2 : Nat))
theorem foi (d : Nat) : floatOfInt .f64 (d : Int) = Ieee.double.nearest false d 0 := by
  show Ieee.double.write (.number (decide ((d : Int) < 0)) (d : Int).natAbs 0) = _
  rw [decide_eq_false (by omega), Int.natAbs_natCast]
  rfl
def ExactR (d : Nat) (p : Int) (e : Ending) : Prop := ∃ f ok, e = .returned (.tuple #[.float .f64 f, .bool ok]) ∧ (ok = true → DecRnd d p f ∧ f ≠ infW)
theorem fin_of {d : Nat} {p : Int} {f c : Nat} (hd : d < 4503599627370496) (hp1 : -22 ≤ p) (hp2 : p ≤ 37) (hc : c = 1074) (h : IsRnd (d * 10 ^ p.toNat * 2 ^ c) (10 ^ (-p).toNat) f) : f ≠ infW := by
  have hden : 0 < 10 ^ (-p).toNat := Nat.pow_pos (Nat.succ_pos 9)
  have h1 : d * 10 ^ p.toNat * 2 ^ c < 10 ^ (-p).toNat * 2 ^ (52 + 148 + c) := by
    have a1 : 10 ^ p.toNat ≤ 10 ^ 37 := Nat.pow_le_pow_right (by omega) (by omega)
    have a2 : (10 : Nat) ^ 37 ≤ 2 ^ 148 := by decide
    have a3 : d * 10 ^ p.toNat < 2 ^ 52 * 2 ^ 148 := Nat.mul_lt_mul_of_lt_of_le hd (Nat.le_trans a1 a2) (Nat.pow_pos (by omega))
    rw [Nat.pow_add 2 (52 + 148) c, Nat.pow_add 2 52 148, ← Nat.mul_assoc]
    refine Nat.mul_lt_mul_of_pos_right ?_ (Nat.pow_pos (by omega))
    exact Nat.lt_of_lt_of_le a3 (Nat.le_mul_of_pos_left _ hden)
  exact Nat.ne_of_lt (rnd_fin hden (by omega) h1 h)
theorem exact_any (d G o : Nat) (p : Int) (w : World) (T : Tabs w G o) (hd0 : d ≠ 0) (hd : d < 18446744073709551616) :
    Calls Tryz.prog 284 #[.int .u64 d, .int .i64 p, .bool false] w fun e w' => ExactR d p e ∧ w' = w := by
  by_cases hb : 4503599627370496 ≤ d
  · refine (exact_big d d p w (hide rfl) (by omega) (by omega) (by omega) T.mant).mono ?_
    rintro e w' ⟨rfl, rfl⟩
    exact ⟨⟨_, _, rfl, fun h => by cases h⟩, rfl⟩
  · have hs : d < 4503599627370496 := by omega
    have hw := whole_int hd0 (show d < 9007199254740992 by omega)
    have pw : ∀ k, k < 23 → IsWhole (pow10Words.getD k 0) (10 ^ k) := fun k hk => wholeB_ok (pow10_whole ⟨k, hk⟩)
    by_cases hp0 : p = 0
    · subst hp0
      refine (exact_zero d _ d w (hide rfl) (by omega) (by omega) T.mant (foi d)).mono ?_
      rintro e w' ⟨rfl, rfl⟩
      have key : ∀ c, c = 1074 → IsRnd (d * 10 ^ (0 : Int).toNat * 2 ^ c) (10 ^ (-(0 : Int)).toNat) (Ieee.double.nearest false d 0) := by
        intro c hc
        have h2 := nearest_rnd (mag := d) (place := 0) hd0 (A := c) (B := 0) (by omega)
        have e1 : (0 : Int).toNat = 0 := rfl
        have e2 : (-(0 : Int)).toNat = 0 := rfl
        rw [e1, e2, Nat.pow_zero, Nat.mul_one]
        rw [Nat.pow_zero] at h2
        exact h2
      exact ⟨⟨_, _, rfl, fun _ => ⟨key 1074 rfl, fin_of hs (by omega) (by omega) rfl (key 1074 rfl)⟩⟩, rfl⟩
    · by_cases hneg : -22 ≤ p ∧ p < 0
      · obtain ⟨k, hk⟩ : ∃ k : Nat, p = -(k : Int) := ⟨(-p).toNat, by omega⟩
        subst hk
        have hk23 : k < 23 := by omega
        obtain ⟨r, hr, _⟩ := whole_div hw (pw k hk23) (c := 1074) rfl
        have key : ∀ c, c = 1074 → IsRnd (d * 10 ^ (-(k : Int)).toNat * 2 ^ c) (10 ^ (-(-(k : Int))).toNat) r := by
          intro c hc
          obtain ⟨r', hr', h'⟩ := whole_div hw (pw k hk23) hc
          have : r = r' := by rw [hr] at hr'; exact Option.some.inj hr'
          subst this
          have e1 : (-(k : Int)).toNat = 0 := by omega
          have e2 : (-(-(k : Int))).toNat = k := by omega
          rw [e1, e2, Nat.pow_zero, Nat.mul_one]
          exact h'
        refine (exact_neg d _ _ r k G o d w (hide rfl) (by omega) (by omega) T.mant (foi d) (by omega) (by omega) T.slice (T.tens k hk23) hr).mono ?_
        rintro e w' ⟨rfl, rfl⟩
        exact ⟨⟨_, _, rfl, fun _ => ⟨key 1074 rfl, fin_of hs (by omega) (by omega) rfl (key 1074 rfl)⟩⟩, rfl⟩
      · by_cases hpos : 0 < p ∧ p ≤ 22
        · obtain ⟨k, hk⟩ : ∃ k : Nat, p = (k : Int) := ⟨p.toNat, by omega⟩
          subst hk
          have hk23 : k < 23 := by omega
          obtain ⟨r, hr, _⟩ := whole_mul hw (pw k hk23) (c := 1074) rfl
          have key : ∀ c, c = 1074 → IsRnd (d * 10 ^ ((k : Int)).toNat * 2 ^ c) (10 ^ (-(k : Int)).toNat) r := by
            intro c hc
            obtain ⟨r', hr', h'⟩ := whole_mul hw (pw k hk23) hc
            have : r = r' := by rw [hr] at hr'; exact Option.some.inj hr'
            subst this
            have e1 : (-(k : Int)).toNat = 0 := by omega
            rw [e1, Int.toNat_natCast, Nat.pow_zero]
            exact h'
          refine (exact_pos d _ _ r k G o d w (hide rfl) (by omega) (by omega) T.mant (foi d) (by omega) (by omega) T.slice (T.tens k hk23) hr).mono ?_
          rintro e w' ⟨⟨f, ok, rfl, hok⟩, rfl⟩
          refine ⟨⟨f, ok, rfl, fun h => ?_⟩, rfl⟩
          rw [hok h]
          exact ⟨key 1074 rfl, fin_of hs (by omega) (by omega) rfl (key 1074 rfl)⟩
        · by_cases hfar : 22 < p ∧ p ≤ 37
          · obtain ⟨k, hk⟩ : ∃ k : Nat, p = (k : Int) := ⟨p.toNat, by omega⟩
            subst hk
            have hk23 : k - 22 < 23 := by omega
            obtain ⟨r1, hr1, _⟩ := whole_mul hw (pw (k - 22) hk23) (c := 1074) rfl
            have rnd1 : ∀ c, c = 1074 → IsRnd (d * 10 ^ (k - 22) * 2 ^ c) 1 r1 := by
              intro c hc
              obtain ⟨r', hr', h'⟩ := whole_mul hw (pw (k - 22) hk23) hc
              have : r1 = r' := by rw [hr1] at hr'; exact Option.some.inj hr'
              subst this
              exact h'
            have small : ¬ FloatKind.f64.format.order r1 4831355200913801216 = some .gt → IsWhole r1 (d * 10 ^ (k - 22)) := by
              intro hng
              by_cases hv : d * 10 ^ (k - 22) < 9007199254740992
              · exact whole_of_rnd (c := 1074) (Nat.mul_ne_zero hd0 (Nat.pos_iff_ne_zero.1 (Nat.pow_pos (by omega)))) hv rfl (rnd1 1074 rfl)
              · exact absurd (order_gt (c := 1074) (Nat.le_of_not_lt hv) rfl (rnd1 1074 rfl)) hng
            by_cases hng : FloatKind.f64.format.order r1 4831355200913801216 = some .gt
            · refine (exact_far_no d _ _ r1 k G o d w (hide rfl) (by omega) (by omega) T.mant (foi d) (by omega) (by omega) T.slice (T.tens (k - 22) hk23) hr1 hng).mono ?_
              rintro e w' ⟨rfl, rfl⟩
              exact ⟨⟨_, _, rfl, fun h => by cases h⟩, rfl⟩
            · obtain ⟨r2, h1, _⟩ := whole_mul (small hng) (pw 22 (by omega)) (c := 1074) rfl
              have key : ∀ c, c = 1074 → IsRnd (d * 10 ^ ((k : Int)).toNat * 2 ^ c) (10 ^ (-(k : Int)).toNat) r2 := by
                intro c hc
                obtain ⟨r', hr', h'⟩ := whole_mul (small hng) (pw 22 (by omega)) hc
                have : r2 = r' := by rw [h1] at hr'; exact Option.some.inj hr'
                subst this
                have e1 : (-(k : Int)).toNat = 0 := by omega
                have e2 : d * 10 ^ (k - 22) * 10 ^ 22 = d * 10 ^ k := by
                  rw [Nat.mul_assoc, ← Nat.pow_add]
                  congr 2
                  omega
                rw [e1, Int.toNat_natCast, Nat.pow_zero, ← e2]
                exact h'
              refine (exact_far d _ _ r1 k G o d w (hide rfl) (by omega) (by omega) T.mant (foi d) (by omega) (by omega) T.slice (T.tens (k - 22) hk23) hr1 _ r2 (T.tens 22 (by omega)) hng h1).mono ?_
              rintro e w' ⟨⟨f, ok, rfl, hok⟩, rfl⟩
              refine ⟨⟨f, ok, rfl, fun h => ?_⟩, rfl⟩
              rw [hok h]
              exact ⟨key 1074 rfl, fin_of hs (by omega) (by omega) rfl (key 1074 rfl)⟩
          · refine (exact_out d _ d p w (hide rfl) (by omega) (by omega) T.mant (foi d) (by omega)).mono ?_
            rintro e w' ⟨rfl, rfl⟩
            exact ⟨⟨_, _, rfl, fun h => by cases h⟩, rfl⟩
end Go.Proofs.YtmndipnifjpdjaaGreatDoor
