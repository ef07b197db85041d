import Derived.Test.YtamdnnkdnhkghaaGreatDoorT03
import Derived.Test.YtamdnnkdnhkghaaGreatDoorT01
import Ieee.Arith
namespace Go.Proofs.YtamdnnkdnhkghaaGreatDoor

theorem e64 : T64 = 18446744073709551616 := rfl

theorem e128 : T128 = 340282366920938463463374607431768211456 := rfl

/-- 'uscale' is right: for every power that 'parseFloat64' asks for, at every x with its high bit set. -/
theorem usc_ok {p : Int} (hp1 : -345 ≤ p) (hp2 : p ≤ 310) {x s : Nat} (hx1 : 9223372036854775808 ≤ x) (hx2 : x < T64) (hs : 8 ≤ s) :
    usc x (rowAt p).1 (rowAt p).2 s = unr (x * numT p) (denT p * (2 ^ s * T128)) := by
  have hrow := of_decide_eq_true (row_ok (p := p) (by omega) (by omega))
  have hhi := row_hi (p := p) (by omega) (by omega)
  have hfr := fun h3 => far_of (row_far hp1 hp2 h3) x hx1 hx2
  have hpm : pmOf (rowAt p) = (rowAt p).1 * T64 - (rowAt p).2 := rfl
  obtain ⟨r1, r2, r3, r4, r5⟩ := hrow
  generalize hrr : rowAt p = r at *
  obtain ⟨hi, lo⟩ := r
  simp only at *
  have hden : 0 < denT p := Nat.mul_pos (Nat.pow_pos (by omega)) (Nat.pow_pos (by omega))
  have hS2 : 2 ≤ 2 ^ s := by
    have : 2 ^ 1 ≤ 2 ^ s := Nat.pow_le_pow_right (by omega) (by omega)
    omega
  have hP : x * pmOf (hi, lo) + x * lo = x * hi * T64 := by
    rw [← Nat.mul_add, hpm, Nat.mul_assoc]
    congr 1
    have : lo ≤ hi * T64 := r3
    omega
  have A1 : x * numT p ≤ denT p * (x * pmOf (hi, lo)) := by
    have := Nat.mul_le_mul_left x r4
    calc x * numT p ≤ x * (pmOf (hi, lo) * denT p) := this
      _ = denT p * (x * pmOf (hi, lo)) := by rw [← Nat.mul_assoc, Nat.mul_comm]
  have A2 : denT p * (x * pmOf (hi, lo)) < x * numT p + denT p * x := by
    have := Nat.mul_lt_mul_of_pos_left r5 (show 0 < x by omega)
    rw [Nat.mul_add] at this
    calc denT p * (x * pmOf (hi, lo)) = x * (pmOf (hi, lo) * denT p) := by rw [← Nat.mul_assoc x, Nat.mul_comm (denT p)]
      _ < x * numT p + x * denT p := this
      _ = x * numT p + denT p * x := by rw [Nat.mul_comm x (denT p)]
  unfold usc
  refine usc_cases (P := x * pmOf (hi, lo)) hx1 hx2 r2 hS2 hden hP A1 A2 ?_ ?_
  · rw [Nat.div_pos_iff]
    refine ⟨by rw [e64]; omega, ?_⟩
    have : 9223372036854775808 * 9223372036854775808 ≤ x * hi := Nat.mul_le_mul hx1 hhi
    rw [e64]; omega
  · intro h hH hm1 hm2
    have hPf : x * pmOf (hi, lo) + x * lo % T64 = h * 2 ^ s * T128 + (x * hi % T64 - x * lo / T64) * T64 := by
      have d1 := Nat.div_add_mod (x * hi) T64
      have d2 := Nat.div_add_mod (x * lo) T64
      rw [hH] at d1
      have e : x * hi * T64 = h * 2 ^ s * T128 + x * hi % T64 * T64 := by
        conv => lhs; rw [← d1]
        rw [Nat.add_mul, t128, Nat.mul_comm T64, Nat.mul_assoc]
      rw [e] at hP
      rw [Nat.sub_mul, Nat.mul_comm (x * lo / T64)]
      have hle : T64 * (x * lo / T64) ≤ x * hi % T64 * T64 := by rw [Nat.mul_comm]; exact Nat.mul_le_mul_right _ hm1
      omega
    have hf : x * lo % T64 < T64 := Nat.mod_lt _ (by rw [e64]; omega)
    by_cases hfarp : p < -30 ∨ 27 < p
    · exfalso
      have hq := hfr hfarp
      have hM : (x * hi % T64 - x * lo / T64) * T64 ≤ T64 := by
        have : x * hi % T64 - x * lo / T64 ≤ 1 := by omega
        calc _ ≤ 1 * T64 := Nat.mul_le_mul_right _ this
          _ = T64 := Nat.one_mul _
      have hZ : h * 2 ^ s * T128 = h * 2 ^ (s - 8) * 87112285931760246646623899502532662132736 := by
        have : s = s - 8 + 8 := by omega
        conv => lhs; rw [this, Nat.pow_add]
        rw [e128, Nat.mul_assoc h, Nat.mul_assoc h, Nat.mul_assoc (2 ^ (s - 8))]
      rw [hZ] at hPf
      generalize x * pmOf (hi, lo) = P at *
      generalize h * 2 ^ (s - 8) = Y at *
      generalize (x * hi % T64 - x * lo / T64) * T64 = M at *
      generalize x * lo % T64 = f at *
      rw [e64] at hM hf
      clear hP A1 A2 r4 r5 hZ hpm hfr hH
      by_cases hge : Y * 87112285931760246646623899502532662132736 ≤ P
      · have e : P = 87112285931760246646623899502532662132736 * Y + (P - Y * 87112285931760246646623899502532662132736) := by omega
        rw [e, Nat.mul_add_mod, Nat.mod_eq_of_lt (by omega)] at hq
        omega
      · obtain ⟨Y', rfl⟩ : ∃ Y', Y = Y' + 1 := ⟨Y - 1, by
          rcases Nat.eq_zero_or_pos Y with e | e
          · subst e; omega
          · omega⟩
        have e : P = 87112285931760246646623899502532662132736 * Y' + (P - Y' * 87112285931760246646623899502532662132736) := by omega
        rw [e, Nat.mul_add_mod, Nat.mod_eq_of_lt (by omega)] at hq
        omega
    · by_cases hp0 : 0 ≤ p
      · have hsm := of_decide_eq_true (all_range smallRows_ok (i := p.toNat) (by omega))
        have ei : 348 + p.toNat = (p + 348).toNat := by omega
        have ep : ((p.toNat : Nat) : Int) = p := by omega
        rw [ei, ep] at hsm
        have hra : Go.Pinned.pow10Rows.getD (p + 348).toNat (0, 0) = (hi, lo) := hrr
        rw [hra] at hsm
        obtain ⟨l0, h0, d1⟩ := hsm
        simp only at l0 h0
        subst l0
        rw [d1] at A1 A2 ⊢
        rw [Nat.one_mul] at A1 A2 ⊢
        rw [d1] at r4 r5
        have hev : x * hi % T64 = 0 := by
          have h2 : x * hi % T64 % 2 = 0 := by
            rw [e64, Nat.mod_mod_of_dvd _ (by decide : 2 ∣ 18446744073709551616), Nat.mul_mod, h0, Nat.mul_zero, Nat.zero_mod]
          rw [Nat.mul_zero, Nat.zero_div] at hm2
          omega
        rw [hev, Nat.mul_zero, Nat.zero_mod, Nat.zero_div, Nat.sub_zero, Nat.zero_mul, Nat.add_zero, Nat.add_zero] at hPf
        have hnp : numT p = pmOf (hi, 0) := by omega
        rw [hnp, hPf, Nat.mul_assoc]
      · have hng := of_decide_eq_true (all_range negRows_ok (i := (-p).toNat) (by omega))
        have ei : (((-p).toNat : Nat) : Int) = -p := by omega
        rw [ei, Int.neg_neg] at hng
        obtain ⟨g1, g2, g3⟩ := hng
        have hnum : numT p = 2 ^ (127 - lp10 p).toNat := by
          unfold numT
          have : p.toNat = 0 := by omega
          rw [this, Nat.pow_zero, Nat.one_mul]
        have hdn : denT p = 10 ^ (-p).toNat := by unfold denT; rw [g3, Nat.pow_zero, Nat.mul_one]
        have hM : (x * hi % T64 - x * lo / T64) * T64 ≤ T64 := by
          have : x * hi % T64 - x * lo / T64 ≤ 1 := by omega
          calc _ ≤ 1 * T64 := Nat.mul_le_mul_right _ this
            _ = T64 := Nat.one_mul _
        have hv : h * (denT p * (2 ^ s * T128)) = denT p * (h * 2 ^ s * T128) := by rw [Nat.mul_left_comm, Nat.mul_assoc h]
        refine multiple_zero (g := 2 ^ min (127 - lp10 p).toNat (136 + (-p).toNat)) (d := 36893488147419103232 * denT p) ?_ ?_ ?_ ?_ ?_
        · rw [hnum]
          exact Nat.dvd_trans (Nat.pow_dvd_pow 2 (Nat.min_le_left _ _)) (Nat.dvd_mul_left _ _)
        · rw [hdn]
          have e10 : 10 ^ (-p).toNat = 5 ^ (-p).toNat * 2 ^ (-p).toNat := by rw [← Nat.mul_pow]
          have e3 : h * (10 ^ (-p).toNat * (2 ^ s * T128)) = h * 5 ^ (-p).toNat * 2 ^ (s - 8) * 2 ^ (136 + (-p).toNat) := by
            have f1 : 2 ^ s = 2 ^ (s - 8) * 2 ^ 8 := by rw [← Nat.pow_add]; congr 1; omega
            have f2 : (2 : Nat) ^ (136 + (-p).toNat) = 2 ^ 8 * T128 * 2 ^ (-p).toNat := by rw [Nat.pow_add]; rfl
            rw [e10, f1, f2]
            generalize 5 ^ (-p).toNat = a5
            generalize 2 ^ (-p).toNat = a2
            generalize 2 ^ (s - 8) = a3
            generalize 2 ^ 8 = a4
            generalize T128 = a6
            simp only [Nat.mul_comm, Nat.mul_left_comm]
          rw [e3]
          exact Nat.dvd_trans (Nat.pow_dvd_pow 2 (Nat.min_le_right _ _)) (Nat.dvd_mul_left _ _)
        · rw [hv]
          have h1 : denT p * (x * pmOf (hi, lo)) ≤ denT p * (h * 2 ^ s * T128 + T64) := Nat.mul_le_mul_left _ (by omega)
          rw [Nat.mul_add, e64] at h1
          omega
        · rw [hv]
          have h1 : denT p * (h * 2 ^ s * T128) ≤ denT p * (x * pmOf (hi, lo) + T64) := Nat.mul_le_mul_left _ (by omega)
          have h2 : denT p * x ≤ denT p * T64 := Nat.mul_le_mul_left _ (Nat.le_of_lt hx2)
          rw [Nat.mul_add, e64] at h1
          rw [e64] at h2
          omega
        · rw [hdn]
          rcases Nat.le_total (127 - lp10 p).toNat (136 + (-p).toNat) with hh | hh
          · rw [Nat.min_eq_left hh]; exact g1
          · rw [Nat.min_eq_right hh]; exact g2

end Go.Proofs.YtamdnnkdnhkghaaGreatDoor

namespace Go.Proofs.YtamdnnkdnhkghaaGreatDoor

/-- 'round' of an unrounded number. -/
def rnd2 (u : Nat) : Nat := (u + 1 + u / 4 % 2) / 4

theorem or_one (n : Nat) : n ||| 1 = n / 2 * 2 + 1 := by
  have key : 2 * (n / 2) ||| 1 = 2 * (n / 2) + 1 := by
    have := Nat.two_pow_add_eq_or_of_lt (i := 1) (b := 1) (by decide) (n / 2)
    simpa using this.symm
  rcases Nat.mod_two_eq_zero_or_one n with h | h
  · have e : n = 2 * (n / 2) := by omega
    rw [Nat.mul_comm (n / 2)]
    conv => lhs; rw [e]
    exact key
  · have e : n = 2 * (n / 2) ||| 1 := by rw [key]; omega
    rw [Nat.mul_comm (n / 2), ← key]
    conv => lhs; rw [e]
    rw [Nat.or_assoc, Nat.or_self]

theorem unr_val (A B : Nat) : unr A B = if A % B = 0 then A / B else A / B / 2 * 2 + 1 := by unfold unr; rw [or_one]

/-- Rounding what 'uscale' gives is rounding the number. -/
theorem rnd2_unr {N D : Nat} (hD : 0 < D) : rnd2 (unr (4 * N) D) = rq N D := by
  have h1 := Nat.div_add_mod N D
  have h2 := Nat.mod_lt N hD
  unfold rq
  generalize N / D = q at *
  generalize N % D = r at *
  have e4 : 4 * N = D * (4 * q) + 4 * r := by rw [← h1]; grind
  have hdiv : 4 * N / D = 4 * q + 4 * r / D := by rw [e4, Nat.mul_add_div hD]
  have hmod : 4 * N % D = 4 * r % D := by rw [e4, Nat.mul_add_mod]
  have ht := Nat.div_add_mod (4 * r) D
  have htl := Nat.mod_lt (4 * r) hD
  have ht4 : 4 * r / D < 4 := (Nat.div_lt_iff_lt_mul hD).2 (by omega)
  rw [unr_val, hdiv, hmod]
  generalize 4 * r / D = t at *
  generalize 4 * r % D = w at *
  clear e4 hdiv hmod h1
  unfold rnd2
  have ht' : t = 0 ∨ t = 1 ∨ t = 2 ∨ t = 3 := by omega
  rcases ht' with rfl | rfl | rfl | rfl
  · simp only [Nat.mul_zero] at ht
    split <;> split <;> omega
  · simp only [Nat.mul_one] at ht
    split <;> split <;> omega
  · split <;> split <;> omega
  · split <;> split <;> omega

theorem unr_half {A B : Nat} (hB : 0 < B) : unr A B / 2 ||| unr A B % 2 = unr A (2 * B) := by
  have h1 := Nat.div_add_mod A B
  have h2 := Nat.mod_lt A hB
  generalize hq : A / B = q at *
  generalize hr : A % B = r at *
  have e2 : A / (2 * B) = q / 2 := by rw [Nat.mul_comm, ← Nat.div_div_eq_div_mul, hq]
  have e3 : A % (2 * B) = q % 2 * B + r := by
    have := Nat.div_add_mod A (2 * B)
    rw [e2] at this
    have h3 := Nat.div_add_mod q 2
    have h4 : A = B * (2 * (q / 2) + q % 2) + r := by rw [h3]; omega
    have h5 : B * (2 * (q / 2) + q % 2) = 2 * B * (q / 2) + q % 2 * B := by grind
    omega
  have hor : ∀ a c : Nat, c < 2 → a ||| c = if c = 0 then a else a / 2 * 2 + 1 := by
    intro a c hc
    have : c = 0 ∨ c = 1 := by omega
    rcases this with rfl | rfl
    · simp
    · rw [or_one]; simp
  rw [hor _ _ (Nat.mod_lt _ (by omega)), unr_val, unr_val, hq, hr, e2, e3]
  have hq2 : q % 2 = 0 ∨ q % 2 = 1 := by omega
  by_cases hr0 : r = 0
  · subst hr0
    rcases hq2 with h | h
    · rw [if_pos rfl, h, if_pos rfl, if_pos (by omega)]
    · rw [if_pos rfl, h, if_neg (by omega), if_neg (by omega)]
  · rw [if_neg hr0, if_neg (by omega), if_neg (by omega)]
    omega

theorem unr_scale {A B c : Nat} (hc : 0 < c) : unr (A * c) (B * c) = unr A B := by
  unfold unr
  rw [Nat.mul_div_mul_right _ _ hc, Nat.mul_mod_mul_right]
  by_cases h : A % B = 0
  · rw [if_pos h, if_pos (by rw [h, Nat.zero_mul])]
  · rw [if_neg h, if_neg (by intro e; rcases Nat.mul_eq_zero.1 e with e | e <;> omega)]

/-- unr hangs on the ratio alone. -/
theorem unr_ratio {A B A' B' : Nat} (hB : 0 < B) (hB' : 0 < B') (h : A * B' = A' * B) : unr A B = unr A' B' := by
  rw [← unr_scale (A := A) (B := B) hB', ← unr_scale (A := A') (B := B') hB, h, Nat.mul_comm B B']

theorem rq_lt {N D : Nat} (hD : 0 < D) {k : Nat} (h : rq N D < k) : N < D * k := by
  have h1 := rq_ge N D
  have h2 : N / D < k := by omega
  rw [Nat.div_lt_iff_lt_mul hD] at h2
  rw [Nat.mul_comm]; exact h2

theorem rq_le {N D k : Nat} (hD : 0 < D) (h : N ≤ D * k) : rq N D ≤ k := by
  unfold rq
  have h1 := Nat.div_add_mod N D
  have h2 := Nat.mod_lt N hD
  by_cases e : N / D = k
  · rw [e] at h1
    rw [if_neg (by rintro (h | h) <;> omega)]
    omega
  · have : N / D < k := by
      rcases Nat.lt_or_ge (N / D) k with h3 | h3
      · exact h3
      · have : D * (k + 1) ≤ D * (N / D) := Nat.mul_le_mul_left _ (by omega)
        rw [Nat.mul_add] at this
        omega
    split <;> omega

theorem rq_ge' {N D k : Nat} (hD : 0 < D) (h : D * k ≤ N) : k ≤ rq N D :=
  Nat.le_trans ((Nat.le_div_iff_mul_le hD).2 (by rw [Nat.mul_comm]; exact h)) (rq_ge N D)

/-- Rounded up to a power of two, at the wider step too. -/
theorem rq_carry {N D c : Nat} (hD : 0 < D) (h1 : N < D * (2 * c)) (h2 : rq N D = 2 * c) : rq N (2 * D) = c := by
  have hc : 0 < c := by
    rcases Nat.eq_zero_or_pos c with e | e
    · subst e; simp at h1
    · exact e
  have hq := Nat.div_add_mod N D
  have hr := Nat.mod_lt N hD
  have hqlt : N / D < 2 * c := (Nat.div_lt_iff_lt_mul hD).2 (by rw [Nat.mul_comm]; exact h1)
  unfold rq at h2
  generalize N / D = q at *
  generalize N % D = r at *
  have hq1 : q = 2 * c - 1 := by split at h2 <;> omega
  have hup : D ≤ 2 * r := by
    split at h2
    · omega
    · omega
  have hN : N = 2 * D * (c - 1) + (D + r) := by
    subst hq1
    have e : 2 * D * (c - 1) + D = D * (2 * c - 1) := by
      obtain ⟨b, rfl⟩ : ∃ b, c = b + 1 := ⟨c - 1, by omega⟩
      have : 2 * (b + 1) - 1 = 2 * b + 1 := by omega
      rw [this, Nat.add_sub_cancel]; grind
    omega
  unfold rq
  have d1 : N / (2 * D) = c - 1 := by rw [hN, Nat.mul_add_div (by omega), Nat.div_eq_of_lt (by omega)]; omega
  have d2 : N % (2 * D) = D + r := by rw [hN, Nat.mul_add_mod, Nat.mod_eq_of_lt (by omega)]
  rw [d1, d2, if_pos (by left; omega)]
  omega

end Go.Proofs.YtamdnnkdnhkghaaGreatDoor

namespace Go.Proofs.YtamdnnkdnhkghaaGreatDoor

theorem rq_ratio {A B A' B' : Nat} (hB : 0 < B) (hB' : 0 < B') (h : A * B' = A' * B) : rq A B = rq A' B' := by
  rw [← rq_scale (N := A) (D := B) hB', ← rq_scale (N := A') (D := B') hB, h, Nat.mul_comm B B']

theorem cut_even (neg : Bool) (n drop : Nat) : Ieee.Toward.even.cut neg n drop = rq n (2 ^ drop) := by
  unfold Ieee.Toward.cut
  have hlt : n < 2 ^ (n.log2 + 1) := Nat.lt_log2_self
  rw [Nat.one_shiftLeft]
  have key : ∀ g, (n / g + (decide (g < 2 * (n % g)) || (g == 2 * (n % g) && n / g % 2 == 1)).toNat) = rq n g := by
    intro g
    unfold rq
    congr 1
    by_cases h1 : g < 2 * (n % g)
    · simp [h1]
    · by_cases h2 : 2 * (n % g) = g
      · by_cases h3 : n / g % 2 = 1
        · simp [h2, h3]
        · simp [h2, h3]
      · have h2' : ¬ g = 2 * (n % g) := fun e => h2 e.symm
        simp [h1, h2, h2']
  by_cases hd : drop ≤ n.log2 + 2
  · rw [Nat.min_eq_left hd]
    exact key _
  · rw [Nat.min_eq_right (by omega)]
    have k1 := key (2 ^ (n.log2 + 2))
    have small : ∀ j, n.log2 + 2 ≤ j → rq n (2 ^ j) = 0 := by
      intro j hj
      have h2 : 2 ^ (n.log2 + 2) ≤ 2 ^ j := Nat.pow_le_pow_right (by omega) hj
      have h3 : 2 ^ (n.log2 + 2) = 2 * 2 ^ (n.log2 + 1) := by rw [Nat.pow_succ]; omega
      unfold rq
      rw [Nat.div_eq_of_lt (by omega), Nat.mod_eq_of_lt (by omega), if_neg (by omega)]
    rw [small drop (by omega)]
    rw [small _ (Nat.le_refl _)] at k1
    exact k1

/-- The format's nearest word is the nearest word: mag * 2^place, A and B the two sides of its place. -/
theorem nearest_rnd {mag : Nat} {place : Int} (hm : mag ≠ 0) {A B : Nat} (hAB : (A : Int) - B = place + 1074) :
    IsRnd (mag * 2 ^ A) (2 ^ B) (Ieee.double.nearest false mag place) := by
  have hlo : 2 ^ mag.log2 ≤ mag := Nat.log2_self_le hm
  have hhi : mag < 2 ^ (mag.log2 + 1) := Nat.lt_log2_self
  unfold Ieee.Format.nearest
  rw [if_neg hm]
  have lp : Ieee.double.leastPlace = -1074 := by decide
  have fb : (Ieee.double.fractionBits : Int) = 52 := rfl
  have bn : Ieee.double.binade = 4503599627370496 := by decide
  have ir : Ieee.double.infRung = infW := by decide
  simp only [lp, fb, bn, ir]
  generalize hlast : max (place + (mag.log2 : Int) - 52) (-1074) = last
  rw [cut_even, Nat.shiftLeft_eq]
  unfold Ieee.Format.word
  simp only [Bool.false_eq_true, if_false]
  have p : ∀ x : Nat, 0 < 2 ^ x := fun x => Nat.pow_pos (by omega)
  obtain ⟨k, hk⟩ : ∃ k : Nat, (k : Int) = last + 1074 := ⟨(last + 1074).toNat, by omega⟩
  refine ⟨k, ?_, ?_, ?_⟩
  · -- mag * 2^A < 2^B * 2^(53+k)
    have h1 : mag * 2 ^ A < 2 ^ (mag.log2 + 1) * 2 ^ A := Nat.mul_lt_mul_of_pos_right hhi (p A)
    refine Nat.lt_of_lt_of_le h1 ?_
    rw [← Nat.pow_add, ← Nat.pow_add]
    exact Nat.pow_le_pow_right (by omega) (by omega)
  · by_cases h0 : k = 0
    · left; exact h0
    · right
      have h1 : 2 ^ mag.log2 * 2 ^ A ≤ mag * 2 ^ A := Nat.mul_le_mul_right _ hlo
      refine Nat.le_trans ?_ h1
      rw [← Nat.pow_add, ← Nat.pow_add]
      exact Nat.pow_le_pow_right (by omega) (by omega)
  · have e1 : (last - -1074).toNat = k := by omega
    rw [e1]
    have e2 : rq (mag * 2 ^ (place - last).toNat) (2 ^ (last - place).toNat) = rq (mag * 2 ^ A) (2 ^ B * 2 ^ k) := by
      refine rq_ratio (p _) (Nat.mul_pos (p _) (p _)) ?_
      rw [Nat.mul_assoc, Nat.mul_assoc, ← Nat.pow_add, ← Nat.pow_add, ← Nat.pow_add]
      congr 2
      omega
    rw [e2]

end Go.Proofs.YtamdnnkdnhkghaaGreatDoor

namespace Go.Proofs.YtamdnnkdnhkghaaGreatDoor

/-- Rounding away two bits or more of an unrounded number is rounding the number. -/
theorem rq_unr {A B t : Nat} (hB : 0 < B) (ht : 2 ≤ t) : rq (unr A B) (2 ^ t) = rq A (B * 2 ^ t) := by
  obtain ⟨h, hh⟩ : ∃ h, 2 ^ t = 4 * h := ⟨2 ^ (t - 2), by
    have : t = 2 + (t - 2) := by omega
    conv => lhs; rw [this, Nat.pow_add]⟩
  rw [hh]
  have hpos : 0 < h := by
    rcases Nat.eq_zero_or_pos h with e | e
    · subst e; have := Nat.pow_pos (n := t) (show 0 < 2 by omega); omega
    · exact e
  have hBh : 0 < B * (4 * h) := Nat.mul_pos hB (by omega)
  have d1 := Nat.div_add_mod A (B * (4 * h))
  have d2 := Nat.mod_lt A hBh
  unfold rq
  generalize A / (B * (4 * h)) = q at *
  generalize A % (B * (4 * h)) = r at *
  have d3 := Nat.div_add_mod r B
  have d4 := Nat.mod_lt r hB
  generalize hy : r / B = y at *
  generalize hz : r % B = z at *
  have hy4 : y < 4 * h := by rw [← hy, Nat.div_lt_iff_lt_mul hB, Nat.mul_comm]; exact d2
  have hA : A = B * (4 * h * q + y) + z := by rw [← d1, ← d3, Nat.mul_add, ← Nat.mul_assoc B (4 * h) q]; omega
  have e1 : A / B = 4 * h * q + y := by rw [hA, Nat.mul_add_div hB, Nat.div_eq_of_lt d4]; omega
  have e2 : A % B = z := by rw [hA, Nat.mul_add_mod, Nat.mod_eq_of_lt d4]
  have hu : unr A B = 4 * h * q + (if z = 0 then y else y / 2 * 2 + 1) := by
    rw [unr_val, e1, e2]
    have e4 : 4 * h * q = 2 * (2 * h * q) := by grind
    rw [e4]
    split
    · rfl
    · omega
  rw [hu]
  generalize hρ : (if z = 0 then y else y / 2 * 2 + 1) = ρ
  have hρ4 : ρ < 4 * h := by rw [← hρ]; split <;> omega
  have f1 : (4 * h * q + ρ) / (4 * h) = q := by rw [Nat.mul_add_div (by omega), Nat.div_eq_of_lt hρ4]; omega
  have f2 : (4 * h * q + ρ) % (4 * h) = ρ := by rw [Nat.mul_add_mod, Nat.mod_eq_of_lt hρ4]
  rw [f1, f2]
  -- compare twice the rests
  have bh : B * (4 * h) = 2 * (B * (2 * h)) := by grind
  have cmpy : ∀ c, (B * c ≤ r ↔ c ≤ y) := by
    intro c
    rw [← hy, Nat.le_div_iff_mul_le hB, Nat.mul_comm]
  have c1 := cmpy (2 * h)
  have c2 := cmpy (2 * h + 1)
  have m1 : B * (2 * h + 1) = B * (2 * h) + B := by rw [Nat.mul_add, Nat.mul_one]
  rw [m1] at c2
  rw [bh]
  have hzz : z = 0 ↔ r = B * y := by omega
  congr 1
  by_cases hlt : y < 2 * h
  · have : ¬ B * (2 * h) ≤ r := fun e => by have := c1.1 e; omega
    rw [if_neg (by rw [← hρ]; split <;> omega), if_neg (by omega)]
  · have hge : B * (2 * h) ≤ r := c1.2 (by omega)
    by_cases heq : y = 2 * h
    · by_cases hz0 : z = 0
      · have hr : r = B * (2 * h) := by rw [hzz.1 hz0, heq]
        rw [if_pos hz0] at hρ
        have a1 : (4 * h < 2 * ρ ∨ 2 * ρ = 4 * h ∧ q % 2 = 1) ↔ (2 * (B * (2 * h)) < 2 * r ∨ 2 * r = 2 * (B * (2 * h)) ∧ q % 2 = 1) := by omega
        simp only [a1]
      · rw [if_neg hz0] at hρ
        have hr : B * (2 * h) < r := by
          rcases Nat.lt_or_eq_of_le hge with e | e
          · exact e
          · exact absurd (hzz.2 (by rw [← e, heq])) hz0
        rw [if_pos (by omega), if_pos (by omega)]
    · have hr : B * (2 * h) < r := by
        have := c2.2 (by omega)
        omega
      rw [if_pos (by rw [← hρ]; split <;> omega), if_pos (by omega)]

end Go.Proofs.YtamdnnkdnhkghaaGreatDoor

namespace Go.Proofs.YtamdnnkdnhkghaaGreatDoor

theorem pow_lt_shift {m n a b a' b' : Nat} (h : m * 2 ^ a < n * 2 ^ b) (hh : b + a' ≤ b' + a) : m * 2 ^ a' < n * 2 ^ b' := by
  have p : ∀ x : Nat, 0 < 2 ^ x := fun x => Nat.pow_pos (by omega)
  have h1 : m * 2 ^ a * 2 ^ a' < n * 2 ^ b * 2 ^ a' := Nat.mul_lt_mul_of_pos_right h (p a')
  have h2 : n * 2 ^ b * 2 ^ a' ≤ n * 2 ^ b' * 2 ^ a := by
    rw [Nat.mul_assoc, Nat.mul_assoc, ← Nat.pow_add, ← Nat.pow_add]
    exact Nat.mul_le_mul_left _ (Nat.pow_le_pow_right (by omega) hh)
  have h3 : m * 2 ^ a * 2 ^ a' = m * 2 ^ a' * 2 ^ a := by rw [Nat.mul_right_comm]
  rw [h3] at h1
  exact Nat.lt_of_mul_lt_mul_right (Nat.lt_of_lt_of_le h1 h2)

theorem pow_le_shift {m n a b a' b' : Nat} (h : n * 2 ^ b ≤ m * 2 ^ a) (hh : b' + a ≤ b + a') : n * 2 ^ b' ≤ m * 2 ^ a' := by
  have p : ∀ x : Nat, 0 < 2 ^ x := fun x => Nat.pow_pos (by omega)
  have h1 : n * 2 ^ b * 2 ^ a' ≤ m * 2 ^ a * 2 ^ a' := Nat.mul_le_mul_right _ h
  have h2 : n * 2 ^ b' * 2 ^ a ≤ n * 2 ^ b * 2 ^ a' := by
    rw [Nat.mul_assoc, Nat.mul_assoc, ← Nat.pow_add, ← Nat.pow_add]
    exact Nat.mul_le_mul_left _ (Nat.pow_le_pow_right (by omega) hh)
  have h3 : m * 2 ^ a * 2 ^ a' = m * 2 ^ a' * 2 ^ a := by rw [Nat.mul_right_comm]
  rw [h3] at h1
  exact Nat.le_of_mul_le_mul_right (Nat.le_trans h2 h1) (p a)

theorem unr_two {x n : Nat} (hn : 0 < n) : 2 * (x / n) + (x % n != 0).toNat = unr (2 * x) n := by
  have h1 := Nat.div_add_mod x n
  have h2 := Nat.mod_lt x hn
  generalize x / n = q at *
  generalize x % n = r at *
  have e : 2 * x = n * (2 * q) + 2 * r := by rw [← h1]; grind
  rw [unr_val]
  by_cases hr : r = 0
  · subst hr
    have e1 : 2 * x % n = 0 := by rw [e]; simp
    have e2 : 2 * x / n = 2 * q := by rw [e]; simp [Nat.mul_div_cancel_left _ hn]
    rw [if_pos e1, e2]; rfl
  · have hb : (r != 0).toNat = 1 := by simp [hr]
    rw [hb]
    by_cases hlt : 2 * r < n
    · have e2 : 2 * x / n = 2 * q := by rw [e, Nat.mul_add_div hn, Nat.div_eq_of_lt hlt, Nat.add_zero]
      have e1 : 2 * x % n = 2 * r := by rw [e, Nat.mul_add_mod, Nat.mod_eq_of_lt hlt]
      rw [e1, if_neg (by omega), e2]; omega
    · have e3 : 2 * x = n * (2 * q + 1) + (2 * r - n) := by rw [e, Nat.mul_add n, Nat.mul_one]; omega
      have e2 : 2 * x / n = 2 * q + 1 := by rw [e3, Nat.mul_add_div hn, Nat.div_eq_of_lt (by omega)]
      rw [e2]
      split <;> omega

/-- A quotient of the format, written, is the word nearest to the true quotient. -/
theorem quot_rnd {m n : Nat} {i j : Int} (hm : m ≠ 0) (hn : n ≠ 0) {A B : Nat} (hAB : (A : Int) - B = i - j + 1074) {D : Ieee.Datum}
    (hD : Ieee.Datum.quotient 54 (.number false m i) (.number false n j) = some D) : IsRnd (m * 2 ^ A) (n * 2 ^ B) (Ieee.double.write D) := by
  have p : ∀ x : Nat, 0 < 2 ^ x := fun x => Nat.pow_pos (by omega)
  have hn0 : 0 < n := Nat.pos_of_ne_zero hn
  unfold Ieee.Datum.quotient at hD
  simp only [hn, if_false, Bool.false_bne] at hD
  have hD' := Option.some.inj hD
  subst hD'
  generalize hmo : 54 + n.log2 - m.log2 = more at *
  rw [Nat.shiftLeft_eq, unr_two hn0]
  have hmlo : 2 ^ m.log2 ≤ m := Nat.log2_self_le hm
  have hnhi : n < 2 ^ (n.log2 + 1) := Nat.lt_log2_self
  -- the unrounded quotient
  have e9 : m * 2 ^ (more + 1) = 2 * (m * 2 ^ more) := by rw [Nat.pow_succ]; grind
  have hfl : 2 ^ 54 ≤ 2 * (m * 2 ^ more) / n := by
    rw [Nat.le_div_iff_mul_le hn0]
    have h1 : 2 ^ 54 * n ≤ 2 ^ 54 * 2 ^ (n.log2 + 1) := Nat.mul_le_mul_left _ (Nat.le_of_lt hnhi)
    have h2 : 2 ^ m.log2 * 2 ^ more ≤ m * 2 ^ more := Nat.mul_le_mul_right _ hmlo
    have h3 : 2 ^ 54 * 2 ^ (n.log2 + 1) ≤ 2 * (2 ^ m.log2 * 2 ^ more) := by
      have : 2 * (2 ^ m.log2 * 2 ^ more) = 2 ^ (1 + (m.log2 + more)) := by rw [Nat.pow_add, Nat.pow_add]
      rw [this, ← Nat.pow_add]
      exact Nat.pow_le_pow_right (by omega) (by omega)
    omega
  have hdm := Nat.div_add_mod (2 * (m * 2 ^ more)) n
  have hml := Nat.mod_lt (2 * (m * 2 ^ more)) hn0
  have huge : 2 * (m * 2 ^ more) / n ≤ unr (2 * (m * 2 ^ more)) n := by rw [unr_val]; split <;> omega
  have hmag : unr (2 * (m * 2 ^ more)) n ≠ 0 := by have := p 54; omega
  have hL1 : 2 ^ (unr (2 * (m * 2 ^ more)) n).log2 ≤ unr (2 * (m * 2 ^ more)) n := Nat.log2_self_le hmag
  have hL2 : unr (2 * (m * 2 ^ more)) n < 2 ^ ((unr (2 * (m * 2 ^ more)) n).log2 + 1) := Nat.lt_log2_self
  have hL3 : 54 ≤ (unr (2 * (m * 2 ^ more)) n).log2 := (Nat.le_log2 hmag).2 (Nat.le_trans hfl huge)
  have hlow : n * 2 ^ (unr (2 * (m * 2 ^ more)) n).log2 ≤ m * 2 ^ (more + 1) := by
    have hev : ∃ g, 2 ^ (unr (2 * (m * 2 ^ more)) n).log2 = 2 * g := ⟨2 ^ ((unr (2 * (m * 2 ^ more)) n).log2 - 1), by rw [← Nat.pow_succ']; congr 1; omega⟩
    obtain ⟨g, hg⟩ := hev
    have hfl2 : 2 ^ (unr (2 * (m * 2 ^ more)) n).log2 ≤ 2 * (m * 2 ^ more) / n := by
      have hv := unr_val (2 * (m * 2 ^ more)) n
      rw [hg] at hL1 ⊢
      split at hv <;> omega
    have h5 := (Nat.le_div_iff_mul_le hn0).1 hfl2
    rw [Nat.mul_comm] at h5
    rw [e9]
    exact h5
  have hhigh : m * 2 ^ (more + 1) < n * 2 ^ ((unr (2 * (m * 2 ^ more)) n).log2 + 1) := by
    have h6 : 2 * (m * 2 ^ more) < n * (2 * (m * 2 ^ more) / n + 1) := by rw [Nat.mul_add, Nat.mul_one]; omega
    have h7 : n * (2 * (m * 2 ^ more) / n + 1) ≤ n * 2 ^ ((unr (2 * (m * 2 ^ more)) n).log2 + 1) := Nat.mul_le_mul_left _ (by omega)
    rw [e9]
    exact Nat.lt_of_lt_of_le h6 h7
  have hrq := fun t (ht : 2 ≤ t) => rq_unr (A := 2 * (m * 2 ^ more)) (B := n) (t := t) hn0 ht
  generalize unr (2 * (m * 2 ^ more)) n = U at *
  show IsRnd (m * 2 ^ A) (n * 2 ^ B) (Ieee.double.nearest false U (i - j - more - 1))
  unfold Ieee.Format.nearest
  rw [if_neg hmag]
  have lp : Ieee.double.leastPlace = -1074 := by decide
  have fb : (Ieee.double.fractionBits : Int) = 52 := rfl
  have bn : Ieee.double.binade = 4503599627370496 := by decide
  have ir : Ieee.double.infRung = infW := by decide
  simp only [lp, fb, bn, ir]
  generalize hlast : max (i - j - (more : Int) - 1 + (U.log2 : Int) - 52) (-1074) = last
  rw [cut_even, Nat.shiftLeft_eq]
  unfold Ieee.Format.word
  simp only [Bool.false_eq_true, if_false]
  obtain ⟨k, hk⟩ : ∃ k : Nat, (k : Int) = last + 1074 := ⟨(last + 1074).toNat, by omega⟩
  have e0 : (i - j - (more : Int) - 1 - last).toNat = 0 := by omega
  have e1 : (last - -1074).toNat = k := by omega
  rw [e0, e1, Nat.pow_zero, Nat.mul_one, hrq _ (by omega)]
  refine ⟨k, ?_, ?_, ?_⟩
  · rw [Nat.mul_assoc, ← Nat.pow_add]
    exact pow_lt_shift hhigh (by omega)
  · by_cases h0 : k = 0
    · left; exact h0
    · right
      rw [Nat.mul_assoc, ← Nat.pow_add]
      exact pow_le_shift hlow (by omega)
  · congr 2
    refine rq_ratio (Nat.mul_pos hn0 (p _)) (Nat.mul_pos (Nat.mul_pos hn0 (p _)) (p _)) ?_
    have e2 : 2 * (m * 2 ^ more) * (n * 2 ^ B * 2 ^ k) = m * n * 2 ^ (1 + more + B + k) := by
      rw [Nat.pow_add, Nat.pow_add, Nat.pow_add]; grind
    have e3 : m * 2 ^ A * (n * 2 ^ (last - (i - j - (more : Int) - 1)).toNat) = m * n * 2 ^ (A + (last - (i - j - (more : Int) - 1)).toNat) := by
      rw [Nat.pow_add]; grind
    rw [e2, e3]
    congr 2
    omega

end Go.Proofs.YtamdnnkdnhkghaaGreatDoor

namespace Go.Proofs.YtamdnnkdnhkghaaGreatDoor

theorem dbl_lp : Ieee.double.leastPlace = -1074 := by decide

theorem dbl_bn : Ieee.double.binade = 4503599627370496 := by decide

theorem dbl_ir : Ieee.double.infRung = infW := by decide

theorem dbl_sw : Ieee.double.signWeight = 9223372036854775808 := by decide

/-- What a word below infinity stands for. -/
theorem read_word {k q : Nat} (hq : q < 9007199254740992) (hk : k = 0 ∨ 4503599627370496 ≤ q) (hw : k * 4503599627370496 + q < infW) :
    Ieee.double.read (k * 4503599627370496 + q) = .number false q ((k : Int) - 1074) := by
  unfold Ieee.Format.read
  rw [dbl_sw, dbl_bn, dbl_ir, dbl_lp]
  unfold infW at hw ⊢
  have h1 : (k * 4503599627370496 + q) % 9223372036854775808 = k * 4503599627370496 + q := Nat.mod_eq_of_lt (by omega)
  have h2 : (k * 4503599627370496 + q) / 9223372036854775808 = 0 := Nat.div_eq_of_lt (by omega)
  simp only [h1, h2]
  by_cases hs : k * 4503599627370496 + q < 4503599627370496
  · rw [if_pos hs]
    have hk0 : k = 0 := by omega
    subst hk0
    simp
  · rw [if_neg hs, if_pos hw]
    have e1 : (k * 4503599627370496 + q) / 4503599627370496 = k + q / 4503599627370496 := by
      rw [Nat.add_comm, Nat.add_mul_div_right _ _ (by omega), Nat.add_comm]
    have e2 : (k * 4503599627370496 + q) % 4503599627370496 = q % 4503599627370496 := by
      rw [Nat.add_comm, Nat.add_mul_mod_self_right]
    have e3 : q / 4503599627370496 = 1 := by omega
    have e4 : 4503599627370496 + q % 4503599627370496 = q := by omega
    rw [e1, e2, e3, e4]
    simp
    omega

/-- A whole number below 2^53 made a float stands for itself. -/
theorem read_int {d : Nat} (h0 : d ≠ 0) (h : d < 9007199254740992) : ∃ (q g : Nat), Ieee.double.read (Ieee.double.nearest false d 0) = .number false q (-(g : Int)) ∧ q = d * 2 ^ g ∧ g ≤ 52 := by
  have hlo : 2 ^ d.log2 ≤ d := Nat.log2_self_le h0
  have hhi : d < 2 ^ (d.log2 + 1) := Nat.lt_log2_self
  have hL : d.log2 ≤ 52 := by
    have : 2 ^ d.log2 < 2 ^ 53 := Nat.lt_of_le_of_lt hlo h
    have := (Nat.pow_lt_pow_iff_right (by omega)).1 this
    omega
  have hnear : Ieee.double.nearest false d 0 = (1022 + d.log2) * 4503599627370496 + d * 2 ^ (52 - d.log2) := by
    unfold Ieee.Format.nearest
    rw [if_neg h0]
    have fb : (Ieee.double.fractionBits : Int) = 52 := rfl
    simp only [dbl_lp, fb, dbl_bn, dbl_ir]
    have hlast : max ((0 : Int) + (d.log2 : Int) - 52) (-1074) = (d.log2 : Int) - 52 := by omega
    rw [hlast, cut_even, Nat.shiftLeft_eq]
    unfold Ieee.Format.word
    simp only [Bool.false_eq_true, if_false]
    have e1 : ((d.log2 : Int) - 52 - -1074).toNat = 1022 + d.log2 := by omega
    have e2 : ((0 : Int) - ((d.log2 : Int) - 52)).toNat = 52 - d.log2 := by omega
    have e3 : ((d.log2 : Int) - 52 - 0).toNat = 0 := by omega
    rw [e1, e2, e3]
    have e4 : rq (d * 2 ^ (52 - d.log2)) (2 ^ 0) = d * 2 ^ (52 - d.log2) := by
      unfold rq
      rw [Nat.pow_zero, Nat.div_one, Nat.mod_one]
      simp
    rw [e4]
    have hb : d * 2 ^ (52 - d.log2) < 9007199254740992 := by
      have : d * 2 ^ (52 - d.log2) < 2 ^ (d.log2 + 1) * 2 ^ (52 - d.log2) := Nat.mul_lt_mul_of_pos_right hhi (Nat.pow_pos (by omega))
      rw [← Nat.pow_add, show d.log2 + 1 + (52 - d.log2) = 53 by omega] at this
      exact this
    rw [Nat.min_eq_left (by unfold infW; omega)]
  have hb : d * 2 ^ (52 - d.log2) < 9007199254740992 := by
    have : d * 2 ^ (52 - d.log2) < 2 ^ (d.log2 + 1) * 2 ^ (52 - d.log2) := Nat.mul_lt_mul_of_pos_right hhi (Nat.pow_pos (by omega))
    rw [← Nat.pow_add, show d.log2 + 1 + (52 - d.log2) = 53 by omega] at this
    exact this
  have hb2 : 4503599627370496 ≤ d * 2 ^ (52 - d.log2) := by
    have : 2 ^ d.log2 * 2 ^ (52 - d.log2) ≤ d * 2 ^ (52 - d.log2) := Nat.mul_le_mul_right _ hlo
    rw [← Nat.pow_add, show d.log2 + (52 - d.log2) = 52 by omega] at this
    exact this
  rw [hnear]
  refine ⟨d * 2 ^ (52 - d.log2), 52 - d.log2, ?_, rfl, by omega⟩
  rw [read_word hb (.inr hb2) (by unfold infW; omega)]
  congr 1
  omega

/-- Products and quotients of such floats: what is written is the nearest word. -/
theorem mul_rnd {x y q1 q2 : Nat} {i1 i2 : Int} (hx : Ieee.double.read x = .number false q1 i1) (hy : Ieee.double.read y = .number false q2 i2) (h1 : q1 ≠ 0) (h2 : q2 ≠ 0) {A B : Nat} (hAB : (A : Int) - B = i1 + i2 + 1074) :
    ∃ r, Ieee.double.mul x y = some r ∧ IsRnd (q1 * q2 * 2 ^ A) (2 ^ B) r := by
  unfold Ieee.Format.mul
  rw [hx, hy]
  refine ⟨_, rfl, ?_⟩
  show IsRnd (q1 * q2 * 2 ^ A) (2 ^ B) (Ieee.double.nearest (false ^^ false) (q1 * q2) (i1 + i2))
  exact nearest_rnd (Nat.mul_ne_zero h1 h2) hAB

theorem div_rnd {x y q1 q2 : Nat} {i1 i2 : Int} (hx : Ieee.double.read x = .number false q1 i1) (hy : Ieee.double.read y = .number false q2 i2) (h1 : q1 ≠ 0) (h2 : q2 ≠ 0) {A B : Nat} (hAB : (A : Int) - B = i1 - i2 + 1074) :
    ∃ r, Ieee.double.div x y = some r ∧ IsRnd (q1 * 2 ^ A) (q2 * 2 ^ B) r := by
  unfold Ieee.Format.div
  rw [hx, hy]
  have hq : ∃ D, Ieee.Datum.quotient 54 (.number false q1 i1) (.number false q2 i2) = some D := by
    unfold Ieee.Datum.quotient
    simp only [h2, if_false]
    exact ⟨_, rfl⟩
  obtain ⟨D, hD⟩ := hq
  refine ⟨Ieee.double.write D, ?_, quot_rnd h1 h2 hAB hD⟩
  have : Ieee.double.fractionBits + 2 = 54 := rfl
  rw [this, hD]
  rfl

end Go.Proofs.YtamdnnkdnhkghaaGreatDoor

namespace Go.Proofs.YtamdnnkdnhkghaaGreatDoor

/-- The word x stands for the whole number v. -/
def IsWhole (x v : Nat) : Prop := ∃ (q : Nat) (i : Int), Ieee.double.read x = .number false q i ∧ -60 ≤ i ∧ i ≤ 60 ∧ q * 2 ^ (i + 60).toNat = v * 2 ^ 60 ∧ q ≠ 0

theorem whole_int {d : Nat} (h0 : d ≠ 0) (h : d < 9007199254740992) : IsWhole (Ieee.double.nearest false d 0) d := by
  obtain ⟨q, g, hr, hq, hg⟩ := read_int h0 h
  refine ⟨q, -(g : Int), hr, by omega, by omega, ?_, ?_⟩
  · rw [hq, Nat.mul_assoc, ← Nat.pow_add]
    congr 2
    omega
  · rw [hq]; exact Nat.mul_ne_zero h0 (Nat.pos_iff_ne_zero.1 (Nat.pow_pos (by omega)))

def pow10Words : List Nat := [4607182418800017408, 4621819117588971520, 4636737291354636288, 4652007308841189376, 4666723172467343360, 4681608360884174848, 4696837146684686336, 4711630319722168320, 4726483295884279808, 4741671816366391296, 4756540486875873280, 4771362005757984768, 4786511204640096256, 4801453603149578240, 4816244402031689728, 4831355200913801216, 4846369599423283200, 4861130398305394688, 4876203697187506176, 4891288408196988160, 4906019910204099648, 4921056587992461136, 4936209963552724370]

def wholeB (x v : Nat) : Bool := match Ieee.double.read x with
  | .number false q i => decide (-60 ≤ i ∧ i ≤ 60 ∧ q * 2 ^ (i + 60).toNat = v * 2 ^ 60 ∧ q ≠ 0)
  | _ => false

theorem wholeB_ok {x v : Nat} (h : wholeB x v = true) : IsWhole x v := by
  unfold wholeB at h
  split at h
  · rename_i q i hr
    have := of_decide_eq_true h
    exact ⟨q, i, hr, this.1, this.2.1, this.2.2.1, this.2.2.2⟩
  · cases h

theorem pow10_whole : ∀ k : Fin 23, wholeB (pow10Words.getD k.val 0) (10 ^ k.val) = true := by decide +kernel

theorem whole_mul {x y v u : Nat} (hx : IsWhole x v) (hy : IsWhole y u) {c : Nat} (hc : c = 1074) : ∃ r, Ieee.double.mul x y = some r ∧ IsRnd (v * u * 2 ^ c) 1 r := by
  obtain ⟨q1, i1, r1, a1, b1, e1, n1⟩ := hx
  obtain ⟨q2, i2, r2, a2, b2, e2, n2⟩ := hy
  obtain ⟨r, hr, hrnd⟩ := mul_rnd r1 r2 n1 n2 (A := (i1 + i2 + 1074).toNat) (B := 0) (by omega)
  refine ⟨r, hr, ?_⟩
  rw [Nat.pow_zero] at hrnd
  have e : q1 * q2 * 2 ^ (i1 + i2 + 1074).toNat = v * u * 2 ^ c := by
    obtain ⟨n9, h9⟩ : ∃ n9 : Nat, n9 = 954 := ⟨_, rfl⟩
    have h1 : (i1 + i2 + 1074).toNat = (i1 + 60).toNat + (i2 + 60).toNat + n9 := by omega
    have h2 : c = 60 + 60 + n9 := by omega
    clear h9 hrnd hc
    subst h2
    rw [h1, Nat.pow_add, Nat.pow_add, Nat.pow_add (2 : Nat) (60 + 60), Nat.pow_add]
    generalize 2 ^ n9 = z
    calc q1 * q2 * (2 ^ (i1 + 60).toNat * 2 ^ (i2 + 60).toNat * z) = (q1 * 2 ^ (i1 + 60).toNat) * (q2 * 2 ^ (i2 + 60).toNat) * z := by grind
      _ = (v * 2 ^ 60) * (u * 2 ^ 60) * z := by rw [e1, e2]
      _ = _ := by grind
  rw [e] at hrnd
  exact hrnd

theorem whole_div {x y v u : Nat} (hx : IsWhole x v) (hy : IsWhole y u) {c : Nat} (hc : c = 1074) : ∃ r, Ieee.double.div x y = some r ∧ IsRnd (v * 2 ^ c) u r := by
  obtain ⟨q1, i1, r1, a1, b1, e1, n1⟩ := hx
  obtain ⟨q2, i2, r2, a2, b2, e2, n2⟩ := hy
  obtain ⟨r, hr, hrnd⟩ := div_rnd r1 r2 n1 n2 (A := (i1 - i2 + 1074).toNat) (B := 0) (by omega)
  refine ⟨r, hr, ?_⟩
  rw [Nat.pow_zero, Nat.mul_one] at hrnd
  -- scale both sides by 2^(i2 + 60)
  rw [← IsRnd.scale (c := 2 ^ (i2 + 60).toNat) (Nat.pow_pos (by omega)), e2] at hrnd
  have e : q1 * 2 ^ (i1 - i2 + 1074).toNat * 2 ^ (i2 + 60).toNat = v * 2 ^ c * 2 ^ 60 := by
    have h1 : (i1 - i2 + 1074).toNat + (i2 + 60).toNat = (i1 + 60).toNat + c := by omega
    clear hc hrnd
    rw [Nat.mul_assoc, ← Nat.pow_add, h1, Nat.pow_add, ← Nat.mul_assoc, e1]
    generalize 2 ^ c = z
    grind
  rw [e] at hrnd
  exact (IsRnd.scale (Nat.pow_pos (by omega))).1 hrnd

end Go.Proofs.YtamdnnkdnhkghaaGreatDoor

namespace Go.Proofs.YtamdnnkdnhkghaaGreatDoor

theorem rnd_fin {N d W a : Nat} (hd : 0 < d) (ha : a ≤ 2096) (h : N < d * 2 ^ a) (hw : IsRnd N d W) : W < infW := by
  obtain ⟨k, h1, h2, h3⟩ := hw
  have hD : 0 < d * 2 ^ k := Nat.mul_pos hd (Nat.pow_pos (by omega))
  have hk : k ≤ 2043 := by
    rcases h2 with h2 | h2
    · rw [h2]; exact Nat.zero_le _
    · have h4 : d * 2 ^ (52 + k) < d * 2 ^ a := Nat.lt_of_le_of_lt h2 h
      have h5 : 2 ^ (52 + k) < 2 ^ a := Nat.lt_of_mul_lt_mul_left h4
      have h6 := (Nat.pow_lt_pow_iff_right (show 1 < 2 from Nat.lt_succ_self 1)).1 h5
      clear h h1 h2 h3 h4 h5 hD
      omega
  clear h
  have hq : rq N (d * 2 ^ k) ≤ 9007199254740992 := by
    refine rq_le hD ?_
    have e : d * 2 ^ (53 + k) = d * 2 ^ k * 9007199254740992 := by rw [Nat.pow_add, Nat.mul_comm (2 ^ 53), ← Nat.mul_assoc]
    rw [e] at h1
    exact Nat.le_of_lt h1
  rw [h3]
  generalize rq N (d * 2 ^ k) = q at *
  clear h1 h2 h3 hD
  unfold infW
  omega

theorem whole_of_rnd {v r c : Nat} (h0 : v ≠ 0) (hv : v < 9007199254740992) (hc : c = 1074) (h : IsRnd (v * 2 ^ c) 1 r) : IsWhole r v := by
  have h2 := nearest_rnd (mag := v) (place := 0) h0 (A := c) (B := 0) (by omega)
  rw [Nat.pow_zero] at h2
  rw [IsRnd.unique h h2]
  exact whole_int h0 hv

theorem read_1e15 : Ieee.double.read 4831355200913801216 = .number false 8000000000000000 (-3) := by decide +kernel

theorem some_gt {X Y : Nat} (h : Y < X) : some (compare (X : Int) (Y : Int)) = some Ordering.gt := by
  have : compare (X : Int) (Y : Int) = .gt := by
    show compareOfLessAndEq (X : Int) (Y : Int) = .gt
    unfold compareOfLessAndEq
    rw [if_neg (by omega), if_neg (by omega)]
  rw [this]

/-- A product of 2^53 or more is greater than 10^15. -/
theorem order_gt {v r c : Nat} (hv : 9007199254740992 ≤ v) (hc : c = 1074) (h : IsRnd (v * 2 ^ c) 1 r) : Ieee.double.order r 4831355200913801216 = some .gt := by
  obtain ⟨k, h1, h2, h3⟩ := h
  rw [Nat.one_mul] at h1 h2
  have hk : 1075 ≤ k := by
    have h4 : 2 ^ (53 + c) < 2 ^ (53 + k) := by
      refine Nat.lt_of_le_of_lt ?_ h1
      rw [Nat.pow_add]
      exact Nat.mul_le_mul_right _ hv
    have h6 := (Nat.pow_lt_pow_iff_right (show 1 < 2 from Nat.lt_succ_self 1)).1 h4
    clear h1 h2 h3 h4
    omega
  have hlow : 2 ^ (52 + k) ≤ v * 2 ^ c := by
    rcases h2 with h2 | h2
    · clear h1 h3; omega
    · exact h2
  have hD : 0 < 1 * 2 ^ k := Nat.mul_pos (by omega) (Nat.pow_pos (by omega))
  have hq1 : 4503599627370496 ≤ rq (v * 2 ^ c) (1 * 2 ^ k) := by
    refine rq_ge' hD ?_
    rw [Nat.one_mul]
    have e : 2 ^ (52 + k) = 2 ^ k * 4503599627370496 := by rw [Nat.pow_add, Nat.mul_comm]
    rw [e] at hlow
    exact hlow
  have hq2 : rq (v * 2 ^ c) (1 * 2 ^ k) ≤ 9007199254740992 := by
    refine rq_le hD ?_
    rw [Nat.one_mul]
    have e : 2 ^ (53 + k) = 2 ^ k * 9007199254740992 := by rw [Nat.pow_add, Nat.mul_comm]
    rw [e] at h1
    exact Nat.le_of_lt h1
  generalize rq (v * 2 ^ c) (1 * 2 ^ k) = q at *
  clear h1 h2 hlow hD
  unfold Ieee.Format.order
  rw [read_1e15]
  have big : ∀ (k q : Nat), 1075 ≤ k → 4503599627370496 ≤ q → q < 9007199254740992 → k * 4503599627370496 + q < infW →
      Ieee.Datum.order (Ieee.double.read (k * 4503599627370496 + q)) (.number false 8000000000000000 (-3)) = some .gt := by
    intro k q hk hq1 hq2 hw
    rw [read_word hq2 (.inr hq1) hw]
    unfold Ieee.Datum.order
    have hmin : min ((k : Int) - 1074) (-3) = -3 := by omega
    simp only [hmin]
    have e1 : ((-3 : Int) - -3).toNat = 0 := by decide
    rw [e1]
    unfold Ieee.signed
    simp only [Bool.false_eq_true, if_false]
    rw [Nat.shiftLeft_eq, Nat.shiftLeft_zero]
    have hp : 1 ≤ 2 ^ ((k : Int) - 1074 - -3).toNat := Nat.one_le_two_pow
    have h2 : 2 ^ 1 ≤ 2 ^ ((k : Int) - 1074 - -3).toNat := Nat.pow_le_pow_right (by omega) (by omega)
    have h3 : q * 2 ≤ q * 2 ^ ((k : Int) - 1074 - -3).toNat := Nat.mul_le_mul_left _ h2
    generalize q * 2 ^ ((k : Int) - 1074 - -3).toNat = X at *
    exact some_gt (by omega)
  by_cases hinf : infW ≤ k * 4503599627370496 + q
  · rw [h3, Nat.min_eq_right hinf]
    have : Ieee.double.read infW = .infinity false := by decide +kernel
    rw [this]
    rfl
  · rw [h3, Nat.min_eq_left (by omega)]
    by_cases hq3 : q < 9007199254740992
    · exact big k q hk hq1 hq3 (by omega)
    · have hq4 : q = 9007199254740992 := by omega
      subst hq4
      have e : k * 4503599627370496 + 9007199254740992 = (k + 1) * 4503599627370496 + 4503599627370496 := by omega
      rw [e]
      exact big (k + 1) 4503599627370496 (by omega) (by omega) (by omega) (by omega)

end Go.Proofs.YtamdnnkdnhkghaaGreatDoor
