import Derived.Test.YtamdnnkdnhkghaaGreatDoorP10
namespace Go.Proofs.YtamdnnkdnhkghaaGreatDoor

open Go Go.RowKit

set_option linter.unusedVariables false

/-- The first r digits as a number, noughts behind the last. -/
def Pz (D : Nat → Int) (nd r : Nat) : Nat := dv D (min r nd) * 10 ^ (r - nd)

theorem pz_le {D : Nat → Int} {nd r : Nat} (h : r ≤ nd) : Pz D nd r = dv D r := by
  unfold Pz; rw [Nat.min_eq_left h, show r - nd = 0 by omega, Nat.pow_zero, Nat.mul_one]

theorem pz_ge {D : Nat → Int} {nd r : Nat} (h : nd ≤ r) : Pz D nd r = dv D nd * 10 ^ (r - nd) := by
  unfold Pz; rw [Nat.min_eq_right h]

theorem pz_lt {D : Nat → Int} {nd r : Nat} (h : r < nd) : Pz D nd (r + 1) = Pz D nd r * 10 + dgt D r := by
  rw [pz_le (by omega), pz_le (by omega)]; rfl

theorem pz_out {D : Nat → Int} {nd r : Nat} (h : nd ≤ r) : Pz D nd (r + 1) = Pz D nd r * 10 + 0 := by
  rw [pz_ge h, pz_ge (by omega), show r + 1 - nd = r - nd + 1 by omega, Nat.pow_succ, Nat.mul_assoc, Nat.add_zero]

/-- t digits of the quotient have been made, n is the rest. -/
def RSt (D : Nat → Int) (nd k r t n : Nat) (D' : Nat → Int) (tr tr' : Bool) : Prop :=
  ∃ R, Pz D nd r = n + 10 * 2 ^ k * (dv D' (min t 800) * 10 ^ (t - 800) + R) ∧ R < 10 ^ (t - 800) ∧ OkDig D' (min t 800) ∧ (t ≠ 0 → D' 0 ≠ 48) ∧ (t = 0 → 2 ^ k ≤ n) ∧ n < 10 * 2 ^ k ∧ tr' = (tr || decide (R ≠ 0))

theorem rst_start {D D' : Nat → Int} {nd k r n : Nat} {tr : Bool} (hn : Pz D nd r = n) (h1 : 2 ^ k ≤ n) (h2 : n < 10 * 2 ^ k) : RSt D nd k r 0 n D' tr tr := by
  refine ⟨0, ?_, by simp, fun i hi => by omega, fun h => absurd rfl h, fun _ => h1, h2, by simp⟩
  simp [dv, hn]

theorem rst_num {P n c : Nat} (hc : c ≤ 9) : (n % P) * 10 + c < 10 * P ∨ P = 0 := by
  by_cases h : P = 0
  · exact .inr h
  · have := Nat.mod_lt n (Nat.pos_of_ne_zero h); left; omega

theorem rst_alg {P n c d S pr pr' : Nat} (h : pr = n + 10 * P * S) (hpr : pr' = pr * 10 + c) (hd : d = n / P) : pr' = ((n % P) * 10 + c) + 10 * P * (S * 10 + d) := by
  have e := Nat.div_add_mod n P
  rw [← hd] at e
  rw [hpr, h, Nat.mul_add, Nat.add_mul]
  have e2 : 10 * P * S * 10 = 10 * P * (S * 10) := by rw [Nat.mul_assoc (10 * P)]
  have e3 : 10 * P * d = 10 * (P * d) := Nat.mul_assoc _ _ _
  rw [e2, e3]
  generalize 10 * P * (S * 10) = y
  generalize P * d = z at *
  omega

theorem rst_put {D D' : Nat → Int} {nd k r t n c d n' : Nat} {tr tr' : Bool} (h : RSt D nd k r t n D' tr tr') (ht : t < 800) (hpz : Pz D nd (r + 1) = Pz D nd r * 10 + c) (hc : c ≤ 9) (hd : d = n / 2 ^ k) (hn' : n' = (n % 2 ^ k) * 10 + c) :
    RSt D nd k (r + 1) (t + 1) n' (updD D' t (d + 48)) tr tr' ∧ d ≤ 9 := by
  obtain ⟨R, h1, h2, h3, h4, h5, h6, h7⟩ := h
  have hp : 0 < 2 ^ k := Nat.pow_pos (by omega)
  have hd9 : d ≤ 9 := by
    have : n / 2 ^ k < 10 := Nat.div_lt_of_lt_mul (by rw [Nat.mul_comm]; exact h6)
    omega
  have m1 : min t 800 = t := Nat.min_eq_left (by omega)
  have m2 : min (t + 1) 800 = t + 1 := Nat.min_eq_left (by omega)
  have z1 : t - 800 = 0 := Nat.sub_eq_zero_of_le (Nat.le_of_lt ht)
  have z2 : t + 1 - 800 = 0 := Nat.sub_eq_zero_of_le ht
  rw [m1] at h1 h3
  rw [z1, Nat.pow_zero] at h1 h2
  have hR : R = 0 := by omega
  subst hR
  refine ⟨⟨0, ?_, p10 _, fun i hi => ?_, fun _ => ?_, fun h => by omega, ?_, h7⟩, hd9⟩
  · rw [m2, z2, Nat.pow_zero, Nat.mul_one, Nat.add_zero, dv_snoc, hn', show ((d : Int) + 48 - 48).toNat = d by omega]
    rw [Nat.mul_one, Nat.add_zero] at h1
    exact rst_alg h1 hpz hd
  · rw [m2] at hi
    by_cases e : i = t
    · subst e; rw [updD_same]; omega
    · rw [updD_other e]; exact h3 i (by omega)
  · by_cases e : t = 0
    · subst e
      rw [updD_same]
      have h8 := h5 rfl
      have : 1 ≤ n / 2 ^ k := (Nat.one_le_div_iff hp).2 h8
      omega
    · rw [updD_other (by omega)]; exact h4 e
  · rw [hn']
    have := rst_num (P := 2 ^ k) (n := n) hc
    omega

theorem rst_drop {D D' : Nat → Int} {nd k r t n c d n' : Nat} {tr tr' tr'' : Bool} (h : RSt D nd k r t n D' tr tr') (ht : 800 ≤ t) (hpz : Pz D nd (r + 1) = Pz D nd r * 10 + c) (hc : c ≤ 9) (hd : d = n / 2 ^ k) (hn' : n' = (n % 2 ^ k) * 10 + c)
    (htr : tr'' = (tr' || decide (d ≠ 0))) : RSt D nd k (r + 1) (t + 1) n' D' tr tr'' ∧ d ≤ 9 := by
  obtain ⟨R, h1, h2, h3, h4, h5, h6, h7⟩ := h
  have hp : 0 < 2 ^ k := Nat.pow_pos (by omega)
  have hd9 : d ≤ 9 := by
    have : n / 2 ^ k < 10 := Nat.div_lt_of_lt_mul (by rw [Nat.mul_comm]; exact h6)
    omega
  have m1 : min t 800 = 800 := Nat.min_eq_right (by omega)
  have m2 : min (t + 1) 800 = 800 := Nat.min_eq_right (by omega)
  have z2 : 10 ^ (t + 1 - 800) = 10 ^ (t - 800) * 10 := by rw [show t + 1 - 800 = (t - 800) + 1 by omega, Nat.pow_succ]
  rw [m1] at h1 h3
  refine ⟨⟨R * 10 + d, ?_, by rw [z2]; omega, by rw [m2]; exact h3, fun _ => h4 (by omega), fun h => by omega, ?_, ?_⟩, hd9⟩
  · rw [m2, z2, hn', ← Nat.mul_assoc, ← Nat.add_assoc, ← Nat.add_mul]
    exact rst_alg h1 hpz hd
  · rw [hn']
    have := rst_num (P := 2 ^ k) (n := n) hc
    omega
  · have key : (decide (R ≠ 0) || decide (d ≠ 0)) = decide (R * 10 + d ≠ 0) := by
      by_cases hR : R = 0
      · simp [hR]
      · simp [hR]; omega
    rw [htr, h7, Bool.or_assoc, key]

theorem rst_end {D D' : Nat → Int} {nd k r r0 t : Nat} {dp : Int} {tr tr' : Bool} (h : RSt D nd k r t 0 D' tr tr') (hr : nd ≤ r) (hr2 : r ≤ nd + k + 1) (hrt : r = r0 + t) (hnd : (nd : Int) = (nd : Int)) :
    Shf (dv D nd * 5 ^ k) (dp - nd - k) tr D' (trimN D' (min t 800)) (trimDp (trimN D' (min t 800)) (dp - ((r0 : Int) - 1))) tr' := by
  obtain ⟨R, h1, h2, h3, h4, h5, h6, h7⟩ := h
  have hp : 0 < 2 ^ k := Nat.pow_pos (by omega)
  have ht : t ≠ 0 := by intro e; have := h5 e; omega
  rw [pz_ge hr, Nat.zero_add] at h1
  have hX : dv D nd * 5 ^ k = (dv D' (min t 800) * 10 ^ (t - 800) + R) * 10 ^ (k + 1 - (r - nd)) := by
    refine Nat.eq_of_mul_eq_mul_right (Nat.mul_pos (p10 (r - nd)) hp) ?_
    have e10 : 2 ^ k * 5 ^ k = 10 ^ k := by rw [← Nat.mul_pow]
    calc dv D nd * 5 ^ k * (10 ^ (r - nd) * 2 ^ k) = dv D nd * 10 ^ (r - nd) * (2 ^ k * 5 ^ k) := by
            generalize dv D nd = a; generalize 5 ^ k = b; generalize 10 ^ (r - nd) = c; generalize 2 ^ k = d
            rw [Nat.mul_assoc, Nat.mul_assoc, Nat.mul_left_comm b c, Nat.mul_comm b d]
      _ = 10 * 2 ^ k * (dv D' (min t 800) * 10 ^ (t - 800) + R) * 10 ^ k := by rw [h1, e10]
      _ = (dv D' (min t 800) * 10 ^ (t - 800) + R) * (10 ^ (k + 1)) * 2 ^ k := by
            rw [Nat.pow_succ]
            generalize dv D' (min t 800) * 10 ^ (t - 800) + R = a; generalize 10 ^ k = b; generalize 2 ^ k = d
            simp only [Nat.mul_comm, Nat.mul_left_comm]
      _ = (dv D' (min t 800) * 10 ^ (t - 800) + R) * 10 ^ (k + 1 - (r - nd)) * (10 ^ (r - nd) * 2 ^ k) := by
            rw [show 10 ^ (k + 1) = 10 ^ (k + 1 - (r - nd)) * 10 ^ (r - nd) by rw [← Nat.pow_add]; congr 1; omega]
            simp only [Nat.mul_assoc]
  by_cases h8 : t ≤ 800
  · have z1 : t - 800 = 0 := by omega
    rw [z1, Nat.pow_zero] at h2
    have hR : R = 0 := by omega
    rw [hR, z1, Nat.pow_zero, Nat.mul_one, Nat.add_zero] at hX
    refine shf_of_z (j := 0) (r := R) (z := k + 1 - (r - nd)) h3 (by omega) (by omega) (h4 ht) ?_ (by rw [hR]; exact Nat.one_pos) ?_ (.inl rfl) h7
    · rw [hX, hR, Nat.pow_zero, Nat.mul_one]; exact (Nat.add_zero _).symm
    · rw [Nat.min_eq_left h8]; omega
  · have hm : min t 800 = 800 := Nat.min_eq_right (by omega)
    refine shf_of_z (j := t - 800 + (k + 1 - (r - nd))) (r := R * 10 ^ (k + 1 - (r - nd))) (z := 0) h3 (by omega) (by omega) (h4 ht) ?_ ?_ ?_ (.inr hm) ?_
    · rw [hX, Nat.add_mul, Nat.pow_zero, Nat.mul_one, Nat.mul_assoc, ← Nat.pow_add]
    · rw [Nat.pow_add]; exact Nat.mul_lt_mul_of_pos_right h2 (p10 _)
    · rw [hm]; omega
    · rw [h7]
      congr 1
      have hq := p10 (k + 1 - (r - nd))
      generalize 10 ^ (k + 1 - (r - nd)) = q at *
      by_cases hR : R = 0
      · simp [hR]
      · have : R * q ≠ 0 := Nat.mul_ne_zero hR (by omega)
        simp [hR, this]

theorem dvd_round {r nd k n : Nat} (hr : nd ≤ r) (h : 2 ^ (min (r - nd) k) ∣ n) : 2 ^ (min (r + 1 - nd) k) ∣ (n % 2 ^ k) * 10 + 0 := by
  rw [Nat.add_zero]
  by_cases hk : k ≤ r - nd
  · rw [Nat.min_eq_right hk] at h
    rw [Nat.mod_eq_zero_of_dvd h, Nat.zero_mul]
    exact Nat.dvd_zero _
  · rw [Nat.min_eq_left (by omega)] at h
    rw [Nat.min_eq_left (by omega), show r + 1 - nd = (r - nd) + 1 by omega, Nat.pow_succ]
    refine Nat.mul_dvd_mul ?_ (by decide)
    exact (Nat.dvd_mod_iff (Nat.pow_dvd_pow 2 (by omega))).2 h

theorem dvd_last {r nd k n : Nat} (hr : r = nd + k) (h : 2 ^ (min (r - nd) k) ∣ n) : (n % 2 ^ k) * 10 + 0 = 0 := by
  rw [Nat.min_eq_right (by omega)] at h
  rw [Nat.mod_eq_zero_of_dvd h]

/-- The numbers of the rounds of 'rightShift'. -/
theorem rs_next {n P m : Nat} {x : Int} (hP : P ≤ 1152921504606846976) (hn : n < P) (hx1 : 48 ≤ x) (hx2 : x ≤ 57) (hm : m = n * 10 + (x - 48).toNat) :
    IntKind.u64.wrap (IntKind.u64.wrap (IntKind.u64.wrap ((n : Int) * 10) + x) - 48) = (m : Int) := by
  rw [u64_id (x := (n : Int) * 10) (by omega) (by omega), u64_id (x := (n : Int) * 10 + x) (by omega) (by omega), u64_id (by omega) (by omega)]
  omega

theorem rs_ten {n P m : Nat} (hP : P ≤ 1152921504606846976) (hn : n < P) (hm : m = n * 10) : IntKind.u64.wrap ((n : Int) * 10) = (m : Int) := by
  rw [u64_id (x := (n : Int) * 10) (by omega) (by omega)]
  omega

theorem rs_div (n k : Nat) {d : Nat} (hd : d = n / 2 ^ k) : (n : Int) / 2 ^ k = (d : Int) := by
  have e2k : ((2 ^ k : Nat) : Int) = (2 : Int) ^ k := by simp
  rw [← e2k, hd]
  exact (Int.natCast_ediv n (2 ^ k)).symm

theorem rs_mask {k mk : Nat} (hP : 2 ^ k ≤ 1152921504606846976) (hp : 0 < 2 ^ k) (hm : mk = 2 ^ k - 1) : IntKind.u64.wrap (IntKind.u64.wrap (2 ^ k) - 1) = (mk : Int) := by
  have e2k : ((2 ^ k : Nat) : Int) = (2 : Int) ^ k := by simp
  rw [← e2k]
  generalize 2 ^ k = P at *
  rw [u64_id (x := (P : Int)) (by omega) (by omega), u64_id (by omega) (by omega)]
  omega

theorem rs_and {n k mk a : Nat} (hP : 2 ^ k ≤ 1152921504606846976) (hn : n < 10 * 2 ^ k) (hm : mk = 2 ^ k - 1) (ha : a = n % 2 ^ k) : bits .and .u64 (n : Int) (mk : Int) = (a : Int) := by
  rw [u64_and_nat n mk (by omega) (by omega), hm, Nat.and_two_pow_sub_one_eq_mod, ha]

theorem rs_byte {d : Nat} (hd : d ≤ 9) : IntKind.u64.wrap ((d : Int) + 48) % 256 = (d : Int) + 48 := by
  rw [u64_id (by omega) (by omega)]; omega

theorem rs_t {n k : Nat} (h : n < 2 ^ k) : ((n : Int) / 2 ^ k == 0) = true := by
  rw [rs_div n k rfl, Nat.div_eq_of_lt h]; rfl

theorem rs_f {n k : Nat} (hp : 0 < 2 ^ k) (h : 2 ^ k ≤ n) : ((n : Int) / 2 ^ k == 0) = false := by
  rw [rs_div n k rfl, beq_eq_false_iff_ne]
  have := (Nat.one_le_div_iff hp).2 h
  omega

end Go.Proofs.YtamdnnkdnhkghaaGreatDoor
