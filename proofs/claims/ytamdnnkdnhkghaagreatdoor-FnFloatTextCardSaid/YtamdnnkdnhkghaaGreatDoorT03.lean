import Derived.Test.YtamdnnkdnhkghaaGreatDoorT02
namespace Go.Proofs.YtamdnnkdnhkghaaGreatDoor

/-- 2^64 and 2^128, by name. -/
def T64 : Nat := 18446744073709551616

def T128 : Nat := 340282366920938463463374607431768211456

theorem t128 : T128 = T64 * T64 := by decide

/-- What 'uscale' reckons. -/
def usc (x hi lo s : Nat) : Nat :=
  if x * hi / T64 / 2 ^ s * 2 ^ s ≠ x * hi / T64 then x * hi / T64 / 2 ^ s ||| 1
  else (x * hi / T64 - (if x * hi % T64 < x * lo / T64 then 1 else 0)) / 2 ^ s ||| (if 1 < (x * hi % T64 + T64 - x * lo / T64) % T64 then 1 else 0)

/-- A / B, the last bit set where anything is left over. -/
def unr (A B : Nat) : Nat := if A % B = 0 then A / B else A / B ||| 1

theorem unr_in {A B h : Nat} (h1 : h * B < A) (h2 : A < (h + 1) * B) : unr A B = h ||| 1 := by
  have hB : 0 < B := by
    rcases Nat.eq_zero_or_pos B with e | e
    · subst e; simp at h2
    · exact e
  have hd : A / B = h := by
    refine Nat.le_antisymm (Nat.le_of_lt_succ ((Nat.div_lt_iff_lt_mul hB).2 h2)) ((Nat.le_div_iff_mul_le hB).2 (Nat.le_of_lt h1))
  unfold unr
  rw [if_neg, hd]
  intro e
  have := Nat.div_add_mod A B
  rw [hd, e, Nat.mul_comm] at this
  omega

theorem unr_exact {A B h : Nat} (hB : 0 < B) (h1 : A = h * B) : unr A B = h := by
  subst h1
  unfold unr
  rw [if_pos (Nat.mul_mod_left _ _), Nat.mul_div_cancel _ hB]

/-- What the three numbers know of each other: P = x * pm in the form of the machine's words. -/
theorem usc_cases {x hi lo S a b P : Nat} (hx1 : 9223372036854775808 ≤ x) (hx2 : x < T64) (hlo : lo < T64) (hS : 2 ≤ S) (hb : 0 < b)
    (hP : P + x * lo = x * hi * T64) (ha1 : x * a ≤ b * P) (ha2 : b * P < x * a + b * x) (hbig : 0 < x * hi / T64)
    (hfar : ∀ h, x * hi / T64 = h * S → x * lo / T64 ≤ x * hi % T64 → x * hi % T64 ≤ x * lo / T64 + 1 → x * a = h * (b * (S * T128))) :
    (if x * hi / T64 / S * S ≠ x * hi / T64 then x * hi / T64 / S ||| 1
      else (x * hi / T64 - (if x * hi % T64 < x * lo / T64 then 1 else 0)) / S ||| (if 1 < (x * hi % T64 + T64 - x * lo / T64) % T64 then 1 else 0)) = unr (x * a) (b * (S * T128)) := by
  have e64 : T64 = 18446744073709551616 := rfl
  have e128 : T128 = 340282366920938463463374607431768211456 := rfl
  have hH := Nat.div_add_mod (x * hi) T64
  have hm1 : x * hi % T64 < T64 := Nat.mod_lt _ (by omega)
  have hL := Nat.div_add_mod (x * lo) T64
  have hm2 : x * lo % T64 < T64 := Nat.mod_lt _ (by omega)
  have hxlo : x * lo ≤ (T64 - 1) * (T64 - 1) := Nat.mul_le_mul (by omega) (by omega)
  have hPP : P + x * lo = x * hi / T64 * T128 + x * hi % T64 * T64 := by
    rw [hP, t128]
    conv => lhs; rw [← hH]
    rw [Nat.add_mul, Nat.mul_comm T64, Nat.mul_assoc]
  generalize x * hi / T64 = H at *
  generalize x * hi % T64 = mid at *
  generalize hxl : x * lo = XL at *
  generalize XL / T64 = mid2 at *
  generalize XL % T64 = f at *
  have hHS := Nat.div_add_mod H S
  have hHm : H % S < S := Nat.mod_lt _ (by omega)
  have mulS : ∀ k, k * (b * (S * T128)) = b * (k * S * T128) := by intro k; rw [Nat.mul_left_comm, Nat.mul_assoc]
  by_cases h1 : H / S * S ≠ H
  · rw [if_pos h1]
    have hr : H % S ≠ 0 := by
      intro e; apply h1; rw [e, Nat.mul_comm] at hHS; omega
    generalize H / S = h at *
    symm
    have hHeq : H = h * S + H % S := by rw [Nat.mul_comm]; omega
    generalize hk : h * S = K at *
    refine unr_in ?_ ?_
    · rw [mulS, hk]
      have hp : K * T128 + x ≤ P := by
        clear hP ha1 ha2 hfar mulS hHS hk
        rw [e64] at hxlo hx2 hm1 hPP
        rw [e128] at hPP ⊢
        omega
      have : b * (K * T128 + x) ≤ b * P := Nat.mul_le_mul_left _ hp
      rw [Nat.mul_add] at this
      omega
    · rw [mulS, Nat.add_mul, hk, Nat.one_mul]
      have hp : P < (K + S) * T128 := by
        clear hP ha1 ha2 hfar mulS hHS hk
        rw [e64] at hxlo hx2 hm1 hPP
        rw [e128] at hPP ⊢
        omega
      have : b * P < b * ((K + S) * T128) := Nat.mul_lt_mul_of_pos_left hp hb
      omega
  · rw [if_neg h1]
    have hKS : H = H / S * S := by
      by_cases e : H / S * S = H
      · exact e.symm
      · exact absurd e h1
    generalize H / S = h at *
    have hpos : 0 < h := by
      rcases Nat.eq_zero_or_pos h with e | e
      · subst e; rw [Nat.zero_mul] at hKS; omega
      · exact e
    generalize hk : h * S = K at *
    subst hKS
    by_cases h2 : mid < mid2
    · rw [if_pos h2]
      have hst : 1 < (mid + T64 - mid2) % T64 := by
        clear hP ha1 ha2 hfar mulS hHS hk hPP
        rw [e64] at hxlo hx2 hm1 hL hm2 ⊢
        omega
      rw [if_pos hst]
      have hdv : (H - 1) / S = h - 1 := by
        have e : H - 1 = S * (h - 1) + (S - 1) := by
          have e3 : S * (h - 1) = S * h - S := by rw [Nat.mul_sub, Nat.mul_one]
          have e4 : S * h = H := by rw [Nat.mul_comm]; exact hk
          have e5 : S * 1 ≤ S * h := Nat.mul_le_mul_left _ hpos
          rw [e3, e4]; rw [e4] at e5; omega
        rw [e, Nat.mul_add_div (by omega), Nat.div_eq_of_lt (by omega), Nat.add_zero]
      rw [hdv]
      symm
      refine unr_in ?_ ?_
      · rw [mulS]
        have hk1 : (h - 1) * S = H - S := by rw [Nat.sub_mul, Nat.one_mul, hk]
        rw [hk1]
        have hp : (H - S) * T128 + x ≤ P := by
          clear hP ha1 ha2 hfar mulS hHS hk hdv hk1
          rw [e64] at hxlo hx2 hm1 hPP hL
          rw [e128] at hPP ⊢
          omega
        have : b * ((H - S) * T128 + x) ≤ b * P := Nat.mul_le_mul_left _ hp
        rw [Nat.mul_add] at this
        omega
      · have e1 : h - 1 + 1 = h := by omega
        rw [e1, mulS, hk]
        have hp : P < H * T128 := by
          clear hP ha1 ha2 hfar mulS hHS hk hdv
          rw [e64] at hxlo hx2 hm1 hPP hL
          rw [e128] at hPP ⊢
          omega
        have : b * P < b * (H * T128) := Nat.mul_lt_mul_of_pos_left hp hb
        omega
    · rw [if_neg h2]
      have hdv : (H - 0) / S = h := by rw [Nat.sub_zero, ← hk, Nat.mul_div_cancel _ (by omega)]
      rw [hdv]
      by_cases h3 : mid ≤ mid2 + 1
      · have hst : ¬ 1 < (mid + T64 - mid2) % T64 := by
          clear hP ha1 ha2 hfar mulS hHS hk hPP
          rw [e64] at hxlo hx2 hm1 hL hm2 ⊢
          omega
        rw [if_neg hst, Nat.or_zero]
        symm
        exact unr_exact (Nat.mul_pos hb (Nat.mul_pos (by omega) (by rw [e128]; omega))) (hfar h hk.symm (by omega) h3)
      · have hst : 1 < (mid + T64 - mid2) % T64 := by
          clear hP ha1 ha2 hfar mulS hHS hk hPP
          rw [e64] at hxlo hx2 hm1 hL hm2 ⊢
          omega
        rw [if_pos hst]
        symm
        refine unr_in ?_ ?_
        · rw [mulS, hk]
          have hp : H * T128 + x ≤ P := by
            clear hP ha1 ha2 hfar mulS hHS hk hdv
            rw [e64] at hxlo hx2 hm1 hPP hL hm2
            rw [e128] at hPP ⊢
            omega
          have : b * (H * T128 + x) ≤ b * P := Nat.mul_le_mul_left _ hp
          rw [Nat.mul_add] at this
          omega
        · rw [mulS, Nat.add_mul, hk, Nat.one_mul]
          have hp : P < (H + S) * T128 := by
            clear hP ha1 ha2 hfar mulS hHS hk hdv
            rw [e64] at hxlo hx2 hm1 hPP hL
            rw [e128] at hPP ⊢
            omega
          have : b * P < b * ((H + S) * T128) := Nat.mul_lt_mul_of_pos_left hp hb
          omega

def rowAt (p : Int) : Nat × Nat := Go.Pinned.pow10Rows.getD (p + 348).toNat (0, 0)

def hiRows : Bool := (List.range 696).all fun i => decide (9223372036854775808 ≤ (Go.Pinned.pow10Rows.getD i (0, 0)).1)

set_option maxRecDepth 100000 in
theorem hiRows_ok : hiRows = true := by decide +kernel

def smallRows : Bool := (List.range 28).all fun i => decide ((Go.Pinned.pow10Rows.getD (348 + i) (0, 0)).2 = 0 ∧ (Go.Pinned.pow10Rows.getD (348 + i) (0, 0)).1 % 2 = 0 ∧ denT i = 1)

set_option maxRecDepth 100000 in
theorem smallRows_ok : smallRows = true := by decide +kernel

def negRows : Bool := (List.range 31).all fun i => decide (36893488147419103232 * 10 ^ i ≤ 2 ^ (127 - lp10 (-(i : Int))).toNat ∧ 36893488147419103232 * 10 ^ i ≤ 2 ^ (136 + i) ∧ (lp10 (-(i : Int)) - 127).toNat = 0)

set_option maxRecDepth 100000 in
theorem negRows_ok : negRows = true := by decide +kernel

theorem all_range {n : Nat} {f : Nat → Bool} (h : (List.range n).all f = true) {i : Nat} (hi : i < n) : f i = true :=
  (List.all_eq_true.1 h) i (List.mem_range.2 hi)

theorem row_ok {p : Int} (h1 : -348 ≤ p) (h2 : p ≤ 347) : rowOk p (rowAt p) = true := by
  have := all_range allRows_ok (i := (p + 348).toNat) (by omega)
  have e : (((p + 348).toNat : Nat) : Int) - 348 = p := by omega
  rw [e] at this
  exact this

theorem row_hi {p : Int} (h1 : -348 ≤ p) (h2 : p ≤ 347) : 9223372036854775808 ≤ (rowAt p).1 := by
  have := all_range hiRows_ok (i := (p + 348).toNat) (by omega)
  exact of_decide_eq_true this

theorem row_far {p : Int} (h1 : -345 ≤ p) (h2 : p ≤ 310) (h3 : p < -30 ∨ 27 < p) : farOk (rowAt p) = true := by
  have := all_range farRows_ok (i := (p + 348).toNat) (by omega)
  simp only [Bool.or_eq_true, Bool.and_eq_true, decide_eq_true_eq] at this
  rcases this with ((h | h) | h) | h
  · omega
  · omega
  · omega
  · exact h

theorem multiple_zero {g u v d : Nat} (hu : g ∣ u) (hv : g ∣ v) (h1 : u < v + d) (h2 : v < u + d) (hd : d ≤ g) : u = v := by
  obtain ⟨m, rfl⟩ := hu
  obtain ⟨n, rfl⟩ := hv
  rcases Nat.lt_trichotomy m n with h | h | h
  · have : g * (m + 1) ≤ g * n := Nat.mul_le_mul_left _ h
    rw [Nat.mul_add, Nat.mul_one] at this
    omega
  · rw [h]
  · have : g * (n + 1) ≤ g * m := Nat.mul_le_mul_left _ h
    rw [Nat.mul_add, Nat.mul_one] at this
    omega

end Go.Proofs.YtamdnnkdnhkghaaGreatDoor
