import Derived.Test.YtmndipnifjpdjaaGreatDoorQ17
import Derived.Test.YtmndipnifjpdjaaGreatDoorQ03
namespace Go.Proofs.YtmndipnifjpdjaaGreatDoor
def T64 : Nat := 18446744073709551616
def T128 : Nat := 340282366920938463463374607431768211456
theorem t128 : T128 = T64 * T64 := by decide
def usc (x hi lo s : Nat) : Nat :=
  if x * hi / T64 / 2 ^ s * 2 ^ s ≠ x * hi / T64 then x * hi / T64 / 2 ^ s ||| 1
  else (x * hi / T64 - (if x * hi % T64 < x * lo / T64 then 1 else 0)) / 2 ^ s ||| (if 1 < (x * hi % T64 + T64 - x * lo / T64) % T64 then 1 else 0)
def unr (A B : Nat) : Nat := if A % B = 0 then A / B else A / B ||| 1
theorem unr_in {A B h : Nat} (h1 : h * B < A) (h2 : A < (h + 1) * B) : unr A B = h ||| 1 := by
  have hB : 0 < B := by
    rcases Nat.eq_zero_or_pos B with e | e
    · subst e; simp at h2
    · exact e
  have hd : A / B = h := by
    refine Nat.le_antisymm (Nat.le_of_lt_succ ((Nat.div_lt_iff_lt_mul hB).2 h2)) ((Nat.le_div_iff_mul_le hB).2 (Nat.le_of_lt h1))
  unfold unr
  rw [if_neg, hd]
  intro e
  have := Nat.div_add_mod A B
  rw [hd, e, Nat.mul_comm] at this
  omega
theorem unr_exact {A B h : Nat} (hB : 0 < B) (h1 : A = h * B) : unr A B = h := by
  subst h1
  unfold unr
  rw [if_pos (Nat.mul_mod_left _ _), Nat.mul_div_cancel _ hB]
theorem usc_cases {x hi lo S a b P : Nat} (hx1 : 9223372036854775808 ≤ x) (hx2 : x < T64) (hlo : lo < T64) (hS : 2 ≤ S) (hb : 0 < b)
    (hP : P + x * lo = x * hi * T64) (ha1 : x * a ≤ b * P) (ha2 : b * P < x * a + b * x) (hbig : 0 < x * hi / T64)
    (hfar : ∀ h, x * hi / T64 = h * S → x * lo / T64 ≤ x * hi % T64 → x * hi % T64 ≤ x * lo / T64 + 1 → x * a = h * (b * (S * T128))) :
    (if x * hi / T64 / S * S ≠ x * hi / T64 then x * hi / T64 / S ||| 1
      else (x * hi / T64 - (if x * hi % T64 < x * lo / T64 then 1 else 0)) / S ||| (if 1 < (x * hi % T64 + T64 - x * lo / T64) % T64 then 1 else 0)) = unr (x * a) (b * (S * T128)) := by
  have e64 : T64 = 18446744073709551616 := rfl
  have e128 : T128 = 340282366920938463463374607431768211456 := rfl
  have hH := Nat.div_add_mod (x * hi) T64
  have hm1 : x * hi % T64 < T64 := Nat.mod_lt _ (by omega)
  have hL := Nat.div_add_mod (x * lo) T64
  have hm2 : x * lo % T64 < T64 := Nat.mod_lt _ (by omega)
  have hxlo : x * lo ≤ (T64 - 1) * (T64 - 1) := Nat.mul_le_mul (by omega) (by omega)
  have hPP : P + x * lo = x * hi / T64 * T128 + x * hi % T64 * T64 := by
    rw [hP, t128]
    conv => lhs; rw [← hH]
    rw [Nat.add_mul, Nat.mul_comm T64, Nat.mul_assoc]
  generalize x * hi / T64 = H at *
  generalize x * hi % T64 = mid at *
  generalize hxl : x * lo = XL at *
  generalize XL / T64 = mid2 at *
  generalize XL % T64 = f at *
  have hHS := Nat.div_add_mod H S
  have hHm : H % S < S := Nat.mod_lt _ (by omega)
  have mulS : ∀ k, k * (b * (S * T128)) = b * (k * S * T128) := by intro k; rw [Nat.mul_left_comm, Nat.mul_assoc]
  by_cases h1 : H / S * S ≠ H
  · rw [if_pos h1]
    have hr : H % S ≠ 0 := by
      intro e; apply h1; rw [e, Nat.mul_comm] at hHS; omega
    generalize H / S = h at *
    symm
    have hHeq : H = h * S + H % S := by rw [Nat.mul_comm]; omega
    generalize hk : h * S = K at *
    refine unr_in ?_ ?_
    · rw [mulS, hk]
      have hp : K * T128 + x ≤ P := by
        clear hP ha1 ha2 hfar mulS hHS hk
        rw [e64] at hxlo hx2 hm1 hPP
        rw [e128] at hPP ⊢
        omega
      have : b * (K * T128 + x) ≤ b * P := Nat.mul_le_mul_left _ hp
      rw [Nat.mul_add] at this
      omega
    · rw [mulS, Nat.add_mul, hk, Nat.one_mul]
      have hp : P < (K + S) * T128 := by
        clear hP ha1 ha2 hfar mulS hHS hk
        rw [e64] at hxlo hx2 hm1 hPP
        rw [e128] at hPP ⊢
        omega
      have : b * P < b * ((K + S) * T128) := Nat.mul_lt_mul_of_pos_left hp hb
      omega
  · rw [if_neg h1]
    have hKS : H = H / S * S := by
      by_cases e : H / S * S = H
      · exact e.symm
      · exact absurd e h1
    generalize H / S = h at *
    have hpos : 0 < h := by
      rcases Nat.eq_zero_or_pos h with e | e
      · subst e; rw [Nat.zero_mul] at hKS; omega
      · exact e
    generalize hk : h * S = K at *
    subst hKS
    by_cases h2 : mid < mid2
    · rw [if_pos h2]
      have hst : 1 < (mid + T64 - mid2) % T64 := by
        clear hP ha1 ha2 hfar mulS hHS hk hPP
        rw [e64] at hxlo hx2 hm1 hL hm2 ⊢
        omega
      rw [if_pos hst]
      have hdv : (H - 1) / S = h - 1 := by
        have e : H - 1 = S * (h - 1) + (S - 1) := by
          have e3 : S * (h - 1) = S * h - S := by rw [Nat.mul_sub, Nat.mul_one]
          have e4 : S * h = H := by rw [Nat.mul_comm]; exact hk
          have e5 : S * 1 ≤ S * h := Nat.mul_le_mul_left _ hpos
          rw [e3, e4]; rw [e4] at e5; omega
        rw [e, Nat.mul_add_div (by omega), Nat.div_eq_of_lt (by omega), Nat.add_zero]
      rw [hdv]
      symm
      refine unr_in ?_ ?_
      · rw [mulS]
        have hk1 : (h - 1) * S = H - S := by rw [Nat.sub_mul, Nat.one_mul, hk]
        rw [hk1]
        have hp : (H - S) * T128 + x ≤ P := by
          clear hP ha1 ha2 hfar mulS hHS hk hdv hk1
          rw [e64] at hxlo hx2 hm1 hPP hL
          rw [e128] at hPP ⊢
          omega
        have : b * ((H - S) * T128 + x) ≤ b * P := Nat.mul_le_mul_left _ hp
        rw [Nat.mul_add] at this
        omega
      · have e1 : h - 1 + 1 = h := by omega
        rw [e1, mulS, hk]
        have hp : P < H * T128 := by
          clear hP ha1 ha2 hfar mulS hHS hk hdv
          rw [e64] at hxlo hx2 hm1 hPP hL
          rw [e128] at hPP ⊢
          omega
        have : b * P < b * (H * T128) := Nat.mul_lt_mul_of_pos_left hp hb
        omega
    · rw [if_neg h2]
      have hdv : (H - 0) / S = h := by rw [Nat.sub_zero, ← hk, Nat.mul_div_cancel _ (by omega)]
      rw [hdv]
      by_cases h3 : mid ≤ mid2 + 1
      · have hst : ¬ 1 < (mid + T64 - mid2) % T64 := by
          clear hP ha1 ha2 hfar mulS hHS hk hPP
          rw [e64] at hxlo hx2 hm1 hL hm2 ⊢
          omega
        rw [if_neg hst, Nat.or_zero]
        symm
        exact unr_exact (Nat.mul_pos hb (Nat.mul_pos (by omega) (by rw [e128]; omega))) (hfar h hk.symm (by omega) h3)
      · have hst : 1 < (mid + T64 - mid2) % T64 := by
          clear hP ha1 ha2 hfar mulS hHS hk hPP
          rw [e64] at hxlo hx2 hm1 hL hm2 ⊢
          omega
        rw [if_pos hst]
        symm
        refine unr_in ?_ ?_
        · rw [mulS, hk]
          have hp : H * T128 + x ≤ P := by
            clear hP ha1 ha2 hfar mulS hHS hk hdv
            rw [e64] at hxlo hx2 hm1 hPP hL hm2
            rw [e128] at hPP ⊢
            omega
          have : b * (H * T128 + x) ≤ b * P := Nat.mul_le_mul_left _ hp
          rw [Nat.mul_add] at this
          omega
        · rw [mulS, Nat.add_mul, hk, Nat.one_mul]
          have hp : P < (H + S) * T128 := by
            clear hP ha1 ha2 hfar mulS hHS hk hdv
            rw [e64] at hxlo hx2 hm1 hPP hL
            rw [e128] at hPP ⊢
            omega
          have : b * P < b * ((H + S) * T128) := Nat.mul_lt_mul_of_pos_left hp hb
          omega
def rowAt (p : Int) : Nat × Nat := Go.Pinned.pow10Rows.getD (p + 348).toNat (0, 0)
def hiRows : Bool := (List.range 696).all fun i => decide (9223372036854775808 ≤ (Go.Pinned.pow10Rows.getD i (0, 0)).1)
set_option maxRecDepth 100000 in
theorem hiRows_ok : hiRows = true := by decide +kernel
def smallRows : Bool := (List.range 28).all fun i => decide ((Go.Pinned.pow10Rows.getD (348 + i) (0, 0)).2 = 0 ∧ (Go.Pinned.pow10Rows.getD (348 + i) (0, 0)).1 % 2 = 0 ∧ denT i = 1)
set_option maxRecDepth 100000 in
theorem smallRows_ok : smallRows = true := by decide +kernel
def negRows : Bool := (List.range 31).all fun i => decide (36893488147419103232 * 10 ^ i ≤ 2 ^ (127 - lp10 (-(i : Int))).toNat ∧ 36893488147419103232 * 10 ^ i ≤ 2 ^ (136 + i) ∧ (lp10 (-(i : Int)) - 127).toNat = 0)
set_option maxRecDepth 100000 in
theorem negRows_ok : negRows = true := by decide +kernel
theorem all_range {n : Nat} {f : Nat → Bool} (h : (List.range n).all f = true) {i : Nat} (hi : i < n) : f i = true :=
  (List.all_eq_true.1 h) i (List.mem_range.2 hi)
theorem row_ok {p : Int} (h1 : -348 ≤ p) (h2 : p ≤ 347) : rowOk p (rowAt p) = true := by
  have := all_range allRows_ok (i := (p + 348).toNat) (by omega)
  have e : (((p + 348).toNat : Nat) : Int) - 348 = p := by omega
  rw [e] at this
  exact this
theorem row_hi {p : Int} (h1 : -348 ≤ p) (h2 : p ≤ 347) : 9223372036854775808 ≤ (rowAt p).1 := by
  have := all_range hiRows_ok (i := (p + 348).toNat) (by omega)
  exact of_decide_eq_true this
theorem row_far {p : Int} (h1 : -345 ≤ p) (h2 : p ≤ 310) (h3 : p < -30 ∨ 27 < p) : farOk (rowAt p) = true := by
  have := all_range farRows_ok (i := (p + 348).toNat) (by omega)
  simp only [Bool.or_eq_true, Bool.and_eq_true, decide_eq_true_eq] at this
  rcases this with ((h | h) | h) | h
  · omega
  · omega
  · omega
  · exact h
theorem multiple_zero {g u v d : Nat} (hu : g ∣ u) (hv : g ∣ v) (h1 : u < v + d) (h2 : v < u + d) (hd : d ≤ g) : u = v := by
  obtain ⟨m, rfl⟩ := hu
  obtain ⟨n, rfl⟩ := hv
  rcases Nat.lt_trichotomy m n with h | h | h
  · have : g * (m + 1) ≤ g * n := Nat.mul_le_mul_left _ h
    rw [Nat.mul_add, Nat.mul_one] at this
    omega
  · rw [h]
  · have : g * (n + 1) ≤ g * m := Nat.mul_le_mul_left _ h
    rw [Nat.mul_add, Nat.mul_one] at this
    omega
end Go.Proofs.YtmndipnifjpdjaaGreatDoor
namespace Go.Proofs.YtmndipnifjpdjaaGreatDoor
theorem e64 : T64 = 18446744073709551616 := rfl
theorem e128 : T128 = 340282366920938463463374607431768211456 := rfl
theorem usc_ok {p : Int} (hp1 : -345 ≤ p) (hp2 : p ≤ 310) {x s : Nat} (hx1 : 9223372036854775808 ≤ x) (hx2 : x < T64) (hs : 8 ≤ s) :
    usc x (rowAt p).1 (rowAt p).2 s = unr (x * numT p) (denT p * (2 ^ s * T128)) := by
  have hrow := of_decide_eq_true (row_ok (p := p) (by omega) (by omega))
  have hhi := row_hi (p := p) (by omega) (by omega)
  have hfr := fun h3 => far_of (row_far hp1 hp2 h3) x hx1 hx2
  have hpm : pmOf (rowAt p) = (rowAt p).1 * T64 - (rowAt p).2 := rfl
  obtain ⟨r1, r2, r3, r4, r5⟩ := hrow
  generalize hrr : rowAt p = r at *
  obtain ⟨hi, lo⟩ := r
  simp only at *
  have hden : 0 < denT p := Nat.mul_pos (Nat.pow_pos (by omega)) (Nat.pow_pos (by omega))
  have hS2 : 2 ≤ 2 ^ s := by
    have : 2 ^ 1 ≤ 2 ^ s := Nat.pow_le_pow_right (by omega) (by omega)
    omega
  have hP : x * pmOf (hi, lo) + x * lo = x * hi * T64 := by
    rw [← Nat.mul_add, hpm, Nat.mul_assoc]
    congr 1
    have : lo ≤ hi * T64 := r3
    omega
  have A1 : x * numT p ≤ denT p * (x * pmOf (hi, lo)) := by
    have := Nat.mul_le_mul_left x r4
    calc x * numT p ≤ x * (pmOf (hi, lo) * denT p) := this
      _ = denT p * (x * pmOf (hi, lo)) := by rw [← Nat.mul_assoc, Nat.mul_comm]
  have A2 : denT p * (x * pmOf (hi, lo)) < x * numT p + denT p * x := by
    have := Nat.mul_lt_mul_of_pos_left r5 (show 0 < x by omega)
    rw [Nat.mul_add] at this
    calc denT p * (x * pmOf (hi, lo)) = x * (pmOf (hi, lo) * denT p) := by rw [← Nat.mul_assoc x, Nat.mul_comm (denT p)]
      _ < x * numT p + x * denT p := this
      _ = x * numT p + denT p * x := by rw [Nat.mul_comm x (denT p)]
  unfold usc
  refine usc_cases (P := x * pmOf (hi, lo)) hx1 hx2 r2 hS2 hden hP A1 A2 ?_ ?_
  · rw [Nat.div_pos_iff]
    refine ⟨by rw [e64]; omega, ?_⟩
    have : 9223372036854775808 * 9223372036854775808 ≤ x * hi := Nat.mul_le_mul hx1 hhi
    rw [e64]; omega
  · intro h hH hm1 hm2
    have hPf : x * pmOf (hi, lo) + x * lo % T64 = h * 2 ^ s * T128 + (x * hi % T64 - x * lo / T64) * T64 := by
      have d1 := Nat.div_add_mod (x * hi) T64
      have d2 := Nat.div_add_mod (x * lo) T64
      rw [hH] at d1
      have e : x * hi * T64 = h * 2 ^ s * T128 + x * hi % T64 * T64 := by
        conv => lhs; rw [← d1]
        rw [Nat.add_mul, t128, Nat.mul_comm T64, Nat.mul_assoc]
      rw [e] at hP
      rw [Nat.sub_mul, Nat.mul_comm (x * lo / T64)]
      have hle : T64 * (x * lo / T64) ≤ x * hi % T64 * T64 := by rw [Nat.mul_comm]; exact Nat.mul_le_mul_right _ hm1
      omega
    have hf : x * lo % T64 < T64 := Nat.mod_lt _ (by rw [e64]; omega)
    by_cases hfarp : p < -30 ∨ 27 < p
    · exfalso
      have hq := hfr hfarp
      have hM : (x * hi % T64 - x * lo / T64) * T64 ≤ T64 := by
        have : x * hi % T64 - x * lo / T64 ≤ 1 := by omega
        calc _ ≤ 1 * T64 := Nat.mul_le_mul_right _ this
          _ = T64 := Nat.one_mul _
      have hZ : h * 2 ^ s * T128 = h * 2 ^ (s - 8) * 87112285931760246646623899502532662132736 := by
        have : s = s - 8 + 8 := by omega
        conv => lhs; rw [this, Nat.pow_add]
        rw [e128, Nat.mul_assoc h, Nat.mul_assoc h, Nat.mul_assoc (2 ^ (s - 8))]
      rw [hZ] at hPf
      generalize x * pmOf (hi, lo) = P at *
      generalize h * 2 ^ (s - 8) = Y at *
      generalize (x * hi % T64 - x * lo / T64) * T64 = M at *
      generalize x * lo % T64 = f at *
      rw [e64] at hM hf
      clear hP A1 A2 r4 r5 hZ hpm hfr hH
      by_cases hge : Y * 87112285931760246646623899502532662132736 ≤ P
      · have e : P = 87112285931760246646623899502532662132736 * Y + (P - Y * 87112285931760246646623899502532662132736) := by omega
        rw [e, Nat.mul_add_mod, Nat.mod_eq_of_lt (by omega)] at hq
        omega
      · obtain ⟨Y', rfl⟩ : ∃ Y', Y = Y' + 1 := ⟨Y - 1, by
          rcases Nat.eq_zero_or_pos Y with e | e
          · subst e; omega
          · omega⟩
        have e : P = 87112285931760246646623899502532662132736 * Y' + (P - Y' * 87112285931760246646623899502532662132736) := by omega
        rw [e, Nat.mul_add_mod, Nat.mod_eq_of_lt (by omega)] at hq
        omega
    · by_cases hp0 : 0 ≤ p
      · have hsm := of_decide_eq_true (all_range smallRows_ok (i := p.toNat) (by omega))
        have ei : 348 + p.toNat = (p + 348).toNat := by omega
        have ep : ((p.toNat : Nat) : Int) = p := by omega
        rw [ei, ep] at hsm
        have hra : Go.Pinned.pow10Rows.getD (p + 348).toNat (0, 0) = (hi, lo) := hrr
        rw [hra] at hsm
        obtain ⟨l0, h0, d1⟩ := hsm
        simp only at l0 h0
        subst l0
        rw [d1] at A1 A2 ⊢
        rw [Nat.one_mul] at A1 A2 ⊢
        rw [d1] at r4 r5
        have hev : x * hi % T64 = 0 := by
          have h2 : x * hi % T64 % 2 = 0 := by
            rw [e64, Nat.mod_mod_of_dvd _ (by decide : 2 ∣ 18446744073709551616), Nat.mul_mod, h0, Nat.mul_zero, Nat.zero_mod]
          rw [Nat.mul_zero, Nat.zero_div] at hm2
          omega
        rw [hev, Nat.mul_zero, Nat.zero_mod, Nat.zero_div, Nat.sub_zero, Nat.zero_mul, Nat.add_zero, Nat.add_zero] at hPf
        have hnp : numT p = pmOf (hi, 0) := by omega
        rw [hnp, hPf, Nat.mul_assoc]
      · have hng := of_decide_eq_true (all_range negRows_ok (i := (-p).toNat) (by omega))
        have ei : (((-p).toNat : Nat) : Int) = -p := by omega
        rw [ei, Int.neg_neg] at hng
        obtain ⟨g1, g2, g3⟩ := hng
        have hnum : numT p = 2 ^ (127 - lp10 p).toNat := by
          unfold numT
          have : p.toNat = 0 := by omega
          rw [this, Nat.pow_zero, Nat.one_mul]
        have hdn : denT p = 10 ^ (-p).toNat := by unfold denT; rw [g3, Nat.pow_zero, Nat.mul_one]
        have hM : (x * hi % T64 - x * lo / T64) * T64 ≤ T64 := by
          have : x * hi % T64 - x * lo / T64 ≤ 1 := by omega
          calc _ ≤ 1 * T64 := Nat.mul_le_mul_right _ this
            _ = T64 := Nat.one_mul _
        have hv : h * (denT p * (2 ^ s * T128)) = denT p * (h * 2 ^ s * T128) := by rw [Nat.mul_left_comm, Nat.mul_assoc h]
        refine multiple_zero (g := 2 ^ min (127 - lp10 p).toNat (136 + (-p).toNat)) (d := 36893488147419103232 * denT p) ?_ ?_ ?_ ?_ ?_
        · rw [hnum]
          exact Nat.dvd_trans (Nat.pow_dvd_pow 2 (Nat.min_le_left _ _)) (Nat.dvd_mul_left _ _)
        · rw [hdn]
          have e10 : 10 ^ (-p).toNat = 5 ^ (-p).toNat * 2 ^ (-p).toNat := by rw [← Nat.mul_pow]
          have e3 : h * (10 ^ (-p).toNat * (2 ^ s * T128)) = h * 5 ^ (-p).toNat * 2 ^ (s - 8) * 2 ^ (136 + (-p).toNat) := by
            have f1 : 2 ^ s = 2 ^ (s - 8) * 2 ^ 8 := by rw [← Nat.pow_add]; congr 1; omega
            have f2 : (2 : Nat) ^ (136 + (-p).toNat) = 2 ^ 8 * T128 * 2 ^ (-p).toNat := by rw [Nat.pow_add]; rfl
            rw [e10, f1, f2]
            generalize 5 ^ (-p).toNat = a5
            generalize 2 ^ (-p).toNat = a2
            generalize 2 ^ (s - 8) = a3
            generalize 2 ^ 8 = a4
            generalize T128 = a6
            simp only [Nat.mul_comm, Nat.mul_left_comm]
          rw [e3]
          exact Nat.dvd_trans (Nat.pow_dvd_pow 2 (Nat.min_le_right _ _)) (Nat.dvd_mul_left _ _)
        · rw [hv]
          have h1 : denT p * (x * pmOf (hi, lo)) ≤ denT p * (h * 2 ^ s * T128 + T64) := Nat.mul_le_mul_left _ (by omega)
          rw [Nat.mul_add, e64] at h1
          omega
        · rw [hv]
          have h1 : denT p * (h * 2 ^ s * T128) ≤ denT p * (x * pmOf (hi, lo) + T64) := Nat.mul_le_mul_left _ (by omega)
          have h2 : denT p * x ≤ denT p * T64 := Nat.mul_le_mul_left _ (Nat.le_of_lt hx2)
          rw [Nat.mul_add, e64] at h1
          rw [e64] at h2
          omega
        · rw [hdn]
          rcases Nat.le_total (127 - lp10 p).toNat (136 + (-p).toNat) with hh | hh
          · rw [Nat.min_eq_left hh]; exact g1
          · rw [Nat.min_eq_right hh]; exact g2
end Go.Proofs.YtmndipnifjpdjaaGreatDoor
namespace Go.Proofs.YtmndipnifjpdjaaGreatDoor
def rnd2 (u : Nat) : Nat := (u + 1 + u / 4 % 2) / 4
theorem or_one (n : Nat) : n ||| 1 = n / 2 * 2 + 1 := by
  have key : 2 * (n / 2) ||| 1 = 2 * (n / 2) + 1 := by
    have := Nat.two_pow_add_eq_or_of_lt (i := 1) (b := 1) (by decide) (n / 2)
    simpa using this.symm
  rcases Nat.mod_two_eq_zero_or_one n with h | h
  · have e : n = 2 * (n / 2) := by omega
    rw [Nat.mul_comm (n / 2)]
    conv => lhs; rw [e]
    exact key
  · have e : n = 2 * (n / 2) ||| 1 := by rw [key]; omega
    rw [Nat.mul_comm (n / 2), ← key]
    conv => lhs; rw [e]
    rw [Nat.or_assoc, Nat.or_self]
theorem unr_val (A B : Nat) : unr A B = if A % B = 0 then A / B else A / B / 2 * 2 + 1 := by unfold unr; rw [or_one]
theorem rnd2_unr {N D : Nat} (hD : 0 < D) : rnd2 (unr (4 * N) D) = rq N D := by
  have h1 := Nat.div_add_mod N D
  have h2 := Nat.mod_lt N hD
  unfold rq
  generalize N / D = q at *
  generalize N % D = r at *
  have e4 : 4 * N = D * (4 * q) + 4 * r := by rw [← h1]; grind
  have hdiv : 4 * N / D = 4 * q + 4 * r / D := by rw [e4, Nat.mul_add_div hD]
  have hmod : 4 * N % D = 4 * r % D := by rw [e4, Nat.mul_add_mod]
  have ht := Nat.div_add_mod (4 * r) D
  have htl := Nat.mod_lt (4 * r) hD
  have ht4 : 4 * r / D < 4 := (Nat.div_lt_iff_lt_mul hD).2 (by omega)
  rw [unr_val, hdiv, hmod]
  generalize 4 * r / D = t at *
  generalize 4 * r % D = w at *
  clear e4 hdiv hmod h1
  unfold rnd2
  have ht' : t = 0 ∨ t = 1 ∨ t = 2 ∨ t = 3 := by omega
  rcases ht' with rfl | rfl | rfl | rfl
  · simp only [Nat.mul_zero] at ht
    split <;> split <;> omega
  · simp only [Nat.mul_one] at ht
    split <;> split <;> omega
  · split <;> split <;> omega
  · split <;> split <;> omega
theorem unr_half {A B : Nat} (hB : 0 < B) : unr A B / 2 ||| unr A B % 2 = unr A (2 * B) := by
  have h1 := Nat.div_add_mod A B
  have h2 := Nat.mod_lt A hB
  generalize hq : A / B = q at *
  generalize hr : A % B = r at *
  have e2 : A / (2 * B) = q / 2 := by rw [Nat.mul_comm, ← Nat.div_div_eq_div_mul, hq]
  have e3 : A % (2 * B) = q % 2 * B + r := by
    have := Nat.div_add_mod A (2 * B)
    rw [e2] at this
    have h3 := Nat.div_add_mod q 2
    have h4 : A = B * (2 * (q / 2) + q % 2) + r := by rw [h3]; omega
    have h5 : B * (2 * (q / 2) + q % 2) = 2 * B * (q / 2) + q % 2 * B := by grind
    omega
  have hor : ∀ a c : Nat, c < 2 → a ||| c = if c = 0 then a else a / 2 * 2 + 1 := by
    intro a c hc
    have : c = 0 ∨ c = 1 := by omega
    rcases this with rfl | rfl
    · simp
    · rw [or_one]; simp
  rw [hor _ _ (Nat.mod_lt _ (by omega)), unr_val, unr_val, hq, hr, e2, e3]
  have hq2 : q % 2 = 0 ∨ q % 2 = 1 := by omega
  by_cases hr0 : r = 0
  · subst hr0
    rcases hq2 with h | h
    · rw [if_pos rfl, h, if_pos rfl, if_pos (by omega)]
    · rw [if_pos rfl, h, if_neg (by omega), if_neg (by omega)]
  · rw [if_neg hr0, if_neg (by omega), if_neg (by omega)]
    omega
theorem unr_scale {A B c : Nat} (hc : 0 < c) : unr (A * c) (B * c) = unr A B := by
  unfold unr
  rw [Nat.mul_div_mul_right _ _ hc, Nat.mul_mod_mul_right]
  by_cases h : A % B = 0
  · rw [if_pos h, if_pos (by rw [h, Nat.zero_mul])]
  · rw [if_neg h, if_neg (by intro e; rcases Nat.mul_eq_zero.1 e with e | e <;> omega)]
theorem unr_ratio {A B A' B' : Nat} (hB : 0 < B) (hB' : 0 < B') (h : A * B' = A' * B) : unr A B = unr A' B' := by
  rw [← unr_scale (A := A) (B := B) hB', ← unr_scale (A := A') (B := B') hB, h, Nat.mul_comm B B']
theorem rq_lt {N D : Nat} (hD : 0 < D) {k : Nat} (h : rq N D < k) : N < D * k := by
  have h1 := rq_ge N D
  have h2 : N / D < k := by omega
  rw [Nat.div_lt_iff_lt_mul hD] at h2
  rw [Nat.mul_comm]; exact h2
theorem rq_le {N D k : Nat} (hD : 0 < D) (h : N ≤ D * k) : rq N D ≤ k := by
  unfold rq
  have h1 := Nat.div_add_mod N D
  have h2 := Nat.mod_lt N hD
  by_cases e : N / D = k
  · rw [e] at h1
    rw [if_neg (by rintro (h | h) <;> omega)]
    omega
  · have : N / D < k := by
      rcases Nat.lt_or_ge (N / D) k with h3 | h3
      · exact h3
      · have : D * (k + 1) ≤ D * (N / D) := Nat.mul_le_mul_left _ (by omega)
        rw [Nat.mul_add] at this
        omega
    split <;> omega
theorem rq_ge' {N D k : Nat} (hD : 0 < D) (h : D * k ≤ N) : k ≤ rq N D :=
  Nat.le_trans ((Nat.le_div_iff_mul_le hD).2 (by rw [Nat.mul_comm]; exact h)) (rq_ge N D)
theorem rq_carry {N D c : Nat} (hD : 0 < D) (h1 : N < D * (2 * c)) (h2 : rq N D = 2 * c) : rq N (2 * D) = c := by
  have hc : 0 < c := by
    rcases Nat.eq_zero_or_pos c with e | e
    · subst e; simp at h1
    · exact e
  have hq := Nat.div_add_mod N D
  have hr := Nat.mod_lt N hD
  have hqlt : N / D < 2 * c := (Nat.div_lt_iff_lt_mul hD).2 (by rw [Nat.mul_comm]; exact h1)
  unfold rq at h2
  generalize N / D = q at *
  generalize N % D = r at *
  have hq1 : q = 2 * c - 1 := by split at h2 <;> omega
  have hup : D ≤ 2 * r := by
    split at h2
    · omega
    · omega
  have hN : N = 2 * D * (c - 1) + (D + r) := by
    subst hq1
    have e : 2 * D * (c - 1) + D = D * (2 * c - 1) := by
      obtain ⟨b, rfl⟩ : ∃ b, c = b + 1 := ⟨c - 1, by omega⟩
      have : 2 * (b + 1) - 1 = 2 * b + 1 := by omega
      rw [this, Nat.add_sub_cancel]; grind
    omega
  unfold rq
  have d1 : N / (2 * D) = c - 1 := by rw [hN, Nat.mul_add_div (by omega), Nat.div_eq_of_lt (by omega)]; omega
  have d2 : N % (2 * D) = D + r := by rw [hN, Nat.mul_add_mod, Nat.mod_eq_of_lt (by omega)]
  rw [d1, d2, if_pos (by left; omega)]
  omega
end Go.Proofs.YtmndipnifjpdjaaGreatDoor
namespace Go.Proofs.YtmndipnifjpdjaaGreatDoor
theorem two53 (D : Nat) : D * 2 ^ 53 = D * 9007199254740992 := rfl
theorem two52 (D : Nat) : D * 2 ^ 52 = D * 4503599627370496 := rfl
theorem fits_mul (den ke : Nat) (a : Nat) : den * 2 ^ (a + ke) = den * 2 ^ ke * 2 ^ a := by rw [Nat.pow_add, Nat.mul_comm (2 ^ a), Nat.mul_assoc]
theorem pf_core1 {N den ke : Nat} (hden : 0 < den) (L : ke = 0 ∨ den * 2 ^ ke * 4503599627370496 ≤ N) (hu : unr (4 * N) (den * 2 ^ ke) < 36028797018963966) :
    rnd2 (unr (4 * N) (den * 2 ^ ke)) < 9007199254740992 ∧ IsRnd N den (min (ke * 4503599627370496 + rnd2 (unr (4 * N) (den * 2 ^ ke))) infW) ∧ (ke = 0 ∨ 4503599627370496 ≤ rnd2 (unr (4 * N) (den * 2 ^ ke))) := by
  have hD : 0 < den * 2 ^ ke := Nat.mul_pos hden (Nat.pow_pos (by omega))
  have hr : rnd2 (unr (4 * N) (den * 2 ^ ke)) < 9007199254740992 := by unfold rnd2; omega
  rw [rnd2_unr hD] at hr ⊢
  have hN := rq_lt hD hr
  refine ⟨hr, ⟨ke, ?_, ?_, rfl⟩, ?_⟩
  · rw [fits_mul, two53]; exact hN
  · rcases L with L | L
    · left; exact L
    · right; rw [fits_mul, two52]; exact L
  · rcases L with L | L
    · left; exact L
    · right; exact rq_ge' hD L
theorem pf_core2 {N den ke : Nat} (hden : 0 < den) (U : N * 1048576 < den * 2 ^ ke * 18889447917080071372800) (L : ke = 0 ∨ den * 2 ^ ke * 4503599627370496 ≤ N)
    (hu : 36028797018963966 ≤ unr (4 * N) (den * 2 ^ ke)) :
    rnd2 (unr (4 * N) (den * 2 ^ ke) / 2 ||| unr (4 * N) (den * 2 ^ ke) % 2) < 9007199254740992 ∧ 4503599627370496 ≤ rnd2 (unr (4 * N) (den * 2 ^ ke) / 2 ||| unr (4 * N) (den * 2 ^ ke) % 2) ∧
      IsRnd N den (min ((ke + 1) * 4503599627370496 + rnd2 (unr (4 * N) (den * 2 ^ ke) / 2 ||| unr (4 * N) (den * 2 ^ ke) % 2)) infW) := by
  have hD : 0 < den * 2 ^ ke := Nat.mul_pos hden (Nat.pow_pos (by omega))
  have hr : 9007199254740992 ≤ rnd2 (unr (4 * N) (den * 2 ^ ke)) := by unfold rnd2; omega
  rw [rnd2_unr hD] at hr
  rw [unr_half hD, rnd2_unr (by omega)]
  have hD2 : den * 2 ^ (ke + 1) = 2 * (den * 2 ^ ke) := by rw [Nat.pow_succ]; grind
  generalize hDD : den * 2 ^ ke = D at *
  have hup : rq N (2 * D) < 9007199254740992 := by
    have h1 : N ≤ 2 * D * 9007199254740991 := by omega
    have := rq_le (k := 9007199254740991) (show 0 < 2 * D by omega) h1
    omega
  by_cases hge : D * 9007199254740992 ≤ N
  · have hlow : 4503599627370496 ≤ rq N (2 * D) := rq_ge' (N := N) (D := 2 * D) (k := 4503599627370496) (by omega) (by rw [Nat.mul_comm 2 D, Nat.mul_assoc]; exact hge)
    refine ⟨hup, hlow, ⟨ke + 1, ?_, .inr ?_, ?_⟩⟩
    · have e : den * 2 ^ (53 + (ke + 1)) = 2 * D * 9007199254740992 := by
        rw [fits_mul, hD2]
      rw [e]; omega
    · have e : den * 2 ^ (52 + (ke + 1)) = D * 9007199254740992 := by
        rw [fits_mul, hD2, two52]; omega
      rw [e]; exact hge
    · rw [hD2]
  · have hlt : N < D * 9007199254740992 := Nat.lt_of_not_le hge
    have hle := rq_le hD (Nat.le_of_lt hlt)
    have heq : rq N D = 9007199254740992 := by omega
    have hc := rq_carry (c := 4503599627370496) hD hlt heq
    rw [hc]
    refine ⟨by omega, Nat.le_refl _, ⟨ke, ?_, ?_, ?_⟩⟩
    · rw [fits_mul, two53, hDD]; exact hlt
    · rcases L with L | L
      · left; exact L
      · right; rw [fits_mul, two52, hDD]; exact L
    · rw [hDD, heq]; omega
def lpRows : Bool := (List.range 656).all fun i =>
  decide (denT ((i : Int) - 345) * 170141183460469231731687303715884105728 ≤ numT ((i : Int) - 345) ∧ numT ((i : Int) - 345) * 1048576 ≤ denT ((i : Int) - 345) * 356811582894123049326108028987766352327475200)
set_option maxRecDepth 100000 in
theorem lpRows_ok : lpRows = true := by decide +kernel
end Go.Proofs.YtmndipnifjpdjaaGreatDoor
namespace Go.Proofs.YtmndipnifjpdjaaGreatDoor
theorem t128_pow : T128 = 2 ^ 128 := by decide
theorem pow_bal {d x1 x2 a1 a2 a3 c1 c2 c3 : Nat} (h : a1 + a2 + a3 = 2 + c1 + c2 + c3 + 128) :
    d * 2 ^ a1 * (x1 * 2 ^ a2) * (x2 * 2 ^ a3) = 4 * (d * x1 * 2 ^ c1) * (x2 * 2 ^ c2 * (2 ^ c3 * T128)) := by
  have e1 : d * 2 ^ a1 * (x1 * 2 ^ a2) * (x2 * 2 ^ a3) = d * x1 * x2 * 2 ^ (a1 + a2 + a3) := by
    rw [Nat.pow_add, Nat.pow_add]
    generalize 2 ^ a1 = p1
    generalize 2 ^ a2 = p2
    generalize 2 ^ a3 = p3
    grind
  have e2 : 4 * (d * x1 * 2 ^ c1) * (x2 * 2 ^ c2 * (2 ^ c3 * T128)) = d * x1 * x2 * 2 ^ (2 + c1 + c2 + c3 + 128) := by
    rw [t128_pow, Nat.pow_add, Nat.pow_add, Nat.pow_add, Nat.pow_add]
    have e4 : (2 : Nat) ^ 2 = 4 := rfl
    rw [e4]
    generalize 2 ^ c1 = p1
    generalize 2 ^ c2 = p2
    generalize 2 ^ c3 = p3
    generalize 2 ^ 128 = p4
    grind
  rw [e1, e2, h]
structure PF (d : Nat) (p : Int) (b s ke : Nat) : Prop where
  hb : b ≤ 64
  hd1 : 2 ^ (b - 1) ≤ d
  hd2 : d < 2 ^ b
  hb0 : 1 ≤ b
  hp1 : -345 ≤ p
  hp2 : p ≤ 310
  hs : 8 ≤ s
  hrel : (s : Int) = 61 - (1074 - (ke : Int)) - b - lp10 p
  hke : ke = 0 ∨ s = 8
theorem PF.x {d : Nat} {p : Int} {b s ke : Nat} (h : PF d p b s ke) : 9223372036854775808 ≤ d * 2 ^ (64 - b) ∧ d * 2 ^ (64 - b) < T64 := by
  obtain ⟨hb, hd1, hd2, hb0, _, _, _, _, _⟩ := h
  have e1 : 2 ^ (b - 1) * 2 ^ (64 - b) = 9223372036854775808 := by rw [← Nat.pow_add, show b - 1 + (64 - b) = 63 by omega]
  have e2 : 2 ^ b * 2 ^ (64 - b) = T64 := by rw [← Nat.pow_add, show b + (64 - b) = 64 by omega]; rfl
  constructor
  · rw [← e1]; exact Nat.mul_le_mul_right _ hd1
  · rw [← e2]; exact Nat.mul_lt_mul_of_pos_right hd2 (Nat.pow_pos (by omega))
theorem lp_row {p : Int} (hp1 : -345 ≤ p) (hp2 : p ≤ 310) :
    denT p * 170141183460469231731687303715884105728 ≤ numT p ∧ numT p * 1048576 ≤ denT p * 356811582894123049326108028987766352327475200 := by
  have := all_range lpRows_ok (i := (p + 345).toNat) (by omega)
  have e : (((p + 345).toNat : Nat) : Int) - 345 = p := by omega
  rw [e] at this
  exact of_decide_eq_true this
theorem PF.bal {d : Nat} {p : Int} {b s ke c : Nat} (h : PF d p b s ke) (hc : c = 1074) :
    d * 2 ^ (64 - b) * numT p * (10 ^ (-p).toNat * 2 ^ ke) = 4 * (d * 10 ^ p.toNat * 2 ^ c) * (denT p * (2 ^ s * T128)) := by
  obtain ⟨hb, _, _, _, _, _, _, hrel, _⟩ := h
  unfold numT denT
  refine pow_bal ?_
  omega
theorem PF.unr {d : Nat} {p : Int} {b s ke c : Nat} (h : PF d p b s ke) (hc : c = 1074) :
    unr (d * 2 ^ (64 - b) * numT p) (denT p * (2 ^ s * T128)) = unr (4 * (d * 10 ^ p.toNat * 2 ^ c)) (10 ^ (-p).toNat * 2 ^ ke) := by
  refine unr_ratio ?_ ?_ (h.bal hc)
  · exact Nat.mul_pos (Nat.mul_pos (Nat.pow_pos (by omega)) (Nat.pow_pos (by omega))) (Nat.mul_pos (Nat.pow_pos (by omega)) (by rw [e128]; omega))
  · exact Nat.mul_pos (Nat.pow_pos (by omega)) (Nat.pow_pos (by omega))
theorem PF.upper {d : Nat} {p : Int} {b s ke c : Nat} (h : PF d p b s ke) (hc : c = 1074) :
    d * 10 ^ p.toNat * 2 ^ c * 1048576 < 10 ^ (-p).toNat * 2 ^ ke * 18889447917080071372800 := by
  have hbal := h.bal hc
  have hx := h.x.2
  have hr := (lp_row h.hp1 h.hp2).2
  have hden : 0 < denT p := Nat.mul_pos (Nat.pow_pos (by omega)) (Nat.pow_pos (by omega))
  have hS : 2 ^ 8 ≤ 2 ^ s := Nat.pow_le_pow_right (by omega) h.hs
  have hDd : 0 < 10 ^ (-p).toNat * 2 ^ ke := Nat.mul_pos (Nat.pow_pos (by omega)) (Nat.pow_pos (by omega))
  generalize d * 10 ^ p.toNat * 2 ^ c = N at *
  generalize 10 ^ (-p).toNat * 2 ^ ke = D at *
  generalize d * 2 ^ (64 - b) = x at *
  generalize numT p = a at *
  generalize denT p = q at *
  generalize 2 ^ s = S at *
  clear h hc
  have hx' : x ≤ 18446744073709551615 := by rw [e64] at hx; omega
  have hB : 0 < q * (S * T128) := Nat.mul_pos hden (Nat.mul_pos (by omega) (by rw [e128]; omega))
  have h1 : x * a * 1048576 < q * (S * T128) * 75557791668320285491200 := by
    have s1 : x * (a * 1048576) ≤ x * (q * 356811582894123049326108028987766352327475200) := Nat.mul_le_mul_left _ hr
    have s2 : x * (q * 356811582894123049326108028987766352327475200) ≤ 18446744073709551615 * (q * 356811582894123049326108028987766352327475200) := Nat.mul_le_mul_right _ hx'
    have s3 : q * (256 * T128) ≤ q * (S * T128) := Nat.mul_le_mul_left _ (Nat.mul_le_mul_right _ hS)
    rw [Nat.mul_assoc x a]
    refine Nat.lt_of_le_of_lt (Nat.le_trans s1 s2) (Nat.lt_of_lt_of_le ?_ (Nat.mul_le_mul_right _ s3))
    rw [Nat.mul_left_comm, Nat.mul_assoc q]
    exact Nat.mul_lt_mul_of_pos_left (by decide) hden
  have h2 : x * a * D * 1048576 < q * (S * T128) * 75557791668320285491200 * D := by
    have := Nat.mul_lt_mul_of_pos_right h1 hDd
    calc x * a * D * 1048576 = x * a * 1048576 * D := by rw [Nat.mul_right_comm]
      _ < _ := this
  rw [hbal] at h2
  generalize q * (S * T128) = Y at *
  have h3 : Y * (4 * N * 1048576) < Y * (75557791668320285491200 * D) := by
    calc Y * (4 * N * 1048576) = 4 * N * Y * 1048576 := by grind
      _ < Y * 75557791668320285491200 * D := h2
      _ = _ := by rw [Nat.mul_assoc]
  have h4 := Nat.lt_of_mul_lt_mul_left h3
  have h5 : 4 * (N * 1048576) < 4 * (D * 18889447917080071372800) := by
    rw [← Nat.mul_assoc, Nat.mul_comm D, ← Nat.mul_assoc 4]
    exact h4
  exact Nat.lt_of_mul_lt_mul_left h5
theorem PF.lower {d : Nat} {p : Int} {b s ke c : Nat} (h : PF d p b s ke) (hc : c = 1074) :
    ke = 0 ∨ 10 ^ (-p).toNat * 2 ^ ke * 4503599627370496 ≤ d * 10 ^ p.toNat * 2 ^ c := by
  rcases h.hke with hk | hs8
  · left; exact hk
  · right
    have hbal := h.bal hc
    have hx := h.x.1
    have hr := (lp_row h.hp1 h.hp2).1
    have hden : 0 < denT p := Nat.mul_pos (Nat.pow_pos (by omega)) (Nat.pow_pos (by omega))
    have hDd : 0 < 10 ^ (-p).toNat * 2 ^ ke := Nat.mul_pos (Nat.pow_pos (by omega)) (Nat.pow_pos (by omega))
    subst hs8
    have e8 : (2 : Nat) ^ 8 = 256 := rfl
    rw [e8] at hbal
    generalize d * 10 ^ p.toNat * 2 ^ c = N at *
    generalize 10 ^ (-p).toNat * 2 ^ ke = D at *
    generalize d * 2 ^ (64 - b) = x at *
    generalize numT p = a at *
    generalize denT p = q at *
    clear h hc
    have s1 : 9223372036854775808 * (q * 170141183460469231731687303715884105728) ≤ x * a := Nat.mul_le_mul hx hr
    have s2 : 9223372036854775808 * (q * 170141183460469231731687303715884105728) * D ≤ x * a * D := Nat.mul_le_mul_right _ s1
    rw [hbal, e128] at s2
    have s3 : q * (18014398509481984 * D) ≤ q * (4 * N) := by
      have e1 : 9223372036854775808 * (q * 170141183460469231731687303715884105728) * D = q * (18014398509481984 * D) * 87112285931760246646623899502532662132736 := by grind
      have e2 : 4 * N * (q * (256 * 340282366920938463463374607431768211456)) = q * (4 * N) * 87112285931760246646623899502532662132736 := by grind
      rw [e1, e2] at s2
      exact Nat.le_of_mul_le_mul_right s2 (by omega)
    have s4 := Nat.le_of_mul_le_mul_left s3 hden
    have s5 : 4 * (D * 4503599627370496) ≤ 4 * N := by
      rw [Nat.mul_comm D, ← Nat.mul_assoc 4]
      exact s4
    exact Nat.le_of_mul_le_mul_left s5 (Nat.succ_pos 3)
end Go.Proofs.YtmndipnifjpdjaaGreatDoor
