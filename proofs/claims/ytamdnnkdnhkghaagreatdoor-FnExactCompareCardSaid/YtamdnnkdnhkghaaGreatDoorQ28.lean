import Derived.Test.YtamdnnkdnhkghaaGreatDoorQ22
namespace Go.Proofs.YtamdnnkdnhkghaaGreatDoor
set_option linter.unusedVariables false

/-- v / 10^K stands for A / B: not above it, equal unless cut, and no multiple of 10^-Q lies between. -/
structure RepV (A B K Q v : Nat) (tr : Bool) : Prop where
  le : v * B ≤ A * 10 ^ K
  eq : tr = false → v * B = A * 10 ^ K
  lt : tr = true → v * B < A * 10 ^ K
  fl : ∀ p, p * B ≤ A * 10 ^ Q → p * 10 ^ (K - Q) ≤ v

theorem RepV.of_eq {A B K Q v : Nat} (hB : 0 < B) (hQ : Q ≤ K) (h : v * B = A * 10 ^ K) : RepV A B K Q v false := by
  refine ⟨Nat.le_of_eq h, fun _ => h, fun h => (by cases h), fun p hp => ?_⟩
  refine Nat.le_of_mul_le_mul_right ?_ hB
  calc p * 10 ^ (K - Q) * B = p * B * 10 ^ (K - Q) := Nat.mul_right_comm _ _ _
    _ ≤ A * 10 ^ Q * 10 ^ (K - Q) := Nat.mul_le_mul_right _ hp
    _ = v * B := by rw [Nat.mul_assoc, ← Nat.pow_add, h]; congr 2; omega

/-- Where all digits have room nothing is cut. -/
theorem RepV.exact {A B K Q v : Nat} {tr : Bool} (h : RepV A B K Q v tr) (hQ : Q ≤ K) (hd : B ∣ A * 10 ^ Q) : tr = false := by
  cases tr with
  | false => rfl
  | true =>
    exfalso
    have h1 := h.lt rfl
    obtain ⟨p, hp⟩ := hd
    have h2 := h.fl p (by rw [hp, Nat.mul_comm]; exact Nat.le_refl _)
    have h3 := Nat.mul_le_mul_right B h2
    have e : p * 10 ^ (K - Q) * B = A * 10 ^ K := by
      rw [Nat.mul_right_comm, Nat.mul_comm p B, ← hp, Nat.mul_assoc, ← Nat.pow_add]; congr 2; omega
    omega

theorem RepV.left {A B K Q Q' v k : Nat} {tr : Bool} (h : RepV A B K Q v tr) (hQ : Q ≤ K) (hQ' : Q' + k ≤ Q) : RepV (A * 2 ^ k) B K Q' (v * 2 ^ k) tr := by
  have p2 : 0 < 2 ^ k := Nat.pow_pos (by omega)
  have e : v * 2 ^ k * B = v * B * 2 ^ k := Nat.mul_right_comm _ _ _
  have e2 : A * 2 ^ k * 10 ^ K = A * 10 ^ K * 2 ^ k := Nat.mul_right_comm _ _ _
  refine ⟨?_, fun ht => ?_, fun ht => ?_, fun p hp => ?_⟩
  · rw [e, e2]; exact Nat.mul_le_mul_right _ h.le
  · rw [e, e2, h.eq ht]
  · rw [e, e2]; exact Nat.mul_lt_mul_of_pos_right (h.lt ht) p2
  · have e10 : (10 : Nat) ^ k = 2 ^ k * 5 ^ k := by rw [← Nat.mul_pow]
    have h1 := h.fl (p * (5 ^ k * 10 ^ (Q - Q' - k))) (by
      calc p * (5 ^ k * 10 ^ (Q - Q' - k)) * B = p * B * (5 ^ k * 10 ^ (Q - Q' - k)) := Nat.mul_right_comm _ _ _
        _ ≤ A * 2 ^ k * 10 ^ Q' * (5 ^ k * 10 ^ (Q - Q' - k)) := Nat.mul_le_mul_right _ hp
        _ = A * ((2 ^ k * 5 ^ k) * (10 ^ Q' * 10 ^ (Q - Q' - k))) := by simp only [Nat.mul_left_comm, Nat.mul_assoc]
        _ = A * 10 ^ Q := by rw [← e10, ← Nat.pow_add, ← Nat.pow_add]; congr 2; omega)
    have h2 := Nat.mul_le_mul_right (2 ^ k) h1
    have e3 : p * (5 ^ k * 10 ^ (Q - Q' - k)) * 10 ^ (K - Q) * 2 ^ k = p * 10 ^ (K - Q') := by
      calc p * (5 ^ k * 10 ^ (Q - Q' - k)) * 10 ^ (K - Q) * 2 ^ k = p * ((2 ^ k * 5 ^ k) * (10 ^ (Q - Q' - k) * 10 ^ (K - Q))) := by simp only [Nat.mul_comm, Nat.mul_left_comm, Nat.mul_assoc]
        _ = p * 10 ^ (K - Q') := by rw [← e10, ← Nat.pow_add, ← Nat.pow_add]; congr 2; omega
    rw [e3] at h2
    exact h2

theorem RepV.right {A B K Q v v' k : Nat} {tr : Bool} (h : RepV A B K Q v tr) (hv : v' * 2 ^ k = v) : RepV A (B * 2 ^ k) K Q v' tr := by
  have p2 : 0 < 2 ^ k := Nat.pow_pos (by omega)
  have e : v' * (B * 2 ^ k) = v * B := by rw [← hv, Nat.mul_right_comm, Nat.mul_assoc]
  refine ⟨?_, fun ht => ?_, fun ht => ?_, fun p hp => ?_⟩
  · rw [e]; exact h.le
  · rw [e]; exact h.eq ht
  · rw [e]; exact h.lt ht
  · have h1 := h.fl (p * 2 ^ k) (by rw [Nat.mul_assoc, Nat.mul_comm (2 ^ k)]; exact hp)
    refine Nat.le_of_mul_le_mul_right ?_ p2
    rw [hv, Nat.mul_right_comm]; exact h1

/-- Digits behind a place are cut off. -/
theorem RepV.cut {A B K Q x m u r a : Nat} {tr tr' : Bool} (hB : 0 < B) (h : RepV A B K Q x tr) (hx : x = m * u + r) (hr : r < u) (hu : r = 0 ∨ 10 ^ (K - Q) = a * u) (ht : tr' = (tr || decide (r ≠ 0))) : RepV A B K Q (m * u) tr' := by
  have hle : m * u * B ≤ x * B := Nat.mul_le_mul_right _ (by omega)
  refine ⟨Nat.le_trans hle h.le, fun e => ?_, fun e => ?_, fun p hp => ?_⟩
  · rw [e] at ht
    have h0 : tr = false ∧ r = 0 := by
      cases tr
      · simp at ht; exact ⟨rfl, ht⟩
      · simp at ht
    have := h.eq h0.1
    rw [hx, h0.2, Nat.add_zero] at this
    exact this
  · rw [e] at ht
    by_cases h0 : tr = true
    · exact Nat.lt_of_le_of_lt hle (h.lt h0)
    · have hr0 : 0 < r := by
        cases tr
        · simp at ht; omega
        · exact absurd rfl h0
      refine Nat.lt_of_lt_of_le ?_ h.le
      rw [hx, Nat.add_mul]
      have := Nat.mul_pos hr0 hB
      omega
  · have h1 := h.fl p hp
    rcases hu with hu | hu
    · omega
    · rw [hu, ← Nat.mul_assoc] at h1 ⊢
      rw [hx] at h1
      have h2 : p * a * u < (m + 1) * u := by rw [Nat.add_mul, Nat.one_mul]; omega
      have h3 : p * a < m + 1 := Nat.lt_of_mul_lt_mul_right h2
      exact Nat.mul_le_mul_right _ (by omega)

/-- Rounding what is held. -/
theorem RepV.rq {A B K Q v : Nat} {tr : Bool} (hB : 0 < B) (h : RepV A B K Q v tr) (hQ1 : 1 ≤ Q) (hQ : Q ≤ K) :
    rq A B = v / 10 ^ K + (if 10 ^ K < 2 * (v % 10 ^ K) ∨ (2 * (v % 10 ^ K) = 10 ^ K ∧ (tr = true ∨ v / 10 ^ K % 2 = 1)) then 1 else 0) := by
  have hu := p10 K
  -- the whole part
  have fl2 : ∀ p, p * B ≤ A * 2 → p * 10 ^ K ≤ v * 2 := by
    intro p hp
    have h1 := h.fl (p * (5 * 10 ^ (Q - 1))) (by
      calc p * (5 * 10 ^ (Q - 1)) * B = p * B * (5 * 10 ^ (Q - 1)) := Nat.mul_right_comm _ _ _
        _ ≤ A * 2 * (5 * 10 ^ (Q - 1)) := Nat.mul_le_mul_right _ hp
        _ = A * (10 ^ (Q - 1) * 10) := by rw [Nat.mul_assoc]; congr 1; omega
        _ = A * 10 ^ Q := by rw [← Nat.pow_succ]; congr 2; omega)
    have h2 := Nat.mul_le_mul_right 2 h1
    have e : p * (5 * 10 ^ (Q - 1)) * 10 ^ (K - Q) * 2 = p * 10 ^ K := by
      calc p * (5 * 10 ^ (Q - 1)) * 10 ^ (K - Q) * 2 = p * (10 * 10 ^ (Q - 1) * 10 ^ (K - Q)) := by
            rw [Nat.mul_assoc p, Nat.mul_assoc p]; congr 1
            generalize 10 ^ (Q - 1) = a
            generalize 10 ^ (K - Q) = b
            rw [Nat.mul_comm _ 2, ← Nat.mul_assoc, ← Nat.mul_assoc]
        _ = p * 10 ^ K := by rw [Nat.mul_comm 10, ← Nat.pow_succ, ← Nat.pow_add]; congr 2; omega
    rw [e] at h2
    exact h2
  have hq := Nat.div_add_mod A B
  have hr := Nat.mod_lt A hB
  have hqv := Nat.div_add_mod v (10 ^ K)
  have hrv := Nat.mod_lt v hu
  have hle := h.le
  have hlt := h.lt
  have heq0 := h.eq
  have e1 : A / B = v / 10 ^ K := by
    apply Nat.le_antisymm
    · have a1 := fl2 (A / B * 2) (by rw [Nat.mul_right_comm]; exact Nat.mul_le_mul_right _ (Nat.div_mul_le_self A B))
      rw [Nat.mul_right_comm] at a1
      exact (Nat.le_div_iff_mul_le hu).2 (Nat.le_of_mul_le_mul_right a1 (by omega))
    · refine (Nat.le_div_iff_mul_le hB).2 ?_
      refine Nat.le_of_mul_le_mul_right ?_ hu
      calc v / 10 ^ K * B * 10 ^ K = v / 10 ^ K * 10 ^ K * B := Nat.mul_right_comm _ _ _
        _ ≤ v * B := Nat.mul_le_mul_right _ (Nat.div_mul_le_self _ _)
        _ ≤ A * 10 ^ K := hle
  unfold YtamdnnkdnhkghaaGreatDoor.rq
  rw [← e1]
  congr 1
  -- the rest against a half
  generalize hqd : A / B = q at *
  rw [e1] at hq
  rw [← e1] at hqv hq
  generalize hR : A % B = R at *
  generalize hS : v % 10 ^ K = S at *
  generalize hU : 10 ^ K = U at *
  -- A = B q + R, v = U q + S
  have hle' : S * B ≤ R * U := by
    have a : v * B = U * q * B + S * B := by rw [← hqv, Nat.add_mul]
    have b : A * U = B * q * U + R * U := by rw [← hq, Nat.add_mul]
    have c : U * q * B = B * q * U := by rw [Nat.mul_comm U, Nat.mul_comm B, Nat.mul_right_comm]
    omega
  have hfl : B ≤ 2 * R → U ≤ 2 * S := by
    intro hh
    have a := fl2 (2 * q + 1) (by rw [← hq, Nat.add_mul, Nat.add_mul, Nat.mul_comm B q, Nat.mul_assoc 2]; omega)
    rw [← hqv, Nat.add_mul, Nat.add_mul, Nat.mul_comm U q, Nat.mul_assoc 2] at a
    omega
  have hst : tr = true → S * B < R * U := by
    intro ht
    have a : v * B = U * q * B + S * B := by rw [← hqv, Nat.add_mul]
    have b : A * U = B * q * U + R * U := by rw [← hq, Nat.add_mul]
    have c : U * q * B = B * q * U := by rw [Nat.mul_comm U, Nat.mul_comm B, Nat.mul_right_comm]
    have := hlt ht
    omega
  have heq : tr = false → S * B = R * U := by
    intro ht
    have a : v * B = U * q * B + S * B := by rw [← hqv, Nat.add_mul]
    have b : A * U = B * q * U + R * U := by rw [← hq, Nat.add_mul]
    have c : U * q * B = B * q * U := by rw [Nat.mul_comm U, Nat.mul_comm B, Nat.mul_right_comm]
    have := heq0 ht
    omega
  -- from S U-sides to R B-sides
  have k1 : U < 2 * S → B < 2 * R := by
    intro hh
    have a : B * U < B * (2 * S) := Nat.mul_lt_mul_of_pos_left hh hB
    have b : B * (2 * S) = 2 * (S * B) := by rw [Nat.mul_comm B, Nat.mul_assoc]
    have c : 2 * R * U = 2 * (R * U) := Nat.mul_assoc _ _ _
    exact Nat.lt_of_mul_lt_mul_right (a := U) (by omega)
  have k2 : 2 * S = U → tr = true → B < 2 * R := by
    intro hh ht
    have := hst ht
    have b : B * U = 2 * (S * B) := by rw [← hh, Nat.mul_comm B, Nat.mul_assoc]
    have c : 2 * R * U = 2 * (R * U) := Nat.mul_assoc _ _ _
    exact Nat.lt_of_mul_lt_mul_right (a := U) (by omega)
  have k3 : 2 * S = U → tr = false → 2 * R = B := by
    intro hh ht
    have := heq ht
    have b : B * U = 2 * (S * B) := by rw [← hh, Nat.mul_comm B, Nat.mul_assoc]
    have c : 2 * R * U = 2 * (R * U) := Nat.mul_assoc _ _ _
    exact Nat.eq_of_mul_eq_mul_right hu (by omega)
  have k4 : 2 * S < U → 2 * R < B := by
    intro hh
    rcases Nat.lt_or_ge (2 * R) B with g | g
    · exact g
    · have := hfl g; omega
  have key : (B < 2 * R ∨ 2 * R = B ∧ q % 2 = 1) ↔ (U < 2 * S ∨ 2 * S = U ∧ (tr = true ∨ q % 2 = 1)) := by
    rcases Nat.lt_trichotomy (2 * S) U with c | c | c
    · have := k4 c; omega
    · cases htr : tr with
      | true => have := k2 c htr; simp; omega
      | false => have := k3 c htr; simp; omega
    · have := k1 c; omega
  simp only [key]
end Go.Proofs.YtamdnnkdnhkghaaGreatDoor

namespace Go.Proofs.YtamdnnkdnhkghaaGreatDoor
set_option linter.unusedVariables false

theorem exKK : ∃ K : Nat, K = 3000 := ⟨3000, rfl⟩
noncomputable def KK : Nat := Classical.choose exKK
theorem KK_eq : KK = 3000 := Classical.choose_spec exKK

/-- A decimal that stands for A / B. -/
structure FB (A B Q : Nat) (D : Nat → Int) (nd : Nat) (dp : Int) (tr : Bool) : Prop where
  norm : Norm D nd
  ne : nd ≠ 0
  lo : -2000 ≤ dp
  hi : dp ≤ 2000
  hQ : Q ≤ 800
  hB : 0 < B
  rep : RepV A B KK Q (dv D nd * 10 ^ (dp - nd + KK).toNat) tr

theorem pow10_le {a b : Nat} (h : 10 ^ a ≤ 10 ^ b) : a ≤ b := by
  rcases Nat.lt_or_ge b a with g | g
  · have := Nat.pow_lt_pow_right (a := 10) (by omega) g; omega
  · exact g
theorem pow10_lt {a b : Nat} (h : 10 ^ a < 10 ^ b) : a < b := by
  rcases Nat.lt_or_ge a b with g | g
  · exact g
  · have := Nat.pow_le_pow_right (show 0 < 10 by omega) g; omega

theorem FB.vlo {A B Q nd : Nat} {D : Nat → Int} {dp : Int} {tr : Bool} (h : FB A B Q D nd dp tr) : 10 ^ (dp - 1 + KK).toNat ≤ dv D nd * 10 ^ (dp - nd + KK).toNat := by
  have hK := KK_eq
  have h1 := h.lo
  have h2 := h.norm.le
  have h3 := h.ne
  have := dv_ge h.norm.ok h.ne (h.norm.head h.ne)
  have := Nat.mul_le_mul_right (10 ^ (dp - nd + KK).toNat) this
  rw [← Nat.pow_add, show nd - 1 + (dp - nd + KK).toNat = (dp - 1 + KK).toNat by omega] at this
  exact this
theorem FB.vhi {A B Q nd : Nat} {D : Nat → Int} {dp : Int} {tr : Bool} (h : FB A B Q D nd dp tr) : dv D nd * 10 ^ (dp - nd + KK).toNat < 10 ^ (dp + KK).toNat := by
  have hK := KK_eq
  have h1 := h.lo
  have h2 := h.norm.le
  have := Nat.mul_lt_mul_of_pos_right (dv_lt h.norm.ok) (p10 (dp - nd + KK).toNat)
  rw [← Nat.pow_add, show nd + (dp - nd + KK).toNat = (dp + KK).toNat by omega] at this
  exact this

/-- What the point's place tells of the number. -/
theorem FB.ub {A B Q nd b : Nat} {D : Nat → Int} {dp : Int} {tr : Bool} (h : FB A B Q D nd dp tr) (hb : A < B * 10 ^ b) : dp ≤ b := by
  have hK := KK_eq
  have h1 := h.lo
  have h3 := Nat.mul_le_mul_right B h.vlo
  have h4 := h.rep.le
  have h5 := Nat.mul_lt_mul_of_pos_right hb (p10 KK)
  have h6 : 10 ^ (dp - 1 + KK).toNat * B < 10 ^ (b + KK) * B := by
    rw [Nat.pow_add, Nat.mul_comm _ B, Nat.mul_comm _ B, ← Nat.mul_assoc]
    rw [Nat.mul_comm _ B] at h3
    omega
  have := pow10_lt (Nat.lt_of_mul_lt_mul_right h6)
  omega
theorem FB.lb {A B Q nd a : Nat} {D : Nat → Int} {dp : Int} {tr : Bool} (h : FB A B Q D nd dp tr) (ha : a ≤ Q) (hb : B ≤ A * 10 ^ a) : -(a : Int) < dp := by
  have hK := KK_eq
  have h1 := h.lo
  have hQ := h.hQ
  have h3 := h.rep.fl (10 ^ (Q - a)) (by
    have := Nat.mul_le_mul_right (10 ^ (Q - a)) hb
    rw [Nat.mul_assoc, ← Nat.pow_add, show a + (Q - a) = Q by omega] at this
    rw [Nat.mul_comm]; exact this)
  rw [← Nat.pow_add] at h3
  have := pow10_lt (Nat.lt_of_le_of_lt h3 h.vhi)
  omega
/-- The point ahead of the digits and further: a small number. -/
theorem FB.small {A B Q nd a : Nat} {D : Nat → Int} {dp : Int} {tr : Bool} (h : FB A B Q D nd dp tr) (ha : a ≤ Q) (hd : dp ≤ -(a : Int)) : A * 10 ^ a < B := by
  rcases Nat.lt_or_ge (A * 10 ^ a) B with g | g
  · exact g
  · have := h.lb ha g; omega
theorem FB.great {A B Q nd b : Nat} {D : Nat → Int} {dp : Int} {tr : Bool} (h : FB A B Q D nd dp tr) (hd : (b : Int) < dp) : B * 10 ^ b ≤ A := by
  rcases Nat.lt_or_ge A (B * 10 ^ b) with g | g
  · have := h.ub g; omega
  · exact g

theorem dv_head5 {D : Nat → Int} {n : Nat} (h : OkDig D n) (hn : n ≠ 0) (hh : 53 ≤ D 0) : 5 * 10 ^ (n - 1) ≤ dv D n := by
  obtain ⟨m, rfl⟩ : ∃ m, n = 1 + m := ⟨n - 1, by omega⟩
  rw [dv_sg m 1]
  have h0 := h 0 (by omega)
  have : 5 ≤ dv D 1 := by simp [dv, dgt]; omega
  have := Nat.mul_le_mul_right (10 ^ m) this
  rw [show 1 + m - 1 = m by omega]
  omega
theorem dv_head4 {D : Nat → Int} {n : Nat} (h : OkDig D n) (hn : n ≠ 0) (hh : D 0 < 53) : dv D n < 5 * 10 ^ (n - 1) := by
  obtain ⟨m, rfl⟩ : ∃ m, n = 1 + m := ⟨n - 1, by omega⟩
  rw [dv_sg m 1]
  have h0 := h 0 (by omega)
  have : dv D 1 + 1 ≤ 5 := by simp [dv, dgt]; omega
  have := Nat.mul_le_mul_right (10 ^ m) this
  have h2 := sg_lt (D := D) (n := m) (a := 1) h
  rw [Nat.add_mul, Nat.one_mul] at this
  rw [show 1 + m - 1 = m by omega]
  omega

theorem FB.half {A B Q nd : Nat} {D : Nat → Int} {tr : Bool} (h : FB A B Q D nd 0 tr) (h5 : 53 ≤ D 0) : B ≤ 2 * A := by
  have hK := KK_eq
  have h2 := h.norm.le
  have h3 := h.ne
  have g := Nat.mul_le_mul_right (10 ^ (0 - (nd : Int) + KK).toNat) (dv_head5 h.norm.ok h.ne h5)
  rw [Nat.mul_assoc, ← Nat.pow_add, show nd - 1 + (0 - (nd : Int) + KK).toNat = KK - 1 by omega] at g
  have g2 := Nat.le_trans (Nat.mul_le_mul_right B g) h.rep.le
  have e : 10 ^ KK = 2 * (5 * 10 ^ (KK - 1)) := by rw [show KK = (KK - 1) + 1 by omega, Nat.pow_succ, Nat.add_sub_cancel]; omega
  rw [e] at g2
  have hp : 0 < 5 * 10 ^ (KK - 1) := Nat.mul_pos (by omega) (p10 _)
  generalize 5 * 10 ^ (KK - 1) = y at *
  have g3 : y * B ≤ y * (2 * A) := by
    rw [Nat.mul_comm A, Nat.mul_comm 2 y, Nat.mul_assoc] at g2
    exact g2
  exact Nat.le_of_mul_le_mul_left g3 hp
theorem FB.lthalf {A B Q nd : Nat} {D : Nat → Int} {tr : Bool} (h : FB A B Q D nd 0 tr) (hQ1 : 1 ≤ Q) (h5 : D 0 < 53) : A * 2 < B := by
  have hK := KK_eq
  have h2 := h.norm.le
  have h3 := h.ne
  have hQ := h.hQ
  rcases Nat.lt_or_ge (A * 2) B with g | g
  · exact g
  · exfalso
    have f := h.rep.fl (5 * 10 ^ (Q - 1)) (by
      have := Nat.mul_le_mul_right (5 * 10 ^ (Q - 1)) g
      have e : A * 2 * (5 * 10 ^ (Q - 1)) = A * 10 ^ Q := by
        rw [Nat.mul_assoc]; congr 1
        rw [show Q = (Q - 1) + 1 by omega, Nat.pow_succ, Nat.add_sub_cancel]; omega
      rw [e, Nat.mul_comm] at this
      exact this)
    rw [Nat.mul_assoc, ← Nat.pow_add, show Q - 1 + (KK - Q) = KK - 1 by omega] at f
    have g2 := Nat.mul_lt_mul_of_pos_right (dv_head4 h.norm.ok h.ne h5) (p10 (0 - (nd : Int) + KK).toNat)
    rw [Nat.mul_assoc, ← Nat.pow_add, show nd - 1 + (0 - (nd : Int) + KK).toNat = KK - 1 by omega] at g2
    omega

/-- A shift's rest is cut off. -/
theorem fb_cut {A B Q X S b nd : Nat} {E dp : Int} {D : Nat → Int} {tr tr' : Bool} (hB : 0 < B) (h : RepV A B KK Q (X * 10 ^ S) tr) (hS : (S : Int) = E + KK) (hs : Shf X E tr D nd dp tr') (hb : A < B * 10 ^ b) (hbQ : b + Q ≤ 800) (hlo : B ≤ A * 10 ^ Q) :
    FB A B Q D nd dp tr' := by
  have hK := KK_eq
  obtain ⟨hN, hn0, _, j, t, r, hX, hr, hdp, hj, htr⟩ := hs
  have hx : X * 10 ^ S = dv D nd * 10 ^ t * 10 ^ (j + S) + r * 10 ^ S := by rw [hX, Nat.add_mul, Nat.pow_add, ← Nat.mul_assoc (_ * _)]
  have hr' : r * 10 ^ S < 10 ^ (j + S) := by rw [Nat.pow_add]; exact Nat.mul_lt_mul_of_pos_right hr (p10 S)
  have hge := dv_ge hN.ok hn0 (hN.head hn0)
  have hub : dp ≤ b := by
    have a1 : 10 ^ (nd - 1 + t + (j + S)) ≤ X * 10 ^ S := by
      rw [hx, Nat.pow_add, Nat.pow_add]
      exact Nat.le_trans (Nat.mul_le_mul_right _ (Nat.mul_le_mul_right _ hge)) (Nat.le_add_right _ _)
    have a2 := Nat.le_trans (Nat.mul_le_mul_right B a1) h.le
    have a3 := Nat.lt_of_le_of_lt a2 (Nat.mul_lt_mul_of_pos_right hb (p10 KK))
    rw [Nat.mul_assoc, ← Nat.pow_add, Nat.mul_comm] at a3
    have := pow10_lt (Nat.lt_of_mul_lt_mul_left a3)
    omega
  have hc := RepV.cut (a := 10 ^ (KK - Q - (j + S))) hB h hx hr' (by
    rcases hj with hj | hj
    · left; subst hj; rw [Nat.pow_zero] at hr; rw [show r = 0 by omega, Nat.zero_mul]
    · right; rw [← Nat.pow_add]; congr 1; omega) (tr' := tr') (by
    have hp := p10 S
    rw [htr]; congr 1
    by_cases h0 : r = 0
    · simp [h0]
    · have : r * 10 ^ S ≠ 0 := Nat.mul_ne_zero h0 (by omega)
      rw [decide_eq_true this, decide_eq_true h0])
  have e : dv D nd * 10 ^ t * 10 ^ (j + S) = dv D nd * 10 ^ (dp - nd + KK).toNat := by
    rw [Nat.mul_assoc, ← Nat.pow_add]; congr 2; omega
  rw [e] at hc
  have hlb : -(Q : Int) < dp := by
    have f := hc.fl 1 (by rw [Nat.one_mul]; exact hlo)
    rw [Nat.one_mul] at f
    have g := Nat.mul_lt_mul_of_pos_right (dv_lt hN.ok) (p10 (dp - nd + KK).toNat)
    rw [← Nat.pow_add] at g
    have := pow10_lt (Nat.lt_of_le_of_lt f g)
    omega
  exact ⟨hN, hn0, by omega, by omega, by omega, hB, hc⟩

theorem FB.left {A B Q Q' b k nd nd' : Nat} {D D' : Nat → Int} {dp dp' : Int} {tr tr' : Bool} (h : FB A B Q D nd dp tr) (hs : Shf (dv D nd * 2 ^ k) (dp - nd) tr D' nd' dp' tr') (hQ' : Q' + k ≤ Q ∨ (B ∣ A * 10 ^ Q ∧ Q' = Q))
    (hb : A * 2 ^ k < B * 10 ^ b) (hbQ : b + Q' ≤ 800) (hlo : B ≤ A * 2 ^ k * 10 ^ Q') : FB (A * 2 ^ k) B Q' D' nd' dp' tr' := by
  have hK := KK_eq
  have h1 := h.lo
  have h2 := h.norm.le
  have hQ := h.hQ
  refine fb_cut (S := (dp - nd + KK).toNat) h.hB ?_ (by omega) hs hb hbQ hlo
  rw [Nat.mul_right_comm]
  rcases hQ' with g | ⟨g, rfl⟩
  · exact h.rep.left (by omega) g
  · have ht := h.rep.exact (by omega) g
    have he := h.rep.eq ht
    rw [ht]
    refine RepV.of_eq h.hB (by omega) ?_
    rw [Nat.mul_right_comm, he, Nat.mul_right_comm]

theorem FB.right {A B Q b k nd nd' : Nat} {D D' : Nat → Int} {dp dp' : Int} {tr tr' : Bool} (h : FB A B Q D nd dp tr) (hk : k ≤ 60) (hs : Shf (dv D nd * 5 ^ k) (dp - nd - k) tr D' nd' dp' tr')
    (hb : A < B * 2 ^ k * 10 ^ b) (hbQ : b + Q ≤ 800) (hlo : B * 2 ^ k ≤ A * 10 ^ Q) : FB A (B * 2 ^ k) Q D' nd' dp' tr' := by
  have hK := KK_eq
  have h1 := h.lo
  have h2 := h.norm.le
  have hQ := h.hQ
  refine fb_cut (S := (dp - nd + KK).toNat - k) (Nat.mul_pos h.hB (Nat.pow_pos (by omega))) ?_ (by omega) hs hb hbQ hlo
  refine h.rep.right ?_
  have e10 : (5 : Nat) ^ k * 2 ^ k = 10 ^ k := by rw [← Nat.mul_pow]
  rw [Nat.mul_right_comm, Nat.mul_assoc (dv D nd), e10, Nat.mul_assoc, ← Nat.pow_add]
  congr 2; omega

theorem FB.mono {A B Q Q' nd : Nat} {D : Nat → Int} {dp : Int} {tr : Bool} (h : FB A B Q D nd dp tr) (hQ : Q' ≤ Q) : FB A B Q' D nd dp tr := by
  have hK := KK_eq
  have hQ8 := h.hQ
  refine ⟨h.norm, h.ne, h.lo, h.hi, by omega, h.hB, h.rep.le, h.rep.eq, h.rep.lt, fun p hp => ?_⟩
  have := h.rep.fl (p * 10 ^ (Q - Q')) (by
    have := Nat.mul_le_mul_right (10 ^ (Q - Q')) hp
    rw [Nat.mul_right_comm, Nat.mul_assoc A, ← Nat.pow_add, show Q' + (Q - Q') = Q by omega] at this
    exact this)
  rw [Nat.mul_assoc, ← Nat.pow_add, show Q - Q' + (KK - Q) = KK - Q' by omega] at this
  exact this
end Go.Proofs.YtamdnnkdnhkghaaGreatDoor
