import Derived.Test.YtmndipnifjpdjaaGreatDoorQ21
import Derived.Test.YtmndipnifjpdjaaGreatDoorQ22
import Derived.Test.YtmndipnifjpdjaaGreatDoorQ23
import Derived.Test.YtmndipnifjpdjaaGreatDoorQ25
import Derived.Test.YtmndipnifjpdjaaGreatDoorQ26
import Derived.Test.YtmndipnifjpdjaaGreatDoorQ24
namespace Go.Proofs.YtmndipnifjpdjaaGreatDoor
set_option linter.unusedVariables false
structure RepV (A B K Q v : Nat) (tr : Bool) : Prop where
  le : v * B ≤ A * 10 ^ K
  eq : tr = false → v * B = A * 10 ^ K
  lt : tr = true → v * B < A * 10 ^ K
  fl : ∀ p, p * B ≤ A * 10 ^ Q → p * 10 ^ (K - Q) ≤ v
theorem RepV.of_eq {A B K Q v : Nat} (hB : 0 < B) (hQ : Q ≤ K) (h : v * B = A * 10 ^ K) : RepV A B K Q v false := by
  refine ⟨Nat.le_of_eq h, fun _ => h, fun h => (by cases h), fun p hp => ?_⟩
  refine Nat.le_of_mul_le_mul_right ?_ hB
  calc p * 10 ^ (K - Q) * B = p * B * 10 ^ (K - Q) := Nat.mul_right_comm _ _ _
    _ ≤ A * 10 ^ Q * 10 ^ (K - Q) := Nat.mul_le_mul_right _ hp
    _ = v * B := by rw [Nat.mul_assoc, ← Nat.pow_add, h]; congr 2; omega
theorem RepV.exact {A B K Q v : Nat} {tr : Bool} (h : RepV A B K Q v tr) (hQ : Q ≤ K) (hd : B ∣ A * 10 ^ Q) : tr = false := by
  cases tr with
  | false => rfl
  | true =>
    exfalso
    have h1 := h.lt rfl
    obtain ⟨p, hp⟩ := hd
    have h2 := h.fl p (by rw [hp, Nat.mul_comm]; exact Nat.le_refl _)
    have h3 := Nat.mul_le_mul_right B h2
    have e : p * 10 ^ (K - Q) * B = A * 10 ^ K := by
      rw [Nat.mul_right_comm, Nat.mul_comm p B, ← hp, Nat.mul_assoc, ← Nat.pow_add]; congr 2; omega
    omega
theorem RepV.left {A B K Q Q' v k : Nat} {tr : Bool} (h : RepV A B K Q v tr) (hQ : Q ≤ K) (hQ' : Q' + k ≤ Q) : RepV (A * 2 ^ k) B K Q' (v * 2 ^ k) tr := by
  have p2 : 0 < 2 ^ k := Nat.pow_pos (by omega)
  have e : v * 2 ^ k * B = v * B * 2 ^ k := Nat.mul_right_comm _ _ _
  have e2 : A * 2 ^ k * 10 ^ K = A * 10 ^ K * 2 ^ k := Nat.mul_right_comm _ _ _
  refine ⟨?_, fun ht => ?_, fun ht => ?_, fun p hp => ?_⟩
  · rw [e, e2]; exact Nat.mul_le_mul_right _ h.le
  · rw [e, e2, h.eq ht]
  · rw [e, e2]; exact Nat.mul_lt_mul_of_pos_right (h.lt ht) p2
  · have e10 : (10 : Nat) ^ k = 2 ^ k * 5 ^ k := by rw [← Nat.mul_pow]
    have h1 := h.fl (p * (5 ^ k * 10 ^ (Q - Q' - k))) (by
      calc p * (5 ^ k * 10 ^ (Q - Q' - k)) * B = p * B * (5 ^ k * 10 ^ (Q - Q' - k)) := Nat.mul_right_comm _ _ _
        _ ≤ A * 2 ^ k * 10 ^ Q' * (5 ^ k * 10 ^ (Q - Q' - k)) := Nat.mul_le_mul_right _ hp
        _ = A * ((2 ^ k * 5 ^ k) * (10 ^ Q' * 10 ^ (Q - Q' - k))) := by simp only [Nat.mul_left_comm, Nat.mul_assoc]
        _ = A * 10 ^ Q := by rw [← e10, ← Nat.pow_add, ← Nat.pow_add]; congr 2; omega)
    have h2 := Nat.mul_le_mul_right (2 ^ k) h1
    have e3 : p * (5 ^ k * 10 ^ (Q - Q' - k)) * 10 ^ (K - Q) * 2 ^ k = p * 10 ^ (K - Q') := by
      calc p * (5 ^ k * 10 ^ (Q - Q' - k)) * 10 ^ (K - Q) * 2 ^ k = p * ((2 ^ k * 5 ^ k) * (10 ^ (Q - Q' - k) * 10 ^ (K - Q))) := by simp only [Nat.mul_comm, Nat.mul_left_comm, Nat.mul_assoc]
        _ = p * 10 ^ (K - Q') := by rw [← e10, ← Nat.pow_add, ← Nat.pow_add]; congr 2; omega
    rw [e3] at h2
    exact h2
theorem RepV.right {A B K Q v v' k : Nat} {tr : Bool} (h : RepV A B K Q v tr) (hv : v' * 2 ^ k = v) : RepV A (B * 2 ^ k) K Q v' tr := by
  have p2 : 0 < 2 ^ k := Nat.pow_pos (by omega)
  have e : v' * (B * 2 ^ k) = v * B := by rw [← hv, Nat.mul_right_comm, Nat.mul_assoc]
  refine ⟨?_, fun ht => ?_, fun ht => ?_, fun p hp => ?_⟩
  · rw [e]; exact h.le
  · rw [e]; exact h.eq ht
  · rw [e]; exact h.lt ht
  · have h1 := h.fl (p * 2 ^ k) (by rw [Nat.mul_assoc, Nat.mul_comm (2 ^ k)]; exact hp)
    refine Nat.le_of_mul_le_mul_right ?_ p2
    rw [hv, Nat.mul_right_comm]; exact h1
theorem RepV.cut {A B K Q x m u r a : Nat} {tr tr' : Bool} (hB : 0 < B) (h : RepV A B K Q x tr) (hx : x = m * u + r) (hr : r < u) (hu : r = 0 ∨ 10 ^ (K - Q) = a * u) (ht : tr' = (tr || decide (r ≠ 0))) : RepV A B K Q (m * u) tr' := by
  have hle : m * u * B ≤ x * B := Nat.mul_le_mul_right _ (by omega)
  refine ⟨Nat.le_trans hle h.le, fun e => ?_, fun e => ?_, fun p hp => ?_⟩
  · rw [e] at ht
    have h0 : tr = false ∧ r = 0 := by
      cases tr
      · simp at ht; exact ⟨rfl, ht⟩
      · simp at ht
    have := h.eq h0.1
    rw [hx, h0.2, Nat.add_zero] at this
    exact this
  · rw [e] at ht
    by_cases h0 : tr = true
    · exact Nat.lt_of_le_of_lt hle (h.lt h0)
    · have hr0 : 0 < r := by
        cases tr
        · simp at ht; omega
        · exact absurd rfl h0
      refine Nat.lt_of_lt_of_le ?_ h.le
      rw [hx, Nat.add_mul]
      have := Nat.mul_pos hr0 hB
      omega
  · have h1 := h.fl p hp
    rcases hu with hu | hu
    · omega
    · rw [hu, ← Nat.mul_assoc] at h1 ⊢
      rw [hx] at h1
      have h2 : p * a * u < (m + 1) * u := by rw [Nat.add_mul, Nat.one_mul]; omega
      have h3 : p * a < m + 1 := Nat.lt_of_mul_lt_mul_right h2
      exact Nat.mul_le_mul_right _ (by omega)
theorem RepV.rq {A B K Q v : Nat} {tr : Bool} (hB : 0 < B) (h : RepV A B K Q v tr) (hQ1 : 1 ≤ Q) (hQ : Q ≤ K) :
    rq A B = v / 10 ^ K + (if 10 ^ K < 2 * (v % 10 ^ K) ∨ (2 * (v % 10 ^ K) = 10 ^ K ∧ (tr = true ∨ v / 10 ^ K % 2 = 1)) then 1 else 0) := by
  have hu := p10 K
  -- the whole part
  have fl2 : ∀ p, p * B ≤ A * 2 → p * 10 ^ K ≤ v * 2 := by
    intro p hp
    have h1 := h.fl (p * (5 * 10 ^ (Q - 1))) (by
      calc p * (5 * 10 ^ (Q - 1)) * B = p * B * (5 * 10 ^ (Q - 1)) := Nat.mul_right_comm _ _ _
        _ ≤ A * 2 * (5 * 10 ^ (Q - 1)) := Nat.mul_le_mul_right _ hp
        _ = A * (10 ^ (Q - 1) * 10) := by rw [Nat.mul_assoc]; congr 1; omega
        _ = A * 10 ^ Q := by rw [← Nat.pow_succ]; congr 2; omega)
    have h2 := Nat.mul_le_mul_right 2 h1
    have e : p * (5 * 10 ^ (Q - 1)) * 10 ^ (K - Q) * 2 = p * 10 ^ K := by
      calc p * (5 * 10 ^ (Q - 1)) * 10 ^ (K - Q) * 2 = p * (10 * 10 ^ (Q - 1) * 10 ^ (K - Q)) := by
            rw [Nat.mul_assoc p, Nat.mul_assoc p]; congr 1
            generalize 10 ^ (Q - 1) = a
            generalize 10 ^ (K - Q) = b
            rw [Nat.mul_comm _ 2, ← Nat.mul_assoc, ← Nat.mul_assoc]
        _ = p * 10 ^ K := by rw [Nat.mul_comm 10, ← Nat.pow_succ, ← Nat.pow_add]; congr 2; omega
    rw [e] at h2
    exact h2
  have hq := Nat.div_add_mod A B
  have hr := Nat.mod_lt A hB
  have hqv := Nat.div_add_mod v (10 ^ K)
  have hrv := Nat.mod_lt v hu
  have hle := h.le
  have hlt := h.lt
  have heq0 := h.eq
  have e1 : A / B = v / 10 ^ K := by
    apply Nat.le_antisymm
    · have a1 := fl2 (A / B * 2) (by rw [Nat.mul_right_comm]; exact Nat.mul_le_mul_right _ (Nat.div_mul_le_self A B))
      rw [Nat.mul_right_comm] at a1
      exact (Nat.le_div_iff_mul_le hu).2 (Nat.le_of_mul_le_mul_right a1 (by omega))
    · refine (Nat.le_div_iff_mul_le hB).2 ?_
      refine Nat.le_of_mul_le_mul_right ?_ hu
      calc v / 10 ^ K * B * 10 ^ K = v / 10 ^ K * 10 ^ K * B := Nat.mul_right_comm _ _ _
        _ ≤ v * B := Nat.mul_le_mul_right _ (Nat.div_mul_le_self _ _)
        _ ≤ A * 10 ^ K := hle
  unfold YtmndipnifjpdjaaGreatDoor.rq
  rw [← e1]
  congr 1
  -- the rest against a half
  generalize hqd : A / B = q at *
  rw [e1] at hq
  rw [← e1] at hqv hq
  generalize hR : A % B = R at *
  generalize hS : v % 10 ^ K = S at *
  generalize hU : 10 ^ K = U at *
  -- A = B q + R, v = U q + S
  have hle' : S * B ≤ R * U := by
    have a : v * B = U * q * B + S * B := by rw [← hqv, Nat.add_mul]
    have b : A * U = B * q * U + R * U := by rw [← hq, Nat.add_mul]
    have c : U * q * B = B * q * U := by rw [Nat.mul_comm U, Nat.mul_comm B, Nat.mul_right_comm]
    omega
  have hfl : B ≤ 2 * R → U ≤ 2 * S := by
    intro hh
    have a := fl2 (2 * q + 1) (by rw [← hq, Nat.add_mul, Nat.add_mul, Nat.mul_comm B q, Nat.mul_assoc 2]; omega)
    rw [← hqv, Nat.add_mul, Nat.add_mul, Nat.mul_comm U q, Nat.mul_assoc 2] at a
    omega
  have hst : tr = true → S * B < R * U := by
    intro ht
    have a : v * B = U * q * B + S * B := by rw [← hqv, Nat.add_mul]
    have b : A * U = B * q * U + R * U := by rw [← hq, Nat.add_mul]
    have c : U * q * B = B * q * U := by rw [Nat.mul_comm U, Nat.mul_comm B, Nat.mul_right_comm]
    have := hlt ht
    omega
  have heq : tr = false → S * B = R * U := by
    intro ht
    have a : v * B = U * q * B + S * B := by rw [← hqv, Nat.add_mul]
    have b : A * U = B * q * U + R * U := by rw [← hq, Nat.add_mul]
    have c : U * q * B = B * q * U := by rw [Nat.mul_comm U, Nat.mul_comm B, Nat.mul_right_comm]
    have := heq0 ht
    omega
  -- from S U-sides to R B-sides
  have k1 : U < 2 * S → B < 2 * R := by
    intro hh
    have a : B * U < B * (2 * S) := Nat.mul_lt_mul_of_pos_left hh hB
    have b : B * (2 * S) = 2 * (S * B) := by rw [Nat.mul_comm B, Nat.mul_assoc]
    have c : 2 * R * U = 2 * (R * U) := Nat.mul_assoc _ _ _
    exact Nat.lt_of_mul_lt_mul_right (a := U) (by omega)
  have k2 : 2 * S = U → tr = true → B < 2 * R := by
    intro hh ht
    have := hst ht
    have b : B * U = 2 * (S * B) := by rw [← hh, Nat.mul_comm B, Nat.mul_assoc]
    have c : 2 * R * U = 2 * (R * U) := Nat.mul_assoc _ _ _
    exact Nat.lt_of_mul_lt_mul_right (a := U) (by omega)
  have k3 : 2 * S = U → tr = false → 2 * R = B := by
    intro hh ht
    have := heq ht
    have b : B * U = 2 * (S * B) := by rw [← hh, Nat.mul_comm B, Nat.mul_assoc]
    have c : 2 * R * U = 2 * (R * U) := Nat.mul_assoc _ _ _
    exact Nat.eq_of_mul_eq_mul_right hu (by omega)
  have k4 : 2 * S < U → 2 * R < B := by
    intro hh
    rcases Nat.lt_or_ge (2 * R) B with g | g
    · exact g
    · have := hfl g; omega
  have key : (B < 2 * R ∨ 2 * R = B ∧ q % 2 = 1) ↔ (U < 2 * S ∨ 2 * S = U ∧ (tr = true ∨ q % 2 = 1)) := by
    rcases Nat.lt_trichotomy (2 * S) U with c | c | c
    · have := k4 c; omega
    · cases htr : tr with
      | true => have := k2 c htr; simp; omega
      | false => have := k3 c htr; simp; omega
    · have := k1 c; omega
  simp only [key]
end Go.Proofs.YtmndipnifjpdjaaGreatDoor
namespace Go.Proofs.YtmndipnifjpdjaaGreatDoor
set_option linter.unusedVariables false
theorem exKK : ∃ K : Nat, K = 3000 := ⟨3000, rfl⟩
noncomputable def KK : Nat := Classical.choose exKK
theorem KK_eq : KK = 3000 := Classical.choose_spec exKK
structure FB (A B Q : Nat) (D : Nat → Int) (nd : Nat) (dp : Int) (tr : Bool) : Prop where
  norm : Norm D nd
  ne : nd ≠ 0
  lo : -2000 ≤ dp
  hi : dp ≤ 2000
  hQ : Q ≤ 800
  hB : 0 < B
  rep : RepV A B KK Q (dv D nd * 10 ^ (dp - nd + KK).toNat) tr
theorem pow10_lt {a b : Nat} (h : 10 ^ a < 10 ^ b) : a < b := by
  rcases Nat.lt_or_ge a b with g | g
  · exact g
  · have := Nat.pow_le_pow_right (show 0 < 10 by omega) g; omega
theorem FB.vlo {A B Q nd : Nat} {D : Nat → Int} {dp : Int} {tr : Bool} (h : FB A B Q D nd dp tr) : 10 ^ (dp - 1 + KK).toNat ≤ dv D nd * 10 ^ (dp - nd + KK).toNat := by
  have hK := KK_eq
  have h1 := h.lo
  have h2 := h.norm.le
  have h3 := h.ne
  have := dv_ge h.norm.ok h.ne (h.norm.head h.ne)
  have := Nat.mul_le_mul_right (10 ^ (dp - nd + KK).toNat) this
  rw [← Nat.pow_add, show nd - 1 + (dp - nd + KK).toNat = (dp - 1 + KK).toNat by omega] at this
  exact this
theorem FB.vhi {A B Q nd : Nat} {D : Nat → Int} {dp : Int} {tr : Bool} (h : FB A B Q D nd dp tr) : dv D nd * 10 ^ (dp - nd + KK).toNat < 10 ^ (dp + KK).toNat := by
  have hK := KK_eq
  have h1 := h.lo
  have h2 := h.norm.le
  have := Nat.mul_lt_mul_of_pos_right (dv_lt h.norm.ok) (p10 (dp - nd + KK).toNat)
  rw [← Nat.pow_add, show nd + (dp - nd + KK).toNat = (dp + KK).toNat by omega] at this
  exact this
theorem FB.ub {A B Q nd b : Nat} {D : Nat → Int} {dp : Int} {tr : Bool} (h : FB A B Q D nd dp tr) (hb : A < B * 10 ^ b) : dp ≤ b := by
  have hK := KK_eq
  have h1 := h.lo
  have h3 := Nat.mul_le_mul_right B h.vlo
  have h4 := h.rep.le
  have h5 := Nat.mul_lt_mul_of_pos_right hb (p10 KK)
  have h6 : 10 ^ (dp - 1 + KK).toNat * B < 10 ^ (b + KK) * B := by
    rw [Nat.pow_add, Nat.mul_comm _ B, Nat.mul_comm _ B, ← Nat.mul_assoc]
    rw [Nat.mul_comm _ B] at h3
    omega
  have := pow10_lt (Nat.lt_of_mul_lt_mul_right h6)
  omega
theorem FB.lb {A B Q nd a : Nat} {D : Nat → Int} {dp : Int} {tr : Bool} (h : FB A B Q D nd dp tr) (ha : a ≤ Q) (hb : B ≤ A * 10 ^ a) : -(a : Int) < dp := by
  have hK := KK_eq
  have h1 := h.lo
  have hQ := h.hQ
  have h3 := h.rep.fl (10 ^ (Q - a)) (by
    have := Nat.mul_le_mul_right (10 ^ (Q - a)) hb
    rw [Nat.mul_assoc, ← Nat.pow_add, show a + (Q - a) = Q by omega] at this
    rw [Nat.mul_comm]; exact this)
  rw [← Nat.pow_add] at h3
  have := pow10_lt (Nat.lt_of_le_of_lt h3 h.vhi)
  omega
theorem FB.small {A B Q nd a : Nat} {D : Nat → Int} {dp : Int} {tr : Bool} (h : FB A B Q D nd dp tr) (ha : a ≤ Q) (hd : dp ≤ -(a : Int)) : A * 10 ^ a < B := by
  rcases Nat.lt_or_ge (A * 10 ^ a) B with g | g
  · exact g
  · have := h.lb ha g; omega
theorem FB.great {A B Q nd b : Nat} {D : Nat → Int} {dp : Int} {tr : Bool} (h : FB A B Q D nd dp tr) (hd : (b : Int) < dp) : B * 10 ^ b ≤ A := by
  rcases Nat.lt_or_ge A (B * 10 ^ b) with g | g
  · have := h.ub g; omega
  · exact g
theorem dv_head5 {D : Nat → Int} {n : Nat} (h : OkDig D n) (hn : n ≠ 0) (hh : 53 ≤ D 0) : 5 * 10 ^ (n - 1) ≤ dv D n := by
  obtain ⟨m, rfl⟩ : ∃ m, n = 1 + m := ⟨n - 1, by omega⟩
  rw [dv_sg m 1]
  have h0 := h 0 (by omega)
  have : 5 ≤ dv D 1 := by simp [dv, dgt]; omega
  have := Nat.mul_le_mul_right (10 ^ m) this
  rw [show 1 + m - 1 = m by omega]
  omega
theorem dv_head4 {D : Nat → Int} {n : Nat} (h : OkDig D n) (hn : n ≠ 0) (hh : D 0 < 53) : dv D n < 5 * 10 ^ (n - 1) := by
  obtain ⟨m, rfl⟩ : ∃ m, n = 1 + m := ⟨n - 1, by omega⟩
  rw [dv_sg m 1]
  have h0 := h 0 (by omega)
  have : dv D 1 + 1 ≤ 5 := by simp [dv, dgt]; omega
  have := Nat.mul_le_mul_right (10 ^ m) this
  have h2 := sg_lt (D := D) (n := m) (a := 1) h
  rw [Nat.add_mul, Nat.one_mul] at this
  rw [show 1 + m - 1 = m by omega]
  omega
theorem FB.half {A B Q nd : Nat} {D : Nat → Int} {tr : Bool} (h : FB A B Q D nd 0 tr) (h5 : 53 ≤ D 0) : B ≤ 2 * A := by
  have hK := KK_eq
  have h2 := h.norm.le
  have h3 := h.ne
  have g := Nat.mul_le_mul_right (10 ^ (0 - (nd : Int) + KK).toNat) (dv_head5 h.norm.ok h.ne h5)
  rw [Nat.mul_assoc, ← Nat.pow_add, show nd - 1 + (0 - (nd : Int) + KK).toNat = KK - 1 by omega] at g
  have g2 := Nat.le_trans (Nat.mul_le_mul_right B g) h.rep.le
  have e : 10 ^ KK = 2 * (5 * 10 ^ (KK - 1)) := by rw [show KK = (KK - 1) + 1 by omega, Nat.pow_succ, Nat.add_sub_cancel]; omega
  rw [e] at g2
  have hp : 0 < 5 * 10 ^ (KK - 1) := Nat.mul_pos (by omega) (p10 _)
  generalize 5 * 10 ^ (KK - 1) = y at *
  have g3 : y * B ≤ y * (2 * A) := by
    rw [Nat.mul_comm A, Nat.mul_comm 2 y, Nat.mul_assoc] at g2
    exact g2
  exact Nat.le_of_mul_le_mul_left g3 hp
theorem FB.lthalf {A B Q nd : Nat} {D : Nat → Int} {tr : Bool} (h : FB A B Q D nd 0 tr) (hQ1 : 1 ≤ Q) (h5 : D 0 < 53) : A * 2 < B := by
  have hK := KK_eq
  have h2 := h.norm.le
  have h3 := h.ne
  have hQ := h.hQ
  rcases Nat.lt_or_ge (A * 2) B with g | g
  · exact g
  · exfalso
    have f := h.rep.fl (5 * 10 ^ (Q - 1)) (by
      have := Nat.mul_le_mul_right (5 * 10 ^ (Q - 1)) g
      have e : A * 2 * (5 * 10 ^ (Q - 1)) = A * 10 ^ Q := by
        rw [Nat.mul_assoc]; congr 1
        rw [show Q = (Q - 1) + 1 by omega, Nat.pow_succ, Nat.add_sub_cancel]; omega
      rw [e, Nat.mul_comm] at this
      exact this)
    rw [Nat.mul_assoc, ← Nat.pow_add, show Q - 1 + (KK - Q) = KK - 1 by omega] at f
    have g2 := Nat.mul_lt_mul_of_pos_right (dv_head4 h.norm.ok h.ne h5) (p10 (0 - (nd : Int) + KK).toNat)
    rw [Nat.mul_assoc, ← Nat.pow_add, show nd - 1 + (0 - (nd : Int) + KK).toNat = KK - 1 by omega] at g2
    omega
theorem fb_cut {A B Q X S b nd : Nat} {E dp : Int} {D : Nat → Int} {tr tr' : Bool} (hB : 0 < B) (h : RepV A B KK Q (X * 10 ^ S) tr) (hS : (S : Int) = E + KK) (hs : Shf X E tr D nd dp tr') (hb : A < B * 10 ^ b) (hbQ : b + Q ≤ 800) (hlo : B ≤ A * 10 ^ Q) :
    FB A B Q D nd dp tr' := by
  have hK := KK_eq
  obtain ⟨hN, hn0, _, j, t, r, hX, hr, hdp, hj, htr⟩ := hs
  have hx : X * 10 ^ S = dv D nd * 10 ^ t * 10 ^ (j + S) + r * 10 ^ S := by rw [hX, Nat.add_mul, Nat.pow_add, ← Nat.mul_assoc (_ * _)]
  have hr' : r * 10 ^ S < 10 ^ (j + S) := by rw [Nat.pow_add]; exact Nat.mul_lt_mul_of_pos_right hr (p10 S)
  have hge := dv_ge hN.ok hn0 (hN.head hn0)
  have hub : dp ≤ b := by
    have a1 : 10 ^ (nd - 1 + t + (j + S)) ≤ X * 10 ^ S := by
      rw [hx, Nat.pow_add, Nat.pow_add]
      exact Nat.le_trans (Nat.mul_le_mul_right _ (Nat.mul_le_mul_right _ hge)) (Nat.le_add_right _ _)
    have a2 := Nat.le_trans (Nat.mul_le_mul_right B a1) h.le
    have a3 := Nat.lt_of_le_of_lt a2 (Nat.mul_lt_mul_of_pos_right hb (p10 KK))
    rw [Nat.mul_assoc, ← Nat.pow_add, Nat.mul_comm] at a3
    have := pow10_lt (Nat.lt_of_mul_lt_mul_left a3)
    omega
  have hc := RepV.cut (a := 10 ^ (KK - Q - (j + S))) hB h hx hr' (by
    rcases hj with hj | hj
    · left; subst hj; rw [Nat.pow_zero] at hr; rw [show r = 0 by omega, Nat.zero_mul]
    · right; rw [← Nat.pow_add]; congr 1; omega) (tr' := tr') (by
    have hp := p10 S
    rw [htr]; congr 1
    by_cases h0 : r = 0
    · simp [h0]
    · have : r * 10 ^ S ≠ 0 := Nat.mul_ne_zero h0 (by omega)
      rw [decide_eq_true this, decide_eq_true h0])
  have e : dv D nd * 10 ^ t * 10 ^ (j + S) = dv D nd * 10 ^ (dp - nd + KK).toNat := by
    rw [Nat.mul_assoc, ← Nat.pow_add]; congr 2; omega
  rw [e] at hc
  have hlb : -(Q : Int) < dp := by
    have f := hc.fl 1 (by rw [Nat.one_mul]; exact hlo)
    rw [Nat.one_mul] at f
    have g := Nat.mul_lt_mul_of_pos_right (dv_lt hN.ok) (p10 (dp - nd + KK).toNat)
    rw [← Nat.pow_add] at g
    have := pow10_lt (Nat.lt_of_le_of_lt f g)
    omega
  exact ⟨hN, hn0, by omega, by omega, by omega, hB, hc⟩
theorem FB.left {A B Q Q' b k nd nd' : Nat} {D D' : Nat → Int} {dp dp' : Int} {tr tr' : Bool} (h : FB A B Q D nd dp tr) (hs : Shf (dv D nd * 2 ^ k) (dp - nd) tr D' nd' dp' tr') (hQ' : Q' + k ≤ Q ∨ (B ∣ A * 10 ^ Q ∧ Q' = Q))
    (hb : A * 2 ^ k < B * 10 ^ b) (hbQ : b + Q' ≤ 800) (hlo : B ≤ A * 2 ^ k * 10 ^ Q') : FB (A * 2 ^ k) B Q' D' nd' dp' tr' := by
  have hK := KK_eq
  have h1 := h.lo
  have h2 := h.norm.le
  have hQ := h.hQ
  refine fb_cut (S := (dp - nd + KK).toNat) h.hB ?_ (by omega) hs hb hbQ hlo
  rw [Nat.mul_right_comm]
  rcases hQ' with g | ⟨g, rfl⟩
  · exact h.rep.left (by omega) g
  · have ht := h.rep.exact (by omega) g
    have he := h.rep.eq ht
    rw [ht]
    refine RepV.of_eq h.hB (by omega) ?_
    rw [Nat.mul_right_comm, he, Nat.mul_right_comm]
theorem FB.right {A B Q b k nd nd' : Nat} {D D' : Nat → Int} {dp dp' : Int} {tr tr' : Bool} (h : FB A B Q D nd dp tr) (hk : k ≤ 60) (hs : Shf (dv D nd * 5 ^ k) (dp - nd - k) tr D' nd' dp' tr')
    (hb : A < B * 2 ^ k * 10 ^ b) (hbQ : b + Q ≤ 800) (hlo : B * 2 ^ k ≤ A * 10 ^ Q) : FB A (B * 2 ^ k) Q D' nd' dp' tr' := by
  have hK := KK_eq
  have h1 := h.lo
  have h2 := h.norm.le
  have hQ := h.hQ
  refine fb_cut (S := (dp - nd + KK).toNat - k) (Nat.mul_pos h.hB (Nat.pow_pos (by omega))) ?_ (by omega) hs hb hbQ hlo
  refine h.rep.right ?_
  have e10 : (5 : Nat) ^ k * 2 ^ k = 10 ^ k := by rw [← Nat.mul_pow]
  rw [Nat.mul_right_comm, Nat.mul_assoc (dv D nd), e10, Nat.mul_assoc, ← Nat.pow_add]
  congr 2; omega
end Go.Proofs.YtmndipnifjpdjaaGreatDoor
namespace Go.Proofs.YtmndipnifjpdjaaGreatDoor
open Go Go.RowKit
set_option linter.unusedVariables false
theorem left_any (g G o nd k : Nat) (D : Nat → Int) (dp : Int) (tr : Bool) (w : World) (h : DecAt w g D nd dp tr) (hC : Cheats w G o) (hN : Norm D nd) (hnd0 : nd ≠ 0) (hk1 : 1 ≤ k) (hk : k ≤ 60) (hdp1 : -100000 ≤ dp) (hdp2 : dp ≤ 100000) :
    Calls Tryz.prog 268 #[.pointer (some ⟨g, 0, none⟩), .int .u64 k] w fun e w' => ShR (dv D nd * 2 ^ k) (dp - nd) tr g w e w' := by
  have hr := cheat_all ⟨k, by omega⟩
  unfold cheatB at hr
  rw [decide_eq_true_eq] at hr
  obtain ⟨r1, r2, r3, r4, r5, r6, r7, r8, r9⟩ := hr hk1
  simp only at r1 r2 r3 r4 r5 r6 r7 r8 r9
  obtain ⟨s, hs1, hs2⟩ := hC.cut k (by omega)
  obtain ⟨hs3, hs4⟩ := cheat_sb hs2
  have hd := hC.delta k (by omega)
  have hok : OkDig (sb s) s.size := fun i hi => by rw [hs4 i hi]; exact r8 i (by omega)
  have hlast : sb s (s.size - 1) ≠ 48 := by rw [hs4 _ (by omega), hs3]; exact r9
  have h5 : dv (sb s) s.size = 5 ^ k := by rw [dv_congr hs4, hs3]; exact r5
  have hdig := cheat_digits r6 r7 r3 r2 (dv_ge hN.ok hnd0 (hN.head hnd0)) (dv_lt hN.ok) hnd0
  cases hb : preL D nd s with
  | true =>
    have hlt : dv D nd * 10 ^ s.size < dv (sb s) s.size * 10 ^ nd := by
      have := hb; unfold preL at this; rwa [decide_eq_true_eq] at this
    rw [h5, hs3] at hlt
    have hd2 := hdig.1 hlt
    refine left_t g G o nd k (nd + (k - (cheatRow k).2.length)) (k - (cheatRow k).2.length) D dp tr s w h hC.slice ?_ hs1 hN hnd0 hk1 hk hdp1 hdp2 (by omega) hok hlast (by omega) hb (hide rfl) hd2.1 hd2.2
    rw [hd]; congr 2; omega
  | false =>
    have hge : ¬ dv D nd * 10 ^ s.size < dv (sb s) s.size * 10 ^ nd := by
      have := hb; unfold preL at this; rwa [decide_eq_false_iff_not] at this
    rw [h5, hs3] at hge
    have hd2 := hdig.2 (by omega)
    refine left_f g G o nd k (nd + (k - (cheatRow k).2.length + 1)) (k - (cheatRow k).2.length + 1) D dp tr s w h hC.slice ?_ hs1 hN hnd0 hk1 hk hdp1 hdp2 (by omega) hok hlast (by omega) hb (hide rfl) hd2.1 hd2.2
    rw [hd]; congr 2; omega
theorem right_any (g nd k : Nat) (D : Nat → Int) (dp : Int) (tr : Bool) (w : World) (h : DecAt w g D nd dp tr) (hN : Norm D nd) (hnd0 : nd ≠ 0) (hk1 : 1 ≤ k) (hk : k ≤ 60) (hdp1 : -100000 ≤ dp) (hdp2 : dp ≤ 100000) :
    Calls Tryz.prog 269 #[.pointer (some ⟨g, 0, none⟩), .int .u64 k] w fun e w' => ShR (dv D nd * 5 ^ k) (dp - nd - k) tr g w e w' := by
  rcases Nat.lt_or_ge (dv D nd) (2 ^ k) with c | c
  · exact right_b g nd k D dp tr w h hN hnd0 hk1 hk hdp1 hdp2 (hide c)
  · exact right_a g nd k D dp tr w h hN hnd0 hk1 hk hdp1 hdp2 (hide c)
theorem Cheats.below {w w' : World} {g G o : Nat} (h : Cheats w G o) (hb : Below g w w') (h12 : 18 < g) (hG : G < g) : Cheats w' G o := by
  have hc : ∀ i, w'.cell? ⟨G, i, none⟩ = w.cell? ⟨G, i, none⟩ := fun i => hb.cell hG
  refine ⟨Nat.lt_of_lt_of_le h.size hb.size, Nat.lt_of_lt_of_le h.hG hb.size, (hb.cell (Nat.lt_trans (by decide) h12)).trans h.slice, fun k hk => (hc _).trans (h.delta k hk), fun k hk => ?_⟩
  obtain ⟨s, h1, h2⟩ := h.cut k hk
  exact ⟨s, (hc _).trans h1, h2⟩
def FBR (A B Q g : Nat) (w : World) (e : Ending) (w' : World) : Prop :=
  e = .returned (.tuple #[]) ∧ ∃ D nd dp tr, DecAt w' g D (nd : Nat) dp tr ∧ FB A B Q D nd dp tr ∧ D (nd - 1) ≠ 48 ∧ Below g w w'
theorem left_fb {A B Q Q' b g G o nd k : Nat} {D : Nat → Int} {dp : Int} {tr : Bool} {w : World} (h : DecAt w g D nd dp tr) (hC : Cheats w G o) (hF : FB A B Q D nd dp tr) (hk1 : 1 ≤ k) (hk : k ≤ 60) (hQ' : Q' + k ≤ Q ∨ (B ∣ A * 10 ^ Q ∧ Q' = Q))
    (hb : A * 2 ^ k < B * 10 ^ b) (hbQ : b + Q' ≤ 800) (hlo : B ≤ A * 2 ^ k * 10 ^ Q') : Calls Tryz.prog 268 #[.pointer (some ⟨g, 0, none⟩), .int .u64 k] w fun e w' => FBR (A * 2 ^ k) B Q' g w e w' := by
  have h1 := hF.lo
  have h2 := hF.hi
  refine (left_any g G o nd k D dp tr w h hC hF.norm hF.ne hk1 hk (by omega) (by omega)).mono ?_
  rintro e w' ⟨rfl, D', nd', dp', tr', a1, a2, a3⟩
  exact ⟨rfl, D', nd', dp', tr', a1, hF.left a2 hQ' hb hbQ hlo, a2.2.2.1, a3⟩
theorem right_fb {A B Q b g nd k : Nat} {D : Nat → Int} {dp : Int} {tr : Bool} {w : World} (h : DecAt w g D nd dp tr) (hF : FB A B Q D nd dp tr) (hk1 : 1 ≤ k) (hk : k ≤ 60)
    (hb : A < B * 2 ^ k * 10 ^ b) (hbQ : b + Q ≤ 800) (hlo : B * 2 ^ k ≤ A * 10 ^ Q) : Calls Tryz.prog 269 #[.pointer (some ⟨g, 0, none⟩), .int .u64 k] w fun e w' => FBR A (B * 2 ^ k) Q g w e w' := by
  have h1 := hF.lo
  have h2 := hF.hi
  refine (right_any g nd k D dp tr w h hF.norm hF.ne hk1 hk (by omega) (by omega)).mono ?_
  rintro e w' ⟨rfl, D', nd', dp', tr', a1, a2, a3⟩
  exact ⟨rfl, D', nd', dp', tr', a1, hF.right hk a2 hb hbQ hlo, a2.2.2.1, a3⟩
end Go.Proofs.YtmndipnifjpdjaaGreatDoor
namespace Go.Proofs.YtmndipnifjpdjaaGreatDoor
open Go Go.RowKit
set_option linter.unusedVariables false
set_option maxHeartbeats 800000 in
set_option maxRecDepth 100000 in
theorem shiftL {A B Q Q' b g G o nd k : Nat} {D : Nat → Int} {dp : Int} {tr : Bool} {w : World} (h : DecAt w g D nd dp tr) (hC : Cheats w G o) (hF : FB A B Q D nd dp tr) (hk1 : 1 ≤ k) (hk : k ≤ 60) (hQ' : Q' + k ≤ Q ∨ (B ∣ A * 10 ^ Q ∧ Q' = Q))
    (hb : A * 2 ^ k < B * 10 ^ b) (hbQ : b + Q' ≤ 800) (hlo : B ≤ A * 2 ^ k * 10 ^ Q') : Calls Tryz.prog 247 #[.pointer (some ⟨g, 0, none⟩), .int .i64 k] w fun e w' => FBR (A * 2 ^ k) B Q' g w e w' := by
  have c0 := h.nd
  have h0 : ((nd : Int) == 0) = false := by have := hF.ne; rw [beq_eq_false_iff_ne]; omega
  have L := fun (w' : World) (e : w' = w) => e ▸ left_fb h hC hF hk1 hk hQ' hb hbQ hlo
  have HL := hide L
  clear L h hC hF hQ' hb hbQ hlo
  have hk2 : (1 : Int) ≤ k := by omega
  have hk3 : (k : Int) ≤ 60 := by omega
  have hk4 : IntKind.u64.wrap (k : Int) = (k : Int) := u64_id (by omega) (by omega)
  go_enter Tryz.func247, Tryz.ntmps247
  go_wp2
  go_loopg [1] 0 (fun gk kv wr => kv = .int .i64 k ∧ wr = w)
  case atStart => exact ⟨rfl, rfl⟩
  case round =>
    obtain ⟨rfl, rfl⟩ := hrel
    go_wp2_with fail
    refine (HL.out _ rfl).mono ?_
    rintro e w' ⟨rfl, hh⟩
    go_wp2
    go_end0
    exact ⟨rfl, hh⟩
set_option maxHeartbeats 800000 in
set_option maxRecDepth 100000 in
theorem shiftR {A B Q b g nd k : Nat} {D : Nat → Int} {dp : Int} {tr : Bool} {w : World} (h : DecAt w g D nd dp tr) (hF : FB A B Q D nd dp tr) (hk1 : 1 ≤ k) (hk : k ≤ 10000)
    (hb : A < B * 10 ^ b) (hbQ : b + Q ≤ 800) (hlo : B * 2 ^ k ≤ A * 10 ^ Q) (z : Int) (hz : z = -(k : Int)) : Calls Tryz.prog 247 #[.pointer (some ⟨g, 0, none⟩), .int .i64 z] w fun e w' => FBR A (B * 2 ^ k) Q g w e w' := by
  have H := hide h
  have HF := hide hF
  have Hb := hide hb
  have Hlo := hide hlo
  have HbQ := hide hbQ
  have c0 := h.nd
  have h0 : ((nd : Int) == 0) = false := by have := hF.ne; rw [beq_eq_false_iff_ne]; omega
  clear h hF hb hlo hbQ
  have hz1 : z < 0 := by omega
  have Hz := hide hz
  clear hz
  go_enter Tryz.func247, Tryz.ntmps247
  go_wp2
  go_loopg [1] k (fun gk kv wr => ∃ (m nd' : Nat) (y : Int) (D' : Nat → Int) (dp' : Int) (tr' : Bool), gk = m ∧ 1 ≤ m ∧ m ≤ k ∧ kv = .int .i64 y ∧ Hid (y = -(m : Int)) ∧ DecAt wr g D' nd' dp' tr' ∧ Hid (FB A (B * 2 ^ (k - m)) Q D' nd' dp' tr') ∧ Below g w wr)
  case atStart => exact ⟨k, nd, z, D, dp, tr, rfl, hk1, Nat.le_refl _, rfl, Hz, H.out, hide (by rw [Nat.sub_self, Nat.pow_zero, Nat.mul_one]; exact HF.out), Below.refl _ _⟩
  case round =>
    obtain ⟨m, nd', y, D', dp', tr', rfl, hm1, hmk, rfl, Hy, hd, HF', hbw⟩ := hrel
    have Hd := hide hd
    have Hbw := hide hbw
    clear hd hbw c0 h0 H HF
    have up : ∀ x : Nat, Hid (A < B * 2 ^ x * 10 ^ b) := fun x => hide (by
      have h1 := Hb.out
      have h2 : B * 1 ≤ B * 2 ^ x := Nat.mul_le_mul_left _ (Nat.pow_pos (by omega))
      have h3 := Nat.mul_le_mul_right (10 ^ b) h2
      rw [Nat.mul_one] at h3
      omega)
    have lw : ∀ x : Nat, Hid (x ≤ k → B * 2 ^ x ≤ A * 10 ^ Q) := fun x => hide (fun hx => Nat.le_trans (Nat.mul_le_mul_left _ (Nat.pow_le_pow_right (by omega) hx)) Hlo.out)
    by_cases h60 : 60 < gk
    · have hy : y < -60 := by have := Hy.out; omega
      have e1 : B * 2 ^ (k - gk) * 2 ^ 60 = B * 2 ^ (k - (gk - 60)) := by rw [Nat.mul_assoc, ← Nat.pow_add]; congr 2; omega
      have R := right_fb (b := b) Hd.out HF'.out (k := 60) (by omega) (by omega) (by rw [e1]; exact (up _).out) HbQ.out (by rw [e1]; exact (lw _).out (by omega))
      rw [e1] at R
      have HR := hide R
      clear R e1
      go_wp2_with fail
      refine (HR.out).mono ?_
      rintro e w' ⟨rfl, D2, nd2, dp2, tr2, hd2, hF2, hl2, hb2⟩
      have Hd2 := hide hd2
      have HF2 := hide hF2
      have Hb2 := hide hb2
      clear hd2 hF2 hb2 hl2
      have hy2 : -100000 ≤ y := by have := Hy.out; omega
      go_wp2
      go_roundg (gk - 60)
      case rel => exact ⟨gk - 60, nd2, y + 60, D2, dp2, tr2, rfl, by omega, by omega, by go_num, hide (by have := Hy.out; omega), Hd2.out, HF2, Hbw.out.trans Hb2.out⟩
      case measure => omega
    · have hy : ¬ y < -60 := by have := Hy.out; omega
      have hy1 : -60 ≤ y := by omega
      have hy2 : y < 0 := by have := Hy.out; omega
      have hy3 : IntKind.u64.wrap (-y) = (gk : Int) := by have := Hy.out; rw [u64_id (by omega) (by omega)]; omega
      have e1 : B * 2 ^ (k - gk) * 2 ^ gk = B * 2 ^ k := by rw [Nat.mul_assoc, ← Nat.pow_add]; congr 2; omega
      have R := right_fb (b := b) Hd.out HF'.out (k := gk) (by omega) (by omega) (by rw [e1]; exact (up _).out) HbQ.out (by rw [e1]; exact (lw _).out (by omega))
      rw [e1] at R
      have HR := hide R
      clear R e1
      go_wp2_with fail
      refine (HR.out).mono ?_
      rintro e w' ⟨rfl, D2, nd2, dp2, tr2, hd2, hF2, hl2, hb2⟩
      go_wp2
      go_end0
      exact ⟨rfl, D2, nd2, dp2, tr2, hd2, hF2, hl2, Hbw.out.trans hb2⟩
end Go.Proofs.YtmndipnifjpdjaaGreatDoor
namespace Go.Proofs.YtmndipnifjpdjaaGreatDoor
open Go Go.RowKit
set_option linter.unusedVariables false
def sru (D : Nat → Int) (nd : Nat) (dp : Int) (tr : Bool) : Bool :=
  if dp < 0 ∨ (nd : Int) ≤ dp then false
  else if D dp.toNat = 53 ∧ dp + 1 = nd then (tr || (decide (0 < dp) && decide (dgt D (dp.toNat - 1) % 2 = 1)))
  else decide (53 ≤ D dp.toNat)
theorem sg_last (D : Nat → Int) (a n : Nat) : sg D a (n + 1) = sg D a n * 10 + dgt D (a + n) := by
  have h1 := dv_sg (D := D) (n + 1) a
  have h2 := dv_sg (D := D) n a
  have h3 : dv D (a + (n + 1)) = dv D (a + n) * 10 + dgt D (a + n) := rfl
  have e : dv D a * 10 ^ (n + 1) = dv D a * 10 ^ n * 10 := by rw [Nat.pow_succ, Nat.mul_assoc]
  rw [h1, h2, e] at h3
  omega
theorem sg_pos {D : Nat → Int} {a n : Nat} (hn : n ≠ 0) (h0 : 48 ≤ D (a + n - 1)) (h : D (a + n - 1) ≠ 48) : 0 < sg D a n := by
  obtain ⟨m, rfl⟩ : ∃ m, n = m + 1 := ⟨n - 1, by omega⟩
  rw [sg_last]
  have : a + (m + 1) - 1 = a + m := by omega
  rw [this] at h h0
  have : 0 < dgt D (a + m) := by unfold dgt; omega
  omega
theorem FB.rq {A B Q nd : Nat} {D : Nat → Int} {dp : Int} {tr : Bool} (h : FB A B Q D nd dp tr) (hQ1 : 1 ≤ Q) (hlast : D (nd - 1) ≠ 48) :
    rq A B = Pz D nd dp.toNat + (if sru D nd dp tr = true then 1 else 0) := by
  have hK := KK_eq
  have h1 := h.lo
  have h2 := h.norm.le
  have hQ := h.hQ
  have hok := h.norm.ok
  rw [h.rep.rq h.hB hQ1 (by omega)]
  have hU := p10 KK
  by_cases c1 : dp < 0
  · have hv := h.vhi
    have hle : 10 ^ (dp + KK).toNat ≤ 10 ^ (KK - 1) := Nat.pow_le_pow_right (by omega) (by omega)
    have e : 10 ^ KK = 10 ^ (KK - 1) * 10 := by rw [← Nat.pow_succ]; congr 1; omega
    generalize dv D nd * 10 ^ (dp - nd + KK).toNat = v at *
    have hs : sru D nd dp tr = false := by unfold sru; rw [if_pos (.inl c1)]
    rw [hs, show dp.toNat = 0 by omega, pz_le (Nat.zero_le _), Nat.div_eq_of_lt (by omega), Nat.mod_eq_of_lt (by omega)]
    rw [if_neg (by omega)]
    simp [dv]
  · by_cases c2 : (nd : Int) ≤ dp
    · have e : dv D nd * 10 ^ (dp - nd + KK).toNat = Pz D nd dp.toNat * 10 ^ KK := by
        rw [pz_ge (by omega), Nat.mul_assoc, ← Nat.pow_add]; congr 2; omega
      have hs : sru D nd dp tr = false := by unfold sru; rw [if_pos (.inr c2)]
      rw [hs, e, Nat.mul_div_cancel _ hU, Nat.mul_mod_left, if_neg (by omega)]
      simp
    · obtain ⟨p, hp⟩ : ∃ p : Nat, dp = p := ⟨dp.toNat, by omega⟩
      subst hp
      obtain ⟨c, rfl⟩ : ∃ c, nd = p + (c + 1) := ⟨nd - p - 1, by omega⟩
      have ev : dv D (p + (c + 1)) * 10 ^ ((p : Int) - (p + (c + 1) : Nat) + KK).toNat = sg D p (c + 1) * 10 ^ (KK - (c + 1)) + dv D p * 10 ^ KK := by
        rw [show ((p : Int) - (p + (c + 1) : Nat) + KK).toNat = KK - (c + 1) by omega, dv_sg, Nat.add_mul, Nat.mul_assoc, ← Nat.pow_add, show c + 1 + (KK - (c + 1)) = KK by omega, Nat.add_comm]
      have hsg := sg_lt hok
      have eU : 10 ^ KK = 10 ^ (c + 1) * 10 ^ (KK - (c + 1)) := by rw [← Nat.pow_add]; congr 1; omega
      have hpo := p10 (KK - (c + 1))
      have hrest : sg D p (c + 1) * 10 ^ (KK - (c + 1)) < 10 ^ KK := by rw [eU]; exact Nat.mul_lt_mul_of_pos_right hsg hpo
      rw [ev, Nat.add_mul_div_right _ _ hU, Nat.add_mul_mod_self_right, Nat.div_eq_of_lt hrest, Nat.mod_eq_of_lt hrest, Nat.zero_add]
      rw [show ((p : Int)).toNat = p by omega, pz_le (by omega)]
      congr 1
      have k1 : (10 ^ KK < 2 * (sg D p (c + 1) * 10 ^ (KK - (c + 1)))) ↔ (10 ^ (c + 1) < 2 * sg D p (c + 1)) := by
        rw [eU, ← Nat.mul_assoc]; exact Nat.mul_lt_mul_right hpo
      have k2 : (2 * (sg D p (c + 1) * 10 ^ (KK - (c + 1))) = 10 ^ KK) ↔ (2 * sg D p (c + 1) = 10 ^ (c + 1)) := by
        rw [eU, ← Nat.mul_assoc]; exact Nat.mul_right_cancel_iff hpo
      simp only [k1, k2]
      have e0 : sg D p (c + 1) = dgt D p * 10 ^ c + sg D (p + 1) c := rfl
      have hs2 : sg D (p + 1) c < 10 ^ c := sg_lt (by rw [show p + 1 + c = p + (c + 1) by omega]; exact hok)
      have hd9 := dgt_le hok (i := p) (by omega)
      have hDp := dgt_eq hok (i := p) (by omega)
      have e5 : 10 ^ (c + 1) = 10 * 10 ^ c := by rw [Nat.pow_succ, Nat.mul_comm]
      have hpc := p10 c
      simp only [e0, e5]
      by_cases hc : c = 0
      · subst hc
        have hs0 : sg D (p + 1) 0 = 0 := rfl
        rw [hs0, Nat.pow_zero, Nat.mul_one, Nat.mul_one, Nat.add_zero]
        by_cases h5 : D p = 53
        · have d5 : dgt D p = 5 := by unfold dgt; omega
          have hs : sru D (p + (0 + 1)) p tr = (tr || (decide (0 < (p : Int)) && decide (dgt D (p - 1) % 2 = 1))) := by
            unfold sru
            rw [if_neg (by omega), show ((p : Int)).toNat = p by omega, if_pos ⟨h5, by omega⟩]
          rw [hs, d5]
          have hpar : (dv D p % 2 = 1) ↔ (0 < (p : Int) ∧ dgt D (p - 1) % 2 = 1) := by
            cases p with
            | zero => simp [dv]
            | succ q =>
              rw [show dv D (q + 1) = dv D q * 10 + dgt D q from rfl, Nat.add_sub_cancel]
              constructor
              · intro hh; exact ⟨by omega, by omega⟩
              · rintro ⟨_, hh⟩; omega
          simp only [hpar, Bool.or_eq_true, Bool.and_eq_true, decide_eq_true_eq]
          have : ¬ (10 < 2 * 5) := by omega
          simp [this]
        · have hs : sru D (p + (0 + 1)) p tr = decide (53 ≤ D p) := by
            unfold sru
            rw [if_neg (by omega), show ((p : Int)).toNat = p by omega, if_neg (fun hh => h5 hh.1)]
          rw [hs]
          have d5 : dgt D p ≠ 5 := by unfold dgt; have := hok p (by omega); omega
          have : (10 < 2 * dgt D p ∨ 2 * dgt D p = 10 ∧ (tr = true ∨ dv D p % 2 = 1)) ↔ (decide (53 ≤ D p) = true) := by
            rw [decide_eq_true_eq]; omega
          simp only [this]
      · have hspos : 0 < sg D (p + 1) c := sg_pos hc (by rw [show p + 1 + c - 1 = p + (c + 1) - 1 by omega]; exact (hok _ (by omega)).1) (by rw [show p + 1 + c - 1 = p + (c + 1) - 1 by omega]; exact hlast)
        have hs : sru D (p + (c + 1)) p tr = decide (53 ≤ D p) := by
          unfold sru
          rw [if_neg (by omega), show ((p : Int)).toNat = p by omega, if_neg (by omega)]
        rw [hs]
        have : (10 * 10 ^ c < 2 * (dgt D p * 10 ^ c + sg D (p + 1) c) ∨ 2 * (dgt D p * 10 ^ c + sg D (p + 1) c) = 10 * 10 ^ c ∧ (tr = true ∨ dv D p % 2 = 1)) ↔ (decide (53 ≤ D p) = true) := by
          rw [decide_eq_true_eq]
          generalize 10 ^ c = y at *
          generalize sg D (p + 1) c = s at *
          constructor
          · intro hh
            rcases Nat.lt_or_ge (dgt D p) 5 with g | g
            · exfalso
              have := Nat.mul_le_mul_right y (show dgt D p ≤ 4 by omega)
              omega
            · omega
          · intro hh
            have := Nat.mul_le_mul_right y (show 5 ≤ dgt D p by omega)
            left; omega
        simp only [this]
end Go.Proofs.YtmndipnifjpdjaaGreatDoor
