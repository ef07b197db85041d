import Derived.Test.YtamdnnkdnhkghaaGreatDoorQ34
namespace Go.Proofs.YtamdnnkdnhkghaaGreatDoor
open Go Go.RowKit
set_option linter.unusedVariables false

/-- How many digits 'readFloat' cuts off; what it keeps. -/
def rfC (N : Nat) : Nat := size10 N - min (size10 N) 19
def rfM (N : Nat) : Nat := N / 10 ^ rfC N
def rfT (N : Nat) : Bool := decide (N % 10 ^ rfC N ≠ 0)
def rfE (N : Nat) (E : Int) : Int := if rfM N = 0 then 0 else E + rfC N

/-- What 'readFloat' knows of the digits so far. -/
structure RF (N b p i m nd nm : Nat) (tr : Bool) (dp : Int) : Prop where
  hn : nd = size10 N
  hnm : nm = min nd 19
  hm : m = N / 10 ^ (nd - nm)
  ht : tr = decide (N % 10 ^ (nd - nm) ≠ 0)
  dpp : p = 1 → dp = (nd : Int) - b
  lo : -(i : Int) ≤ dp
  hi : dp ≤ i
  le : nd ≤ i

theorem RF.start : RF 0 0 0 0 0 0 0 false 0 :=
  ⟨size10_zero.symm, rfl, rfl, rfl, fun h => by omega, by omega, by omega, by omega⟩

theorem RF.lt {N b p i m nd nm : Nat} {tr : Bool} {dp : Int} (h : RF N b p i m nd nm tr dp) : m < 10 ^ nm := by
  have h1 := size10_lt N
  have h2 := h.hnm
  rw [h.hm, ← h.hn] at *
  refine Nat.div_lt_of_lt_mul ?_
  rw [← Nat.pow_add, show nd - nm + nm = nd by omega]
  exact h1

theorem RF.zero {N b p i m nm : Nat} {tr : Bool} {dp : Int} (h : RF N b p i m 0 nm tr dp) (hp : p ≤ 1) : RF (N * 10 + (48 - 48 : Int).toNat) (b + p) p (i + 1) m 0 nm tr (dp - 1) := by
  have hN : N = 0 := by
    have h1 := size10_lt N
    rw [← h.hn, Nat.pow_zero] at h1
    omega
  subst hN
  have h1 := h.dpp
  have h2 := h.lo
  have h3 := h.hi
  refine ⟨h.hn, h.hnm, h.hm, h.ht, fun e => ?_, by omega, by omega, by omega⟩
  have := h1 e
  omega

theorem size10_put {N nd : Nat} {c : Int} (hn : nd = size10 N) (hc1 : 48 ≤ c) (hc2 : c ≤ 57) (hz : nd ≠ 0 ∨ c ≠ 48) : nd + 1 = size10 (N * 10 + (c - 48).toNat) := by
  have hne : N * 10 + (c - 48).toNat ≠ 0 := by
    rcases hz with g | g
    · have : N ≠ 0 := by intro e; rw [e, size10_zero] at hn; exact g hn
      omega
    · omega
  rw [size10_step _ _ (by omega), if_neg hne, ← hn]

theorem RF.put1 {N b p i m nd nm : Nat} {tr : Bool} {dp c : Int} (h : RF N b p i m nd nm tr dp) (hp : p ≤ 1) (hc1 : 48 ≤ c) (hc2 : c ≤ 57) (hz : nd ≠ 0 ∨ c ≠ 48) (hm : nm < 19) :
    RF (N * 10 + (c - 48).toNat) (b + p) p (i + 1) (m * 10 + (c - 48).toNat) (nd + 1) (nm + 1) tr dp := by
  have h0 := h.hnm
  have h1 := h.dpp
  have h2 := h.lo
  have h3 := h.hi
  have h4 := h.le
  have hnn : nm = nd := by omega
  have hm0 : m = N := by rw [h.hm, hnn, Nat.sub_self, Nat.pow_zero, Nat.div_one]
  refine ⟨size10_put h.hn hc1 hc2 hz, by omega, ?_, ?_, fun e => ?_, by omega, by omega, by omega⟩
  · rw [hnn, Nat.sub_self, Nat.pow_zero, Nat.div_one, hm0]
  · rw [h.ht, hnn, Nat.sub_self, Nat.sub_self, Nat.pow_zero, Nat.mod_one, Nat.mod_one]
  · have := h1 e; omega

theorem RF.put2 {N b p i m nd nm : Nat} {tr tr' : Bool} {dp c : Int} (h : RF N b p i m nd nm tr dp) (hp : p ≤ 1) (hc1 : 48 ≤ c) (hc2 : c ≤ 57) (hm : ¬ nm < 19) (htr : tr' = (tr || decide (c ≠ 48))) :
    RF (N * 10 + (c - 48).toNat) (b + p) p (i + 1) m (nd + 1) nm tr' dp := by
  have h0 := h.hnm
  have h1 := h.dpp
  have h2 := h.lo
  have h3 := h.hi
  have h4 := h.le
  have e : nd + 1 - nm = nd - nm + 1 := by omega
  have hq : (N * 10 + (c - 48).toNat) / 10 = N := by omega
  have hr : (N * 10 + (c - 48).toNat) % 10 = (c - 48).toNat := by omega
  refine ⟨size10_put h.hn hc1 hc2 (by omega), by omega, ?_, ?_, fun e => ?_, by omega, by omega, by omega⟩
  · rw [e, Nat.pow_succ, Nat.mul_comm (10 ^ (nd - nm)) 10, ← Nat.div_div_eq_div_mul, hq]; exact h.hm
  · rw [htr, h.ht, e, Nat.pow_succ, Nat.mul_comm (10 ^ _) 10, Nat.mod_mul, hq, hr]
    by_cases c0 : c = 48
    · subst c0
      by_cases r0 : N % 10 ^ (nd - nm) = 0
      · simp [r0]
      · have h6 : 10 * (N % 10 ^ (nd - nm)) ≠ 0 := by omega
        simp [r0, h6]
    · have : (c - 48).toNat ≠ 0 := by omega
      have h5 : (c - 48).toNat + 10 * (N % 10 ^ (nd - nm)) ≠ 0 := by omega
      rw [decide_eq_true h5, decide_eq_true c0, Bool.or_true]
  · have := h1 e; omega

theorem RF.point {N i m nd nm : Nat} {tr : Bool} {dp : Int} (h : RF N 0 0 i m nd nm tr dp) : RF N 0 1 (i + 1) m nd nm tr (nd : Int) := by
  have h4 := h.le
  exact ⟨h.hn, h.hnm, h.hm, h.ht, fun _ => by omega, by omega, by omega, by omega⟩

theorem RF.fin {N b p i m nd nm : Nat} {tr : Bool} {dp : Int} (h : RF N b p i m nd nm tr dp) : m = rfM N ∧ tr = rfT N ∧ (nd : Int) - nm = rfC N := by
  have h1 := h.hm
  have h2 := h.ht
  have h3 := h.hnm
  rw [h.hn] at h3
  have hc : nd - nm = rfC N := by unfold rfC; rw [h.hn, ← h3]
  refine ⟨by rw [h1, hc]; rfl, by rw [h2, hc]; rfl, ?_⟩
  have := h.hnm
  omega

theorem lower_fin : ∀ c : Fin 256, (c.val = 46 ∨ (48 ≤ c.val ∧ c.val ≤ 57) ∨ c.val = 101 ∨ c.val = 69) → (bits .or .u8 ((c.val : Nat) : Int) 32 == 120) = false := by decide +kernel
theorem lower_no {n : Nat} (h256 : n < 256) (h : ((n : Nat) : Int) = 46 ∨ (48 ≤ ((n : Nat) : Int) ∧ ((n : Nat) : Int) ≤ 57) ∨ ((n : Nat) : Int) = 101 ∨ ((n : Nat) : Int) = 69) : (bits .or .u8 ((n : Nat) : Int) 32 == 120) = false :=
  lower_fin ⟨n, h256⟩ (by show n = 46 ∨ (48 ≤ n ∧ n ≤ 57) ∨ n = 101 ∨ n = 69; omega)

/-- The second byte is no x. -/
theorem Txt.nox {s : ByteArray} {k b p : Nat} {ds : List Int} {x : Int} (h : Txt s k ds b p x) (h1 : 1 < s.size) : (bits .or .u8 ((s[1].toNat : Nat) : Int) 32 == 120) = false := by
  refine lower_no (by have := s[1].toNat_lt; exact this) ?_
  have hk0 := h.k0
  by_cases hk : 1 < k
  · rcases dp_at h hk h1 with g | g
    · exact .inl g
    · exact .inr (.inl g)
  · have hk1 : k = 1 := by omega
    rcases h.ex with ⟨g, _⟩ | ⟨g, g2⟩
    · omega
    · have := (exp_cases g2).1
      subst hk1
      rw [bs_getD g] at this
      rcases this with c | c
      · exact .inr (.inr (.inl c))
      · exact .inr (.inr (.inr c))

/-- What 'readFloat' hands back. -/
def RFR (N : Nat) (E : Int) (s : ByteArray) (w : World) (e : Ending) (w' : World) : Prop :=
  e = .returned (.tuple #[.int .u64 (rfM N), .int .i64 (rfE N E), .bool false, .bool (rfT N), .bool false, .int .i64 s.size, .bool true]) ∧ ∃ q, w' = w.drewN q
end Go.Proofs.YtamdnnkdnhkghaaGreatDoor

namespace Go.Proofs.YtamdnnkdnhkghaaGreatDoor
open Go Go.RowKit
set_option linter.unusedVariables false

theorem rq_mono {A A' D : Nat} (hD : 0 < D) (h : A ≤ A') : rq A D ≤ rq A' D := by
  unfold rq
  have hq := Nat.div_le_div_right (c := D) h
  have e1 := Nat.div_add_mod A D
  have e2 := Nat.div_add_mod A' D
  have r1 := Nat.mod_lt A hD
  have r2 := Nat.mod_lt A' hD
  by_cases c : A / D = A' / D
  · rw [c] at e1 ⊢
    have hr : A % D ≤ A' % D := by omega
    generalize A' / D = q at *
    generalize A % D = r at *
    generalize A' % D = r' at *
    split
    · rename_i h1
      rw [if_pos (by omega)]
      exact Nat.le_refl _
    · split <;> omega
  · have : A / D + 1 ≤ A' / D := by omega
    split <;> split <;> omega

/-- Rounding keeps the order. -/
theorem IsRnd.mono {A A' d W W' : Nat} (hd : 0 < d) (h : A ≤ A') (h1 : IsRnd A d W) (h2 : IsRnd A' d W') : W ≤ W' := by
  obtain ⟨k, a1, a2, a3⟩ := h1
  obtain ⟨k', b1, b2, b3⟩ := h2
  have p2' : ∀ n : Nat, 0 < 2 ^ n := fun n => Nat.pow_pos (by omega)
  have key : k * 4503599627370496 + rq A (d * 2 ^ k) ≤ k' * 4503599627370496 + rq A' (d * 2 ^ k') := by
    rcases Nat.lt_trichotomy k k' with c | c | c
    · have u1 : rq A (d * 2 ^ k) ≤ 9007199254740992 := by
        rw [← pow53]; refine rqLe (Nat.mul_pos hd (p2' _)) ?_
        rw [Nat.mul_assoc, ← Nat.pow_add, Nat.add_comm k 53]; exact a1
      have u2 : 4503599627370496 ≤ rq A' (d * 2 ^ k') := by
        rw [← pow52]; refine rqGe (Nat.mul_pos hd (p2' _)) ?_
        rw [Nat.mul_assoc, ← Nat.pow_add, Nat.add_comm k' 52]
        rcases b2 with g | g
        · omega
        · exact g
      have := Nat.mul_le_mul_right 4503599627370496 c
      rw [Nat.succ_mul] at this
      omega
    · subst c
      have := rq_mono (Nat.mul_pos hd (p2' k)) h
      omega
    · exfalso
      rcases a2 with g | g
      · omega
      · have h3 : d * 2 ^ (53 + k') ≤ d * 2 ^ (52 + k) := Nat.mul_le_mul_left _ (Nat.pow_le_pow_right (by omega) (by omega))
        omega
  rw [a3, b3]
  omega

theorem DecRnd.ex (N : Nat) (E : Int) : ∃ W, DecRnd N E W := exists_rnd _ (p10 _)

/-- Noughts behind the digits or in the exponent. -/
theorem DecRnd.shift {m c W : Nat} {E : Int} (h : DecRnd m (E + c) W) : DecRnd (m * 10 ^ c) E W := by
  unfold DecRnd at *
  have h1 := (IsRnd.scale (c := 10 ^ (c + (-E).toNat - (-(E + c)).toNat)) (p10 _)).2 h
  have h2 := (IsRnd.scale (N := m * 10 ^ c * 10 ^ E.toNat * 2 ^ 1074) (d := 10 ^ (-E).toNat) (W := W) (c := 10 ^ c) (p10 _)).1
  apply h2
  have e1 : m * 10 ^ (E + ↑c).toNat * 2 ^ 1074 * 10 ^ (c + (-E).toNat - (-(E + ↑c)).toNat) = m * 10 ^ c * 10 ^ E.toNat * 2 ^ 1074 * 10 ^ c := by
    generalize 2 ^ 1074 = t
    have e : 10 ^ (E + ↑c).toNat * 10 ^ (c + (-E).toNat - (-(E + ↑c)).toNat) = 10 ^ c * 10 ^ E.toNat * 10 ^ c := by
      rw [← Nat.pow_add, ← Nat.pow_add, ← Nat.pow_add]; congr 1; omega
    calc m * 10 ^ (E + ↑c).toNat * t * 10 ^ (c + (-E).toNat - (-(E + ↑c)).toNat) = m * t * (10 ^ (E + ↑c).toNat * 10 ^ (c + (-E).toNat - (-(E + ↑c)).toNat)) := by simp only [Nat.mul_comm, Nat.mul_left_comm, Nat.mul_assoc]
      _ = m * t * (10 ^ c * 10 ^ E.toNat * 10 ^ c) := by rw [e]
      _ = m * 10 ^ c * 10 ^ E.toNat * t * 10 ^ c := by simp only [Nat.mul_comm, Nat.mul_left_comm, Nat.mul_assoc]
  have e2 : 10 ^ (-(E + ↑c)).toNat * 10 ^ (c + (-E).toNat - (-(E + ↑c)).toNat) = 10 ^ (-E).toNat * 10 ^ c := by
    rw [← Nat.pow_add, ← Nat.pow_add]; congr 1; omega
  rw [e1, e2] at h1
  exact h1

theorem DecRnd.mono {N N' W W' : Nat} {E : Int} (h : N ≤ N') (h1 : DecRnd N E W) (h2 : DecRnd N' E W') : W ≤ W' :=
  IsRnd.mono (p10 _) (Nat.mul_le_mul_right _ (Nat.mul_le_mul_right _ h)) h1 h2

theorem rfC_lt {N : Nat} (h : N ≠ 0) : rfC N + 1 ≤ size10 N := by
  have h1 : size10 N ≠ 0 := by rw [size10_pos h]; omega
  unfold rfC; omega
theorem rfC_le (N : Nat) : size10 N ≤ rfC N + 19 := by unfold rfC; omega

theorem rfM_zero {N : Nat} (h : rfM N = 0) : N = 0 := by
  rcases Nat.eq_zero_or_pos N with e | e
  · exact e
  · exfalso
    have h1 := size10_ge (n := N) (by omega)
    have h2 := rfC_lt (N := N) (by omega)
    unfold rfM at h
    have h3 : N < 10 ^ rfC N := by
      rcases Nat.lt_or_ge N (10 ^ rfC N) with g | g
      · exact g
      · have := Nat.div_pos g (p10 _); omega
    have := pow10_lt (Nat.lt_of_le_of_lt h1 h3)
    omega

theorem pow_fact3 : 2 * 2 ^ 1074 < 10 ^ 324 := by decide +kernel

theorem rf_under {N : Nat} {E : Int} (h : E + rfC N < -345) : DecRnd N E 0 := by
  have h1 := rfC_le N
  exact rnd_under' (a := 324) (b := 1074) pow_fact3 (by omega)

/-- Nothing was cut off. -/
theorem rf_exact {N W : Nat} {E : Int} (ht : rfT N = false) (h : DecRnd (rfM N) (E + rfC N) W) : DecRnd N E W := by
  have h1 := h.shift
  unfold rfT at ht
  rw [decide_eq_false_iff_not] at ht
  have h2 := Nat.div_add_mod N (10 ^ rfC N)
  have e : rfM N * 10 ^ rfC N = N := by
    unfold rfM
    rw [Nat.mul_comm]
    omega
  rw [e] at h1
  exact h1

/-- The next number above comes to the same float. -/
theorem rf_same {N W : Nat} {E : Int} (h1 : DecRnd (rfM N) (E + rfC N) W) (h2 : DecRnd (rfM N + 1) (E + rfC N) W) : DecRnd N E W := by
  obtain ⟨V, hV⟩ := DecRnd.ex N E
  have h3 := Nat.div_add_mod N (10 ^ rfC N)
  have h4 := Nat.mod_lt N (p10 (rfC N))
  have a1 : rfM N * 10 ^ rfC N ≤ N := by unfold rfM; exact Nat.div_mul_le_self _ _
  have a2 : N ≤ (rfM N + 1) * 10 ^ rfC N := by
    unfold rfM
    rw [Nat.add_mul, Nat.one_mul, Nat.mul_comm (N / _)]
    omega
  have b1 := DecRnd.mono a1 h1.shift hV
  have b2 := DecRnd.mono a2 hV h2.shift
  have : V = W := by omega
  rw [← this]
  exact hV

theorem rfM_lt (N : Nat) : rfM N < 10000000000000000000 := by
  have h1 := size10_lt N
  have h2 := rfC_le N
  unfold rfM
  refine Nat.div_lt_of_lt_mul ?_
  have e : (10000000000000000000 : Nat) = 10 ^ 19 := by decide
  rw [e, ← Nat.pow_add]
  exact Nat.lt_of_lt_of_le h1 (Nat.pow_le_pow_right (by omega) (by omega))

set_option maxHeartbeats 800000 in
set_option maxRecDepth 100000 in
/-- No word and no sign stands ahead. -/
theorem special_any (s : ByteArray) (w : World) (h0 : 0 < s.size) (hc : ((s[0].toNat : Nat) : Int) = 46 ∨ (48 ≤ ((s[0].toNat : Nat) : Int) ∧ ((s[0].toNat : Nat) : Int) ≤ 57)) :
    Calls Tryz.prog 217 #[.string s] w fun e w' => e = .returned (.tuple #[.float .f64 0, .int .i64 0, .bool false]) ∧ w' = w := by
  have e43 : (((s[0].toNat : Nat) : Int) == 43) = false := bq (by omega)
  have e45 : (((s[0].toNat : Nat) : Int) == 45) = false := bq (by omega)
  have e105 : (((s[0].toNat : Nat) : Int) == 105) = false := bq (by omega)
  have e73 : (((s[0].toNat : Nat) : Int) == 73) = false := bq (by omega)
  have e110 : (((s[0].toNat : Nat) : Int) == 110) = false := bq (by omega)
  have e78 : (((s[0].toNat : Nat) : Int) == 78) = false := bq (by omega)
  have h0a : (0 : Int) < (s.size : Int) := by omega
  have h0b : ¬ s.size = 0 := by omega
  have h0c : ((s.size : Int) == 0) = false := bq (by omega)
  clear hc
  go_enter Tryz.func217, Tryz.ntmps217
  go_wp2
  go_ret3
  exact ⟨rfl, rfl⟩
end Go.Proofs.YtamdnnkdnhkghaaGreatDoor
