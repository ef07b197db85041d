import Derived.Test.YtamdnnkdnhkghaaGreatDoorT19
namespace Go.Proofs.YtamdnnkdnhkghaaGreatDoor

open Go Go.RowKit

set_option linter.unusedVariables false

/-- How many digits 'readFloat' cuts off; what it keeps. -/
def rfC (N : Nat) : Nat := size10 N - min (size10 N) 19

def rfM (N : Nat) : Nat := N / 10 ^ rfC N

def rfT (N : Nat) : Bool := decide (N % 10 ^ rfC N ≠ 0)

def rfE (N : Nat) (E : Int) : Int := if rfM N = 0 then 0 else E + rfC N

/-- What 'readFloat' knows of the digits so far. -/
structure RF (N b p i m nd nm : Nat) (tr : Bool) (dp : Int) : Prop where
  hn : nd = size10 N
  hnm : nm = min nd 19
  hm : m = N / 10 ^ (nd - nm)
  ht : tr = decide (N % 10 ^ (nd - nm) ≠ 0)
  dpp : p = 1 → dp = (nd : Int) - b
  lo : -(i : Int) ≤ dp
  hi : dp ≤ i
  le : nd ≤ i

theorem RF.start : RF 0 0 0 0 0 0 0 false 0 :=
  ⟨size10_zero.symm, rfl, rfl, rfl, fun h => by omega, by omega, by omega, by omega⟩

theorem RF.lt {N b p i m nd nm : Nat} {tr : Bool} {dp : Int} (h : RF N b p i m nd nm tr dp) : m < 10 ^ nm := by
  have h1 := size10_lt N
  have h2 := h.hnm
  rw [h.hm, ← h.hn] at *
  refine Nat.div_lt_of_lt_mul ?_
  rw [← Nat.pow_add, show nd - nm + nm = nd by omega]
  exact h1

theorem RF.zero {N b p i m nm : Nat} {tr : Bool} {dp : Int} (h : RF N b p i m 0 nm tr dp) (hp : p ≤ 1) : RF (N * 10 + (48 - 48 : Int).toNat) (b + p) p (i + 1) m 0 nm tr (dp - 1) := by
  have hN : N = 0 := by
    have h1 := size10_lt N
    rw [← h.hn, Nat.pow_zero] at h1
    omega
  subst hN
  have h1 := h.dpp
  have h2 := h.lo
  have h3 := h.hi
  refine ⟨h.hn, h.hnm, h.hm, h.ht, fun e => ?_, by omega, by omega, by omega⟩
  have := h1 e
  omega

theorem size10_put {N nd : Nat} {c : Int} (hn : nd = size10 N) (hc1 : 48 ≤ c) (hc2 : c ≤ 57) (hz : nd ≠ 0 ∨ c ≠ 48) : nd + 1 = size10 (N * 10 + (c - 48).toNat) := by
  have hne : N * 10 + (c - 48).toNat ≠ 0 := by
    rcases hz with g | g
    · have : N ≠ 0 := by intro e; rw [e, size10_zero] at hn; exact g hn
      omega
    · omega
  rw [size10_step _ _ (by omega), if_neg hne, ← hn]

theorem RF.put1 {N b p i m nd nm : Nat} {tr : Bool} {dp c : Int} (h : RF N b p i m nd nm tr dp) (hp : p ≤ 1) (hc1 : 48 ≤ c) (hc2 : c ≤ 57) (hz : nd ≠ 0 ∨ c ≠ 48) (hm : nm < 19) :
    RF (N * 10 + (c - 48).toNat) (b + p) p (i + 1) (m * 10 + (c - 48).toNat) (nd + 1) (nm + 1) tr dp := by
  have h0 := h.hnm
  have h1 := h.dpp
  have h2 := h.lo
  have h3 := h.hi
  have h4 := h.le
  have hnn : nm = nd := by omega
  have hm0 : m = N := by rw [h.hm, hnn, Nat.sub_self, Nat.pow_zero, Nat.div_one]
  refine ⟨size10_put h.hn hc1 hc2 hz, by omega, ?_, ?_, fun e => ?_, by omega, by omega, by omega⟩
  · rw [hnn, Nat.sub_self, Nat.pow_zero, Nat.div_one, hm0]
  · rw [h.ht, hnn, Nat.sub_self, Nat.sub_self, Nat.pow_zero, Nat.mod_one, Nat.mod_one]
  · have := h1 e; omega

theorem RF.put2 {N b p i m nd nm : Nat} {tr tr' : Bool} {dp c : Int} (h : RF N b p i m nd nm tr dp) (hp : p ≤ 1) (hc1 : 48 ≤ c) (hc2 : c ≤ 57) (hm : ¬ nm < 19) (htr : tr' = (tr || decide (c ≠ 48))) :
    RF (N * 10 + (c - 48).toNat) (b + p) p (i + 1) m (nd + 1) nm tr' dp := by
  have h0 := h.hnm
  have h1 := h.dpp
  have h2 := h.lo
  have h3 := h.hi
  have h4 := h.le
  have e : nd + 1 - nm = nd - nm + 1 := by omega
  have hq : (N * 10 + (c - 48).toNat) / 10 = N := by omega
  have hr : (N * 10 + (c - 48).toNat) % 10 = (c - 48).toNat := by omega
  refine ⟨size10_put h.hn hc1 hc2 (by omega), by omega, ?_, ?_, fun e => ?_, by omega, by omega, by omega⟩
  · rw [e, Nat.pow_succ, Nat.mul_comm (10 ^ (nd - nm)) 10, ← Nat.div_div_eq_div_mul, hq]; exact h.hm
  · rw [htr, h.ht, e, Nat.pow_succ, Nat.mul_comm (10 ^ _) 10, Nat.mod_mul, hq, hr]
    by_cases c0 : c = 48
    · subst c0
      by_cases r0 : N % 10 ^ (nd - nm) = 0
      · simp [r0]
      · have h6 : 10 * (N % 10 ^ (nd - nm)) ≠ 0 := by omega
        simp [r0, h6]
    · have : (c - 48).toNat ≠ 0 := by omega
      have h5 : (c - 48).toNat + 10 * (N % 10 ^ (nd - nm)) ≠ 0 := by omega
      rw [decide_eq_true h5, decide_eq_true c0, Bool.or_true]
  · have := h1 e; omega

theorem RF.point {N i m nd nm : Nat} {tr : Bool} {dp : Int} (h : RF N 0 0 i m nd nm tr dp) : RF N 0 1 (i + 1) m nd nm tr (nd : Int) := by
  have h4 := h.le
  exact ⟨h.hn, h.hnm, h.hm, h.ht, fun _ => by omega, by omega, by omega, by omega⟩

theorem RF.fin {N b p i m nd nm : Nat} {tr : Bool} {dp : Int} (h : RF N b p i m nd nm tr dp) : m = rfM N ∧ tr = rfT N ∧ (nd : Int) - nm = rfC N := by
  have h1 := h.hm
  have h2 := h.ht
  have h3 := h.hnm
  rw [h.hn] at h3
  have hc : nd - nm = rfC N := by unfold rfC; rw [h.hn, ← h3]
  refine ⟨by rw [h1, hc]; rfl, by rw [h2, hc]; rfl, ?_⟩
  have := h.hnm
  omega

theorem lower_fin : ∀ c : Fin 256, (c.val = 46 ∨ (48 ≤ c.val ∧ c.val ≤ 57) ∨ c.val = 101 ∨ c.val = 69) → (bits .or .u8 ((c.val : Nat) : Int) 32 == 120) = false := by decide +kernel

theorem lower_no {n : Nat} (h256 : n < 256) (h : ((n : Nat) : Int) = 46 ∨ (48 ≤ ((n : Nat) : Int) ∧ ((n : Nat) : Int) ≤ 57) ∨ ((n : Nat) : Int) = 101 ∨ ((n : Nat) : Int) = 69) : (bits .or .u8 ((n : Nat) : Int) 32 == 120) = false :=
  lower_fin ⟨n, h256⟩ (by show n = 46 ∨ (48 ≤ n ∧ n ≤ 57) ∨ n = 101 ∨ n = 69; omega)

/-- The second byte is no x. -/
theorem Txt.nox {s : ByteArray} {k b p : Nat} {ds : List Int} {x : Int} (h : Txt s k ds b p x) (h1 : 1 < s.size) : (bits .or .u8 ((s[1].toNat : Nat) : Int) 32 == 120) = false := by
  refine lower_no (by have := s[1].toNat_lt; exact this) ?_
  have hk0 := h.k0
  by_cases hk : 1 < k
  · rcases dp_at h hk h1 with g | g
    · exact .inl g
    · exact .inr (.inl g)
  · have hk1 : k = 1 := by omega
    rcases h.ex with ⟨g, _⟩ | ⟨g, g2⟩
    · omega
    · have := (exp_cases g2).1
      subst hk1
      rw [bs_getD g] at this
      rcases this with c | c
      · exact .inr (.inr (.inl c))
      · exact .inr (.inr (.inr c))

/-- What 'readFloat' hands back. -/
def RFR (N : Nat) (E : Int) (s : ByteArray) (w : World) (e : Ending) (w' : World) : Prop :=
  e = .returned (.tuple #[.int .u64 (rfM N), .int .i64 (rfE N E), .bool false, .bool (rfT N), .bool false, .int .i64 s.size, .bool true]) ∧ ∃ q, w' = w.drewN q

end Go.Proofs.YtamdnnkdnhkghaaGreatDoor
