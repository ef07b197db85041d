import Derived.Test.YtamdnnkdnhkghaaGreatDoorP27
import Derived.Test.YtamdnnkdnhkghaaGreatDoorP38
namespace Go.Proofs.YtamdnnkdnhkghaaGreatDoor

open Go Go.RowKit

set_option linter.unusedVariables false

/-- The decimal digits of a number, none for nought. -/
def digN (n : Nat) : List Int := if n = 0 then [] else decL n

theorem digN_step {X c : Nat} (hc : c < 10) : digN (X * 10 + c) = if X = 0 ∧ c = 0 then [] else digN X ++ [48 + (c : Int)] := by
  unfold digN
  by_cases h : X = 0
  · subst h
    by_cases h0 : c = 0
    · subst h0; rfl
    · rw [if_neg (by omega), if_neg (by omega), if_pos rfl, Nat.zero_mul, Nat.zero_add, decL_small hc, Nat.mod_eq_of_lt hc]
      rfl
  · rw [if_neg (by omega), if_neg (by omega), if_neg h, decL_step (by omega)]
    have e1 : (X * 10 + c) / 10 = X := by omega
    have e2 : (X * 10 + c) % 10 = c := by omega
    rw [e1, e2]

theorem digN_len (X : Nat) : (digN X).length = 0 ↔ X = 0 := by
  unfold digN
  split
  · rename_i h; simp [h]
  · rename_i h
    rw [decL_pre]
    simp [h]

theorem digL_snoc (d n : Nat) : digL d (n + 1) = digL (d / 10) n ++ [48 + ((d % 10 : Nat) : Int)] := by
  unfold digL
  rw [List.range_succ, List.map_append, List.map_singleton]
  congr 1
  · apply List.map_congr_left
    intro j hj
    rw [List.mem_range] at hj
    rw [dgA_val, dgA_val, Nat.div_div_eq_div_mul]
    have e : n + 1 - 1 - j = n - 1 - j + 1 := by omega
    rw [e, Nat.pow_succ, Nat.mul_comm]
  · rw [dgA_val]
    have e : n + 1 - 1 - n = 0 := by omega
    rw [e, Nat.pow_zero, Nat.div_one]

theorem allDig_digL (d n : Nat) : allDig (digL d n) = true := by
  unfold allDig
  rw [List.all_eq_true]
  intro z hz
  have := digL_byte z hz
  unfold isDigI
  simp only [decide_eq_true_eq]
  omega

/-- How many digits a number has, in the words of its digits. -/
theorem digN_digL : ∀ {l N : Nat}, 1 ≤ l → 10 ^ (l - 1) ≤ N → N < 10 ^ l → digN N = digL N l
  | 0, _, h, _, _ => by omega
  | 1, N, _, h1, h2 => by
    have h1' : 1 ≤ N := by simpa using h1
    have h2' : N < 10 := by simpa using h2
    have := digN_step (X := 0) (c := N) h2'
    rw [Nat.zero_mul, Nat.zero_add, if_neg (by omega)] at this
    rw [this, digL_snoc, Nat.mod_eq_of_lt h2']
    rfl
  | l + 2, N, _, h1, h2 => by
    have e1 : l + 2 - 1 = l + 1 := by omega
    rw [e1, Nat.pow_succ] at h1
    rw [Nat.pow_succ] at h2
    have ih := digN_digL (l := l + 1) (N := N / 10) (by omega) (by rw [Nat.add_sub_cancel, Nat.le_div_iff_mul_le (by omega)]; exact h1) (by rw [Nat.div_lt_iff_lt_mul (by omega)]; exact h2)
    have hs := digN_step (X := N / 10) (c := N % 10) (by omega)
    have e2 : N / 10 * 10 + N % 10 = N := by omega
    have hp : 0 < 10 ^ l := Nat.pow_pos (by omega)
    rw [e2, if_neg (by omega), ih] at hs
    rw [hs, ← digL_snoc]

theorem digN_size {N : Nat} (h : 0 < N) : ∃ l, 1 ≤ l ∧ 10 ^ (l - 1) ≤ N ∧ N < 10 ^ l := by
  induction N using Nat.strongRecOn with
  | _ N ih =>
    by_cases h10 : N < 10
    · exact ⟨1, by omega, by show 10 ^ 0 ≤ N; rw [Nat.pow_zero]; omega, by rw [Nat.pow_one]; exact h10⟩
    · obtain ⟨l, h1, h2, h3⟩ := ih (N / 10) (by omega) (by omega)
      refine ⟨l + 1, by omega, ?_, ?_⟩
      · obtain ⟨j, rfl⟩ : ∃ j, l = j + 1 := ⟨l - 1, by omega⟩
        rw [Nat.add_sub_cancel] at h2 ⊢
        rw [Nat.pow_succ]
        omega
      · rw [Nat.pow_succ]
        omega

theorem mod_step (N s t : Nat) : N / 10 ^ s % 10 ^ (t + 1) = N / 10 ^ (s + 1) % 10 ^ t * 10 + N / 10 ^ s % 10 := by
  rw [Nat.pow_succ, Nat.pow_succ, ← Nat.div_div_eq_div_mul, Nat.mul_comm (10 ^ t) 10, Nat.mod_mul]
  omega

/-- Rounding half to even, in the words of digits. -/
theorem rq_digits (N j : Nat) : rq N (10 ^ (j + 1)) = N / 10 ^ (j + 1) + (if 5 < N / 10 ^ j % 10 ∨ (N / 10 ^ j % 10 = 5 ∧ (N % 10 ^ j ≠ 0 ∨ N / 10 ^ (j + 1) % 2 = 1)) then 1 else 0) := by
  unfold rq
  have hz : 0 < 10 ^ j := Nat.pow_pos (by omega)
  have hm : N % 10 ^ (j + 1) = N / 10 ^ j % 10 * 10 ^ j + N % 10 ^ j := by
    rw [Nat.pow_succ, Nat.mod_mul, Nat.mul_comm (10 ^ j)]
    omega
  have hs : N % 10 ^ j < 10 ^ j := Nat.mod_lt _ hz
  rw [hm]
  rw [Nat.pow_succ]
  generalize N / (10 ^ j * 10) = T
  have hg : N / 10 ^ j % 10 < 10 := Nat.mod_lt _ (by omega)
  generalize N / 10 ^ j % 10 = g at *
  generalize N % 10 ^ j = S at *
  generalize 10 ^ j = z at *
  congr 1
  have : g = 0 ∨ g = 1 ∨ g = 2 ∨ g = 3 ∨ g = 4 ∨ g = 5 ∨ g = 6 ∨ g = 7 ∨ g = 8 ∨ g = 9 := by omega
  rcases this with rfl | rfl | rfl | rfl | rfl | rfl | rfl | rfl | rfl | rfl <;> (congr 1; apply propext; constructor <;> intro h <;> omega)

/-- A number of l digits over 10^P, held against V / 2^c. -/
structure Ex (V c N P l : Nat) : Prop where
  l1 : 1 ≤ l
  lo : 10 ^ (l - 1) ≤ N
  hi : N < 10 ^ l
  val : N * 2 ^ c = V * 10 ^ P

theorem Ex.cross {V c N P l k : Nat} (h : Ex V c N P l) (hk : k ≤ l) : N * gB c ((P : Int) - l + k) = gA V ((P : Int) - l + k) * 10 ^ (l - k) := by
  unfold gA gB
  have e : P + (-((P : Int) - l + k)).toNat = ((P : Int) - l + k).toNat + (l - k) := by omega
  rw [← Nat.mul_assoc, h.val, Nat.mul_assoc, ← Nat.pow_add, e, Nat.pow_add, Nat.mul_assoc]

theorem Ex.round {V c N P l k : Nat} (h : Ex V c N P l) (hk1 : 1 ≤ k) (hk : k ≤ l) :
    rq N (10 ^ (l - k)) ≤ 10 ^ k ∧ (rq N (10 ^ (l - k)) = 10 ^ k → Fmt V c k (10 ^ (k - 1)) ((P : Int) - l + k - 1)) ∧ (rq N (10 ^ (l - k)) ≠ 10 ^ k → Fmt V c k (rq N (10 ^ (l - k))) ((P : Int) - l + k)) := by
  have hB := gB_pos c ((P : Int) - l + k)
  have hx := h.cross hk
  have hz : 0 < 10 ^ (l - k) := Nat.pow_pos (by omega)
  have hr : rq (gA V ((P : Int) - l + k)) (gB c ((P : Int) - l + k)) = rq N (10 ^ (l - k)) := (rq_ratio hz hB hx).symm
  have e1 : 10 ^ (l - 1) = 10 ^ (l - k) * 10 ^ (k - 1) := by rw [← Nat.pow_add]; congr 1; omega
  have e2 : 10 ^ l = 10 ^ (l - k) * 10 ^ k := by rw [← Nat.pow_add]; congr 1; omega
  have hlo := h.lo
  have hhi := h.hi
  rw [e1] at hlo
  rw [e2] at hhi
  have r1 : 10 ^ (k - 1) ≤ rq N (10 ^ (l - k)) := rq_ge' hz hlo
  have r2 : rq N (10 ^ (l - k)) ≤ 10 ^ k := rq_le hz (Nat.le_of_lt hhi)
  have v1 : 10 ^ (k - 1) * gB c ((P : Int) - l + k) ≤ gA V ((P : Int) - l + k) := by
    have : 10 ^ (l - k) * 10 ^ (k - 1) * gB c ((P : Int) - l + k) ≤ gA V ((P : Int) - l + k) * 10 ^ (l - k) := by rw [← hx]; exact Nat.mul_le_mul_right _ hlo
    rw [Nat.mul_assoc, Nat.mul_comm] at this
    exact Nat.le_of_mul_le_mul_right this hz
  have v2 : gA V ((P : Int) - l + k) < 10 ^ k * gB c ((P : Int) - l + k) := by
    have : gA V ((P : Int) - l + k) * 10 ^ (l - k) < 10 ^ (l - k) * 10 ^ k * gB c ((P : Int) - l + k) := by rw [← hx]; exact Nat.mul_lt_mul_of_pos_right hhi hB
    rw [Nat.mul_assoc (10 ^ (l - k)), Nat.mul_comm (10 ^ (l - k))] at this
    exact Nat.lt_of_mul_lt_mul_right this
  have hk10 := ten_pre hk1
  have hkp : 0 < 10 ^ (k - 1) := Nat.pow_pos (by omega)
  refine ⟨r2, fun he => ⟨Nat.le_refl _, by omega, _, v1, v2, .inr ⟨rfl, rfl, by rw [hr]; exact he⟩⟩, fun he => ⟨r1, by omega, _, v1, v2, .inl ⟨rfl, hr.symm⟩⟩⟩

theorem rq_one (N : Nat) : rq N 1 = N := by
  unfold rq
  rw [Nat.div_one, Nat.mod_one, if_neg (by omega)]
  rfl

theorem Ex.whole {V c N P l : Nat} (h : Ex V c N P l) : Fmt V c l N (P : Int) := by
  have hr := h.round (k := l) h.l1 (Nat.le_refl _)
  rw [Nat.sub_self, Nat.pow_zero, rq_one] at hr
  have e : (P : Int) - l + l = P := by omega
  rw [e] at hr
  exact hr.2.2 (by have := h.hi; omega)

theorem Ex.back {r c N P l : Nat} (hc : c = 1074) (h0 : 0 < r) (hr : r < infW) (h : Ex (wV r) c N P l) : DecRnd N (-(P : Int)) r := by
  refine exact_back hc h0 hr ?_
  have := h.cross (k := l) (Nat.le_refl _)
  have e : (P : Int) - l + l = P := by omega
  rw [e, Nat.sub_self, Nat.pow_zero, Nat.mul_one] at this
  exact this

end Go.Proofs.YtamdnnkdnhkghaaGreatDoor
