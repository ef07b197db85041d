import Derived.Test.YtamdnnkdnhkghaaGreatDoorQ04
import Derived.Laws.FloatArith
import Derived.Test.YtamdnnkdnhkghaaGreatDoorQ08
import Derived.Test.YtamdnnkdnhkghaaGreatDoorQ05
import Derived.LaidEql
import Derived.Stop.Asserts
import Derived.RowKitTokens
namespace Go.Proofs.YtamdnnkdnhkghaaGreatDoor
set_option maxHeartbeats 40000

/-- The magnitude of a finite rung is wM * 2^wE. -/
def wM (r : Nat) : Nat := if r < 4503599627370496 then r else r % 4503599627370496 + 4503599627370496
def wK (r : Nat) : Nat := r / 4503599627370496 - 1
def wE (r : Nat) : Int := (wK r : Int) - 1074

theorem wM_lt (r : Nat) : wM r < 9007199254740992 := by unfold wM; split <;> omega

theorem wM_ge {r : Nat} (h : 1 ≤ wK r) : 4503599627370496 ≤ wM r := by unfold wK at h; unfold wM; split <;> omega

theorem w_parts (r : Nat) : wK r * 4503599627370496 + wM r = r := by unfold wK wM; split <;> omega

theorem wK_lt {r : Nat} (h : r < infW) : wK r < 2046 := by unfold infW at h; unfold wK; omega

theorem read_fin {r : Nat} (h : r < infW) : Ieee.double.read r = .number false (wM r) (wE r) := by
  have h1 : wK r = 0 ∨ 4503599627370496 ≤ wM r := by
    by_cases h0 : wK r = 0
    · exact .inl h0
    · exact .inr (wM_ge (by omega))
  have := read_word (k := wK r) (q := wM r) (wM_lt r) h1 (by rw [w_parts]; exact h)
  rw [w_parts] at this
  exact this

theorem read_sign {r : Nat} (h : r < 9223372036854775808) : Ieee.double.read (9223372036854775808 + r) = (Ieee.double.read r).opposite := by
  unfold Ieee.Format.read
  rw [dbl_sw, dbl_bn, dbl_ir, dbl_lp]
  have h1 : (9223372036854775808 + r) % 9223372036854775808 = r := by omega
  have h2 : (9223372036854775808 + r) / 9223372036854775808 = 1 := by omega
  have h3 : r % 9223372036854775808 = r := by omega
  have h4 : r / 9223372036854775808 = 0 := by omega
  simp only [h1, h2, h3, h4]
  split
  · rfl
  · split
    · rfl
    · split
      · rfl
      · rfl

/-- The word of a sign and a rung. -/
def wordS (s : Bool) (r : Nat) : Nat := if s then 9223372036854775808 + r else r

theorem read_wordS {s : Bool} {r : Nat} (h : r < 9223372036854775808) : Ieee.double.read (wordS s r) = if s then (Ieee.double.read r).opposite else Ieee.double.read r := by
  cases s with
  | false => rfl
  | true => exact read_sign h

theorem read_finS {s : Bool} {r : Nat} (h : r < infW) : Ieee.double.read (wordS s r) = .number s (wM r) (wE r) := by
  cases s with
  | false => exact read_fin h
  | true =>
    show Ieee.double.read (9223372036854775808 + r) = _
    rw [read_sign (by unfold infW at h; omega), read_fin h]
    rfl

theorem read_infS (s : Bool) : Ieee.double.read (wordS s infW) = .infinity s := by cases s <;> decide +kernel

theorem read_nan {r : Nat} (h1 : infW < r) (h2 : r < 9223372036854775808) : Ieee.double.read r = .nan false (r - infW) := by
  unfold Ieee.Format.read
  rw [dbl_sw, dbl_bn, dbl_ir, dbl_lp]
  have h3 : r % 9223372036854775808 = r := by omega
  have h4 : r / 9223372036854775808 = 0 := by omega
  simp only [h3, h4]
  rw [if_neg (by unfold infW at h1; omega), if_neg (by omega), if_neg (by omega)]
  rfl

theorem read_nanS {s : Bool} {r : Nat} (h1 : infW < r) (h2 : r < 9223372036854775808) : Ieee.double.read (wordS s r) = .nan s (r - infW) := by
  cases s with
  | false => exact read_nan h1 h2
  | true =>
    show Ieee.double.read (9223372036854775808 + r) = _
    rw [read_sign h2, read_nan h1 h2]
    rfl

/-- Every word has its sign and rung. -/
theorem word_split {W : Nat} (h : W < 18446744073709551616) : W = wordS (decide (9223372036854775808 ≤ W)) (W % 9223372036854775808) := by
  unfold wordS
  by_cases h1 : 9223372036854775808 ≤ W
  · rw [if_pos (decide_eq_true h1)]; omega
  · rw [if_neg (by rw [decide_eq_true_iff]; exact h1)]; omega

def sgZ (s : Bool) (n : Nat) : Int := if s then -(n : Int) else n

theorem signed_up (s : Bool) (m u : Nat) : Ieee.signed s m u = sgZ s (m * 2 ^ u) := by
  unfold Ieee.signed sgZ
  rw [Nat.shiftLeft_eq]

theorem icmp_lt {a b : Int} (h : a < b) : compare a b = .lt := by
  show compareOfLessAndEq a b = .lt
  unfold compareOfLessAndEq
  rw [if_pos h]
theorem icmp_eq {a b : Int} (h : a = b) : compare a b = .eq := Int.compare_eq_eq.2 h
theorem icmp_gt {a b : Int} (h : b < a) : compare a b = .gt := by
  show compareOfLessAndEq a b = .gt
  unfold compareOfLessAndEq
  rw [if_neg (by omega), if_neg (by omega)]

theorem sg_inj {s : Bool} {a b : Nat} (h : sgZ s a = sgZ s b) : a = b := by
  unfold sgZ at h
  cases s with
  | false => simp only [Bool.false_eq_true, if_false] at h; omega
  | true => simp only [if_true] at h; omega

/-- Two numbers of one sign are equal where their magnitudes are. -/
theorem order_eq {s : Bool} {m n : Nat} {i j : Int} {a c : Nat} (hac : (a : Int) - c = i - j) :
    Ieee.Datum.order (.number s m i) (.number s n j) = some .eq ↔ m * 2 ^ a = n * 2 ^ c := by
  unfold Ieee.Datum.order
  simp only [signed_up]
  obtain ⟨x, hx⟩ : ∃ x, x = (i - min i j).toNat := ⟨_, rfl⟩
  obtain ⟨y, hy⟩ : ∃ y, y = (j - min i j).toNat := ⟨_, rfl⟩
  rw [← hx, ← hy]
  have hxy : a + y = c + x := by omega
  clear hx hy hac
  have p : ∀ x : Nat, 0 < 2 ^ x := fun x => Nat.pow_pos (by omega)
  have key : m * 2 ^ x = n * 2 ^ y ↔ m * 2 ^ a = n * 2 ^ c := by
    have e : m * 2 ^ x * 2 ^ c = m * 2 ^ a * 2 ^ y := by
      rw [Nat.mul_assoc, Nat.mul_assoc, ← Nat.pow_add, ← Nat.pow_add, Nat.add_comm x c, ← hxy]
    have e2 : n * 2 ^ y * 2 ^ c = n * 2 ^ c * 2 ^ y := by rw [Nat.mul_assoc, Nat.mul_comm (2 ^ y), Nat.mul_assoc]
    constructor
    · intro h
      rw [h, e2] at e
      exact (Nat.eq_of_mul_eq_mul_right (p y) e).symm
    · intro h
      rw [h, ← e2] at e
      exact Nat.eq_of_mul_eq_mul_right (p c) e
  constructor
  · intro h
    exact key.1 (sg_inj (Int.compare_eq_eq.1 (Option.some.inj h)))
  · intro h
    rw [key.2 h, icmp_eq rfl]

theorem cut_zero (neg : Bool) (n drop : Nat) : Ieee.Toward.zero.cut neg n drop = n / 2 ^ drop := by
  unfold Ieee.Toward.cut
  simp only [Bool.toNat_false, Nat.add_zero, Nat.one_shiftLeft]
  by_cases h : drop ≤ n.log2 + 2
  · rw [Nat.min_eq_left h]
  · rw [Nat.min_eq_right (by omega)]
    have h1 : n < 2 ^ (n.log2 + 1) := Nat.lt_log2_self
    have h2 : 2 ^ (n.log2 + 1) ≤ 2 ^ (n.log2 + 2) := Nat.pow_le_pow_right (by omega) (by omega)
    have h3 : 2 ^ (n.log2 + 2) ≤ 2 ^ drop := Nat.pow_le_pow_right (by omega) (by omega)
    rw [Nat.div_eq_of_lt (by omega), Nat.div_eq_of_lt (by omega)]

theorem nearest_sign (s : Bool) (m : Nat) (p : Int) : Ieee.double.nearest s m p = wordS s (Ieee.double.nearest false m p) := by
  unfold Ieee.Format.nearest
  by_cases h : m = 0
  · rw [if_pos h, if_pos h]
    unfold Ieee.Format.word wordS
    simp only [dbl_sw, Bool.false_eq_true, if_false]
  · rw [if_neg h, if_neg h]
    simp only [cut_even]
    unfold Ieee.Format.word wordS
    simp only [dbl_sw, Bool.false_eq_true, if_false]

/-- The whole part of m * 2^e. -/
def wT (m : Nat) (e : Int) : Nat := m * 2 ^ e.toNat / 2 ^ (-e).toNat

theorem integral_zero (s : Bool) (m : Nat) (e : Int) : Ieee.Datum.integral .zero (.number s m e) = .number s (wT m e) 0 := by
  unfold Ieee.Datum.integral
  simp only [cut_zero, Nat.shiftLeft_eq, wT]

theorem nearest_le (m : Nat) (p : Int) : Ieee.double.nearest false m p ≤ infW := by
  unfold Ieee.Format.nearest
  split
  · exact Nat.zero_le _
  · unfold Ieee.Format.word
    simp only [Bool.false_eq_true, if_false]
    rw [dbl_ir]
    exact Nat.min_le_right _ _

/-- Below the point: the whole part is the number where nothing is cut off. -/
theorem trunc_low {s : Bool} {m : Nat} {e : Int} (hm : m < 9007199254740992) (he : e < 0) :
    Ieee.Datum.order (.number s m e) (Ieee.double.read (Ieee.double.nearest s (wT m e) 0)) = some .eq ↔ m % 2 ^ (-e).toNat = 0 := by
  obtain ⟨d, hd⟩ : ∃ d : Nat, d = (-e).toNat := ⟨_, rfl⟩
  have e0 : e.toNat = 0 := by omega
  have hT : wT m e = m / 2 ^ d := by unfold wT; rw [e0, Nat.pow_zero, Nat.mul_one, hd]
  rw [hT, ← hd]
  have p : ∀ x : Nat, 0 < 2 ^ x := fun x => Nat.pow_pos (by omega)
  have key : m % 2 ^ d = 0 ↔ m = m / 2 ^ d * 2 ^ d := by
    have := Nat.div_add_mod m (2 ^ d)
    rw [Nat.mul_comm] at this
    constructor
    · intro h; omega
    · intro h; omega
  rw [key]
  by_cases h0 : m / 2 ^ d = 0
  · rw [h0]
    have r0 : Ieee.double.read (Ieee.double.nearest s 0 0) = .number s 0 (-1074) := by cases s <;> decide +kernel
    rw [r0]
    obtain ⟨a, c, hac⟩ : ∃ a c : Nat, (a : Int) - c = e - -1074 := ⟨(e + 1074).toNat, (-(e + 1074)).toNat, by omega⟩
    rw [order_eq hac, Nat.zero_mul, Nat.zero_mul]
    constructor
    · intro h
      rcases Nat.mul_eq_zero.1 h with h | h
      · exact h
      · have := p a; omega
    · intro h; rw [h, Nat.zero_mul]
  · have hlt : m / 2 ^ d < 9007199254740992 := Nat.lt_of_le_of_lt (Nat.div_le_self _ _) hm
    obtain ⟨q, g, hr, hq, hg⟩ := read_int h0 hlt
    have hrs : Ieee.double.read (Ieee.double.nearest s (m / 2 ^ d) 0) = .number s q (-(g : Int)) := by
      have hle := nearest_le (m / 2 ^ d) 0
      rw [nearest_sign, read_wordS (by unfold infW at hle; omega), hr]
      cases s <;> rfl
    rw [hrs, order_eq (a := g) (c := d) (by omega), hq]
    have e3 : m / 2 ^ d * 2 ^ g * 2 ^ d = m / 2 ^ d * 2 ^ d * 2 ^ g := by rw [Nat.mul_assoc, Nat.mul_comm (2 ^ g), Nat.mul_assoc]
    rw [e3]
    constructor
    · intro h; exact Nat.eq_of_mul_eq_mul_right (p g) h
    · intro h; rw [← h]

/-- A whole number's word is itself again. -/
theorem trunc_high {r : Nat} (hr : r < infW) (he : 0 ≤ wE r) : Ieee.double.nearest false (wT (wM r) (wE r)) 0 = r := by
  obtain ⟨c, hc⟩ : ∃ c : Nat, c = 1074 := ⟨_, rfl⟩
  have hk : 1 ≤ wK r := by unfold wE at he; omega
  have hm := wM_ge hk
  have hm2 := wM_lt r
  obtain ⟨u, hu⟩ : ∃ u : Nat, u = (wE r).toNat := ⟨_, rfl⟩
  have hK : wK r = u + c := by unfold wE at hu he; omega
  have e0 : (-(wE r)).toNat = 0 := by omega
  have hT : wT (wM r) (wE r) = wM r * 2 ^ u := by unfold wT; rw [e0, Nat.pow_zero, Nat.div_one, hu]
  rw [hT]
  have p : ∀ x : Nat, 0 < 2 ^ x := fun x => Nat.pow_pos (by omega)
  have n0 : wM r * 2 ^ u ≠ 0 := Nat.mul_ne_zero (by omega) (Nat.pos_iff_ne_zero.1 (p u))
  have h1 := nearest_rnd (mag := wM r * 2 ^ u) (place := 0) n0 (A := c) (B := 0) (by omega)
  rw [Nat.pow_zero] at h1
  refine IsRnd.unique h1 ⟨wK r, ?_, ?_, ?_⟩
  · rw [Nat.one_mul, Nat.mul_assoc, ← Nat.pow_add, ← hK, Nat.pow_add]
    exact Nat.mul_lt_mul_of_pos_right hm2 (p _)
  · right
    rw [Nat.one_mul, Nat.mul_assoc, ← Nat.pow_add, ← hK, Nat.pow_add]
    exact Nat.mul_le_mul_right _ hm
  · rw [Nat.one_mul, Nat.mul_assoc, ← Nat.pow_add, ← hK]
    have : rq (wM r * 2 ^ wK r) (2 ^ wK r) = wM r := by
      have hp := p (wK r)
      unfold rq
      rw [Nat.mul_div_cancel _ hp, Nat.mul_mod_left]
      generalize 2 ^ wK r = Z at hp
      rw [if_neg (by omega), Nat.add_zero]
    rw [this, w_parts, Nat.min_eq_left (Nat.le_of_lt hr)]

/-- The bounds of integers as words. -/
theorem read_low : Ieee.double.read 14114281232179134464 = .number true 4503599627370496 11 := by decide +kernel
theorem read_high : Ieee.double.read 4890909195324358656 = .number false 4503599627370496 11 := by decide +kernel

theorem pow_two_le {a : Nat} (h : 1 ≤ a) : 9007199254740992 ≤ 4503599627370496 * 2 ^ a := by
  have : 2 ^ 1 ≤ 2 ^ a := Nat.pow_le_pow_right (by omega) h
  omega

theorem in_high {s : Bool} {m : Nat} {e : Int} (hm : m < 9007199254740992) (he : e ≤ 10) :
    Ieee.Datum.order (.number s m e) (.number false 4503599627370496 11) = some .lt := by
  unfold Ieee.Datum.order
  simp only [signed_up]
  have hb : min e 11 = e := by omega
  rw [hb]
  have e1 : (e - e).toNat = 0 := by omega
  rw [e1, Nat.pow_zero, Nat.mul_one]
  have := pow_two_le (a := (11 - e).toNat) (by omega)
  generalize 4503599627370496 * 2 ^ (11 - e).toNat = X at *
  congr 1
  refine icmp_lt ?_
  unfold sgZ
  cases s <;> simp <;> omega

theorem in_low {s : Bool} {m : Nat} {e : Int} (hm : m < 9007199254740992) (he : e ≤ 10) :
    Ieee.Datum.order (.number s m e) (.number true 4503599627370496 11) = some .gt := by
  unfold Ieee.Datum.order
  simp only [signed_up]
  have hb : min e 11 = e := by omega
  rw [hb]
  have e1 : (e - e).toNat = 0 := by omega
  rw [e1, Nat.pow_zero, Nat.mul_one]
  have := pow_two_le (a := (11 - e).toNat) (by omega)
  generalize 4503599627370496 * 2 ^ (11 - e).toNat = X at *
  congr 1
  refine icmp_gt ?_
  unfold sgZ
  cases s <;> simp <;> omega

theorem out_high {m : Nat} {e : Int} (hm : 4503599627370496 ≤ m) (he : 11 ≤ e) :
    Ieee.Datum.order (.number false m e) (.number false 4503599627370496 11) ≠ some .lt := by
  unfold Ieee.Datum.order
  simp only [signed_up]
  have hb : min e 11 = 11 := by omega
  rw [hb]
  have e1 : ((11 : Int) - 11).toNat = 0 := by omega
  rw [e1, Nat.pow_zero, Nat.mul_one]
  have h1 : 1 ≤ 2 ^ (e - 11).toNat := Nat.one_le_two_pow
  have h2 : m * 1 ≤ m * 2 ^ (e - 11).toNat := Nat.mul_le_mul_left _ h1
  generalize m * 2 ^ (e - 11).toNat = X at *
  intro h
  have h3 := Option.some.inj h
  unfold sgZ at h3
  simp only [Bool.false_eq_true, if_false] at h3
  by_cases h4 : X = 4503599627370496
  · rw [h4, icmp_eq rfl] at h3; cases h3
  · rw [icmp_gt (by omega)] at h3; cases h3

theorem out_low {m : Nat} {e : Int} (hm : 4503599627370496 ≤ m) (he : 11 ≤ e) (hne : ¬ (m = 4503599627370496 ∧ e = 11)) :
    Ieee.Datum.order (.number true m e) (.number true 4503599627370496 11) = some .lt := by
  unfold Ieee.Datum.order
  simp only [signed_up]
  have hb : min e 11 = 11 := by omega
  rw [hb]
  have e1 : ((11 : Int) - 11).toNat = 0 := by omega
  rw [e1, Nat.pow_zero, Nat.mul_one]
  have h2 : 4503599627370496 < m * 2 ^ (e - 11).toNat := by
    by_cases h11 : e = 11
    · rw [h11, e1, Nat.pow_zero]; omega
    · have h1 : 2 ^ 1 ≤ 2 ^ (e - 11).toNat := Nat.pow_le_pow_right (by omega) (by omega)
      have := Nat.mul_le_mul_left m h1
      omega
  generalize m * 2 ^ (e - 11).toNat = X at *
  congr 1
  refine icmp_lt ?_
  unfold sgZ
  simp only [if_true]
  omega

end Go.Proofs.YtamdnnkdnhkghaaGreatDoor

namespace Go.Proofs.YtamdnnkdnhkghaaGreatDoor
set_option maxHeartbeats 100000

def fitsB (s : Bool) (r : Nat) : Bool := decide (r < infW ∧ (wE r ≤ 10 ∨ (s = true ∧ r = 4890909195324358656)))

theorem top_M : wM 4890909195324358656 = 4503599627370496 := by decide
theorem top_E : wE 4890909195324358656 = 11 := by decide

theorem top_of {r : Nat} (h1 : wM r = 4503599627370496) (h2 : wE r = 11) : r = 4890909195324358656 := by
  have h3 := w_parts r
  unfold wE at h2
  have h4 : wK r = 1085 := by omega
  rw [h4, h1] at h3
  omega

def loB (W : Nat) : Bool := Ieee.double.order W 14114281232179134464 == some .gt || Ieee.double.order W 14114281232179134464 == some .eq
def hiB (W : Nat) : Bool := Ieee.double.order W 4890909195324358656 == some .lt

theorem fits_all {s : Bool} {r : Nat} (hr : r < 9223372036854775808) : (loB (wordS s r) && hiB (wordS s r)) = fitsB s r := by
  unfold loB hiB Ieee.Format.order
  rw [read_low, read_high]
  by_cases h : r < infW
  · rw [read_finS h]
    have hm := wM_lt r
    by_cases he : wE r ≤ 10
    · rw [in_low hm he, in_high hm he]
      have : fitsB s r = true := decide_eq_true ⟨h, .inl he⟩
      rw [this]
      rfl
    · have hk : 1 ≤ wK r := by unfold wE at he; omega
      have hm2 := wM_ge hk
      cases s with
      | false =>
        have h1 := out_high hm2 (e := wE r) (by omega)
        have h2 : (Ieee.Datum.order (.number false (wM r) (wE r)) (.number false 4503599627370496 11) == some .lt) = false := by rw [beq_eq_false_iff_ne]; exact h1
        rw [h2, Bool.and_false]
        exact (decide_eq_false (fun hh => hh.2.elim he (fun h3 => Bool.noConfusion h3.1))).symm
      | true =>
        by_cases ht : wM r = 4503599627370496 ∧ wE r = 11
        · have := top_of ht.1 ht.2
          subst this
          rw [top_M, top_E]
          decide +kernel
        · rw [out_low hm2 (by omega) ht]
          have : fitsB true r = false := by
            refine decide_eq_false (fun hh => hh.2.elim he (fun h3 => ht ?_))
            rw [h3.2]
            exact ⟨top_M, top_E⟩
          rw [this]
          rfl
  · have hf : fitsB s r = false := decide_eq_false (fun hh => h hh.1)
    rw [hf]
    by_cases hi : r = infW
    · rw [hi, read_infS]
      cases s <;> rfl
    · rw [read_nanS (by omega) hr]
      rfl

/-- The whole part of a word as a word. -/
def truncW (s : Bool) (r : Nat) : Nat := Ieee.double.nearest s (wT (wM r) (wE r)) 0

theorem trunc_order {s : Bool} {r : Nat} (h : r < infW) : (Ieee.double.order (wordS s r) (truncW s r) == some .eq) = decide (wM r % 2 ^ (-(wE r)).toNat = 0) := by
  have key : Ieee.double.order (wordS s r) (truncW s r) = some .eq ↔ wM r % 2 ^ (-(wE r)).toNat = 0 := by
    unfold truncW
    by_cases he : 0 ≤ wE r
    · have e0 : (-(wE r)).toNat = 0 := by omega
      rw [nearest_sign, trunc_high h he, e0, Nat.pow_zero, Nat.mod_one]
      unfold Ieee.Format.order
      rw [read_finS h, order_eq (a := 0) (c := 0) (by omega)]
      simp only
    · unfold Ieee.Format.order
      rw [read_finS h]
      exact trunc_low (wM_lt r) (by omega)
  by_cases hx : wM r % 2 ^ (-(wE r)).toNat = 0
  · rw [key.2 hx, decide_eq_true hx]; rfl
  · rw [decide_eq_false hx, beq_eq_false_iff_ne]
    exact fun hh => hx (key.1 hh)

theorem decode_fin {s : Bool} {r : Nat} (h : r < infW) : FloatKind.f64.decode (wordS s r) = .number s (wM r) (wE r) := read_finS h

theorem encode_trunc (s : Bool) (r : Nat) : FloatKind.f64.encode (Ieee.Datum.integral .zero (.number s (wM r) (wE r))) = truncW s r := by
  rw [integral_zero]
  rfl

theorem wT_lt {r : Nat} (he : wE r ≤ 10) : wT (wM r) (wE r) < 9223372036854775808 := by
  have hm := wM_lt r
  unfold wT
  by_cases h : 0 ≤ wE r
  · have e0 : (-(wE r)).toNat = 0 := by omega
    rw [e0, Nat.pow_zero, Nat.div_one]
    have h1 : 2 ^ (wE r).toNat ≤ 2 ^ 10 := Nat.pow_le_pow_right (by omega) (by omega)
    have h2 := Nat.mul_le_mul_left (wM r) h1
    omega
  · have e0 : (wE r).toNat = 0 := by omega
    rw [e0, Nat.pow_zero, Nat.mul_one]
    have := Nat.div_le_self (wM r) (2 ^ (-(wE r)).toNat)
    omega

theorem wT_top : wT 4503599627370496 11 = 9223372036854775808 := by decide

theorem sg_range {s : Bool} {r : Nat} (h : fitsB s r = true) : -9223372036854775808 ≤ sgZ s (wT (wM r) (wE r)) ∧ sgZ s (wT (wM r) (wE r)) ≤ 9223372036854775807 := by
  rcases (of_decide_eq_true h).2 with he | ⟨hs, hr⟩
  · have := wT_lt he
    unfold sgZ
    split <;> omega
  · rw [hs, hr, top_M, top_E, wT_top]
    decide

theorem toInt_val {s : Bool} {r : Nat} (h : fitsB s r = true) : floatToIntVal .f64 (wordS s r) .i64 = some (sgZ s (wT (wM r) (wE r))) := by
  have hf := (of_decide_eq_true h).1
  have h1 : (FloatKind.f64.decode (wordS s r)).toInt .zero = some (sgZ s (wT (wM r) (wE r))) := by
    rw [decode_fin hf]
    unfold Ieee.Datum.toInt
    rw [integral_zero]
    simp only [signed_up, Nat.pow_zero, Nat.mul_one]
  have h2 := sg_range h
  unfold floatToIntVal
  rw [h1]
  simp only
  rw [if_pos]
  exact h2

/-- The integer that a word counts as. -/
def wholeZ (s : Bool) (r : Nat) : Option Int := if fitsB s r = true ∧ wM r % 2 ^ (-(wE r)).toNat = 0 then some (sgZ s (wT (wM r) (wE r))) else none

end Go.Proofs.YtamdnnkdnhkghaaGreatDoor

namespace Go.Proofs.YtamdnnkdnhkghaaGreatDoor
open Go Go.RowKit
set_option linter.unusedVariables false

theorem below_drw {B : Nat} {a w : World} (h : Below B a w) (n : Nat) : Below B a (w.drewN n) := ⟨h.os, h.tape, h.output, h.size, h.block⟩

set_option maxHeartbeats 800000 in
set_option maxRecDepth 100000 in
theorem fits_any (s : Bool) (r : Nat) (w : World) (hr : r < 9223372036854775808) :
    Calls Tryz.prog 76 #[.float .f64 (wordS s r)] w fun e w' => e = .returned (.bool (fitsB s r)) ∧ w' = w := by
  have hf := fits_all (s := s) hr
  unfold loB hiB at hf
  generalize wordS s r = W at *
  generalize fitsB s r = F at *
  obtain ⟨b1, h1⟩ : ∃ b, (FloatKind.f64.format.order W 14114281232179134464 == some Ordering.gt) = b := ⟨_, rfl⟩
  obtain ⟨b2, h2⟩ : ∃ b, (FloatKind.f64.format.order W 14114281232179134464 == some Ordering.eq) = b := ⟨_, rfl⟩
  obtain ⟨b3, h3⟩ : ∃ b, (FloatKind.f64.format.order W 4890909195324358656 == some Ordering.lt) = b := ⟨_, rfl⟩
  have hf2 : ((b1 || b2) && b3) = F := by rw [← h1, ← h2, ← h3]; exact hf
  subst hf2
  clear hf hr
  cases b1 <;> cases b2 <;> cases b3
  all_goals (go_enter Tryz.func76, Tryz.ntmps76; go_wp2; all_goals go_ret; all_goals exact ⟨rfl, rfl⟩)

theorem run_trunc {s : Bool} {r : Nat} (h : r < infW) (w : World) : (callFunc 123 #[.float .f64 (wordS s r)]).run Tryz.prog w = .ok (.value (.float .f64 (truncW s r))) w := by
  rw [run_callFunc_extern (e := Extern.MathFloor.toIntegral "math.archTrunc" .zero) Tryz.func123 (by kernel_rfl) (by kernel_rfl) (by kernel_rfl) (by kernel_rfl)]
  have : Extern.MathFloor.toIntegral "math.archTrunc" .zero #[.float .f64 (wordS s r)] = pure (.float .f64 (truncW s r)) := by
    refine Eq.trans (b := Extern.MathFloor.toIntegral.match_1 (motive := fun _ => Sem Value) (FloatKind.f64.decode (wordS s r)) _ _) rfl ?_
    rw [decode_fin h, ← encode_trunc]
  rw [this]
  rfl

theorem trunc_any (s : Bool) (r : Nat) (w : World) (h : r < infW) :
    Calls Tryz.prog 77 #[.float .f64 (wordS s r)] w fun e w' => e = .returned (.float .f64 (truncW s r)) ∧ w' = w := by
  have ht := fun w => run_trunc (s := s) h w
  generalize wordS s r = W at *
  generalize truncW s r = T at *
  go_enter Tryz.func77, Tryz.ntmps77
  go_wp2
  all_goals go_ret
  all_goals exact ⟨rfl, rfl⟩

theorem run_frombitsM (W : Nat) (w : World) : (callFunc 51 #[.int .u64 W]).run Tryz.prog w = .ok (.value (.float .f64 W)) w := by
  rw [run_callFunc_extern (e := Extern.MathFloatBits.float64frombits) Tryz.func51 (by kernel_rfl) (by kernel_rfl) (by kernel_rfl) (by kernel_rfl)]
  rfl

theorem floatOf_flt (W : Nat) (w : World) :
    Calls Tryz.prog 22 #[.agg #[.bool true, .int .i64 0, .int .u64 W]] w fun e w' => e = .returned (.float .f64 W) ∧ Below w.heap.size w w' := by
  have ht := run_frombitsM W
  go_enter Tryz.func22, Tryz.ntmps22
  go_wp2
  all_goals go_ret
  all_goals exact ⟨rfl, (Below.refl _ _).alloc (Nat.le_refl _) _⟩

/-- What 'wholeOf' hands back. -/
def wholeV (ev : Value) : Option Int → Value
  | some i => .tuple #[.int .i64 i, .nilIface]
  | none => .tuple #[.int .i64 0, ev]

theorem wholeOf_int (i : Int) (ev : Value) (w : World) :
    Calls Tryz.prog 41 #[.agg #[.bool false, .int .i64 i, .int .u64 0]] w fun e w' => e = .returned (wholeV ev (some i)) ∧ Below w.heap.size w w' := by
  go_enter Tryz.func41, Tryz.ntmps41
  go_wp2
  all_goals go_ret2
  all_goals exact ⟨rfl, (Below.refl _ _).alloc (Nat.le_refl _) _⟩

abbrev numW (w : World) (W : Nat) : World := w.alloc (.cells #[.bool true, .int .i64 0, .int .u64 W] 26)

theorem below_num {w w' : World} {W : Nat} (h : Below (w.heap.size + 1) (numW w W) w') : Below w.heap.size w w' :=
  ((Below.refl w.heap.size w).alloc (Nat.le_refl _) _).trans (h.mono (Nat.le_succ _))

set_option maxHeartbeats 800000 in
set_option maxRecDepth 100000 in
theorem wholeOf_unfit (s : Bool) (r : Nat) (ev : Value) (w : World) (hr : r < 9223372036854775808) (hf : fitsB s r = false) (h5 : 5 < w.heap.size) (hev : w.cell? ⟨5, 0, none⟩ = some ev) :
    Calls Tryz.prog 41 #[.agg #[.bool true, .int .i64 0, .int .u64 (wordS s r)]] w fun e w' => e = .returned (wholeV ev none) ∧ Below w.heap.size w w' := by
  have HF := hide (fun w' => fits_any s r w' hr)
  rw [hf] at HF
  have HO := hide (fun w' => floatOf_flt (wordS s r) w')
  generalize wordS s r = W at *
  clear hr hf
  have Hev := hide hev
  clear hev
  go_enter Tryz.func41, Tryz.ntmps41
  go_wp2_with fail
  refine (HO.out _).mono ?_
  rintro e w1 ⟨rfl, hb⟩
  have hb1 : Below (w.heap.size + 1) (numW w W) w1 := hb.mono (by simp)
  have Hb1 := hide hb1
  have hc : w1.cell? ⟨5, 0, none⟩ = some ev := ((below_num hb1).cell (show 5 < w.heap.size from h5)).trans Hev.out
  clear hb hb1
  go_wp2_with fail
  refine (HF.out _).mono ?_
  rintro e w' ⟨rfl, rfl⟩
  go_wp2
  go_quiet (fail)
  go_wp2
  go_ret2
  exact ⟨rfl, below_drw (below_num Hb1.out) _⟩

set_option maxHeartbeats 800000 in
set_option maxRecDepth 100000 in
theorem wholeOf_fit (s : Bool) (r : Nat) (ev : Value) (w : World) (hr : r < 9223372036854775808) (hf : fitsB s r = true) (h5 : 5 < w.heap.size) (hev : w.cell? ⟨5, 0, none⟩ = some ev) :
    Calls Tryz.prog 41 #[.agg #[.bool true, .int .i64 0, .int .u64 (wordS s r)]] w fun e w' => e = .returned (wholeV ev (wholeZ s r)) ∧ Below w.heap.size w w' := by
  have hfin := (of_decide_eq_true hf).1
  have HF := hide (fun w' => fits_any s r w' hr)
  rw [hf] at HF
  have HO := hide (fun w' => floatOf_flt (wordS s r) w')
  have HT := hide (fun w' => trunc_any s r w' hfin)
  have hto := trunc_order (s := s) hfin
  have hti := toInt_val hf
  have hz : wholeZ s r = if (Ieee.double.order (wordS s r) (truncW s r) == some .eq) = true then some (sgZ s (wT (wM r) (wE r))) else none := by
    rw [hto]
    unfold wholeZ
    simp only [hf, true_and, decide_eq_true_iff]
  rw [hz]
  clear hz hto hf hfin hr
  obtain ⟨b, hb0⟩ : ∃ b, (FloatKind.f64.format.order (wordS s r) (truncW s r) == some Ordering.eq) = b := ⟨_, rfl⟩
  have hb1 : (Ieee.double.order (wordS s r) (truncW s r) == some Ordering.eq) = b := hb0
  have hbn : (FloatKind.f64.format.order (wordS s r) (truncW s r) != some Ordering.eq) = !b := by rw [← hb0]; rfl
  rw [hb1]
  clear hb1
  generalize sgZ s (wT (wM r) (wE r)) = i at *
  generalize truncW s r = T at *
  generalize wordS s r = W at *
  have Hev := hide hev
  clear hev
  cases b with
  | false =>
    go_enter Tryz.func41, Tryz.ntmps41
    go_wp2_with fail
    refine (HO.out _).mono ?_
    rintro e w1 ⟨rfl, hb⟩
    have hb1 : Below (w.heap.size + 1) (numW w W) w1 := hb.mono (by simp)
    have Hb1 := hide hb1
    have hc : w1.cell? ⟨5, 0, none⟩ = some ev := ((below_num hb1).cell (show 5 < w.heap.size from h5)).trans Hev.out
    clear hb hb1
    go_wp2_with fail
    refine (HF.out _).mono ?_
    rintro e w' ⟨rfl, rfl⟩
    go_wp2_with fail
    refine (HT.out _).mono ?_
    rintro e w' ⟨rfl, rfl⟩
    go_wp2
    go_quiet (fail)
    go_wp2
    go_ret2
    exact ⟨rfl, below_drw (below_num Hb1.out) _⟩
  | true =>
    go_enter Tryz.func41, Tryz.ntmps41
    go_wp2_with fail
    refine (HO.out _).mono ?_
    rintro e w1 ⟨rfl, hb⟩
    have hb1 : Below (w.heap.size + 1) (numW w W) w1 := hb.mono (by simp)
    have Hb1 := hide hb1
    clear hb hb1
    go_wp2_with fail
    refine (HF.out _).mono ?_
    rintro e w' ⟨rfl, rfl⟩
    go_wp2_with fail
    refine (HT.out _).mono ?_
    rintro e w' ⟨rfl, rfl⟩
    have hconv := fun w => run_convert_float_int (P := Tryz.prog) w 45 3 .f64 .i64 W i (by kernel_rfl) (by kernel_rfl) hti
    go_wp2
    go_ret2
    exact ⟨rfl, below_num Hb1.out⟩

theorem wholeOf_flt (s : Bool) (r : Nat) (ev : Value) (w : World) (hr : r < 9223372036854775808) (h5 : 5 < w.heap.size) (hev : w.cell? ⟨5, 0, none⟩ = some ev) :
    Calls Tryz.prog 41 #[.agg #[.bool true, .int .i64 0, .int .u64 (wordS s r)]] w fun e w' => e = .returned (wholeV ev (wholeZ s r)) ∧ Below w.heap.size w w' := by
  cases hf : fitsB s r with
  | false =>
    have : wholeZ s r = none := by unfold wholeZ; rw [if_neg]; rw [hf]; exact fun h => Bool.noConfusion h.1
    rw [this]
    exact wholeOf_unfit s r ev w hr hf h5 hev
  | true => exact wholeOf_fit s r ev w hr hf h5 hev

end Go.Proofs.YtamdnnkdnhkghaaGreatDoor

namespace Go.Proofs.YtamdnnkdnhkghaaGreatDoor
open Go Go.RowKit Go.Extern.Stop Go.Stop Go.Extern
set_option linter.unusedVariables false

theorem is_typeOf (v : Value) (w : World) : (Extern.ReflectliteType.typeOf #[.iface 228 v]).run Tryz.prog w = .ok (.iface 171 (.agg #[.pointer (some ⟨22, 228, none⟩)])) w := by kernel_rfl
theorem is_comparable (w : World) : ((Extern.ReflectliteType.method fun t => do Extern.Rtype.noPackHeld "Comparable" t; pure (.bool (← typeInfo t).comparable)) #[.agg #[.pointer (some ⟨22, 228, none⟩)]]).run Tryz.prog w = .ok (.bool true) w := by kernel_rfl
theorem is_method (v : Value) (w : World) : (Go.method 409 171 v "Comparable").run Tryz.prog w = .ok (287, v) w := by kernel_rfl
theorem is_comp : (Tryz.prog.info? 228).map (·.comparable) = some true := by kernel_rfl
theorem is_size : (Tryz.prog.info? 230).map (·.size) = some 1 := by kernel_rfl
theorem is_cmp (w : World) : (callFunc 287 #[.agg #[.pointer (some ⟨22, 228, none⟩)]]).run Tryz.prog w = .ok (.value (.bool true)) w := by
  rw [run_callFunc_extern (e := Extern.ReflectliteType.method fun t => do Extern.Rtype.noPackHeld "Comparable" t; pure (.bool (← typeInfo t).comparable)) Tryz.func287 (by kernel_rfl) (by kernel_rfl) (by kernel_rfl) (by kernel_rfl)]
  kernel_rfl
theorem is_tof (v : Value) (w : World) : (callFunc 121 #[.iface 228 v]).run Tryz.prog w = .ok (.value (.iface 171 (.agg #[.pointer (some ⟨22, 228, none⟩)]))) w := by
  rw [run_callFunc_extern (e := Extern.ReflectliteType.typeOf) Tryz.func121 (by kernel_rfl) (by kernel_rfl) (by kernel_rfl) (by kernel_rfl)]
  kernel_rfl

theorem no_is (v : Value) (xT : TypeId) (w : World) : (Instr.typeAssert (.iface 228 v) xT 173 true).run Tryz.prog w = .ok (.tuple #[.nilIface, .bool false]) w := run_typeAssert_lacksB Tryz.underlying173 (by kernel_rfl) (by kernel_rfl) v xT w
theorem no_unwrap (v : Value) (xT : TypeId) (w : World) : (Instr.typeAssert (.iface 228 v) xT 176 true).run Tryz.prog w = .ok (.tuple #[.nilIface, .bool false]) w := run_typeAssert_lacksB Tryz.underlying176 (by kernel_rfl) (by kernel_rfl) v xT w
theorem no_unwraps (v : Value) (xT : TypeId) (w : World) : (Instr.typeAssert (.iface 228 v) xT 178 true).run Tryz.prog w = .ok (.tuple #[.nilIface, .bool false]) w := run_typeAssert_lacksB Tryz.underlying178 (by kernel_rfl) (by kernel_rfl) v xT w

set_option maxHeartbeats 1600000 in
set_option maxRecDepth 100000 in
theorem is_same (a : Addr) (w : World) :
    Calls Tryz.prog 75 #[.iface 228 (.pointer (some a)), .iface 228 (.pointer (some a))] w fun e w' => e = .returned (.bool true) ∧ w' = w := by
  obtain ⟨i, hi, hcmp⟩ := Option.map_eq_some_iff.1 is_comp
  obtain ⟨j, hj, hjs⟩ := Option.map_eq_some_iff.1 is_size
  have tT := is_tof
  have cT := is_cmp
  have mR := is_method
  have heq := run_eql_iface_ptr_same (P := Tryz.prog) w a Tryz.underlying61 Tryz.underlying228 hi hcmp hj
  go_enter Tryz.func75, Tryz.ntmps75
  go_wp2
  refine wp_loop_rounds 1 ?_
  rw [rounds_succ]
  go_wp2
  go_ret
  exact ⟨rfl, rfl⟩

set_option maxHeartbeats 1600000 in
set_option maxRecDepth 100000 in
theorem is_other (a b : Addr) (ca cb : Array Value) (ta tb : TypeId) (w : World) (hne : a ≠ b) (ha : w.heap[a.block]? = some (.cells ca ta (0, 0))) (hb : w.heap[b.block]? = some (.cells cb tb (0, 0))) :
    Calls Tryz.prog 75 #[.iface 228 (.pointer (some a)), .iface 228 (.pointer (some b))] w fun e w' => e = .returned (.bool false) ∧ w' = w := by
  obtain ⟨i, hi, hcmp⟩ := Option.map_eq_some_iff.1 is_comp
  obtain ⟨j, hj, hjs⟩ := Option.map_eq_some_iff.1 is_size
  have tT := is_tof
  have cT := is_cmp
  have mR := is_method
  have nE := no_is
  have uE := no_unwrap
  have vE := no_unwraps
  have heq := run_eql_iface_ptr_other (P := Tryz.prog) w Tryz.underlying61 Tryz.underlying228 hi hcmp hj (by rw [hjs]; decide) hne ha hb
  go_enter Tryz.func75, Tryz.ntmps75
  go_wp2
  refine wp_loop_rounds 1 ?_
  rw [rounds_succ]
  go_wp2
  go_ret
  exact ⟨rfl, rfl⟩

end Go.Proofs.YtamdnnkdnhkghaaGreatDoor
