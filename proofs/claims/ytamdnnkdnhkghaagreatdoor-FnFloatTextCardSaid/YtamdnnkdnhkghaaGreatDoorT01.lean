namespace Go.Proofs.YtamdnnkdnhkghaaGreatDoor

/-- The digits of a number to base 10000, the lowest first, none needless at its end. -/
def dig (n : Nat) : List Int := if h : n = 0 then [] else ((n % 10000 : Nat) : Int) :: dig (n / 10000)
termination_by n
decreasing_by omega

/-- The number of a list of such digits. -/
def nval : List Int → Nat
  | [] => 0
  | d :: r => d.toNat + 10000 * nval r

def OkD (l : List Int) : Prop := ∀ d ∈ l, 0 ≤ d ∧ d < 10000

theorem dig_zero : dig 0 = [] := by rw [dig]; simp

theorem dig_pos {n : Nat} (h : n ≠ 0) : dig n = ((n % 10000 : Nat) : Int) :: dig (n / 10000) := by rw [dig]; simp [h]

theorem dig_ok (n : Nat) : OkD (dig n) := by
  induction n using Nat.strongRecOn with
  | ind n ih =>
    by_cases h : n = 0
    · subst h; rw [dig_zero]; intro d hd; cases hd
    · rw [dig_pos h]
      intro d hd
      rcases List.mem_cons.1 hd with rfl | hd
      · omega
      · exact ih (n / 10000) (by omega) d hd

theorem nval_dig (n : Nat) : nval (dig n) = n := by
  induction n using Nat.strongRecOn with
  | ind n ih =>
    by_cases h : n = 0
    · subst h; rw [dig_zero]; rfl
    · rw [dig_pos h]
      simp only [nval]
      rw [ih (n / 10000) (by omega)]
      omega

theorem nval_append (a b : List Int) : nval (a ++ b) = nval a + 10000 ^ a.length * nval b := by
  induction a with
  | nil => simp [nval]
  | cons d r ih => simp only [List.cons_append, nval, ih, List.length_cons, Nat.pow_succ]; grind

theorem nval_lt {l : List Int} (h : OkD l) : nval l < 10000 ^ l.length := by
  induction l with
  | nil => simp [nval]
  | cons d r ih =>
    have h1 := h d (by simp)
    have h2 := ih (fun x hx => h x (by simp [hx]))
    simp only [nval, List.length_cons, Nat.pow_succ]
    omega

/-- A list of digits without a needless one at its end is the digits of its number. -/
theorem dig_nval {l : List Int} (h : OkD l) (ht : l = [] ∨ l.getLastD 1 ≠ 0) : dig (nval l) = l := by
  induction l with
  | nil => simp [nval, dig_zero]
  | cons d r ih =>
    have h1 := h d (by simp)
    have h2 : OkD r := fun x hx => h x (by simp [hx])
    have ht' : r = [] ∨ r.getLastD 1 ≠ 0 := by
      cases r with
      | nil => left; rfl
      | cons e s => right; rcases ht with ht | ht <;> simp_all
    have ih' := ih h2 ht'
    have hne : nval (d :: r) ≠ 0 := by
      simp only [nval]
      cases r with
      | nil => rcases ht with ht | ht <;> simp_all [nval]; omega
      | cons e s =>
        intro hz
        have : nval (e :: s) = 0 := by omega
        rw [this, dig_zero] at ih'
        cases ih'
    rw [dig_pos hne]
    simp only [nval]
    have e1 : (d.toNat + 10000 * nval r) / 10000 = nval r := by omega
    have e2 : (d.toNat + 10000 * nval r) % 10000 = d.toNat := by omega
    rw [e1, e2, ih']
    congr 1
    omega

theorem dig_length_le {n k : Nat} (h : n < 10000 ^ k) : (dig n).length ≤ k := by
  induction k generalizing n with
  | zero => have : n = 0 := by simpa using h
            subst this; rw [dig_zero]; simp
  | succ k ih =>
    by_cases hn : n = 0
    · subst hn; rw [dig_zero]; simp
    · rw [dig_pos hn, List.length_cons]
      have : n / 10000 < 10000 ^ k := by rw [Nat.pow_succ] at h; omega
      have := ih this
      omega

theorem dig_lt (n : Nat) : n < 10000 ^ (dig n).length := by
  have := nval_lt (dig_ok n); rwa [nval_dig] at this

theorem dig_getD (n j : Nat) : (dig n).getD j 0 = ((n / 10000 ^ j % 10000 : Nat) : Int) := by
  induction j generalizing n with
  | zero =>
    by_cases h : n = 0
    · subst h; rw [dig_zero]; simp
    · rw [dig_pos h]; simp
  | succ j ih =>
    by_cases h : n = 0
    · subst h; rw [dig_zero]; simp
    · rw [dig_pos h, List.getD_cons_succ, ih, Nat.div_div_eq_div_mul, Nat.pow_succ, Nat.mul_comm]

theorem dig_length_mono {a b : Nat} (h : a ≤ b) : (dig a).length ≤ (dig b).length :=
  dig_length_le (Nat.lt_of_le_of_lt h (dig_lt b))

theorem lt_of_dig_length {a b : Nat} (h : (dig a).length < (dig b).length) : a < b := by
  rcases Nat.lt_or_ge a b with h1 | h1
  · exact h1
  · have := dig_length_mono h1; omega

theorem getD_lt {α : Type} {l : List α} {j : Nat} {d : α} (h : j < l.length) : l.getD j d = l[j] := by
  rw [List.getD_eq_getElem?_getD, List.getElem?_eq_getElem h]; rfl

theorem nval_zeros {l : List Int} (h : ∀ d ∈ l, d = 0) : nval l = 0 := by
  induction l with
  | nil => rfl
  | cons d r ih =>
    simp only [nval]
    rw [ih (fun x hx => h x (by simp [hx])), h d (by simp)]; rfl

/-- What 'l01Trim' leaves of a list is the digits of the list's number. -/
theorem take_trim {l : List Int} {k : Nat} (h : OkD l) (hk : k ≤ l.length) (hz : ∀ j, k ≤ j → j < l.length → l.getD j 0 = 0) (ht : k = 0 ∨ l.getD (k - 1) 0 ≠ 0) :
    l.take k = dig (nval l) := by
  have hd : nval (l.drop k) = 0 := by
    refine nval_zeros fun d hd => ?_
    obtain ⟨i, hi, rfl⟩ := List.getElem_of_mem hd
    have hi' : k + i < l.length := by rw [List.length_drop] at hi; omega
    rw [List.getElem_drop]
    have := hz (k + i) (by omega) hi'
    rwa [getD_lt hi'] at this
  have hv : nval l = nval (l.take k) := by
    conv => lhs; rw [← List.take_append_drop k l]
    rw [nval_append, hd]; omega
  rw [hv]
  refine (dig_nval (fun d hd => h d (List.mem_of_mem_take hd)) ?_).symm
  rcases ht with ht | ht
  · left; subst ht; simp
  · by_cases hk0 : k = 0
    · left; subst hk0; simp
    · right
      have hlt : k - 1 < l.length := by omega
      have hne : l.take k ≠ [] := by
        intro e
        rw [List.take_eq_nil_iff] at e
        rcases e with e | e
        · omega
        · subst e; simp at hlt
      rw [List.getLastD_eq_getLast?, List.getLast?_eq_some_getLast hne, Option.getD_some, List.getLast_eq_getElem]
      rw [getD_lt hlt] at ht
      have hmin : min k l.length = k := by omega
      simpa [hmin] using ht

end Go.Proofs.YtamdnnkdnhkghaaGreatDoor

namespace Go.Proofs.YtamdnnkdnhkghaaGreatDoor

theorem okD_snoc {l : List Int} {d : Int} (h : OkD l) (h0 : 0 ≤ d) (h1 : d < 10000) : OkD (l ++ [d]) := by
  intro x hx
  rcases List.mem_append.1 hx with hx | hx
  · exact h x hx
  · simp at hx; subst hx; exact ⟨h0, h1⟩

theorem mod_pow_succ (n k : Nat) : n % 10000 ^ (k + 1) = n % 10000 ^ k + 10000 ^ k * (n / 10000 ^ k % 10000) := by
  rw [Nat.pow_succ, Nat.mod_mul]

/-- A round of 'l01Times': a digit more. -/
theorem times_step {n m c0 k : Nat} {L : List Int} {c d : Nat} (hL : L.length = k) (hd : n / 10000 ^ k % 10000 = d)
    (h : nval L + 10000 ^ k * c = n % 10000 ^ k * m + c0) :
    nval (L ++ [(((c + d * m) % 10000 : Nat) : Int)]) + 10000 ^ (k + 1) * ((c + d * m) / 10000) = n % 10000 ^ (k + 1) * m + c0 := by
  rw [nval_append, hL, mod_pow_succ, hd]
  simp only [nval, Nat.pow_succ, Int.toNat_natCast]
  have e := Nat.mod_add_div (c + d * m) 10000
  generalize (c + d * m) % 10000 = r at *
  generalize (c + d * m) / 10000 = q at *
  generalize n % 10000 ^ k = x at *
  generalize 10000 ^ k = p at *
  grind

/-- A round of the second loop: a digit of what is carried. -/
theorem carry_step {N k : Nat} {L : List Int} {c : Nat} (hL : L.length = k) (h : nval L + 10000 ^ k * c = N) :
    nval (L ++ [((c % 10000 : Nat) : Int)]) + 10000 ^ (k + 1) * (c / 10000) = N := by
  rw [nval_append, hL]
  simp only [nval, Nat.pow_succ, Int.toNat_natCast]
  have e := Nat.mod_add_div c 10000
  generalize c % 10000 = r at *
  generalize c / 10000 = q at *
  generalize 10000 ^ k = p at *
  grind

theorem mod_all (n : Nat) : n % 10000 ^ (dig n).length = n := Nat.mod_eq_of_lt (dig_lt n)

end Go.Proofs.YtamdnnkdnhkghaaGreatDoor

namespace Go.Proofs.YtamdnnkdnhkghaaGreatDoor

/-- The first 'len' digits of x. -/
def digs (x len : Nat) : List Int := (List.range len).map fun i => ((x / 10000 ^ i % 10000 : Nat) : Int)

theorem digs_length (x len : Nat) : (digs x len).length = len := by simp [digs]

theorem digs_ok (x len : Nat) : OkD (digs x len) := by
  intro d hd
  simp only [digs, List.mem_map] at hd
  obtain ⟨i, _, rfl⟩ := hd
  omega

theorem nval_digs (x len : Nat) : nval (digs x len) = x % 10000 ^ len := by
  induction len with
  | zero => simp [digs, nval, Nat.mod_one]
  | succ k ih =>
    have e : digs x (k + 1) = digs x k ++ [((x / 10000 ^ k % 10000 : Nat) : Int)] := by simp [digs, List.range_succ]
    rw [e, nval_append, ih, digs_length, mod_pow_succ]
    simp only [nval, Int.toNat_natCast, Nat.mul_zero, Nat.add_zero]

/-- 'l01Half' under way: the digits from j on are done. -/
def halfTo (n len j : Nat) : List Int := (List.range len).map fun i => if i < j then (0 : Int) else ((n / 2 / 10000 ^ i % 10000 : Nat) : Int)

theorem halfTo_length (n len j : Nat) : (halfTo n len j).length = len := by simp [halfTo]

theorem halfTo_start (n len : Nat) : halfTo n len len = List.replicate len 0 := by
  apply List.ext_getElem
  · simp [halfTo]
  · intro i h1 h2
    simp [halfTo] at h1 ⊢
    omega

theorem halfTo_step (n len j : Nat) : (halfTo n len (j + 1)).set j ((n / 2 / 10000 ^ j % 10000 : Nat) : Int) = halfTo n len j := by
  apply List.ext_getElem
  · simp [halfTo]
  · intro i h1 h2
    simp only [halfTo, List.getElem_set, List.getElem_map, List.getElem_range]
    by_cases e : j = i
    · subst e; simp
    · rw [if_neg e]
      by_cases e2 : i < j
      · rw [if_pos (by omega), if_pos e2]
      · rw [if_neg (by omega), if_neg e2]

theorem halfTo_end (n len : Nat) : halfTo n len 0 = digs (n / 2) len := by simp [halfTo, digs]

theorem half_digit (n j : Nat) : (n / 10000 ^ (j + 1) % 2 * 10000 + n / 10000 ^ j % 10000) / 2 = n / 2 / 10000 ^ j % 10000 := by
  have e1 : n / 10000 ^ (j + 1) = n / 10000 ^ j / 10000 := by rw [Nat.pow_succ, Nat.div_div_eq_div_mul]
  have e2 : n / 2 / 10000 ^ j = n / 10000 ^ j / 2 := by rw [Nat.div_div_eq_div_mul, Nat.div_div_eq_div_mul, Nat.mul_comm]
  rw [e1, e2]; omega

theorem half_carry (n j : Nat) : (n / 10000 ^ (j + 1) % 2 * 10000 + n / 10000 ^ j % 10000) % 2 = n / 10000 ^ j % 2 := by omega

/-- Comparing digits from the top. -/
theorem cmp_lt {a b j : Nat} (h : a / 10000 ^ (j + 1) = b / 10000 ^ (j + 1)) (hd : a / 10000 ^ j % 10000 < b / 10000 ^ j % 10000) : a < b := by
  have e1 : ∀ x : Nat, x / 10000 ^ (j + 1) = x / 10000 ^ j / 10000 := fun x => by rw [Nat.pow_succ, Nat.div_div_eq_div_mul]
  rw [e1, e1] at h
  have : a / 10000 ^ j < b / 10000 ^ j := by omega
  exact Nat.lt_of_not_le fun hh => by have := Nat.div_le_div_right (c := 10000 ^ j) hh; omega

theorem cmp_eq {a b j : Nat} (h : a / 10000 ^ (j + 1) = b / 10000 ^ (j + 1)) (hd : a / 10000 ^ j % 10000 = b / 10000 ^ j % 10000) : a / 10000 ^ j = b / 10000 ^ j := by
  have e1 : ∀ x : Nat, x / 10000 ^ (j + 1) = x / 10000 ^ j / 10000 := fun x => by rw [Nat.pow_succ, Nat.div_div_eq_div_mul]
  rw [e1, e1] at h
  omega

def cmpI (a b : Nat) : Int := if a < b then -1 else if b < a then 1 else 0

theorem div_of_dig (n : Nat) : n / 10000 ^ (dig n).length = 0 := Nat.div_eq_of_lt (dig_lt n)

/-- A round of 'l01Minus': bo what is borrowed. -/
theorem minus_step {a b k bo x y d bo' : Nat} {L : List Int} (hL : L.length = k) (hx : a / 10000 ^ k % 10000 = x) (hy : b / 10000 ^ k % 10000 = y)
    (h : nval L + b % 10000 ^ k = a % 10000 ^ k + 10000 ^ k * bo) (hd : d + y + bo = x + 10000 * bo') :
    nval (L ++ [(d : Int)]) + b % 10000 ^ (k + 1) = a % 10000 ^ (k + 1) + 10000 ^ (k + 1) * bo' := by
  rw [nval_append, hL, mod_pow_succ, mod_pow_succ, hx, hy]
  simp only [nval, Nat.pow_succ, Int.toNat_natCast]
  generalize a % 10000 ^ k = p at *
  generalize b % 10000 ^ k = q at *
  generalize 10000 ^ k = t at *
  grind

end Go.Proofs.YtamdnnkdnhkghaaGreatDoor

namespace Go.Proofs.YtamdnnkdnhkghaaGreatDoor

/-- N / D rounded to the nearest whole number, between two to the even one. -/
def rq (N D : Nat) : Nat := N / D + (if D < 2 * (N % D) ∨ (2 * (N % D) = D ∧ N / D % 2 = 1) then 1 else 0)

def infW : Nat := 9218868437227405312

/-- W is the word of the float nearest to N / d * 2^-1074. -/
def IsRnd (N d W : Nat) : Prop := ∃ k, N < d * 2 ^ (53 + k) ∧ (k = 0 ∨ d * 2 ^ (52 + k) ≤ N) ∧ W = min (k * 4503599627370496 + rq N (d * 2 ^ k)) infW

theorem rq_scale {N D c : Nat} (hc : 0 < c) : rq (N * c) (D * c) = rq N D := by
  unfold rq
  rw [Nat.mul_div_mul_right _ _ hc, Nat.mul_mod_mul_right]
  congr 1
  have e1 : (D * c < 2 * (N % D * c)) ↔ (D < 2 * (N % D)) := by
    rw [← Nat.mul_assoc]
    exact Nat.mul_lt_mul_right hc
  have e2 : (2 * (N % D * c) = D * c) ↔ (2 * (N % D) = D) := by
    rw [← Nat.mul_assoc]
    exact ⟨fun h => Nat.eq_of_mul_eq_mul_right hc h, fun h => by rw [h]⟩
  simp only [e1, e2]

theorem IsRnd.scale {N d W c : Nat} (hc : 0 < c) : IsRnd (N * c) (d * c) W ↔ IsRnd N d W := by
  unfold IsRnd
  have e : ∀ k, (N * c < d * c * 2 ^ (53 + k) ∧ (k = 0 ∨ d * c * 2 ^ (52 + k) ≤ N * c) ∧ W = min (k * 4503599627370496 + rq (N * c) (d * c * 2 ^ k)) infW) ↔
      (N < d * 2 ^ (53 + k) ∧ (k = 0 ∨ d * 2 ^ (52 + k) ≤ N) ∧ W = min (k * 4503599627370496 + rq N (d * 2 ^ k)) infW) := by
    intro k
    have r1 : d * c * 2 ^ (53 + k) = d * 2 ^ (53 + k) * c := by rw [Nat.mul_right_comm]
    have r2 : d * c * 2 ^ (52 + k) = d * 2 ^ (52 + k) * c := by rw [Nat.mul_right_comm]
    have r3 : d * c * 2 ^ k = d * 2 ^ k * c := by rw [Nat.mul_right_comm]
    rw [r1, r2, r3, rq_scale hc]
    rw [Nat.mul_lt_mul_right hc, Nat.mul_le_mul_right_iff hc]
  exact ⟨fun ⟨k, h⟩ => ⟨k, (e k).1 h⟩, fun ⟨k, h⟩ => ⟨k, (e k).2 h⟩⟩

theorem IsRnd.unique {N d W W' : Nat} (h : IsRnd N d W) (h' : IsRnd N d W') : W = W' := by
  obtain ⟨k, h1, h2, h3⟩ := h
  obtain ⟨k', h1', h2', h3'⟩ := h'
  have key : ∀ a b : Nat, N < d * 2 ^ (53 + a) → (b = 0 ∨ d * 2 ^ (52 + b) ≤ N) → b ≤ a := by
    intro a b ha hb
    rcases hb with hb | hb
    · omega
    · refine Nat.le_of_not_lt fun hlt => ?_
      have : d * 2 ^ (53 + a) ≤ d * 2 ^ (52 + b) := Nat.mul_le_mul_left _ (Nat.pow_le_pow_right (by omega) (by omega))
      omega
  have e1 := key k k' h1 h2'
  have e2 := key k' k h1' h2
  have : k = k' := by omega
  subst this
  rw [h3, h3']

/-- What 'l01Word' comes to: n * 2^j over d * 2^i, the place of the last bit e. -/
theorem isRnd_of {n d i j A B k : Nat} (hA : k + j + B = A + i) (hlt : n * 2 ^ j < d * 2 ^ i * 2 ^ 53) (hge : k = 0 ∨ d * 2 ^ i * 2 ^ 52 ≤ n * 2 ^ j) :
    IsRnd (n * 2 ^ A) (d * 2 ^ B) (min (k * 4503599627370496 + rq (n * 2 ^ j) (d * 2 ^ i)) infW) := by
  have p : ∀ x : Nat, 0 < 2 ^ x := fun x => Nat.pow_pos (by omega)
  refine ⟨k, ?_, ?_, ?_⟩
  · have h := Nat.mul_lt_mul_of_pos_right hlt (p A)
    have e1 : d * 2 ^ i * 2 ^ 53 * 2 ^ A = d * 2 ^ B * 2 ^ (53 + k) * 2 ^ j := by
      rw [Nat.mul_assoc, Nat.mul_assoc, ← Nat.pow_add, ← Nat.pow_add, Nat.mul_assoc, Nat.mul_assoc, ← Nat.pow_add, ← Nat.pow_add]
      congr 2; omega
    have e2 : n * 2 ^ j * 2 ^ A = n * 2 ^ A * 2 ^ j := by rw [Nat.mul_right_comm]
    rw [e1, e2] at h
    exact Nat.lt_of_mul_lt_mul_right h
  · rcases hge with hge | hge
    · left; exact hge
    · right
      have h := Nat.mul_le_mul_right (2 ^ A) hge
      have e1 : d * 2 ^ i * 2 ^ 52 * 2 ^ A = d * 2 ^ B * 2 ^ (52 + k) * 2 ^ j := by
        rw [Nat.mul_assoc, Nat.mul_assoc, ← Nat.pow_add, ← Nat.pow_add, Nat.mul_assoc, Nat.mul_assoc, ← Nat.pow_add, ← Nat.pow_add]
        congr 2; omega
      have e2 : n * 2 ^ j * 2 ^ A = n * 2 ^ A * 2 ^ j := by rw [Nat.mul_right_comm]
      rw [e1, e2] at h
      exact Nat.le_of_mul_le_mul_right h (p j)
  · have e : rq (n * 2 ^ j) (d * 2 ^ i) = rq (n * 2 ^ A) (d * 2 ^ B * 2 ^ k) := by
      rw [← rq_scale (N := n * 2 ^ j) (p A), ← rq_scale (N := n * 2 ^ A) (p j)]
      congr 1
      · rw [Nat.mul_right_comm]
      · rw [Nat.mul_assoc, ← Nat.pow_add, Nat.mul_assoc, Nat.mul_assoc, ← Nat.pow_add, ← Nat.pow_add]
        congr 2; omega
    rw [e]

/-- The bits of the quotient, from bit b on. -/
theorem word_bit {d n n2 q b : Nat} (h1 : n2 = q * d + n) (h2 : n < d * 2 ^ (b + 1)) (h3 : q + 2 ^ (b + 1) ≤ 9007199254740992) :
    (d * 2 ^ b ≤ n → n2 = (q + 2 ^ b) * d + (n - d * 2 ^ b) ∧ n - d * 2 ^ b < d * 2 ^ b ∧ q + 2 ^ b + 2 ^ b ≤ 9007199254740992) ∧
    (¬ d * 2 ^ b ≤ n → n < d * 2 ^ b ∧ q + 2 ^ b ≤ 9007199254740992) := by
  have e : d * 2 ^ (b + 1) = 2 * (d * 2 ^ b) := by rw [Nat.pow_succ]; grind
  have e3 : 2 ^ (b + 1) = 2 ^ b + 2 ^ b := by rw [Nat.pow_succ]; omega
  rw [e] at h2
  rw [e3] at h3
  generalize 2 ^ b = p at *
  refine ⟨fun h => ⟨?_, by omega, by omega⟩, fun h => ⟨by omega, by omega⟩⟩
  have : (q + p) * d = q * d + d * p := by grind
  omega

theorem quot_rest {d n n2 q : Nat} (h1 : n2 = q * d + n) (h2 : n < d) : n2 / d = q ∧ n2 % d = n := by
  subst h1
  have hd : 0 < d := by omega
  constructor
  · rw [Nat.mul_comm, Nat.mul_add_div hd, Nat.div_eq_of_lt h2]; omega
  · rw [Nat.mul_comm, Nat.mul_add_mod, Nat.mod_eq_of_lt h2]

/-- q' is z rounded up or not, by the comparison c of twice the rest. -/
def Up (c z q' : Int) : Prop := (q' = z + 1 ∧ (0 < c ∨ (c = 0 ∧ z % 2 = 1))) ∨ (q' = z ∧ (c < 0 ∨ (c = 0 ∧ z % 2 ≠ 1)))

theorem up1 {c z : Int} (h : 0 < c) : Up c z (z + 1) := .inl ⟨rfl, .inl h⟩

theorem up2 {c z : Int} (h : c = 0) (h2 : (z % 2 == 1) = true) : Up c z (z + 1) := .inl ⟨rfl, .inr ⟨h, eq_of_beq h2⟩⟩

theorem up3 {c z : Int} (h : c = 0) (h2 : (z % 2 == 1) = false) : Up c z z := .inr ⟨rfl, .inr ⟨h, ne_of_beq_false h2⟩⟩

theorem up4 {c z : Int} (h : ¬ c = 0) (h2 : c ≤ 0) : Up c z z := .inr ⟨rfl, .inl (by omega)⟩

/-- What all ends of 'l01Word' know. -/
structure WEnd (E z c : Int) (q D M2 : Nat) : Prop where
  he : -1074 ≤ E
  hk : E = -1074 ∨ 4503599627370496 ≤ q
  hqz : (q : Int) = z
  hz : z ≤ 9007199254740991
  hc : (D < M2 ∧ c = 1) ∨ (M2 = D ∧ c = 0) ∨ (M2 < D ∧ c = -1)

theorem up_if {E z c q' : Int} {q D M2 : Nat} (h : WEnd E z c q D M2) (hu : Up c z q') : ((q + if D < M2 ∨ (M2 = D ∧ q % 2 = 1) then 1 else 0 : Nat) : Int) = q' := by
  obtain ⟨he, hk, hqz, hz, hc⟩ := h
  unfold Up at hu
  split
  · rename_i h1; omega
  · rename_i h1; omega

theorem wend_A {E z c q' : Int} {q D M2 : Nat} (h : WEnd E z c q D M2) (hu : Up c z q') (h1 : (q' == 9007199254740992) = true) (h2 : 971 < E + 1) :
    9218868437227405312 = ((min ((E + 1074).toNat * 4503599627370496 + (q + if D < M2 ∨ (M2 = D ∧ q % 2 = 1) then 1 else 0)) infW : Nat) : Int) := by
  have e := up_if h hu
  have := eq_of_beq h1
  generalize (q + if D < M2 ∨ (M2 = D ∧ q % 2 = 1) then 1 else 0) = x at *
  have := h.he
  clear h hu h1
  unfold infW; omega

theorem wend_B {E z c q' : Int} {q D M2 : Nat} (h : WEnd E z c q D M2) (hu : Up c z q') (h1 : (q' == 9007199254740992) = true) (h2 : E + 1 ≤ 971) :
    (E + 1 + 1075) * 4503599627370496 = ((min ((E + 1074).toNat * 4503599627370496 + (q + if D < M2 ∨ (M2 = D ∧ q % 2 = 1) then 1 else 0)) infW : Nat) : Int) := by
  have e := up_if h hu
  have := eq_of_beq h1
  generalize (q + if D < M2 ∨ (M2 = D ∧ q % 2 = 1) then 1 else 0) = x at *
  have := h.he
  clear h hu h1
  unfold infW; omega

theorem wend_C {E z c q' : Int} {q D M2 : Nat} (h : WEnd E z c q D M2) (hu : Up c z q') (h2 : 971 < E) :
    9218868437227405312 = ((min ((E + 1074).toNat * 4503599627370496 + (q + if D < M2 ∨ (M2 = D ∧ q % 2 = 1) then 1 else 0)) infW : Nat) : Int) := by
  have e := up_if h hu
  have hx : q ≤ (q + if D < M2 ∨ (M2 = D ∧ q % 2 = 1) then 1 else 0) := by omega
  generalize (q + if D < M2 ∨ (M2 = D ∧ q % 2 = 1) then 1 else 0) = x at *
  have := h.he
  have := h.hk
  clear h hu
  unfold infW; omega

theorem wend_D {E z c q' : Int} {q D M2 : Nat} (h : WEnd E z c q D M2) (hu : Up c z q') (h2 : q' < 4503599627370496) :
    q' = ((min ((E + 1074).toNat * 4503599627370496 + (q + if D < M2 ∨ (M2 = D ∧ q % 2 = 1) then 1 else 0)) infW : Nat) : Int) := by
  have e := up_if h hu
  have hx : q ≤ (q + if D < M2 ∨ (M2 = D ∧ q % 2 = 1) then 1 else 0) := by omega
  generalize (q + if D < M2 ∨ (M2 = D ∧ q % 2 = 1) then 1 else 0) = x at *
  have := h.he
  have := h.hk
  clear h hu
  unfold infW; omega

theorem wend_F {E z c q' : Int} {q D M2 : Nat} (h : WEnd E z c q D M2) (hu : Up c z q') (h1 : E ≤ 971) (h2 : (q' == 9007199254740992) = false) :
    (E + 1075) * 4503599627370496 + q' - 4503599627370496 = ((min ((E + 1074).toNat * 4503599627370496 + (q + if D < M2 ∨ (M2 = D ∧ q % 2 = 1) then 1 else 0)) infW : Nat) : Int) := by
  have e := up_if h hu
  have hx : (q + if D < M2 ∨ (M2 = D ∧ q % 2 = 1) then 1 else 0) ≤ q + 1 := by split <;> omega
  generalize (q + if D < M2 ∨ (M2 = D ∧ q % 2 = 1) then 1 else 0) = x at *
  have := h.he
  have := h.hz
  have := h.hqz
  have := ne_of_beq_false h2
  clear h hu h2
  unfold infW; omega

end Go.Proofs.YtamdnnkdnhkghaaGreatDoor

namespace Go.Proofs.YtamdnnkdnhkghaaGreatDoor

theorem exists_rnd (N : Nat) {d : Nat} (hd : 0 < d) : ∃ W, IsRnd N d W := by
  have key : ∀ m, (∃ k, k ≤ m ∧ N < d * 2 ^ (53 + k)) → ∃ k, N < d * 2 ^ (53 + k) ∧ (k = 0 ∨ d * 2 ^ (52 + k) ≤ N) := by
    intro m
    induction m with
    | zero => rintro ⟨k, hk, h⟩; exact ⟨k, h, .inl (by omega)⟩
    | succ m ih =>
      rintro ⟨k, hk, h⟩
      by_cases h0 : k = 0
      · exact ⟨k, h, .inl h0⟩
      · by_cases hle : d * 2 ^ (52 + k) ≤ N
        · exact ⟨k, h, .inr hle⟩
        · refine ih ⟨k - 1, by omega, ?_⟩
          have : 53 + (k - 1) = 52 + k := by omega
          rw [this]; omega
  obtain ⟨k, h1, h2⟩ := key N ⟨N, Nat.le_refl _, by
    have h1 : N < 2 ^ N := Nat.lt_two_pow_self
    have h2 : 2 ^ N ≤ 2 ^ (53 + N) := Nat.pow_le_pow_right (by omega) (by omega)
    have h3 : 1 * 2 ^ (53 + N) ≤ d * 2 ^ (53 + N) := Nat.mul_le_mul_right _ hd
    omega⟩
  exact ⟨_, k, h1, h2, rfl⟩

theorem rq_ge (N D : Nat) : N / D ≤ rq N D := by unfold rq; omega

theorem rnd_small {N d : Nat} (h : 2 * N < d) : IsRnd N d 0 := by
  refine ⟨0, ?_, .inl rfl, ?_⟩
  · have : d * 1 ≤ d * 2 ^ (53 + 0) := Nat.mul_le_mul_left _ (Nat.one_le_two_pow)
    omega
  · have e1 : d * 2 ^ 0 = d := by simp
    rw [e1]
    unfold rq
    rw [Nat.div_eq_of_lt (by omega), Nat.mod_eq_of_lt (by omega), if_neg (by omega)]
    simp

theorem rnd_great {N d W a : Nat} (hd : 0 < d) (ha : 2098 ≤ a) (h : d * 2 ^ a ≤ N) (hw : IsRnd N d W) : W = infW := by
  obtain ⟨k, h1, h2, h3⟩ := hw
  have hk : 2046 ≤ k := by
    refine Nat.le_of_not_lt fun hlt => ?_
    have hka : 53 + k ≤ a := by clear h h1 h2 h3; omega
    have : d * 2 ^ (53 + k) ≤ d * 2 ^ a := Nat.mul_le_mul_left _ (Nat.pow_le_pow_right (Nat.succ_pos 1) hka)
    exact Nat.lt_irrefl _ (Nat.lt_of_lt_of_le h1 (Nat.le_trans this h))
  have h4 : d * 2 ^ (52 + k) ≤ N := by
    rcases h2 with h2 | h2
    · clear h h1 h3; omega
    · exact h2
  clear h h1 h2
  have h5 : 4503599627370496 ≤ N / (d * 2 ^ k) := by
    rw [Nat.le_div_iff_mul_le (Nat.mul_pos hd (Nat.pow_pos (Nat.succ_pos 1)))]
    have e : 4503599627370496 * (d * 2 ^ k) = d * 2 ^ (52 + k) := by
      rw [Nat.pow_add]; exact Nat.mul_left_comm _ _ _
    rw [e]; exact h4
  have h6 := rq_ge N (d * 2 ^ k)
  generalize rq N (d * 2 ^ k) = x at *
  generalize N / (d * 2 ^ k) = y at *
  clear h4 hd
  rw [h3]
  unfold infW
  omega

/-- The number that decimal digits (as bytes) tell. -/
def dval (l : List Int) : Nat := l.foldl (fun a c => a * 10 + (c - 48).toNat) 0

theorem dval_snoc (l : List Int) (c : Int) : dval (l ++ [c]) = dval l * 10 + (c - 48).toNat := by simp [dval, List.foldl_append]

/-- How many digits a number has, none for nought. -/
def size10 (n : Nat) : Nat := if h : n = 0 then 0 else size10 (n / 10) + 1
termination_by n
decreasing_by omega

theorem size10_zero : size10 0 = 0 := by rw [size10]; simp

theorem size10_pos {n : Nat} (h : n ≠ 0) : size10 n = size10 (n / 10) + 1 := by rw [size10]; simp [h]

theorem size10_step (n c : Nat) (hc : c < 10) : size10 (n * 10 + c) = if n * 10 + c = 0 then 0 else size10 n + 1 := by
  by_cases h : n * 10 + c = 0
  · rw [h, size10_zero]; simp
  · rw [size10_pos h, if_neg h]
    have : (n * 10 + c) / 10 = n := by omega
    rw [this]

theorem size10_lt (n : Nat) : n < 10 ^ size10 n := by
  induction n using Nat.strongRecOn with
  | ind n ih =>
    by_cases h : n = 0
    · subst h; rw [size10_zero]; simp
    · rw [size10_pos h, Nat.pow_succ]
      have := ih (n / 10) (by omega)
      omega

theorem size10_ge {n : Nat} (h : n ≠ 0) : 10 ^ (size10 n - 1) ≤ n := by
  induction n using Nat.strongRecOn with
  | ind n ih =>
    rw [size10_pos h]
    by_cases h2 : n / 10 = 0
    · rw [h2, size10_zero]; simp; omega
    · have := ih (n / 10) (by omega) h2
      have hp : size10 (n / 10) ≠ 0 := by rw [size10_pos h2]; omega
      obtain ⟨m, hm⟩ := Nat.exists_eq_succ_of_ne_zero hp
      rw [hm] at this ⊢
      simp only [Nat.succ_eq_add_one, Nat.add_sub_cancel, Nat.pow_succ] at this ⊢
      omega

theorem size10_le_length (l : List Int) (h : ∀ c ∈ l, 48 ≤ c ∧ c ≤ 57) : size10 (dval l) ≤ l.length := by
  have key : ∀ (l : List Int) (a : Nat), (∀ c ∈ l, 48 ≤ c ∧ c ≤ 57) → size10 (l.foldl (fun a c => a * 10 + (c - 48).toNat) a) ≤ size10 a + l.length := by
    intro l
    induction l with
    | nil => intro a _; simp
    | cons c r ih =>
      intro a hc
      have h1 := hc c (by simp)
      have h2 := ih (a * 10 + (c - 48).toNat) (fun x hx => hc x (by simp [hx]))
      have h3 := size10_step a (c - 48).toNat (by omega)
      simp only [List.foldl_cons, List.length_cons]
      split at h3 <;> omega
  have := key l 0 h
  rw [size10_zero] at this
  unfold dval
  omega

theorem rnd_under' {N a b : Nat} {E : Int} (h3 : 2 * 2 ^ b < 10 ^ a) (h : (size10 N : Int) + E < -(a : Int)) : IsRnd (N * 10 ^ E.toNat * 2 ^ b) (10 ^ (-E).toNat) 0 := by
  refine rnd_small ?_
  have hE : E.toNat = 0 := by omega
  rw [hE, Nat.pow_zero, Nat.mul_one]
  have h1 := size10_lt N
  have h2 : 10 ^ size10 N * 10 ^ a ≤ 10 ^ (-E).toNat := by
    rw [← Nat.pow_add]; exact Nat.pow_le_pow_right (by omega) (by omega)
  refine Nat.lt_of_lt_of_le ?_ h2
  have e : 2 * (N * 2 ^ b) = N * (2 * 2 ^ b) := Nat.mul_left_comm _ _ _
  rw [e]
  exact Nat.lt_of_le_of_lt (Nat.mul_le_mul_right _ (Nat.le_of_lt h1)) (Nat.mul_lt_mul_of_pos_left h3 (Nat.pow_pos (by omega)))

theorem pow_fact1 : 2 * 2 ^ 1074 < 10 ^ 330 := by decide +kernel

/-- Below 10^-330 a number rounds to nought. -/
theorem rnd_under {N : Nat} {E : Int} (h : (size10 N : Int) + E < -330) : IsRnd (N * 10 ^ E.toNat * 2 ^ 1074) (10 ^ (-E).toNat) 0 :=
  rnd_under' (a := 330) (b := 1074) pow_fact1 (by omega)

theorem rnd_over' {N W a b c : Nat} {E : Int} (hc : 2098 ≤ c) (h3 : 2 ^ c ≤ 10 ^ a * 2 ^ b) (hN : N ≠ 0) (h : (a : Int) < (size10 N : Int) + E) (hw : IsRnd (N * 10 ^ E.toNat * 2 ^ b) (10 ^ (-E).toNat) W) : W = infW := by
  refine rnd_great (Nat.pow_pos (by omega)) hc ?_ hw
  have h1 := size10_ge hN
  have h4 : 10 ^ (-E).toNat * 10 ^ a ≤ 10 ^ (size10 N - 1) * 10 ^ E.toNat := by
    rw [← Nat.pow_add, ← Nat.pow_add]; exact Nat.pow_le_pow_right (by omega) (by omega)
  refine Nat.le_trans (Nat.mul_le_mul_left _ h3) ?_
  rw [← Nat.mul_assoc]
  exact Nat.le_trans (Nat.mul_le_mul_right _ h4) (Nat.mul_le_mul_right _ (Nat.mul_le_mul_right _ h1))

theorem pow_fact2 : 2 ^ 2098 ≤ 10 ^ 310 * 2 ^ 1074 := by decide +kernel

/-- From 10^310 on a number rounds to what is too great. -/
theorem rnd_over {N W : Nat} {E : Int} (hN : N ≠ 0) (h : 310 < (size10 N : Int) + E) (hw : IsRnd (N * 10 ^ E.toNat * 2 ^ 1074) (10 ^ (-E).toNat) W) : W = infW :=
  rnd_over' (a := 310) (b := 1074) (c := 2098) (by omega) pow_fact2 hN (by omega) hw

end Go.Proofs.YtamdnnkdnhkghaaGreatDoor
