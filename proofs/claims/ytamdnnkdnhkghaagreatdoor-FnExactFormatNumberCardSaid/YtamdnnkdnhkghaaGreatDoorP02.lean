import Derived.Test.YtamdnnkdnhkghaaGreatDoorP01
namespace Go.Proofs.YtamdnnkdnhkghaaGreatDoor

open Go Go.RowKit

set_option linter.unusedVariables false

theorem dig_mul_10000 {n : Nat} (h : n ≠ 0) : dig (n * 10000) = 0 :: dig n := by
  rw [dig_pos (by omega)]
  have e1 : n * 10000 % 10000 = 0 := by omega
  have e2 : n * 10000 / 10000 = n := by omega
  rw [e1, e2]; rfl

theorem big_cells {w : World} {g : Nat} {l : List Int} (h5 : ∀ j, j < l.length → w.cell? ⟨g, j, none⟩ = some (.int .i64 (l.getD j 0))) (o : Obj) (hg : g < w.heap.size) :
    ∀ j u, (l.map (Value.int .i64))[j]? = some u → (w.alloc o).cell? ((⟨g, 0, none⟩ : Addr).add j) = some u := by
  intro j u hj
  rw [List.getElem?_map] at hj
  cases hx : l[j]? with
  | none => rw [hx] at hj; simp at hj
  | some x =>
    rw [hx] at hj
    simp at hj
    subst hj
    obtain ⟨hlt, hxx⟩ := List.getElem?_eq_some_iff.1 hx
    have := h5 j hlt
    rw [getD_lt hlt, hxx] at this
    rw [← this]
    have hb : Below w.heap.size w (w.alloc o) := (Below.refl _ _).alloc (Nat.le_refl _) o
    rw [← hb.cell (p := ⟨g, j, none⟩) hg]
    simp only [Addr.add]
    by_cases e : j = 0
    · subst e; simp
    · simp [e]

/-- 'append([]int{0}, a...)'. -/
theorem app_zero {wr : World} {ops : Array Oper} {rest : List Oper} {o : Oper} {a : Act} {Q : Exit → Act → World → Prop} (hgd : o.guard = none) (s x : Operand)
    (ho : o.op = .call { callee := .builtin .append, args := #[s, x], argTypes := #[121, 121] }) (v : Value) (L : List Int) (hbig : Big wr v L) (hx : a.eval x = v) (hs : a.eval s = .slice (some ⟨wr.heap.size, 0, none⟩) 1 1)
    (hlen : L.length ≤ 10000000000)
    (h : ∀ v' w', Big w' v' (0 :: L) → Below wr.heap.size wr w' → wpList Tryz.prog ops Q rest (a.put o.dst v') w') :
    wpList Tryz.prog ops Q (o :: rest) a (wr.alloc (.cells #[.int .i64 0] 3)) := by
  obtain ⟨i0, hi, hz0, hz1, hz2⟩ := info_parts Tryz.info3
  obtain ⟨g, cap, rfl, h2, h3, h4, h5⟩ := hbig
  have hown := World.ownsRow_lit (base := wr.heap.size) (e := 3) (size := 1) wr #[.int .i64 0] 1 (Nat.le_refl _) (by simp [maxLen]) rfl
  refine wpList_append_own _ hgd s x 121 ho wr.heap.size 3 i0 (.int .i64 0) 1 8 Tryz.underlying121 hi hz0 hz1 hz2 rfl (by decide) _ 1 _ hs hown ⟨g, 0, none⟩ L.length cap (L.map (Value.int .i64)) hx (by simp) (big_cells h5 _ h4)
    (ints_oneCell _ _) (by unfold maxLen; omega) (by omega) (by simp) ?_
  intro v' w' h1 h2 h3
  refine h v' w' (big_of_owns (B := wr.heap.size) (L := 0 :: L) ?_ (fun hh => by have := (h3.1 hh).1; cases this)) (((Below.refl _ _).alloc (Nat.le_refl _) _).grown h2 (by simp) (fun q hq => by cases hq; exact Nat.le_refl _))
  have e : (0 :: L).length = 1 + L.length := by simp; omega
  rw [e]; simpa using h1

set_option maxHeartbeats 800000 in
set_option maxRecDepth 100000 in
theorem pow10_any (n k : Nat) (v : Value) (w : World) (h : Big w v (dig n)) (hn : n ≠ 0) (hl : (dig n).length + k ≤ 100000) :
    Calls Tryz.prog 167 #[v, .int .i64 k] w fun e w' => ∃ v', e = .returned v' ∧ Big w' v' (dig (n * 10 ^ k)) ∧ Below w.heap.size w w' := by
  have HL := hide (dig_length_ten n)
  have Hn := hide hn
  clear hn
  generalize (dig n).length = len at *
  go_enter Tryz.func167, Tryz.ntmps167
  go_wp2
  go_loopw [0, 1] (fun a i wr => ∃ j r : Nat, j + r ≤ k ∧ k ≤ j + r ∧ i = .int .i64 r ∧ Big wr a (dig (n * 10 ^ j)) ∧ Below w.heap.size w wr) (fun _ i _ => (intOf i).toNat)
  case atStart => exact ⟨0, k, by omega, by omega, rfl, by simpa using h, Below.refl _ _⟩
  case round =>
    obtain ⟨j, r, hj1, hj2, rfl, hbig, hb⟩ := hrel
    have hlj := HL.out j
    by_cases hr : 4 ≤ r
    · go_wp2_with (first
        | (at_builtin; refine app_zero rfl _ _ rfl _ _ hbig rfl rfl (by omega) ?_; intro v' w1 hbig' hb')
        | go_in)
      have Hz := hide (dig_mul_10000 (n := n * 10 ^ j) (by have := Hn.out; exact Nat.mul_ne_zero this (Nat.pos_iff_ne_zero.1 (Nat.pow_pos (by omega)))))
      go_wp2
      go_roundw
      case rel => exact ⟨j + 4, r - 4, by omega, by omega, by go_num, by rw [Nat.pow_add, ← Nat.mul_assoc]; rw [← Hz.out] at hbig'; exact hbig', hb.trans (hb'.mono hb.size)⟩
      case measure => simp [intOf]; omega
    · go_wp2
      go_loopw [0, 1] (fun a i wr => ∃ j r : Nat, j + r ≤ k ∧ k ≤ j + r ∧ i = .int .i64 r ∧ Big wr a (dig (n * 10 ^ j)) ∧ Below w.heap.size w wr) (fun _ i _ => (intOf i).toNat)
      case atStart => exact ⟨j, r, hj1, hj2, rfl, hbig, hb⟩
      case round =>
        clear hbig hb hlj hj1 hj2 hr
        obtain ⟨j, r, hj1, hj2, rfl, hbig, hb⟩ := hrel
        have hlj := HL.out j
        by_cases hr : 0 < r
        · go_wp2_with (go_at_call 158; refine (times_int (n * 10 ^ j) 10 0 _ _ rfl rfl _ _ hbig (by omega) (by omega) (by omega)).mono ?_; rintro e w' ⟨v', rfl, hbig', hb'⟩)
          go_roundw
          case rel => exact ⟨j + 1, r - 1, by omega, by omega, by go_num, by rw [Nat.pow_add, ← Nat.mul_assoc]; simpa using hbig', hb.trans (hb'.mono hb.size)⟩
          case measure => simp [intOf]; omega
        · have hjk : j = k := by omega
          subst hjk
          go_wp2_with (go_at_call 172; refine (trim_any _ _ _ hbig (by omega) (dig_ok _)).mono ?_; rintro e w' ⟨v', rfl, hbig', rfl⟩)
          go_ret
          exact ⟨_, rfl, by rw [nval_dig] at hbig'; exact hbig', hb⟩

end Go.Proofs.YtamdnnkdnhkghaaGreatDoor

namespace Go.Proofs.YtamdnnkdnhkghaaGreatDoor

/-- N / D rounded to the nearest whole number, between two to the even one. -/
def rq (N D : Nat) : Nat := N / D + (if D < 2 * (N % D) ∨ (2 * (N % D) = D ∧ N / D % 2 = 1) then 1 else 0)

def infW : Nat := 9218868437227405312

/-- W is the word of the float nearest to N / d * 2^-1074. -/
def IsRnd (N d W : Nat) : Prop := ∃ k, N < d * 2 ^ (53 + k) ∧ (k = 0 ∨ d * 2 ^ (52 + k) ≤ N) ∧ W = min (k * 4503599627370496 + rq N (d * 2 ^ k)) infW

theorem rq_scale {N D c : Nat} (hc : 0 < c) : rq (N * c) (D * c) = rq N D := by
  unfold rq
  rw [Nat.mul_div_mul_right _ _ hc, Nat.mul_mod_mul_right]
  congr 1
  have e1 : (D * c < 2 * (N % D * c)) ↔ (D < 2 * (N % D)) := by
    rw [← Nat.mul_assoc]
    exact Nat.mul_lt_mul_right hc
  have e2 : (2 * (N % D * c) = D * c) ↔ (2 * (N % D) = D) := by
    rw [← Nat.mul_assoc]
    exact ⟨fun h => Nat.eq_of_mul_eq_mul_right hc h, fun h => by rw [h]⟩
  simp only [e1, e2]

theorem IsRnd.scale {N d W c : Nat} (hc : 0 < c) : IsRnd (N * c) (d * c) W ↔ IsRnd N d W := by
  unfold IsRnd
  have e : ∀ k, (N * c < d * c * 2 ^ (53 + k) ∧ (k = 0 ∨ d * c * 2 ^ (52 + k) ≤ N * c) ∧ W = min (k * 4503599627370496 + rq (N * c) (d * c * 2 ^ k)) infW) ↔
      (N < d * 2 ^ (53 + k) ∧ (k = 0 ∨ d * 2 ^ (52 + k) ≤ N) ∧ W = min (k * 4503599627370496 + rq N (d * 2 ^ k)) infW) := by
    intro k
    have r1 : d * c * 2 ^ (53 + k) = d * 2 ^ (53 + k) * c := by rw [Nat.mul_right_comm]
    have r2 : d * c * 2 ^ (52 + k) = d * 2 ^ (52 + k) * c := by rw [Nat.mul_right_comm]
    have r3 : d * c * 2 ^ k = d * 2 ^ k * c := by rw [Nat.mul_right_comm]
    rw [r1, r2, r3, rq_scale hc]
    rw [Nat.mul_lt_mul_right hc, Nat.mul_le_mul_right_iff hc]
  exact ⟨fun ⟨k, h⟩ => ⟨k, (e k).1 h⟩, fun ⟨k, h⟩ => ⟨k, (e k).2 h⟩⟩

theorem IsRnd.unique {N d W W' : Nat} (h : IsRnd N d W) (h' : IsRnd N d W') : W = W' := by
  obtain ⟨k, h1, h2, h3⟩ := h
  obtain ⟨k', h1', h2', h3'⟩ := h'
  have key : ∀ a b : Nat, N < d * 2 ^ (53 + a) → (b = 0 ∨ d * 2 ^ (52 + b) ≤ N) → b ≤ a := by
    intro a b ha hb
    rcases hb with hb | hb
    · omega
    · refine Nat.le_of_not_lt fun hlt => ?_
      have : d * 2 ^ (53 + a) ≤ d * 2 ^ (52 + b) := Nat.mul_le_mul_left _ (Nat.pow_le_pow_right (by omega) (by omega))
      omega
  have e1 := key k k' h1 h2'
  have e2 := key k' k h1' h2
  have : k = k' := by omega
  subst this
  rw [h3, h3']

/-- What 'l01Word' comes to: n * 2^j over d * 2^i, the place of the last bit e. -/
theorem isRnd_of {n d i j A B k : Nat} (hA : k + j + B = A + i) (hlt : n * 2 ^ j < d * 2 ^ i * 2 ^ 53) (hge : k = 0 ∨ d * 2 ^ i * 2 ^ 52 ≤ n * 2 ^ j) :
    IsRnd (n * 2 ^ A) (d * 2 ^ B) (min (k * 4503599627370496 + rq (n * 2 ^ j) (d * 2 ^ i)) infW) := by
  have p : ∀ x : Nat, 0 < 2 ^ x := fun x => Nat.pow_pos (by omega)
  refine ⟨k, ?_, ?_, ?_⟩
  · have h := Nat.mul_lt_mul_of_pos_right hlt (p A)
    have e1 : d * 2 ^ i * 2 ^ 53 * 2 ^ A = d * 2 ^ B * 2 ^ (53 + k) * 2 ^ j := by
      rw [Nat.mul_assoc, Nat.mul_assoc, ← Nat.pow_add, ← Nat.pow_add, Nat.mul_assoc, Nat.mul_assoc, ← Nat.pow_add, ← Nat.pow_add]
      congr 2; omega
    have e2 : n * 2 ^ j * 2 ^ A = n * 2 ^ A * 2 ^ j := by rw [Nat.mul_right_comm]
    rw [e1, e2] at h
    exact Nat.lt_of_mul_lt_mul_right h
  · rcases hge with hge | hge
    · left; exact hge
    · right
      have h := Nat.mul_le_mul_right (2 ^ A) hge
      have e1 : d * 2 ^ i * 2 ^ 52 * 2 ^ A = d * 2 ^ B * 2 ^ (52 + k) * 2 ^ j := by
        rw [Nat.mul_assoc, Nat.mul_assoc, ← Nat.pow_add, ← Nat.pow_add, Nat.mul_assoc, Nat.mul_assoc, ← Nat.pow_add, ← Nat.pow_add]
        congr 2; omega
      have e2 : n * 2 ^ j * 2 ^ A = n * 2 ^ A * 2 ^ j := by rw [Nat.mul_right_comm]
      rw [e1, e2] at h
      exact Nat.le_of_mul_le_mul_right h (p j)
  · have e : rq (n * 2 ^ j) (d * 2 ^ i) = rq (n * 2 ^ A) (d * 2 ^ B * 2 ^ k) := by
      rw [← rq_scale (N := n * 2 ^ j) (p A), ← rq_scale (N := n * 2 ^ A) (p j)]
      congr 1
      · rw [Nat.mul_right_comm]
      · rw [Nat.mul_assoc, ← Nat.pow_add, Nat.mul_assoc, Nat.mul_assoc, ← Nat.pow_add, ← Nat.pow_add]
        congr 2; omega
    rw [e]

/-- The bits of the quotient, from bit b on. -/
theorem word_bit {d n n2 q b : Nat} (h1 : n2 = q * d + n) (h2 : n < d * 2 ^ (b + 1)) (h3 : q + 2 ^ (b + 1) ≤ 9007199254740992) :
    (d * 2 ^ b ≤ n → n2 = (q + 2 ^ b) * d + (n - d * 2 ^ b) ∧ n - d * 2 ^ b < d * 2 ^ b ∧ q + 2 ^ b + 2 ^ b ≤ 9007199254740992) ∧
    (¬ d * 2 ^ b ≤ n → n < d * 2 ^ b ∧ q + 2 ^ b ≤ 9007199254740992) := by
  have e : d * 2 ^ (b + 1) = 2 * (d * 2 ^ b) := by rw [Nat.pow_succ]; grind
  have e3 : 2 ^ (b + 1) = 2 ^ b + 2 ^ b := by rw [Nat.pow_succ]; omega
  rw [e] at h2
  rw [e3] at h3
  generalize 2 ^ b = p at *
  refine ⟨fun h => ⟨?_, by omega, by omega⟩, fun h => ⟨by omega, by omega⟩⟩
  have : (q + p) * d = q * d + d * p := by grind
  omega

theorem quot_rest {d n n2 q : Nat} (h1 : n2 = q * d + n) (h2 : n < d) : n2 / d = q ∧ n2 % d = n := by
  subst h1
  have hd : 0 < d := by omega
  constructor
  · rw [Nat.mul_comm, Nat.mul_add_div hd, Nat.div_eq_of_lt h2]; omega
  · rw [Nat.mul_comm, Nat.mul_add_mod, Nat.mod_eq_of_lt h2]

/-- q' is z rounded up or not, by the comparison c of twice the rest. -/
def Up (c z q' : Int) : Prop := (q' = z + 1 ∧ (0 < c ∨ (c = 0 ∧ z % 2 = 1))) ∨ (q' = z ∧ (c < 0 ∨ (c = 0 ∧ z % 2 ≠ 1)))

theorem up1 {c z : Int} (h : 0 < c) : Up c z (z + 1) := .inl ⟨rfl, .inl h⟩

theorem up2 {c z : Int} (h : c = 0) (h2 : (z % 2 == 1) = true) : Up c z (z + 1) := .inl ⟨rfl, .inr ⟨h, eq_of_beq h2⟩⟩

theorem up3 {c z : Int} (h : c = 0) (h2 : (z % 2 == 1) = false) : Up c z z := .inr ⟨rfl, .inr ⟨h, ne_of_beq_false h2⟩⟩

theorem up4 {c z : Int} (h : ¬ c = 0) (h2 : c ≤ 0) : Up c z z := .inr ⟨rfl, .inl (by omega)⟩

/-- What all ends of 'l01Word' know. -/
structure WEnd (E z c : Int) (q D M2 : Nat) : Prop where
  he : -1074 ≤ E
  hk : E = -1074 ∨ 4503599627370496 ≤ q
  hqz : (q : Int) = z
  hz : z ≤ 9007199254740991
  hc : (D < M2 ∧ c = 1) ∨ (M2 = D ∧ c = 0) ∨ (M2 < D ∧ c = -1)

theorem up_if {E z c q' : Int} {q D M2 : Nat} (h : WEnd E z c q D M2) (hu : Up c z q') : ((q + if D < M2 ∨ (M2 = D ∧ q % 2 = 1) then 1 else 0 : Nat) : Int) = q' := by
  obtain ⟨he, hk, hqz, hz, hc⟩ := h
  unfold Up at hu
  split
  · rename_i h1; omega
  · rename_i h1; omega

theorem wend_A {E z c q' : Int} {q D M2 : Nat} (h : WEnd E z c q D M2) (hu : Up c z q') (h1 : (q' == 9007199254740992) = true) (h2 : 971 < E + 1) :
    9218868437227405312 = ((min ((E + 1074).toNat * 4503599627370496 + (q + if D < M2 ∨ (M2 = D ∧ q % 2 = 1) then 1 else 0)) infW : Nat) : Int) := by
  have e := up_if h hu
  have := eq_of_beq h1
  generalize (q + if D < M2 ∨ (M2 = D ∧ q % 2 = 1) then 1 else 0) = x at *
  have := h.he
  clear h hu h1
  unfold infW; omega

theorem wend_B {E z c q' : Int} {q D M2 : Nat} (h : WEnd E z c q D M2) (hu : Up c z q') (h1 : (q' == 9007199254740992) = true) (h2 : E + 1 ≤ 971) :
    (E + 1 + 1075) * 4503599627370496 = ((min ((E + 1074).toNat * 4503599627370496 + (q + if D < M2 ∨ (M2 = D ∧ q % 2 = 1) then 1 else 0)) infW : Nat) : Int) := by
  have e := up_if h hu
  have := eq_of_beq h1
  generalize (q + if D < M2 ∨ (M2 = D ∧ q % 2 = 1) then 1 else 0) = x at *
  have := h.he
  clear h hu h1
  unfold infW; omega

theorem wend_C {E z c q' : Int} {q D M2 : Nat} (h : WEnd E z c q D M2) (hu : Up c z q') (h2 : 971 < E) :
    9218868437227405312 = ((min ((E + 1074).toNat * 4503599627370496 + (q + if D < M2 ∨ (M2 = D ∧ q % 2 = 1) then 1 else 0)) infW : Nat) : Int) := by
  have e := up_if h hu
  have hx : q ≤ (q + if D < M2 ∨ (M2 = D ∧ q % 2 = 1) then 1 else 0) := by omega
  generalize (q + if D < M2 ∨ (M2 = D ∧ q % 2 = 1) then 1 else 0) = x at *
  have := h.he
  have := h.hk
  clear h hu
  unfold infW; omega

theorem wend_D {E z c q' : Int} {q D M2 : Nat} (h : WEnd E z c q D M2) (hu : Up c z q') (h2 : q' < 4503599627370496) :
    q' = ((min ((E + 1074).toNat * 4503599627370496 + (q + if D < M2 ∨ (M2 = D ∧ q % 2 = 1) then 1 else 0)) infW : Nat) : Int) := by
  have e := up_if h hu
  have hx : q ≤ (q + if D < M2 ∨ (M2 = D ∧ q % 2 = 1) then 1 else 0) := by omega
  generalize (q + if D < M2 ∨ (M2 = D ∧ q % 2 = 1) then 1 else 0) = x at *
  have := h.he
  have := h.hk
  clear h hu
  unfold infW; omega

theorem wend_F {E z c q' : Int} {q D M2 : Nat} (h : WEnd E z c q D M2) (hu : Up c z q') (h1 : E ≤ 971) (h2 : (q' == 9007199254740992) = false) :
    (E + 1075) * 4503599627370496 + q' - 4503599627370496 = ((min ((E + 1074).toNat * 4503599627370496 + (q + if D < M2 ∨ (M2 = D ∧ q % 2 = 1) then 1 else 0)) infW : Nat) : Int) := by
  have e := up_if h hu
  have hx : (q + if D < M2 ∨ (M2 = D ∧ q % 2 = 1) then 1 else 0) ≤ q + 1 := by split <;> omega
  generalize (q + if D < M2 ∨ (M2 = D ∧ q % 2 = 1) then 1 else 0) = x at *
  have := h.he
  have := h.hz
  have := h.hqz
  have := ne_of_beq_false h2
  clear h hu h2
  unfold infW; omega

end Go.Proofs.YtamdnnkdnhkghaaGreatDoor
