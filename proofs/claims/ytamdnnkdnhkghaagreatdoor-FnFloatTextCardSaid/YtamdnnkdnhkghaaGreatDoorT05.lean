import Derived.Test.YtamdnnkdnhkghaaGreatDoorT04
import Derived.Laws.FloatArith
import Derived.Test.YtamdnnkdnhkghaaGreatDoorRows
import Derived.WalkKit
import Derived.ProofKit
import Derived.OpenShut
import Derived.Test.YtamdnnkdnhkghaaGreatDoorT01
import Derived.Deep.QuietTactic
import Derived.BigQuiet
import Derived.WalkSmall
namespace Go.Proofs.YtamdnnkdnhkghaaGreatDoor

set_option maxHeartbeats 40000

/-- The magnitude of a finite rung is wM * 2^wE. -/
def wM (r : Nat) : Nat := if r < 4503599627370496 then r else r % 4503599627370496 + 4503599627370496

def wK (r : Nat) : Nat := r / 4503599627370496 - 1

def wE (r : Nat) : Int := (wK r : Int) - 1074

theorem wM_lt (r : Nat) : wM r < 9007199254740992 := by unfold wM; split <;> omega

theorem wM_ge {r : Nat} (h : 1 ≤ wK r) : 4503599627370496 ≤ wM r := by unfold wK at h; unfold wM; split <;> omega

theorem w_parts (r : Nat) : wK r * 4503599627370496 + wM r = r := by unfold wK wM; split <;> omega

theorem wK_lt {r : Nat} (h : r < infW) : wK r < 2046 := by unfold infW at h; unfold wK; omega

theorem read_fin {r : Nat} (h : r < infW) : Ieee.double.read r = .number false (wM r) (wE r) := by
  have h1 : wK r = 0 ∨ 4503599627370496 ≤ wM r := by
    by_cases h0 : wK r = 0
    · exact .inl h0
    · exact .inr (wM_ge (by omega))
  have := read_word (k := wK r) (q := wM r) (wM_lt r) h1 (by rw [w_parts]; exact h)
  rw [w_parts] at this
  exact this

theorem read_sign {r : Nat} (h : r < 9223372036854775808) : Ieee.double.read (9223372036854775808 + r) = (Ieee.double.read r).opposite := by
  unfold Ieee.Format.read
  rw [dbl_sw, dbl_bn, dbl_ir, dbl_lp]
  have h1 : (9223372036854775808 + r) % 9223372036854775808 = r := by omega
  have h2 : (9223372036854775808 + r) / 9223372036854775808 = 1 := by omega
  have h3 : r % 9223372036854775808 = r := by omega
  have h4 : r / 9223372036854775808 = 0 := by omega
  simp only [h1, h2, h3, h4]
  split
  · rfl
  · split
    · rfl
    · split
      · rfl
      · rfl

/-- The word of a sign and a rung. -/
def wordS (s : Bool) (r : Nat) : Nat := if s then 9223372036854775808 + r else r

theorem read_finS {s : Bool} {r : Nat} (h : r < infW) : Ieee.double.read (wordS s r) = .number s (wM r) (wE r) := by
  cases s with
  | false => exact read_fin h
  | true =>
    show Ieee.double.read (9223372036854775808 + r) = _
    rw [read_sign (by unfold infW at h; omega), read_fin h]
    rfl

theorem read_infS (s : Bool) : Ieee.double.read (wordS s infW) = .infinity s := by cases s <;> decide +kernel

theorem read_nan {r : Nat} (h1 : infW < r) (h2 : r < 9223372036854775808) : Ieee.double.read r = .nan false (r - infW) := by
  unfold Ieee.Format.read
  rw [dbl_sw, dbl_bn, dbl_ir, dbl_lp]
  have h3 : r % 9223372036854775808 = r := by omega
  have h4 : r / 9223372036854775808 = 0 := by omega
  simp only [h3, h4]
  rw [if_neg (by unfold infW at h1; omega), if_neg (by omega), if_neg (by omega)]
  rfl

theorem read_nanS {s : Bool} {r : Nat} (h1 : infW < r) (h2 : r < 9223372036854775808) : Ieee.double.read (wordS s r) = .nan s (r - infW) := by
  cases s with
  | false => exact read_nan h1 h2
  | true =>
    show Ieee.double.read (9223372036854775808 + r) = _
    rw [read_sign h2, read_nan h1 h2]
    rfl

/-- Every word has its sign and rung. -/
theorem word_split {W : Nat} (h : W < 18446744073709551616) : W = wordS (decide (9223372036854775808 ≤ W)) (W % 9223372036854775808) := by
  unfold wordS
  by_cases h1 : 9223372036854775808 ≤ W
  · rw [if_pos (decide_eq_true h1)]; omega
  · rw [if_neg (by rw [decide_eq_true_iff]; exact h1)]; omega

def sgZ (s : Bool) (n : Nat) : Int := if s then -(n : Int) else n

theorem signed_up (s : Bool) (m u : Nat) : Ieee.signed s m u = sgZ s (m * 2 ^ u) := by
  unfold Ieee.signed sgZ
  rw [Nat.shiftLeft_eq]

theorem icmp_lt {a b : Int} (h : a < b) : compare a b = .lt := by
  show compareOfLessAndEq a b = .lt
  unfold compareOfLessAndEq
  rw [if_pos h]

theorem icmp_eq {a b : Int} (h : a = b) : compare a b = .eq := Int.compare_eq_eq.2 h

theorem icmp_gt {a b : Int} (h : b < a) : compare a b = .gt := by
  show compareOfLessAndEq a b = .gt
  unfold compareOfLessAndEq
  rw [if_neg (by omega), if_neg (by omega)]

theorem nearest_le (m : Nat) (p : Int) : Ieee.double.nearest false m p ≤ infW := by
  unfold Ieee.Format.nearest
  split
  · exact Nat.zero_le _
  · unfold Ieee.Format.word
    simp only [Bool.false_eq_true, if_false]
    rw [dbl_ir]
    exact Nat.min_le_right _ _

end Go.Proofs.YtamdnnkdnhkghaaGreatDoor

namespace Go.Proofs.YtamdnnkdnhkghaaGreatDoor

set_option maxHeartbeats 100000

/-- A rung's magnitude in units of the least. -/
def wV (r : Nat) : Nat := wM r * 2 ^ wK r

theorem wK_mono {r q : Nat} (h : r ≤ q) : wK r ≤ wK q := by unfold wK; omega

theorem wV_lt {r q : Nat} (h : r < q) : wV r < wV q := by
  unfold wV
  have hk := wK_mono (Nat.le_of_lt h)
  have p : ∀ x : Nat, 0 < 2 ^ x := fun x => Nat.pow_pos (by omega)
  rcases Nat.lt_or_ge (wK r) (wK q) with hlt | hge
  · have h1 := wM_lt r
    have h2 := wM_ge (r := q) (by omega)
    have h3 : wM r * 2 ^ wK r < 9007199254740992 * 2 ^ wK r := Nat.mul_lt_mul_of_pos_right h1 (p _)
    have h4 : 4503599627370496 * 2 ^ wK q ≤ wM q * 2 ^ wK q := Nat.mul_le_mul_right _ h2
    have h5 : 9007199254740992 * 2 ^ wK r = 4503599627370496 * 2 ^ (wK r + 1) := by rw [Nat.pow_succ]; omega
    have h6 : 2 ^ (wK r + 1) ≤ 2 ^ wK q := Nat.pow_le_pow_right (by omega) hlt
    have h7 := Nat.mul_le_mul_left 4503599627370496 h6
    omega
  · have he : wK r = wK q := Nat.le_antisymm hk hge
    rw [he]
    have h1 := w_parts r
    have h2 := w_parts q
    rw [he] at h1
    exact Nat.mul_lt_mul_of_pos_right (by omega) (p _)

theorem wV_le {r q : Nat} (h : r ≤ q) : wV r ≤ wV q := by
  rcases Nat.lt_or_eq_of_le h with h | h
  · exact Nat.le_of_lt (wV_lt h)
  · rw [h]; exact Nat.le_refl _

theorem wV_zero : wV 0 = 0 := by unfold wV; rw [show wM 0 = 0 from rfl, Nat.zero_mul]

theorem wV_pos {r : Nat} (h : r ≠ 0) : 0 < wV r := by
  have := wV_lt (r := 0) (q := r) (by omega)
  rw [wV_zero] at this
  exact this

theorem sgZ_mul (s : Bool) (a c : Nat) : sgZ s (a * c) = sgZ s a * (c : Int) := by
  unfold sgZ
  cases s with
  | false => simp only [Bool.false_eq_true, if_false]; rw [Int.natCast_mul]
  | true => simp only [if_true]; rw [Int.natCast_mul, Int.neg_mul]

theorem cmp_scale {a b : Int} {c : Nat} (hc : 0 < c) : compare (a * (c : Int)) (b * (c : Int)) = compare a b := by
  have hc' : (0 : Int) < c := by omega
  rcases Int.lt_trichotomy a b with h | h | h
  · rw [icmp_lt h, icmp_lt (Int.mul_lt_mul_of_pos_right h hc')]
  · rw [h, icmp_eq rfl, icmp_eq rfl]
  · rw [icmp_gt h, icmp_gt (Int.mul_lt_mul_of_pos_right h hc')]

theorem order_finV {s t : Bool} {r q : Nat} (hr : r < infW) (hq : q < infW) :
    Ieee.double.order (wordS s r) (wordS t q) = some (compare (sgZ s (wV r)) (sgZ t (wV q))) := by
  unfold Ieee.Format.order
  rw [read_finS hr, read_finS hq]
  unfold Ieee.Datum.order
  simp only [signed_up]
  obtain ⟨b, hb⟩ : ∃ b, b = min (wK r) (wK q) := ⟨_, rfl⟩
  have e0 : min (wE r) (wE q) = (b : Int) - 1074 := by unfold wE; omega
  rw [e0]
  have e1 : (wE r - ((b : Int) - 1074)).toNat = wK r - b := by unfold wE; omega
  have e2 : (wE q - ((b : Int) - 1074)).toNat = wK q - b := by unfold wE; omega
  rw [e1, e2]
  have v1 : wV r = wM r * 2 ^ (wK r - b) * 2 ^ b := by
    unfold wV
    rw [Nat.mul_assoc, ← Nat.pow_add]
    congr 2
    omega
  have v2 : wV q = wM q * 2 ^ (wK q - b) * 2 ^ b := by
    unfold wV
    rw [Nat.mul_assoc, ← Nat.pow_add]
    congr 2
    omega
  rw [v1, v2, sgZ_mul s (wM r * 2 ^ (wK r - b)), sgZ_mul t (wM q * 2 ^ (wK q - b)), cmp_scale (Nat.pow_pos (by omega))]

/-- Floats that are no nans stand to each other as these numbers. -/
theorem order_all {s t : Bool} {r q : Nat} (hr : r ≤ infW) (hq : q ≤ infW) :
    Ieee.double.order (wordS s r) (wordS t q) = some (compare (sgZ s (wV r)) (sgZ t (wV q))) := by
  rcases Nat.lt_or_eq_of_le hr with hr1 | hr1
  · rcases Nat.lt_or_eq_of_le hq with hq1 | hq1
    · exact order_finV hr1 hq1
    · subst hq1
      have hlt := wV_lt hr1
      unfold Ieee.Format.order
      rw [read_finS hr1, read_infS]
      generalize wV infW = Y at *
      generalize wV r = X at *
      cases t with
      | false =>
        rw [icmp_lt]
        · rfl
        · unfold sgZ; cases s <;> simp <;> omega
      | true =>
        rw [icmp_gt]
        · rfl
        · unfold sgZ; cases s <;> simp <;> omega
  · subst hr1
    rcases Nat.lt_or_eq_of_le hq with hq1 | hq1
    · have hlt := wV_lt hq1
      unfold Ieee.Format.order
      rw [read_finS hq1, read_infS]
      generalize wV infW = Y at *
      generalize wV q = X at *
      cases s with
      | false =>
        rw [icmp_gt]
        · rfl
        · unfold sgZ; cases t <;> simp <;> omega
      | true =>
        rw [icmp_lt]
        · rfl
        · unfold sgZ; cases t <;> simp <;> omega
    · subst hq1
      have hp := wV_pos (r := infW) (by decide)
      unfold Ieee.Format.order
      rw [read_infS, read_infS]
      generalize wV infW = Y at *
      cases s <;> cases t
      · rw [icmp_eq rfl]; rfl
      · rw [icmp_gt]
        · rfl
        · unfold sgZ; simp; omega
      · rw [icmp_lt]
        · rfl
        · unfold sgZ; simp; omega
      · rw [icmp_eq rfl]; rfl

/-- A small whole number's word. -/
theorem wV_int {d c : Nat} (h : d < 9007199254740992) (hc : c = 1074) : wV (Ieee.double.nearest false d 0) = d * 2 ^ c ∧ Ieee.double.nearest false d 0 < infW := by
  by_cases h0 : d = 0
  · subst h0
    have e : Ieee.double.nearest false 0 0 = 0 := by decide +kernel
    rw [e, wV_zero, Nat.zero_mul]
    exact ⟨rfl, by decide⟩
  · obtain ⟨q, g, hr, hq, hg⟩ := read_int h0 h
    have hle := nearest_le d 0
    have hlt : Ieee.double.nearest false d 0 < infW := by
      rcases Nat.lt_or_eq_of_le hle with h1 | h1
      · exact h1
      · rw [h1] at hr
        have := read_infS false
        have e : wordS false infW = infW := rfl
        rw [e, hr] at this
        cases this
    refine ⟨?_, hlt⟩
    rw [read_fin hlt] at hr
    generalize Ieee.double.nearest false d 0 = x at *
    injection hr with _ h1 h2
    unfold wV
    have hk : wK x = c - g := by unfold wE at h2; omega
    rw [h1, hk, hq, Nat.mul_assoc, ← Nat.pow_add]
    congr 2
    omega

end Go.Proofs.YtamdnnkdnhkghaaGreatDoor

namespace Go.Proofs.YtamdnnkdnhkghaaGreatDoor

open Go Go.RowKit

set_option linter.unusedVariables false

theorem hide {p : Prop} (h : p) : Hid p := h

def isDig (c : Int) : Bool := decide (48 ≤ c ∧ c ≤ 57)

theorem ret_int {k : IntKind} {a b : Int} (h : a = b) : Ending.returned (.int k a) = .returned (.int k b) := by rw [h]

end Go.Proofs.YtamdnnkdnhkghaaGreatDoor

namespace Go.Proofs.YtamdnnkdnhkghaaGreatDoor

open Go Go.RowKit

set_option linter.unusedVariables false

/-- The slice v holds the numbers l, from the head of a block on. -/
def Big (w : World) (v : Value) (l : List Int) : Prop :=
  ∃ g cap, v = .slice (some ⟨g, 0, none⟩) l.length cap ∧ l.length ≤ cap ∧ cap ≤ maxLen ∧ g < w.heap.size ∧
    ∀ j, j < l.length → w.cell? ⟨g, j, none⟩ = some (.int .i64 (l.getD j 0))

theorem Big.below {w w' : World} {v : Value} {l : List Int} (h : Big w v l) (hb : Below w.heap.size w w') : Big w' v l := by
  obtain ⟨g, cap, h1, h2, h3, h4, h5⟩ := h
  exact ⟨g, cap, h1, h2, h3, Nat.lt_of_lt_of_le h4 hb.size, fun j hj => (hb.cell (p := ⟨g, j, none⟩) h4).trans (h5 j hj)⟩

theorem trim_end {l : List Int} {k g cap : Nat} {w : World} (hd : OkD l) (hk : k ≤ l.length) (hz : ∀ j, k ≤ j → j < l.length → l.getD j 0 = 0) (ht : k = 0 ∨ l.getD (k - 1) 0 ≠ 0)
    (h2 : l.length ≤ cap) (h3 : cap ≤ 2 ^ 63 - 1) (h4 : g < w.heap.size) (h5 : ∀ j, j < l.length → w.cell? ⟨g, j, none⟩ = some (.int .i64 (l.getD j 0))) :
    Big w (.slice (some ⟨g, 0, none⟩) k cap) (dig (nval l)) := by
  have e := take_trim hd hk hz ht
  have el : (dig (nval l)).length = k := by rw [← e, List.length_take]; omega
  refine ⟨g, cap, by rw [el], by omega, by unfold maxLen; exact h3, h4, fun j hj => ?_⟩
  rw [h5 j (by omega), ← e]
  rw [List.getD_eq_getElem?_getD, List.getD_eq_getElem?_getD, List.getElem?_take_of_lt (by omega)]

set_option maxHeartbeats 400000 in
theorem trim_any (l : List Int) (v : Value) (w : World) (h : Big w v l) (hl : l.length ≤ 1000000000) (hd : OkD l) :
    Calls Tryz.prog 172 #[v] w fun e w' => ∃ v', e = .returned v' ∧ Big w v' (dig (nval l)) ∧ w' = w := by
  obtain ⟨g, cap, rfl, h2, h3, h4, h5⟩ := h
  unfold maxLen at h3
  go_enter Tryz.func172, Tryz.ntmps172
  go_wp2
  go_loop [0] (fun a => ∃ k : Nat, k ≤ l.length ∧ a = .slice (some ⟨g, 0, none⟩) k cap ∧ ∀ j, k ≤ j → j < l.length → l.getD j 0 = 0) (fun a => match a with | .slice _ k _ => k | _ => 0)
  case atStart => exact ⟨l.length, Nat.le_refl _, rfl, fun j h1 h2 => by omega⟩
  case round =>
    obtain ⟨k, hk, rfl, hz⟩ := hrel
    by_cases hk0 : 0 < k
    · have hc := h5 (k - 1) (by omega)
      have hk1 : ((k : Int) - 1).toNat = k - 1 := by omega
      go_wp2
      · have hv : (l[k - 1]?.getD 0 == 0) = true := by assumption
        have hv' : l.getD (k - 1) 0 = 0 := by rw [List.getD_eq_getElem?_getD]; simpa using hv
        go_round
        case rel => exact ⟨k - 1, by omega, rfl, fun j h1 h2 => by
          by_cases e : j = k - 1
          · subst e; exact hv'
          · exact hz j (by omega) h2⟩
        case measure => simp; omega
      · have hv : (l[k - 1]?.getD 0 == 0) = false := by assumption
        have hv' : l.getD (k - 1) 0 ≠ 0 := by rw [List.getD_eq_getElem?_getD]; simpa using hv
        go_ret
        exact ⟨_, rfl, trim_end hd hk hz (.inr hv') h2 h3 h4 h5, rfl⟩
    · go_wp2
      go_ret
      exact ⟨_, rfl, trim_end hd hk hz (.inl (by omega)) h2 h3 h4 h5, rfl⟩

end Go.Proofs.YtamdnnkdnhkghaaGreatDoor

namespace Go.Proofs.YtamdnnkdnhkghaaGreatDoor

open Go Go.RowKit

set_option linter.unusedVariables false

theorem Tryz.info3 : (Tryz.prog.info? 3).map (fun i => (i.zero, i.size, i.bytes)) = some (some (.int .i64 0), 1, 8) := by kernel_rfl

theorem big_of_owns {w : World} {B : Nat} {v : Value} {L : List Int} (h : w.ownsRow B 3 1 v L.length (L.map (Value.int .i64))) (hv : v ≠ .slice none 0 0) : Big w v L := by
  obtain ⟨h1, h2⟩ := h
  rcases h2 with ⟨rfl, _⟩ | ⟨g, cap, cur, rfl, hB, hh, hn, hc, hs, ht⟩
  · exact absurd rfl hv
  · have hown : w.ownsRow B 3 1 (.slice (some ⟨g, 0, none⟩) L.length cap) L.length (L.map (Value.int .i64)) := ⟨h1, .inr ⟨g, cap, cur, rfl, hB, hh, hn, hc, hs, ht⟩⟩
    refine ⟨g, cap, rfl, hn, hc, (hown.lt g rfl).2, fun j hj => ?_⟩
    rw [hown.cellAt j (by omega), List.getElem?_map, List.getElem?_eq_getElem hj, getD_lt hj]; rfl

set_option maxHeartbeats 800000 in
set_option maxRecDepth 100000 in
theorem times_any (n m c0 : Nat) (v : Value) (w : World) (h : Big w v (dig n)) (hl : (dig n).length ≤ 100000) (hm : m ≤ 10000) (hc0 : c0 ≤ 100000000) :
    Calls Tryz.prog 158 #[v, .int .i64 m, .int .i64 c0] w fun e w' => ∃ v', e = .returned v' ∧ Big w' v' (dig (n * m + c0)) ∧ Below w.heap.size w w' := by
  obtain ⟨g, cap, rfl, h2, h3, h4, h5⟩ := h
  unfold maxLen at h3
  obtain ⟨i0, hi, hz0, hz1, hz2⟩ := info_parts Tryz.info3
  generalize hlen : (dig n).length = len at *
  have Hlen := hide hlen
  clear hlen
  go_enter Tryz.func158, Tryz.ntmps158
  go_wp2
  go_loopw [2, 7, 13] (fun c o i wr => ∃ (k cN : Nat) (L : List Int), k ≤ len ∧ i = .int .i64 k ∧ c = .int .i64 cN ∧ cN ≤ 100000000 ∧ L.length = k ∧ wr.ownsRow w.heap.size 3 1 o L.length (L.map (Value.int .i64)) ∧ o ≠ .slice none 0 0 ∧
      OkD L ∧ nval L + 10000 ^ k * cN = n % 10000 ^ k * m + c0 ∧ Below w.heap.size w wr) (fun _ _ i _ => len - (intOf i).toNat)
  case atStart =>
    refine ⟨0, c0, [], Nat.zero_le _, rfl, rfl, hc0, rfl, World.ownsRow_made w #[] 0 (Nat.le_refl _) (by simp [maxLen]) rfl, ?_, ?_, ?_, (Below.refl _ _).alloc (Nat.le_refl _) _⟩
    · intro h; cases h
    · intro d hd; cases hd
    · simp [nval, Nat.mod_one]
  case round =>
    obtain ⟨k, cN, L, hk, rfl, rfl, hcN, hLk, hown, hne, hok, hval, hb⟩ := hrel
    by_cases hlt : k < len
    · have hcx : wr.cell? ⟨g, k, none⟩ = some (.int .i64 ((dig n).getD k 0)) := (hb.cell (by exact h4)).trans (h5 k (by omega))
      rw [dig_getD] at hcx
      generalize hdd : n / 10000 ^ k % 10000 = d at *
      have hd1 : d < 10000 := by omega
      have Hval := hide hval
      have Hdd := hide hdd
      have HLk := hide hLk
      have hdm : d * m ≤ 99990000 := by have := Nat.mul_le_mul (show d ≤ 9999 by omega) hm; omega
      have hdm1 : (0 : Int) ≤ (d : Int) * (m : Int) := by rw [← Int.natCast_mul]; omega
      have hdm2 : (d : Int) * (m : Int) ≤ 99990000 := by rw [← Int.natCast_mul]; omega
      have hbs := hb.size
      have Hdm := hide hdm
      clear hval hdd hLk hdm
      go_wp2_with (first
        | (at_builtin; refine wpList_append_own _ rfl _ _ 121 rfl w.heap.size 3 i0 (.int .i64 0) 1 8 Tryz.underlying121 hi hz0 hz1 hz2 rfl (by decide) _ _ _ rfl (hown.alloc _) ⟨wr.heap.size, 0, none⟩ 1 1 [.int .i64 (((cN : Int) + d * m) % 10000)] rfl rfl ?c1 ?c2 ?c3 ?c4 ?c5 ?_)
        | go_in)
      case c1 =>
        intro j u hj
        match j, hj with
        | 0, hj => simp at hj; subst hj; simp [Addr.add]
      case c2 => intro u hu; simp at hu; subst hu; rfl
      case c3 => have := HLk.out; unfold maxLen; omega
      case c4 => have := HLk.out; omega
      case c5 => simp; omega
      intro v' w1 hown' hgrow hnn
      have R : w1.ownsRow w.heap.size 3 1 v' (L ++ [(((cN + d * m) % 10000 : Nat) : Int)]).length ((L ++ [(((cN + d * m) % 10000 : Nat) : Int)]).map (Value.int .i64)) ∧ v' ≠ .slice none 0 0 ∧ Below w.heap.size w w1 :=
        ⟨by simpa using hown', fun h => hnn h, (hb.alloc hbs _).grown hgrow (by simp; omega) (fun q hq => (hown.lt q hq).1)⟩
      have S := hide (times_step HLk.out Hdd.out Hval.out)
      clear hown' hgrow hnn hown hcx Hval
      go_wp2
      go_roundw
      case rel => exact ⟨k + 1, (cN + d * m) / 10000, L ++ [(((cN + d * m) % 10000 : Nat) : Int)], by omega, by go_num, by go_num, by have := Hdm.out; omega, by have := HLk.out; simp; omega, R.1, R.2.1, okD_snoc hok (by omega) (by omega), S.out, R.2.2⟩
      case measure => simp [intOf]; omega
    · have hkl : k = len := by omega
      subst hkl
      have hN : nval L + 10000 ^ L.length * cN = n * m + c0 := by rw [hLk, hval, ← Hlen.out, mod_all]
      generalize hNN : n * m + c0 = N at *
      have HNN := hide hNN
      have HN := hide hN
      have HLk := hide hLk
      clear hval hN hLk h5 hNN
      go_wp2
      go_loopw [2, 7] (fun c o wq => ∃ (cN : Nat) (L : List Int), c = .int .i64 cN ∧ L.length + cN ≤ k + 100000000 ∧ wq.ownsRow w.heap.size 3 1 o L.length (L.map (Value.int .i64)) ∧ o ≠ .slice none 0 0 ∧
        OkD L ∧ nval L + 10000 ^ L.length * cN = N ∧ Below w.heap.size w wq) (fun c _ _ => (intOf c).toNat)
      case atStart => exact ⟨cN, L, rfl, by have := HLk.out; omega, hown, hne, hok, HN.out, hb⟩
      case round =>
        clear hown hne hok HN hb HLk hk hcN
        obtain ⟨cM, M, rfl, hcM, hown, hne, hok, hval, hb⟩ := hrel
        have Hval := hide hval
        have hbs := hb.size
        clear hval
        by_cases hc : 0 < cM
        · go_wp2_with (first
            | (at_builtin; refine wpList_append_own _ rfl _ _ 121 rfl w.heap.size 3 i0 (.int .i64 0) 1 8 Tryz.underlying121 hi hz0 hz1 hz2 rfl (by decide) _ _ _ rfl (hown.alloc _) ⟨wr.heap.size, 0, none⟩ 1 1 [.int .i64 ((cM : Int) % 10000)] rfl rfl ?d1 ?d2 ?d3 ?d4 ?d5 ?_)
            | go_in)
          case d1 =>
            intro j u hj
            match j, hj with
            | 0, hj => simp at hj; subst hj; simp [Addr.add]
          case d2 => intro u hu; simp at hu; subst hu; rfl
          case d3 => unfold maxLen; omega
          case d4 => omega
          case d5 => simp; omega
          intro v' w1 hown' hgrow hnn
          have R : w1.ownsRow w.heap.size 3 1 v' (M ++ [((cM % 10000 : Nat) : Int)]).length ((M ++ [((cM % 10000 : Nat) : Int)]).map (Value.int .i64)) ∧ v' ≠ .slice none 0 0 ∧ Below w.heap.size w w1 :=
            ⟨by simpa using hown', fun h => hnn h, (hb.alloc hbs _).grown hgrow (by simp; omega) (fun q hq => (hown.lt q hq).1)⟩
          have S := hide (carry_step rfl Hval.out)
          clear hown' hgrow hnn hown Hval
          go_wp2
          go_roundw
          case rel => exact ⟨cM / 10000, M ++ [((cM % 10000 : Nat) : Int)], by go_num, by simp; omega, R.1, R.2.1, okD_snoc hok (by omega) (by omega), by simpa using S.out, R.2.2⟩
          case measure => simp [intOf]; omega
        · have hcz : cM = 0 := by omega
          subst hcz
          have hbig := big_of_owns hown hne
          have hvv : nval M = N := by simpa using Hval.out
          have Hvv := hide hvv
          clear hvv Hval
          go_wp2_with (go_at_call 172; refine (trim_any M _ _ hbig (by omega) hok).mono ?_; rintro e w' ⟨v', rfl, hbig', rfl⟩)
          go_ret
          exact ⟨_, rfl, by rw [HNN.out, ← Hvv.out]; exact hbig', hb⟩

end Go.Proofs.YtamdnnkdnhkghaaGreatDoor

namespace Go.Proofs.YtamdnnkdnhkghaaGreatDoor

open Go Go.RowKit

set_option linter.unusedVariables false

theorem made_ints (n : Nat) : (madeCells (Value.int .i64 0).cells (n * 1)).toList = (List.replicate n (0 : Int)).map (Value.int .i64) := by
  show (madeCells #[.int .i64 0] (n * 1)).toList = _
  rw [toList_madeCells_one]; simp

set_option maxHeartbeats 800000 in
set_option maxRecDepth 100000 in
theorem half_any (n : Nat) (v : Value) (w : World) (h : Big w v (dig n)) (hl : (dig n).length ≤ 100000000) :
    Calls Tryz.prog 159 #[v] w fun e w' => ∃ v', e = .returned v' ∧ Big w' v' (dig (n / 2)) ∧ Below w.heap.size w w' := by
  obtain ⟨g, cap, rfl, h2, h3, h4, h5⟩ := h
  unfold maxLen at h3
  obtain ⟨i0, hi, hz0, hz1, hz2⟩ := info_parts Tryz.info3
  have Hn := hide (Nat.div_eq_of_lt (dig_lt n))
  have Hlt := hide (dig_lt n)
  generalize (dig n).length = len at *
  go_enter Tryz.func159, Tryz.ntmps159
  go_wp2_with (first
    | (at_make; refine wpList_make_full _ rfl _ _ 121 rfl w.heap.size 3 i0 (.int .i64 0) 1 Tryz.underlying121 hi hz0 hz1 _ _ _ _ len rfl rfl rfl rfl (by rw [hz2]; omega) (by unfold maxLen; omega) (Nat.le_refl _) ?_; intro w1 hown hgrow)
    | go_in)
  have hb1 : Below w.heap.size w w1 := (Below.refl _ _).grown hgrow (Nat.le_refl _) (fun _ h => by cases h)
  rw [made_ints, ← halfTo_start n] at hown
  clear hgrow
  go_wp2
  go_loopw [4, 5] (fun c i wr => ∃ j : Nat, j ≤ len ∧ i = .int .i64 ((j : Int) - 1) ∧ c = .int .i64 ((n / 10000 ^ j % 2 : Nat) : Int) ∧
      wr.ownsRow w.heap.size 3 1 (.slice (some ⟨w.heap.size, 0, none⟩) len len) len ((halfTo n len j).map (Value.int .i64)) ∧ Below w.heap.size w wr) (fun _ i _ => (intOf i + 1).toNat)
  case atStart => exact ⟨len, Nat.le_refl _, rfl, by rw [Hn.out]; rfl, hown, hb1⟩
  case round =>
    clear hown hb1
    obtain ⟨j, hj, rfl, rfl, hown, hb⟩ := hrel
    cases j with
    | zero =>
      have hbig := big_of_owns (L := halfTo n len 0) (by rw [halfTo_length]; exact hown) (fun h => by cases h)
      rw [halfTo_end] at hbig
      go_wp2_with (go_at_call 172; refine (trim_any (digs (n / 2) len) _ _ hbig (by rw [digs_length]; omega) (digs_ok _ _)).mono ?_; rintro e w' ⟨v', rfl, hbig', rfl⟩)
      go_ret
      refine ⟨_, rfl, ?_, hb⟩
      rw [nval_digs, Nat.mod_eq_of_lt (by have := Hlt.out; omega)] at hbig'
      exact hbig'
    | succ k =>
      have hcx : wr.cell? ⟨g, k, none⟩ = some (.int .i64 ((dig n).getD k 0)) := (hb.cell (by exact h4)).trans (h5 k (by omega))
      rw [dig_getD] at hcx
      have hfr := hown.frozenAt k
      have hx := hown.stored k (.int .i64 ((n / 2 / 10000 ^ k % 10000 : Nat) : Int))
      have Hd := hide (half_digit n k)
      have Hc := hide (half_carry n k)
      have hd1 : n / 10000 ^ k % 10000 < 10000 := by omega
      have hd2 : n / 10000 ^ (k + 1) % 2 < 2 := by omega
      generalize n / 10000 ^ k % 10000 = d at *
      generalize n / 10000 ^ (k + 1) % 2 = c at *
      obtain ⟨u, hu⟩ : ∃ u, wr.cell? ⟨w.heap.size, k, none⟩ = some u := by
        rw [hown.cellAt k (by omega), List.getElem?_map, List.getElem?_eq_getElem (by rw [halfTo_length]; omega)]; exact ⟨_, rfl⟩
      have R : (wr.setCell ⟨w.heap.size, k, none⟩ (.int .i64 (((c * 10000 + d) / 2 : Nat) : Int))).ownsRow w.heap.size 3 1 (.slice (some ⟨w.heap.size, 0, none⟩) len len) len ((halfTo n len k).map (Value.int .i64)) ∧
          Below w.heap.size w (wr.setCell ⟨w.heap.size, k, none⟩ (.int .i64 (((c * 10000 + d) / 2 : Nat) : Int))) := by
        rw [Hd.out, ← halfTo_step n len k, List.map_set]
        exact ⟨hx.1, hb.setCell (Nat.le_refl _) _⟩
      clear hown hx Hd
      go_wp2
      go_roundw
      case rel => exact ⟨k, by omega, rfl, by rw [← Hc.out]; rfl, R.1, R.2⟩
      case measure => simp [intOf]

end Go.Proofs.YtamdnnkdnhkghaaGreatDoor

namespace Go.Proofs.YtamdnnkdnhkghaaGreatDoor

open Go Go.RowKit

set_option linter.unusedVariables false

theorem cmpI_lt {x y : Nat} (h : x < y) : cmpI x y = -1 := by simp [cmpI, h]

theorem cmpI_gt {x y : Nat} (h : y < x) : cmpI x y = 1 := by unfold cmpI; rw [if_neg (by omega), if_pos h]

theorem cmpI_eq {x y : Nat} (h : x = y) : cmpI x y = 0 := by subst h; simp [cmpI]

set_option maxHeartbeats 800000 in
set_option maxRecDepth 100000 in
theorem cmp_any (x y : Nat) (va vb : Value) (w : World) (ha : Big w va (dig x)) (hb : Big w vb (dig y)) (hl : (dig x).length ≤ 100000000) (hl2 : (dig y).length ≤ 100000000) :
    Calls Tryz.prog 131 #[va, vb] w fun e w' => e = .returned (.int .i64 (cmpI x y)) ∧ Below w.heap.size w w' := by
  obtain ⟨g, cap, rfl, h2, h3, h4, h5⟩ := ha
  obtain ⟨g', cap', rfl, h2', h3', h4', h5'⟩ := hb
  unfold maxLen at h3 h3'
  have Hx := hide (div_of_dig x)
  have Hy := hide (div_of_dig y)
  have Hxy := hide (@lt_of_dig_length x y)
  have Hyx := hide (@lt_of_dig_length y x)
  generalize (dig x).length = len at *
  generalize (dig y).length = len' at *
  by_cases hne : len = len'
  · subst hne
    clear Hxy Hyx
    go_enter Tryz.func131, Tryz.ntmps131
    go_wp2
    go_loopw [5] (fun i wr => ∃ j : Nat, j ≤ len ∧ i = .int .i64 ((j : Int) - 1) ∧ Hid (x / 10000 ^ j = y / 10000 ^ j) ∧ Below w.heap.size w wr) (fun i _ => (intOf i + 1).toNat)
    case atStart => exact ⟨len, Nat.le_refl _, rfl, hide (by rw [Hx.out, Hy.out]), Below.refl _ _⟩
    case round =>
      obtain ⟨j, hj, rfl, he, hbe⟩ := hrel
      cases j with
      | zero =>
        go_wp2
        go_ret
        exact ⟨ret_int (cmpI_eq (by simpa using he.out)).symm, hbe⟩
      | succ k =>
        have hcx : wr.cell? ⟨g, k, none⟩ = some (.int .i64 ((dig x).getD k 0)) := (hbe.cell (by exact h4)).trans (h5 k (by omega))
        have hcy : wr.cell? ⟨g', k, none⟩ = some (.int .i64 ((dig y).getD k 0)) := (hbe.cell (by exact h4')).trans (h5' k (by omega))
        rw [dig_getD] at hcx hcy
        have K1 := hide (@cmp_lt x y k he.out)
        have K2 := hide (@cmp_lt y x k he.out.symm)
        have K3 := hide (@cmp_eq x y k he.out)
        generalize x / 10000 ^ k % 10000 = dx at *
        generalize y / 10000 ^ k % 10000 = dy at *
        clear he
        rcases Nat.lt_trichotomy dx dy with h | h | h
        · have hn1 : ((dx : Int) != dy) = true := by rw [bne_iff_ne]; omega
          go_wp2
          go_quiet (fail)
          go_wp2
          go_quiet (fail)
          go_wp2
          go_ret
          exact ⟨ret_int (cmpI_lt (K1.out h)).symm, below_drewN (below_drewN hbe _) _⟩
        · have hn1 : ((dx : Int) != dy) = false := by subst h; simp
          go_wp2
          go_quiet (fail)
          go_wp2
          go_roundw
          case rel => exact ⟨k, by omega, rfl, hide (K3.out h), below_drewN hbe _⟩
          case measure => simp [intOf]
        · have hn1 : ((dx : Int) != dy) = true := by rw [bne_iff_ne]; omega
          go_wp2
          go_quiet (fail)
          go_wp2
          go_quiet (fail)
          go_wp2
          go_ret
          exact ⟨ret_int (cmpI_gt (K2.out h)).symm, below_drewN (below_drewN hbe _) _⟩
  · go_enter Tryz.func131, Tryz.ntmps131
    have hn1 : ((len : Int) != len') = true := by rw [bne_iff_ne]; omega
    by_cases hlt : len < len'
    · go_wp2
      go_ret
      exact ⟨ret_int (cmpI_lt (Hxy.out hlt)).symm, Below.refl _ _⟩
    · go_wp2
      go_ret
      exact ⟨ret_int (cmpI_gt (Hyx.out (by omega))).symm, Below.refl _ _⟩

theorem news_one (wr : World) (u0 : Value) : ∀ j u, [u0][j]? = some u → (wr.alloc (.cells #[u0] 3)).cell? ((⟨wr.heap.size, 0, none⟩ : Addr).add j) = some u := by
  intro j u hj
  match j, hj with
  | 0, hj => simp at hj; subst hj; simp [Addr.add]

/-- The slice v is the call's own (blocks from base on), not nil, and holds the numbers L. -/
def OwnI (w : World) (base : Nat) (v : Value) (L : List Int) : Prop := w.ownsRow base 3 1 v L.length (L.map (Value.int .i64)) ∧ v ≠ .slice none 0 0

theorem OwnI.big {w : World} {base : Nat} {v : Value} {L : List Int} (h : OwnI w base v L) : Big w v L := big_of_owns h.1 h.2

theorem ownI_empty (w : World) : OwnI (w.alloc (.cells #[] 3)) w.heap.size (.slice (some ⟨w.heap.size, 0, none⟩) 0 0) [] :=
  ⟨World.ownsRow_made w #[] 0 (Nat.le_refl _) (by simp [maxLen]) rfl, fun h => by cases h⟩

/-- 'out = append(out, z)' on a slice of ints that is the call's own. -/
theorem app_int {wr : World} {ops : Array Oper} {rest : List Oper} {o : Oper} {a : Act} {Q : Exit → Act → World → Prop} (hgd : o.guard = none) (s x : Operand)
    (ho : o.op = .call { callee := .builtin .append, args := #[s, x], argTypes := #[121, 121] }) (base : Nat) (v : Value) (L : List Int) (z : Int) (hown : OwnI wr base v L) (hs : a.eval s = v) (hx : a.eval x = .slice (some ⟨wr.heap.size, 0, none⟩) 1 1)
    (hlen : L.length ≤ 10000000000) (hbase : base ≤ wr.heap.size)
    (h : ∀ v' w', OwnI w' base v' (L ++ [z]) → (∀ B w0, Below B w0 wr → B ≤ base → Below B w0 w') → wpList Tryz.prog ops Q rest (a.put o.dst v') w') :
    wpList Tryz.prog ops Q (o :: rest) a (wr.alloc (.cells #[.int .i64 z] 3)) := by
  obtain ⟨i0, hi, hz0, hz1, hz2⟩ := info_parts Tryz.info3
  refine wpList_append_own _ hgd s x 121 ho base 3 i0 (.int .i64 0) 1 8 Tryz.underlying121 hi hz0 hz1 hz2 rfl (by decide) v L.length (L.map (Value.int .i64)) hs (hown.1.alloc _) ⟨wr.heap.size, 0, none⟩ 1 1 [.int .i64 z] hx rfl (news_one _ _)
    (fun u hu => by simp at hu; subst hu; rfl) (by unfold maxLen; omega) (by omega) (by simp; omega) ?_
  intro v' w' h1 h2 h3
  refine h v' w' ⟨by simpa using h1, fun hh => hown.2 (h3.1 hh).1⟩ (fun B w0 hb hB => (hb.alloc (by omega) _).grown h2 (by simp; omega) (fun q hq => ?_))
  have := (hown.1.lt q hq).1
  omega

set_option maxHeartbeats 1600000 in
set_option maxRecDepth 100000 in
theorem minus_any (x y : Nat) (va vb : Value) (w : World) (ha : Big w va (dig x)) (hb : Big w vb (dig y)) (hl : (dig x).length ≤ 100000000) (hyx : y ≤ x) :
    Calls Tryz.prog 132 #[va, vb] w fun e w' => ∃ v', e = .returned v' ∧ Big w' v' (dig (x - y)) ∧ Below w.heap.size w w' := by
  obtain ⟨g, cap, rfl, h2, h3, h4, h5⟩ := ha
  obtain ⟨g', cap', rfl, h2', h3', h4', h5'⟩ := hb
  unfold maxLen at h3 h3'
  have hll := dig_length_mono hyx
  have Hx := hide (mod_all x)
  have Hy := hide (div_of_dig y)
  have Hy2 := hide (Nat.lt_of_le_of_lt hyx (dig_lt x))
  have Hyx := hide hyx
  clear hyx
  generalize (dig x).length = len at *
  generalize hlen : (dig y).length = len' at *
  have Hlen := hide hlen
  clear hlen
  go_enter Tryz.func132, Tryz.ntmps132
  go_wp2
  go_loopw [5, 6, 12] (fun o c i wr => ∃ (k bo : Nat) (L : List Int), k ≤ len ∧ i = .int .i64 k ∧ c = .int .i64 bo ∧ bo ≤ 1 ∧ L.length = k ∧ OwnI wr w.heap.size o L ∧
      OkD L ∧ nval L + y % 10000 ^ k = x % 10000 ^ k + 10000 ^ k * bo ∧ Below w.heap.size w wr) (fun _ _ i _ => len - (intOf i).toNat)
  case atStart =>
    refine ⟨0, 0, [], Nat.zero_le _, rfl, rfl, by omega, rfl, ownI_empty w, ?_, ?_, (Below.refl _ _).alloc (Nat.le_refl _) _⟩
    · intro d hd; cases hd
    · simp [nval, Nat.mod_one]
  case round =>
    obtain ⟨k, bo, L, hk, rfl, rfl, hbo, hLk, hown, hok, hval, hb⟩ := hrel
    have hbs := hb.size
    by_cases hlt : k < len
    · have hcx : wr.cell? ⟨g, k, none⟩ = some (.int .i64 ((dig x).getD k 0)) := (hb.cell (by exact h4)).trans (h5 k (by omega))
      have hcy : k < len' → wr.cell? ⟨g', k, none⟩ = some (.int .i64 ((dig y).getD k 0)) := fun hk' => (hb.cell (by exact h4')).trans (h5' k hk')
      rw [dig_getD] at hcx hcy
      have hyz : len' ≤ k → y / 10000 ^ k % 10000 = 0 := fun hh => by
        have : y / 10000 ^ k = 0 := Nat.div_eq_of_lt (Nat.lt_of_lt_of_le (dig_lt y) (by rw [Hlen.out]; exact Nat.pow_le_pow_right (by omega) hh))
        omega
      have S := fun d bo' => @minus_step x y k bo _ _ d bo' L hLk rfl rfl hval
      have hdx : x / 10000 ^ k % 10000 < 10000 := by omega
      have hdy : y / 10000 ^ k % 10000 < 10000 := by omega
      generalize x / 10000 ^ k % 10000 = dx at *
      generalize y / 10000 ^ k % 10000 = dy at *
      have HS := hide S
      have HLk := hide hLk
      have Hyz := hide hyz
      clear hval hLk S hyz h5 h5'
      obtain ⟨d, bo', hdd, hd1, hbo', hsg⟩ : ∃ d bo' : Nat, (d : Int) + dy + bo = dx + 10000 * bo' ∧ d < 10000 ∧ bo' ≤ 1 ∧ (bo' = 1 ↔ (dx : Int) - bo - dy < 0) := by
        by_cases hneg : (dx : Int) - bo - dy < 0
        · exact ⟨dx + 10000 - bo - dy, 1, by omega, by omega, by omega, by omega⟩
        · exact ⟨dx - bo - dy, 0, by omega, by omega, by omega, by omega⟩
      have Hdd := hide hdd
      have Hsg := hide hsg
      clear hdd hsg
      by_cases hin : k < len'
      · have hcy' := hcy hin
        by_cases hneg : (dx : Int) - bo - dy < 0
        · go_wp2_with (first
            | (at_builtin; (refine app_int rfl _ _ rfl w.heap.size _ L ((dx : Int) - bo - dy + 10000) hown rfl rfl (by have := HLk.out; omega) hbs ?_; intro v' w1 hown' hgrow))
            | go_in)
          have hde : (dx : Int) - bo - dy + 10000 = ((d : Nat) : Int) ∧ bo' = 1 := by have := Hdd.out; have := Hsg.out; omega
          have R : OwnI w1 w.heap.size v' (L ++ [(d : Int)]) ∧ Below w.heap.size w w1 := ⟨by rw [hde.1] at hown'; exact hown', hgrow _ _ hb (Nat.le_refl _)⟩
          have T := hide (HS.out d bo' (by have := Hdd.out; omega))
          have Hbo := hide hde.2
          clear hown' hgrow hown hde
          go_wp2
          go_roundw
          case rel => exact ⟨k + 1, bo', L ++ [(d : Int)], by omega, by go_num, by rw [Hbo.out]; rfl, hbo', by have := HLk.out; simp; omega, R.1, okD_snoc hok (by omega) (by omega), T.out, R.2⟩
          case measure => simp [intOf]; omega
        · go_wp2_with (first
            | (at_builtin; refine app_int rfl _ _ rfl w.heap.size _ L ((dx : Int) - bo - dy) hown rfl rfl (by have := HLk.out; omega) hbs ?_; intro v' w1 hown' hgrow)
            | go_in)
          have hde : (dx : Int) - bo - dy = ((d : Nat) : Int) ∧ bo' = 0 := by have := Hdd.out; have := Hsg.out; omega
          have R : OwnI w1 w.heap.size v' (L ++ [(d : Int)]) ∧ Below w.heap.size w w1 := ⟨by rw [hde.1] at hown'; exact hown', hgrow _ _ hb (Nat.le_refl _)⟩
          have T := hide (HS.out d bo' (by have := Hdd.out; omega))
          have Hbo := hide hde.2
          clear hown' hgrow hown hde
          go_wp2
          go_roundw
          case rel => exact ⟨k + 1, bo', L ++ [(d : Int)], by omega, by go_num, by rw [Hbo.out]; rfl, hbo', by have := HLk.out; simp; omega, R.1, okD_snoc hok (by omega) (by omega), T.out, R.2⟩
          case measure => simp [intOf]; omega
      · have hdy0 := Hyz.out (by omega)
        subst hdy0
        by_cases hneg : (dx : Int) - bo < 0
        · go_wp2_with (first
            | (at_builtin; refine app_int rfl _ _ rfl w.heap.size _ L ((dx : Int) - bo + 10000) hown rfl rfl (by have := HLk.out; omega) hbs ?_; intro v' w1 hown' hgrow)
            | go_in)
          have hde : (dx : Int) - bo + 10000 = ((d : Nat) : Int) ∧ bo' = 1 := by have := Hdd.out; have := Hsg.out; omega
          have R : OwnI w1 w.heap.size v' (L ++ [(d : Int)]) ∧ Below w.heap.size w w1 := ⟨by rw [hde.1] at hown'; exact hown', hgrow _ _ hb (Nat.le_refl _)⟩
          have T := hide (HS.out d bo' (by have := Hdd.out; omega))
          have Hbo := hide hde.2
          clear hown' hgrow hown hde
          go_wp2
          go_roundw
          case rel => exact ⟨k + 1, bo', L ++ [(d : Int)], by omega, by go_num, by rw [Hbo.out]; rfl, hbo', by have := HLk.out; simp; omega, R.1, okD_snoc hok (by omega) (by omega), T.out, R.2⟩
          case measure => simp [intOf]; omega
        · go_wp2_with (first
            | (at_builtin; refine app_int rfl _ _ rfl w.heap.size _ L ((dx : Int) - bo) hown rfl rfl (by have := HLk.out; omega) hbs ?_; intro v' w1 hown' hgrow)
            | go_in)
          have hde : (dx : Int) - bo = ((d : Nat) : Int) ∧ bo' = 0 := by have := Hdd.out; have := Hsg.out; omega
          have R : OwnI w1 w.heap.size v' (L ++ [(d : Int)]) ∧ Below w.heap.size w w1 := ⟨by rw [hde.1] at hown'; exact hown', hgrow _ _ hb (Nat.le_refl _)⟩
          have T := hide (HS.out d bo' (by have := Hdd.out; omega))
          have Hbo := hide hde.2
          clear hown' hgrow hown hde
          go_wp2
          go_roundw
          case rel => exact ⟨k + 1, bo', L ++ [(d : Int)], by omega, by go_num, by rw [Hbo.out]; rfl, hbo', by have := HLk.out; simp; omega, R.1, okD_snoc hok (by omega) (by omega), T.out, R.2⟩
          case measure => simp [intOf]; omega
    · have hkl : k = len := by omega
      subst hkl
      have hv : nval L = x - y ∧ bo = 0 := by
        rw [Hx.out, Nat.mod_eq_of_lt Hy2.out] at hval
        have h1 := nval_lt hok
        rw [hLk] at h1
        have h2 := Hyx.out
        have h3 := Hy2.out
        by_cases hb0 : bo = 0
        · subst hb0; simp at hval; omega
        · have : bo = 1 := by omega
          subst this; omega
      have Hv := hide hv.1
      have hbig := hown.big
      clear hv hval
      go_wp2_with (go_at_call 172; refine (trim_any L _ _ hbig (by omega) hok).mono ?_; rintro e w' ⟨v', rfl, hbig', rfl⟩)
      go_ret
      exact ⟨_, rfl, by rw [← Hv.out]; exact hbig', hb⟩

end Go.Proofs.YtamdnnkdnhkghaaGreatDoor

namespace Go.Proofs.YtamdnnkdnhkghaaGreatDoor

open Go Go.RowKit

set_option linter.unusedVariables false

theorem times_int (n m c0 : Nat) (M C : Int) (hM : M = (m : Int)) (hC : C = (c0 : Int)) (v : Value) (w : World) (h : Big w v (dig n)) (hl : (dig n).length ≤ 100000) (hm : m ≤ 10000) (hc0 : c0 ≤ 100000000) :
    Calls Tryz.prog 158 #[v, .int .i64 M, .int .i64 C] w fun e w' => ∃ v', e = .returned v' ∧ Big w' v' (dig (n * m + c0)) ∧ Below w.heap.size w w' := by
  subst hM; subst hC; exact times_any n m c0 v w h hl hm hc0

theorem dig_length_mul {n m k : Nat} (h : m ≤ 10000 ^ k) : (dig (n * m)).length ≤ (dig n).length + k := by
  refine dig_length_le ?_
  rw [Nat.pow_add]
  have h1 := dig_lt n
  rcases Nat.eq_zero_or_pos m with rfl | hm
  · rw [Nat.mul_zero]; exact Nat.mul_pos (Nat.pow_pos (by omega)) (Nat.pow_pos (by omega))
  · exact Nat.lt_of_lt_of_le (Nat.mul_lt_mul_of_pos_right h1 hm) (Nat.mul_le_mul_left _ h)

theorem dig_length_two (n j : Nat) : (dig (n * 2 ^ j)).length ≤ (dig n).length + j :=
  dig_length_mul (Nat.pow_le_pow_left (by omega) j)

theorem dig_length_ten (n j : Nat) : (dig (n * 10 ^ j)).length ≤ (dig n).length + j :=
  dig_length_mul (Nat.pow_le_pow_left (by omega) j)

set_option maxHeartbeats 800000 in
set_option maxRecDepth 100000 in
theorem two_any (n k : Nat) (v : Value) (w : World) (h : Big w v (dig n)) (hl : (dig n).length + k ≤ 100000) :
    Calls Tryz.prog 129 #[v, .int .i64 k] w fun e w' => ∃ v', e = .returned v' ∧ Big w' v' (dig (n * 2 ^ k)) ∧ Below w.heap.size w w' := by
  have HL := hide (dig_length_two n)
  generalize (dig n).length = len at *
  go_enter Tryz.func129, Tryz.ntmps129
  go_wp2
  go_loopw [0, 1] (fun a i wr => ∃ j r : Nat, j + r ≤ k ∧ k ≤ j + r ∧ i = .int .i64 r ∧ Big wr a (dig (n * 2 ^ j)) ∧ Below w.heap.size w wr) (fun _ i _ => (intOf i).toNat)
  case atStart => exact ⟨0, k, by omega, by omega, rfl, by simpa using h, Below.refl _ _⟩
  case round =>
    obtain ⟨j, r, hj1, hj2, rfl, hbig, hb⟩ := hrel
    have hlj := HL.out j
    by_cases hr : 12 ≤ r
    · go_wp2_with (go_at_call 158; refine (times_int (n * 2 ^ j) 4096 0 _ _ rfl rfl _ _ hbig (by omega) (by omega) (by omega)).mono ?_; rintro e w' ⟨v', rfl, hbig', hb'⟩)
      go_roundw
      case rel => exact ⟨j + 12, r - 12, by omega, by omega, by go_num, by rw [Nat.pow_add, ← Nat.mul_assoc]; simpa using hbig', hb.trans (hb'.mono hb.size)⟩
      case measure => simp [intOf]; omega
    · go_wp2
      go_loopw [0, 1] (fun a i wr => ∃ j r : Nat, j + r ≤ k ∧ k ≤ j + r ∧ i = .int .i64 r ∧ Big wr a (dig (n * 2 ^ j)) ∧ Below w.heap.size w wr) (fun _ i _ => (intOf i).toNat)
      case atStart => exact ⟨j, r, hj1, hj2, rfl, hbig, hb⟩
      case round =>
        clear hbig hb hlj hj1 hj2 hr
        obtain ⟨j, r, hj1, hj2, rfl, hbig, hb⟩ := hrel
        have hlj := HL.out j
        by_cases hr : 0 < r
        · go_wp2_with (go_at_call 158; refine (times_int (n * 2 ^ j) 2 0 _ _ rfl rfl _ _ hbig (by omega) (by omega) (by omega)).mono ?_; rintro e w' ⟨v', rfl, hbig', hb'⟩)
          go_roundw
          case rel => exact ⟨j + 1, r - 1, by omega, by omega, by go_num, by rw [Nat.pow_add, ← Nat.mul_assoc]; simpa using hbig', hb.trans (hb'.mono hb.size)⟩
          case measure => simp [intOf]; omega
        · have hjk : j = k := by omega
          go_wp2
          go_ret
          exact ⟨_, rfl, by rw [← hjk]; exact hbig, hb⟩

end Go.Proofs.YtamdnnkdnhkghaaGreatDoor

namespace Go.Proofs.YtamdnnkdnhkghaaGreatDoor

open Go Go.RowKit

set_option linter.unusedVariables false

theorem dig_mul_10000 {n : Nat} (h : n ≠ 0) : dig (n * 10000) = 0 :: dig n := by
  rw [dig_pos (by omega)]
  have e1 : n * 10000 % 10000 = 0 := by omega
  have e2 : n * 10000 / 10000 = n := by omega
  rw [e1, e2]; rfl

theorem big_cells {w : World} {g : Nat} {l : List Int} (h5 : ∀ j, j < l.length → w.cell? ⟨g, j, none⟩ = some (.int .i64 (l.getD j 0))) (o : Obj) (hg : g < w.heap.size) :
    ∀ j u, (l.map (Value.int .i64))[j]? = some u → (w.alloc o).cell? ((⟨g, 0, none⟩ : Addr).add j) = some u := by
  intro j u hj
  rw [List.getElem?_map] at hj
  cases hx : l[j]? with
  | none => rw [hx] at hj; simp at hj
  | some x =>
    rw [hx] at hj
    simp at hj
    subst hj
    obtain ⟨hlt, hxx⟩ := List.getElem?_eq_some_iff.1 hx
    have := h5 j hlt
    rw [getD_lt hlt, hxx] at this
    rw [← this]
    have hb : Below w.heap.size w (w.alloc o) := (Below.refl _ _).alloc (Nat.le_refl _) o
    rw [← hb.cell (p := ⟨g, j, none⟩) hg]
    simp only [Addr.add]
    by_cases e : j = 0
    · subst e; simp
    · simp [e]

/-- 'append([]int{0}, a...)'. -/
theorem app_zero {wr : World} {ops : Array Oper} {rest : List Oper} {o : Oper} {a : Act} {Q : Exit → Act → World → Prop} (hgd : o.guard = none) (s x : Operand)
    (ho : o.op = .call { callee := .builtin .append, args := #[s, x], argTypes := #[121, 121] }) (v : Value) (L : List Int) (hbig : Big wr v L) (hx : a.eval x = v) (hs : a.eval s = .slice (some ⟨wr.heap.size, 0, none⟩) 1 1)
    (hlen : L.length ≤ 10000000000)
    (h : ∀ v' w', Big w' v' (0 :: L) → Below wr.heap.size wr w' → wpList Tryz.prog ops Q rest (a.put o.dst v') w') :
    wpList Tryz.prog ops Q (o :: rest) a (wr.alloc (.cells #[.int .i64 0] 3)) := by
  obtain ⟨i0, hi, hz0, hz1, hz2⟩ := info_parts Tryz.info3
  obtain ⟨g, cap, rfl, h2, h3, h4, h5⟩ := hbig
  have hown := World.ownsRow_lit (base := wr.heap.size) (e := 3) (size := 1) wr #[.int .i64 0] 1 (Nat.le_refl _) (by simp [maxLen]) rfl
  refine wpList_append_own _ hgd s x 121 ho wr.heap.size 3 i0 (.int .i64 0) 1 8 Tryz.underlying121 hi hz0 hz1 hz2 rfl (by decide) _ 1 _ hs hown ⟨g, 0, none⟩ L.length cap (L.map (Value.int .i64)) hx (by simp) (big_cells h5 _ h4)
    (ints_oneCell _ _) (by unfold maxLen; omega) (by omega) (by simp) ?_
  intro v' w' h1 h2 h3
  refine h v' w' (big_of_owns (B := wr.heap.size) (L := 0 :: L) ?_ (fun hh => by have := (h3.1 hh).1; cases this)) (((Below.refl _ _).alloc (Nat.le_refl _) _).grown h2 (by simp) (fun q hq => by cases hq; exact Nat.le_refl _))
  have e : (0 :: L).length = 1 + L.length := by simp; omega
  rw [e]; simpa using h1

set_option maxHeartbeats 800000 in
set_option maxRecDepth 100000 in
theorem pow10_any (n k : Nat) (v : Value) (w : World) (h : Big w v (dig n)) (hn : n ≠ 0) (hl : (dig n).length + k ≤ 100000) :
    Calls Tryz.prog 167 #[v, .int .i64 k] w fun e w' => ∃ v', e = .returned v' ∧ Big w' v' (dig (n * 10 ^ k)) ∧ Below w.heap.size w w' := by
  have HL := hide (dig_length_ten n)
  have Hn := hide hn
  clear hn
  generalize (dig n).length = len at *
  go_enter Tryz.func167, Tryz.ntmps167
  go_wp2
  go_loopw [0, 1] (fun a i wr => ∃ j r : Nat, j + r ≤ k ∧ k ≤ j + r ∧ i = .int .i64 r ∧ Big wr a (dig (n * 10 ^ j)) ∧ Below w.heap.size w wr) (fun _ i _ => (intOf i).toNat)
  case atStart => exact ⟨0, k, by omega, by omega, rfl, by simpa using h, Below.refl _ _⟩
  case round =>
    obtain ⟨j, r, hj1, hj2, rfl, hbig, hb⟩ := hrel
    have hlj := HL.out j
    by_cases hr : 4 ≤ r
    · go_wp2_with (first
        | (at_builtin; refine app_zero rfl _ _ rfl _ _ hbig rfl rfl (by omega) ?_; intro v' w1 hbig' hb')
        | go_in)
      have Hz := hide (dig_mul_10000 (n := n * 10 ^ j) (by have := Hn.out; exact Nat.mul_ne_zero this (Nat.pos_iff_ne_zero.1 (Nat.pow_pos (by omega)))))
      go_wp2
      go_roundw
      case rel => exact ⟨j + 4, r - 4, by omega, by omega, by go_num, by rw [Nat.pow_add, ← Nat.mul_assoc]; rw [← Hz.out] at hbig'; exact hbig', hb.trans (hb'.mono hb.size)⟩
      case measure => simp [intOf]; omega
    · go_wp2
      go_loopw [0, 1] (fun a i wr => ∃ j r : Nat, j + r ≤ k ∧ k ≤ j + r ∧ i = .int .i64 r ∧ Big wr a (dig (n * 10 ^ j)) ∧ Below w.heap.size w wr) (fun _ i _ => (intOf i).toNat)
      case atStart => exact ⟨j, r, hj1, hj2, rfl, hbig, hb⟩
      case round =>
        clear hbig hb hlj hj1 hj2 hr
        obtain ⟨j, r, hj1, hj2, rfl, hbig, hb⟩ := hrel
        have hlj := HL.out j
        by_cases hr : 0 < r
        · go_wp2_with (go_at_call 158; refine (times_int (n * 10 ^ j) 10 0 _ _ rfl rfl _ _ hbig (by omega) (by omega) (by omega)).mono ?_; rintro e w' ⟨v', rfl, hbig', hb'⟩)
          go_roundw
          case rel => exact ⟨j + 1, r - 1, by omega, by omega, by go_num, by rw [Nat.pow_add, ← Nat.mul_assoc]; simpa using hbig', hb.trans (hb'.mono hb.size)⟩
          case measure => simp [intOf]; omega
        · have hjk : j = k := by omega
          subst hjk
          go_wp2_with (go_at_call 172; refine (trim_any _ _ _ hbig (by omega) (dig_ok _)).mono ?_; rintro e w' ⟨v', rfl, hbig', rfl⟩)
          go_ret
          exact ⟨_, rfl, by rw [nval_dig] at hbig'; exact hbig', hb⟩

end Go.Proofs.YtamdnnkdnhkghaaGreatDoor
