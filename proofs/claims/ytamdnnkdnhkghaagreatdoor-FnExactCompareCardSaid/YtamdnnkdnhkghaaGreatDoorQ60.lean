import Derived.Test.YtamdnnkdnhkghaaGreatDoorQ43
import Derived.Test.YtamdnnkdnhkghaaGreatDoorQ48
namespace Go.Proofs.YtamdnnkdnhkghaaGreatDoor
set_option maxHeartbeats 100000

/-- A rung's magnitude in units of the least. -/
def wV (r : Nat) : Nat := wM r * 2 ^ wK r

theorem wK_mono {r q : Nat} (h : r ≤ q) : wK r ≤ wK q := by unfold wK; omega

theorem wV_lt {r q : Nat} (h : r < q) : wV r < wV q := by
  unfold wV
  have hk := wK_mono (Nat.le_of_lt h)
  have p : ∀ x : Nat, 0 < 2 ^ x := fun x => Nat.pow_pos (by omega)
  rcases Nat.lt_or_ge (wK r) (wK q) with hlt | hge
  · have h1 := wM_lt r
    have h2 := wM_ge (r := q) (by omega)
    have h3 : wM r * 2 ^ wK r < 9007199254740992 * 2 ^ wK r := Nat.mul_lt_mul_of_pos_right h1 (p _)
    have h4 : 4503599627370496 * 2 ^ wK q ≤ wM q * 2 ^ wK q := Nat.mul_le_mul_right _ h2
    have h5 : 9007199254740992 * 2 ^ wK r = 4503599627370496 * 2 ^ (wK r + 1) := by rw [Nat.pow_succ]; omega
    have h6 : 2 ^ (wK r + 1) ≤ 2 ^ wK q := Nat.pow_le_pow_right (by omega) hlt
    have h7 := Nat.mul_le_mul_left 4503599627370496 h6
    omega
  · have he : wK r = wK q := Nat.le_antisymm hk hge
    rw [he]
    have h1 := w_parts r
    have h2 := w_parts q
    rw [he] at h1
    exact Nat.mul_lt_mul_of_pos_right (by omega) (p _)

theorem wV_le {r q : Nat} (h : r ≤ q) : wV r ≤ wV q := by
  rcases Nat.lt_or_eq_of_le h with h | h
  · exact Nat.le_of_lt (wV_lt h)
  · rw [h]; exact Nat.le_refl _

theorem wV_zero : wV 0 = 0 := by unfold wV; rw [show wM 0 = 0 from rfl, Nat.zero_mul]

theorem wV_pos {r : Nat} (h : r ≠ 0) : 0 < wV r := by
  have := wV_lt (r := 0) (q := r) (by omega)
  rw [wV_zero] at this
  exact this

theorem sgZ_mul (s : Bool) (a c : Nat) : sgZ s (a * c) = sgZ s a * (c : Int) := by
  unfold sgZ
  cases s with
  | false => simp only [Bool.false_eq_true, if_false]; rw [Int.natCast_mul]
  | true => simp only [if_true]; rw [Int.natCast_mul, Int.neg_mul]

theorem cmp_scale {a b : Int} {c : Nat} (hc : 0 < c) : compare (a * (c : Int)) (b * (c : Int)) = compare a b := by
  have hc' : (0 : Int) < c := by omega
  rcases Int.lt_trichotomy a b with h | h | h
  · rw [icmp_lt h, icmp_lt (Int.mul_lt_mul_of_pos_right h hc')]
  · rw [h, icmp_eq rfl, icmp_eq rfl]
  · rw [icmp_gt h, icmp_gt (Int.mul_lt_mul_of_pos_right h hc')]

theorem order_finV {s t : Bool} {r q : Nat} (hr : r < infW) (hq : q < infW) :
    Ieee.double.order (wordS s r) (wordS t q) = some (compare (sgZ s (wV r)) (sgZ t (wV q))) := by
  unfold Ieee.Format.order
  rw [read_finS hr, read_finS hq]
  unfold Ieee.Datum.order
  simp only [signed_up]
  obtain ⟨b, hb⟩ : ∃ b, b = min (wK r) (wK q) := ⟨_, rfl⟩
  have e0 : min (wE r) (wE q) = (b : Int) - 1074 := by unfold wE; omega
  rw [e0]
  have e1 : (wE r - ((b : Int) - 1074)).toNat = wK r - b := by unfold wE; omega
  have e2 : (wE q - ((b : Int) - 1074)).toNat = wK q - b := by unfold wE; omega
  rw [e1, e2]
  have v1 : wV r = wM r * 2 ^ (wK r - b) * 2 ^ b := by
    unfold wV
    rw [Nat.mul_assoc, ← Nat.pow_add]
    congr 2
    omega
  have v2 : wV q = wM q * 2 ^ (wK q - b) * 2 ^ b := by
    unfold wV
    rw [Nat.mul_assoc, ← Nat.pow_add]
    congr 2
    omega
  rw [v1, v2, sgZ_mul s (wM r * 2 ^ (wK r - b)), sgZ_mul t (wM q * 2 ^ (wK q - b)), cmp_scale (Nat.pow_pos (by omega))]

/-- Floats that are no nans stand to each other as these numbers. -/
theorem order_all {s t : Bool} {r q : Nat} (hr : r ≤ infW) (hq : q ≤ infW) :
    Ieee.double.order (wordS s r) (wordS t q) = some (compare (sgZ s (wV r)) (sgZ t (wV q))) := by
  rcases Nat.lt_or_eq_of_le hr with hr1 | hr1
  · rcases Nat.lt_or_eq_of_le hq with hq1 | hq1
    · exact order_finV hr1 hq1
    · subst hq1
      have hlt := wV_lt hr1
      unfold Ieee.Format.order
      rw [read_finS hr1, read_infS]
      generalize wV infW = Y at *
      generalize wV r = X at *
      cases t with
      | false =>
        rw [icmp_lt]
        · rfl
        · unfold sgZ; cases s <;> simp <;> omega
      | true =>
        rw [icmp_gt]
        · rfl
        · unfold sgZ; cases s <;> simp <;> omega
  · subst hr1
    rcases Nat.lt_or_eq_of_le hq with hq1 | hq1
    · have hlt := wV_lt hq1
      unfold Ieee.Format.order
      rw [read_finS hq1, read_infS]
      generalize wV infW = Y at *
      generalize wV q = X at *
      cases s with
      | false =>
        rw [icmp_gt]
        · rfl
        · unfold sgZ; cases t <;> simp <;> omega
      | true =>
        rw [icmp_lt]
        · rfl
        · unfold sgZ; cases t <;> simp <;> omega
    · subst hq1
      have hp := wV_pos (r := infW) (by decide)
      unfold Ieee.Format.order
      rw [read_infS, read_infS]
      generalize wV infW = Y at *
      cases s <;> cases t
      · rw [icmp_eq rfl]; rfl
      · rw [icmp_gt]
        · rfl
        · unfold sgZ; simp; omega
      · rw [icmp_lt]
        · rfl
        · unfold sgZ; simp; omega
      · rw [icmp_eq rfl]; rfl

/-- A small whole number's word. -/
theorem wV_int {d c : Nat} (h : d < 9007199254740992) (hc : c = 1074) : wV (Ieee.double.nearest false d 0) = d * 2 ^ c ∧ Ieee.double.nearest false d 0 < infW := by
  by_cases h0 : d = 0
  · subst h0
    have e : Ieee.double.nearest false 0 0 = 0 := by decide +kernel
    rw [e, wV_zero, Nat.zero_mul]
    exact ⟨rfl, by decide⟩
  · obtain ⟨q, g, hr, hq, hg⟩ := read_int h0 h
    have hle := nearest_le d 0
    have hlt : Ieee.double.nearest false d 0 < infW := by
      rcases Nat.lt_or_eq_of_le hle with h1 | h1
      · exact h1
      · rw [h1] at hr
        have := read_infS false
        have e : wordS false infW = infW := rfl
        rw [e, hr] at this
        cases this
    refine ⟨?_, hlt⟩
    rw [read_fin hlt] at hr
    generalize Ieee.double.nearest false d 0 = x at *
    injection hr with _ h1 h2
    unfold wV
    have hk : wK x = c - g := by unfold wE at h2; omega
    rw [h1, hk, hq, Nat.mul_assoc, ← Nat.pow_add]
    congr 2
    omega

end Go.Proofs.YtamdnnkdnhkghaaGreatDoor

namespace Go.Proofs.YtamdnnkdnhkghaaGreatDoor
set_option maxHeartbeats 200000

theorem cut_down (neg : Bool) (n drop : Nat) : Ieee.Toward.down.cut neg n drop = n / 2 ^ drop + (neg && n % 2 ^ drop != 0).toNat := by
  unfold Ieee.Toward.cut
  simp only [Nat.one_shiftLeft]
  by_cases h : drop ≤ n.log2 + 2
  · rw [Nat.min_eq_left h]
  · rw [Nat.min_eq_right (by omega)]
    have h1 : n < 2 ^ (n.log2 + 1) := Nat.lt_log2_self
    have h2 : 2 ^ (n.log2 + 1) ≤ 2 ^ (n.log2 + 2) := Nat.pow_le_pow_right (by omega) (by omega)
    have h3 : 2 ^ (n.log2 + 2) ≤ 2 ^ drop := Nat.pow_le_pow_right (by omega) (by omega)
    rw [Nat.div_eq_of_lt (show n < 2 ^ (n.log2 + 2) by omega), Nat.div_eq_of_lt (show n < 2 ^ drop by omega), Nat.mod_eq_of_lt (show n < 2 ^ (n.log2 + 2) by omega), Nat.mod_eq_of_lt (show n < 2 ^ drop by omega)]

/-- The magnitude of the floor. -/
def floorN (s : Bool) (r : Nat) : Nat := wT (wM r) (wE r) + (s && wM r * 2 ^ (wE r).toNat % 2 ^ (-(wE r)).toNat != 0).toNat

theorem integral_down (s : Bool) (r : Nat) : Ieee.Datum.integral .down (.number s (wM r) (wE r)) = .number s (floorN s r) 0 := by
  unfold Ieee.Datum.integral
  simp only [cut_down, Nat.shiftLeft_eq, floorN, wT]

theorem floorN_high {s : Bool} {r : Nat} (h : 0 ≤ wE r) : floorN s r = wT (wM r) (wE r) := by
  unfold floorN
  have e0 : (-(wE r)).toNat = 0 := by omega
  rw [e0, Nat.pow_zero, Nat.mod_one]
  simp

theorem wT_high {r c : Nat} (hc : c = 1074) (h : 0 ≤ wE r) : wT (wM r) (wE r) * 2 ^ c = wV r := by
  have e0 : (-(wE r)).toNat = 0 := by omega
  unfold wT wV
  rw [e0, Nat.pow_zero, Nat.div_one, Nat.mul_assoc, ← Nat.pow_add]
  congr 2
  unfold wE at *
  omega

/-- Below the point: d places are cut off. -/
theorem low_parts {r c : Nat} (hc : c = 1074) (h : wE r < 0) : ∃ d, d = (-(wE r)).toNat ∧ 1 ≤ d ∧ d ≤ c ∧ wV r = wM r * 2 ^ (c - d) ∧ wT (wM r) (wE r) = wM r / 2 ^ d ∧ ∀ s, floorN s r = wM r / 2 ^ d + (s && wM r % 2 ^ d != 0).toNat := by
  have e0 : (wE r).toNat = 0 := by omega
  refine ⟨(-(wE r)).toNat, rfl, by omega, by unfold wE at *; omega, ?_, ?_, fun s => ?_⟩
  · unfold wV
    congr 2
    unfold wE at *
    omega
  · unfold wT; rw [e0, Nat.pow_zero, Nat.mul_one]
  · unfold floorN wT; rw [e0, Nat.pow_zero, Nat.mul_one]

theorem floor_small {s : Bool} {r : Nat} (h : wE r < 0) : floorN s r ≤ 4503599627370496 := by
  obtain ⟨d, _, h1, _, _, _, hf⟩ := low_parts (c := 1074) rfl h
  rw [hf]
  have hm := wM_lt r
  have h2 : 2 ^ 1 ≤ 2 ^ d := Nat.pow_le_pow_right (by omega) h1
  have h3 : wM r / 2 ^ d ≤ wM r / 2 ^ 1 := Nat.div_le_div_left h2 (by omega)
  have h4 : (s && wM r % 2 ^ d != 0).toNat ≤ 1 := Bool.toNat_le _
  omega

/-- The floor against the number. -/
theorem floor_key {s : Bool} {r c : Nat} (hc : c = 1074) : sgZ s (floorN s r * 2 ^ c) ≤ sgZ s (wV r) := by
  by_cases h : 0 ≤ wE r
  · rw [floorN_high h, wT_high hc h]
    exact Int.le_refl _
  · obtain ⟨d, _, h1, h2, hv, _, hf⟩ := low_parts hc (show wE r < 0 by omega)
    rw [hf, hv]
    have e : 2 ^ c = 2 ^ d * 2 ^ (c - d) := by rw [← Nat.pow_add]; congr 1; omega
    have hp : 0 < 2 ^ d := Nat.pow_pos (by omega)
    have hdm := Nat.div_add_mod (wM r) (2 ^ d)
    have hml := Nat.mod_lt (wM r) hp
    rw [e, ← Nat.mul_assoc]
    clear hc h e hv hf
    generalize 2 ^ (c - d) = z
    generalize 2 ^ d = y at *
    have hdm' : wM r / y * y + wM r % y = wM r := by rw [Nat.mul_comm]; exact hdm
    generalize wM r / y = T at *
    generalize wM r % y = R at *
    generalize wM r = m at *
    cases s with
    | false =>
      have : (T + (false && R != 0).toNat) * y * z ≤ m * z := Nat.mul_le_mul_right _ (by simp; omega)
      unfold sgZ
      simp only [Bool.false_eq_true, if_false]
      omega
    | true =>
      have : m * z ≤ (T + (true && R != 0).toNat) * y * z := by
        refine Nat.mul_le_mul_right _ ?_
        by_cases hR : R = 0
        · subst hR; simp; omega
        · have : (true && R != 0).toNat = 1 := by simp [hR]
          rw [this, Nat.add_mul]
          omega
      unfold sgZ
      simp only [if_true]
      omega

/-- A word whose magnitude is a whole number. -/
theorem wT_of_V {x n c : Nat} (hc : c = 1074) (h : wV x = n * 2 ^ c) : wT (wM x) (wE x) = n ∧ wM x % 2 ^ (-(wE x)).toNat = 0 := by
  have p : ∀ x : Nat, 0 < 2 ^ x := fun x => Nat.pow_pos (by omega)
  by_cases hE : 0 ≤ wE x
  · have h1 := wT_high hc hE
    rw [h] at h1
    have e0 : (-(wE x)).toNat = 0 := by omega
    exact ⟨Nat.eq_of_mul_eq_mul_right (p c) h1, by rw [e0, Nat.pow_zero, Nat.mod_one]⟩
  · obtain ⟨d, hd, h1, h2, hv, ht, hf⟩ := low_parts hc (show wE x < 0 by omega)
    rw [← hd, ht]
    have e : 2 ^ c = 2 ^ d * 2 ^ (c - d) := by rw [← Nat.pow_add]; congr 1; omega
    rw [hv, e, ← Nat.mul_assoc] at h
    have h3 := Nat.eq_of_mul_eq_mul_right (p (c - d)) h
    rw [h3]
    exact ⟨Nat.mul_div_cancel _ (p d), Nat.mul_mod_left _ _⟩

theorem small_E {x n c : Nat} (hc : c = 1074) (h : wV x = n * 2 ^ c) (hn : n < 9007199254740992) : wE x ≤ 10 := by
  refine Classical.byContradiction fun hE => ?_
  have h1 := wT_high hc (show 0 ≤ wE x by omega)
  have p : ∀ x : Nat, 0 < 2 ^ x := fun x => Nat.pow_pos (by omega)
  rw [h] at h1
  have h2 := Nat.eq_of_mul_eq_mul_right (p c) h1
  have e0 : (-(wE x)).toNat = 0 := by omega
  unfold wT at h2
  rw [e0, Nat.pow_zero, Nat.div_one] at h2
  have hm := wM_ge (r := x) (by unfold wE at hE; omega)
  have h3 : 2 ^ 11 ≤ 2 ^ (wE x).toNat := Nat.pow_le_pow_right (by omega) (by omega)
  have h4 := Nat.mul_le_mul hm h3
  omega

theorem whole_of_V {s : Bool} {x n c : Nat} (hx : x < infW) (hc : c = 1074) (h : wV x = n * 2 ^ c) (hn : n < 9007199254740992) : wholeZ s x = some (sgZ s n) ∧ fitsB s x = true := by
  obtain ⟨h1, h2⟩ := wT_of_V hc h
  have hf : fitsB s x = true := decide_eq_true ⟨hx, .inl (small_E hc h hn)⟩
  refine ⟨?_, hf⟩
  unfold wholeZ
  rw [if_pos ⟨hf, h2⟩, h1]

/-- The floor as a rung. -/
def floorR (s : Bool) (r : Nat) : Nat := Ieee.double.nearest false (floorN s r) 0

theorem floorR_parts {s : Bool} {r c : Nat} (hr : r < infW) (hc : c = 1074) : floorR s r < infW ∧ wV (floorR s r) = floorN s r * 2 ^ c := by
  unfold floorR
  by_cases h : 0 ≤ wE r
  · rw [floorN_high h, trunc_high hr h, wT_high hc h]
    exact ⟨hr, rfl⟩
  · have hs := floor_small (s := s) (r := r) (by omega)
    obtain ⟨h1, h2⟩ := wV_int (d := floorN s r) (by omega) hc
    exact ⟨h2, h1⟩

theorem floorR_fits {s : Bool} {r : Nat} (h : fitsB s r = true) : fitsB s (floorR s r) = true := by
  have hr := (of_decide_eq_true h).1
  obtain ⟨c, hc⟩ : ∃ c : Nat, c = 1074 := ⟨_, rfl⟩
  obtain ⟨h1, h2⟩ := floorR_parts (s := s) hr hc
  by_cases hE : 0 ≤ wE r
  · have : floorR s r = r := by unfold floorR; rw [floorN_high hE, trunc_high hr hE]
    rw [this]
    exact h
  · have hs := floor_small (s := s) (r := r) (by omega)
    exact (whole_of_V h1 hc h2 (by omega)).2

theorem floorR_int {s : Bool} {r : Nat} (h : fitsB s r = true) : floatToIntVal .f64 (wordS s (floorR s r)) .i64 = some (sgZ s (floorN s r)) := by
  have hr := (of_decide_eq_true h).1
  obtain ⟨c, hc⟩ : ∃ c : Nat, c = 1074 := ⟨_, rfl⟩
  obtain ⟨h1, h2⟩ := floorR_parts (s := s) hr hc
  rw [toInt_val (floorR_fits h), (wT_of_V hc h2).1]

theorem floorR_range {s : Bool} {r : Nat} (h : fitsB s r = true) : -9223372036854775808 ≤ sgZ s (floorN s r) ∧ sgZ s (floorN s r) ≤ 9223372036854775807 := by
  have hr := (of_decide_eq_true h).1
  obtain ⟨c, hc⟩ : ∃ c : Nat, c = 1074 := ⟨_, rfl⟩
  obtain ⟨h1, h2⟩ := floorR_parts (s := s) hr hc
  have := sg_range (floorR_fits h)
  rw [(wT_of_V hc h2).1] at this
  exact this

/-- The bounds of integers. -/
theorem fits_key {s : Bool} {r : Nat} (hr : r ≤ infW) : fitsB s r = decide (sgZ true (wV 4890909195324358656) ≤ sgZ s (wV r) ∧ sgZ s (wV r) < sgZ false (wV 4890909195324358656)) := by
  have h := fits_all (s := s) (r := r) (by unfold infW at hr; omega)
  rw [← h]
  unfold loB hiB
  have e1 : (14114281232179134464 : Nat) = wordS true 4890909195324358656 := rfl
  have e2 : (4890909195324358656 : Nat) = wordS false 4890909195324358656 := rfl
  have o1 := order_all (s := s) (t := true) (r := r) (q := 4890909195324358656) hr (by decide)
  have o2 := order_all (s := s) (t := false) (r := r) (q := 4890909195324358656) hr (by decide)
  rw [← e1] at o1
  rw [← e2] at o2
  rw [o1, o2]
  generalize sgZ s (wV r) = k
  generalize sgZ true (wV 4890909195324358656) = a
  generalize sgZ false (wV 4890909195324358656) = b
  rcases Int.lt_trichotomy k a with h1 | h1 | h1
  · rw [icmp_lt h1, decide_eq_false (by omega)]; rfl
  · rw [icmp_eq h1]
    rcases Int.lt_trichotomy k b with h2 | h2 | h2
    · rw [icmp_lt h2, decide_eq_true (by omega)]; rfl
    · rw [icmp_eq h2, decide_eq_false (by omega)]; rfl
    · rw [icmp_gt h2, decide_eq_false (by omega)]; rfl
  · rw [icmp_gt h1]
    rcases Int.lt_trichotomy k b with h2 | h2 | h2
    · rw [icmp_lt h2, decide_eq_true (by omega)]; rfl
    · rw [icmp_eq h2, decide_eq_false (by omega)]; rfl
    · rw [icmp_gt h2, decide_eq_false (by omega)]; rfl

end Go.Proofs.YtamdnnkdnhkghaaGreatDoor

namespace Go.Proofs.YtamdnnkdnhkghaaGreatDoor
open Go Go.RowKit
set_option linter.unusedVariables false

def ci (a b : Int) : Int := if a < b then -1 else if b < a then 1 else 0

theorem isZero_any (x : Int) (w : World) (h0 : 0 ≤ x) : Calls Tryz.prog 108 #[.int .u64 x] w fun e w' => e = .returned (.bool (x % 9223372036854775808 == 0)) ∧ w' = w := by
  go_enter Tryz.func108, Tryz.ntmps108
  go_wp2
  all_goals go_ret
  all_goals exact ⟨rfl, rfl⟩

def cmpB (za zb eq s t lt : Bool) : Int := if (za && zb || eq) then 0 else if s != t then (if s then -1 else 1) else if lt != s then -1 else 1

set_option maxHeartbeats 1600000 in
set_option maxRecDepth 100000 in
theorem cmpWords_b (A B : Int) (za zb eq s t lt : Bool) (w : World) (hza : ∀ w, Calls Tryz.prog 108 #[.int .u64 A] w fun e w' => e = .returned (.bool za) ∧ w' = w) (hzb : ∀ w, Calls Tryz.prog 108 #[.int .u64 B] w fun e w' => e = .returned (.bool zb) ∧ w' = w)
    (hma : ∀ w, Calls Tryz.prog 47 #[.int .u64 A] w fun e w' => e = .returned (.bool s) ∧ w' = w) (hmb : ∀ w, Calls Tryz.prog 47 #[.int .u64 B] w fun e w' => e = .returned (.bool t) ∧ w' = w)
    (he : (A == B) = eq) (hl : decide (A < B) = lt) :
    Calls Tryz.prog 78 #[.int .u64 A, .int .u64 B] w fun e w' => e = .returned (.int .i64 (cmpB za zb eq s t lt)) ∧ Below w.heap.size w w' := by
  have HZa := hide hza
  have HZb := hide hzb
  have HMa := hide hma
  have HMb := hide hmb
  clear hza hzb hma hmb
  cases za <;> cases zb <;> cases eq <;> cases s <;> cases t <;> cases lt
  all_goals (go_enter Tryz.func78, Tryz.ntmps78; go_wp2_with (first | (go_at_call 108; (first | refine (HZa.out _).mono ?_ | refine (HZb.out _).mono ?_); rintro e w' ⟨rfl, rfl⟩) | (go_at_call 47; (first | refine (HMa.out _).mono ?_ | refine (HMb.out _).mono ?_); rintro e w' ⟨rfl, rfl⟩)))
  all_goals (go_ret; exact ⟨rfl, Below.refl _ _⟩)

end Go.Proofs.YtamdnnkdnhkghaaGreatDoor

namespace Go.Proofs.YtamdnnkdnhkghaaGreatDoor
open Go Go.RowKit
set_option linter.unusedVariables false

theorem ci_lt {a b : Int} (h : a < b) : ci a b = -1 := by unfold ci; rw [if_pos h]
theorem ci_gt {a b : Int} (h : b < a) : ci a b = 1 := by unfold ci; rw [if_neg (by omega), if_pos h]
theorem ci_eq {a b : Int} (h : a = b) : ci a b = 0 := by unfold ci; rw [if_neg (by omega), if_neg (by omega)]

theorem cmpB_ci {s t : Bool} {r q : Nat} (hr : r < 9223372036854775808) (hq : q < 9223372036854775808) :
    cmpB (((r : Nat) : Int) == 0) (((q : Nat) : Int) == 0) (((wordS s r : Nat) : Int) == ((wordS t q : Nat) : Int)) s t (decide (((wordS s r : Nat) : Int) < ((wordS t q : Nat) : Int))) = ci (sgZ s (wV r)) (sgZ t (wV q)) := by
  have key : ∀ (a b : Nat), a < b → wV a < wV b := fun a b h => wV_lt h
  by_cases hz : r = 0 ∧ q = 0
  · obtain ⟨rfl, rfl⟩ := hz
    rw [wV_zero, ci_eq (by cases s <;> cases t <;> rfl)]
    unfold cmpB
    rw [if_pos]
    rfl
  · have hz' : ((((r : Nat) : Int) == 0) && (((q : Nat) : Int) == 0)) = false := by
      by_cases h0 : r = 0
      · have : (((q : Nat) : Int) == 0) = false := by rw [beq_eq_false_iff_ne]; omega
        rw [this, Bool.and_false]
      · have : (((r : Nat) : Int) == 0) = false := by rw [beq_eq_false_iff_ne]; omega
        rw [this, Bool.false_and]
    unfold cmpB
    rw [hz', Bool.false_or]
    by_cases hst : s = t
    · subst hst
      rcases Nat.lt_trichotomy r q with h | h | h
      · have hv := key r q h
        have he : (((wordS s r : Nat) : Int) == ((wordS s q : Nat) : Int)) = false := by rw [beq_eq_false_iff_ne]; unfold wordS; cases s <;> simp <;> omega
        have hl : decide (((wordS s r : Nat) : Int) < ((wordS s q : Nat) : Int)) = true := by rw [decide_eq_true_iff]; unfold wordS; cases s <;> simp <;> omega
        rw [he, hl, if_neg (by decide), if_neg (by cases s <;> decide)]
        generalize wV r = X at *
        generalize wV q = Y at *
        cases s with
        | false => rw [if_pos (by decide), ci_lt (by unfold sgZ; simp; omega)]
        | true => rw [if_neg (by decide), ci_gt (by unfold sgZ; simp; omega)]
      · subst h
        rw [if_pos (by simp), ci_eq rfl]
      · have hv := key q r h
        have he : (((wordS s r : Nat) : Int) == ((wordS s q : Nat) : Int)) = false := by rw [beq_eq_false_iff_ne]; unfold wordS; cases s <;> simp <;> omega
        have hl : decide (((wordS s r : Nat) : Int) < ((wordS s q : Nat) : Int)) = false := by rw [decide_eq_false_iff_not]; unfold wordS; cases s <;> simp <;> omega
        rw [he, hl, if_neg (by decide), if_neg (by cases s <;> decide)]
        generalize wV r = X at *
        generalize wV q = Y at *
        cases s with
        | false => rw [if_neg (by decide), ci_gt (by unfold sgZ; simp; omega)]
        | true => rw [if_pos (by decide), ci_lt (by unfold sgZ; simp; omega)]
    · have he : (((wordS s r : Nat) : Int) == ((wordS t q : Nat) : Int)) = false := by rw [beq_eq_false_iff_ne]; unfold wordS; cases s <;> cases t <;> simp at hst ⊢ <;> omega
      have hv : 0 < wV r ∨ 0 < wV q := by
        by_cases h0 : r = 0
        · exact .inr (wV_pos (by omega))
        · exact .inl (wV_pos h0)
      rw [he, if_neg (by decide)]
      generalize wV r = X at *
      generalize wV q = Y at *
      cases s <;> cases t
      · exact absurd rfl hst
      · rw [if_pos (by decide), if_neg (by decide), ci_gt (by unfold sgZ; simp; omega)]
      · rw [if_pos (by decide), if_pos (by decide), ci_lt (by unfold sgZ; simp; omega)]
      · exact absurd rfl hst

/-- 'l01CmpWords' of words that are no nans. -/
theorem cmpWords_any {s t : Bool} {r q : Nat} (hr : r < 9223372036854775808) (hq : q < 9223372036854775808) (w : World) :
    Calls Tryz.prog 78 #[.int .u64 (wordS s r : Nat), .int .u64 (wordS t q : Nat)] w fun e w' => e = .returned (.int .i64 (ci (sgZ s (wV r)) (sgZ t (wV q)))) ∧ Below w.heap.size w w' := by
  have h := cmpWords_b (wordS s r : Nat) (wordS t q : Nat) _ _ _ s t _ w (fun w => isZero_any (wordS s r : Nat) w (by omega)) (fun w => isZero_any (wordS t q : Nat) w (by omega))
    (fun w => by have := minor_any (wordS s r : Nat) w; rw [wordS_minor hr] at this; exact this) (fun w => by have := minor_any (wordS t q : Nat) w; rw [wordS_minor hq] at this; exact this) rfl rfl
  rw [wordS_mod hr, wordS_mod hq, cmpB_ci hr hq] at h
  exact h

theorem cmp_ord (a b : Int) : (compare a b = .lt ∧ ci a b = -1) ∨ (compare a b = .eq ∧ ci a b = 0) ∨ (compare a b = .gt ∧ ci a b = 1) := by
  rcases Int.lt_trichotomy a b with h | h | h
  · exact .inl ⟨icmp_lt h, ci_lt h⟩
  · exact .inr (.inl ⟨icmp_eq h, ci_eq h⟩)
  · exact .inr (.inr ⟨icmp_gt h, ci_gt h⟩)

set_option maxHeartbeats 800000 in
set_option maxRecDepth 100000 in
theorem cmpFloat_o (A B : Nat) (o : Ordering) (c : Int) (w : World) (hA : FloatKind.f64.format.order A A = some .eq) (hB : FloatKind.f64.format.order B B = some .eq) (h : FloatKind.f64.format.order A B = some o)
    (hc : (o = .lt ∧ c = -1) ∨ (o = .eq ∧ c = 0) ∨ (o = .gt ∧ c = 1)) :
    Calls Tryz.prog 80 #[.float .f64 A, .float .f64 B] w fun e w' => e = .returned (.int .i64 c) ∧ w' = w := by
  rcases hc with ⟨rfl, rfl⟩ | ⟨rfl, rfl⟩ | ⟨rfl, rfl⟩
  all_goals (go_enter Tryz.func80, Tryz.ntmps80; go_wp2)
  all_goals (go_ret; exact ⟨rfl, rfl⟩)

/-- 'cmp.Compare' of floats that are no nans. -/
theorem cmpFloat_any {s t : Bool} {r q : Nat} (hr : r ≤ infW) (hq : q ≤ infW) (w : World) :
    Calls Tryz.prog 80 #[.float .f64 (wordS s r), .float .f64 (wordS t q)] w fun e w' => e = .returned (.int .i64 (ci (sgZ s (wV r)) (sgZ t (wV q)))) ∧ w' = w :=
  cmpFloat_o _ _ _ _ w (order_selfS hr) (order_selfS hq) (order_all hr hq) (cmp_ord _ _)

set_option maxHeartbeats 800000 in
set_option maxRecDepth 100000 in
theorem cmpInt_any (a b : Int) (w : World) : Calls Tryz.prog 82 #[.int .i64 a, .int .i64 b] w fun e w' => e = .returned (.int .i64 (ci a b)) ∧ w' = w := by
  rcases Int.lt_trichotomy a b with h | h | h
  · rw [ci_lt h]
    go_enter Tryz.func82, Tryz.ntmps82
    go_wp2
    all_goals go_ret
    all_goals exact ⟨rfl, rfl⟩
  · subst h
    rw [ci_eq rfl]
    go_enter Tryz.func82, Tryz.ntmps82
    go_wp2
    all_goals go_ret
    all_goals exact ⟨rfl, rfl⟩
  · rw [ci_gt h]
    have hn : ¬ a < b := by omega
    go_enter Tryz.func82, Tryz.ntmps82
    go_wp2
    all_goals go_ret
    all_goals exact ⟨rfl, rfl⟩

end Go.Proofs.YtamdnnkdnhkghaaGreatDoor

namespace Go.Proofs.YtamdnnkdnhkghaaGreatDoor
open Go Go.RowKit
set_option linter.unusedVariables false

theorem encode_floor (s : Bool) (r : Nat) : FloatKind.f64.encode (Ieee.Datum.integral .down (.number s (wM r) (wE r))) = wordS s (floorR s r) := by
  rw [integral_down]
  show Ieee.double.nearest s (floorN s r) 0 = _
  rw [nearest_sign]
  rfl

theorem run_floor {s : Bool} {r : Nat} (h : r < infW) (w : World) : (callFunc 170 #[.float .f64 (wordS s r)]).run Tryz.prog w = .ok (.value (.float .f64 (wordS s (floorR s r)))) w := by
  rw [run_callFunc_extern (e := Extern.MathFloor.toIntegral "math.archFloor" .down) Tryz.func170 (by kernel_rfl) (by kernel_rfl) (by kernel_rfl) (by kernel_rfl)]
  have : Extern.MathFloor.toIntegral "math.archFloor" .down #[.float .f64 (wordS s r)] = pure (.float .f64 (wordS s (floorR s r))) := by
    refine Eq.trans (b := Extern.MathFloor.toIntegral.match_1 (motive := fun _ => Sem Value) (FloatKind.f64.decode (wordS s r)) _ _) rfl ?_
    rw [decode_fin h, ← encode_floor]
  rw [this]
  rfl

theorem floor_any (s : Bool) (r : Nat) (w : World) (h : r < infW) :
    Calls Tryz.prog 126 #[.float .f64 (wordS s r)] w fun e w' => e = .returned (.float .f64 (wordS s (floorR s r))) ∧ w' = w := by
  have ht := fun w => run_floor (s := s) h w
  generalize wordS s r = W at *
  generalize wordS s (floorR s r) = T at *
  go_enter Tryz.func126, Tryz.ntmps126
  go_wp2
  all_goals go_ret
  all_goals exact ⟨rfl, rfl⟩

/-- An integer against a float that fits. -/
def mixF (i F K G : Int) : Int := if ci i F = 0 then ci G K else ci i F

set_option maxHeartbeats 800000 in
set_option maxRecDepth 100000 in
theorem mixed_fit (i : Int) (s : Bool) (r : Nat) (w : World) (hf : fitsB s r = true) :
    Calls Tryz.prog 81 #[.int .i64 i, .float .f64 (wordS s r)] w fun e w' => e = .returned (.int .i64 (mixF i (sgZ s (floorN s r)) (sgZ s (wV r)) (sgZ s (wV (floorR s r))))) ∧ w' = w := by
  have hfin := (of_decide_eq_true hf).1
  have hr : r < 9223372036854775808 := by unfold infW at hfin; omega
  have HF := hide (fun w' => fits_any s r w' hr)
  rw [hf] at HF
  have HT := hide (fun w' => floor_any s r w' hfin)
  have hti := floorR_int hf
  obtain ⟨c, hc⟩ : ∃ c : Nat, c = 1074 := ⟨_, rfl⟩
  have HC := hide (fun w' => cmpFloat_any (s := s) (t := s) (r := floorR s r) (q := r) (Nat.le_of_lt (floorR_parts (s := s) hfin hc).1) (Nat.le_of_lt hfin) w')
  clear hf hfin hr hc
  unfold mixF
  generalize sgZ s (floorN s r) = F at *
  generalize ci (sgZ s (wV (floorR s r))) (sgZ s (wV r)) = C at *
  generalize wordS s (floorR s r) = B at *
  generalize wordS s r = W at *
  have HI := hide (fun w' => cmpInt_any i F w')
  have hconv := fun w => run_convert_float_int (P := Tryz.prog) w 45 3 .f64 .i64 B F (by kernel_rfl) (by kernel_rfl) hti
  clear hti
  by_cases hz : ci i F = 0
  · rw [if_pos hz]
    rw [hz] at HI
    go_enter Tryz.func81, Tryz.ntmps81
    go_wp2_with (first | (go_at_call 76; refine (HF.out _).mono ?_; rintro e w' ⟨rfl, rfl⟩) | (go_at_call 126; refine (HT.out _).mono ?_; rintro e w' ⟨rfl, rfl⟩) | (go_at_call 82; refine (HI.out _).mono ?_; rintro e w' ⟨rfl, rfl⟩) | (go_at_call 80; refine (HC.out _).mono ?_; rintro e w' ⟨rfl, rfl⟩))
    all_goals go_ret
    all_goals exact ⟨rfl, rfl⟩
  · rw [if_neg hz]
    generalize ci i F = D at *
    have hb : (D != 0) = true := by rw [bne_iff_ne]; exact hz
    clear hz
    go_enter Tryz.func81, Tryz.ntmps81
    go_wp2_with (first | (go_at_call 76; refine (HF.out _).mono ?_; rintro e w' ⟨rfl, rfl⟩) | (go_at_call 126; refine (HT.out _).mono ?_; rintro e w' ⟨rfl, rfl⟩) | (go_at_call 82; refine (HI.out _).mono ?_; rintro e w' ⟨rfl, rfl⟩) | (go_at_call 80; refine (HC.out _).mono ?_; rintro e w' ⟨rfl, rfl⟩))
    all_goals go_ret
    all_goals exact ⟨rfl, rfl⟩

set_option maxHeartbeats 800000 in
set_option maxRecDepth 100000 in
theorem mixed_unfit (i : Int) (s : Bool) (r : Nat) (w : World) (hr : r < 9223372036854775808) (hf : fitsB s r = false) (b : Bool) (hb : (FloatKind.f64.format.order (wordS s r) 0 == some Ordering.gt) = b) :
    Calls Tryz.prog 81 #[.int .i64 i, .float .f64 (wordS s r)] w fun e w' => e = .returned (.int .i64 (if b then -1 else 1)) ∧ w' = w := by
  have HF := hide (fun w' => fits_any s r w' hr)
  rw [hf] at HF
  clear hf hr
  generalize wordS s r = W at *
  cases b
  all_goals (go_enter Tryz.func81, Tryz.ntmps81; go_wp2_with (go_at_call 76; refine (HF.out _).mono ?_; rintro e w' ⟨rfl, rfl⟩))
  all_goals go_ret
  all_goals exact ⟨rfl, rfl⟩

/-- An integer against any float that is no nan. -/
def mixR (i : Int) (s : Bool) (r : Nat) : Int := if fitsB s r then mixF i (sgZ s (floorN s r)) (sgZ s (wV r)) (sgZ s (wV (floorR s r))) else if 0 < sgZ s (wV r) then -1 else 1

theorem mixed_any (i : Int) (s : Bool) (r : Nat) (w : World) (hr : r ≤ infW) :
    Calls Tryz.prog 81 #[.int .i64 i, .float .f64 (wordS s r)] w fun e w' => e = .returned (.int .i64 (mixR i s r)) ∧ w' = w := by
  unfold mixR
  cases hf : fitsB s r with
  | true =>
    rw [if_pos rfl]
    exact mixed_fit i s r w hf
  | false =>
    rw [if_neg (by decide)]
    have o := order_all (s := s) (t := false) (r := r) (q := 0) hr (by decide)
    have e0 : wordS false 0 = 0 := rfl
    have e1 : sgZ false (wV 0) = 0 := by rw [wV_zero]; rfl
    rw [e0, e1] at o
    have hr' : r < 9223372036854775808 := by unfold infW at hr; omega
    by_cases h : 0 < sgZ s (wV r)
    · rw [if_pos h]
      exact mixed_unfit i s r w hr' hf true (by show (Ieee.double.order _ _ == _) = _; rw [o, icmp_gt h]; rfl)
    · rw [if_neg h]
      refine mixed_unfit i s r w hr' hf false ?_
      show (Ieee.double.order _ _ == _) = _
      rw [o]
      rcases Int.lt_trichotomy (sgZ s (wV r)) 0 with h1 | h1 | h1
      · rw [icmp_lt h1]; rfl
      · rw [icmp_eq h1]; rfl
      · exact absurd h1 h

/-- The word of an integer. -/
def intW (i : Int) : Nat := wordS (decide (i < 0)) (Ieee.double.nearest false i.natAbs 0)

theorem word_val {n W : Nat} (h : IsRnd (n * 2 ^ ((0 : Int) + 1074).toNat) (1 * 2 ^ (-1074 - (0 : Int)).toNat) W) : W = Ieee.double.nearest false n 0 := by
  obtain ⟨c, hc⟩ : ∃ c : Nat, c = 1074 := ⟨_, rfl⟩
  have e1 : ((0 : Int) + 1074).toNat = c := by omega
  have e2 : (-1074 - (0 : Int)).toNat = 0 := by decide
  rw [e1, e2, Nat.pow_zero, Nat.mul_one] at h
  by_cases h0 : n = 0
  · subst h0
    rw [Nat.zero_mul] at h
    have h1 : IsRnd 0 1 0 := rnd_small (by omega)
    rw [IsRnd.unique h h1]
    decide +kernel
  · have h1 := nearest_rnd (mag := n) (place := 0) h0 (A := c) (B := 0) (by omega)
    rw [Nat.pow_zero] at h1
    exact IsRnd.unique h h1

set_option maxHeartbeats 1600000 in
set_option maxRecDepth 100000 in
theorem fromInt_val (i : Int) (w : World) (h0 : -9223372036854775808 < i) (h1 : i ≤ 9223372036854775807) :
    Calls Tryz.prog 59 #[.int .i64 i] w fun e w' => e = .returned (.int .u64 (intW i : Nat)) ∧ Below w.heap.size w w' := by
  have hb : (i == -9223372036854775808) = false := by rw [beq_eq_false_iff_ne]; omega
  by_cases hn : i < 0
  · obtain ⟨n, hni, hn2⟩ : ∃ n : Nat, -i = n ∧ n < 9223372036854775808 := ⟨(-i).toNat, by omega, by omega⟩
    have hw : Ieee.double.nearest false n 0 ≤ infW := nearest_le n 0
    have hI : (intW i : Nat) = 9223372036854775808 + Ieee.double.nearest false n 0 := by
      unfold intW wordS
      have : i.natAbs = n := by omega
      rw [this, decide_eq_true hn, if_pos rfl]
    rw [hI]
    have O := hide (fun w' => of_any n w' hn2)
    have Wd := hide (fun w' vn vd h hd => word_int n w' vn vd hn2 h hd)
    clear hI
    generalize hW : Ieee.double.nearest false n 0 = V at *
    have HW := hide hW
    have hw1 : (V : Int) ≤ 9218868437227405312 := by unfold infW at hw; omega
    clear hW hw
    rw [Int.natCast_add]
    go_enter Tryz.func59, Tryz.ntmps59
    go_wp2_with fail
    refine (O.out _).mono ?_
    rintro e w1 ⟨v1, rfl, hbig, hb1⟩
    go_wp2_with fail
    refine (Wd.out _ _ _ (hbig.below ((Below.refl _ _).alloc (Nat.le_refl _) _)) (big_one w1)).mono ?_
    rintro e w2 ⟨W, rfl, hrnd, hb2⟩
    have hWV : W = V := by rw [← HW.out]; exact word_val hrnd
    subst hWV
    clear hrnd
    go_wp2
    go_ret
    exact ⟨rfl, hb1.trans (((Below.refl w1.heap.size w1).alloc (Nat.le_refl _) _).trans (hb2.mono (by simp)) |>.mono hb1.size)⟩
  · obtain ⟨n, hni, hn2⟩ : ∃ n : Nat, i = n ∧ n < 9223372036854775808 := ⟨i.toNat, by omega, by omega⟩
    subst hni
    have hI : (intW (n : Int) : Nat) = Ieee.double.nearest false n 0 := by
      unfold intW wordS
      rw [decide_eq_false hn, if_neg (by decide)]
      rfl
    rw [hI]
    have O := hide (fun w' => of_any n w' hn2)
    have Wd := hide (fun w' vn vd h hd => word_int n w' vn vd hn2 h hd)
    clear hI
    generalize hW : Ieee.double.nearest false n 0 = V at *
    have HW := hide hW
    clear hW
    go_enter Tryz.func59, Tryz.ntmps59
    go_wp2_with fail
    refine (O.out _).mono ?_
    rintro e w1 ⟨v1, rfl, hbig, hb1⟩
    go_wp2_with fail
    refine (Wd.out _ _ _ (hbig.below ((Below.refl _ _).alloc (Nat.le_refl _) _)) (big_one w1)).mono ?_
    rintro e w2 ⟨W, rfl, hrnd, hb2⟩
    have hWV : W = V := by rw [← HW.out]; exact word_val hrnd
    subst hWV
    clear hrnd
    go_wp2
    go_ret
    exact ⟨rfl, hb1.trans (((Below.refl w1.heap.size w1).alloc (Nat.le_refl _) _).trans (hb2.mono (by simp)) |>.mono hb1.size)⟩

end Go.Proofs.YtamdnnkdnhkghaaGreatDoor

namespace Go.Proofs.YtamdnnkdnhkghaaGreatDoor
open Go Go.RowKit
set_option linter.unusedVariables false

/-- The calls of 'l01Floor'. -/
structure FlFin (W r : Nat) (M E : Int) (s : Bool) (F : Int) (X : Nat) : Prop where
  i : ∀ w, Calls Tryz.prog 48 #[.int .u64 W] w fun e w' => e = .returned (.bool false) ∧ w' = w
  p : ∀ w, Calls Tryz.prog 71 #[.int .u64 r] w fun e w' => e = .returned (.tuple #[.int .i64 M, .int .i64 E]) ∧ w' = w
  n : ∀ w, Calls Tryz.prog 47 #[.int .u64 W] w fun e w' => e = .returned (.bool s) ∧ w' = w
  f : ∀ w, Calls Tryz.prog 59 #[.int .i64 F] w fun e w' => e = .returned (.int .u64 X) ∧ Below w.heap.size w w'
  m : (W : Int) % 9223372036854775808 = r

set_option maxHeartbeats 1600000 in
set_option maxRecDepth 100000 in
theorem fl_high {W r : Nat} {M E F : Int} {s : Bool} {X : Nat} (h : FlFin W r M E s F X) (hE : 0 ≤ E) (w : World) :
    Calls Tryz.prog 89 #[.int .u64 W] w fun e w' => e = .returned (.int .u64 W) ∧ Below w.heap.size w w' := by
  have H1 := hide h.i
  have H2 := hide h.p
  have hm := h.m
  clear h
  go_enter Tryz.func89, Tryz.ntmps89
  go_wp2_with (first | (go_at_call 71; refine (H2.out _).mono ?_; rintro e w' ⟨rfl, rfl⟩) | (go_at_call 48; refine (H1.out _).mono ?_; rintro e w' ⟨rfl, rfl⟩))
  all_goals go_ret
  all_goals exact ⟨rfl, Below.refl _ _⟩

set_option maxHeartbeats 1600000 in
set_option maxRecDepth 100000 in
theorem fl_low {W r : Nat} {M E F T : Int} {s b : Bool} {X : Nat} (h : FlFin W r M E s F X) (hE : E < 0) (hE2 : -63 < E) (hM0 : 0 ≤ M) (hM : (M != 0) = true) (hT : M / 2 ^ (-E).toNat = T) (hb : (wrap64 (T * 2 ^ (-E).toNat) == M) = b) (h0 : 0 ≤ T) (h1 : T ≤ 9007199254740992)
    (hF : F = if s then (if b then -T else -T - 1) else T) (w : World) :
    Calls Tryz.prog 89 #[.int .u64 W] w fun e w' => e = .returned (.int .u64 X) ∧ Below w.heap.size w w' := by
  have H1 := hide h.i
  have H2 := hide h.p
  have H3 := hide h.n
  have H4 := hide h.f
  have hm := h.m
  clear h
  have hMz : (M == 0) = false := by rw [beq_eq_false_iff_ne]; rw [bne_iff_ne] at hM; exact hM
  subst hF
  cases s <;> cases b
  all_goals (simp only [Bool.false_eq_true, if_false, if_true] at H4)
  all_goals (go_enter Tryz.func89, Tryz.ntmps89; go_wp2_with (first | (go_at_call 71; refine (H2.out _).mono ?_; rintro e w' ⟨rfl, rfl⟩) | (go_at_call 48; refine (H1.out _).mono ?_; rintro e w' ⟨rfl, rfl⟩) | (go_at_call 47; refine (H3.out _).mono ?_; rintro e w' ⟨rfl, rfl⟩) | (go_at_call 59; refine (H4.out _).mono ?_; rintro e w1 ⟨rfl, hb1⟩)))
  all_goals go_ret
  all_goals exact ⟨rfl, hb1⟩

set_option maxHeartbeats 1600000 in
set_option maxRecDepth 100000 in
theorem fl_deep {W r : Nat} {M E F : Int} {s : Bool} {X : Nat} (h : FlFin W r M E s F X) (hE : E ≤ -63) (hM : (M != 0) = true) (hF : F = if s then -1 else 0) (w : World) :
    Calls Tryz.prog 89 #[.int .u64 W] w fun e w' => e = .returned (.int .u64 X) ∧ Below w.heap.size w w' := by
  have H1 := hide h.i
  have H2 := hide h.p
  have H3 := hide h.n
  have H4 := hide h.f
  have hm := h.m
  clear h
  have hE0 : E < 0 := by omega
  have hMz : (M == 0) = false := by rw [beq_eq_false_iff_ne]; rw [bne_iff_ne] at hM; exact hM
  subst hF
  cases s
  all_goals (simp only [Bool.false_eq_true, if_false, if_true] at H4)
  all_goals (go_enter Tryz.func89, Tryz.ntmps89; go_wp2_with (first | (go_at_call 71; refine (H2.out _).mono ?_; rintro e w' ⟨rfl, rfl⟩) | (go_at_call 48; refine (H1.out _).mono ?_; rintro e w' ⟨rfl, rfl⟩) | (go_at_call 47; refine (H3.out _).mono ?_; rintro e w' ⟨rfl, rfl⟩) | (go_at_call 59; refine (H4.out _).mono ?_; rintro e w1 ⟨rfl, hb1⟩)))
  all_goals go_ret
  all_goals exact ⟨rfl, hb1⟩

set_option maxHeartbeats 1600000 in
set_option maxRecDepth 100000 in
theorem fl_nought {W r : Nat} {E : Int} {s : Bool} {X : Nat} (h : FlFin W r 0 E s 0 X) (hE : E < 0) (w : World) :
    Calls Tryz.prog 89 #[.int .u64 W] w fun e w' => e = .returned (.int .u64 X) ∧ Below w.heap.size w w' := by
  have H1 := hide h.i
  have H2 := hide h.p
  have H3 := hide h.n
  have H4 := hide h.f
  have hm := h.m
  clear h
  by_cases hE0 : E ≤ -63
  all_goals cases s
  all_goals (go_enter Tryz.func89, Tryz.ntmps89; go_wp2_with (first | (go_at_call 71; refine (H2.out _).mono ?_; rintro e w' ⟨rfl, rfl⟩) | (go_at_call 48; refine (H1.out _).mono ?_; rintro e w' ⟨rfl, rfl⟩) | (go_at_call 47; refine (H3.out _).mono ?_; rintro e w' ⟨rfl, rfl⟩) | (go_at_call 59; refine (H4.out _).mono ?_; rintro e w1 ⟨rfl, hb1⟩)))
  all_goals go_ret
  all_goals exact ⟨rfl, hb1⟩

end Go.Proofs.YtamdnnkdnhkghaaGreatDoor

namespace Go.Proofs.YtamdnnkdnhkghaaGreatDoor
open Go Go.RowKit
set_option linter.unusedVariables false

theorem sgZ_natAbs (s : Bool) (n : Nat) : (sgZ s n).natAbs = n := by unfold sgZ; cases s <;> simp

theorem flFin {s : Bool} {r : Nat} (hr : r < infW) {F : Int} (h0 : -9223372036854775808 < F) (h1 : F ≤ 9223372036854775807) : FlFin (wordS s r) r (wM r) (wE r) s F (intW F) := by
  have A := asFin (s := s) hr
  exact ⟨A.a.c2, A.p, A.n, fun w => fromInt_val F w h0 h1, A.m⟩

/-- The document's floor. -/
theorem sfloor_any (s : Bool) (r : Nat) (hr : r < infW) : ∃ (sx : Bool) (rx : Nat), rx < infW ∧ sgZ sx (wV rx) = sgZ s (wV (floorR s r)) ∧ (fitsB s r = true → wholeZ sx rx = some (sgZ s (floorN s r))) ∧
    ∀ w, Calls Tryz.prog 89 #[.int .u64 (wordS s r : Nat)] w fun e w' => e = .returned (.int .u64 (wordS sx rx : Nat)) ∧ Below w.heap.size w w' := by
  by_cases hE : 0 ≤ wE r
  · have hfr : floorR s r = r := by unfold floorR; rw [floorN_high hE, trunc_high hr hE]
    refine ⟨s, r, hr, by rw [hfr], fun hf => ?_, fun w => fl_high (F := 0) (X := intW 0) (flFin (s := s) hr (by omega) (by omega)) hE w⟩
    unfold wholeZ
    have e0 : (-(wE r)).toNat = 0 := by omega
    rw [if_pos ⟨hf, by rw [e0, Nat.pow_zero, Nat.mod_one]⟩, floorN_high hE]
  · obtain ⟨c, hc⟩ : ∃ c : Nat, c = 1074 := ⟨_, rfl⟩
    obtain ⟨d, hd, hd1, hd2, hv, ht, hfl⟩ := low_parts hc (show wE r < 0 by omega)
    have hsm := floor_small (s := s) (r := r) (by omega)
    obtain ⟨q1, q2⟩ := floorR_parts (s := s) hr hc
    obtain ⟨F, hF⟩ : ∃ F, F = sgZ s (floorN s r) := ⟨_, rfl⟩
    have hab : F.natAbs = floorN s r := by rw [hF, sgZ_natAbs]
    have hX : intW F = wordS (decide (F < 0)) (floorR s r) := by unfold intW floorR; rw [hab]
    have hsame : ∀ n : Nat, floorN s r = 0 → n = 0 → sgZ (decide (F < 0)) n = sgZ s n := by
      intro n _ hn
      subst hn
      unfold sgZ
      split <;> split <;> rfl
    have hsg : ∀ n : Nat, (floorN s r = 0 → n = 0) → sgZ (decide (F < 0)) n = sgZ s n := by
      intro n hn
      by_cases h0 : floorN s r = 0
      · exact hsame n h0 (hn h0)
      · have : decide (F < 0) = s := by
          rw [hF]
          unfold sgZ
          cases s with
          | false => simp
          | true => simp; omega
        rw [this]
    refine ⟨decide (F < 0), floorR s r, q1, ?_, fun hf => ?_, fun w => ?_⟩
    · refine hsg _ (fun h0 => ?_)
      rw [q2, h0, Nat.zero_mul]
    · rw [(whole_of_V q1 hc q2 (by omega)).1]
      rw [hsg _ (fun h0 => h0)]
    · rw [← hX]
      have hb : -9223372036854775808 < F ∧ F ≤ 9223372036854775807 := by rw [hF]; unfold sgZ; cases s <;> simp <;> omega
      have A := flFin (s := s) hr hb.1 hb.2
      have hp : 0 < 2 ^ d := Nat.pow_pos (by omega)
      by_cases h0 : wM r = 0
      · have hF0 : F = 0 := by
          rw [hF, hfl, h0, Nat.zero_div, Nat.zero_mod]
          cases s <;> rfl
        rw [h0, hF0] at A
        rw [hF0]
        exact fl_nought A (by omega) w
      · have hM : ((wM r : Int) != 0) = true := by rw [bne_iff_ne]; omega
        have hm := wM_lt r
        by_cases hdeep : wE r ≤ -63
        · refine fl_deep A hdeep hM ?_ w
          have h2 : 2 ^ 53 ≤ 2 ^ d := Nat.pow_le_pow_right (by omega) (by omega)
          rw [hF, hfl, Nat.div_eq_of_lt (by omega), Nat.mod_eq_of_lt (by omega)]
          cases s with
          | false => rfl
          | true =>
            have : (true && wM r != 0).toNat = 1 := by simp [h0]
            rw [this]
            rfl
        · have hTi : (wM r : Int) / 2 ^ (-(wE r)).toNat = ((wM r / 2 ^ d : Nat) : Int) := by rw [← hd]; norm_cast
          have hdm := Nat.div_add_mod (wM r) (2 ^ d)
          have hle : wM r / 2 ^ d * 2 ^ d ≤ wM r := Nat.div_mul_le_self _ _
          have hTl : wM r / 2 ^ d ≤ wM r := Nat.div_le_self _ _
          have hbb : (wrap64 (((wM r / 2 ^ d : Nat) : Int) * 2 ^ (-(wE r)).toNat) == (wM r : Int)) = decide (wM r % 2 ^ d = 0) := by
            rw [← hd]
            have hmul : ((wM r / 2 ^ d : Nat) : Int) * 2 ^ d = ((wM r / 2 ^ d * 2 ^ d : Nat) : Int) := by norm_cast
            rw [hmul]
            rw [Nat.mul_comm] at hdm
            generalize wM r / 2 ^ d * 2 ^ d = Y at *
            generalize wM r % 2 ^ d = Z at *
            have hw : wrap64 (Y : Int) = Y := by unfold wrap64; omega
            rw [hw]
            by_cases hZ : Z = 0
            · rw [decide_eq_true hZ, beq_iff_eq]; omega
            · rw [decide_eq_false hZ, beq_eq_false_iff_ne]; omega
          refine fl_low A (by omega) (by omega) (by omega) hM hTi hbb (by omega) (by omega) ?_ w
          rw [hF, hfl]
          generalize wM r / 2 ^ d = T at *
          generalize wM r % 2 ^ d = Z at *
          unfold sgZ
          cases s with
          | false => simp
          | true =>
            by_cases hZ : Z = 0
            · subst hZ; simp
            · have : (true && Z != 0).toNat = 1 := by simp [hZ]
              rw [this, decide_eq_false hZ]
              simp
              omega

set_option maxHeartbeats 1600000 in
set_option maxRecDepth 100000 in
theorem below_high (i : Int) (W : Int) (c1 : Int) (w : World) (h1 : ∀ w, Calls Tryz.prog 78 #[.int .u64 W, .int .u64 4890909195324358656] w fun e w' => e = .returned (.int .i64 c1) ∧ Below w.heap.size w w') (hc : 0 ≤ c1) :
    Calls Tryz.prog 79 #[.int .i64 i, .int .u64 W] w fun e w' => e = .returned (.int .i64 (-1)) ∧ Below w.heap.size w w' := by
  have H1 := hide h1
  clear h1
  go_enter Tryz.func79, Tryz.ntmps79
  go_wp2_with (go_at_call 78; refine (H1.out _).mono ?_; rintro e w1 ⟨rfl, hb1⟩)
  all_goals go_ret
  all_goals exact ⟨rfl, hb1⟩

set_option maxHeartbeats 1600000 in
set_option maxRecDepth 100000 in
theorem below_low (i : Int) (W : Int) (w : World) (h1 : ∀ w, Calls Tryz.prog 78 #[.int .u64 W, .int .u64 4890909195324358656] w fun e w' => e = .returned (.int .i64 (-1)) ∧ Below w.heap.size w w')
    (h2 : ∀ w, Calls Tryz.prog 78 #[.int .u64 W, .int .u64 14114281232179134464] w fun e w' => e = .returned (.int .i64 (-1)) ∧ Below w.heap.size w w') :
    Calls Tryz.prog 79 #[.int .i64 i, .int .u64 W] w fun e w' => e = .returned (.int .i64 1) ∧ Below w.heap.size w w' := by
  have H1 := hide h1
  have H2 := hide h2
  clear h1 h2
  go_enter Tryz.func79, Tryz.ntmps79
  go_wp2_with fail
  refine (H1.out _).mono ?_
  rintro e w1 ⟨rfl, hb1⟩
  go_wp2_with fail
  refine (H2.out _).mono ?_
  rintro e w2 ⟨rfl, hb2⟩
  go_wp2
  all_goals go_ret
  all_goals exact ⟨rfl, hb1.trans (hb2.mono hb1.size)⟩

set_option maxHeartbeats 1600000 in
set_option maxRecDepth 100000 in
theorem below_fit (i W F C c2 : Int) (X : Nat) (w : World) (h1 : ∀ w, Calls Tryz.prog 78 #[.int .u64 W, .int .u64 4890909195324358656] w fun e w' => e = .returned (.int .i64 (-1)) ∧ Below w.heap.size w w')
    (h2 : ∀ w, Calls Tryz.prog 78 #[.int .u64 W, .int .u64 14114281232179134464] w fun e w' => e = .returned (.int .i64 c2) ∧ Below w.heap.size w w') (hc2 : 0 ≤ c2)
    (h3 : ∀ w, Calls Tryz.prog 89 #[.int .u64 W] w fun e w' => e = .returned (.int .u64 X) ∧ Below w.heap.size w w')
    (h4 : ∀ w, Calls Tryz.prog 28 #[.int .u64 X] w fun e w' => e = .returned (fltV X) ∧ Below w.heap.size w w')
    (h5 : ∀ w, Calls Tryz.prog 37 #[fltV X] w fun e w' => e = .returned (asIntV (some F)) ∧ Below w.heap.size w w')
    (h6 : ∀ w, Calls Tryz.prog 78 #[.int .u64 X, .int .u64 W] w fun e w' => e = .returned (.int .i64 C) ∧ Below w.heap.size w w') (hC : C = -1 ∨ C = 0) :
    Calls Tryz.prog 79 #[.int .i64 i, .int .u64 W] w fun e w' => e = .returned (.int .i64 (if ci i F = 0 then C else ci i F)) ∧ Below w.heap.size w w' := by
  have H1 := hide h1
  have H2 := hide h2
  have H3 := hide h3
  have H4 := hide h4
  have H5 := hide h5
  have H6 := hide h6
  clear h1 h2 h3 h4 h5 h6
  unfold fltV at H4 H5
  unfold asIntV at H5
  obtain ⟨R, hR⟩ : ∃ R, R = if ci i F = 0 then C else ci i F := ⟨_, rfl⟩
  rw [← hR]
  have HR := hide hR
  clear hR
  go_enter Tryz.func79, Tryz.ntmps79
  go_wp2_with fail
  refine (H1.out _).mono ?_
  rintro e w1 ⟨rfl, hb1⟩
  have HB1 := hide hb1
  clear hb1
  go_wp2_with fail
  refine (H2.out _).mono ?_
  rintro e w2 ⟨rfl, hb2⟩
  have HB2 := hide (HB1.out.trans (hb2.mono HB1.out.size))
  clear hb2
  go_wp2_with fail
  refine (H3.out _).mono ?_
  rintro e w3 ⟨rfl, hb3⟩
  have HB3 := hide (HB2.out.trans (hb3.mono HB2.out.size))
  clear hb3
  go_wp2_with fail
  refine (H4.out _).mono ?_
  rintro e w4 ⟨rfl, hb4⟩
  have HB4 := hide (HB3.out.trans (hb4.mono HB3.out.size))
  clear hb4
  go_wp2_with fail
  refine (H5.out _).mono ?_
  rintro e w5 ⟨rfl, hb5⟩
  have HB5 := hide (HB4.out.trans (hb5.mono HB4.out.size))
  clear hb5
  rcases Int.lt_trichotomy i F with h | h | h
  · have hR : (-1 : Int) = R := by rw [HR.out, ci_lt h, if_neg (by decide)]
    subst hR
    go_wp2
    all_goals go_ret
    all_goals exact ⟨rfl, HB5.out⟩
  · subst h
    have hR : C = R := by rw [HR.out, ci_eq rfl, if_pos rfl]
    subst hR
    clear HR
    rcases hC with rfl | rfl
    all_goals (go_wp2_with fail; refine (H3.out _).mono ?_; rintro e w6 ⟨rfl, hb6⟩; have HB6 := hide (HB5.out.trans (hb6.mono HB5.out.size)); clear hb6)
    all_goals (go_wp2_with fail; refine (H6.out _).mono ?_; rintro e w7 ⟨rfl, hb7⟩; have HB7 := hide (HB6.out.trans (hb7.mono HB6.out.size)); clear hb7)
    all_goals go_wp2
    all_goals go_ret
    all_goals exact ⟨rfl, HB7.out⟩
  · have hR : (1 : Int) = R := by rw [HR.out, ci_gt h, if_neg (by decide)]
    subst hR
    have hn : ¬ i < F := by omega
    have hn2 : (i == F) = false := by rw [beq_eq_false_iff_ne]; omega
    go_wp2
    all_goals go_ret
    all_goals exact ⟨rfl, HB5.out⟩

/-- 'l01Below' at any float that is no nan. -/
theorem below_any (i : Int) (s : Bool) (r : Nat) (w : World) (hr : r ≤ infW) :
    Calls Tryz.prog 79 #[.int .i64 i, .int .u64 (wordS s r : Nat)] w fun e w' => e = .returned (.int .i64 (mixR i s r)) ∧ Below w.heap.size w w' := by
  have hr' : r < 9223372036854775808 := by unfold infW at hr; omega
  have h1 := fun w => cmpWords_any (s := s) (t := false) hr' (show 4890909195324358656 < 9223372036854775808 by omega) w
  have h2 := fun w => cmpWords_any (s := s) (t := true) hr' (show 4890909195324358656 < 9223372036854775808 by omega) w
  have e1 : ((wordS false 4890909195324358656 : Nat) : Int) = 4890909195324358656 := rfl
  have e2 : ((wordS true 4890909195324358656 : Nat) : Int) = 14114281232179134464 := rfl
  rw [e1] at h1
  rw [e2] at h2
  have hk := fits_key (s := s) hr
  have hp := wV_pos (r := 4890909195324358656) (by decide)
  unfold mixR
  by_cases hA : sgZ false (wV 4890909195324358656) ≤ sgZ s (wV r)
  · have hf : fitsB s r = false := by rw [hk, decide_eq_false (by omega)]
    have hpos : 0 < sgZ s (wV r) := by
      have : (0 : Int) < sgZ false (wV 4890909195324358656) := by unfold sgZ; simp; exact hp
      omega
    rw [hf, if_neg (by decide), if_pos hpos]
    refine below_high i _ _ w h1 ?_
    rcases cmp_ord (sgZ s (wV r)) (sgZ false (wV 4890909195324358656)) with ⟨ho, hc⟩ | ⟨_, hc⟩ | ⟨_, hc⟩
    · exfalso
      have : sgZ s (wV r) < sgZ false (wV 4890909195324358656) := by
        refine Classical.byContradiction fun hn => ?_
        rcases Int.lt_or_eq_of_le hA with h | h
        · rw [icmp_gt h] at ho; cases ho
        · rw [icmp_eq h.symm] at ho; cases ho
      omega
    · rw [hc]; omega
    · rw [hc]; omega
  · rw [ci_lt (show sgZ s (wV r) < sgZ false (wV 4890909195324358656) by omega)] at h1
    by_cases hB : sgZ s (wV r) < sgZ true (wV 4890909195324358656)
    · rw [ci_lt hB] at h2
      have hf : fitsB s r = false := by rw [hk, decide_eq_false (by omega)]
      have hneg : ¬ 0 < sgZ s (wV r) := by
        have : sgZ true (wV 4890909195324358656) < 0 := by unfold sgZ; simp; exact hp
        omega
      rw [hf, if_neg (by decide), if_neg hneg]
      exact below_low i _ w h1 h2
    · have hf : fitsB s r = true := by rw [hk, decide_eq_true (by omega)]
      have hfin := (of_decide_eq_true hf).1
      rw [hf, if_pos rfl]
      obtain ⟨sx, rx, hx1, hx2, hx3, hx4⟩ := sfloor_any s r hfin
      obtain ⟨c, hc⟩ : ∃ c : Nat, c = 1074 := ⟨_, rfl⟩
      have hx' : rx < 9223372036854775808 := by unfold infW at hx1; omega
      have h5 := fun w => asInt_flt sx rx w hx'
      rw [hx3 hf] at h5
      have h6 := fun w => cmpWords_any (s := sx) (t := s) hx' hr' w
      rw [hx2] at h6
      have hle : sgZ s (wV (floorR s r)) ≤ sgZ s (wV r) := by
        have := floor_key (s := s) (r := r) hc
        rw [← (floorR_parts (s := s) hfin hc).2] at this
        exact this
      unfold mixF
      refine below_fit i _ _ _ _ (wordS sx rx) w h1 h2 ?_ hx4 (fun w => float_num (wordS sx rx) w ?_) h5 h6 ?_
      · unfold ci; split
        · omega
        · split <;> omega
      · have := wordS_mod (s := sx) hx'
        unfold infW at *
        omega
      · rcases Int.lt_or_eq_of_le hle with h | h
        · exact .inl (ci_lt h)
        · exact .inr (ci_eq h)

end Go.Proofs.YtamdnnkdnhkghaaGreatDoor
