import Derived.Test.YtamdnnkdnhkghaaGreatDoorT28
import Derived.Test.YtamdnnkdnhkghaaGreatDoorT09
import Derived.Test.YtamdnnkdnhkghaaGreatDoorT26
import Derived.Test.YtamdnnkdnhkghaaGreatDoorShelf
import Derived.Test.YtamdnnkdnhkghaaGreatDoorT27
namespace Go.Proofs.YtamdnnkdnhkghaaGreatDoor

set_option maxHeartbeats 400000

def l10 (x : Int) : Int := x * 78913 / 262144

/-- l10 x is the decimal logarithm of 2^x, rounded down. -/
def logOk (x : Int) : Bool :=
  decide (10 ^ (l10 x).toNat * 2 ^ (-x).toNat ≤ 2 ^ x.toNat * 10 ^ (-(l10 x)).toNat ∧ 2 ^ x.toNat * 10 ^ (-(l10 x + 1)).toNat < 10 ^ (l10 x + 1).toNat * 2 ^ (-x).toNat)

def logRows : Bool := (List.range 2098).all fun i => logOk ((i : Int) - 1074)

set_option maxRecDepth 100000 in
theorem logRows_ok : logRows = true := by decide +kernel

theorem log_ok {x : Int} (h1 : -1074 ≤ x) (h2 : x ≤ 1023) : logOk x = true := by
  have := all_range logRows_ok (i := (x + 1074).toNat) (by omega)
  have e : (((x + 1074).toNat : Nat) : Int) - 1074 = x := by omega
  rw [e] at this
  exact this

/-- Which power of ten brings a number to n digits, and how far it is shifted. -/
def fpP (n : Nat) (x : Int) : Int := (n : Int) - 1 - l10 x

def fpS (n : Nat) (x : Int) : Int := -(x - 63 + lp10 (fpP n x) + 3)

def shiftRows : Bool := (List.range 17).all fun n => (List.range 2098).all fun i => decide (4 ≤ fpS (n + 1) ((i : Int) - 1074) ∧ fpS (n + 1) ((i : Int) - 1074) < 64)

set_option maxRecDepth 100000 in
theorem shiftRows_ok : shiftRows = true := by decide +kernel

theorem shift_ok {n : Nat} {x : Int} (hn1 : 1 ≤ n) (hn2 : n ≤ 17) (h1 : -1074 ≤ x) (h2 : x ≤ 1023) : 4 ≤ fpS n x ∧ fpS n x < 64 := by
  have h := all_range (all_range shiftRows_ok (i := n - 1) (by omega)) (i := (x + 1074).toNat) (by omega)
  have e : (((x + 1074).toNat : Nat) : Int) - 1074 = x := by omega
  have e2 : n - 1 + 1 = n := by omega
  rw [e, e2] at h
  exact of_decide_eq_true h

theorem fpP_range {n : Nat} {x : Int} (hn1 : 1 ≤ n) (hn2 : n ≤ 17) (h1 : -1074 ≤ x) (h2 : x ≤ 1023) : -348 ≤ fpP n x ∧ fpP n x ≤ 347 := by
  unfold fpP l10
  omega

/-- v * 10^p for v = x * 2^E, as a quotient. -/
def fA (x : Nat) (E p : Int) : Nat := x * 10 ^ p.toNat * 2 ^ E.toNat

def fB (E p : Int) : Nat := 10 ^ (-p).toNat * 2 ^ (-E).toNat

theorem fB_pos (E p : Int) : 0 < fB E p := Nat.mul_pos (Nat.pow_pos (by omega)) (Nat.pow_pos (by omega))

/-- What 'uscale' gives. -/
theorem fmt_unr {x y s : Nat} {E p : Int} (hxy : x = 2048 * y) (hx1 : 9223372036854775808 ≤ x) (hx2 : x < T64) (hp1 : -348 ≤ p) (hp2 : p ≤ 347) (hs : (s : Int) = -(E + lp10 p + 3)) (hs4 : 4 ≤ s) :
    usc x (rowAt p).1 (rowAt p).2 s = unr (4 * fA x E p) (fB E p) := by
  rw [usc_fmt hp1 hp2 hxy hx1 hx2 hs4]
  have q : ∀ z : Nat, 0 < 2 ^ z := fun z => Nat.pow_pos (by omega)
  have hden : 0 < denT p := Nat.mul_pos (Nat.pow_pos (by omega)) (q _)
  refine unr_ratio (Nat.mul_pos hden (Nat.mul_pos (q s) (by decide))) (fB_pos E p) ?_
  unfold fA fB numT denT
  rw [t128_pow]
  have e : (127 - lp10 p).toNat + (-E).toNat = 2 + E.toNat + (lp10 p - 127).toNat + s + 128 := by omega
  have h4 : (4 : Nat) = 2 ^ 2 := rfl
  have e2 : 2 ^ (127 - lp10 p).toNat * 2 ^ (-E).toNat = 2 ^ 2 * 2 ^ E.toNat * 2 ^ (lp10 p - 127).toNat * 2 ^ s * 2 ^ 128 := by
    rw [← Nat.pow_add, e, Nat.pow_add, Nat.pow_add, Nat.pow_add, Nat.pow_add]
  rw [h4]
  clear hs hs4 e h4 hden
  generalize 10 ^ p.toNat = a
  generalize 10 ^ (-p).toNat = b
  generalize (2 : Nat) ^ (127 - lp10 p).toNat = c1 at *
  generalize (2 : Nat) ^ (-E).toNat = c2 at *
  generalize (2 : Nat) ^ E.toNat = c3 at *
  generalize (2 : Nat) ^ (lp10 p - 127).toNat = c4 at *
  generalize (2 : Nat) ^ s = c5 at *
  generalize (2 : Nat) ^ 128 = c6 at *
  generalize (2 : Nat) ^ 2 = c7 at *
  calc x * (a * c1) * (b * c2) = x * a * b * (c1 * c2) := by grind
    _ = x * a * b * (c7 * c3 * c4 * c5 * c6) := by rw [e2]
    _ = _ := by grind

/-- The number lies between 10^(n-1) and 2 * 10^n. -/
theorem fmt_lower {x n : Nat} {E : Int} (hn1 : 1 ≤ n) (h1 : -1074 ≤ E + 63) (h2 : E + 63 ≤ 1023) (hx1 : 9223372036854775808 ≤ x) :
    10 ^ (n - 1) * fB E (fpP n (E + 63)) ≤ fA x E (fpP n (E + 63)) := by
  have hlog := (of_decide_eq_true (log_ok h1 h2)).1
  obtain ⟨k, hk⟩ : ∃ k, k = l10 (E + 63) := ⟨_, rfl⟩
  obtain ⟨p, hp⟩ : ∃ p, p = fpP n (E + 63) := ⟨_, rfl⟩
  have hpk : p = (n : Int) - 1 - k := by rw [hp, hk]; rfl
  rw [← hk] at hlog
  rw [← hp]
  unfold fA fB
  have q : ∀ z : Nat, 0 < 2 ^ z := fun z => Nat.pow_pos (by omega)
  have t : ∀ z : Nat, 0 < 10 ^ z := fun z => Nat.pow_pos (by omega)
  have e1 : 10 ^ (n - 1) * 10 ^ (-p).toNat * 10 ^ (-k).toNat = 10 ^ p.toNat * 10 ^ k.toNat := by
    rw [← Nat.pow_add, ← Nat.pow_add, ← Nat.pow_add]; congr 1; omega
  have e2 : 9223372036854775808 * 2 ^ E.toNat * 2 ^ (-(E + 63)).toNat = 2 ^ (-E).toNat * 2 ^ (E + 63).toNat := by
    have : (9223372036854775808 : Nat) = 2 ^ 63 := rfl
    rw [this, ← Nat.pow_add, ← Nat.pow_add, ← Nat.pow_add]; congr 1; omega
  refine Nat.le_of_mul_le_mul_right (c := 10 ^ (-k).toNat * 2 ^ (-(E + 63)).toNat) ?_ (Nat.mul_pos (t _) (q _))
  clear hk hp hpk
  generalize (10 : Nat) ^ (n - 1) = a0 at *
  generalize (10 : Nat) ^ (-p).toNat = a1 at *
  generalize (10 : Nat) ^ p.toNat = a2 at *
  generalize (10 : Nat) ^ (-k).toNat = a3 at *
  generalize (10 : Nat) ^ k.toNat = a4 at *
  generalize (2 : Nat) ^ (-E).toNat = b1 at *
  generalize (2 : Nat) ^ E.toNat = b2 at *
  generalize (2 : Nat) ^ (-(E + 63)).toNat = b3 at *
  generalize (2 : Nat) ^ (E + 63).toNat = b4 at *
  clear h1 h2
  calc a0 * (a1 * b1) * (a3 * b3) = (a0 * a1 * a3) * b1 * b3 := by grind
    _ = a2 * b1 * (a4 * b3) := by rw [e1]; grind
    _ ≤ a2 * b1 * (b4 * a3) := Nat.mul_le_mul_left _ hlog
    _ = a2 * a3 * (b1 * b4) := by grind
    _ = a2 * a3 * (9223372036854775808 * b2 * b3) := by rw [e2]
    _ = 9223372036854775808 * (a2 * a3 * b2 * b3) := by grind
    _ ≤ x * (a2 * a3 * b2 * b3) := Nat.mul_le_mul_right _ hx1
    _ = x * a2 * b2 * (a3 * b3) := by grind

theorem fmt_upper {x n : Nat} {E : Int} (hn1 : 1 ≤ n) (h1 : -1074 ≤ E + 63) (h2 : E + 63 ≤ 1023) (hx2 : x < T64) :
    fA x E (fpP n (E + 63)) < 2 * 10 ^ n * fB E (fpP n (E + 63)) := by
  have hlog := (of_decide_eq_true (log_ok h1 h2)).2
  obtain ⟨k, hk⟩ : ∃ k, k = l10 (E + 63) := ⟨_, rfl⟩
  obtain ⟨p, hp⟩ : ∃ p, p = fpP n (E + 63) := ⟨_, rfl⟩
  have hpk : p = (n : Int) - 1 - k := by rw [hp, hk]; rfl
  rw [← hk] at hlog
  rw [← hp]
  unfold fA fB
  have q : ∀ z : Nat, 0 < 2 ^ z := fun z => Nat.pow_pos (by omega)
  have t : ∀ z : Nat, 0 < 10 ^ z := fun z => Nat.pow_pos (by omega)
  have e1 : 10 ^ n * 10 ^ (-p).toNat * 10 ^ (-(k + 1)).toNat = 10 ^ p.toNat * 10 ^ (k + 1).toNat := by
    rw [← Nat.pow_add, ← Nat.pow_add, ← Nat.pow_add]; congr 1; omega
  have e2 : 9223372036854775808 * 2 ^ E.toNat * 2 ^ (-(E + 63)).toNat = 2 ^ (-E).toNat * 2 ^ (E + 63).toNat := by
    have : (9223372036854775808 : Nat) = 2 ^ 63 := rfl
    rw [this, ← Nat.pow_add, ← Nat.pow_add, ← Nat.pow_add]; congr 1; omega
  have c1 := t p.toNat
  have c2 := q (-E).toNat
  have c3 := t (-(k + 1)).toNat
  have c4 := q (-(E + 63)).toNat
  have c5 := q E.toNat
  refine Nat.lt_of_mul_lt_mul_right (a := 10 ^ (-(k + 1)).toNat * 2 ^ (-(E + 63)).toNat) ?_
  clear hk hp hpk
  generalize (10 : Nat) ^ n = a0 at *
  generalize (10 : Nat) ^ (-p).toNat = a1 at *
  generalize (10 : Nat) ^ p.toNat = a2 at *
  generalize (10 : Nat) ^ (-(k + 1)).toNat = a3 at *
  generalize (10 : Nat) ^ (k + 1).toNat = a4 at *
  generalize (2 : Nat) ^ (-E).toNat = b1 at *
  generalize (2 : Nat) ^ E.toNat = b2 at *
  generalize (2 : Nat) ^ (-(E + 63)).toNat = b3 at *
  generalize (2 : Nat) ^ (E + 63).toNat = b4 at *
  clear h1 h2
  calc x * a2 * b2 * (a3 * b3) = x * (a2 * a3 * b2 * b3) := by grind
    _ < T64 * (a2 * a3 * b2 * b3) := Nat.mul_lt_mul_of_pos_right hx2 (Nat.mul_pos (Nat.mul_pos (Nat.mul_pos c1 c3) c5) c4)
    _ = 2 * (a2 * a3 * (9223372036854775808 * b2 * b3)) := by rw [show T64 = 2 * 9223372036854775808 from rfl]; grind
    _ = 2 * (a2 * b1 * (b4 * a3)) := by rw [e2]; grind
    _ ≤ 2 * (a2 * b1 * (a4 * b3)) := Nat.mul_le_mul_left _ (Nat.mul_le_mul_left _ (Nat.le_of_lt hlog))
    _ = 2 * b1 * b3 * (a2 * a4) := by grind
    _ = 2 * b1 * b3 * (a0 * a1 * a3) := by rw [e1]
    _ = 2 * a0 * (a1 * b1) * (a3 * b3) := by grind

/-- 'div(10)' of an unrounded number. -/
theorem unr_tenth {X B : Nat} (hB : 0 < B) : (unr X B / 10 ||| unr X B % 2) ||| (if unr X B % 10 ≠ 0 then 1 else 0) = unr X (10 * B) := by
  have hq : X / (10 * B) = X / B / 10 := by rw [Nat.mul_comm, Nat.div_div_eq_div_mul]
  have hm : X % (10 * B) = 0 ↔ (X / B % 10 = 0 ∧ X % B = 0) := by
    have d1 := Nat.div_add_mod X B
    have d2 := Nat.div_add_mod (X / B) 10
    have m1 := Nat.mod_lt X hB
    constructor
    · intro h
      obtain ⟨z, hz⟩ := Nat.dvd_of_mod_eq_zero h
      have : X = B * (10 * z) := by rw [hz]; grind
      rw [this, Nat.mul_div_cancel_left _ hB]
      exact ⟨Nat.mul_mod_right _ _, Nat.mul_mod_right _ _⟩
    · rintro ⟨h1, h2⟩
      rw [h1, Nat.add_zero] at d2
      rw [h2, Nat.add_zero] at d1
      rw [← d1, ← d2]
      have : B * (10 * (X / B / 10)) = 10 * B * (X / B / 10) := by grind
      rw [this]
      exact Nat.mul_mod_right _ _
  rw [unr_val X (10 * B), hq]
  rw [unr_val X B]
  generalize X / B = z at *
  have or1 : ∀ n : Nat, n ||| 1 = n / 2 * 2 + 1 := or_one
  by_cases hx : X % B = 0
  · rw [if_pos hx]
    by_cases hz : z % 10 = 0
    · rw [if_pos (hm.2 ⟨hz, hx⟩), if_neg (by omega)]
      have : z % 2 = 0 := by omega
      rw [this, Nat.or_zero, Nat.or_zero]
    · rw [if_neg (fun h => hz (hm.1 h).1), if_pos hz]
      rcases Nat.mod_two_eq_zero_or_one z with h2 | h2
      · rw [h2, Nat.or_zero, or1]
      · rw [h2, or1, or1]
        omega
  · rw [if_neg hx, if_neg (fun h => hx (hm.1 h).2)]
    have h2 : (z / 2 * 2 + 1) % 2 = 1 := by omega
    have h10 : (z / 2 * 2 + 1) % 10 ≠ 0 := by omega
    have hd : (z / 2 * 2 + 1) / 10 = z / 10 := by omega
    rw [h2, if_pos h10, hd, or1, or1]
    omega

end Go.Proofs.YtamdnnkdnhkghaaGreatDoor

namespace Go.Proofs.YtamdnnkdnhkghaaGreatDoor

open Go Go.RowKit

set_option linter.unusedVariables false

theorem log10Pow2_any (x : Int) (w : World) (h1 : -2000 ≤ x) (h2 : x ≤ 2000) :
    Calls Tryz.prog 176 #[.int .i64 x] w fun e w' => e = .returned (.int .i64 (l10 x)) ∧ w' = w := by
  go_enter Tryz.func176, Tryz.ntmps176
  go_wp2
  go_ret
  exact ⟨rfl, rfl⟩

theorem unmin_gen (x : Nat) (w : World) (h1 : 1 ≤ x) (h2 : x ≤ 1000000000000000000) :
    Calls Tryz.prog 242 #[.int .u64 x] w fun e w' => e = .returned (.int .u64 ((4 * x - 2 : Nat) : Int)) ∧ w' = w := by
  have e : ((4 * x - 2 : Nat) : Int) = (x : Int) * 4 - 2 := by omega
  rw [e]
  go_enter Tryz.func242, Tryz.ntmps242
  go_wp2
  go_ret
  exact ⟨rfl, rfl⟩

/-- A tenth, unrounded. -/
def tenth (u : Nat) : Nat := (u / 10 ||| u % 2) ||| (if u % 10 ≠ 0 then 1 else 0)

theorem bool2r_any (b : Bool) (w : World) :
    Calls Tryz.prog 258 #[.bool b] w fun e w' => e = .returned (.int .u64 (if b = true then 1 else 0)) ∧ w' = w := by
  cases b
  all_goals go_enter Tryz.func258, Tryz.ntmps258
  all_goals go_wp2
  all_goals go_ret
  all_goals exact ⟨rfl, rfl⟩

theorem tenth_val {u b : Nat} (h : u < 9223372036854775808) (hb : b ≤ 1) : bits .or .u64 (bits .or .u64 ((u : Int) / 10) (bits .and .u64 (u : Int) 1)) (b : Int) = (((u / 10 ||| u % 2) ||| b : Nat) : Int) := by
  have e1 : bits .and .u64 (u : Int) 1 = ((u % 2 : Nat) : Int) := by
    have := u64_and_nat u 1 (by omega) (by omega)
    rw [Nat.and_one_is_mod] at this
    exact this
  have e2 : (u : Int) / 10 = ((u / 10 : Nat) : Int) := by omega
  have h3 : (u / 10 ||| u % 2) < 2 ^ 63 := Nat.or_lt_two_pow (by omega) (by omega)
  rw [e1, e2, or_val (by omega) (by omega), or_val (by omega) (by omega)]

set_option maxHeartbeats 800000 in
set_option maxRecDepth 100000 in
theorem div_any (u : Nat) (w : World) (h : u < 9223372036854775808) :
    Calls Tryz.prog 243 #[.int .u64 u, .int .u64 10] w fun e w' => e = .returned (.int .u64 (tenth u)) ∧ ∃ n, w' = w.drewN n := by
  by_cases h10 : (u : Int) % 10 = 0
  · have HV : Hid (bits .or .u64 (bits .or .u64 ((u : Int) / 10) (bits .and .u64 (u : Int) 1)) 0 = (tenth u : Int)) := hide (by
      have := tenth_val (b := 0) h (by omega)
      unfold tenth
      rw [if_neg (by omega)]
      exact this)
    go_enter Tryz.func243, Tryz.ntmps243
    go_wp2_with fail
    go_quiet ((go_at_call 258; exact Calls.quiet_of_same (bool2r_any _ _)))
    go_wp2
    all_goals go_ret
    all_goals exact ⟨ret_int HV.out, _, rfl⟩
  · have HV : Hid (bits .or .u64 (bits .or .u64 ((u : Int) / 10) (bits .and .u64 (u : Int) 1)) 1 = (tenth u : Int)) := hide (by
      have := tenth_val (b := 1) h (by omega)
      unfold tenth
      rw [if_pos (by omega)]
      exact this)
    go_enter Tryz.func243, Tryz.ntmps243
    go_wp2_with fail
    go_quiet ((go_at_call 258; exact Calls.quiet_of_same (bool2r_any _ _)))
    go_wp2
    all_goals go_ret
    all_goals exact ⟨ret_int HV.out, _, rfl⟩

set_option maxHeartbeats 1600000 in
set_option maxRecDepth 100000 in
theorem fw_hi (x n i hi lo s u Z : Nat) (E prec p lp : Int) (w : World) (hE1 : -1200 ≤ E) (hE2 : E ≤ 1000) (hn1 : 1 ≤ n) (hn2 : n ≤ 17) (hp : Hid (p = (n : Int) - 1 - l10 (E + 63))) (hp1 : -348 ≤ p) (hp2 : p ≤ 347) (hlp : Hid (lp = lp10 p)) (hl1 : -1200 ≤ lp) (hl2 : lp ≤ 1200)
    (hpi : Hid (p + 348 = (i : Int))) (hi696 : i < 696) (hg : 20 < w.heap.size) (t0 : w.cell? ⟨20, i * 2, none⟩ = some (.int .u64 hi)) (t1 : w.cell? ⟨20, i * 2 + 1, none⟩ = some (.int .u64 lo)) (t2 : w.cell? ⟨6, n, none⟩ = some (.int .u64 Z)) (hZ1 : 1 ≤ Z) (hZ2 : Z ≤ 1000000000000000000)
    (hs : Hid ((s : Int) = -(E + lp + 3))) (hs64 : s < 64) (hx2 : x < 18446744073709551616) (hhi : hi < 18446744073709551616) (hlo : lo < 18446744073709551616) (hpos : Hid (0 < x * hi / T64)) (hu : Hid (u = usc x hi lo s)) (hu63 : u < 9223372036854775808)
    (hge : 4 * Z - 2 ≤ u) :
    Calls Tryz.prog 210 #[.int .u64 x, .int .i64 E, .int .i64 n, .int .i64 prec, .int .u8 101] w fun r w' =>
      r = .returned (.tuple #[.int .u64 (rnd2 (tenth u) : Nat), .int .i64 (-(p - 1))]) ∧ Below w.heap.size w w' := by
  have hl : -400 ≤ l10 (E + 63) ∧ l10 (E + 63) ≤ 400 := by unfold l10; omega
  obtain ⟨hl3, hl4⟩ := hl
  have hpk : (n : Int) - 1 - l10 (E + 63) = p := hp.out.symm
  clear hp
  have HL := hide (fun w => log10Pow2_any (E + 63) w (by omega) (by omega))
  generalize l10 (E + 63) = k at *
  have HLP := hide (fun w => log2Pow10_any p w (by omega) (by omega))
  rw [← hlp.out] at HLP
  have HU := hide (fun w => unmin_gen Z w hZ1 hZ2)
  go_enter Tryz.func210, Tryz.ntmps210
  go_wp2_with fail
  refine (HL.out _).mono ?_
  rintro r w1 ⟨rfl, rfl⟩
  go_wp2_with fail
  refine (HLP.out _).mono ?_
  rintro r w1 ⟨rfl, rfl⟩
  go_wp2_with fail
  refine (prescale_any i hi lo _ E lp p _ hpi.out hi696 (by omega) (by omega) (by omega) (by omega) hg (by simp) (by simp) (by simp) (alloc_cell (by omega) t0) (alloc_cell (by omega) t1) (by simp) (by simp) (by simp)).mono ?_
  rintro r w2 ⟨rfl, rfl⟩
  have hss : -(E + lp + 3) = (s : Int) := by have := hs.out; omega
  rw [hss]
  clear hss
  go_wp2_with fail
  refine (uscale_any x hi lo s _ _ hx2 hhi hlo hs64 hpos.out (by simp) (by simp) (by simp)).mono ?_
  rintro r w2 ⟨rfl, m, hw2⟩
  have hb : Below w1.heap.size w1 w2 := by
    rw [hw2]
    exact below_drw ((Below.refl _ _).alloc (Nat.le_refl _) _) _
  have hc : w2.cell? ⟨6, n, none⟩ = some (.int .u64 Z) := (hb.cell (p := ⟨6, n, none⟩) (show 6 < w1.heap.size by omega)).trans t2
  have HB := hide hb
  clear hw2 hb
  rw [← hu.out]
  have hge2 : ((4 * Z - 2 : Nat) : Int) ≤ (u : Int) := by omega
  have HD := hide (fun w => div_any u w hu63)
  have ht63 : tenth u < 9223372036854775808 := by
    have e : tenth u < 2 ^ 63 := by
      unfold tenth
      refine Nat.or_lt_two_pow (Nat.or_lt_two_pow (by omega) (by omega)) ?_
      split <;> omega
    exact e
  have HRd := hide (fun w => round_any (tenth u) w ht63)
  go_wp2_with fail
  refine (HU.out _).mono ?_
  rintro r w' ⟨rfl, rfl⟩
  go_wp2_with fail
  refine (HD.out _).mono ?_
  rintro r w3 ⟨rfl, m2, rfl⟩
  go_wp2_with fail
  refine (HRd.out _).mono ?_
  rintro r w4 ⟨rfl, rfl⟩
  go_wp2
  all_goals go_ret2
  all_goals exact ⟨rfl, below_drw HB.out _⟩

set_option maxHeartbeats 1600000 in
set_option maxRecDepth 100000 in
theorem fw_lo (x n i hi lo s u Z : Nat) (E prec p lp : Int) (w : World) (hE1 : -1200 ≤ E) (hE2 : E ≤ 1000) (hn1 : 1 ≤ n) (hn2 : n ≤ 17) (hp : Hid (p = (n : Int) - 1 - l10 (E + 63))) (hp1 : -348 ≤ p) (hp2 : p ≤ 347) (hlp : Hid (lp = lp10 p)) (hl1 : -1200 ≤ lp) (hl2 : lp ≤ 1200)
    (hpi : Hid (p + 348 = (i : Int))) (hi696 : i < 696) (hg : 20 < w.heap.size) (t0 : w.cell? ⟨20, i * 2, none⟩ = some (.int .u64 hi)) (t1 : w.cell? ⟨20, i * 2 + 1, none⟩ = some (.int .u64 lo)) (t2 : w.cell? ⟨6, n, none⟩ = some (.int .u64 Z)) (hZ1 : 1 ≤ Z) (hZ2 : Z ≤ 1000000000000000000)
    (hs : Hid ((s : Int) = -(E + lp + 3))) (hs64 : s < 64) (hx2 : x < 18446744073709551616) (hhi : hi < 18446744073709551616) (hlo : lo < 18446744073709551616) (hpos : Hid (0 < x * hi / T64)) (hu : Hid (u = usc x hi lo s)) (hu63 : u < 9223372036854775808)
    (hge : ¬ 4 * Z - 2 ≤ u) :
    Calls Tryz.prog 210 #[.int .u64 x, .int .i64 E, .int .i64 n, .int .i64 prec, .int .u8 101] w fun r w' =>
      r = .returned (.tuple #[.int .u64 (rnd2 u : Nat), .int .i64 (-p)]) ∧ Below w.heap.size w w' := by
  have hl : -400 ≤ l10 (E + 63) ∧ l10 (E + 63) ≤ 400 := by unfold l10; omega
  obtain ⟨hl3, hl4⟩ := hl
  have hpk : (n : Int) - 1 - l10 (E + 63) = p := hp.out.symm
  clear hp
  have HL := hide (fun w => log10Pow2_any (E + 63) w (by omega) (by omega))
  generalize l10 (E + 63) = k at *
  have HLP := hide (fun w => log2Pow10_any p w (by omega) (by omega))
  rw [← hlp.out] at HLP
  have HU := hide (fun w => unmin_gen Z w hZ1 hZ2)
  go_enter Tryz.func210, Tryz.ntmps210
  go_wp2_with fail
  refine (HL.out _).mono ?_
  rintro r w1 ⟨rfl, rfl⟩
  go_wp2_with fail
  refine (HLP.out _).mono ?_
  rintro r w1 ⟨rfl, rfl⟩
  go_wp2_with fail
  refine (prescale_any i hi lo _ E lp p _ hpi.out hi696 (by omega) (by omega) (by omega) (by omega) hg (by simp) (by simp) (by simp) (alloc_cell (by omega) t0) (alloc_cell (by omega) t1) (by simp) (by simp) (by simp)).mono ?_
  rintro r w2 ⟨rfl, rfl⟩
  have hss : -(E + lp + 3) = (s : Int) := by have := hs.out; omega
  rw [hss]
  clear hss
  go_wp2_with fail
  refine (uscale_any x hi lo s _ _ hx2 hhi hlo hs64 hpos.out (by simp) (by simp) (by simp)).mono ?_
  rintro r w2 ⟨rfl, m, hw2⟩
  have hb : Below w1.heap.size w1 w2 := by
    rw [hw2]
    exact below_drw ((Below.refl _ _).alloc (Nat.le_refl _) _) _
  have hc : w2.cell? ⟨6, n, none⟩ = some (.int .u64 Z) := (hb.cell (p := ⟨6, n, none⟩) (show 6 < w1.heap.size by omega)).trans t2
  have HB := hide hb
  clear hw2 hb
  rw [← hu.out]
  have hge2 : ¬ ((4 * Z - 2 : Nat) : Int) ≤ (u : Int) := by omega
  have HRd := hide (fun w => round_any u w hu63)
  go_wp2_with fail
  refine (HU.out _).mono ?_
  rintro r w' ⟨rfl, rfl⟩
  go_wp2_with fail
  refine (HRd.out _).mono ?_
  rintro r w4 ⟨rfl, rfl⟩
  go_wp2
  all_goals go_ret2
  all_goals exact ⟨rfl, HB.out⟩

/-- What 'fixedWidthFloat' reckons: v * 10^p rounded to n digits, v = x * 2^E. -/
structure FixW (x n : Nat) (E : Int) (d : Nat) (q : Int) : Prop where
  lo : 10 ^ (n - 1) ≤ d
  hi : d < 10 ^ n
  val : (q = fpP n (E + 63) ∧ d = rq (fA x E q) (fB E q)) ∨ (q = fpP n (E + 63) - 1 ∧ d = rq (fA x E (q + 1)) (10 * fB E (q + 1)) ∧ 10 ^ n ≤ rq (fA x E (q + 1)) (fB E (q + 1)))

theorem rnd2_ge {u Z : Nat} (hZ : Z % 2 = 0) (hZ1 : 1 ≤ Z) : 4 * Z - 2 ≤ u ↔ Z ≤ rnd2 u := by
  unfold rnd2
  constructor
  · intro h
    rw [Nat.le_div_iff_mul_le (by omega)]
    by_cases h2 : 4 * Z ≤ u
    · omega
    · have h3 : u / 4 = Z - 1 := by omega
      rw [h3]
      omega
  · intro h
    rw [Nat.le_div_iff_mul_le (by omega)] at h
    refine Classical.byContradiction fun hn => ?_
    have h4 : u / 4 % 2 ≤ 1 := by omega
    omega

end Go.Proofs.YtamdnnkdnhkghaaGreatDoor

namespace Go.Proofs.YtamdnnkdnhkghaaGreatDoor

open Go Go.RowKit

set_option linter.unusedVariables false

theorem rq_half {A B k : Nat} (hB : 0 < B) (h : k ≤ rq A B) : (2 * k) * B ≤ 2 * A + B := by
  have hd := Nat.div_add_mod A B
  have hm := Nat.mod_lt A hB
  unfold rq at h
  split at h
  · rename_i hc
    have h1 : k ≤ A / B + 1 := h
    have h2 : B ≤ 2 * (A % B) := by omega
    have h3 : (2 * k) * B ≤ (2 * (A / B + 1)) * B := Nat.mul_le_mul_right _ (by omega)
    have h4 : (2 * (A / B + 1)) * B = 2 * (B * (A / B)) + 2 * B := by grind
    omega
  · have h3 : (2 * k) * B ≤ (2 * (A / B)) * B := Nat.mul_le_mul_right _ (by omega)
    have h4 : (2 * (A / B)) * B = 2 * (B * (A / B)) := by grind
    omega

theorem rq_tenth {A B k : Nat} (hB : 0 < B) (hk : 1 ≤ k) (h : 10 * k ≤ rq A B) : k ≤ rq A (10 * B) := by
  have h1 := rq_half hB h
  by_cases hA : 10 * B * k ≤ A
  · exact rq_ge' (Nat.mul_pos (by omega) hB) hA
  · have hlt : A < 10 * B * k := by omega
    have e1 : 2 * (10 * k) * B = 2 * (10 * B * k) := by grind
    rw [e1] at h1
    obtain ⟨j, rfl⟩ : ∃ j, k = j + 1 := ⟨k - 1, by omega⟩
    have e2 : 10 * B * (j + 1) = 10 * B * j + 10 * B := by rw [Nat.mul_add, Nat.mul_one]
    rw [e2] at h1 hlt
    have hq : A / (10 * B) = j := by
      refine Nat.div_eq_of_lt_le ?_ ?_
      · rw [Nat.mul_comm]; omega
      · rw [Nat.mul_comm, e2]; exact hlt
    have hr : A % (10 * B) = A - 10 * B * j := by
      have := Nat.div_add_mod A (10 * B)
      rw [hq] at this
      omega
    unfold rq
    rw [hq, hr, if_pos (by left; omega)]
    exact Nat.le_refl _

theorem ten_le {n : Nat} (h : n ≤ 17) : 10 ^ n ≤ 100000000000000000 := Nat.pow_le_pow_right (by omega) h

/-- 'fixedWidthFloat' of a float's parts. -/
theorem fixed_any (x y n : Nat) (E prec : Int) (w : World) (hxy : x = 2048 * y) (hx1 : 9223372036854775808 ≤ x) (hx2 : x < 18446744073709551616) (h1 : -1074 ≤ E + 63) (h2 : E + 63 ≤ 1023) (hn1 : 1 ≤ n) (hn2 : n ≤ 17) (hg : 20 < w.heap.size)
    (hrow : ∀ i, i < 696 → w.cell? ⟨20, i * 2, none⟩ = some (.int .u64 ((Go.Pinned.pow10Rows.getD i (0, 0)).1 : Nat)) ∧ w.cell? ⟨20, i * 2 + 1, none⟩ = some (.int .u64 ((Go.Pinned.pow10Rows.getD i (0, 0)).2 : Nat)))
    (hten : w.cell? ⟨6, n, none⟩ = some (.int .u64 ((10 ^ n : Nat) : Int))) :
    Calls Tryz.prog 210 #[.int .u64 x, .int .i64 E, .int .i64 n, .int .i64 prec, .int .u8 101] w fun r w' => ∃ (d : Nat) (q : Int), r = .returned (.tuple #[.int .u64 d, .int .i64 (-q)]) ∧ FixW x n E d q ∧ Below w.heap.size w w' := by
  obtain ⟨p, hp⟩ : ∃ p, p = fpP n (E + 63) := ⟨_, rfl⟩
  have hpr := fpP_range hn1 hn2 h1 h2
  have hsr := shift_ok hn1 hn2 h1 h2
  rw [← hp] at hpr
  have hsp : fpS n (E + 63) = -(E + lp10 p + 3) := by unfold fpS; rw [← hp]; omega
  rw [hsp] at hsr
  obtain ⟨s, hs⟩ : ∃ s : Nat, (s : Int) = -(E + lp10 p + 3) := ⟨(-(E + lp10 p + 3)).toNat, by omega⟩
  have hrw := of_decide_eq_true (row_ok (p := p) hpr.1 hpr.2)
  obtain ⟨r1, r2, _, _, _⟩ := hrw
  have hhi := row_hi (p := p) hpr.1 hpr.2
  have hu := fmt_unr (s := s) (E := E) (p := p) hxy hx1 hx2 hpr.1 hpr.2 hs (by omega)
  have hlow := fmt_lower (n := n) (E := E) hn1 h1 h2 hx1
  have hupp := fmt_upper (n := n) (E := E) hn1 h1 h2 hx2
  rw [← hp] at hlow hupp
  have hB := fB_pos E p
  have h10 := ten_le hn2
  have h10p : 0 < 10 ^ n := Nat.pow_pos (by omega)
  have hn10 : 10 ^ n = 10 * 10 ^ (n - 1) := by
    obtain ⟨j, rfl⟩ : ∃ j, n = j + 1 := ⟨n - 1, by omega⟩
    rw [Nat.pow_succ, Nat.add_sub_cancel]; omega
  have hev : 10 ^ n % 2 = 0 := by rw [hn10]; omega
  have hpos : 0 < x * (rowAt p).1 / T64 := by
    rw [Nat.div_pos_iff]
    refine ⟨by rw [e64]; omega, ?_⟩
    have : 9223372036854775808 * 9223372036854775808 ≤ x * (rowAt p).1 := Nat.mul_le_mul hx1 hhi
    rw [e64]; omega
  have hul : usc x (rowAt p).1 (rowAt p).2 s < 9223372036854775808 := by
    rw [hu]
    have h3 := unr_le (4 * fA x E p) (fB E p)
    have h4 : 4 * fA x E p / fB E p < 8 * 10 ^ n := by
      rw [Nat.div_lt_iff_lt_mul hB]
      have : 8 * 10 ^ n * fB E p = 4 * (2 * 10 ^ n * fB E p) := by grind
      omega
    omega
  have t01 := hrow (p + 348).toNat (by omega)
  have hlb : -1200 ≤ lp10 p ∧ lp10 p ≤ 1200 := by unfold lp10; omega
  have hrnd := rnd2_unr (N := fA x E p) hB
  by_cases hge : 4 * 10 ^ n - 2 ≤ usc x (rowAt p).1 (rowAt p).2 s
  · refine (fw_hi x n (p + 348).toNat (rowAt p).1 (rowAt p).2 s _ (10 ^ n) E prec p (lp10 p) w (by omega) (by omega) hn1 hn2 (hide hp) hpr.1 hpr.2 (hide rfl) hlb.1 hlb.2 (hide (by omega)) (by omega) hg t01.1 t01.2 hten h10p (by omega) (hide hs) (by omega) hx2 r1 r2 (hide hpos) (hide rfl) hul hge).mono ?_
    rintro r w' ⟨rfl, hb⟩
    refine ⟨_, p - 1, rfl, ?_, hb⟩
    have hten2 : tenth (usc x (rowAt p).1 (rowAt p).2 s) = unr (4 * fA x E p) (10 * fB E p) := by
      rw [hu]
      exact unr_tenth hB
    have hB10 : 0 < 10 * fB E p := Nat.mul_pos (by omega) hB
    have hd : rnd2 (tenth (usc x (rowAt p).1 (rowAt p).2 s)) = rq (fA x E p) (10 * fB E p) := by rw [hten2, rnd2_unr hB10]
    rw [hd]
    have hbig : 10 ^ n ≤ rq (fA x E p) (fB E p) := by
      rw [← hrnd, ← hu]
      exact (rnd2_ge hev h10p).1 hge
    have hp1 : p - 1 + 1 = p := by omega
    refine ⟨?_, ?_, .inr ⟨by rw [hp], by rw [hp1], by rw [hp1]; exact hbig⟩⟩
    · refine rq_tenth hB (Nat.pow_pos (by omega)) ?_
      rw [← hn10]
      exact hbig
    · have : rq (fA x E p) (10 * fB E p) ≤ 2 * 10 ^ (n - 1) := by
        refine rq_le hB10 ?_
        have : 10 * fB E p * (2 * 10 ^ (n - 1)) = 2 * (10 * 10 ^ (n - 1)) * fB E p := by grind
        rw [this, ← hn10]
        exact Nat.le_of_lt hupp
      have h1p : 0 < 10 ^ (n - 1) := Nat.pow_pos (by omega)
      omega
  · refine (fw_lo x n (p + 348).toNat (rowAt p).1 (rowAt p).2 s _ (10 ^ n) E prec p (lp10 p) w (by omega) (by omega) hn1 hn2 (hide hp) hpr.1 hpr.2 (hide rfl) hlb.1 hlb.2 (hide (by omega)) (by omega) hg t01.1 t01.2 hten h10p (by omega) (hide hs) (by omega) hx2 r1 r2 (hide hpos) (hide rfl) hul hge).mono ?_
    rintro r w' ⟨rfl, hb⟩
    refine ⟨_, p, rfl, ?_, hb⟩
    have hsm : ¬ 10 ^ n ≤ rnd2 (usc x (rowAt p).1 (rowAt p).2 s) := fun h => hge ((rnd2_ge hev h10p).2 h)
    rw [hu, hrnd] at hsm ⊢
    refine ⟨rq_ge' hB (by rw [Nat.mul_comm]; exact hlow), by omega, .inl ⟨hp, rfl⟩⟩

end Go.Proofs.YtamdnnkdnhkghaaGreatDoor

namespace Go.Proofs.YtamdnnkdnhkghaaGreatDoor

open Go Go.RowKit

set_option linter.unusedVariables false

/-- The digit at place j from the left, of n. -/
def dgA (d n j : Nat) : Int := ((Lib.dg d (n - 1 - j)).toNat : Int)

theorem dgA_val (d n j : Nat) : dgA d n j = 48 + ((d / 10 ^ (n - 1 - j) % 10 : Nat) : Int) := by
  unfold dgA Lib.dg
  rw [UInt8.toNat_ofNat']
  omega

theorem dgA_range (d n j : Nat) : 48 ≤ dgA d n j ∧ dgA d n j ≤ 57 := by rw [dgA_val]; omega

/-- What 'setDigits' leaves. -/
structure SetD (w w' : World) (g d n nz : Nat) : Prop where
  dig : ∀ j, j < n → w'.cell? ⟨g, j, none⟩ = some (.int .u8 (dgA d n j))
  le : nz ≤ n
  tail : ∀ j, nz ≤ j → j < n → dgA d n j = 48
  last : nz = 0 ∨ dgA d n (nz - 1) ≠ 48
  bel : Below g w w'

theorem below_put {w : World} {g m : Nat} {d : Array UInt8} : Below g w ((Sort.putRow (fun (b : UInt8) => Value.int .u8 (b.toNat : Int)) w g 0 d).drewN m) := by
  refine below_drw (B := g) (a := w) (w := Sort.putRow (fun (b : UInt8) => Value.int .u8 (b.toNat : Int)) w g 0 d) ⟨rfl, rfl, rfl, Nat.le_of_eq (Sort.size_putRow _ _ _ _ _).symm, fun k hk => ?_⟩ m
  unfold Sort.putRow Sort.mapBlock
  rw [Array.getElem?_modify, if_neg (by omega)]

set_option maxHeartbeats 1600000 in
set_option maxRecDepth 100000 in
theorem setDigits_any (g d n : Nat) (P : Int) (w : World) (hg : g < w.heap.size) (hn1 : 1 ≤ n) (hn2 : n ≤ 17) (hd : d < 10 ^ n) (hP1 : -1000 ≤ P) (hP2 : P ≤ 1000)
    (hc : ∀ j, j < 24 → w.cell? ⟨g, j, none⟩ = some (.int .u8 0) ∧ w.frozen? ⟨g, j, none⟩ = false) :
    Calls Tryz.prog 209 #[.slice (some ⟨g, 0, none⟩) 24 24, .int .u64 d, .int .i64 P, .int .i64 n] w fun r w' => ∃ nz : Nat, r = .returned (.tuple #[.int .i64 (n + P), .int .i64 nz]) ∧ SetD w w' g d n nz := by
  have h18 := ten_le hn2
  have HHo : Hid (Sort.Holds (fun (b : UInt8) => Value.int .u8 (b.toNat : Int)) w g 0 (Array.replicate n 0)) := hide (fun j hj => by
    rw [Array.size_replicate] at hj
    have := hc j (by omega)
    rw [Nat.zero_add]
    refine ⟨?_, this.2⟩
    rw [this.1, getElem!_pos _ j (by rw [Array.size_replicate]; exact hj), Array.getElem_replicate]
    rfl)
  have HF := Tryz.internal_strconv_formatBase10 g 0 24 d (Array.replicate n 0) w HHo.out (by rw [Array.size_replicate]; exact hd) (by omega) (by rw [Array.size_replicate]; omega)
  rw [Array.size_replicate] at HF
  have HH := hide HF
  clear HF
  go_enter Tryz.func209, Tryz.ntmps209
  go_wp2_with fail
  refine HH.out.mono ?_
  rintro e w1 ⟨rfl, m, v', dk, hw1, hfm⟩
  have hcell : ∀ j, j < n → w1.cell? ⟨g, j, none⟩ = some (.int .u8 (dgA d n j)) := by
    intro j hj
    rw [hw1]
    have h1 := Sort.cell?_putRow (fun (b : UInt8) => Value.int .u8 (b.toNat : Int)) w g 0 (Array.replicate n 0) dk HHo.out (by rw [hfm.size, Array.size_replicate]) j (by rw [hfm.size]; exact hj)
    rw [Nat.zero_add, hfm.done j (Nat.zero_le _) hj] at h1
    exact h1
  have hb1 : Below g w w1 := by rw [hw1]; exact below_put
  have hsz : w1.heap.size = w.heap.size := by rw [hw1]; simp
  clear hw1
  have Hc := hide hcell
  have HB := hide hb1
  clear hcell hb1 hc
  go_wp2_with fail
  go_loop [3] (fun nv => ∃ k : Nat, nv = .int .i64 k ∧ k ≤ n ∧ Hid (∀ j, k ≤ j → j < n → dgA d n j = 48)) (fun nv => (intOf nv).toNat)
  case atStart => exact ⟨n, rfl, Nat.le_refl _, hide (fun j h1 h2 => by omega)⟩
  case round =>
    obtain ⟨k, rfl, hk, Ht⟩ := hrel
    by_cases h0 : 0 < k
    · have hck := Hc.out (k - 1) (by omega)
      have hr := dgA_range d n (k - 1)
      by_cases h48 : dgA d n (k - 1) = 48
      · have Hn : Hid (∀ j, k - 1 ≤ j → j < n → dgA d n j = 48) := hide (fun j h1 h2 => by
          by_cases e : j = k - 1
          · rw [e]; exact h48
          · exact Ht.out j (by omega) h2)
        rw [h48] at hck
        clear h48 hr Ht
        go_wp2
        go_round
        case rel => exact ⟨k - 1, by go_num, by omega, Hn⟩
        case measure => simp [intOf]; omega
      · have hne : (dgA d n (k - 1) == 48) = false := by rw [beq_eq_false_iff_ne]; exact h48
        have Hl := hide h48
        clear h48
        go_wp2
        go_ret2
        exact ⟨k, rfl, Hc.out, hk, Ht.out, .inr Hl.out, HB.out⟩
    · have hk0 : k = 0 := by omega
      subst hk0
      go_wp2
      go_ret2
      exact ⟨0, rfl, Hc.out, hk, Ht.out, .inl rfl, HB.out⟩

end Go.Proofs.YtamdnnkdnhkghaaGreatDoor

namespace Go.Proofs.YtamdnnkdnhkghaaGreatDoor

open Go Go.RowKit

set_option linter.unusedVariables false

/-- The call's own bytes L at v, beside the block g that holds N. -/
structure Efg (w0 : World) (base g : Nat) (N : List Int) (w : World) (v : Value) (L : List Int) : Prop where
  own : OwnB w base v L
  ne : v.ownBlock ≠ some g
  lt : g < w.heap.size
  cells : ∀ j, j < N.length → w.cell? ⟨g, j, none⟩ = some (.int .u8 (N.getD j 0))
  bas : base ≤ w.heap.size
  bel : Below base w0 w

theorem Efg.alloc {w0 : World} {base g : Nat} {N : List Int} {w : World} {v : Value} {L : List Int} (h : Efg w0 base g N w v L) (o : Obj) : Efg w0 base g N (w.alloc o) v L := by
  refine ⟨⟨h.own.1.alloc _, h.own.2⟩, h.ne, by have := h.lt; simp; omega, fun j hj => ?_, by have := h.bas; simp; omega, h.bel.alloc h.bas _⟩
  have hb : Below w.heap.size w (w.alloc o) := (Below.refl _ _).alloc (Nat.le_refl _) o
  rw [hb.cell (p := ⟨g, j, none⟩) h.lt]
  exact h.cells j hj

theorem efg_gen {w0 : World} {base g : Nat} {N : List Int} {wr : World} {v : Value} {L : List Int} {ops : Array Oper} {rest : List Oper} {o : Oper} {a : Act} {Q : Exit → Act → World → Prop} (he : Efg w0 base g N wr v L) (hgd : o.guard = none) (s x : Operand)
    (ho : o.op = .call { callee := .builtin .append, args := #[s, x], argTypes := #[29, 29] }) (hs : a.eval s = v) (ad : Addr) (m c : Nat) (Z : List Int) (hx : a.eval x = .slice (some ad) m c) (hm : Z.length = m) (hcell : ∀ j u, (Z.map (Value.int .u8))[j]? = some u → wr.cell? (ad.add j) = some u)
    (hlen : L.length ≤ 1000) (hz : m ≤ 1000)
    (h : ∀ v' w', Efg w0 base g N w' v' (L ++ Z) → wpList Tryz.prog ops Q rest (a.put o.dst v') w') :
    wpList Tryz.prog ops Q (o :: rest) a wr := by
  obtain ⟨i0, hi, hz0, hz1, hz2⟩ := info_parts Tryz.info5
  subst hm
  refine wpList_append_own_at _ hgd s x 29 ho base 5 i0 (.int .u8 0) 1 1 Tryz.underlying29 hi hz0 hz1 hz2 rfl (by decide) v L.length (L.map (Value.int .u8)) hs he.own.1 ad Z.length c (Z.map (Value.int .u8)) hx (by simp) hcell
    (ints_oneCell _ _) (by unfold maxLen; omega) (by omega) he.bas ?_
  intro v' w' h1 h2 h3 h4
  have hsz := h2.size
  refine h v' w' ⟨⟨by simpa using h1, fun hh => he.own.2 (h3.1 hh).1⟩, ?_, by have := he.lt; omega, fun j hj => h2.cell (a := ⟨g, j, none⟩) (he.cells j hj) (fun hh => he.ne hh.symm), by have := he.bas; omega, he.bel.grown h2 he.bas (fun q hq => (he.own.1.lt q hq).1)⟩
  rcases h4 with h4 | h4
  · rw [h4]; exact he.ne
  · rw [h4]
    have := he.lt
    intro hh
    have := Option.some.inj hh
    omega

theorem efg_new {w0 : World} {base g : Nat} {N : List Int} {wr : World} {v : Value} {L : List Int} {ops : Array Oper} {rest : List Oper} {o : Oper} {a : Act} {Q : Exit → Act → World → Prop} (he : Efg w0 base g N wr v L) (Z : List Int) (m : Nat) (A : Array Value) (hA : A = (Z.map (Value.int .u8)).toArray) (hm : Z.length = m) (hgd : o.guard = none) (s x : Operand)
    (ho : o.op = .call { callee := .builtin .append, args := #[s, x], argTypes := #[29, 29] }) (hs : a.eval s = v) (hx : a.eval x = .slice (some ⟨wr.heap.size, 0, none⟩) m m)
    (hlen : L.length ≤ 1000) (hz : m ≤ 1000)
    (h : ∀ v' w', Efg w0 base g N w' v' (L ++ Z) → wpList Tryz.prog ops Q rest (a.put o.dst v') w') :
    wpList Tryz.prog ops Q (o :: rest) a (wr.alloc (.cells A 5)) := by
  refine efg_gen (he.alloc _) hgd s x ho hs ⟨wr.heap.size, 0, none⟩ m m Z hx hm (fun j u hj => ?_) hlen hz h
  subst hA
  have e : (⟨wr.heap.size, 0, none⟩ : Addr).add j = ⟨wr.heap.size, j, none⟩ := by
    simp only [Addr.add]
    by_cases e : j = 0
    · subst e; simp
    · simp [e]
  rw [e]
  obtain ⟨hlt, hxx⟩ := List.getElem?_eq_some_iff.1 hj
  rw [List.length_map] at hlt
  simp [← hxx, hlt]

theorem efg_one {w0 : World} {base g : Nat} {N : List Int} {wr : World} {v : Value} {L : List Int} {ops : Array Oper} {rest : List Oper} {o : Oper} {a : Act} {Q : Exit → Act → World → Prop} (z : Int) (he : Efg w0 base g N wr v L) (hgd : o.guard = none) (s x : Operand)
    (ho : o.op = .call { callee := .builtin .append, args := #[s, x], argTypes := #[29, 29] }) (hs : a.eval s = v) (hx : a.eval x = .slice (some ⟨wr.heap.size, 0, none⟩) 1 1)
    (hlen : L.length ≤ 1000)
    (h : ∀ v' w', Efg w0 base g N w' v' (L ++ [z]) → wpList Tryz.prog ops Q rest (a.put o.dst v') w') :
    wpList Tryz.prog ops Q (o :: rest) a (wr.alloc (.cells #[.int .u8 z] 5)) :=
  efg_new he [z] 1 _ rfl rfl hgd s x ho hs hx hlen (by omega) h

theorem efg_two {w0 : World} {base g : Nat} {N : List Int} {wr : World} {v : Value} {L : List Int} {ops : Array Oper} {rest : List Oper} {o : Oper} {a : Act} {Q : Exit → Act → World → Prop} (y z : Int) (he : Efg w0 base g N wr v L) (hgd : o.guard = none) (s x : Operand)
    (ho : o.op = .call { callee := .builtin .append, args := #[s, x], argTypes := #[29, 29] }) (hs : a.eval s = v) (hx : a.eval x = .slice (some ⟨wr.heap.size, 0, none⟩) 2 2)
    (hlen : L.length ≤ 1000)
    (h : ∀ v' w', Efg w0 base g N w' v' (L ++ [y, z]) → wpList Tryz.prog ops Q rest (a.put o.dst v') w') :
    wpList Tryz.prog ops Q (o :: rest) a (wr.alloc (.cells #[.int .u8 y, .int .u8 z] 5)) :=
  efg_new he [y, z] 2 _ rfl rfl hgd s x ho hs hx hlen (by omega) h

theorem efg_three {w0 : World} {base g : Nat} {N : List Int} {wr : World} {v : Value} {L : List Int} {ops : Array Oper} {rest : List Oper} {o : Oper} {a : Act} {Q : Exit → Act → World → Prop} (y0 y z : Int) (he : Efg w0 base g N wr v L) (hgd : o.guard = none) (s x : Operand)
    (ho : o.op = .call { callee := .builtin .append, args := #[s, x], argTypes := #[29, 29] }) (hs : a.eval s = v) (hx : a.eval x = .slice (some ⟨wr.heap.size, 0, none⟩) 3 3)
    (hlen : L.length ≤ 1000)
    (h : ∀ v' w', Efg w0 base g N w' v' (L ++ [y0, y, z]) → wpList Tryz.prog ops Q rest (a.put o.dst v') w') :
    wpList Tryz.prog ops Q (o :: rest) a (wr.alloc (.cells #[.int .u8 y0, .int .u8 y, .int .u8 z] 5)) :=
  efg_new he [y0, y, z] 3 _ rfl rfl hgd s x ho hs hx hlen (by omega) h

/-- 'append(dst, s[1:m+1]...)'. -/
theorem efg_buf {w0 : World} {base g : Nat} {N : List Int} {wr : World} {v : Value} {L : List Int} {ops : Array Oper} {rest : List Oper} {o : Oper} {a : Act} {Q : Exit → Act → World → Prop} (m c : Nat) (he : Efg w0 base g N wr v L) (hgd : o.guard = none) (s x : Operand)
    (ho : o.op = .call { callee := .builtin .append, args := #[s, x], argTypes := #[29, 29] }) (hs : a.eval s = v) (hx : a.eval x = .slice (some ⟨g, 1, none⟩) m c)
    (hlen : L.length ≤ 1000) (hm : m + 1 ≤ N.length) (hm1 : m ≤ 1000)
    (h : ∀ v' w', Efg w0 base g N w' v' (L ++ (N.drop 1).take m) → wpList Tryz.prog ops Q rest (a.put o.dst v') w') :
    wpList Tryz.prog ops Q (o :: rest) a wr := by
  refine efg_gen he hgd s x ho hs ⟨g, 1, none⟩ m c ((N.drop 1).take m) hx (by simp; omega) (fun j u hj => ?_) hlen hm1 h
  rw [List.getElem?_map] at hj
  have e : (⟨g, 1, none⟩ : Addr).add j = ⟨g, 1 + j, none⟩ := by
    simp only [Addr.add]
    by_cases e : j = 0
    · subst e; simp
    · simp [e]
  rw [e]
  cases hx : ((N.drop 1).take m)[j]? with
  | none => rw [hx] at hj; simp at hj
  | some x =>
    rw [hx] at hj
    simp at hj
    subst hj
    obtain ⟨hlt, hxx⟩ := List.getElem?_eq_some_iff.1 hx
    have hlt2 : 1 + j < N.length := by simp at hlt; omega
    rw [he.cells (1 + j) hlt2, getD_lt hlt2]
    simp at hxx
    rw [← hxx]
    congr 3
    omega

end Go.Proofs.YtamdnnkdnhkghaaGreatDoor

namespace Go.Proofs.YtamdnnkdnhkghaaGreatDoor

open Go Go.RowKit

set_option linter.unusedVariables false

/-- The digits of an exponent, two at least. -/
def expL (k : Nat) : List Int := if k < 10 then [48, 48 + (k : Int)] else if k < 100 then [48 + (k : Int) / 10, 48 + (k : Int) % 10] else [48 + (k : Int) / 100, 48 + (k : Int) / 10 % 10, 48 + (k : Int) % 10]

/-- d of n digits. -/
def digL (d n : Nat) : List Int := (List.range n).map fun j => dgA d n j

theorem digL_len (d n : Nat) : (digL d n).length = n := by simp [digL]

theorem digL_getD {d n j : Nat} (h : j < n) : (digL d n).getD j 0 = dgA d n j := by
  unfold digL
  rw [getD_lt (by simpa using h)]
  simp

/-- d of n digits with the exponent X. -/
def mantL (d n : Nat) : List Int := [dgA d n 0] ++ (if n = 1 then [] else 46 :: (digL d n).drop 1)

def eTxt (d n : Nat) (X : Int) : List Int := mantL d n ++ [101, if X < 0 then 45 else 43] ++ expL X.natAbs

theorem Efg.cast {w0 : World} {base g : Nat} {N : List Int} {w : World} {v : Value} {L L' : List Int} (h : Efg w0 base g N w v L) (e : L = L') : Efg w0 base g N w v L' := e ▸ h

theorem eTxt_pos (d n k : Nat) : eTxt d n (k : Int) = mantL d n ++ [101] ++ [43] ++ expL k := by
  unfold eTxt
  rw [if_neg (by omega), Int.natAbs_natCast]
  simp

theorem eTxt_neg {d n k : Nat} (h : 0 < k) : eTxt d n (-(k : Int)) = mantL d n ++ [101] ++ [45] ++ expL k := by
  unfold eTxt
  rw [if_pos (by omega), Int.natAbs_neg, Int.natAbs_natCast]
  simp

theorem expL_a {k : Nat} (h : k < 10) : expL k = [48, (k : Int) + 48] := by unfold expL; rw [if_pos h, Int.add_comm]

theorem expL_b {k : Nat} (h : ¬ k < 10) (h2 : k < 100) : expL k = [(k : Int) / 10 + 48, (k : Int) % 10 + 48] := by unfold expL; rw [if_neg h, if_pos h2, Int.add_comm, Int.add_comm 48]

theorem expL_c {k : Nat} (h : ¬ k < 10) (h2 : ¬ k < 100) : expL k = [(k : Int) / 100 + 48, (k : Int) / 10 % 10 + 48, (k : Int) % 10 + 48] := by unfold expL; rw [if_neg h, if_neg h2, Int.add_comm, Int.add_comm 48, Int.add_comm 48]

theorem take_step {d n nz t : Nat} (hz : 1 ≤ nz) (h : nz + t < n) (h48 : dgA d n (nz + t) = 48) : ((digL d n).drop 1).take (nz - 1 + t) ++ [48] = ((digL d n).drop 1).take (nz - 1 + (t + 1)) := by
  rw [← Nat.add_assoc, List.take_succ_eq_append_getElem (by rw [List.length_drop, digL_len]; omega), List.getElem_drop]
  congr 2
  have hlt : 1 + (nz - 1 + t) < (digL d n).length := by rw [digL_len]; omega
  have := digL_getD (d := d) (n := n) (j := 1 + (nz - 1 + t)) (by omega)
  rw [getD_lt hlt] at this
  have e : nz + t = 1 + (nz - 1 + t) := by omega
  rw [this, ← e, h48]

theorem take_all {d n : Nat} : ((digL d n).drop 1).take (n - 1) = (digL d n).drop 1 := by
  rw [List.take_of_length_le (by rw [List.length_drop, digL_len]; omega)]

theorem mantL_big {d n : Nat} (h : 2 ≤ n) : mantL d n = [dgA d n 0] ++ [46] ++ (digL d n).drop 1 := by
  unfold mantL
  rw [if_neg (by omega)]
  simp

end Go.Proofs.YtamdnnkdnhkghaaGreatDoor
