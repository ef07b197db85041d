import Derived.Test.YtamdnnkdnhkghaaGreatDoorT08
import Derived.Laws.FloatArith
import Derived.Test.YtamdnnkdnhkghaaGreatDoorT04
import Derived.Deep.LoopGhost
import Derived.Deep.QuietTactic
import Derived.BigQuiet
import Derived.RegionTactic
import Derived.ChangeAlike
namespace Go.Proofs.YtamdnnkdnhkghaaGreatDoor

open Go Go.RowKit

set_option linter.unusedVariables false

/-- A float with the error of the range beside it, where it is too great. -/
def pfV (W : Nat) : Value := if W = infW then .tuple #[.float .f64 infW, .iface 149 (.int .i64 1)] else .tuple #[.float .f64 W, .nilIface]

theorem packR_pfV (k m : Nat) : packR k m = pfV (min (k * 4503599627370496 + m) infW) := by
  unfold packR pfV
  by_cases h : infW ≤ k * 4503599627370496 + m
  · rw [if_pos h, Nat.min_eq_right h, if_pos rfl]
  · rw [if_neg h, Nat.min_eq_left (by omega), if_neg (by omega)]

theorem unr_le (A B : Nat) : unr A B ≤ A / B + 1 := by rw [unr_val]; split <;> omega

theorem u_small {N D : Nat} (hD : 0 < D) (U : N * 1048576 < D * 18889447917080071372800) : unr (4 * N) D < 288230376151711744 := by
  have h1 := unr_le (4 * N) D
  have h2 : 4 * N / D < 144115188075855872 := by
    rw [Nat.div_lt_iff_lt_mul hD]
    omega
  omega

/-- Far below: 'pre.s' is 64 or more. -/
theorem PF.tiny {d : Nat} {p : Int} {b s ke c : Nat} (h : PF d p b s ke) (hc : c = 1074) (hs : 64 ≤ s) : 2 * (d * 10 ^ p.toNat * 2 ^ c) < 10 ^ (-p).toNat := by
  have hk : ke = 0 := by rcases h.hke with hk | hk; exact hk; omega
  have hbal := h.bal hc
  have hx := h.x.2
  have hr := (lp_row h.hp1 h.hp2).2
  have hden : 0 < denT p := Nat.mul_pos (Nat.pow_pos (by omega)) (Nat.pow_pos (by omega))
  have hS : 2 ^ 64 ≤ 2 ^ s := Nat.pow_le_pow_right (by omega) hs
  subst hk
  rw [Nat.pow_zero, Nat.mul_one] at hbal
  have hDd : 0 < 10 ^ (-p).toNat := Nat.pow_pos (by omega)
  generalize d * 10 ^ p.toNat * 2 ^ c = N at *
  generalize 10 ^ (-p).toNat = D at *
  generalize d * 2 ^ (64 - b) = x at *
  generalize numT p = a at *
  generalize denT p = q at *
  generalize 2 ^ s = S at *
  clear h hc
  have h1 : x * a * 1048576 < q * (S * T128) * 1048576 := by
    have s1 : x * (a * 1048576) ≤ x * (q * 356811582894123049326108028987766352327475200) := Nat.mul_le_mul_left _ hr
    have s2 : x * (q * 356811582894123049326108028987766352327475200) ≤ 18446744073709551616 * (q * 356811582894123049326108028987766352327475200) := Nat.mul_le_mul_right _ (Nat.le_of_lt hx)
    have s3 : q * (18446744073709551616 * T128) ≤ q * (S * T128) := Nat.mul_le_mul_left _ (Nat.mul_le_mul_right _ hS)
    rw [Nat.mul_assoc x a]
    refine Nat.lt_of_le_of_lt (Nat.le_trans s1 s2) (Nat.lt_of_lt_of_le ?_ (Nat.mul_le_mul_right _ s3))
    rw [Nat.mul_left_comm, Nat.mul_assoc q]
    exact Nat.mul_lt_mul_of_pos_left (by decide) hden
  have h2 : x * a < q * (S * T128) := Nat.lt_of_mul_lt_mul_right h1
  have h3 : x * a * D < q * (S * T128) * D := Nat.mul_lt_mul_of_pos_right h2 hDd
  rw [hbal] at h3
  have h4 : q * (S * T128) * (4 * N) < q * (S * T128) * D := by rw [Nat.mul_comm _ (4 * N)]; exact h3
  have h5 := Nat.lt_of_mul_lt_mul_left h4
  omega

set_option maxRecDepth 100000 in
set_option maxHeartbeats 1600000 in
theorem pf64_zero (d b i hi lo s : Nat) (p lp : Int) (w : World) (hd : d < 18446744073709551616) (hb : Hid (b = Lib.bitLen d)) (hb1 : 1 ≤ b) (hb2 : b ≤ 64) (hp1 : -345 ≤ p) (hp2 : p ≤ 310)
    (hlp : Hid (lp = lp10 p)) (hl1 : -1147 ≤ lp) (hl2 : lp ≤ 1030) (hp : Hid (p + 348 = (i : Int))) (hi696 : i < 696) (hg : 20 < w.heap.size)
    (t0 : w.cell? ⟨20, i * 2, none⟩ = some (.int .u64 hi)) (t1 : w.cell? ⟨20, i * 2 + 1, none⟩ = some (.int .u64 lo))
    (hs : Hid ((s : Int) = 61 - min 1074 (53 - (b : Int) - lp) - b - lp)) (hs64 : 64 ≤ s) :
    Calls Tryz.prog 229 #[.int .u64 d, .int .i64 p, .int .u64 0] w fun r w' => r = .returned (.tuple #[.float .f64 0, .nilIface]) ∧ Below w.heap.size w w' := by
  have hfb := run_frombits
  have hz : bits .or .u64 0 0 = 0 := zero_or (m := 0) (by omega)
  go_enter Tryz.func229, Tryz.ntmps229
  go_wp2_with fail
  refine (len64_named d b hd hb.out _).mono ?_
  rintro r w1 ⟨rfl, rfl⟩
  go_wp2_with fail
  refine (log2Pow10_any p _ (by omega) (by omega)).mono ?_
  rintro r w1 ⟨rfl, rfl⟩
  rw [← hlp.out]
  go_wp2_with fail
  have he1 : -1100 ≤ min 1074 (53 - (b : Int) - lp) := by omega
  have he2 : min 1074 (53 - (b : Int) - lp) ≤ 1074 := by omega
  generalize min 1074 (53 - (b : Int) - lp) = e at *
  refine (prescale_any i hi lo _ (e - (64 - (b : Int))) lp p _ hp.out hi696 (by omega) (by omega) (by omega) (by omega) hg (by simp) (by simp) (by simp) (alloc_cell (by omega) t0) (alloc_cell (by omega) t1) (by simp) (by simp) (by simp)).mono ?_
  rintro r w2 ⟨rfl, rfl⟩
  have hss : -(e - (64 - (b : Int)) + lp + 3) = (s : Int) := by have := hs.out; omega
  rw [hss]
  clear hss
  go_wp2
  go_ret2
  exact ⟨by simp, (Below.refl _ _).alloc (Nat.le_refl _) _⟩

theorem pf64_any (d : Nat) (p : Int) (w : World) (hd0 : d ≠ 0) (hd : d < 18446744073709551616) (hp1 : -345 ≤ p) (hp2 : p ≤ 310) (hg : 20 < w.heap.size)
    (t0 : w.cell? ⟨20, (p + 348).toNat * 2, none⟩ = some (.int .u64 (rowAt p).1)) (t1 : w.cell? ⟨20, (p + 348).toNat * 2 + 1, none⟩ = some (.int .u64 (rowAt p).2)) :
    Calls Tryz.prog 229 #[.int .u64 d, .int .i64 p, .int .u64 0] w fun r w' => ∃ W, r = .returned (pfV W) ∧ DecRnd d p W ∧ Below w.heap.size w w' := by
  obtain ⟨b1, b2, b3⟩ := bitLen_bounds d hd0 hd
  have b4 := bitLen_le64 d hd0 hd
  obtain ⟨l1, l2⟩ := lp10_bound hp1 hp2
  have hrow := of_decide_eq_true (row_ok (p := p) (by omega) (by omega))
  have hhi := row_hi (p := p) (by omega) (by omega)
  obtain ⟨r1, r2, _, _, _⟩ := hrow
  generalize hb : Lib.bitLen d = b at *
  generalize hlp : lp10 p = lp at *
  obtain ⟨s, hs⟩ : ∃ s : Nat, (s : Int) = 61 - min 1074 (53 - (b : Int) - lp) - b - lp := ⟨(61 - min 1074 (53 - (b : Int) - lp) - b - lp).toNat, by omega⟩
  obtain ⟨ke, hke⟩ : ∃ ke : Nat, (ke : Int) = 1074 - min 1074 (53 - (b : Int) - lp) := ⟨(1074 - min 1074 (53 - (b : Int) - lp)).toNat, by omega⟩
  have pf : PF d p b s ke := ⟨b4, b2, b3, b1, hp1, hp2, by omega, by rw [hlp]; omega, by omega⟩
  have hden : 0 < 10 ^ (-p).toNat := Nat.pow_pos (by omega)
  by_cases h64 : s < 64
  · have hu := usc_ok hp1 hp2 (s := s) pf.x.1 pf.x.2 pf.hs
    rw [pf.unr rfl] at hu
    have L := pf.lower rfl
    have U := pf.upper rfl
    have hpos : 0 < d * 2 ^ (64 - b) * (rowAt p).1 / T64 := by
      rw [Nat.div_pos_iff]
      refine ⟨by rw [e64]; omega, ?_⟩
      have : 9223372036854775808 * 9223372036854775808 ≤ d * 2 ^ (64 - b) * (rowAt p).1 := Nat.mul_le_mul pf.x.1 hhi
      rw [e64]; omega
    refine (pf64_walk d b (p + 348).toNat (rowAt p).1 (rowAt p).2 s (d * 2 ^ (64 - b)) p lp w hd (hide hb.symm) b1 b4 hp1 hp2 (hide hlp.symm) l1 l2 (hide (by omega)) (by omega) hg t0 t1 (hide hs) h64 (hide rfl) pf.x.2 r1 r2 (hide hpos) _ (hide rfl) ?_ ke (hide hke) (hide ?_) (hide ?_)).mono ?_
    · rw [hu]
      exact u_small (Nat.mul_pos hden (Nat.pow_pos (by omega))) U
    · intro h
      rw [hu] at h ⊢
      have := pf_core2 hden U L h
      exact ⟨this.1, this.2.1⟩
    · intro h
      rw [hu] at h ⊢
      have := pf_core1 hden L h
      exact ⟨this.1, this.2.2⟩
    · rintro r w' ⟨rfl, hbel⟩
      unfold pfR
      rw [hu]
      by_cases h : 36028797018963966 ≤ unr (4 * (d * 10 ^ p.toNat * 2 ^ 1074)) (10 ^ (-p).toNat * 2 ^ ke)
      · rw [if_pos h, packR_pfV]
        exact ⟨_, rfl, (pf_core2 hden U L h).2.2, hbel⟩
      · rw [if_neg h, packR_pfV]
        exact ⟨_, rfl, (pf_core1 hden L (Nat.lt_of_not_le h)).2.1, hbel⟩
  · refine (pf64_zero d b (p + 348).toNat (rowAt p).1 (rowAt p).2 s p lp w hd (hide hb.symm) b1 b4 hp1 hp2 (hide hlp.symm) l1 l2 (hide (by omega)) (by omega) hg t0 t1 (hide hs) (by omega)).mono ?_
    have tiny : ∀ c, c = 1074 → IsRnd (d * 10 ^ p.toNat * 2 ^ c) (10 ^ (-p).toNat) 0 := fun c hc => rnd_small (pf.tiny hc (by omega))
    rintro r w' ⟨rfl, hbel⟩
    exact ⟨0, rfl, tiny 1074 rfl, hbel⟩

end Go.Proofs.YtamdnnkdnhkghaaGreatDoor

namespace Go.Proofs.YtamdnnkdnhkghaaGreatDoor

open Go Go.RowKit

set_option linter.unusedVariables false

set_option maxRecDepth 100000 in
set_option maxHeartbeats 800000 in
theorem exact_big (d : Nat) (z p : Int) (w : World) (hz : Hid (z = (d : Int))) (h0 : 0 ≤ z) (h1 : z < 18446744073709551616) (hbig : 4503599627370496 ≤ z) (m0 : w.cell? ⟨14, 0, none⟩ = some (.int .u64 52)) :
    Calls Tryz.prog 228 #[.int .u64 z, .int .i64 p, .bool false] w fun r w' => r = .returned (.tuple #[.float .f64 0, .bool false]) ∧ w' = w := by
  have hne : (z / 4503599627370496 != 0) = true := by rw [bne_iff_ne]; omega
  go_enter Tryz.func228, Tryz.ntmps228
  go_wp2
  go_ret2
  exact ⟨rfl, rfl⟩

set_option maxRecDepth 100000 in
set_option maxHeartbeats 800000 in
theorem exact_zero (d f : Nat) (z : Int) (w : World) (hz : Hid (z = (d : Int))) (h0 : 0 ≤ z) (hs : z < 4503599627370496) (m0 : w.cell? ⟨14, 0, none⟩ = some (.int .u64 52)) (hf : floatOfInt .f64 z = f) :
    Calls Tryz.prog 228 #[.int .u64 z, .int .i64 0, .bool false] w fun r w' => r = .returned (.tuple #[.float .f64 f, .bool true]) ∧ w' = w := by
  have hne : (z / 4503599627370496 != 0) = false := by rw [bne_eq_false_iff_eq]; omega
  go_enter Tryz.func228, Tryz.ntmps228
  go_wp2
  go_ret2
  exact ⟨rfl, rfl⟩

set_option maxRecDepth 100000 in
set_option maxHeartbeats 800000 in
theorem exact_neg (d f g r k G o : Nat) (z : Int) (w : World) (hz : Hid (z = (d : Int))) (h0 : 0 ≤ z) (hs : z < 4503599627370496) (m0 : w.cell? ⟨14, 0, none⟩ = some (.int .u64 52)) (hf : floatOfInt .f64 z = f)
    (k1 : 1 ≤ k) (k2 : k ≤ 22) (sl : w.cell? ⟨19, 0, none⟩ = some (.slice (some ⟨G, o, none⟩) 23 23)) (tb : w.cell? ⟨G, o + k, none⟩ = some (.float .f64 g)) (hq : floatBits .quo .f64 f g = some r) :
    Calls Tryz.prog 228 #[.int .u64 z, .int .i64 (-(k : Int)), .bool false] w fun e w' => e = .returned (.tuple #[.float .f64 r, .bool true]) ∧ w' = w := by
  have hne : (z / 4503599627370496 != 0) = false := by rw [bne_eq_false_iff_eq]; omega
  have hk0 : (-(k : Int) == 0) = false := by rw [beq_eq_false_iff_ne]; omega
  have hd := fun (w : World) => run_float_arith (P := Tryz.prog) w .quo 45 .f64 f g r hq
  clear hq
  go_enter Tryz.func228, Tryz.ntmps228
  go_wp2
  go_ret2
  exact ⟨rfl, rfl⟩

/-- A float and whether it holds; where it does it is r. -/
def OkIs (r : Nat) (e : Ending) : Prop := ∃ f ok, e = .returned (.tuple #[.float .f64 f, .bool ok]) ∧ (ok = true → f = r)

theorem okIs_no {r : Nat} {e : Ending} (f : Nat) (h : e = .returned (.tuple #[.float .f64 f, .bool false])) : OkIs r e := ⟨f, false, h, fun h => by cases h⟩

theorem okIs_yes {r : Nat} {e : Ending} (h : e = .returned (.tuple #[.float .f64 r, .bool true])) : OkIs r e := ⟨r, true, h, fun _ => rfl⟩

set_option maxRecDepth 100000 in
set_option maxHeartbeats 800000 in
theorem exact_pos (d f g r k G o : Nat) (z : Int) (w : World) (hz : Hid (z = (d : Int))) (h0 : 0 ≤ z) (hs : z < 4503599627370496) (m0 : w.cell? ⟨14, 0, none⟩ = some (.int .u64 52)) (hf : floatOfInt .f64 z = f)
    (k1 : 1 ≤ k) (k2 : k ≤ 22) (sl : w.cell? ⟨19, 0, none⟩ = some (.slice (some ⟨G, o, none⟩) 23 23)) (tb : w.cell? ⟨G, o + k, none⟩ = some (.float .f64 g)) (hq : floatBits .mul .f64 f g = some r) :
    Calls Tryz.prog 228 #[.int .u64 z, .int .i64 (k : Int), .bool false] w fun e w' => OkIs r e ∧ w' = w := by
  have hne : (z / 4503599627370496 != 0) = false := by rw [bne_eq_false_iff_eq]; omega
  have hk0 : ((k : Int) == 0) = false := by rw [beq_eq_false_iff_ne]; omega
  have hd := fun (w : World) => run_float_arith (P := Tryz.prog) w .mul 45 .f64 f g r hq
  clear hq
  go_enter Tryz.func228, Tryz.ntmps228
  go_wp2
  all_goals go_ret2
  all_goals first
    | exact ⟨okIs_no f rfl, rfl⟩
    | exact ⟨okIs_yes rfl, rfl⟩

set_option maxRecDepth 100000 in
set_option maxHeartbeats 1600000 in
theorem exact_far_no (d f g1 r1 k G o : Nat) (z : Int) (w : World) (hz : Hid (z = (d : Int))) (h0 : 0 ≤ z) (hs : z < 4503599627370496) (m0 : w.cell? ⟨14, 0, none⟩ = some (.int .u64 52)) (hf : floatOfInt .f64 z = f)
    (k1 : 23 ≤ k) (k2 : k ≤ 37) (sl : w.cell? ⟨19, 0, none⟩ = some (.slice (some ⟨G, o, none⟩) 23 23)) (tb1 : w.cell? ⟨G, o + (k - 22), none⟩ = some (.float .f64 g1))
    (hq1 : floatBits .mul .f64 f g1 = some r1) (ho : FloatKind.f64.format.order r1 4831355200913801216 = some .gt) :
    Calls Tryz.prog 228 #[.int .u64 z, .int .i64 (k : Int), .bool false] w fun e w' => e = .returned (.tuple #[.float .f64 r1, .bool false]) ∧ w' = w := by
  have hne : (z / 4503599627370496 != 0) = false := by rw [bne_eq_false_iff_eq]; omega
  have hk0 : ((k : Int) == 0) = false := by rw [beq_eq_false_iff_ne]; omega
  have hd1 := fun (w : World) => run_float_arith (P := Tryz.prog) w .mul 45 .f64 f g1 r1 hq1
  clear hq1
  have hob : (FloatKind.f64.format.order r1 4831355200913801216 == some .gt) = true := by rw [ho]; rfl
  go_enter Tryz.func228, Tryz.ntmps228
  go_wp2
  all_goals go_ret2
  all_goals exact ⟨rfl, rfl⟩

set_option maxRecDepth 100000 in
set_option maxHeartbeats 1600000 in
theorem exact_far (d f g1 r1 k G o : Nat) (z : Int) (w : World) (hz : Hid (z = (d : Int))) (h0 : 0 ≤ z) (hs : z < 4503599627370496) (m0 : w.cell? ⟨14, 0, none⟩ = some (.int .u64 52)) (hf : floatOfInt .f64 z = f)
    (k1 : 23 ≤ k) (k2 : k ≤ 37) (sl : w.cell? ⟨19, 0, none⟩ = some (.slice (some ⟨G, o, none⟩) 23 23)) (tb1 : w.cell? ⟨G, o + (k - 22), none⟩ = some (.float .f64 g1))
    (hq1 : floatBits .mul .f64 f g1 = some r1) (g2 r2 : Nat) (tb2 : w.cell? ⟨G, o + 22, none⟩ = some (.float .f64 g2)) (ho : ¬ FloatKind.f64.format.order r1 4831355200913801216 = some .gt) (hq2 : floatBits .mul .f64 r1 g2 = some r2) :
    Calls Tryz.prog 228 #[.int .u64 z, .int .i64 (k : Int), .bool false] w fun e w' => OkIs r2 e ∧ w' = w := by
  have hne : (z / 4503599627370496 != 0) = false := by rw [bne_eq_false_iff_eq]; omega
  have hk0 : ((k : Int) == 0) = false := by rw [beq_eq_false_iff_ne]; omega
  have hd1 := fun (w : World) => run_float_arith (P := Tryz.prog) w .mul 45 .f64 f g1 r1 hq1
  clear hq1
  have hob : (FloatKind.f64.format.order r1 4831355200913801216 == some .gt) = false := by rw [beq_eq_false_iff_ne]; exact ho
  have hd2 := fun (w : World) => run_float_arith (P := Tryz.prog) w .mul 45 .f64 r1 g2 r2 hq2
  clear hq2
  go_enter Tryz.func228, Tryz.ntmps228
  go_wp2
  all_goals go_ret2
  all_goals first
    | exact ⟨okIs_no r1 rfl, rfl⟩
    | exact ⟨okIs_yes rfl, rfl⟩

set_option maxRecDepth 100000 in
set_option maxHeartbeats 800000 in
theorem exact_out (d f : Nat) (z p : Int) (w : World) (hz : Hid (z = (d : Int))) (h0 : 0 ≤ z) (hs : z < 4503599627370496) (m0 : w.cell? ⟨14, 0, none⟩ = some (.int .u64 52)) (hf : floatOfInt .f64 z = f)
    (hp : 37 < p ∨ p < -22) :
    Calls Tryz.prog 228 #[.int .u64 z, .int .i64 p, .bool false] w fun e w' => e = .returned (.tuple #[.float .f64 f, .bool false]) ∧ w' = w := by
  have hne : (z / 4503599627370496 != 0) = false := by rw [bne_eq_false_iff_eq]; omega
  have hk0 : (p == 0) = false := by rw [beq_eq_false_iff_ne]; omega
  rcases hp with hp | hp
  all_goals go_enter Tryz.func228, Tryz.ntmps228
  all_goals go_wp2
  all_goals go_ret2
  all_goals exact ⟨rfl, rfl⟩

end Go.Proofs.YtamdnnkdnhkghaaGreatDoor

namespace Go.Proofs.YtamdnnkdnhkghaaGreatDoor

open Go Go.RowKit

set_option linter.unusedVariables false

/-- The library's tables, where they lie. -/
structure Tabs (w : World) (G o : Nat) : Prop where
  size : 20 < w.heap.size
  hG : G < w.heap.size
  mant : w.cell? ⟨14, 0, none⟩ = some (.int .u64 52)
  slice : w.cell? ⟨19, 0, none⟩ = some (.slice (some ⟨G, o, none⟩) 23 23)
  tens : ∀ k, k < 23 → w.cell? ⟨G, o + k, none⟩ = some (.float .f64 (pow10Words.getD k 0))
  rows0 : ∀ i, i < 696 → w.cell? ⟨20, i * 2, none⟩ = some (.int .u64 ((Go.Pinned.pow10Rows.getD i (0, 0)).1 : Nat))
  rows1 : ∀ i, i < 696 → w.cell? ⟨20, i * 2 + 1, none⟩ = some (.int .u64 ((Go.Pinned.pow10Rows.getD i (0, 0)).2 : Nat))

theorem foi (d : Nat) : floatOfInt .f64 (d : Int) = Ieee.double.nearest false d 0 := by
  show Ieee.double.write (.number (decide ((d : Int) < 0)) (d : Int).natAbs 0) = _
  rw [decide_eq_false (by omega), Int.natAbs_natCast]
  rfl

/-- What 'atof64exact' says: if it holds, it is the nearest float. -/
def ExactR (d : Nat) (p : Int) (e : Ending) : Prop := ∃ f ok, e = .returned (.tuple #[.float .f64 f, .bool ok]) ∧ (ok = true → DecRnd d p f ∧ f ≠ infW)

theorem fin_of {d : Nat} {p : Int} {f c : Nat} (hd : d < 4503599627370496) (hp1 : -22 ≤ p) (hp2 : p ≤ 37) (hc : c = 1074) (h : IsRnd (d * 10 ^ p.toNat * 2 ^ c) (10 ^ (-p).toNat) f) : f ≠ infW := by
  have hden : 0 < 10 ^ (-p).toNat := Nat.pow_pos (Nat.succ_pos 9)
  have h1 : d * 10 ^ p.toNat * 2 ^ c < 10 ^ (-p).toNat * 2 ^ (52 + 148 + c) := by
    have a1 : 10 ^ p.toNat ≤ 10 ^ 37 := Nat.pow_le_pow_right (by omega) (by omega)
    have a2 : (10 : Nat) ^ 37 ≤ 2 ^ 148 := by decide
    have a3 : d * 10 ^ p.toNat < 2 ^ 52 * 2 ^ 148 := Nat.mul_lt_mul_of_lt_of_le hd (Nat.le_trans a1 a2) (Nat.pow_pos (by omega))
    rw [Nat.pow_add 2 (52 + 148) c, Nat.pow_add 2 52 148, ← Nat.mul_assoc]
    refine Nat.mul_lt_mul_of_pos_right ?_ (Nat.pow_pos (by omega))
    exact Nat.lt_of_lt_of_le a3 (Nat.le_mul_of_pos_left _ hden)
  exact Nat.ne_of_lt (rnd_fin hden (by omega) h1 h)

theorem exact_any (d G o : Nat) (p : Int) (w : World) (T : Tabs w G o) (hd0 : d ≠ 0) (hd : d < 18446744073709551616) :
    Calls Tryz.prog 228 #[.int .u64 d, .int .i64 p, .bool false] w fun e w' => ExactR d p e ∧ w' = w := by
  by_cases hb : 4503599627370496 ≤ d
  · refine (exact_big d d p w (hide rfl) (by omega) (by omega) (by omega) T.mant).mono ?_
    rintro e w' ⟨rfl, rfl⟩
    exact ⟨⟨_, _, rfl, fun h => by cases h⟩, rfl⟩
  · have hs : d < 4503599627370496 := by omega
    have hw := whole_int hd0 (show d < 9007199254740992 by omega)
    have pw : ∀ k, k < 23 → IsWhole (pow10Words.getD k 0) (10 ^ k) := fun k hk => wholeB_ok (pow10_whole ⟨k, hk⟩)
    by_cases hp0 : p = 0
    · subst hp0
      refine (exact_zero d _ d w (hide rfl) (by omega) (by omega) T.mant (foi d)).mono ?_
      rintro e w' ⟨rfl, rfl⟩
      have key : ∀ c, c = 1074 → IsRnd (d * 10 ^ (0 : Int).toNat * 2 ^ c) (10 ^ (-(0 : Int)).toNat) (Ieee.double.nearest false d 0) := by
        intro c hc
        have h2 := nearest_rnd (mag := d) (place := 0) hd0 (A := c) (B := 0) (by omega)
        have e1 : (0 : Int).toNat = 0 := rfl
        have e2 : (-(0 : Int)).toNat = 0 := rfl
        rw [e1, e2, Nat.pow_zero, Nat.mul_one]
        rw [Nat.pow_zero] at h2
        exact h2
      exact ⟨⟨_, _, rfl, fun _ => ⟨key 1074 rfl, fin_of hs (by omega) (by omega) rfl (key 1074 rfl)⟩⟩, rfl⟩
    · by_cases hneg : -22 ≤ p ∧ p < 0
      · obtain ⟨k, hk⟩ : ∃ k : Nat, p = -(k : Int) := ⟨(-p).toNat, by omega⟩
        subst hk
        have hk23 : k < 23 := by omega
        obtain ⟨r, hr, _⟩ := whole_div hw (pw k hk23) (c := 1074) rfl
        have key : ∀ c, c = 1074 → IsRnd (d * 10 ^ (-(k : Int)).toNat * 2 ^ c) (10 ^ (-(-(k : Int))).toNat) r := by
          intro c hc
          obtain ⟨r', hr', h'⟩ := whole_div hw (pw k hk23) hc
          have : r = r' := by rw [hr] at hr'; exact Option.some.inj hr'
          subst this
          have e1 : (-(k : Int)).toNat = 0 := by omega
          have e2 : (-(-(k : Int))).toNat = k := by omega
          rw [e1, e2, Nat.pow_zero, Nat.mul_one]
          exact h'
        refine (exact_neg d _ _ r k G o d w (hide rfl) (by omega) (by omega) T.mant (foi d) (by omega) (by omega) T.slice (T.tens k hk23) hr).mono ?_
        rintro e w' ⟨rfl, rfl⟩
        exact ⟨⟨_, _, rfl, fun _ => ⟨key 1074 rfl, fin_of hs (by omega) (by omega) rfl (key 1074 rfl)⟩⟩, rfl⟩
      · by_cases hpos : 0 < p ∧ p ≤ 22
        · obtain ⟨k, hk⟩ : ∃ k : Nat, p = (k : Int) := ⟨p.toNat, by omega⟩
          subst hk
          have hk23 : k < 23 := by omega
          obtain ⟨r, hr, _⟩ := whole_mul hw (pw k hk23) (c := 1074) rfl
          have key : ∀ c, c = 1074 → IsRnd (d * 10 ^ ((k : Int)).toNat * 2 ^ c) (10 ^ (-(k : Int)).toNat) r := by
            intro c hc
            obtain ⟨r', hr', h'⟩ := whole_mul hw (pw k hk23) hc
            have : r = r' := by rw [hr] at hr'; exact Option.some.inj hr'
            subst this
            have e1 : (-(k : Int)).toNat = 0 := by omega
            rw [e1, Int.toNat_natCast, Nat.pow_zero]
            exact h'
          refine (exact_pos d _ _ r k G o d w (hide rfl) (by omega) (by omega) T.mant (foi d) (by omega) (by omega) T.slice (T.tens k hk23) hr).mono ?_
          rintro e w' ⟨⟨f, ok, rfl, hok⟩, rfl⟩
          refine ⟨⟨f, ok, rfl, fun h => ?_⟩, rfl⟩
          rw [hok h]
          exact ⟨key 1074 rfl, fin_of hs (by omega) (by omega) rfl (key 1074 rfl)⟩
        · by_cases hfar : 22 < p ∧ p ≤ 37
          · obtain ⟨k, hk⟩ : ∃ k : Nat, p = (k : Int) := ⟨p.toNat, by omega⟩
            subst hk
            have hk23 : k - 22 < 23 := by omega
            obtain ⟨r1, hr1, _⟩ := whole_mul hw (pw (k - 22) hk23) (c := 1074) rfl
            have rnd1 : ∀ c, c = 1074 → IsRnd (d * 10 ^ (k - 22) * 2 ^ c) 1 r1 := by
              intro c hc
              obtain ⟨r', hr', h'⟩ := whole_mul hw (pw (k - 22) hk23) hc
              have : r1 = r' := by rw [hr1] at hr'; exact Option.some.inj hr'
              subst this
              exact h'
            have small : ¬ FloatKind.f64.format.order r1 4831355200913801216 = some .gt → IsWhole r1 (d * 10 ^ (k - 22)) := by
              intro hng
              by_cases hv : d * 10 ^ (k - 22) < 9007199254740992
              · exact whole_of_rnd (c := 1074) (Nat.mul_ne_zero hd0 (Nat.pos_iff_ne_zero.1 (Nat.pow_pos (by omega)))) hv rfl (rnd1 1074 rfl)
              · exact absurd (order_gt (c := 1074) (Nat.le_of_not_lt hv) rfl (rnd1 1074 rfl)) hng
            by_cases hng : FloatKind.f64.format.order r1 4831355200913801216 = some .gt
            · refine (exact_far_no d _ _ r1 k G o d w (hide rfl) (by omega) (by omega) T.mant (foi d) (by omega) (by omega) T.slice (T.tens (k - 22) hk23) hr1 hng).mono ?_
              rintro e w' ⟨rfl, rfl⟩
              exact ⟨⟨_, _, rfl, fun h => by cases h⟩, rfl⟩
            · obtain ⟨r2, h1, _⟩ := whole_mul (small hng) (pw 22 (by omega)) (c := 1074) rfl
              have key : ∀ c, c = 1074 → IsRnd (d * 10 ^ ((k : Int)).toNat * 2 ^ c) (10 ^ (-(k : Int)).toNat) r2 := by
                intro c hc
                obtain ⟨r', hr', h'⟩ := whole_mul (small hng) (pw 22 (by omega)) hc
                have : r2 = r' := by rw [h1] at hr'; exact Option.some.inj hr'
                subst this
                have e1 : (-(k : Int)).toNat = 0 := by omega
                have e2 : d * 10 ^ (k - 22) * 10 ^ 22 = d * 10 ^ k := by
                  rw [Nat.mul_assoc, ← Nat.pow_add]
                  congr 2
                  omega
                rw [e1, Int.toNat_natCast, Nat.pow_zero, ← e2]
                exact h'
              refine (exact_far d _ _ r1 k G o d w (hide rfl) (by omega) (by omega) T.mant (foi d) (by omega) (by omega) T.slice (T.tens (k - 22) hk23) hr1 _ r2 (T.tens 22 (by omega)) hng h1).mono ?_
              rintro e w' ⟨⟨f, ok, rfl, hok⟩, rfl⟩
              refine ⟨⟨f, ok, rfl, fun h => ?_⟩, rfl⟩
              rw [hok h]
              exact ⟨key 1074 rfl, fin_of hs (by omega) (by omega) rfl (key 1074 rfl)⟩
          · refine (exact_out d _ d p w (hide rfl) (by omega) (by omega) T.mant (foi d) (by omega)).mono ?_
            rintro e w' ⟨rfl, rfl⟩
            exact ⟨⟨_, _, rfl, fun h => by cases h⟩, rfl⟩

end Go.Proofs.YtamdnnkdnhkghaaGreatDoor

namespace Go.Proofs.YtamdnnkdnhkghaaGreatDoor

open Go Go.RowKit

set_option linter.unusedVariables false

/-- A decimal of strconv in the block g: its bytes, their number, the point's place, whether something was cut off. -/
structure DecAt (w : World) (g : Nat) (D : Nat → Int) (nd dp : Int) (tr : Bool) : Prop where
  lt : g < w.heap.size
  fr : ∀ k, w.frozen? ⟨g, k, none⟩ = false
  dig : ∀ k, k < 800 → w.cell? ⟨g, k, none⟩ = some (.int .u8 (D k))
  nd : w.cell? ⟨g, 800, none⟩ = some (.int .i64 nd)
  dp : w.cell? ⟨g, 801, none⟩ = some (.int .i64 dp)
  neg : w.cell? ⟨g, 802, none⟩ = some (.bool false)
  tr : w.cell? ⟨g, 803, none⟩ = some (.bool tr)

theorem addr_ne {g i j : Nat} (h : i ≠ j) : (⟨g, i, none⟩ : Addr) ≠ ⟨g, j, none⟩ := by
  intro e; cases e; exact h rfl

theorem DecAt.setNd {w : World} {g : Nat} {D : Nat → Int} {nd dp : Int} {tr : Bool} (h : DecAt w g D nd dp tr) (x : Int) : DecAt (w.setCell ⟨g, 800, none⟩ (.int .i64 x)) g D x dp tr := {
  lt := by simpa using h.lt
  fr := fun k => by simpa using h.fr k
  dig := fun k hk => (World.cell?_setCell_other _ _ _ _ (addr_ne (by omega))).trans (h.dig k hk)
  nd := World.cell?_setCell_same _ _ _ h.nd
  dp := (World.cell?_setCell_other _ _ _ _ (addr_ne (by omega))).trans h.dp
  neg := (World.cell?_setCell_other _ _ _ _ (addr_ne (by omega))).trans h.neg
  tr := (World.cell?_setCell_other _ _ _ _ (addr_ne (by omega))).trans h.tr }

theorem DecAt.setDp {w : World} {g : Nat} {D : Nat → Int} {nd dp : Int} {tr : Bool} (h : DecAt w g D nd dp tr) (x : Int) : DecAt (w.setCell ⟨g, 801, none⟩ (.int .i64 x)) g D nd x tr := {
  lt := by simpa using h.lt
  fr := fun k => by simpa using h.fr k
  dig := fun k hk => (World.cell?_setCell_other _ _ _ _ (addr_ne (by omega))).trans (h.dig k hk)
  nd := (World.cell?_setCell_other _ _ _ _ (addr_ne (by omega))).trans h.nd
  dp := World.cell?_setCell_same _ _ _ h.dp
  neg := (World.cell?_setCell_other _ _ _ _ (addr_ne (by omega))).trans h.neg
  tr := (World.cell?_setCell_other _ _ _ _ (addr_ne (by omega))).trans h.tr }

theorem DecAt.setTr {w : World} {g : Nat} {D : Nat → Int} {nd dp : Int} {tr : Bool} (h : DecAt w g D nd dp tr) (x : Bool) : DecAt (w.setCell ⟨g, 803, none⟩ (.bool x)) g D nd dp x := {
  lt := by simpa using h.lt
  fr := fun k => by simpa using h.fr k
  dig := fun k hk => (World.cell?_setCell_other _ _ _ _ (addr_ne (by omega))).trans (h.dig k hk)
  nd := (World.cell?_setCell_other _ _ _ _ (addr_ne (by omega))).trans h.nd
  dp := (World.cell?_setCell_other _ _ _ _ (addr_ne (by omega))).trans h.dp
  neg := (World.cell?_setCell_other _ _ _ _ (addr_ne (by omega))).trans h.neg
  tr := World.cell?_setCell_same _ _ _ h.tr }

theorem DecAt.drewN {w : World} {g : Nat} {D : Nat → Int} {nd dp : Int} {tr : Bool} (h : DecAt w g D nd dp tr) (n : Nat) : DecAt (w.drewN n) g D nd dp tr :=
  ⟨h.lt, h.fr, h.dig, h.nd, h.dp, h.neg, h.tr⟩

theorem below_drewN {B : Nat} {a w : World} (h : Below B a w) (n : Nat) : Below B a (w.drewN n) := ⟨h.os, h.tape, h.output, h.size, h.block⟩

/-- One byte turned. -/
def updD (D : Nat → Int) (k : Nat) (x : Int) : Nat → Int := fun j => if j = k then x else D j

theorem updD_same (D : Nat → Int) (k : Nat) (x : Int) : updD D k x k = x := by simp [updD]

theorem updD_other {D : Nat → Int} {k j : Nat} {x : Int} (h : j ≠ k) : updD D k x j = D j := by simp [updD, h]

theorem DecAt.setDig {w : World} {g : Nat} {D : Nat → Int} {nd dp : Int} {tr : Bool} (h : DecAt w g D nd dp tr) {k : Nat} (hk : k < 800) (x : Int) : DecAt (w.setCell ⟨g, k, none⟩ (.int .u8 x)) g (updD D k x) nd dp tr := {
  lt := by simpa using h.lt
  fr := fun k => by simpa using h.fr k
  dig := fun j hj => by
    by_cases e : j = k
    · subst e; rw [updD_same]; exact World.cell?_setCell_same _ _ _ (h.dig j hj)
    · rw [updD_other e]; exact (World.cell?_setCell_other _ _ _ _ (addr_ne (by omega))).trans (h.dig j hj)
  nd := (World.cell?_setCell_other _ _ _ _ (addr_ne (by omega))).trans h.nd
  dp := (World.cell?_setCell_other _ _ _ _ (addr_ne (by omega))).trans h.dp
  neg := (World.cell?_setCell_other _ _ _ _ (addr_ne (by omega))).trans h.neg
  tr := (World.cell?_setCell_other _ _ _ _ (addr_ne (by omega))).trans h.tr }

/-- How many bytes stay behind 'trim'. -/
def trimN (D : Nat → Int) : Nat → Nat
  | 0 => 0
  | n + 1 => if D n = 48 then trimN D n else n + 1

def trimDp (n : Nat) (dp : Int) : Int := if n = 0 then 0 else dp

theorem trimN_pos {D : Nat → Int} {n m : Nat} (h : m = n + 1) (hd : D n = 48) : trimN D m = trimN D n := by subst h; simp [trimN, hd]

theorem trimN_stop {D : Nat → Int} {n m : Nat} (h : m = n + 1) (hd : D n ≠ 48) : trimN D m = m := by subst h; simp [trimN, hd]

set_option maxHeartbeats 800000 in
set_option maxRecDepth 100000 in
theorem trimD_any (g n : Nat) (D : Nat → Int) (dp : Int) (tr : Bool) (w : World) (h : DecAt w g D n dp tr) (hn : n ≤ 800) :
    Calls Tryz.prog 244 #[.pointer (some ⟨g, 0, none⟩)] w fun e w' => e = .returned (.tuple #[]) ∧ DecAt w' g D (trimN D n) (trimDp (trimN D n) dp) tr ∧ Below g w w' := by
  have H := hide h
  go_enter Tryz.func244, Tryz.ntmps244
  go_wp2
  go_loopg [] n (fun gk wr => ∃ m : Nat, gk = m ∧ m ≤ 800 ∧ DecAt wr g D m dp tr ∧ Hid (trimN D m = trimN D n) ∧ Below g w wr)
  case atStart => exact ⟨n, rfl, hn, H.out, hide rfl, Below.refl _ _⟩
  case round =>
    obtain ⟨m, rfl, hm, hd, Ht, hb⟩ := hrel
    have c0 := hd.nd
    have c9 := hd.dp
    have f0 := hd.fr
    have Hd := hide hd
    have Hb := hide hb
    clear hd hb h H
    by_cases hz : gk = 0
    · subst hz
      go_wp2
      go_quiet (fail)
      go_wp2
      go_end0
      have e := Ht.out
      have hdn := (Hd.out.drewN nq).setDp 0
      have e0 : trimN D n = 0 := e.symm
      rw [e0]
      exact ⟨rfl, hdn, (below_drewN Hb.out nq).setCell (Nat.le_refl _) _⟩
    · have c1 := Hd.out.dig (gk - 1) (by omega)
      have hi : ((gk : Int) - 1).toNat = gk - 1 := by omega
      have hp : (0 : Int) < (gk : Int) := by omega
      have hp2 : 0 < gk := by omega
      have hp3 : decide ((0 : Int) < (gk : Int)) = true := by simp; omega
      have hp4 : decide (0 < gk) = true := by simp; omega
      have hb0 : (0 : Int) ≤ (gk : Int) - 1 := by omega
      have hb1 : (gk : Int) - 1 < 800 := by omega
      by_cases hv : D (gk - 1) = 48
      · have hvb : (D (gk - 1) == 48) = true := by rw [hv]; rfl
        have Hv := hide hv
        clear hv
        go_wp2
        go_quiet (fail)
        go_wp2
        go_roundg (gk - 1)
        case rel =>
          refine ⟨gk - 1, rfl, by omega, ?_, hide ?_, ?_⟩
          · have hdn := (Hd.out.drewN nq).setNd ((gk - 1 : Nat) : Int)
            have e : ((gk - 1 : Nat) : Int) = (gk : Int) - 1 := by omega
            rw [e] at hdn ⊢
            exact hdn
          · rw [← Ht.out]; exact (trimN_pos (by omega) Hv.out).symm
          · exact (below_drewN Hb.out nq).setCell (Nat.le_refl _) _
        case measure => omega
      · have hvb : (D (gk - 1) == 48) = false := by rw [beq_eq_false_iff_ne]; exact hv
        have Hv := hide hv
        clear hv
        go_wp2
        go_quiet (fail)
        go_wp2
        go_end0
        have e := Ht.out
        have e0 : trimN D n = gk := by rw [← e]; exact trimN_stop (by omega) Hv.out
        rw [e0]
        refine ⟨rfl, ?_, below_drewN Hb.out nq⟩
        have : trimDp gk dp = dp := by unfold trimDp; rw [if_neg hz]
        rw [this]
        exact Hd.out.drewN nq

end Go.Proofs.YtamdnnkdnhkghaaGreatDoor

namespace Go.Proofs.YtamdnnkdnhkghaaGreatDoor

open Go Go.RowKit

set_option linter.unusedVariables false

def dgt (D : Nat → Int) (i : Nat) : Nat := (D i - 48).toNat

def OkDig (D : Nat → Int) (n : Nat) : Prop := ∀ i, i < n → 48 ≤ D i ∧ D i ≤ 57

/-- The first n digits as a number. -/
def dv (D : Nat → Int) : Nat → Nat
  | 0 => 0
  | n + 1 => dv D n * 10 + dgt D n

/-- n digits from the place a on. -/
def sg (D : Nat → Int) : Nat → Nat → Nat
  | _, 0 => 0
  | a, n + 1 => dgt D a * 10 ^ n + sg D (a + 1) n

theorem dgt_le {D : Nat → Int} {n i : Nat} (h : OkDig D n) (hi : i < n) : dgt D i ≤ 9 := by
  have := h i hi; unfold dgt; omega

theorem dgt_eq {D : Nat → Int} {n i : Nat} (h : OkDig D n) (hi : i < n) : D i = 48 + (dgt D i : Int) := by
  have := h i hi; unfold dgt; omega

theorem OkDig.mono {D : Nat → Int} {n m : Nat} (h : OkDig D n) (hm : m ≤ n) : OkDig D m := fun i hi => h i (by omega)

theorem p10 (n : Nat) : 0 < 10 ^ n := Nat.pow_pos (by omega)

theorem dv_lt {D : Nat → Int} : ∀ {n : Nat}, OkDig D n → dv D n < 10 ^ n
  | 0, _ => by simp [dv]
  | n + 1, h => by
    have h1 := dv_lt (h.mono (Nat.le_succ n))
    have h2 := dgt_le h (Nat.lt_succ_self n)
    have : 10 ^ (n + 1) = 10 ^ n * 10 := Nat.pow_succ 10 n
    unfold dv
    omega

theorem dv_congr {D E : Nat → Int} : ∀ {n : Nat}, (∀ i, i < n → D i = E i) → dv D n = dv E n
  | 0, _ => rfl
  | n + 1, h => by
    unfold dv
    rw [dv_congr (fun i hi => h i (by omega))]
    unfold dgt
    rw [h n (by omega)]

theorem sg_congr {D E : Nat → Int} : ∀ {n a : Nat}, (∀ i, a ≤ i → i < a + n → D i = E i) → sg D a n = sg E a n
  | 0, _, _ => rfl
  | n + 1, a, h => by
    unfold sg
    rw [sg_congr (fun i h1 h2 => h i (by omega) (by omega))]
    unfold dgt
    rw [h a (by omega) (by omega)]

theorem sg_lt {D : Nat → Int} : ∀ {n a : Nat}, OkDig D (a + n) → sg D a n < 10 ^ n
  | 0, _, _ => by simp [sg]
  | n + 1, a, h => by
    have h1 := sg_lt (D := D) (n := n) (a := a + 1) (fun i hi => h i (by omega))
    have h2 := dgt_le h (i := a) (by omega)
    have : 10 ^ (n + 1) = 10 ^ n * 10 := Nat.pow_succ 10 n
    have h3 : dgt D a * 10 ^ n ≤ 9 * 10 ^ n := Nat.mul_le_mul_right _ h2
    unfold sg
    omega

theorem dv_sg {D : Nat → Int} : ∀ (n a : Nat), dv D (a + n) = dv D a * 10 ^ n + sg D a n
  | 0, a => by simp [sg]
  | n + 1, a => by
    have h := dv_sg (D := D) n (a + 1)
    rw [show a + (n + 1) = a + 1 + n by omega, h]
    rw [show sg D a (n + 1) = dgt D a * 10 ^ n + sg D (a + 1) n from rfl, show dv D (a + 1) = dv D a * 10 + dgt D a from rfl, Nat.pow_succ, Nat.add_mul, Nat.mul_assoc, Nat.mul_comm 10, Nat.add_assoc]

theorem dv_sg0 (D : Nat → Int) (n : Nat) : sg D 0 n = dv D n := by
  have := dv_sg (D := D) n 0
  simp [dv] at this
  exact this.symm

theorem sg_front {D : Nat → Int} {w n : Nat} {x : Int} : sg (updD D w x) w (n + 1) = (x - 48).toNat * 10 ^ n + sg D (w + 1) n := by
  show dgt (updD D w x) w * 10 ^ n + sg (updD D w x) (w + 1) n = _
  have e1 : dgt (updD D w x) w = (x - 48).toNat := by unfold dgt; rw [updD_same]
  have e2 : sg (updD D w x) (w + 1) n = sg D (w + 1) n := sg_congr (fun i h1 h2 => updD_other (by omega))
  rw [e1, e2]

theorem dv_snoc {D : Nat → Int} {w : Nat} {x : Int} : dv (updD D w x) (w + 1) = dv D w * 10 + (x - 48).toNat := by
  show dv (updD D w x) w * 10 + dgt (updD D w x) w = _
  have e1 : dgt (updD D w x) w = (x - 48).toNat := by unfold dgt; rw [updD_same]
  have e2 : dv (updD D w x) w = dv D w := dv_congr (fun i h1 => updD_other (by omega))
  rw [e1, e2]

theorem trimN_le (D : Nat → Int) : ∀ n, trimN D n ≤ n
  | 0 => Nat.le_refl 0
  | n + 1 => by
    unfold trimN
    split
    · have := trimN_le D n; omega
    · exact Nat.le_refl _

theorem trimN_last (D : Nat → Int) : ∀ n, trimN D n = 0 ∨ D (trimN D n - 1) ≠ 48
  | 0 => .inl rfl
  | n + 1 => by
    unfold trimN
    split
    · exact trimN_last D n
    · rename_i h; exact .inr (by simpa using h)

theorem dv_trim {D : Nat → Int} : ∀ (n : Nat), dv D n = dv D (trimN D n) * 10 ^ (n - trimN D n)
  | 0 => rfl
  | n + 1 => by
    unfold trimN
    split
    · rename_i h
      have h0 : dgt D n = 0 := by unfold dgt; rw [h]; rfl
      rw [show dv D (n + 1) = dv D n * 10 + dgt D n from rfl, h0, Nat.add_zero]
      have := trimN_le D n
      rw [show n + 1 - trimN D n = (n - trimN D n) + 1 by omega, Nat.pow_succ, ← Nat.mul_assoc, ← dv_trim n]
    · simp

/-- The leading digit is no nought. -/
structure Norm (D : Nat → Int) (nd : Nat) : Prop where
  ok : OkDig D nd
  le : nd ≤ 800
  head : nd ≠ 0 → D 0 ≠ 48

theorem dv_ge {D : Nat → Int} {n : Nat} (h : OkDig D n) (hn : n ≠ 0) (hh : D 0 ≠ 48) : 10 ^ (n - 1) ≤ dv D n := by
  obtain ⟨m, rfl⟩ : ∃ m, n = 1 + m := ⟨n - 1, by omega⟩
  rw [dv_sg m 1]
  have h0 := h 0 (by omega)
  have : 1 ≤ dv D 1 := by simp [dv, dgt]; omega
  have := Nat.mul_le_mul_right (10 ^ m) this
  rw [show 1 + m - 1 = m by omega]
  omega

/-- What a shift leaves behind: of the number X * 10^E the first 800 digits, and whether something was cut off. -/
def Shf (X : Nat) (E : Int) (tr : Bool) (D : Nat → Int) (nd : Nat) (dp : Int) (tr' : Bool) : Prop :=
  Norm D nd ∧ nd ≠ 0 ∧ D (nd - 1) ≠ 48 ∧ ∃ j t r, X = dv D nd * 10 ^ t * 10 ^ j + r ∧ r < 10 ^ j ∧ dp = E + (j + t + nd : Nat) ∧ (j = 0 ∨ 800 ≤ nd + t) ∧ tr' = (tr || decide (r ≠ 0))

/-- Trimming what a shift wrote. -/
theorem shf_of {X : Nat} {E : Int} {tr tr' : Bool} {D : Nat → Int} {n j r : Nat} {dp : Int} (hok : OkDig D n) (hn : n ≤ 800) (hn0 : n ≠ 0) (hh : D 0 ≠ 48) (hX : X = dv D n * 10 ^ j + r) (hr : r < 10 ^ j)
    (hdp : dp = E + (j + n : Nat)) (hj : j = 0 ∨ n = 800) (ht : tr' = (tr || decide (r ≠ 0))) : Shf X E tr D (trimN D n) (trimDp (trimN D n) dp) tr' := by
  have hle := trimN_le D n
  have hpos := dv_ge hok hn0 hh
  have htr := dv_trim (D := D) n
  have hne : trimN D n ≠ 0 := by
    intro e
    rw [e] at htr
    have := p10 (n - 1)
    simp [dv] at htr
    omega
  refine ⟨⟨hok.mono hle, by omega, fun _ => hh⟩, hne, (trimN_last D n).resolve_left hne, j, n - trimN D n, r, ?_, hr, ?_, ?_, ht⟩
  · rw [← htr]; exact hX
  · unfold trimDp; rw [if_neg hne, hdp]; omega
  · omega

/-- The same where noughts were left out behind. -/
theorem shf_of_z {X : Nat} {E : Int} {tr tr' : Bool} {D : Nat → Int} {n j r z : Nat} {dp : Int} (hok : OkDig D n) (hn : n ≤ 800) (hn0 : n ≠ 0) (hh : D 0 ≠ 48) (hX : X = dv D n * 10 ^ z * 10 ^ j + r) (hr : r < 10 ^ j)
    (hdp : dp = E + (j + z + n : Nat)) (hj : j = 0 ∨ n = 800) (ht : tr' = (tr || decide (r ≠ 0))) : Shf X E tr D (trimN D n) (trimDp (trimN D n) dp) tr' := by
  have hle := trimN_le D n
  have hpos := dv_ge hok hn0 hh
  have htr := dv_trim (D := D) n
  have hne : trimN D n ≠ 0 := by
    intro e
    rw [e] at htr
    have := p10 (n - 1)
    simp [dv] at htr
    omega
  refine ⟨⟨hok.mono hle, by omega, fun _ => hh⟩, hne, (trimN_last D n).resolve_left hne, j, n - trimN D n + z, r, ?_, hr, ?_, ?_, ht⟩
  · rw [Nat.pow_add, ← Nat.mul_assoc, ← htr]; exact hX
  · unfold trimDp; rw [if_neg hne, hdp]; omega
  · omega

/-- Digits in their order tell which number is less. -/
theorem lex_lt {D C : Nat → Int} {i n L : Nat} (hD : OkDig D n) (hC : OkDig C L) (hin : i < n) (hiL : i < L) (he : ∀ j, j < i → D j = C j) (hlt : D i < C i) : dv D n * 10 ^ L < dv C L * 10 ^ n := by
  obtain ⟨a, rfl⟩ : ∃ a, n = i + 1 + a := ⟨n - i - 1, by omega⟩
  obtain ⟨b, rfl⟩ : ∃ b, L = i + 1 + b := ⟨L - i - 1, by omega⟩
  have e : dv D i = dv C i := dv_congr he
  have h1 : dv D (i + 1) + 1 ≤ dv C (i + 1) := by
    have a1 := hD i (by omega)
    have a2 := hC i (by omega)
    simp only [dv, dgt, e]
    omega
  have h2 : dv D (i + 1 + a) < (dv D (i + 1) + 1) * 10 ^ a := by
    rw [dv_sg a (i + 1), Nat.add_mul, Nat.one_mul]
    have := sg_lt (D := D) (n := a) (a := i + 1) hD
    omega
  have h3 : dv C (i + 1) * 10 ^ b ≤ dv C (i + 1 + b) := by rw [dv_sg b (i + 1)]; exact Nat.le_add_right _ _
  calc dv D (i + 1 + a) * 10 ^ (i + 1 + b) < (dv D (i + 1) + 1) * 10 ^ a * 10 ^ (i + 1 + b) := Nat.mul_lt_mul_of_pos_right h2 (p10 _)
    _ = (dv D (i + 1) + 1) * 10 ^ b * 10 ^ (i + 1 + a) := by rw [Nat.mul_assoc, Nat.mul_assoc, ← Nat.pow_add, ← Nat.pow_add]; congr 2; omega
    _ ≤ dv C (i + 1) * 10 ^ b * 10 ^ (i + 1 + a) := Nat.mul_le_mul_right _ (Nat.mul_le_mul_right _ h1)
    _ ≤ dv C (i + 1 + b) * 10 ^ (i + 1 + a) := Nat.mul_le_mul_right _ h3

theorem lex_pre {D C : Nat → Int} {n L : Nat} (hC : OkDig C L) (hnL : n < L) (he : ∀ j, j < n → D j = C j) (hlast : C (L - 1) ≠ 48) : dv D n * 10 ^ L < dv C L * 10 ^ n := by
  obtain ⟨b, rfl⟩ : ∃ b, L = n + b + 1 := ⟨L - n - 1, by omega⟩
  have e : dv D n = dv C n := dv_congr he
  have h1 : dv C (n + b + 1) = dv C n * 10 ^ (b + 1) + sg C n (b + 1) := by rw [show n + b + 1 = n + (b + 1) by omega]; exact dv_sg _ _
  have h2 : 0 < sg C n (b + 1) := by
    have a1 : dv C (n + b + 1) = dv C (n + b) * 10 + dgt C (n + b) := rfl
    have a2 : 0 < dgt C (n + b) := by
      have := hC (n + b) (by omega)
      have h3 : C (n + b) ≠ 48 := by simpa using hlast
      unfold dgt; omega
    have a3 : dv C (n + b) = dv C n * 10 ^ b + sg C n b := dv_sg _ _
    have a4 : dv C n * 10 ^ (b + 1) = dv C n * 10 ^ b * 10 := by rw [Nat.pow_succ, Nat.mul_assoc]
    generalize dv C n * 10 ^ b = y at *
    omega
  rw [h1, e, Nat.add_mul, Nat.mul_assoc, ← Nat.pow_add, show b + 1 + n = n + b + 1 by omega]
  have := Nat.mul_pos h2 (p10 n)
  omega

theorem lex_ge {D C : Nat → Int} {n L : Nat} (hnL : L ≤ n) (he : ∀ j, j < L → D j = C j) : dv C L * 10 ^ n ≤ dv D n * 10 ^ L := by
  obtain ⟨b, rfl⟩ : ∃ b, n = L + b := ⟨n - L, by omega⟩
  have e : dv D L = dv C L := dv_congr he
  rw [dv_sg b L, e, Nat.add_mul, Nat.pow_add, Nat.mul_comm (10 ^ L), ← Nat.mul_assoc]
  exact Nat.le_add_right _ _

/-- How many digits V * 2^k has. -/
theorem cheat_digits {V nd k L : Nat} (h5 : 10 ^ (L - 1) ≤ 5 ^ k) (h5' : 5 ^ k < 10 ^ L) (hL : 1 ≤ L) (hLk : L ≤ k) (hV1 : 10 ^ (nd - 1) ≤ V) (hV2 : V < 10 ^ nd) (hnd : nd ≠ 0) :
    (V * 10 ^ L < 5 ^ k * 10 ^ nd → 10 ^ (nd + (k - L) - 1) ≤ V * 2 ^ k ∧ V * 2 ^ k < 10 ^ (nd + (k - L))) ∧ (5 ^ k * 10 ^ nd ≤ V * 10 ^ L → 10 ^ (nd + (k - L + 1) - 1) ≤ V * 2 ^ k ∧ V * 2 ^ k < 10 ^ (nd + (k - L + 1))) := by
  have e10 : 2 ^ k * 5 ^ k = 10 ^ k := by rw [← Nat.mul_pow]
  have p5 : 0 < 5 ^ k := Nat.pow_pos (by omega)
  have p2 : 0 < 2 ^ k := Nat.pow_pos (by omega)
  refine ⟨fun h => ⟨?_, ?_⟩, fun h => ⟨?_, ?_⟩⟩
  · -- 10^(nd-1+k-L) ≤ 10^(nd-1) 2^k since 5^k < 10^L
    refine Nat.le_of_mul_le_mul_right ?_ (Nat.mul_pos p5 (p10 L))
    calc 10 ^ (nd + (k - L) - 1) * (5 ^ k * 10 ^ L) ≤ 10 ^ (nd + (k - L) - 1) * (10 ^ L * 10 ^ L) := Nat.mul_le_mul_left _ (Nat.mul_le_mul_right _ (Nat.le_of_lt h5'))
      _ = 10 ^ (nd - 1) * (10 ^ k * 10 ^ L) := by rw [← Nat.pow_add, ← Nat.pow_add, ← Nat.pow_add, ← Nat.pow_add]; congr 1; omega
      _ ≤ V * (10 ^ k * 10 ^ L) := Nat.mul_le_mul_right _ hV1
      _ = V * 2 ^ k * (5 ^ k * 10 ^ L) := by rw [← e10]; simp only [Nat.mul_assoc]
  · refine Nat.lt_of_mul_lt_mul_right (a := 10 ^ L) ?_
    calc V * 2 ^ k * 10 ^ L = V * 10 ^ L * 2 ^ k := by rw [Nat.mul_assoc, Nat.mul_comm (2 ^ k), ← Nat.mul_assoc]
      _ < 5 ^ k * 10 ^ nd * 2 ^ k := Nat.mul_lt_mul_of_pos_right h p2
      _ = 10 ^ k * 10 ^ nd := by rw [← e10, Nat.mul_comm (2 ^ k), Nat.mul_assoc, Nat.mul_assoc, Nat.mul_comm (10 ^ nd)]
      _ = 10 ^ (nd + (k - L)) * 10 ^ L := by rw [← Nat.pow_add, ← Nat.pow_add]; congr 1; omega
  · refine Nat.le_of_mul_le_mul_right ?_ (p10 L)
    calc 10 ^ (nd + (k - L + 1) - 1) * 10 ^ L = 10 ^ k * 10 ^ nd := by rw [← Nat.pow_add, ← Nat.pow_add]; congr 1; omega
      _ = 5 ^ k * 10 ^ nd * 2 ^ k := by rw [← e10, Nat.mul_comm (2 ^ k), Nat.mul_assoc, Nat.mul_assoc, Nat.mul_comm (10 ^ nd)]
      _ ≤ V * 10 ^ L * 2 ^ k := Nat.mul_le_mul_right _ h
      _ = V * 2 ^ k * 10 ^ L := by rw [Nat.mul_assoc, Nat.mul_comm (10 ^ L), ← Nat.mul_assoc]
  · refine Nat.lt_of_mul_lt_mul_right (a := 5 ^ k) ?_
    calc V * 2 ^ k * 5 ^ k = V * 10 ^ k := by rw [Nat.mul_assoc, e10]
      _ < 10 ^ nd * 10 ^ k := Nat.mul_lt_mul_of_pos_right hV2 (p10 k)
      _ = 10 ^ (nd + (k - L + 1)) * 10 ^ (L - 1) := by rw [← Nat.pow_add, ← Nat.pow_add]; congr 1; omega
      _ ≤ 10 ^ (nd + (k - L + 1)) * 5 ^ k := Nat.mul_le_mul_left _ h5

end Go.Proofs.YtamdnnkdnhkghaaGreatDoor
