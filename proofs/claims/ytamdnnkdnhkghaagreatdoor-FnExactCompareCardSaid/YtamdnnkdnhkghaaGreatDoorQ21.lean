import Derived.Test.YtamdnnkdnhkghaaGreatDoorQ20
import Derived.Test.YtamdnnkdnhkghaaGreatDoorQ04
import Derived.Laws.FloatArith
import Derived.Deep.LoopGhost
import Derived.Deep.QuietTactic
import Derived.BigQuiet
import Derived.RegionTactic
import Derived.ChangeAlike
namespace Go.Proofs.YtamdnnkdnhkghaaGreatDoor
open Go Go.RowKit
set_option linter.unusedVariables false

set_option maxRecDepth 100000 in
set_option maxHeartbeats 800000 in
theorem exact_big (d : Nat) (z p : Int) (w : World) (hz : Hid (z = (d : Int))) (h0 : 0 ≤ z) (h1 : z < 18446744073709551616) (hbig : 4503599627370496 ≤ z) (m0 : w.cell? ⟨14, 0, none⟩ = some (.int .u64 52)) :
    Calls Tryz.prog 228 #[.int .u64 z, .int .i64 p, .bool false] w fun r w' => r = .returned (.tuple #[.float .f64 0, .bool false]) ∧ w' = w := by
  have hne : (z / 4503599627370496 != 0) = true := by rw [bne_iff_ne]; omega
  go_enter Tryz.func228, Tryz.ntmps228
  go_wp2
  go_ret2
  exact ⟨rfl, rfl⟩

set_option maxRecDepth 100000 in
set_option maxHeartbeats 800000 in
theorem exact_zero (d f : Nat) (z : Int) (w : World) (hz : Hid (z = (d : Int))) (h0 : 0 ≤ z) (hs : z < 4503599627370496) (m0 : w.cell? ⟨14, 0, none⟩ = some (.int .u64 52)) (hf : floatOfInt .f64 z = f) :
    Calls Tryz.prog 228 #[.int .u64 z, .int .i64 0, .bool false] w fun r w' => r = .returned (.tuple #[.float .f64 f, .bool true]) ∧ w' = w := by
  have hne : (z / 4503599627370496 != 0) = false := by rw [bne_eq_false_iff_eq]; omega
  go_enter Tryz.func228, Tryz.ntmps228
  go_wp2
  go_ret2
  exact ⟨rfl, rfl⟩

set_option maxRecDepth 100000 in
set_option maxHeartbeats 800000 in
theorem exact_neg (d f g r k G o : Nat) (z : Int) (w : World) (hz : Hid (z = (d : Int))) (h0 : 0 ≤ z) (hs : z < 4503599627370496) (m0 : w.cell? ⟨14, 0, none⟩ = some (.int .u64 52)) (hf : floatOfInt .f64 z = f)
    (k1 : 1 ≤ k) (k2 : k ≤ 22) (sl : w.cell? ⟨19, 0, none⟩ = some (.slice (some ⟨G, o, none⟩) 23 23)) (tb : w.cell? ⟨G, o + k, none⟩ = some (.float .f64 g)) (hq : floatBits .quo .f64 f g = some r) :
    Calls Tryz.prog 228 #[.int .u64 z, .int .i64 (-(k : Int)), .bool false] w fun e w' => e = .returned (.tuple #[.float .f64 r, .bool true]) ∧ w' = w := by
  have hne : (z / 4503599627370496 != 0) = false := by rw [bne_eq_false_iff_eq]; omega
  have hk0 : (-(k : Int) == 0) = false := by rw [beq_eq_false_iff_ne]; omega
  have hd := fun (w : World) => run_float_arith (P := Tryz.prog) w .quo 45 .f64 f g r hq
  clear hq
  go_enter Tryz.func228, Tryz.ntmps228
  go_wp2
  go_ret2
  exact ⟨rfl, rfl⟩

/-- A float and whether it holds; where it does it is r. -/
def OkIs (r : Nat) (e : Ending) : Prop := ∃ f ok, e = .returned (.tuple #[.float .f64 f, .bool ok]) ∧ (ok = true → f = r)

theorem okIs_no {r : Nat} {e : Ending} (f : Nat) (h : e = .returned (.tuple #[.float .f64 f, .bool false])) : OkIs r e := ⟨f, false, h, fun h => by cases h⟩
theorem okIs_yes {r : Nat} {e : Ending} (h : e = .returned (.tuple #[.float .f64 r, .bool true])) : OkIs r e := ⟨r, true, h, fun _ => rfl⟩

set_option maxRecDepth 100000 in
set_option maxHeartbeats 800000 in
theorem exact_pos (d f g r k G o : Nat) (z : Int) (w : World) (hz : Hid (z = (d : Int))) (h0 : 0 ≤ z) (hs : z < 4503599627370496) (m0 : w.cell? ⟨14, 0, none⟩ = some (.int .u64 52)) (hf : floatOfInt .f64 z = f)
    (k1 : 1 ≤ k) (k2 : k ≤ 22) (sl : w.cell? ⟨19, 0, none⟩ = some (.slice (some ⟨G, o, none⟩) 23 23)) (tb : w.cell? ⟨G, o + k, none⟩ = some (.float .f64 g)) (hq : floatBits .mul .f64 f g = some r) :
    Calls Tryz.prog 228 #[.int .u64 z, .int .i64 (k : Int), .bool false] w fun e w' => OkIs r e ∧ w' = w := by
  have hne : (z / 4503599627370496 != 0) = false := by rw [bne_eq_false_iff_eq]; omega
  have hk0 : ((k : Int) == 0) = false := by rw [beq_eq_false_iff_ne]; omega
  have hd := fun (w : World) => run_float_arith (P := Tryz.prog) w .mul 45 .f64 f g r hq
  clear hq
  go_enter Tryz.func228, Tryz.ntmps228
  go_wp2
  all_goals go_ret2
  all_goals first
    | exact ⟨okIs_no f rfl, rfl⟩
    | exact ⟨okIs_yes rfl, rfl⟩

set_option maxRecDepth 100000 in
set_option maxHeartbeats 1600000 in
theorem exact_far_no (d f g1 r1 k G o : Nat) (z : Int) (w : World) (hz : Hid (z = (d : Int))) (h0 : 0 ≤ z) (hs : z < 4503599627370496) (m0 : w.cell? ⟨14, 0, none⟩ = some (.int .u64 52)) (hf : floatOfInt .f64 z = f)
    (k1 : 23 ≤ k) (k2 : k ≤ 37) (sl : w.cell? ⟨19, 0, none⟩ = some (.slice (some ⟨G, o, none⟩) 23 23)) (tb1 : w.cell? ⟨G, o + (k - 22), none⟩ = some (.float .f64 g1))
    (hq1 : floatBits .mul .f64 f g1 = some r1) (ho : FloatKind.f64.format.order r1 4831355200913801216 = some .gt) :
    Calls Tryz.prog 228 #[.int .u64 z, .int .i64 (k : Int), .bool false] w fun e w' => e = .returned (.tuple #[.float .f64 r1, .bool false]) ∧ w' = w := by
  have hne : (z / 4503599627370496 != 0) = false := by rw [bne_eq_false_iff_eq]; omega
  have hk0 : ((k : Int) == 0) = false := by rw [beq_eq_false_iff_ne]; omega
  have hd1 := fun (w : World) => run_float_arith (P := Tryz.prog) w .mul 45 .f64 f g1 r1 hq1
  clear hq1
  have hob : (FloatKind.f64.format.order r1 4831355200913801216 == some .gt) = true := by rw [ho]; rfl
  go_enter Tryz.func228, Tryz.ntmps228
  go_wp2
  all_goals go_ret2
  all_goals exact ⟨rfl, rfl⟩

set_option maxRecDepth 100000 in
set_option maxHeartbeats 1600000 in
theorem exact_far (d f g1 r1 k G o : Nat) (z : Int) (w : World) (hz : Hid (z = (d : Int))) (h0 : 0 ≤ z) (hs : z < 4503599627370496) (m0 : w.cell? ⟨14, 0, none⟩ = some (.int .u64 52)) (hf : floatOfInt .f64 z = f)
    (k1 : 23 ≤ k) (k2 : k ≤ 37) (sl : w.cell? ⟨19, 0, none⟩ = some (.slice (some ⟨G, o, none⟩) 23 23)) (tb1 : w.cell? ⟨G, o + (k - 22), none⟩ = some (.float .f64 g1))
    (hq1 : floatBits .mul .f64 f g1 = some r1) (g2 r2 : Nat) (tb2 : w.cell? ⟨G, o + 22, none⟩ = some (.float .f64 g2)) (ho : ¬ FloatKind.f64.format.order r1 4831355200913801216 = some .gt) (hq2 : floatBits .mul .f64 r1 g2 = some r2) :
    Calls Tryz.prog 228 #[.int .u64 z, .int .i64 (k : Int), .bool false] w fun e w' => OkIs r2 e ∧ w' = w := by
  have hne : (z / 4503599627370496 != 0) = false := by rw [bne_eq_false_iff_eq]; omega
  have hk0 : ((k : Int) == 0) = false := by rw [beq_eq_false_iff_ne]; omega
  have hd1 := fun (w : World) => run_float_arith (P := Tryz.prog) w .mul 45 .f64 f g1 r1 hq1
  clear hq1
  have hob : (FloatKind.f64.format.order r1 4831355200913801216 == some .gt) = false := by rw [beq_eq_false_iff_ne]; exact ho
  have hd2 := fun (w : World) => run_float_arith (P := Tryz.prog) w .mul 45 .f64 r1 g2 r2 hq2
  clear hq2
  go_enter Tryz.func228, Tryz.ntmps228
  go_wp2
  all_goals go_ret2
  all_goals first
    | exact ⟨okIs_no r1 rfl, rfl⟩
    | exact ⟨okIs_yes rfl, rfl⟩

set_option maxRecDepth 100000 in
set_option maxHeartbeats 800000 in
theorem exact_out (d f : Nat) (z p : Int) (w : World) (hz : Hid (z = (d : Int))) (h0 : 0 ≤ z) (hs : z < 4503599627370496) (m0 : w.cell? ⟨14, 0, none⟩ = some (.int .u64 52)) (hf : floatOfInt .f64 z = f)
    (hp : 37 < p ∨ p < -22) :
    Calls Tryz.prog 228 #[.int .u64 z, .int .i64 p, .bool false] w fun e w' => e = .returned (.tuple #[.float .f64 f, .bool false]) ∧ w' = w := by
  have hne : (z / 4503599627370496 != 0) = false := by rw [bne_eq_false_iff_eq]; omega
  have hk0 : (p == 0) = false := by rw [beq_eq_false_iff_ne]; omega
  rcases hp with hp | hp
  all_goals go_enter Tryz.func228, Tryz.ntmps228
  all_goals go_wp2
  all_goals go_ret2
  all_goals exact ⟨rfl, rfl⟩
end Go.Proofs.YtamdnnkdnhkghaaGreatDoor

namespace Go.Proofs.YtamdnnkdnhkghaaGreatDoor
open Go Go.RowKit
set_option linter.unusedVariables false

/-- The library's tables, where they lie. -/
structure Tabs (w : World) (G o : Nat) : Prop where
  size : 20 < w.heap.size
  hG : G < w.heap.size
  mant : w.cell? ⟨14, 0, none⟩ = some (.int .u64 52)
  slice : w.cell? ⟨19, 0, none⟩ = some (.slice (some ⟨G, o, none⟩) 23 23)
  tens : ∀ k, k < 23 → w.cell? ⟨G, o + k, none⟩ = some (.float .f64 (pow10Words.getD k 0))
  rows0 : ∀ i, i < 696 → w.cell? ⟨20, i * 2, none⟩ = some (.int .u64 ((Go.Pinned.pow10Rows.getD i (0, 0)).1 : Nat))
  rows1 : ∀ i, i < 696 → w.cell? ⟨20, i * 2 + 1, none⟩ = some (.int .u64 ((Go.Pinned.pow10Rows.getD i (0, 0)).2 : Nat))

theorem foi (d : Nat) : floatOfInt .f64 (d : Int) = Ieee.double.nearest false d 0 := by
  show Ieee.double.write (.number (decide ((d : Int) < 0)) (d : Int).natAbs 0) = _
  rw [decide_eq_false (by omega), Int.natAbs_natCast]
  rfl

/-- What 'atof64exact' says: if it holds, it is the nearest float. -/
def ExactR (d : Nat) (p : Int) (e : Ending) : Prop := ∃ f ok, e = .returned (.tuple #[.float .f64 f, .bool ok]) ∧ (ok = true → DecRnd d p f ∧ f ≠ infW)

theorem fin_of {d : Nat} {p : Int} {f c : Nat} (hd : d < 4503599627370496) (hp1 : -22 ≤ p) (hp2 : p ≤ 37) (hc : c = 1074) (h : IsRnd (d * 10 ^ p.toNat * 2 ^ c) (10 ^ (-p).toNat) f) : f ≠ infW := by
  have hden : 0 < 10 ^ (-p).toNat := Nat.pow_pos (Nat.succ_pos 9)
  have h1 : d * 10 ^ p.toNat * 2 ^ c < 10 ^ (-p).toNat * 2 ^ (52 + 148 + c) := by
    have a1 : 10 ^ p.toNat ≤ 10 ^ 37 := Nat.pow_le_pow_right (by omega) (by omega)
    have a2 : (10 : Nat) ^ 37 ≤ 2 ^ 148 := by decide
    have a3 : d * 10 ^ p.toNat < 2 ^ 52 * 2 ^ 148 := Nat.mul_lt_mul_of_lt_of_le hd (Nat.le_trans a1 a2) (Nat.pow_pos (by omega))
    rw [Nat.pow_add 2 (52 + 148) c, Nat.pow_add 2 52 148, ← Nat.mul_assoc]
    refine Nat.mul_lt_mul_of_pos_right ?_ (Nat.pow_pos (by omega))
    exact Nat.lt_of_lt_of_le a3 (Nat.le_mul_of_pos_left _ hden)
  exact Nat.ne_of_lt (rnd_fin hden (by omega) h1 h)

theorem exact_any (d G o : Nat) (p : Int) (w : World) (T : Tabs w G o) (hd0 : d ≠ 0) (hd : d < 18446744073709551616) :
    Calls Tryz.prog 228 #[.int .u64 d, .int .i64 p, .bool false] w fun e w' => ExactR d p e ∧ w' = w := by
  by_cases hb : 4503599627370496 ≤ d
  · refine (exact_big d d p w (hide rfl) (by omega) (by omega) (by omega) T.mant).mono ?_
    rintro e w' ⟨rfl, rfl⟩
    exact ⟨⟨_, _, rfl, fun h => by cases h⟩, rfl⟩
  · have hs : d < 4503599627370496 := by omega
    have hw := whole_int hd0 (show d < 9007199254740992 by omega)
    have pw : ∀ k, k < 23 → IsWhole (pow10Words.getD k 0) (10 ^ k) := fun k hk => wholeB_ok (pow10_whole ⟨k, hk⟩)
    by_cases hp0 : p = 0
    · subst hp0
      refine (exact_zero d _ d w (hide rfl) (by omega) (by omega) T.mant (foi d)).mono ?_
      rintro e w' ⟨rfl, rfl⟩
      have key : ∀ c, c = 1074 → IsRnd (d * 10 ^ (0 : Int).toNat * 2 ^ c) (10 ^ (-(0 : Int)).toNat) (Ieee.double.nearest false d 0) := by
        intro c hc
        have h2 := nearest_rnd (mag := d) (place := 0) hd0 (A := c) (B := 0) (by omega)
        have e1 : (0 : Int).toNat = 0 := rfl
        have e2 : (-(0 : Int)).toNat = 0 := rfl
        rw [e1, e2, Nat.pow_zero, Nat.mul_one]
        rw [Nat.pow_zero] at h2
        exact h2
      exact ⟨⟨_, _, rfl, fun _ => ⟨key 1074 rfl, fin_of hs (by omega) (by omega) rfl (key 1074 rfl)⟩⟩, rfl⟩
    · by_cases hneg : -22 ≤ p ∧ p < 0
      · obtain ⟨k, hk⟩ : ∃ k : Nat, p = -(k : Int) := ⟨(-p).toNat, by omega⟩
        subst hk
        have hk23 : k < 23 := by omega
        obtain ⟨r, hr, _⟩ := whole_div hw (pw k hk23) (c := 1074) rfl
        have key : ∀ c, c = 1074 → IsRnd (d * 10 ^ (-(k : Int)).toNat * 2 ^ c) (10 ^ (-(-(k : Int))).toNat) r := by
          intro c hc
          obtain ⟨r', hr', h'⟩ := whole_div hw (pw k hk23) hc
          have : r = r' := by rw [hr] at hr'; exact Option.some.inj hr'
          subst this
          have e1 : (-(k : Int)).toNat = 0 := by omega
          have e2 : (-(-(k : Int))).toNat = k := by omega
          rw [e1, e2, Nat.pow_zero, Nat.mul_one]
          exact h'
        refine (exact_neg d _ _ r k G o d w (hide rfl) (by omega) (by omega) T.mant (foi d) (by omega) (by omega) T.slice (T.tens k hk23) hr).mono ?_
        rintro e w' ⟨rfl, rfl⟩
        exact ⟨⟨_, _, rfl, fun _ => ⟨key 1074 rfl, fin_of hs (by omega) (by omega) rfl (key 1074 rfl)⟩⟩, rfl⟩
      · by_cases hpos : 0 < p ∧ p ≤ 22
        · obtain ⟨k, hk⟩ : ∃ k : Nat, p = (k : Int) := ⟨p.toNat, by omega⟩
          subst hk
          have hk23 : k < 23 := by omega
          obtain ⟨r, hr, _⟩ := whole_mul hw (pw k hk23) (c := 1074) rfl
          have key : ∀ c, c = 1074 → IsRnd (d * 10 ^ ((k : Int)).toNat * 2 ^ c) (10 ^ (-(k : Int)).toNat) r := by
            intro c hc
            obtain ⟨r', hr', h'⟩ := whole_mul hw (pw k hk23) hc
            have : r = r' := by rw [hr] at hr'; exact Option.some.inj hr'
            subst this
            have e1 : (-(k : Int)).toNat = 0 := by omega
            rw [e1, Int.toNat_natCast, Nat.pow_zero]
            exact h'
          refine (exact_pos d _ _ r k G o d w (hide rfl) (by omega) (by omega) T.mant (foi d) (by omega) (by omega) T.slice (T.tens k hk23) hr).mono ?_
          rintro e w' ⟨⟨f, ok, rfl, hok⟩, rfl⟩
          refine ⟨⟨f, ok, rfl, fun h => ?_⟩, rfl⟩
          rw [hok h]
          exact ⟨key 1074 rfl, fin_of hs (by omega) (by omega) rfl (key 1074 rfl)⟩
        · by_cases hfar : 22 < p ∧ p ≤ 37
          · obtain ⟨k, hk⟩ : ∃ k : Nat, p = (k : Int) := ⟨p.toNat, by omega⟩
            subst hk
            have hk23 : k - 22 < 23 := by omega
            obtain ⟨r1, hr1, _⟩ := whole_mul hw (pw (k - 22) hk23) (c := 1074) rfl
            have rnd1 : ∀ c, c = 1074 → IsRnd (d * 10 ^ (k - 22) * 2 ^ c) 1 r1 := by
              intro c hc
              obtain ⟨r', hr', h'⟩ := whole_mul hw (pw (k - 22) hk23) hc
              have : r1 = r' := by rw [hr1] at hr'; exact Option.some.inj hr'
              subst this
              exact h'
            have small : ¬ FloatKind.f64.format.order r1 4831355200913801216 = some .gt → IsWhole r1 (d * 10 ^ (k - 22)) := by
              intro hng
              by_cases hv : d * 10 ^ (k - 22) < 9007199254740992
              · exact whole_of_rnd (c := 1074) (Nat.mul_ne_zero hd0 (Nat.pos_iff_ne_zero.1 (Nat.pow_pos (by omega)))) hv rfl (rnd1 1074 rfl)
              · exact absurd (order_gt (c := 1074) (Nat.le_of_not_lt hv) rfl (rnd1 1074 rfl)) hng
            by_cases hng : FloatKind.f64.format.order r1 4831355200913801216 = some .gt
            · refine (exact_far_no d _ _ r1 k G o d w (hide rfl) (by omega) (by omega) T.mant (foi d) (by omega) (by omega) T.slice (T.tens (k - 22) hk23) hr1 hng).mono ?_
              rintro e w' ⟨rfl, rfl⟩
              exact ⟨⟨_, _, rfl, fun h => by cases h⟩, rfl⟩
            · obtain ⟨r2, h1, _⟩ := whole_mul (small hng) (pw 22 (by omega)) (c := 1074) rfl
              have key : ∀ c, c = 1074 → IsRnd (d * 10 ^ ((k : Int)).toNat * 2 ^ c) (10 ^ (-(k : Int)).toNat) r2 := by
                intro c hc
                obtain ⟨r', hr', h'⟩ := whole_mul (small hng) (pw 22 (by omega)) hc
                have : r2 = r' := by rw [h1] at hr'; exact Option.some.inj hr'
                subst this
                have e1 : (-(k : Int)).toNat = 0 := by omega
                have e2 : d * 10 ^ (k - 22) * 10 ^ 22 = d * 10 ^ k := by
                  rw [Nat.mul_assoc, ← Nat.pow_add]
                  congr 2
                  omega
                rw [e1, Int.toNat_natCast, Nat.pow_zero, ← e2]
                exact h'
              refine (exact_far d _ _ r1 k G o d w (hide rfl) (by omega) (by omega) T.mant (foi d) (by omega) (by omega) T.slice (T.tens (k - 22) hk23) hr1 _ r2 (T.tens 22 (by omega)) hng h1).mono ?_
              rintro e w' ⟨⟨f, ok, rfl, hok⟩, rfl⟩
              refine ⟨⟨f, ok, rfl, fun h => ?_⟩, rfl⟩
              rw [hok h]
              exact ⟨key 1074 rfl, fin_of hs (by omega) (by omega) rfl (key 1074 rfl)⟩
          · refine (exact_out d _ d p w (hide rfl) (by omega) (by omega) T.mant (foi d) (by omega)).mono ?_
            rintro e w' ⟨rfl, rfl⟩
            exact ⟨⟨_, _, rfl, fun h => by cases h⟩, rfl⟩
end Go.Proofs.YtamdnnkdnhkghaaGreatDoor

namespace Go.Proofs.YtamdnnkdnhkghaaGreatDoor
open Go Go.RowKit
set_option linter.unusedVariables false

/-- A decimal of strconv in the block g: its bytes, their number, the point's place, whether something was cut off. -/
structure DecAt (w : World) (g : Nat) (D : Nat → Int) (nd dp : Int) (tr : Bool) : Prop where
  lt : g < w.heap.size
  fr : ∀ k, w.frozen? ⟨g, k, none⟩ = false
  dig : ∀ k, k < 800 → w.cell? ⟨g, k, none⟩ = some (.int .u8 (D k))
  nd : w.cell? ⟨g, 800, none⟩ = some (.int .i64 nd)
  dp : w.cell? ⟨g, 801, none⟩ = some (.int .i64 dp)
  neg : w.cell? ⟨g, 802, none⟩ = some (.bool false)
  tr : w.cell? ⟨g, 803, none⟩ = some (.bool tr)

theorem addr_ne {g i j : Nat} (h : i ≠ j) : (⟨g, i, none⟩ : Addr) ≠ ⟨g, j, none⟩ := by
  intro e; cases e; exact h rfl

theorem DecAt.setNd {w : World} {g : Nat} {D : Nat → Int} {nd dp : Int} {tr : Bool} (h : DecAt w g D nd dp tr) (x : Int) : DecAt (w.setCell ⟨g, 800, none⟩ (.int .i64 x)) g D x dp tr := {
  lt := by simpa using h.lt
  fr := fun k => by simpa using h.fr k
  dig := fun k hk => (World.cell?_setCell_other _ _ _ _ (addr_ne (by omega))).trans (h.dig k hk)
  nd := World.cell?_setCell_same _ _ _ h.nd
  dp := (World.cell?_setCell_other _ _ _ _ (addr_ne (by omega))).trans h.dp
  neg := (World.cell?_setCell_other _ _ _ _ (addr_ne (by omega))).trans h.neg
  tr := (World.cell?_setCell_other _ _ _ _ (addr_ne (by omega))).trans h.tr }

theorem DecAt.setDp {w : World} {g : Nat} {D : Nat → Int} {nd dp : Int} {tr : Bool} (h : DecAt w g D nd dp tr) (x : Int) : DecAt (w.setCell ⟨g, 801, none⟩ (.int .i64 x)) g D nd x tr := {
  lt := by simpa using h.lt
  fr := fun k => by simpa using h.fr k
  dig := fun k hk => (World.cell?_setCell_other _ _ _ _ (addr_ne (by omega))).trans (h.dig k hk)
  nd := (World.cell?_setCell_other _ _ _ _ (addr_ne (by omega))).trans h.nd
  dp := World.cell?_setCell_same _ _ _ h.dp
  neg := (World.cell?_setCell_other _ _ _ _ (addr_ne (by omega))).trans h.neg
  tr := (World.cell?_setCell_other _ _ _ _ (addr_ne (by omega))).trans h.tr }

theorem DecAt.setTr {w : World} {g : Nat} {D : Nat → Int} {nd dp : Int} {tr : Bool} (h : DecAt w g D nd dp tr) (x : Bool) : DecAt (w.setCell ⟨g, 803, none⟩ (.bool x)) g D nd dp x := {
  lt := by simpa using h.lt
  fr := fun k => by simpa using h.fr k
  dig := fun k hk => (World.cell?_setCell_other _ _ _ _ (addr_ne (by omega))).trans (h.dig k hk)
  nd := (World.cell?_setCell_other _ _ _ _ (addr_ne (by omega))).trans h.nd
  dp := (World.cell?_setCell_other _ _ _ _ (addr_ne (by omega))).trans h.dp
  neg := (World.cell?_setCell_other _ _ _ _ (addr_ne (by omega))).trans h.neg
  tr := World.cell?_setCell_same _ _ _ h.tr }

theorem DecAt.drewN {w : World} {g : Nat} {D : Nat → Int} {nd dp : Int} {tr : Bool} (h : DecAt w g D nd dp tr) (n : Nat) : DecAt (w.drewN n) g D nd dp tr :=
  ⟨h.lt, h.fr, h.dig, h.nd, h.dp, h.neg, h.tr⟩

theorem below_drewN {B : Nat} {a w : World} (h : Below B a w) (n : Nat) : Below B a (w.drewN n) := ⟨h.os, h.tape, h.output, h.size, h.block⟩

/-- One byte turned. -/
def updD (D : Nat → Int) (k : Nat) (x : Int) : Nat → Int := fun j => if j = k then x else D j

theorem updD_same (D : Nat → Int) (k : Nat) (x : Int) : updD D k x k = x := by simp [updD]
theorem updD_other {D : Nat → Int} {k j : Nat} {x : Int} (h : j ≠ k) : updD D k x j = D j := by simp [updD, h]

theorem DecAt.setDig {w : World} {g : Nat} {D : Nat → Int} {nd dp : Int} {tr : Bool} (h : DecAt w g D nd dp tr) {k : Nat} (hk : k < 800) (x : Int) : DecAt (w.setCell ⟨g, k, none⟩ (.int .u8 x)) g (updD D k x) nd dp tr := {
  lt := by simpa using h.lt
  fr := fun k => by simpa using h.fr k
  dig := fun j hj => by
    by_cases e : j = k
    · subst e; rw [updD_same]; exact World.cell?_setCell_same _ _ _ (h.dig j hj)
    · rw [updD_other e]; exact (World.cell?_setCell_other _ _ _ _ (addr_ne (by omega))).trans (h.dig j hj)
  nd := (World.cell?_setCell_other _ _ _ _ (addr_ne (by omega))).trans h.nd
  dp := (World.cell?_setCell_other _ _ _ _ (addr_ne (by omega))).trans h.dp
  neg := (World.cell?_setCell_other _ _ _ _ (addr_ne (by omega))).trans h.neg
  tr := (World.cell?_setCell_other _ _ _ _ (addr_ne (by omega))).trans h.tr }

/-- How many bytes stay behind 'trim'. -/
def trimN (D : Nat → Int) : Nat → Nat
  | 0 => 0
  | n + 1 => if D n = 48 then trimN D n else n + 1

def trimDp (n : Nat) (dp : Int) : Int := if n = 0 then 0 else dp

theorem trimN_pos {D : Nat → Int} {n m : Nat} (h : m = n + 1) (hd : D n = 48) : trimN D m = trimN D n := by subst h; simp [trimN, hd]
theorem trimN_stop {D : Nat → Int} {n m : Nat} (h : m = n + 1) (hd : D n ≠ 48) : trimN D m = m := by subst h; simp [trimN, hd]

set_option maxHeartbeats 800000 in
set_option maxRecDepth 100000 in
theorem trimD_any (g n : Nat) (D : Nat → Int) (dp : Int) (tr : Bool) (w : World) (h : DecAt w g D n dp tr) (hn : n ≤ 800) :
    Calls Tryz.prog 244 #[.pointer (some ⟨g, 0, none⟩)] w fun e w' => e = .returned (.tuple #[]) ∧ DecAt w' g D (trimN D n) (trimDp (trimN D n) dp) tr ∧ Below g w w' := by
  have H := hide h
  go_enter Tryz.func244, Tryz.ntmps244
  go_wp2
  go_loopg [] n (fun gk wr => ∃ m : Nat, gk = m ∧ m ≤ 800 ∧ DecAt wr g D m dp tr ∧ Hid (trimN D m = trimN D n) ∧ Below g w wr)
  case atStart => exact ⟨n, rfl, hn, H.out, hide rfl, Below.refl _ _⟩
  case round =>
    obtain ⟨m, rfl, hm, hd, Ht, hb⟩ := hrel
    have c0 := hd.nd
    have c9 := hd.dp
    have f0 := hd.fr
    have Hd := hide hd
    have Hb := hide hb
    clear hd hb h H
    by_cases hz : gk = 0
    · subst hz
      go_wp2
      go_quiet (fail)
      go_wp2
      go_end0
      have e := Ht.out
      have hdn := (Hd.out.drewN nq).setDp 0
      have e0 : trimN D n = 0 := e.symm
      rw [e0]
      exact ⟨rfl, hdn, (below_drewN Hb.out nq).setCell (Nat.le_refl _) _⟩
    · have c1 := Hd.out.dig (gk - 1) (by omega)
      have hi : ((gk : Int) - 1).toNat = gk - 1 := by omega
      have hp : (0 : Int) < (gk : Int) := by omega
      have hp2 : 0 < gk := by omega
      have hp3 : decide ((0 : Int) < (gk : Int)) = true := by simp; omega
      have hp4 : decide (0 < gk) = true := by simp; omega
      have hb0 : (0 : Int) ≤ (gk : Int) - 1 := by omega
      have hb1 : (gk : Int) - 1 < 800 := by omega
      by_cases hv : D (gk - 1) = 48
      · have hvb : (D (gk - 1) == 48) = true := by rw [hv]; rfl
        have Hv := hide hv
        clear hv
        go_wp2
        go_quiet (fail)
        go_wp2
        go_roundg (gk - 1)
        case rel =>
          refine ⟨gk - 1, rfl, by omega, ?_, hide ?_, ?_⟩
          · have hdn := (Hd.out.drewN nq).setNd ((gk - 1 : Nat) : Int)
            have e : ((gk - 1 : Nat) : Int) = (gk : Int) - 1 := by omega
            rw [e] at hdn ⊢
            exact hdn
          · rw [← Ht.out]; exact (trimN_pos (by omega) Hv.out).symm
          · exact (below_drewN Hb.out nq).setCell (Nat.le_refl _) _
        case measure => omega
      · have hvb : (D (gk - 1) == 48) = false := by rw [beq_eq_false_iff_ne]; exact hv
        have Hv := hide hv
        clear hv
        go_wp2
        go_quiet (fail)
        go_wp2
        go_end0
        have e := Ht.out
        have e0 : trimN D n = gk := by rw [← e]; exact trimN_stop (by omega) Hv.out
        rw [e0]
        refine ⟨rfl, ?_, below_drewN Hb.out nq⟩
        have : trimDp gk dp = dp := by unfold trimDp; rw [if_neg hz]
        rw [this]
        exact Hd.out.drewN nq
end Go.Proofs.YtamdnnkdnhkghaaGreatDoor
