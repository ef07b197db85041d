import Derived.Test.YtamdnnkdnhkghaaGreatDoorT04
import Derived.Test.YtamdnnkdnhkghaaGreatDoorShelf
import Derived.Deep.QuietTactic
import Derived.BigQuiet
import Derived.WalkSmall
import Derived.Test.YtamdnnkdnhkghaaGreatDoorT07
import Derived.Laws.Externs
import Derived.Lib.BitFns
namespace Go.Proofs.YtamdnnkdnhkghaaGreatDoor

theorem two53 (D : Nat) : D * 2 ^ 53 = D * 9007199254740992 := rfl

theorem two52 (D : Nat) : D * 2 ^ 52 = D * 4503599627370496 := rfl

theorem fits_mul (den ke : Nat) (a : Nat) : den * 2 ^ (a + ke) = den * 2 ^ ke * 2 ^ a := by rw [Nat.pow_add, Nat.mul_comm (2 ^ a), Nat.mul_assoc]

/-- Without the shift. -/
theorem pf_core1 {N den ke : Nat} (hden : 0 < den) (L : ke = 0 ∨ den * 2 ^ ke * 4503599627370496 ≤ N) (hu : unr (4 * N) (den * 2 ^ ke) < 36028797018963966) :
    rnd2 (unr (4 * N) (den * 2 ^ ke)) < 9007199254740992 ∧ IsRnd N den (min (ke * 4503599627370496 + rnd2 (unr (4 * N) (den * 2 ^ ke))) infW) ∧ (ke = 0 ∨ 4503599627370496 ≤ rnd2 (unr (4 * N) (den * 2 ^ ke))) := by
  have hD : 0 < den * 2 ^ ke := Nat.mul_pos hden (Nat.pow_pos (by omega))
  have hr : rnd2 (unr (4 * N) (den * 2 ^ ke)) < 9007199254740992 := by unfold rnd2; omega
  rw [rnd2_unr hD] at hr ⊢
  have hN := rq_lt hD hr
  refine ⟨hr, ⟨ke, ?_, ?_, rfl⟩, ?_⟩
  · rw [fits_mul, two53]; exact hN
  · rcases L with L | L
    · left; exact L
    · right; rw [fits_mul, two52]; exact L
  · rcases L with L | L
    · left; exact L
    · right; exact rq_ge' hD L

/-- With the shift. -/
theorem pf_core2 {N den ke : Nat} (hden : 0 < den) (U : N * 1048576 < den * 2 ^ ke * 18889447917080071372800) (L : ke = 0 ∨ den * 2 ^ ke * 4503599627370496 ≤ N)
    (hu : 36028797018963966 ≤ unr (4 * N) (den * 2 ^ ke)) :
    rnd2 (unr (4 * N) (den * 2 ^ ke) / 2 ||| unr (4 * N) (den * 2 ^ ke) % 2) < 9007199254740992 ∧ 4503599627370496 ≤ rnd2 (unr (4 * N) (den * 2 ^ ke) / 2 ||| unr (4 * N) (den * 2 ^ ke) % 2) ∧
      IsRnd N den (min ((ke + 1) * 4503599627370496 + rnd2 (unr (4 * N) (den * 2 ^ ke) / 2 ||| unr (4 * N) (den * 2 ^ ke) % 2)) infW) := by
  have hD : 0 < den * 2 ^ ke := Nat.mul_pos hden (Nat.pow_pos (by omega))
  have hr : 9007199254740992 ≤ rnd2 (unr (4 * N) (den * 2 ^ ke)) := by unfold rnd2; omega
  rw [rnd2_unr hD] at hr
  rw [unr_half hD, rnd2_unr (by omega)]
  have hD2 : den * 2 ^ (ke + 1) = 2 * (den * 2 ^ ke) := by rw [Nat.pow_succ]; grind
  generalize hDD : den * 2 ^ ke = D at *
  have hup : rq N (2 * D) < 9007199254740992 := by
    have h1 : N ≤ 2 * D * 9007199254740991 := by omega
    have := rq_le (k := 9007199254740991) (show 0 < 2 * D by omega) h1
    omega
  by_cases hge : D * 9007199254740992 ≤ N
  · have hlow : 4503599627370496 ≤ rq N (2 * D) := rq_ge' (N := N) (D := 2 * D) (k := 4503599627370496) (by omega) (by rw [Nat.mul_comm 2 D, Nat.mul_assoc]; exact hge)
    refine ⟨hup, hlow, ⟨ke + 1, ?_, .inr ?_, ?_⟩⟩
    · have e : den * 2 ^ (53 + (ke + 1)) = 2 * D * 9007199254740992 := by
        rw [fits_mul, hD2]
      rw [e]; omega
    · have e : den * 2 ^ (52 + (ke + 1)) = D * 9007199254740992 := by
        rw [fits_mul, hD2, two52]; omega
      rw [e]; exact hge
    · rw [hD2]
  · have hlt : N < D * 9007199254740992 := Nat.lt_of_not_le hge
    have hle := rq_le hD (Nat.le_of_lt hlt)
    have heq : rq N D = 9007199254740992 := by omega
    have hc := rq_carry (c := 4503599627370496) hD hlt heq
    rw [hc]
    refine ⟨by omega, Nat.le_refl _, ⟨ke, ?_, ?_, ?_⟩⟩
    · rw [fits_mul, two53, hDD]; exact hlt
    · rcases L with L | L
      · left; exact L
      · right; rw [fits_mul, two52, hDD]; exact L
    · rw [hDD, heq]; omega

/-- The bounds on a power of ten: 2^lp ≤ 10^p, and 10^p stays clear of 2^(lp + 1). -/
def lpRows : Bool := (List.range 656).all fun i =>
  decide (denT ((i : Int) - 345) * 170141183460469231731687303715884105728 ≤ numT ((i : Int) - 345) ∧ numT ((i : Int) - 345) * 1048576 ≤ denT ((i : Int) - 345) * 356811582894123049326108028987766352327475200)

set_option maxRecDepth 100000 in
theorem lpRows_ok : lpRows = true := by decide +kernel

end Go.Proofs.YtamdnnkdnhkghaaGreatDoor

namespace Go.Proofs.YtamdnnkdnhkghaaGreatDoor

theorem t128_pow : T128 = 2 ^ 128 := by decide

theorem pow_bal {d x1 x2 a1 a2 a3 c1 c2 c3 : Nat} (h : a1 + a2 + a3 = 2 + c1 + c2 + c3 + 128) :
    d * 2 ^ a1 * (x1 * 2 ^ a2) * (x2 * 2 ^ a3) = 4 * (d * x1 * 2 ^ c1) * (x2 * 2 ^ c2 * (2 ^ c3 * T128)) := by
  have e1 : d * 2 ^ a1 * (x1 * 2 ^ a2) * (x2 * 2 ^ a3) = d * x1 * x2 * 2 ^ (a1 + a2 + a3) := by
    rw [Nat.pow_add, Nat.pow_add]
    generalize 2 ^ a1 = p1
    generalize 2 ^ a2 = p2
    generalize 2 ^ a3 = p3
    grind
  have e2 : 4 * (d * x1 * 2 ^ c1) * (x2 * 2 ^ c2 * (2 ^ c3 * T128)) = d * x1 * x2 * 2 ^ (2 + c1 + c2 + c3 + 128) := by
    rw [t128_pow, Nat.pow_add, Nat.pow_add, Nat.pow_add, Nat.pow_add]
    have e4 : (2 : Nat) ^ 2 = 4 := rfl
    rw [e4]
    generalize 2 ^ c1 = p1
    generalize 2 ^ c2 = p2
    generalize 2 ^ c3 = p3
    generalize 2 ^ 128 = p4
    grind
  rw [e1, e2, h]

/-- What 'parseFloat64' reckons with: d * 10^p, d shifted to its high bit. -/
structure PF (d : Nat) (p : Int) (b s ke : Nat) : Prop where
  hb : b ≤ 64
  hd1 : 2 ^ (b - 1) ≤ d
  hd2 : d < 2 ^ b
  hb0 : 1 ≤ b
  hp1 : -345 ≤ p
  hp2 : p ≤ 310
  hs : 8 ≤ s
  hrel : (s : Int) = 61 - (1074 - (ke : Int)) - b - lp10 p
  hke : ke = 0 ∨ s = 8

theorem PF.x {d : Nat} {p : Int} {b s ke : Nat} (h : PF d p b s ke) : 9223372036854775808 ≤ d * 2 ^ (64 - b) ∧ d * 2 ^ (64 - b) < T64 := by
  obtain ⟨hb, hd1, hd2, hb0, _, _, _, _, _⟩ := h
  have e1 : 2 ^ (b - 1) * 2 ^ (64 - b) = 9223372036854775808 := by rw [← Nat.pow_add, show b - 1 + (64 - b) = 63 by omega]
  have e2 : 2 ^ b * 2 ^ (64 - b) = T64 := by rw [← Nat.pow_add, show b + (64 - b) = 64 by omega]; rfl
  constructor
  · rw [← e1]; exact Nat.mul_le_mul_right _ hd1
  · rw [← e2]; exact Nat.mul_lt_mul_of_pos_right hd2 (Nat.pow_pos (by omega))

theorem lp_row {p : Int} (hp1 : -345 ≤ p) (hp2 : p ≤ 310) :
    denT p * 170141183460469231731687303715884105728 ≤ numT p ∧ numT p * 1048576 ≤ denT p * 356811582894123049326108028987766352327475200 := by
  have := all_range lpRows_ok (i := (p + 345).toNat) (by omega)
  have e : (((p + 345).toNat : Nat) : Int) - 345 = p := by omega
  rw [e] at this
  exact of_decide_eq_true this

theorem PF.bal {d : Nat} {p : Int} {b s ke c : Nat} (h : PF d p b s ke) (hc : c = 1074) :
    d * 2 ^ (64 - b) * numT p * (10 ^ (-p).toNat * 2 ^ ke) = 4 * (d * 10 ^ p.toNat * 2 ^ c) * (denT p * (2 ^ s * T128)) := by
  obtain ⟨hb, _, _, _, _, _, _, hrel, _⟩ := h
  unfold numT denT
  refine pow_bal ?_
  omega

theorem PF.unr {d : Nat} {p : Int} {b s ke c : Nat} (h : PF d p b s ke) (hc : c = 1074) :
    unr (d * 2 ^ (64 - b) * numT p) (denT p * (2 ^ s * T128)) = unr (4 * (d * 10 ^ p.toNat * 2 ^ c)) (10 ^ (-p).toNat * 2 ^ ke) := by
  refine unr_ratio ?_ ?_ (h.bal hc)
  · exact Nat.mul_pos (Nat.mul_pos (Nat.pow_pos (by omega)) (Nat.pow_pos (by omega))) (Nat.mul_pos (Nat.pow_pos (by omega)) (by rw [e128]; omega))
  · exact Nat.mul_pos (Nat.pow_pos (by omega)) (Nat.pow_pos (by omega))

theorem PF.upper {d : Nat} {p : Int} {b s ke c : Nat} (h : PF d p b s ke) (hc : c = 1074) :
    d * 10 ^ p.toNat * 2 ^ c * 1048576 < 10 ^ (-p).toNat * 2 ^ ke * 18889447917080071372800 := by
  have hbal := h.bal hc
  have hx := h.x.2
  have hr := (lp_row h.hp1 h.hp2).2
  have hden : 0 < denT p := Nat.mul_pos (Nat.pow_pos (by omega)) (Nat.pow_pos (by omega))
  have hS : 2 ^ 8 ≤ 2 ^ s := Nat.pow_le_pow_right (by omega) h.hs
  have hDd : 0 < 10 ^ (-p).toNat * 2 ^ ke := Nat.mul_pos (Nat.pow_pos (by omega)) (Nat.pow_pos (by omega))
  generalize d * 10 ^ p.toNat * 2 ^ c = N at *
  generalize 10 ^ (-p).toNat * 2 ^ ke = D at *
  generalize d * 2 ^ (64 - b) = x at *
  generalize numT p = a at *
  generalize denT p = q at *
  generalize 2 ^ s = S at *
  clear h hc
  have hx' : x ≤ 18446744073709551615 := by rw [e64] at hx; omega
  have hB : 0 < q * (S * T128) := Nat.mul_pos hden (Nat.mul_pos (by omega) (by rw [e128]; omega))
  have h1 : x * a * 1048576 < q * (S * T128) * 75557791668320285491200 := by
    have s1 : x * (a * 1048576) ≤ x * (q * 356811582894123049326108028987766352327475200) := Nat.mul_le_mul_left _ hr
    have s2 : x * (q * 356811582894123049326108028987766352327475200) ≤ 18446744073709551615 * (q * 356811582894123049326108028987766352327475200) := Nat.mul_le_mul_right _ hx'
    have s3 : q * (256 * T128) ≤ q * (S * T128) := Nat.mul_le_mul_left _ (Nat.mul_le_mul_right _ hS)
    rw [Nat.mul_assoc x a]
    refine Nat.lt_of_le_of_lt (Nat.le_trans s1 s2) (Nat.lt_of_lt_of_le ?_ (Nat.mul_le_mul_right _ s3))
    rw [Nat.mul_left_comm, Nat.mul_assoc q]
    exact Nat.mul_lt_mul_of_pos_left (by decide) hden
  have h2 : x * a * D * 1048576 < q * (S * T128) * 75557791668320285491200 * D := by
    have := Nat.mul_lt_mul_of_pos_right h1 hDd
    calc x * a * D * 1048576 = x * a * 1048576 * D := by rw [Nat.mul_right_comm]
      _ < _ := this
  rw [hbal] at h2
  generalize q * (S * T128) = Y at *
  have h3 : Y * (4 * N * 1048576) < Y * (75557791668320285491200 * D) := by
    calc Y * (4 * N * 1048576) = 4 * N * Y * 1048576 := by grind
      _ < Y * 75557791668320285491200 * D := h2
      _ = _ := by rw [Nat.mul_assoc]
  have h4 := Nat.lt_of_mul_lt_mul_left h3
  have h5 : 4 * (N * 1048576) < 4 * (D * 18889447917080071372800) := by
    rw [← Nat.mul_assoc, Nat.mul_comm D, ← Nat.mul_assoc 4]
    exact h4
  exact Nat.lt_of_mul_lt_mul_left h5

theorem PF.lower {d : Nat} {p : Int} {b s ke c : Nat} (h : PF d p b s ke) (hc : c = 1074) :
    ke = 0 ∨ 10 ^ (-p).toNat * 2 ^ ke * 4503599627370496 ≤ d * 10 ^ p.toNat * 2 ^ c := by
  rcases h.hke with hk | hs8
  · left; exact hk
  · right
    have hbal := h.bal hc
    have hx := h.x.1
    have hr := (lp_row h.hp1 h.hp2).1
    have hden : 0 < denT p := Nat.mul_pos (Nat.pow_pos (by omega)) (Nat.pow_pos (by omega))
    have hDd : 0 < 10 ^ (-p).toNat * 2 ^ ke := Nat.mul_pos (Nat.pow_pos (by omega)) (Nat.pow_pos (by omega))
    subst hs8
    have e8 : (2 : Nat) ^ 8 = 256 := rfl
    rw [e8] at hbal
    generalize d * 10 ^ p.toNat * 2 ^ c = N at *
    generalize 10 ^ (-p).toNat * 2 ^ ke = D at *
    generalize d * 2 ^ (64 - b) = x at *
    generalize numT p = a at *
    generalize denT p = q at *
    clear h hc
    have s1 : 9223372036854775808 * (q * 170141183460469231731687303715884105728) ≤ x * a := Nat.mul_le_mul hx hr
    have s2 : 9223372036854775808 * (q * 170141183460469231731687303715884105728) * D ≤ x * a * D := Nat.mul_le_mul_right _ s1
    rw [hbal, e128] at s2
    have s3 : q * (18014398509481984 * D) ≤ q * (4 * N) := by
      have e1 : 9223372036854775808 * (q * 170141183460469231731687303715884105728) * D = q * (18014398509481984 * D) * 87112285931760246646623899502532662132736 := by grind
      have e2 : 4 * N * (q * (256 * 340282366920938463463374607431768211456)) = q * (4 * N) * 87112285931760246646623899502532662132736 := by grind
      rw [e1, e2] at s2
      exact Nat.le_of_mul_le_mul_right s2 (by omega)
    have s4 := Nat.le_of_mul_le_mul_left s3 hden
    have s5 : 4 * (D * 4503599627370496) ≤ 4 * N := by
      rw [Nat.mul_comm D, ← Nat.mul_assoc 4]
      exact s4
    exact Nat.le_of_mul_le_mul_left s5 (Nat.succ_pos 3)

end Go.Proofs.YtamdnnkdnhkghaaGreatDoor

namespace Go.Proofs.YtamdnnkdnhkghaaGreatDoor

open Go Go.RowKit

set_option linter.unusedVariables false

theorem log2Pow10_any (p : Int) (w : World) (h1 : -400 ≤ p) (h2 : p ≤ 400) :
    Calls Tryz.prog 236 #[.int .i64 p] w fun e w' => e = .returned (.int .i64 (lp10 p)) ∧ w' = w := by
  go_enter Tryz.func236, Tryz.ntmps236
  go_wp2
  go_ret
  exact ⟨rfl, rfl⟩

theorem unmin_any (w : World) :
    Calls Tryz.prog 242 #[.int .u64 9007199254740992] w fun e w' => e = .returned (.int .u64 36028797018963966) ∧ w' = w := by
  go_enter Tryz.func242, Tryz.ntmps242
  go_wp2
  go_ret
  exact ⟨rfl, rfl⟩

theorem bool2u_any (b : Bool) (w : World) :
    Calls Tryz.prog 226 #[.bool b] w fun e w' => e = .returned (.int .u64 (if b = true then 1 else 0)) ∧ w' = w := by
  cases b
  all_goals go_enter Tryz.func226, Tryz.ntmps226
  all_goals go_wp2
  all_goals go_ret
  all_goals exact ⟨rfl, rfl⟩

theorem round_val {u : Nat} (h : u < 9223372036854775808) : IntKind.u64.wrap ((u : Int) + 1 + bits .and .u64 ((u : Int) / 4) 1) / 4 = ((rnd2 u : Nat) : Int) := by
  have e1 : bits .and .u64 ((u : Int) / 4) 1 = ((u / 4 % 2 : Nat) : Int) := by
    have := u64_and_nat (u / 4) 1 (by omega) (by omega)
    rw [Nat.and_one_is_mod] at this
    exact this
  rw [e1, wrap_u64 (by omega) (by omega)]
  unfold rnd2
  omega

theorem round_any (u : Nat) (w : World) (h : u < 9223372036854775808) :
    Calls Tryz.prog 241 #[.int .u64 u] w fun e w' => e = .returned (.int .u64 (rnd2 u)) ∧ w' = w := by
  have H := hide (round_val h)
  go_enter Tryz.func241, Tryz.ntmps241
  go_wp2
  go_ret
  exact ⟨ret_int H.out, rfl⟩

theorem mul64_named (x y H L : Nat) (hH : H = x * y / T64) (hL : L = x * y % T64) (hx : x < 18446744073709551616) (hy : y < 18446744073709551616) (w : World) :
    Calls Tryz.prog 190 #[.int .u64 x, .int .u64 y] w fun e w' => e = .returned (.tuple #[.int .u64 H, .int .u64 L]) ∧ w' = w := by
  subst hH; subst hL
  exact Tryz.bits_Mul64 x y hx hy w

theorem and63_fin : ∀ s : Fin 64, bits .and .i64 ((s.val : Nat) : Int) 63 = ((s.val : Nat) : Int) := by decide +kernel

theorem and63 {s : Nat} (h : s < 64) : bits .and .i64 (s : Int) 63 = (s : Int) := and63_fin ⟨s, h⟩

theorem cast_div_pow (H s : Nat) : (H : Int) / 2 ^ s = ((H / 2 ^ s : Nat) : Int) := by rw [cast_two]; simp

theorem low_test {H s : Nat} (hH : H < 18446744073709551616) : (IntKind.u64.wrap ((H : Int) / 2 ^ s * 2 ^ s) != (H : Int)) = decide (H / 2 ^ s * 2 ^ s ≠ H) := by
  have hle : H / 2 ^ s * 2 ^ s ≤ H := Nat.div_mul_le_self H (2 ^ s)
  have e : (H : Int) / 2 ^ s * 2 ^ s = ((H / 2 ^ s * 2 ^ s : Nat) : Int) := by rw [cast_div_pow, cast_two, Int.natCast_mul]
  rw [e]
  generalize H / 2 ^ s * 2 ^ s = K at *
  rw [wrap_u64 (by omega) (by omega)]
  by_cases h : K = H
  · subst h; simp
  · rw [decide_eq_true h, bne_iff_ne]; omega

theorem or_val {a b : Nat} (ha : a < 18446744073709551616) (hb : b < 18446744073709551616) : bits .or .u64 (a : Int) (b : Int) = ((a ||| b : Nat) : Int) := u64_or_nat a b ha hb

set_option maxHeartbeats 1600000 in
set_option maxRecDepth 100000 in
theorem uscale_any (x hi lo s g : Nat) (w : World) (hx : x < 18446744073709551616) (hhi : hi < 18446744073709551616) (hlo : lo < 18446744073709551616) (hs : s < 64) (hpos : 0 < x * hi / T64)
    (c0 : w.cell? ⟨g, 0, none⟩ = some (.int .u64 hi)) (c1 : w.cell? ⟨g, 1, none⟩ = some (.int .u64 lo)) (c2 : w.cell? ⟨g, 2, none⟩ = some (.int .i64 s)) :
    Calls Tryz.prog 237 #[.int .u64 x, .pointer (some ⟨g, 0, none⟩)] w fun e w' => e = .returned (.int .u64 (usc x hi lo s)) ∧ ∃ n, w' = w.drewN n := by
  have ha := and63 hs
  obtain ⟨H, hH⟩ : ∃ H, H = x * hi / T64 := ⟨_, rfl⟩
  obtain ⟨M, hM⟩ : ∃ M, M = x * hi % T64 := ⟨_, rfl⟩
  obtain ⟨M2, hM2⟩ : ∃ M2, M2 = x * lo / T64 := ⟨_, rfl⟩
  have hHl : H < 18446744073709551616 := by
    rw [hH, Nat.div_lt_iff_lt_mul (by rw [e64]; omega), e64]
    exact Nat.mul_lt_mul_of_lt_of_le hx (Nat.le_of_lt hhi) (by omega)
  have hMl : M < 18446744073709551616 := by rw [hM]; exact Nat.mod_lt _ (by rw [e64]; omega)
  have hM2l : M2 < 18446744073709551616 := by
    rw [hM2, Nat.div_lt_iff_lt_mul (by rw [e64]; omega), e64]
    exact Nat.mul_lt_mul_of_lt_of_le hx (Nat.le_of_lt hlo) (by omega)
  have HU : Hid (usc x hi lo s = if H / 2 ^ s * 2 ^ s ≠ H then H / 2 ^ s ||| 1 else (H - (if M < M2 then 1 else 0)) / 2 ^ s ||| (if 1 < (M + T64 - M2) % T64 then 1 else 0)) := hide (by unfold usc; rw [← hH, ← hM, ← hM2])
  rw [← hH] at hpos
  have HH := hide hH
  have HM := hide hM
  have HM2 := hide hM2
  have hdl : H / 2 ^ s < 18446744073709551616 := Nat.lt_of_le_of_lt (Nat.div_le_self _ _) hHl
  clear hH hM hM2
  have ht := low_test (s := s) hHl
  by_cases h1 : H / 2 ^ s * 2 ^ s ≠ H
  · rw [decide_eq_true h1] at ht
    have HV : Hid (bits .or .u64 ((H : Int) / 2 ^ s) 1 = ((usc x hi lo s : Nat) : Int)) := hide (by rw [HU.out, if_pos h1, cast_div_pow]; exact or_val (b := 1) hdl (by omega))
    clear h1 hdl
    go_enter Tryz.func237, Tryz.ntmps237
    go_wp2_with fail
    refine (mul64_named x hi H M HH.out HM.out hx hhi _).mono ?_
    rintro e w1 ⟨rfl, rfl⟩
    go_wp2
    go_ret
    exact ⟨ret_int HV.out, 0, rfl⟩
  · rw [decide_eq_false h1] at ht
    have h1' : H / 2 ^ s * 2 ^ s = H := by
      by_cases e : H / 2 ^ s * 2 ^ s = H
      · exact e
      · exact absurd e h1
    by_cases h2 : M < M2
    · have e2 : IntKind.u64.wrap ((M : Int) - M2) = (((M + T64 - M2) % T64 : Nat) : Int) := by
        simp only [IntKind.wrap, IntKind.signed, IntKind.bits, e64]; simp; omega
      by_cases h3 : 1 < (M + T64 - M2) % T64
      · have HV : Hid (bits .or .u64 (((H : Int) - 1) / 2 ^ s) 1 = ((usc x hi lo s : Nat) : Int)) := hide (by
          rw [HU.out, if_neg h1, if_pos h2, if_pos h3]
          have e1 : (H : Int) - 1 = ((H - 1 : Nat) : Int) := by omega
          rw [e1, cast_div_pow]
          exact or_val (b := 1) (Nat.lt_of_le_of_lt (Nat.div_le_self _ _) (by omega)) (by omega))
        have hw : (1 : Int) < IntKind.u64.wrap ((M : Int) - M2) := by rw [e2]; omega
        clear e2 h1 h1' hdl h3
        go_enter Tryz.func237, Tryz.ntmps237
        go_wp2_with fail
        refine (mul64_named x hi H M HH.out HM.out hx hhi _).mono ?_
        rintro e w1 ⟨rfl, rfl⟩
        go_wp2_with fail
        refine (mul64_named x lo M2 (x * lo % T64) HM2.out rfl hx hlo _).mono ?_
        rintro e w1 ⟨rfl, rfl⟩
        go_wp2_with fail
        refine (bool2u_any _ _).mono ?_
        rintro e w1 ⟨rfl, rfl⟩
        go_wp2_with fail
        go_quiet ((go_at_call 226; exact Calls.quiet_of_same (bool2u_any _ _)))
        go_wp2
        all_goals go_ret
        all_goals exact ⟨ret_int HV.out, _, rfl⟩
      · have HV : Hid (bits .or .u64 (((H : Int) - 1) / 2 ^ s) 0 = ((usc x hi lo s : Nat) : Int)) := hide (by
          rw [HU.out, if_neg h1, if_pos h2, if_neg h3]
          have e1 : (H : Int) - 1 = ((H - 1 : Nat) : Int) := by omega
          rw [e1, cast_div_pow]
          exact or_val (b := 0) (Nat.lt_of_le_of_lt (Nat.div_le_self _ _) (by omega)) (by omega))
        have hw : ¬ (1 : Int) < IntKind.u64.wrap ((M : Int) - M2) := by rw [e2]; omega
        clear e2 h1 h1' hdl h3
        go_enter Tryz.func237, Tryz.ntmps237
        go_wp2_with fail
        refine (mul64_named x hi H M HH.out HM.out hx hhi _).mono ?_
        rintro e w1 ⟨rfl, rfl⟩
        go_wp2_with fail
        refine (mul64_named x lo M2 (x * lo % T64) HM2.out rfl hx hlo _).mono ?_
        rintro e w1 ⟨rfl, rfl⟩
        go_wp2_with fail
        refine (bool2u_any _ _).mono ?_
        rintro e w1 ⟨rfl, rfl⟩
        go_wp2_with fail
        go_quiet ((go_at_call 226; exact Calls.quiet_of_same (bool2u_any _ _)))
        go_wp2
        all_goals go_ret
        all_goals exact ⟨ret_int HV.out, _, rfl⟩
    · have e2 : IntKind.u64.wrap ((M : Int) - M2) = (((M + T64 - M2) % T64 : Nat) : Int) := by
        simp only [IntKind.wrap, IntKind.signed, IntKind.bits, e64]; simp; omega
      by_cases h3 : 1 < (M + T64 - M2) % T64
      · have HV : Hid (bits .or .u64 ((H : Int) / 2 ^ s) 1 = ((usc x hi lo s : Nat) : Int)) := hide (by
          rw [HU.out, if_neg h1, if_neg h2, Nat.sub_zero, if_pos h3]
          skip
          rw [cast_div_pow]
          exact or_val (b := 1) hdl (by omega))
        have hw : (1 : Int) < IntKind.u64.wrap ((M : Int) - M2) := by rw [e2]; omega
        have hw2 : (1 : Int) < (M : Int) - M2 := by rw [e64] at h3; omega
        clear e2 h1 h1' hdl h3
        go_enter Tryz.func237, Tryz.ntmps237
        go_wp2_with fail
        refine (mul64_named x hi H M HH.out HM.out hx hhi _).mono ?_
        rintro e w1 ⟨rfl, rfl⟩
        go_wp2_with fail
        refine (mul64_named x lo M2 (x * lo % T64) HM2.out rfl hx hlo _).mono ?_
        rintro e w1 ⟨rfl, rfl⟩
        go_wp2_with fail
        refine (bool2u_any _ _).mono ?_
        rintro e w1 ⟨rfl, rfl⟩
        go_wp2_with fail
        go_quiet ((go_at_call 226; exact Calls.quiet_of_same (bool2u_any _ _)))
        go_wp2
        all_goals go_ret
        all_goals exact ⟨ret_int HV.out, _, rfl⟩
      · have HV : Hid (bits .or .u64 ((H : Int) / 2 ^ s) 0 = ((usc x hi lo s : Nat) : Int)) := hide (by
          rw [HU.out, if_neg h1, if_neg h2, Nat.sub_zero, if_neg h3]
          skip
          rw [cast_div_pow]
          exact or_val (b := 0) hdl (by omega))
        have hw : ¬ (1 : Int) < IntKind.u64.wrap ((M : Int) - M2) := by rw [e2]; omega
        have hw2 : ¬ (1 : Int) < (M : Int) - M2 := by rw [e64] at h3; omega
        clear e2 h1 h1' hdl h3
        go_enter Tryz.func237, Tryz.ntmps237
        go_wp2_with fail
        refine (mul64_named x hi H M HH.out HM.out hx hhi _).mono ?_
        rintro e w1 ⟨rfl, rfl⟩
        go_wp2_with fail
        refine (mul64_named x lo M2 (x * lo % T64) HM2.out rfl hx hlo _).mono ?_
        rintro e w1 ⟨rfl, rfl⟩
        go_wp2_with fail
        refine (bool2u_any _ _).mono ?_
        rintro e w1 ⟨rfl, rfl⟩
        go_wp2_with fail
        go_quiet ((go_at_call 226; exact Calls.quiet_of_same (bool2u_any _ _)))
        go_wp2
        all_goals go_ret
        all_goals exact ⟨ret_int HV.out, _, rfl⟩

end Go.Proofs.YtamdnnkdnhkghaaGreatDoor

namespace Go.Proofs.YtamdnnkdnhkghaaGreatDoor

open Go Go.RowKit

set_option linter.unusedVariables false

theorem and52_lo {m : Nat} (h : m < 4503599627370496) : bits .and .u64 (m : Int) 4503599627370496 = 0 := by
  have := u64_and_nat m 4503599627370496 (by omega) (by omega)
  have e : m &&& 4503599627370496 = 0 := by
    apply Nat.eq_of_testBit_eq
    intro i
    rw [Nat.testBit_and, Nat.zero_testBit, show (4503599627370496 : Nat) = 2 ^ 52 from rfl, Nat.testBit_two_pow]
    by_cases hi : 52 = i
    · subst hi; rw [Nat.testBit_lt_two_pow (by exact h)]; rfl
    · simp [hi]
  rw [e] at this
  exact this

theorem and52_hi {m : Nat} (h1 : 4503599627370496 ≤ m) (h2 : m < 9007199254740992) : bits .and .u64 (m : Int) 4503599627370496 = 4503599627370496 := by
  have := u64_and_nat m 4503599627370496 (by omega) (by omega)
  have e : m &&& 4503599627370496 = 4503599627370496 := by
    apply Nat.eq_of_testBit_eq
    intro i
    rw [Nat.testBit_and, show (4503599627370496 : Nat) = 2 ^ 52 from rfl, Nat.testBit_two_pow]
    by_cases hi : 52 = i
    · subst hi
      have : m.testBit 52 = true := by
        rw [Nat.testBit_eq_decide_div_mod_eq]
        have : m / 2 ^ 52 = 1 := by
          rw [show (2 : Nat) ^ 52 = 4503599627370496 from rfl]; omega
        rw [this]; rfl
      rw [this]; simp
    · simp [hi]
  rw [e] at this
  exact this

theorem run_frombits (z : Int) (w : World) : (callFunc 227 #[.int .u64 z]).run Tryz.prog w = .ok (.value (.float .f64 z.toNat)) w := by
  rw [run_callFunc_extern (e := Extern.MathFloatBits.float64frombits) Tryz.func227 (by kernel_rfl) (by kernel_rfl) (by kernel_rfl) (by kernel_rfl)]
  rfl

set_option maxRecDepth 100000 in
set_option maxHeartbeats 800000 in
theorem pack_lo (m : Nat) (z e : Int) (w : World) (hz : Hid (z.toNat = m)) (ha : bits .and .u64 z 4503599627370496 = 0) :
    Calls Tryz.prog 255 #[.int .u64 z, .int .i64 e] w fun r w' => r = .returned (.tuple #[.float .f64 m, .nilIface]) ∧ w' = w := by
  have hfb := run_frombits
  go_enter Tryz.func255, Tryz.ntmps255
  go_wp2
  go_ret2
  exact ⟨by rw [← hz.out]; rfl, rfl⟩

set_option maxRecDepth 100000 in
set_option maxHeartbeats 800000 in
theorem pack_inf (z e : Int) (w : World) (ha : bits .and .u64 z 4503599627370496 = 4503599627370496) (he : 972 ≤ e) (h2 : bits .and .u64 z 9223372036854775808 = 0)
    (h3 : bits .or .u64 0 9218868437227405312 = 9218868437227405312) :
    Calls Tryz.prog 255 #[.int .u64 z, .int .i64 e] w fun r w' => r = .returned (.tuple #[.float .f64 9218868437227405312, .iface 149 (.int .i64 1)]) ∧ w' = w := by
  have hfb := run_frombits
  go_enter Tryz.func255, Tryz.ntmps255
  go_wp2
  go_ret2
  exact ⟨by simp, rfl⟩

set_option maxRecDepth 100000 in
set_option maxHeartbeats 800000 in
theorem pack_hi (m : Nat) (z y v e : Int) (w : World) (ha : bits .and .u64 z 4503599627370496 = 4503599627370496) (he : e < 972) (he2 : -1075 ≤ e) (h2 : bits .andNot .u64 z 4503599627370496 = y)
    (h3 : bits .or .u64 y ((1075 + e) * 4503599627370496) = v) (hv : Hid (v.toNat = m)) :
    Calls Tryz.prog 255 #[.int .u64 z, .int .i64 e] w fun r w' => r = .returned (.tuple #[.float .f64 m, .nilIface]) ∧ w' = w := by
  have hfb := run_frombits
  go_enter Tryz.func255, Tryz.ntmps255
  go_wp2
  go_ret2
  exact ⟨by rw [← hv.out]; rfl, rfl⟩

theorem and63bit {m : Nat} (h : m < 9223372036854775808) : bits .and .u64 (m : Int) 9223372036854775808 = 0 := by
  have := u64_and_nat m 9223372036854775808 (by omega) (by omega)
  have e : m &&& 9223372036854775808 = 0 := by
    apply Nat.eq_of_testBit_eq
    intro i
    rw [Nat.testBit_and, Nat.zero_testBit, show (9223372036854775808 : Nat) = 2 ^ 63 from rfl, Nat.testBit_two_pow]
    by_cases hi : 63 = i
    · subst hi; rw [Nat.testBit_lt_two_pow (by exact h)]; rfl
    · simp [hi]
  rw [e] at this
  exact this

theorem or_inf : bits .or .u64 0 9218868437227405312 = 9218868437227405312 := by
  have := u64_or_nat 0 9218868437227405312 (by omega) (by omega)
  rw [Nat.zero_or] at this
  exact this

theorem andNot52 {m : Nat} (h1 : 4503599627370496 ≤ m) (h2 : m < 9007199254740992) : bits .andNot .u64 (m : Int) 4503599627370496 = ((m - 4503599627370496 : Nat) : Int) := by
  have := u64_andNot_nat m 4503599627370496 (by omega) (by omega)
  have e : m &&& (18446744073709551615 - 4503599627370496) = m - 4503599627370496 := by
    have hle : m &&& (18446744073709551615 - 4503599627370496) ≤ m := Nat.and_le_left
    have h53 : (m &&& (18446744073709551615 - 4503599627370496)) % 2 ^ 53 = m &&& (18446744073709551615 - 4503599627370496) := Nat.mod_eq_of_lt (Nat.lt_of_le_of_lt hle h2)
    rw [← h53, Nat.and_mod_two_pow]
    have e1 : m % 2 ^ 53 = m := Nat.mod_eq_of_lt h2
    have e2 : (18446744073709551615 - 4503599627370496) % 2 ^ 53 = 2 ^ 52 - 1 := by decide
    rw [e1, e2, Nat.and_two_pow_sub_one_eq_mod, show (2 : Nat) ^ 52 = 4503599627370496 from rfl]
    omega
  rw [e] at this
  exact this

theorem or52 {r k : Nat} (hr : r < 4503599627370496) (hk : k < 2048) : bits .or .u64 (r : Int) ((k : Int) * 4503599627370496) = ((k * 4503599627370496 + r : Nat) : Int) := by
  have h1 := u64_or_nat r (k * 4503599627370496) (by omega) (by omega)
  have h2 := Nat.two_pow_add_eq_or_of_lt (i := 52) (b := r) hr k
  rw [show (2 : Nat) ^ 52 = 4503599627370496 from rfl, Nat.mul_comm] at h2
  rw [Nat.or_comm, ← h2] at h1
  rw [← h1]
  rw [Int.natCast_mul]
  rfl

/-- What 'pack64' hands back for m * 2^-e', k = 1074 - e'. -/
def packR (k m : Nat) : Value :=
  if infW ≤ k * 4503599627370496 + m then .tuple #[.float .f64 infW, .iface 149 (.int .i64 1)] else .tuple #[.float .f64 (k * 4503599627370496 + m), .nilIface]

theorem pack_any (k m : Nat) (z e : Int) (w : World) (hz : z = (m : Int)) (he : e = (k : Int) - 1074) (hm : m < 9007199254740992) (hkm : k = 0 ∨ 4503599627370496 ≤ m) :
    Calls Tryz.prog 255 #[.int .u64 z, .int .i64 e] w fun r w' => r = .returned (packR k m) ∧ w' = w := by
  subst hz
  by_cases h52 : m < 4503599627370496
  · have hk : k = 0 := by omega
    subst hk
    refine (pack_lo m m e w (hide (by omega)) (and52_lo h52)).mono ?_
    rintro r w' ⟨rfl, rfl⟩
    refine ⟨?_, rfl⟩
    unfold packR
    rw [if_neg (by unfold infW; omega), Nat.zero_mul, Nat.zero_add]
  · have hge : 4503599627370496 ≤ m := by omega
    by_cases hk : 2046 ≤ k
    · refine (pack_inf m e w (and52_hi hge hm) (by omega) (and63bit (by omega)) or_inf).mono ?_
      rintro r w' ⟨rfl, rfl⟩
      refine ⟨?_, rfl⟩
      unfold packR
      rw [if_pos (by unfold infW; omega)]
      rfl
    · refine (pack_hi (k * 4503599627370496 + m) m ((m - 4503599627370496 : Nat) : Int) (((k + 1) * 4503599627370496 + (m - 4503599627370496) : Nat) : Int) e w (and52_hi hge hm) (by omega) (by omega) (andNot52 hge hm) ?_ (hide (by omega))).mono ?_
      · have := or52 (r := m - 4503599627370496) (k := k + 1) (by omega) (by omega)
        have e1 : 1075 + e = ((k + 1 : Nat) : Int) := by omega
        rw [e1]
        exact this
      · rintro r w' ⟨rfl, rfl⟩
        refine ⟨?_, rfl⟩
        unfold packR
        rw [if_neg (by unfold infW; omega)]

end Go.Proofs.YtamdnnkdnhkghaaGreatDoor

namespace Go.Proofs.YtamdnnkdnhkghaaGreatDoor

open Go Go.RowKit

set_option linter.unusedVariables false

set_option maxRecDepth 100000 in
set_option maxHeartbeats 800000 in
theorem prescale_any (i hi lo g : Nat) (e lp p : Int) (w : World) (hp : p + 348 = (i : Int)) (hi696 : i < 696) (he1 : -5000 ≤ e) (he2 : e ≤ 5000) (hl1 : -5000 ≤ lp) (hl2 : lp ≤ 5000)
    (hg : 20 < g) (f0 : w.frozen? ⟨g, 0, none⟩ = false) (f1 : w.frozen? ⟨g, 1, none⟩ = false) (f2 : w.frozen? ⟨g, 2, none⟩ = false)
    (t0 : w.cell? ⟨20, i * 2, none⟩ = some (.int .u64 hi)) (t1 : w.cell? ⟨20, i * 2 + 1, none⟩ = some (.int .u64 lo))
    (c0 : w.cell? ⟨g, 0, none⟩ = some (.int .u64 0)) (c1 : w.cell? ⟨g, 1, none⟩ = some (.int .u64 0)) (c2 : w.cell? ⟨g, 2, none⟩ = some (.int .i64 0)) :
    Calls Tryz.prog 235 #[.pointer (some ⟨g, 0, none⟩), .int .i64 e, .int .i64 p, .int .i64 lp] w fun r w' => r = .returned (.tuple #[]) ∧ w' = ((w.setCell ⟨g, 0, none⟩ (.int .u64 hi)).setCell ⟨g, 1, none⟩ (.int .u64 lo)).setCell ⟨g, 2, none⟩ (.int .i64 (-(e + lp + 3))) := by
  go_enter Tryz.func235, Tryz.ntmps235
  go_wp2
  go_end0
  exact ⟨rfl, rfl⟩

end Go.Proofs.YtamdnnkdnhkghaaGreatDoor

namespace Go.Proofs.YtamdnnkdnhkghaaGreatDoor

open Go Go.RowKit

set_option linter.unusedVariables false

theorem bitLen_bounds (x : Nat) (h0 : x ≠ 0) (h : x < 2 ^ 64) : 1 ≤ Lib.bitLen x ∧ 2 ^ (Lib.bitLen x - 1) ≤ x ∧ x < 2 ^ Lib.bitLen x := by
  induction x using Nat.strongRecOn with
  | ind x ih =>
    rw [Lib.bitLen_half x h0 h]
    by_cases h1 : x / 2 = 0
    · have hx : x = 1 := by omega
      subst hx
      have : Lib.bitLen (1 / 2) = 0 := by decide
      rw [this]; decide
    · have := ih (x / 2) (by omega) h1 (by omega)
      obtain ⟨g1, g2, g3⟩ := this
      generalize Lib.bitLen (x / 2) = b at *
      refine ⟨by omega, ?_, ?_⟩
      · have e : 1 + b - 1 = (b - 1) + 1 := by omega
        rw [e, Nat.pow_succ]; omega
      · rw [Nat.add_comm, Nat.pow_succ]; omega

theorem bitLen_le64 (x : Nat) (h0 : x ≠ 0) (h : x < 2 ^ 64) : Lib.bitLen x ≤ 64 := by
  have hb := bitLen_bounds x h0 h
  have h2 : 2 ^ (Lib.bitLen x - 1) < 2 ^ 64 := Nat.lt_of_le_of_lt hb.2.1 h
  have := (Nat.pow_lt_pow_iff_right (by omega)).1 h2
  omega

theorem len64_named (d b : Nat) (hd : d < 18446744073709551616) (hb : b = Lib.bitLen d) (w : World) :
    Calls Tryz.prog 177 #[.int .u64 d] w fun e w' => e = .returned (.int .i64 b) ∧ w' = w := by
  subst hb
  exact Tryz.bits_Len64 d w (by omega) (by omega)

theorem lp10_bound {p : Int} (h1 : -345 ≤ p) (h2 : p ≤ 310) : -1147 ≤ lp10 p ∧ lp10 p ≤ 1030 := by unfold lp10; omega

theorem packR_shape (k m : Nat) : ∃ f v, packR k m = .tuple #[.float .f64 f, v] := by
  unfold packR; split
  · exact ⟨_, _, rfl⟩
  · exact ⟨_, _, rfl⟩

/-- What 'parseFloat64' makes of an unrounded number. -/
def pfR (ke u : Nat) : Value := if 36028797018963966 ≤ u then packR (ke + 1) (rnd2 (u / 2 ||| u % 2)) else packR ke (rnd2 u)

theorem and1 {u : Nat} (h : u < 288230376151711744) : bits .and .u64 (u : Int) 1 = ((u % 2 : Nat) : Int) := by
  have := u64_and_nat u 1 (by omega) (by omega)
  rw [Nat.and_one_is_mod] at this
  exact this

theorem half_or {u : Nat} (h : u < 288230376151711744) : bits .or .u64 ((u : Int) / 2) (bits .and .u64 (u : Int) 1) = ((u / 2 ||| u % 2 : Nat) : Int) := by
  rw [and1 h]
  exact u64_or_nat (u / 2) (u % 2) (by omega) (by omega)

theorem self_or {u : Nat} (h : u < 288230376151711744) : bits .or .u64 (u : Int) (bits .and .u64 (u : Int) 1) = (u : Int) := by
  rw [and1 h, u64_or_nat u (u % 2) (by omega) (by omega)]
  rw [← Nat.and_one_is_mod]
  have : u ||| (u &&& 1) = u := by
    apply Nat.eq_of_testBit_eq
    intro i
    rw [Nat.testBit_or, Nat.testBit_and]
    cases u.testBit i <;> simp
  rw [this]

theorem zero_or {m : Nat} (h : m < 18446744073709551616) : bits .or .u64 0 (m : Int) = (m : Int) := by
  have := u64_or_nat 0 m (by omega) h
  rw [Nat.zero_or] at this
  exact this

theorem half_small {u : Nat} (h : u < 288230376151711744) : (u / 2 ||| u % 2) < 9223372036854775808 := by
  have : (u / 2 ||| u % 2) < 2 ^ 63 := Nat.or_lt_two_pow (by omega) (by omega)
  exact this

theorem alloc_cell {w : World} {o : Obj} {b k : Nat} {v : Value} (hb : b < w.heap.size) (h : w.cell? ⟨b, k, none⟩ = some v) : (w.alloc o).cell? ⟨b, k, none⟩ = some v :=
  (((Below.refl w.heap.size w).alloc (Nat.le_refl _) o).cell (p := ⟨b, k, none⟩) hb).trans h

set_option maxRecDepth 100000 in
set_option maxHeartbeats 1600000 in
theorem pf64_walk (d b i hi lo s x : Nat) (p lp : Int) (w : World) (hd : d < 18446744073709551616) (hb : Hid (b = Lib.bitLen d)) (hb1 : 1 ≤ b) (hb2 : b ≤ 64) (hp1 : -345 ≤ p) (hp2 : p ≤ 310)
    (hlp : Hid (lp = lp10 p)) (hl1 : -1147 ≤ lp) (hl2 : lp ≤ 1030) (hp : Hid (p + 348 = (i : Int))) (hi696 : i < 696) (hg : 20 < w.heap.size)
    (t0 : w.cell? ⟨20, i * 2, none⟩ = some (.int .u64 hi)) (t1 : w.cell? ⟨20, i * 2 + 1, none⟩ = some (.int .u64 lo))
    (hs : Hid ((s : Int) = 61 - min 1074 (53 - (b : Int) - lp) - b - lp)) (hs64 : s < 64) (hx : Hid (x = d * 2 ^ (64 - b))) (hx2 : x < 18446744073709551616) (hhi : hi < 18446744073709551616) (hlo : lo < 18446744073709551616) (hpos : Hid (0 < x * hi / T64)) (u : Nat) (hu : Hid (u = usc x hi lo s)) (hu63 : u < 288230376151711744) (ke : Nat)
    (hke : Hid ((ke : Int) = 1074 - min 1074 (53 - (b : Int) - lp))) (hm1 : Hid (36028797018963966 ≤ u → rnd2 (u / 2 ||| u % 2) < 9007199254740992 ∧ 4503599627370496 ≤ rnd2 (u / 2 ||| u % 2)))
    (hm2 : Hid (u < 36028797018963966 → rnd2 u < 9007199254740992 ∧ (ke = 0 ∨ 4503599627370496 ≤ rnd2 u))) :
    Calls Tryz.prog 229 #[.int .u64 d, .int .i64 p, .int .u64 0] w fun r w' => r = .returned (pfR ke u) ∧ Below w.heap.size w w' := by
  go_enter Tryz.func229, Tryz.ntmps229
  go_wp2_with fail
  refine (len64_named d b hd hb.out _).mono ?_
  rintro r w1 ⟨rfl, rfl⟩
  go_wp2_with fail
  refine (log2Pow10_any p _ (by omega) (by omega)).mono ?_
  rintro r w1 ⟨rfl, rfl⟩
  rw [← hlp.out]
  go_wp2_with fail
  have he1 : -1100 ≤ min 1074 (53 - (b : Int) - lp) := by omega
  have he2 : min 1074 (53 - (b : Int) - lp) ≤ 1074 := by omega
  generalize min 1074 (53 - (b : Int) - lp) = e at *
  refine (prescale_any i hi lo _ (e - (64 - (b : Int))) lp p _ hp.out hi696 (by omega) (by omega) (by omega) (by omega) hg (by simp) (by simp) (by simp) (alloc_cell (by omega) t0) (alloc_cell (by omega) t1) (by simp) (by simp) (by simp)).mono ?_
  rintro r w2 ⟨rfl, rfl⟩
  have hss : -(e - (64 - (b : Int)) + lp + 3) = (s : Int) := by have := hs.out; omega
  have HSS := hide hss
  rw [hss]
  clear hss
  go_wp2_with fail
  have hxw : IntKind.u64.wrap ((d : Int) * 2 ^ (64 - b)) = (x : Int) := by
    have e1 : (d : Int) * 2 ^ (64 - b) = (x : Int) := by rw [hx.out, Int.natCast_mul, cast_two]
    rw [e1, wrap_u64 (by omega) (by omega)]
  rw [hxw]
  refine (uscale_any x hi lo s _ _ hx2 hhi hlo hs64 hpos.out (by simp) (by simp) (by simp)).mono ?_
  rintro r w2 ⟨rfl, n, rfl⟩
  rw [← hu.out]
  clear hxw
  by_cases hsh : 36028797018963966 ≤ (u : Int)
  · go_wp2_with fail
    refine (unmin_any _).mono ?_
    rintro r w2 ⟨rfl, rfl⟩
    go_wp2_with fail
    refine (Tryz.internal_strconv_bool2_int _ _).mono ?_
    rintro r w2 ⟨rfl, rfl⟩
    go_wp2_with fail
    rw [half_or hu63]
    refine (round_any (u / 2 ||| u % 2) _ (half_small hu63)).mono ?_
    rintro r w2 ⟨rfl, rfl⟩
    have hm := hm1.out (by omega)
    have HP : Hid (pfR ke u = packR (ke + 1) (rnd2 (u / 2 ||| u % 2))) := hide (by unfold pfR; rw [if_pos (by omega)])
    generalize rnd2 (u / 2 ||| u % 2) = m at *
    obtain ⟨hma, hmb⟩ := hm
    have hz := zero_or (m := m) (by omega)
    go_wp2_with fail
    refine (pack_any (ke + 1) m _ _ _ rfl (by have := hke.out; omega) hma (.inr hmb)).mono ?_
    rintro r w2 ⟨rfl, rfl⟩
    obtain ⟨f, v, hv⟩ := packR_shape (ke + 1) m
    have HV := hide hv
    rw [hv]
    clear hv
    go_wp2
    go_ret2
    exact ⟨by rw [HP.out, HV.out]; rfl, below_drewN ((Below.refl _ _).alloc (Nat.le_refl _) _) _⟩
  · go_wp2_with fail
    refine (unmin_any _).mono ?_
    rintro r w2 ⟨rfl, rfl⟩
    go_wp2_with fail
    have hsf : decide ((36028797018963966 : Int) ≤ (u : Int)) = false := decide_eq_false (by omega)
    rw [hsf]
    refine (Tryz.internal_strconv_bool2_int false _).mono ?_
    rintro r w2 ⟨rfl, rfl⟩
    rw [if_neg (by decide)]
    have Hsh := hide hsh
    clear hsf hsh
    go_wp2_with fail

    rw [self_or hu63]
    refine (round_any u _ (by omega)).mono ?_
    rintro r w2 ⟨rfl, rfl⟩
    have hsh := Hsh.out
    have hm := hm2.out (by omega)
    have HP : Hid (pfR ke u = packR ke (rnd2 u)) := hide (by unfold pfR; rw [if_neg (by omega)])
    generalize rnd2 u = m at *
    obtain ⟨hma, hmb⟩ := hm
    have Hmb := hide hmb
    clear hmb
    have hz := zero_or (m := m) (by omega)
    go_wp2_with fail
    refine (pack_any ke m _ _ _ rfl (by have := hke.out; omega) hma Hmb.out).mono ?_
    rintro r w2 ⟨rfl, rfl⟩
    obtain ⟨f, v, hv⟩ := packR_shape ke m
    have HV := hide hv
    rw [hv]
    clear hv
    go_wp2
    go_ret2
    exact ⟨by rw [HP.out, HV.out]; rfl, below_drewN ((Below.refl _ _).alloc (Nat.le_refl _) _) _⟩

end Go.Proofs.YtamdnnkdnhkghaaGreatDoor
