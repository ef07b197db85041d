import Derived.Laws.BitsAllLaws
import Derived.Lib.Strings
import Derived.Test.YtmndipnifjpdjaaGreatDoorQ11
import Derived.Test.YtmndipnifjpdjaaGreatDoorShelf
import Derived.Deep.QuietTactic
import Derived.BigQuiet
import Derived.WalkSmall
import Derived.Test.YtmndipnifjpdjaaGreatDoorQ18
import Derived.Laws.Externs
import Derived.Lib.BitFns
namespace Go.Proofs.YtmndipnifjpdjaaGreatDoor
open Go Go.RowKit
set_option linter.unusedVariables false
theorem isEmpty_size (s : ByteArray) : (!s.toList.isEmpty) = decide (0 < s.size) := by
  rw [Lib.size_eq, Lib.toList_data]
  cases h : s.data.toList <;> simp
theorem or_low {a d : Nat} (hd : d < 16) : 16 * a ||| d = 16 * a + d := by
  have := Nat.two_pow_add_eq_or_of_lt (i := 4) (b := d) (by omega) a
  simpa using this.symm
theorem hex_or {x d : Int} (hx0 : 0 ≤ x) (hd0 : 0 ≤ d) (hd1 : d < 16) : bits .or .u64 (IntKind.u64.wrap (x * 16)) d = (x * 16) % 18446744073709551616 + d := by
  have e1 : IntKind.u64.wrap (x * 16) = (x * 16) % 18446744073709551616 := by simp [IntKind.wrap, IntKind.signed, IntKind.bits]
  rw [e1]
  obtain ⟨n, hn⟩ : ∃ n : Nat, (x * 16) % 18446744073709551616 = ((16 * n : Nat) : Int) := ⟨((x * 16) % 18446744073709551616 / 16).toNat, by omega⟩
  obtain ⟨m, rfl⟩ : ∃ m : Nat, d = (m : Int) := ⟨d.toNat, by omega⟩
  rw [hn, u64_or_nat _ _ (by omega) (by omega), or_low (by omega)]
  omega
theorem hex_step {N : Nat} {x d : Int} (h : x = (N : Int) % 18446744073709551616) (h0 : 0 ≤ d) (h1 : d < 16) : (x * 16) % 18446744073709551616 + d = ((N * 16 + d.toNat : Nat) : Int) % 18446744073709551616 := by omega
theorem hex_end {N : Nat} {x : Int} (h : x = (N : Int) % 18446744073709551616) : wrap64 x = wrap64 (N : Int) := by unfold wrap64; omega
def hexD (c : Int) : Value := if 0 ≤ hexV c then .tuple #[.int .u8 (hexV c), .bool true] else .tuple #[.int .u8 0, .bool false]
theorem hexD_yes {c v : Int} (h : hexV c = v) (h0 : 0 ≤ v) : hexD c = .tuple #[.int .u8 v, .bool true] := by unfold hexD; rw [h, if_pos h0]
theorem hexD_no {c : Int} (h : hexV c = -1) : hexD c = .tuple #[.int .u8 0, .bool false] := by unfold hexD; rw [h, if_neg (by omega)]
theorem implHexDigit_any (c : Int) (w : World) (h0 : 0 ≤ c) (h1 : c < 256) :
    Calls Tryz.prog 219 #[.int .u8 c] w fun e w' => e = .returned (hexD c) ∧ w' = w := by
  by_cases a1 : 48 ≤ c ∧ c ≤ 57
  · have H := hide (hexD_yes (c := c) (v := c - 48) (by unfold hexV; rw [if_pos a1]) (by omega))
    obtain ⟨a2, a3⟩ := a1
    go_enter Tryz.func219, Tryz.ntmps219
    go_wp2
    go_ret2
    exact ⟨by rw [H.out]; rfl, rfl⟩
  · by_cases b1 : 97 ≤ c ∧ c ≤ 102
    · have H := hide (hexD_yes (c := c) (v := c - 97 + 10) (by unfold hexV; rw [if_neg a1, if_pos b1]; omega) (by omega))
      obtain ⟨b2, b3⟩ := b1
      go_enter Tryz.func219, Tryz.ntmps219
      go_wp2
      go_ret2
      exact ⟨by rw [H.out]; rfl, rfl⟩
    · by_cases c1 : 65 ≤ c ∧ c ≤ 70
      · have H := hide (hexD_yes (c := c) (v := c - 65 + 10) (by unfold hexV; rw [if_neg a1, if_neg b1, if_pos c1]; omega) (by omega))
        obtain ⟨c2, c3⟩ := c1
        go_enter Tryz.func219, Tryz.ntmps219
        go_wp2
        go_ret2
        exact ⟨by rw [H.out]; rfl, rfl⟩
      · have H := hide (hexD_no (c := c) (by unfold hexV; rw [if_neg a1, if_neg b1, if_neg c1]))
        go_enter Tryz.func219, Tryz.ntmps219
        go_wp2
        all_goals go_ret2
        all_goals exact ⟨by rw [H.out]; rfl, rfl⟩
theorem implInt_any (i : Int) (w : World) : Calls Tryz.prog 220 #[.int .i64 i] w fun e w' => e = .returned (.agg #[.bool false, .int .i64 i, .int .u64 0]) ∧ Below w.heap.size w w' := by
  go_enter Tryz.func220, Tryz.ntmps220
  go_wp2
  exact bodyPost_ret (v := .agg #[.bool false, .int .i64 i, .int .u64 0]) (by simp [results, Tryz.results220, go_sem]) rfl ⟨rfl, (Below.refl _ _).alloc (Nat.le_refl _) _⟩
set_option maxHeartbeats 800000 in
set_option maxRecDepth 100000 in
theorem implHex_any (s : ByteArray) (w : World) (hs : s.size ≤ 100) :
    Calls Tryz.prog 181 #[.string s] w fun e w' => e = .returned (hexR s) ∧ Below w.heap.size w w' := by
  have Hl := hide (bs_length s)
  go_enter Tryz.func181, Tryz.ntmps181
  go_wp2
  go_loop [4, 10] (fun vv iv => ∃ (k : Nat) (x : Int), k ≤ s.size ∧ iv = .int .i64 k ∧ vv = .int .u64 x ∧ 0 ≤ x ∧ x < 18446744073709551616 ∧ Hid (x = (hexN ((bs s).take k) : Int) % 18446744073709551616) ∧ Hid (∀ j, j < k → 0 ≤ hexV ((bs s).getD j 0))) (fun _ iv => s.size - (intOf iv).toNat)
  case atStart => exact ⟨0, 0, Nat.zero_le _, rfl, rfl, by omega, by omega, hide (by simp [hexN]), hide (fun j hj => by omega)⟩
  case round =>
    obtain ⟨k, x, hk, rfl, rfl, hx0, hx1, Hx, Ha⟩ := hrel
    by_cases hlt : k < s.size
    · have hgd := bs_getD hlt
      have HT := hide (hexN_take (l := bs s) (k := k) (by rw [Hl.out]; exact hlt))
      have hb1 : ((s[k].toNat : Nat) : Int) < 256 := by have := s[k].toNat_lt; omega
      have hb0 : (0 : Int) ≤ ((s[k].toNat : Nat) : Int) := by omega
      have hv1 := hexV_lt ((s[k].toNat : Nat) : Int)
      have hv0 := hexV_ge ((s[k].toNat : Nat) : Int)
      have Hg := hide hgd
      clear hgd
      by_cases hneg : hexV ((s[k].toNat : Nat) : Int) < 0
      · have Hf := hide (allHex_false (l := bs s) (k := k) (by rw [Hl.out]; exact hlt) (by rw [Hg.out]; exact hneg))
        have HD := hide (hexD_no (c := ((s[k].toNat : Nat) : Int)) (by omega))
        go_wp2_with (go_at_call 219; refine (implHexDigit_any _ _ hb0 hb1).mono ?_; rintro e w' ⟨rfl, rfl⟩; rw [HD.out])
        refine bodyPost_ret (v := .tuple #[numV false 0 0, .bool false]) (by simp [results, Tryz.results181, go_sem, numV]) rfl ⟨by rw [hexR_no Hf.out], ?_⟩
        exact (Below.refl _ _).alloc (Nat.le_refl _) _
      · have HD := hide (hexD_yes (c := ((s[k].toNat : Nat) : Int)) rfl (by omega))
        have hv2 : 0 ≤ hexV ((s[k].toNat : Nat) : Int) := by omega
        generalize hdd : hexV ((s[k].toNat : Nat) : Int) = d at *
        have Hdd := hide hdd
        clear hdd
        go_wp2_with (go_at_call 219; refine (implHexDigit_any _ _ hb0 hb1).mono ?_; rintro e w' ⟨rfl, rfl⟩; rw [HD.out])
        have HO := hide (hex_or hx0 hv2 hv1)
        have HS := hide (hex_step Hx.out hv2 hv1)
        have hlo : 0 ≤ (x * 16) % 18446744073709551616 + d := by omega
        have hhi : (x * 16) % 18446744073709551616 + d < 18446744073709551616 := by omega
        go_round
        case rel => exact ⟨k + 1, (x * 16) % 18446744073709551616 + d, by omega, by go_num, by rw [HO.out], hlo, hhi, hide (by rw [HT.out, Hg.out, Hdd.out]; exact HS.out), hide (fun j hj => by
          by_cases e : j = k
          · subst e; rw [Hg.out, Hdd.out]; exact hv2
          · exact Ha.out j (by omega))⟩
        case measure => simp [intOf]; omega
    · have hkl : k = s.size := by omega
      have HA : Hid (allHex (bs s) = true) := hide (allHex_true (fun j hj => Ha.out j (by rw [Hl.out] at hj; omega)))
      have HX : Hid (wrap64 x = wrap64 (hexN (bs s))) := hide (by
        have h1 := Hx.out
        rw [hkl, ← Hl.out, List.take_length] at h1
        exact hex_end h1)
      have Hk := hide hkl
      clear hkl
      go_wp2_with fail
      refine (implInt_any (wrap64 x) _).mono ?_
      rintro e w' ⟨rfl, hb'⟩
      obtain ⟨hc, hf⟩ := bcell hb'
      go_wp2
      refine bodyPost_ret (v := .tuple #[numV false (wrap64 x) 0, .bool (!s.toList.isEmpty)]) ?_ rfl ⟨by rw [hexR_yes HA.out, HX.out, isEmpty_size], ?_⟩
      · simp [results, Tryz.results181, go_sem, numV, hc]
      · refine Below.setCell (Below.setCell (Below.setCell ?_ ?_ _) ?_ _) ?_ _
        · exact ((Below.refl _ _).alloc (Nat.le_refl _) _).trans (hb'.mono (by simp))
        all_goals simp
end Go.Proofs.YtmndipnifjpdjaaGreatDoor
namespace Go.Proofs.YtmndipnifjpdjaaGreatDoor
open Go Go.RowKit
set_option linter.unusedVariables false
theorem log2Pow10_any (p : Int) (w : World) (h1 : -400 ≤ p) (h2 : p ≤ 400) :
    Calls Tryz.prog 259 #[.int .i64 p] w fun e w' => e = .returned (.int .i64 (lp10 p)) ∧ w' = w := by
  go_enter Tryz.func259, Tryz.ntmps259
  go_wp2
  go_ret
  exact ⟨rfl, rfl⟩
theorem unmin_any (w : World) :
    Calls Tryz.prog 265 #[.int .u64 9007199254740992] w fun e w' => e = .returned (.int .u64 36028797018963966) ∧ w' = w := by
  go_enter Tryz.func265, Tryz.ntmps265
  go_wp2
  go_ret
  exact ⟨rfl, rfl⟩
theorem bool2u_any (b : Bool) (w : World) :
    Calls Tryz.prog 282 #[.bool b] w fun e w' => e = .returned (.int .u64 (if b = true then 1 else 0)) ∧ w' = w := by
  cases b
  all_goals go_enter Tryz.func282, Tryz.ntmps282
  all_goals go_wp2
  all_goals go_ret
  all_goals exact ⟨rfl, rfl⟩
theorem round_val {u : Nat} (h : u < 9223372036854775808) : IntKind.u64.wrap ((u : Int) + 1 + bits .and .u64 ((u : Int) / 4) 1) / 4 = ((rnd2 u : Nat) : Int) := by
  have e1 : bits .and .u64 ((u : Int) / 4) 1 = ((u / 4 % 2 : Nat) : Int) := by
    have := u64_and_nat (u / 4) 1 (by omega) (by omega)
    rw [Nat.and_one_is_mod] at this
    exact this
  rw [e1, wrap_u64 (by omega) (by omega)]
  unfold rnd2
  omega
theorem round_any (u : Nat) (w : World) (h : u < 9223372036854775808) :
    Calls Tryz.prog 264 #[.int .u64 u] w fun e w' => e = .returned (.int .u64 (rnd2 u)) ∧ w' = w := by
  have H := hide (round_val h)
  go_enter Tryz.func264, Tryz.ntmps264
  go_wp2
  go_ret
  exact ⟨ret_int H.out, rfl⟩
theorem mul64_named (x y H L : Nat) (hH : H = x * y / T64) (hL : L = x * y % T64) (hx : x < 18446744073709551616) (hy : y < 18446744073709551616) (w : World) :
    Calls Tryz.prog 218 #[.int .u64 x, .int .u64 y] w fun e w' => e = .returned (.tuple #[.int .u64 H, .int .u64 L]) ∧ w' = w := by
  subst hH; subst hL
  exact Tryz.bits_Mul64 x y hx hy w
theorem and63_fin : ∀ s : Fin 64, bits .and .i64 ((s.val : Nat) : Int) 63 = ((s.val : Nat) : Int) := by decide +kernel
theorem and63 {s : Nat} (h : s < 64) : bits .and .i64 (s : Int) 63 = (s : Int) := and63_fin ⟨s, h⟩
theorem cast_div_pow (H s : Nat) : (H : Int) / 2 ^ s = ((H / 2 ^ s : Nat) : Int) := by rw [cast_two]; simp
theorem low_test {H s : Nat} (hH : H < 18446744073709551616) : (IntKind.u64.wrap ((H : Int) / 2 ^ s * 2 ^ s) != (H : Int)) = decide (H / 2 ^ s * 2 ^ s ≠ H) := by
  have hle : H / 2 ^ s * 2 ^ s ≤ H := Nat.div_mul_le_self H (2 ^ s)
  have e : (H : Int) / 2 ^ s * 2 ^ s = ((H / 2 ^ s * 2 ^ s : Nat) : Int) := by rw [cast_div_pow, cast_two, Int.natCast_mul]
  rw [e]
  generalize H / 2 ^ s * 2 ^ s = K at *
  rw [wrap_u64 (by omega) (by omega)]
  by_cases h : K = H
  · subst h; simp
  · rw [decide_eq_true h, bne_iff_ne]; omega
theorem or_val {a b : Nat} (ha : a < 18446744073709551616) (hb : b < 18446744073709551616) : bits .or .u64 (a : Int) (b : Int) = ((a ||| b : Nat) : Int) := u64_or_nat a b ha hb
set_option maxHeartbeats 1600000 in
set_option maxRecDepth 100000 in
theorem uscale_any (x hi lo s g : Nat) (w : World) (hx : x < 18446744073709551616) (hhi : hi < 18446744073709551616) (hlo : lo < 18446744073709551616) (hs : s < 64) (hpos : 0 < x * hi / T64)
    (c0 : w.cell? ⟨g, 0, none⟩ = some (.int .u64 hi)) (c1 : w.cell? ⟨g, 1, none⟩ = some (.int .u64 lo)) (c2 : w.cell? ⟨g, 2, none⟩ = some (.int .i64 s)) :
    Calls Tryz.prog 260 #[.int .u64 x, .pointer (some ⟨g, 0, none⟩)] w fun e w' => e = .returned (.int .u64 (usc x hi lo s)) ∧ ∃ n, w' = w.drewN n := by
  have ha := and63 hs
  obtain ⟨H, hH⟩ : ∃ H, H = x * hi / T64 := ⟨_, rfl⟩
  obtain ⟨M, hM⟩ : ∃ M, M = x * hi % T64 := ⟨_, rfl⟩
  obtain ⟨M2, hM2⟩ : ∃ M2, M2 = x * lo / T64 := ⟨_, rfl⟩
  have hHl : H < 18446744073709551616 := by
    rw [hH, Nat.div_lt_iff_lt_mul (by rw [e64]; omega), e64]
    exact Nat.mul_lt_mul_of_lt_of_le hx (Nat.le_of_lt hhi) (by omega)
  have hMl : M < 18446744073709551616 := by rw [hM]; exact Nat.mod_lt _ (by rw [e64]; omega)
  have hM2l : M2 < 18446744073709551616 := by
    rw [hM2, Nat.div_lt_iff_lt_mul (by rw [e64]; omega), e64]
    exact Nat.mul_lt_mul_of_lt_of_le hx (Nat.le_of_lt hlo) (by omega)
  have HU : Hid (usc x hi lo s = if H / 2 ^ s * 2 ^ s ≠ H then H / 2 ^ s ||| 1 else (H - (if M < M2 then 1 else 0)) / 2 ^ s ||| (if 1 < (M + T64 - M2) % T64 then 1 else 0)) := hide (by unfold usc; rw [← hH, ← hM, ← hM2])
  rw [← hH] at hpos
  have HH := hide hH
  have HM := hide hM
  have HM2 := hide hM2
  have hdl : H / 2 ^ s < 18446744073709551616 := Nat.lt_of_le_of_lt (Nat.div_le_self _ _) hHl
  clear hH hM hM2
  have ht := low_test (s := s) hHl
  by_cases h1 : H / 2 ^ s * 2 ^ s ≠ H
  · rw [decide_eq_true h1] at ht
    have HV : Hid (bits .or .u64 ((H : Int) / 2 ^ s) 1 = ((usc x hi lo s : Nat) : Int)) := hide (by rw [HU.out, if_pos h1, cast_div_pow]; exact or_val (b := 1) hdl (by omega))
    clear h1 hdl
    go_enter Tryz.func260, Tryz.ntmps260
    go_wp2_with fail
    refine (mul64_named x hi H M HH.out HM.out hx hhi _).mono ?_
    rintro e w1 ⟨rfl, rfl⟩
    go_wp2
    go_ret
    exact ⟨ret_int HV.out, 0, rfl⟩
  · rw [decide_eq_false h1] at ht
    have h1' : H / 2 ^ s * 2 ^ s = H := by
      by_cases e : H / 2 ^ s * 2 ^ s = H
      · exact e
      · exact absurd e h1
    by_cases h2 : M < M2
    · have e2 : IntKind.u64.wrap ((M : Int) - M2) = (((M + T64 - M2) % T64 : Nat) : Int) := by
        simp only [IntKind.wrap, IntKind.signed, IntKind.bits, e64]; simp; omega
      by_cases h3 : 1 < (M + T64 - M2) % T64
      · have HV : Hid (bits .or .u64 (((H : Int) - 1) / 2 ^ s) 1 = ((usc x hi lo s : Nat) : Int)) := hide (by
          rw [HU.out, if_neg h1, if_pos h2, if_pos h3]
          have e1 : (H : Int) - 1 = ((H - 1 : Nat) : Int) := by omega
          rw [e1, cast_div_pow]
          exact or_val (b := 1) (Nat.lt_of_le_of_lt (Nat.div_le_self _ _) (by omega)) (by omega))
        have hw : (1 : Int) < IntKind.u64.wrap ((M : Int) - M2) := by rw [e2]; omega
        clear e2 h1 h1' hdl h3
        go_enter Tryz.func260, Tryz.ntmps260
        go_wp2_with fail
        refine (mul64_named x hi H M HH.out HM.out hx hhi _).mono ?_
        rintro e w1 ⟨rfl, rfl⟩
        go_wp2_with fail
        refine (mul64_named x lo M2 (x * lo % T64) HM2.out rfl hx hlo _).mono ?_
        rintro e w1 ⟨rfl, rfl⟩
        go_wp2_with fail
        refine (bool2u_any _ _).mono ?_
        rintro e w1 ⟨rfl, rfl⟩
        go_wp2_with fail
        go_quiet ((go_at_call 282; exact Calls.quiet_of_same (bool2u_any _ _)))
        go_wp2
        all_goals go_ret
        all_goals exact ⟨ret_int HV.out, _, rfl⟩
      · have HV : Hid (bits .or .u64 (((H : Int) - 1) / 2 ^ s) 0 = ((usc x hi lo s : Nat) : Int)) := hide (by
          rw [HU.out, if_neg h1, if_pos h2, if_neg h3]
          have e1 : (H : Int) - 1 = ((H - 1 : Nat) : Int) := by omega
          rw [e1, cast_div_pow]
          exact or_val (b := 0) (Nat.lt_of_le_of_lt (Nat.div_le_self _ _) (by omega)) (by omega))
        have hw : ¬ (1 : Int) < IntKind.u64.wrap ((M : Int) - M2) := by rw [e2]; omega
        clear e2 h1 h1' hdl h3
        go_enter Tryz.func260, Tryz.ntmps260
        go_wp2_with fail
        refine (mul64_named x hi H M HH.out HM.out hx hhi _).mono ?_
        rintro e w1 ⟨rfl, rfl⟩
        go_wp2_with fail
        refine (mul64_named x lo M2 (x * lo % T64) HM2.out rfl hx hlo _).mono ?_
        rintro e w1 ⟨rfl, rfl⟩
        go_wp2_with fail
        refine (bool2u_any _ _).mono ?_
        rintro e w1 ⟨rfl, rfl⟩
        go_wp2_with fail
        go_quiet ((go_at_call 282; exact Calls.quiet_of_same (bool2u_any _ _)))
        go_wp2
        all_goals go_ret
        all_goals exact ⟨ret_int HV.out, _, rfl⟩
    · have e2 : IntKind.u64.wrap ((M : Int) - M2) = (((M + T64 - M2) % T64 : Nat) : Int) := by
        simp only [IntKind.wrap, IntKind.signed, IntKind.bits, e64]; simp; omega
      by_cases h3 : 1 < (M + T64 - M2) % T64
      · have HV : Hid (bits .or .u64 ((H : Int) / 2 ^ s) 1 = ((usc x hi lo s : Nat) : Int)) := hide (by
          rw [HU.out, if_neg h1, if_neg h2, Nat.sub_zero, if_pos h3]
          skip
          rw [cast_div_pow]
          exact or_val (b := 1) hdl (by omega))
        have hw : (1 : Int) < IntKind.u64.wrap ((M : Int) - M2) := by rw [e2]; omega
        have hw2 : (1 : Int) < (M : Int) - M2 := by rw [e64] at h3; omega
        clear e2 h1 h1' hdl h3
        go_enter Tryz.func260, Tryz.ntmps260
        go_wp2_with fail
        refine (mul64_named x hi H M HH.out HM.out hx hhi _).mono ?_
        rintro e w1 ⟨rfl, rfl⟩
        go_wp2_with fail
        refine (mul64_named x lo M2 (x * lo % T64) HM2.out rfl hx hlo _).mono ?_
        rintro e w1 ⟨rfl, rfl⟩
        go_wp2_with fail
        refine (bool2u_any _ _).mono ?_
        rintro e w1 ⟨rfl, rfl⟩
        go_wp2_with fail
        go_quiet ((go_at_call 282; exact Calls.quiet_of_same (bool2u_any _ _)))
        go_wp2
        all_goals go_ret
        all_goals exact ⟨ret_int HV.out, _, rfl⟩
      · have HV : Hid (bits .or .u64 ((H : Int) / 2 ^ s) 0 = ((usc x hi lo s : Nat) : Int)) := hide (by
          rw [HU.out, if_neg h1, if_neg h2, Nat.sub_zero, if_neg h3]
          skip
          rw [cast_div_pow]
          exact or_val (b := 0) hdl (by omega))
        have hw : ¬ (1 : Int) < IntKind.u64.wrap ((M : Int) - M2) := by rw [e2]; omega
        have hw2 : ¬ (1 : Int) < (M : Int) - M2 := by rw [e64] at h3; omega
        clear e2 h1 h1' hdl h3
        go_enter Tryz.func260, Tryz.ntmps260
        go_wp2_with fail
        refine (mul64_named x hi H M HH.out HM.out hx hhi _).mono ?_
        rintro e w1 ⟨rfl, rfl⟩
        go_wp2_with fail
        refine (mul64_named x lo M2 (x * lo % T64) HM2.out rfl hx hlo _).mono ?_
        rintro e w1 ⟨rfl, rfl⟩
        go_wp2_with fail
        refine (bool2u_any _ _).mono ?_
        rintro e w1 ⟨rfl, rfl⟩
        go_wp2_with fail
        go_quiet ((go_at_call 282; exact Calls.quiet_of_same (bool2u_any _ _)))
        go_wp2
        all_goals go_ret
        all_goals exact ⟨ret_int HV.out, _, rfl⟩
end Go.Proofs.YtmndipnifjpdjaaGreatDoor
namespace Go.Proofs.YtmndipnifjpdjaaGreatDoor
open Go Go.RowKit
set_option linter.unusedVariables false
theorem and52_lo {m : Nat} (h : m < 4503599627370496) : bits .and .u64 (m : Int) 4503599627370496 = 0 := by
  have := u64_and_nat m 4503599627370496 (by omega) (by omega)
  have e : m &&& 4503599627370496 = 0 := by
    apply Nat.eq_of_testBit_eq
    intro i
    rw [Nat.testBit_and, Nat.zero_testBit, show (4503599627370496 : Nat) = 2 ^ 52 from rfl, Nat.testBit_two_pow]
    by_cases hi : 52 = i
    · subst hi; rw [Nat.testBit_lt_two_pow (by exact h)]; rfl
    · simp [hi]
  rw [e] at this
  exact this
theorem and52_hi {m : Nat} (h1 : 4503599627370496 ≤ m) (h2 : m < 9007199254740992) : bits .and .u64 (m : Int) 4503599627370496 = 4503599627370496 := by
  have := u64_and_nat m 4503599627370496 (by omega) (by omega)
  have e : m &&& 4503599627370496 = 4503599627370496 := by
    apply Nat.eq_of_testBit_eq
    intro i
    rw [Nat.testBit_and, show (4503599627370496 : Nat) = 2 ^ 52 from rfl, Nat.testBit_two_pow]
    by_cases hi : 52 = i
    · subst hi
      have : m.testBit 52 = true := by
        rw [Nat.testBit_eq_decide_div_mod_eq]
        have : m / 2 ^ 52 = 1 := by
          rw [show (2 : Nat) ^ 52 = 4503599627370496 from rfl]; omega
        rw [this]; rfl
      rw [this]; simp
    · simp [hi]
  rw [e] at this
  exact this
theorem run_frombits (z : Int) (w : World) : (callFunc 283 #[.int .u64 z]).run Tryz.prog w = .ok (.value (.float .f64 z.toNat)) w := by
  rw [run_callFunc_extern (e := Extern.MathFloatBits.float64frombits) Tryz.func283 (by kernel_rfl) (by kernel_rfl) (by kernel_rfl) (by kernel_rfl)]
  rfl
set_option maxRecDepth 100000 in
set_option maxHeartbeats 800000 in
theorem pack_lo (m : Nat) (z e : Int) (w : World) (hz : Hid (z.toNat = m)) (ha : bits .and .u64 z 4503599627370496 = 0) :
    Calls Tryz.prog 293 #[.int .u64 z, .int .i64 e] w fun r w' => r = .returned (.tuple #[.float .f64 m, .nilIface]) ∧ w' = w := by
  have hfb := run_frombits
  go_enter Tryz.func293, Tryz.ntmps293
  go_wp2
  go_ret2
  exact ⟨by rw [← hz.out]; rfl, rfl⟩
set_option maxRecDepth 100000 in
set_option maxHeartbeats 800000 in
theorem pack_inf (z e : Int) (w : World) (ha : bits .and .u64 z 4503599627370496 = 4503599627370496) (he : 972 ≤ e) (h2 : bits .and .u64 z 9223372036854775808 = 0)
    (h3 : bits .or .u64 0 9218868437227405312 = 9218868437227405312) :
    Calls Tryz.prog 293 #[.int .u64 z, .int .i64 e] w fun r w' => r = .returned (.tuple #[.float .f64 9218868437227405312, .iface 201 (.int .i64 1)]) ∧ w' = w := by
  have hfb := run_frombits
  go_enter Tryz.func293, Tryz.ntmps293
  go_wp2
  go_ret2
  exact ⟨by simp, rfl⟩
set_option maxRecDepth 100000 in
set_option maxHeartbeats 800000 in
theorem pack_hi (m : Nat) (z y v e : Int) (w : World) (ha : bits .and .u64 z 4503599627370496 = 4503599627370496) (he : e < 972) (he2 : -1075 ≤ e) (h2 : bits .andNot .u64 z 4503599627370496 = y)
    (h3 : bits .or .u64 y ((1075 + e) * 4503599627370496) = v) (hv : Hid (v.toNat = m)) :
    Calls Tryz.prog 293 #[.int .u64 z, .int .i64 e] w fun r w' => r = .returned (.tuple #[.float .f64 m, .nilIface]) ∧ w' = w := by
  have hfb := run_frombits
  go_enter Tryz.func293, Tryz.ntmps293
  go_wp2
  go_ret2
  exact ⟨by rw [← hv.out]; rfl, rfl⟩
theorem and63bit {m : Nat} (h : m < 9223372036854775808) : bits .and .u64 (m : Int) 9223372036854775808 = 0 := by
  have := u64_and_nat m 9223372036854775808 (by omega) (by omega)
  have e : m &&& 9223372036854775808 = 0 := by
    apply Nat.eq_of_testBit_eq
    intro i
    rw [Nat.testBit_and, Nat.zero_testBit, show (9223372036854775808 : Nat) = 2 ^ 63 from rfl, Nat.testBit_two_pow]
    by_cases hi : 63 = i
    · subst hi; rw [Nat.testBit_lt_two_pow (by exact h)]; rfl
    · simp [hi]
  rw [e] at this
  exact this
theorem or_inf : bits .or .u64 0 9218868437227405312 = 9218868437227405312 := by
  have := u64_or_nat 0 9218868437227405312 (by omega) (by omega)
  rw [Nat.zero_or] at this
  exact this
theorem andNot52 {m : Nat} (h1 : 4503599627370496 ≤ m) (h2 : m < 9007199254740992) : bits .andNot .u64 (m : Int) 4503599627370496 = ((m - 4503599627370496 : Nat) : Int) := by
  have := u64_andNot_nat m 4503599627370496 (by omega) (by omega)
  have e : m &&& (18446744073709551615 - 4503599627370496) = m - 4503599627370496 := by
    have hle : m &&& (18446744073709551615 - 4503599627370496) ≤ m := Nat.and_le_left
    have h53 : (m &&& (18446744073709551615 - 4503599627370496)) % 2 ^ 53 = m &&& (18446744073709551615 - 4503599627370496) := Nat.mod_eq_of_lt (Nat.lt_of_le_of_lt hle h2)
    rw [← h53, Nat.and_mod_two_pow]
    have e1 : m % 2 ^ 53 = m := Nat.mod_eq_of_lt h2
    have e2 : (18446744073709551615 - 4503599627370496) % 2 ^ 53 = 2 ^ 52 - 1 := by decide
    rw [e1, e2, Nat.and_two_pow_sub_one_eq_mod, show (2 : Nat) ^ 52 = 4503599627370496 from rfl]
    omega
  rw [e] at this
  exact this
theorem or52 {r k : Nat} (hr : r < 4503599627370496) (hk : k < 2048) : bits .or .u64 (r : Int) ((k : Int) * 4503599627370496) = ((k * 4503599627370496 + r : Nat) : Int) := by
  have h1 := u64_or_nat r (k * 4503599627370496) (by omega) (by omega)
  have h2 := Nat.two_pow_add_eq_or_of_lt (i := 52) (b := r) hr k
  rw [show (2 : Nat) ^ 52 = 4503599627370496 from rfl, Nat.mul_comm] at h2
  rw [Nat.or_comm, ← h2] at h1
  rw [← h1]
  rw [Int.natCast_mul]
  rfl
def packR (k m : Nat) : Value :=
  if infW ≤ k * 4503599627370496 + m then .tuple #[.float .f64 infW, .iface 201 (.int .i64 1)] else .tuple #[.float .f64 (k * 4503599627370496 + m), .nilIface]
theorem pack_any (k m : Nat) (z e : Int) (w : World) (hz : z = (m : Int)) (he : e = (k : Int) - 1074) (hm : m < 9007199254740992) (hkm : k = 0 ∨ 4503599627370496 ≤ m) :
    Calls Tryz.prog 293 #[.int .u64 z, .int .i64 e] w fun r w' => r = .returned (packR k m) ∧ w' = w := by
  subst hz
  by_cases h52 : m < 4503599627370496
  · have hk : k = 0 := by omega
    subst hk
    refine (pack_lo m m e w (hide (by omega)) (and52_lo h52)).mono ?_
    rintro r w' ⟨rfl, rfl⟩
    refine ⟨?_, rfl⟩
    unfold packR
    rw [if_neg (by unfold infW; omega), Nat.zero_mul, Nat.zero_add]
  · have hge : 4503599627370496 ≤ m := by omega
    by_cases hk : 2046 ≤ k
    · refine (pack_inf m e w (and52_hi hge hm) (by omega) (and63bit (by omega)) or_inf).mono ?_
      rintro r w' ⟨rfl, rfl⟩
      refine ⟨?_, rfl⟩
      unfold packR
      rw [if_pos (by unfold infW; omega)]
      rfl
    · refine (pack_hi (k * 4503599627370496 + m) m ((m - 4503599627370496 : Nat) : Int) (((k + 1) * 4503599627370496 + (m - 4503599627370496) : Nat) : Int) e w (and52_hi hge hm) (by omega) (by omega) (andNot52 hge hm) ?_ (hide (by omega))).mono ?_
      · have := or52 (r := m - 4503599627370496) (k := k + 1) (by omega) (by omega)
        have e1 : 1075 + e = ((k + 1 : Nat) : Int) := by omega
        rw [e1]
        exact this
      · rintro r w' ⟨rfl, rfl⟩
        refine ⟨?_, rfl⟩
        unfold packR
        rw [if_neg (by unfold infW; omega)]
end Go.Proofs.YtmndipnifjpdjaaGreatDoor
namespace Go.Proofs.YtmndipnifjpdjaaGreatDoor
open Go Go.RowKit
set_option linter.unusedVariables false
set_option maxRecDepth 100000 in
set_option maxHeartbeats 800000 in
theorem prescale_any (i hi lo g : Nat) (e lp p : Int) (w : World) (hp : p + 348 = (i : Int)) (hi696 : i < 696) (he1 : -5000 ≤ e) (he2 : e ≤ 5000) (hl1 : -5000 ≤ lp) (hl2 : lp ≤ 5000)
    (hg : 14 < g) (f0 : w.frozen? ⟨g, 0, none⟩ = false) (f1 : w.frozen? ⟨g, 1, none⟩ = false) (f2 : w.frozen? ⟨g, 2, none⟩ = false)
    (t0 : w.cell? ⟨14, i * 2, none⟩ = some (.int .u64 hi)) (t1 : w.cell? ⟨14, i * 2 + 1, none⟩ = some (.int .u64 lo))
    (c0 : w.cell? ⟨g, 0, none⟩ = some (.int .u64 0)) (c1 : w.cell? ⟨g, 1, none⟩ = some (.int .u64 0)) (c2 : w.cell? ⟨g, 2, none⟩ = some (.int .i64 0)) :
    Calls Tryz.prog 258 #[.pointer (some ⟨g, 0, none⟩), .int .i64 e, .int .i64 p, .int .i64 lp] w fun r w' => r = .returned (.tuple #[]) ∧ w' = ((w.setCell ⟨g, 0, none⟩ (.int .u64 hi)).setCell ⟨g, 1, none⟩ (.int .u64 lo)).setCell ⟨g, 2, none⟩ (.int .i64 (-(e + lp + 3))) := by
  go_enter Tryz.func258, Tryz.ntmps258
  go_wp2
  go_end0
  exact ⟨rfl, rfl⟩
end Go.Proofs.YtmndipnifjpdjaaGreatDoor
namespace Go.Proofs.YtmndipnifjpdjaaGreatDoor
open Go Go.RowKit
set_option linter.unusedVariables false
theorem below_dn {B : Nat} {a w : World} (h : Below B a w) (n : Nat) : Below B a (w.drewN n) := ⟨h.os, h.tape, h.output, h.size, h.block⟩
theorem bitLen_bounds (x : Nat) (h0 : x ≠ 0) (h : x < 2 ^ 64) : 1 ≤ Lib.bitLen x ∧ 2 ^ (Lib.bitLen x - 1) ≤ x ∧ x < 2 ^ Lib.bitLen x := by
  induction x using Nat.strongRecOn with
  | ind x ih =>
    rw [Lib.bitLen_half x h0 h]
    by_cases h1 : x / 2 = 0
    · have hx : x = 1 := by omega
      subst hx
      have : Lib.bitLen (1 / 2) = 0 := by decide
      rw [this]; decide
    · have := ih (x / 2) (by omega) h1 (by omega)
      obtain ⟨g1, g2, g3⟩ := this
      generalize Lib.bitLen (x / 2) = b at *
      refine ⟨by omega, ?_, ?_⟩
      · have e : 1 + b - 1 = (b - 1) + 1 := by omega
        rw [e, Nat.pow_succ]; omega
      · rw [Nat.add_comm, Nat.pow_succ]; omega
theorem bitLen_le64 (x : Nat) (h0 : x ≠ 0) (h : x < 2 ^ 64) : Lib.bitLen x ≤ 64 := by
  have hb := bitLen_bounds x h0 h
  have h2 : 2 ^ (Lib.bitLen x - 1) < 2 ^ 64 := Nat.lt_of_le_of_lt hb.2.1 h
  have := (Nat.pow_lt_pow_iff_right (by omega)).1 h2
  omega
theorem len64_named (d b : Nat) (hd : d < 18446744073709551616) (hb : b = Lib.bitLen d) (w : World) :
    Calls Tryz.prog 188 #[.int .u64 d] w fun e w' => e = .returned (.int .i64 b) ∧ w' = w := by
  subst hb
  exact Tryz.bits_Len64 d w (by omega) (by omega)
theorem lp10_bound {p : Int} (h1 : -345 ≤ p) (h2 : p ≤ 310) : -1147 ≤ lp10 p ∧ lp10 p ≤ 1030 := by unfold lp10; omega
theorem packR_shape (k m : Nat) : ∃ f v, packR k m = .tuple #[.float .f64 f, v] := by
  unfold packR; split
  · exact ⟨_, _, rfl⟩
  · exact ⟨_, _, rfl⟩
def pfR (ke u : Nat) : Value := if 36028797018963966 ≤ u then packR (ke + 1) (rnd2 (u / 2 ||| u % 2)) else packR ke (rnd2 u)
theorem and1 {u : Nat} (h : u < 288230376151711744) : bits .and .u64 (u : Int) 1 = ((u % 2 : Nat) : Int) := by
  have := u64_and_nat u 1 (by omega) (by omega)
  rw [Nat.and_one_is_mod] at this
  exact this
theorem half_or {u : Nat} (h : u < 288230376151711744) : bits .or .u64 ((u : Int) / 2) (bits .and .u64 (u : Int) 1) = ((u / 2 ||| u % 2 : Nat) : Int) := by
  rw [and1 h]
  exact u64_or_nat (u / 2) (u % 2) (by omega) (by omega)
theorem self_or {u : Nat} (h : u < 288230376151711744) : bits .or .u64 (u : Int) (bits .and .u64 (u : Int) 1) = (u : Int) := by
  rw [and1 h, u64_or_nat u (u % 2) (by omega) (by omega)]
  rw [← Nat.and_one_is_mod]
  have : u ||| (u &&& 1) = u := by
    apply Nat.eq_of_testBit_eq
    intro i
    rw [Nat.testBit_or, Nat.testBit_and]
    cases u.testBit i <;> simp
  rw [this]
theorem zero_or {m : Nat} (h : m < 18446744073709551616) : bits .or .u64 0 (m : Int) = (m : Int) := by
  have := u64_or_nat 0 m (by omega) h
  rw [Nat.zero_or] at this
  exact this
theorem half_small {u : Nat} (h : u < 288230376151711744) : (u / 2 ||| u % 2) < 9223372036854775808 := by
  have : (u / 2 ||| u % 2) < 2 ^ 63 := Nat.or_lt_two_pow (by omega) (by omega)
  exact this
theorem alloc_cell {w : World} {o : Obj} {b k : Nat} {v : Value} (hb : b < w.heap.size) (h : w.cell? ⟨b, k, none⟩ = some v) : (w.alloc o).cell? ⟨b, k, none⟩ = some v :=
  (((Below.refl w.heap.size w).alloc (Nat.le_refl _) o).cell (p := ⟨b, k, none⟩) hb).trans h
set_option maxRecDepth 100000 in
set_option maxHeartbeats 1600000 in
theorem pf64_walk (d b i hi lo s x : Nat) (p lp : Int) (w : World) (hd : d < 18446744073709551616) (hb : Hid (b = Lib.bitLen d)) (hb1 : 1 ≤ b) (hb2 : b ≤ 64) (hp1 : -345 ≤ p) (hp2 : p ≤ 310)
    (hlp : Hid (lp = lp10 p)) (hl1 : -1147 ≤ lp) (hl2 : lp ≤ 1030) (hp : Hid (p + 348 = (i : Int))) (hi696 : i < 696) (hg : 14 < w.heap.size)
    (t0 : w.cell? ⟨14, i * 2, none⟩ = some (.int .u64 hi)) (t1 : w.cell? ⟨14, i * 2 + 1, none⟩ = some (.int .u64 lo))
    (hs : Hid ((s : Int) = 61 - min 1074 (53 - (b : Int) - lp) - b - lp)) (hs64 : s < 64) (hx : Hid (x = d * 2 ^ (64 - b))) (hx2 : x < 18446744073709551616) (hhi : hi < 18446744073709551616) (hlo : lo < 18446744073709551616) (hpos : Hid (0 < x * hi / T64)) (u : Nat) (hu : Hid (u = usc x hi lo s)) (hu63 : u < 288230376151711744) (ke : Nat)
    (hke : Hid ((ke : Int) = 1074 - min 1074 (53 - (b : Int) - lp))) (hm1 : Hid (36028797018963966 ≤ u → rnd2 (u / 2 ||| u % 2) < 9007199254740992 ∧ 4503599627370496 ≤ rnd2 (u / 2 ||| u % 2)))
    (hm2 : Hid (u < 36028797018963966 → rnd2 u < 9007199254740992 ∧ (ke = 0 ∨ 4503599627370496 ≤ rnd2 u))) :
    Calls Tryz.prog 285 #[.int .u64 d, .int .i64 p, .int .u64 0] w fun r w' => r = .returned (pfR ke u) ∧ Below w.heap.size w w' := by
  go_enter Tryz.func285, Tryz.ntmps285
  go_wp2_with fail
  refine (len64_named d b hd hb.out _).mono ?_
  rintro r w1 ⟨rfl, rfl⟩
  go_wp2_with fail
  refine (log2Pow10_any p _ (by omega) (by omega)).mono ?_
  rintro r w1 ⟨rfl, rfl⟩
  rw [← hlp.out]
  go_wp2_with fail
  have he1 : -1100 ≤ min 1074 (53 - (b : Int) - lp) := by omega
  have he2 : min 1074 (53 - (b : Int) - lp) ≤ 1074 := by omega
  generalize min 1074 (53 - (b : Int) - lp) = e at *
  refine (prescale_any i hi lo _ (e - (64 - (b : Int))) lp p _ hp.out hi696 (by omega) (by omega) (by omega) (by omega) hg (by simp) (by simp) (by simp) (alloc_cell (by omega) t0) (alloc_cell (by omega) t1) (by simp) (by simp) (by simp)).mono ?_
  rintro r w2 ⟨rfl, rfl⟩
  have hss : -(e - (64 - (b : Int)) + lp + 3) = (s : Int) := by have := hs.out; omega
  have HSS := hide hss
  rw [hss]
  clear hss
  go_wp2_with fail
  have hxw : IntKind.u64.wrap ((d : Int) * 2 ^ (64 - b)) = (x : Int) := by
    have e1 : (d : Int) * 2 ^ (64 - b) = (x : Int) := by rw [hx.out, Int.natCast_mul, cast_two]
    rw [e1, wrap_u64 (by omega) (by omega)]
  rw [hxw]
  refine (uscale_any x hi lo s _ _ hx2 hhi hlo hs64 hpos.out (by simp) (by simp) (by simp)).mono ?_
  rintro r w2 ⟨rfl, n, rfl⟩
  rw [← hu.out]
  clear hxw
  by_cases hsh : 36028797018963966 ≤ (u : Int)
  · go_wp2_with fail
    refine (unmin_any _).mono ?_
    rintro r w2 ⟨rfl, rfl⟩
    go_wp2_with fail
    refine (Tryz.internal_strconv_bool2_int _ _).mono ?_
    rintro r w2 ⟨rfl, rfl⟩
    go_wp2_with fail
    rw [half_or hu63]
    refine (round_any (u / 2 ||| u % 2) _ (half_small hu63)).mono ?_
    rintro r w2 ⟨rfl, rfl⟩
    have hm := hm1.out (by omega)
    have HP : Hid (pfR ke u = packR (ke + 1) (rnd2 (u / 2 ||| u % 2))) := hide (by unfold pfR; rw [if_pos (by omega)])
    generalize rnd2 (u / 2 ||| u % 2) = m at *
    obtain ⟨hma, hmb⟩ := hm
    have hz := zero_or (m := m) (by omega)
    go_wp2_with fail
    refine (pack_any (ke + 1) m _ _ _ rfl (by have := hke.out; omega) hma (.inr hmb)).mono ?_
    rintro r w2 ⟨rfl, rfl⟩
    obtain ⟨f, v, hv⟩ := packR_shape (ke + 1) m
    have HV := hide hv
    rw [hv]
    clear hv
    go_wp2
    go_ret2
    exact ⟨by rw [HP.out, HV.out]; rfl, below_dn ((Below.refl _ _).alloc (Nat.le_refl _) _) _⟩
  · go_wp2_with fail
    refine (unmin_any _).mono ?_
    rintro r w2 ⟨rfl, rfl⟩
    go_wp2_with fail
    have hsf : decide ((36028797018963966 : Int) ≤ (u : Int)) = false := decide_eq_false (by omega)
    rw [hsf]
    refine (Tryz.internal_strconv_bool2_int false _).mono ?_
    rintro r w2 ⟨rfl, rfl⟩
    rw [if_neg (by decide)]
    have Hsh := hide hsh
    clear hsf hsh
    go_wp2_with fail
    rw [self_or hu63]
    refine (round_any u _ (by omega)).mono ?_
    rintro r w2 ⟨rfl, rfl⟩
    have hsh := Hsh.out
    have hm := hm2.out (by omega)
    have HP : Hid (pfR ke u = packR ke (rnd2 u)) := hide (by unfold pfR; rw [if_neg (by omega)])
    generalize rnd2 u = m at *
    obtain ⟨hma, hmb⟩ := hm
    have Hmb := hide hmb
    clear hmb
    have hz := zero_or (m := m) (by omega)
    go_wp2_with fail
    refine (pack_any ke m _ _ _ rfl (by have := hke.out; omega) hma Hmb.out).mono ?_
    rintro r w2 ⟨rfl, rfl⟩
    obtain ⟨f, v, hv⟩ := packR_shape ke m
    have HV := hide hv
    rw [hv]
    clear hv
    go_wp2
    go_ret2
    exact ⟨by rw [HP.out, HV.out]; rfl, below_dn ((Below.refl _ _).alloc (Nat.le_refl _) _) _⟩
end Go.Proofs.YtmndipnifjpdjaaGreatDoor
namespace Go.Proofs.YtmndipnifjpdjaaGreatDoor
open Go Go.RowKit
set_option linter.unusedVariables false
def pfV (W : Nat) : Value := if W = infW then .tuple #[.float .f64 infW, .iface 201 (.int .i64 1)] else .tuple #[.float .f64 W, .nilIface]
theorem packR_pfV (k m : Nat) : packR k m = pfV (min (k * 4503599627370496 + m) infW) := by
  unfold packR pfV
  by_cases h : infW ≤ k * 4503599627370496 + m
  · rw [if_pos h, Nat.min_eq_right h, if_pos rfl]
  · rw [if_neg h, Nat.min_eq_left (by omega), if_neg (by omega)]
theorem unr_le (A B : Nat) : unr A B ≤ A / B + 1 := by rw [unr_val]; split <;> omega
theorem u_small {N D : Nat} (hD : 0 < D) (U : N * 1048576 < D * 18889447917080071372800) : unr (4 * N) D < 288230376151711744 := by
  have h1 := unr_le (4 * N) D
  have h2 : 4 * N / D < 144115188075855872 := by
    rw [Nat.div_lt_iff_lt_mul hD]
    omega
  omega
theorem PF.tiny {d : Nat} {p : Int} {b s ke c : Nat} (h : PF d p b s ke) (hc : c = 1074) (hs : 64 ≤ s) : 2 * (d * 10 ^ p.toNat * 2 ^ c) < 10 ^ (-p).toNat := by
  have hk : ke = 0 := by rcases h.hke with hk | hk; exact hk; omega
  have hbal := h.bal hc
  have hx := h.x.2
  have hr := (lp_row h.hp1 h.hp2).2
  have hden : 0 < denT p := Nat.mul_pos (Nat.pow_pos (by omega)) (Nat.pow_pos (by omega))
  have hS : 2 ^ 64 ≤ 2 ^ s := Nat.pow_le_pow_right (by omega) hs
  subst hk
  rw [Nat.pow_zero, Nat.mul_one] at hbal
  have hDd : 0 < 10 ^ (-p).toNat := Nat.pow_pos (by omega)
  generalize d * 10 ^ p.toNat * 2 ^ c = N at *
  generalize 10 ^ (-p).toNat = D at *
  generalize d * 2 ^ (64 - b) = x at *
  generalize numT p = a at *
  generalize denT p = q at *
  generalize 2 ^ s = S at *
  clear h hc
  have h1 : x * a * 1048576 < q * (S * T128) * 1048576 := by
    have s1 : x * (a * 1048576) ≤ x * (q * 356811582894123049326108028987766352327475200) := Nat.mul_le_mul_left _ hr
    have s2 : x * (q * 356811582894123049326108028987766352327475200) ≤ 18446744073709551616 * (q * 356811582894123049326108028987766352327475200) := Nat.mul_le_mul_right _ (Nat.le_of_lt hx)
    have s3 : q * (18446744073709551616 * T128) ≤ q * (S * T128) := Nat.mul_le_mul_left _ (Nat.mul_le_mul_right _ hS)
    rw [Nat.mul_assoc x a]
    refine Nat.lt_of_le_of_lt (Nat.le_trans s1 s2) (Nat.lt_of_lt_of_le ?_ (Nat.mul_le_mul_right _ s3))
    rw [Nat.mul_left_comm, Nat.mul_assoc q]
    exact Nat.mul_lt_mul_of_pos_left (by decide) hden
  have h2 : x * a < q * (S * T128) := Nat.lt_of_mul_lt_mul_right h1
  have h3 : x * a * D < q * (S * T128) * D := Nat.mul_lt_mul_of_pos_right h2 hDd
  rw [hbal] at h3
  have h4 : q * (S * T128) * (4 * N) < q * (S * T128) * D := by rw [Nat.mul_comm _ (4 * N)]; exact h3
  have h5 := Nat.lt_of_mul_lt_mul_left h4
  omega
set_option maxRecDepth 100000 in
set_option maxHeartbeats 1600000 in
theorem pf64_zero (d b i hi lo s : Nat) (p lp : Int) (w : World) (hd : d < 18446744073709551616) (hb : Hid (b = Lib.bitLen d)) (hb1 : 1 ≤ b) (hb2 : b ≤ 64) (hp1 : -345 ≤ p) (hp2 : p ≤ 310)
    (hlp : Hid (lp = lp10 p)) (hl1 : -1147 ≤ lp) (hl2 : lp ≤ 1030) (hp : Hid (p + 348 = (i : Int))) (hi696 : i < 696) (hg : 14 < w.heap.size)
    (t0 : w.cell? ⟨14, i * 2, none⟩ = some (.int .u64 hi)) (t1 : w.cell? ⟨14, i * 2 + 1, none⟩ = some (.int .u64 lo))
    (hs : Hid ((s : Int) = 61 - min 1074 (53 - (b : Int) - lp) - b - lp)) (hs64 : 64 ≤ s) :
    Calls Tryz.prog 285 #[.int .u64 d, .int .i64 p, .int .u64 0] w fun r w' => r = .returned (.tuple #[.float .f64 0, .nilIface]) ∧ Below w.heap.size w w' := by
  have hfb := run_frombits
  have hz : bits .or .u64 0 0 = 0 := zero_or (m := 0) (by omega)
  go_enter Tryz.func285, Tryz.ntmps285
  go_wp2_with fail
  refine (len64_named d b hd hb.out _).mono ?_
  rintro r w1 ⟨rfl, rfl⟩
  go_wp2_with fail
  refine (log2Pow10_any p _ (by omega) (by omega)).mono ?_
  rintro r w1 ⟨rfl, rfl⟩
  rw [← hlp.out]
  go_wp2_with fail
  have he1 : -1100 ≤ min 1074 (53 - (b : Int) - lp) := by omega
  have he2 : min 1074 (53 - (b : Int) - lp) ≤ 1074 := by omega
  generalize min 1074 (53 - (b : Int) - lp) = e at *
  refine (prescale_any i hi lo _ (e - (64 - (b : Int))) lp p _ hp.out hi696 (by omega) (by omega) (by omega) (by omega) hg (by simp) (by simp) (by simp) (alloc_cell (by omega) t0) (alloc_cell (by omega) t1) (by simp) (by simp) (by simp)).mono ?_
  rintro r w2 ⟨rfl, rfl⟩
  have hss : -(e - (64 - (b : Int)) + lp + 3) = (s : Int) := by have := hs.out; omega
  rw [hss]
  clear hss
  go_wp2
  go_ret2
  exact ⟨by simp, (Below.refl _ _).alloc (Nat.le_refl _) _⟩
theorem pf64_any (d : Nat) (p : Int) (w : World) (hd0 : d ≠ 0) (hd : d < 18446744073709551616) (hp1 : -345 ≤ p) (hp2 : p ≤ 310) (hg : 14 < w.heap.size)
    (t0 : w.cell? ⟨14, (p + 348).toNat * 2, none⟩ = some (.int .u64 (rowAt p).1)) (t1 : w.cell? ⟨14, (p + 348).toNat * 2 + 1, none⟩ = some (.int .u64 (rowAt p).2)) :
    Calls Tryz.prog 285 #[.int .u64 d, .int .i64 p, .int .u64 0] w fun r w' => ∃ W, r = .returned (pfV W) ∧ DecRnd d p W ∧ Below w.heap.size w w' := by
  obtain ⟨b1, b2, b3⟩ := bitLen_bounds d hd0 hd
  have b4 := bitLen_le64 d hd0 hd
  obtain ⟨l1, l2⟩ := lp10_bound hp1 hp2
  have hrow := of_decide_eq_true (row_ok (p := p) (by omega) (by omega))
  have hhi := row_hi (p := p) (by omega) (by omega)
  obtain ⟨r1, r2, _, _, _⟩ := hrow
  generalize hb : Lib.bitLen d = b at *
  generalize hlp : lp10 p = lp at *
  obtain ⟨s, hs⟩ : ∃ s : Nat, (s : Int) = 61 - min 1074 (53 - (b : Int) - lp) - b - lp := ⟨(61 - min 1074 (53 - (b : Int) - lp) - b - lp).toNat, by omega⟩
  obtain ⟨ke, hke⟩ : ∃ ke : Nat, (ke : Int) = 1074 - min 1074 (53 - (b : Int) - lp) := ⟨(1074 - min 1074 (53 - (b : Int) - lp)).toNat, by omega⟩
  have pf : PF d p b s ke := ⟨b4, b2, b3, b1, hp1, hp2, by omega, by rw [hlp]; omega, by omega⟩
  have hden : 0 < 10 ^ (-p).toNat := Nat.pow_pos (by omega)
  by_cases h64 : s < 64
  · have hu := usc_ok hp1 hp2 (s := s) pf.x.1 pf.x.2 pf.hs
    rw [pf.unr rfl] at hu
    have L := pf.lower rfl
    have U := pf.upper rfl
    have hpos : 0 < d * 2 ^ (64 - b) * (rowAt p).1 / T64 := by
      rw [Nat.div_pos_iff]
      refine ⟨by rw [e64]; omega, ?_⟩
      have : 9223372036854775808 * 9223372036854775808 ≤ d * 2 ^ (64 - b) * (rowAt p).1 := Nat.mul_le_mul pf.x.1 hhi
      rw [e64]; omega
    refine (pf64_walk d b (p + 348).toNat (rowAt p).1 (rowAt p).2 s (d * 2 ^ (64 - b)) p lp w hd (hide hb.symm) b1 b4 hp1 hp2 (hide hlp.symm) l1 l2 (hide (by omega)) (by omega) hg t0 t1 (hide hs) h64 (hide rfl) pf.x.2 r1 r2 (hide hpos) _ (hide rfl) ?_ ke (hide hke) (hide ?_) (hide ?_)).mono ?_
    · rw [hu]
      exact u_small (Nat.mul_pos hden (Nat.pow_pos (by omega))) U
    · intro h
      rw [hu] at h ⊢
      have := pf_core2 hden U L h
      exact ⟨this.1, this.2.1⟩
    · intro h
      rw [hu] at h ⊢
      have := pf_core1 hden L h
      exact ⟨this.1, this.2.2⟩
    · rintro r w' ⟨rfl, hbel⟩
      unfold pfR
      rw [hu]
      by_cases h : 36028797018963966 ≤ unr (4 * (d * 10 ^ p.toNat * 2 ^ 1074)) (10 ^ (-p).toNat * 2 ^ ke)
      · rw [if_pos h, packR_pfV]
        exact ⟨_, rfl, (pf_core2 hden U L h).2.2, hbel⟩
      · rw [if_neg h, packR_pfV]
        exact ⟨_, rfl, (pf_core1 hden L (Nat.lt_of_not_le h)).2.1, hbel⟩
  · refine (pf64_zero d b (p + 348).toNat (rowAt p).1 (rowAt p).2 s p lp w hd (hide hb.symm) b1 b4 hp1 hp2 (hide hlp.symm) l1 l2 (hide (by omega)) (by omega) hg t0 t1 (hide hs) (by omega)).mono ?_
    have tiny : ∀ c, c = 1074 → IsRnd (d * 10 ^ p.toNat * 2 ^ c) (10 ^ (-p).toNat) 0 := fun c hc => rnd_small (pf.tiny hc (by omega))
    rintro r w' ⟨rfl, hbel⟩
    exact ⟨0, rfl, tiny 1074 rfl, hbel⟩
end Go.Proofs.YtmndipnifjpdjaaGreatDoor
