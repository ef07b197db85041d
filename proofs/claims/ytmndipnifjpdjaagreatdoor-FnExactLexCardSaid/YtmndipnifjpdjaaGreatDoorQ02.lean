import Derived.Test.YtmndipnifjpdjaaGreatDoorQ01
namespace Go.Proofs.YtmndipnifjpdjaaGreatDoor
open Go Go.RowKit
set_option linter.unusedVariables false
theorem pow_bound {i n len : Nat} (h : 2 ^ i ≤ n) (hn : n < 10000 ^ len) : i < 14 * len := by
  have h1 : 10000 ^ len ≤ 2 ^ (14 * len) := by rw [Nat.pow_mul]; exact Nat.pow_le_pow_left (by omega) len
  have h2 : 2 ^ i < 2 ^ (14 * len) := by omega
  exact (Nat.pow_lt_pow_iff_right (by omega)).1 h2
theorem cmpI_ge {x y : Nat} (h : y ≤ x) : 0 ≤ cmpI x y := by unfold cmpI; split <;> (try split) <;> omega
theorem Big.len {w : World} {v : Value} {l : List Int} (h : Big w v l) : ∃ g cap, v = .slice (some ⟨g, 0, none⟩) l.length cap := by
  obtain ⟨g, cap, h1, _⟩ := h; exact ⟨g, cap, h1⟩
theorem wrap_u64 {x : Int} (h0 : 0 ≤ x) (h1 : x < 18446744073709551616) : IntKind.u64.wrap x = x := by
  simp [IntKind.wrap, IntKind.signed, IntKind.bits]; omega
theorem cast_two (b : Nat) : (2 : Int) ^ b = ((2 ^ b : Nat) : Int) := by simp
theorem wrap_q {q b : Nat} (h : q + 2 ^ b ≤ 9007199254740992) : IntKind.u64.wrap ((q : Int) + IntKind.u64.wrap (2 ^ b)) = ((q + 2 ^ b : Nat) : Int) := by
  rw [cast_two]
  generalize 2 ^ b = p at *
  rw [wrap_u64 (x := (p : Int)) (by omega) (by omega), wrap_u64 (by omega) (by omega)]
  omega
theorem cmp_three (x y : Nat) : (y < x ∧ cmpI x y = 1) ∨ (x = y ∧ cmpI x y = 0) ∨ (x < y ∧ cmpI x y = -1) := by
  unfold cmpI; split
  · right; right; omega
  · split
    · left; omega
    · right; left; omega
theorem word_end {n d i j D H L N M q : Nat} {e0 : Int} (HD : D = d * 2 ^ i) (HH : H = d * 2 ^ i * 2 ^ 53) (HL : L = d * 2 ^ i * 2 ^ 52) (HN : N = n * 2 ^ j) (hNH : N < H)
    (hfin : e0 + i - j = -1074 ∨ L ≤ N) (he : -1074 ≤ e0 + i - j) (Hq : N = q * D + M) (hM : M < D) :
    IsRnd (n * 2 ^ (e0 + 1074).toNat) (d * 2 ^ (-1074 - e0).toNat) (min ((e0 + i - j + 1074).toNat * 4503599627370496 + (q + if D < M * 2 + 0 ∨ (M * 2 + 0 = D ∧ q % 2 = 1) then 1 else 0)) infW) ∧
      (e0 + i - j = -1074 ∨ 4503599627370496 ≤ q) := by
  obtain ⟨hq, hr⟩ := quot_rest Hq hM
  subst HD
  subst HN
  have h := isRnd_of (n := n) (d := d) (i := i) (j := j) (A := (e0 + 1074).toNat) (B := (-1074 - e0).toNat) (k := (e0 + i - j + 1074).toNat) (by omega) (by omega) (by
    rcases hfin with h | h
    · left; omega
    · right; omega)
  constructor
  · have e : rq (n * 2 ^ j) (d * 2 ^ i) = q + if d * 2 ^ i < M * 2 + 0 ∨ (M * 2 + 0 = d * 2 ^ i ∧ q % 2 = 1) then 1 else 0 := by
      unfold rq; rw [hq, hr]
      have e1 : 2 * M = M * 2 + 0 := by omega
      rw [e1]
    rw [e] at h
    exact h
  · rcases hfin with h | h
    · left; exact h
    · right
      rw [← hq]
      have hpos : 0 < d * 2 ^ i := by omega
      rw [Nat.le_div_iff_mul_le hpos]
      rw [Nat.mul_comm]
      have e2 : (2 : Nat) ^ 52 = 4503599627370496 := by decide
      rw [e2] at HL
      omega
theorem half_low {T D b : Nat} (h : T = D * 2 ^ b) : 1 ≤ b → T / 2 = D * 2 ^ (b - 1) := by
  intro hb
  obtain ⟨c, rfl⟩ : ∃ c, b = c + 1 := ⟨b - 1, by omega⟩
  rw [h, Nat.pow_succ, ← Nat.mul_assoc, Nat.mul_div_cancel _ (by omega)]
  rfl
def Word2 (w : World) (n : Nat) (e1 : Int) (D H L : Nat) (dv lv : Value) (nv ev : Value) (wr : World) : Prop :=
  ∃ (j N : Nat), -1074 ≤ e1 - j ∧ ev = .int .i64 (e1 - j) ∧ Hid (N = n * 2 ^ j) ∧ N < H ∧ Big wr dv (dig D) ∧ Big wr lv (dig L) ∧ Big wr nv (dig N) ∧ Below w.heap.size w wr
def Word3 (w : World) (D n2 lim : Nat) (dv : Value) (nv qv tv bv : Value) (wr : World) : Prop :=
  ∃ (B q M T : Nat), B ≤ 53 ∧ bv = .int .i64 ((B : Int) - 1) ∧ qv = .int .u64 q ∧ Hid (n2 = q * D + M) ∧ Hid (M < D * 2 ^ B) ∧ Hid (q + 2 ^ B ≤ 9007199254740992) ∧ Hid (1 ≤ B → T = D * 2 ^ (B - 1)) ∧ (dig T).length ≤ lim ∧ (dig M).length ≤ lim ∧
    Big wr dv (dig D) ∧ Big wr nv (dig M) ∧ Big wr tv (dig T) ∧ Below w.heap.size w wr
def Word1 (w : World) (n d : Nat) (e0 : Int) (vn : Value) (dv ev hv : Value) (wr : World) : Prop :=
  ∃ (i D H : Nat), i ≤ 20000 ∧ ev = .int .i64 (e0 + i) ∧ Hid (D = d * 2 ^ i) ∧ Hid (H = d * 2 ^ i * 2 ^ 53) ∧ Big wr dv (dig D) ∧ Big wr hv (dig H) ∧ Big wr vn (dig n) ∧ Below w.heap.size w wr
theorem len_dig_two {n k b : Nat} (h : (dig n).length ≤ b) : (dig (n * 2 ^ k)).length ≤ b + k := by
  have := dig_length_two n k; omega
set_option maxHeartbeats 1600000 in
set_option maxRecDepth 100000 in
theorem word_any (n d : Nat) (e0 : Int) (vn vd : Value) (w : World) (hn : Big w vn (dig n)) (hd : Big w vd (dig d)) (hd0 : d ≠ 0) (hln : (dig n).length ≤ 1000) (hld : (dig d).length ≤ 2000) (he1 : -5000 ≤ e0) (he2 : e0 ≤ 5000) (hn0 : n ≠ 0) :
    Calls Tryz.prog 96 #[vn, vd, .int .i64 e0] w fun e w' => ∃ W : Nat, e = .returned (.int .u64 W) ∧ IsRnd (n * 2 ^ (e0 + 1074).toNat) (d * 2 ^ (-1074 - e0).toNat) W ∧ Below w.heap.size w w' := by
  have Hd0 := hide hd0
  have Hn0 := hide hn0
  have hlen0 : 0 < (dig n).length := by rw [dig_pos hn0]; simp
  obtain ⟨gn, cn, hvn⟩ := hn.len
  subst hvn
  clear hd0 hn0
  go_enter Tryz.func96, Tryz.ntmps96
  have hz : (((dig n).length : Int) == 0) = false := by rw [beq_eq_false_iff_ne]; omega
  go_wp2_with fail
  refine (two_any d 52 vd w hd (by omega)).mono ?_
  rintro e w1 ⟨v1, rfl, hlow, hb1⟩
  go_wp2_with fail
  refine (times_int (d * 2 ^ 52) 2 0 _ _ rfl rfl _ _ hlow (by have := len_dig_two (k := 52) hld; omega) (by omega) (by omega)).mono ?_
  rintro e w2 ⟨v2, rfl, hhigh, hb2⟩
  have hb12 : Below w.heap.size w w2 := hb1.trans (hb2.mono hb1.size)
  have hn2 := hn.below hb12
  have hd2 := hd.below hb12
  go_wp2
  go_loopw [1, 2, 8] (Word1 w n d e0 (.slice (some ⟨gn, 0, none⟩) (dig n).length cn)) (fun _ ev _ _ => (20001 + e0 - intOf ev).toNat)
  case atStart =>
    refine ⟨0, d, d * 2 ^ 52 * 2 + 0, by omega, by simp, hide (by simp), hide (by omega), hd2, hhigh, hn2, hb12⟩
  case round =>
    clear hlow hhigh hn2 hd2 hb1 hb2 hb12
    obtain ⟨i, D, H, hi, rfl, HD, HH, hbd, hbh, hbn, hb⟩ := hrel
    have hlD : (dig D).length ≤ 2000 + i := by rw [HD.out]; exact len_dig_two hld
    have hlH : (dig H).length ≤ 2000 + i + 53 := by rw [HH.out]; exact len_dig_two (len_dig_two hld)
    by_cases hc : H ≤ n ∨ e0 + i < -1074
    · have hi2 : i + 1 ≤ 20000 := by
        rcases hc with hc | hc
        · have h1 : 2 ^ i ≤ n := by
            have : d * 2 ^ i * 2 ^ 53 ≤ n := by rw [← HH.out]; exact hc
            have h2 : 1 * 2 ^ i * 1 ≤ d * 2 ^ i * 2 ^ 53 := Nat.mul_le_mul (Nat.mul_le_mul_right _ (Nat.one_le_iff_ne_zero.2 Hd0.out)) (Nat.one_le_two_pow)
            omega
          have := pow_bound h1 (dig_lt n)
          omega
        · omega
      have hrel' : ∀ (w3 w4 w5 : World) (v3 v4 : Value), Below wr.heap.size wr w3 → Below w3.heap.size w3 w4 → Below w4.heap.size w4 w5 → Big w4 v3 (dig (H * 2 + 0)) → Big w5 v4 (dig (D * 2 + 0)) →
          Word1 w n d e0 (.slice (some ⟨gn, 0, none⟩) (dig n).length cn) v4 (.int .i64 (e0 + i + 1)) v3 w5 := by
        intro w3 w4 w5 v3 v4 b3 b4 b5 g3 g4
        have b35 : Below wr.heap.size wr w5 := (b3.trans (b4.mono b3.size)).trans (b5.mono (Nat.le_trans b3.size b4.size))
        refine ⟨i + 1, D * 2 + 0, H * 2 + 0, hi2, by rw [Int.natCast_add]; simp [Int.add_assoc], hide (by rw [HD.out, Nat.pow_succ, Nat.mul_assoc]; rfl), hide (by rw [HH.out, Nat.pow_succ]; grind), g4, g3.below b5, hbn.below b35, hb.trans (b35.mono hb.size)⟩
      have Hrel' := hide hrel'
      clear hrel'
      by_cases hc1 : H ≤ n
      · have hge := cmpI_ge hc1
        go_wp2_with (go_at_call 130; refine (cmp_any n H _ _ _ hbn hbh (by omega) (by omega)).mono ?_; rintro e w3 ⟨rfl, hb3⟩)
        refine (times_int H 2 0 _ _ rfl rfl _ _ (hbh.below hb3) (by omega) (by omega) (by omega)).mono ?_
        rintro e w4 ⟨v3, rfl, hg3, hb4⟩
        go_wp2_with fail
        refine (times_int D 2 0 _ _ rfl rfl _ _ ((hbd.below hb3).below hb4) (by omega) (by omega) (by omega)).mono ?_
        rintro e w5 ⟨v4, rfl, hg4, hb5⟩
        go_wp2
        go_roundw
        case rel => exact Hrel'.out _ _ _ _ _ hb3 hb4 hb5 hg3 hg4
        case measure => simp [intOf]; omega
      · have hlt := cmpI_lt (show n < H by omega)
        have he3 : e0 + i < -1074 := by omega
        go_wp2_with (go_at_call 130; refine (cmp_any n H _ _ _ hbn hbh (by omega) (by omega)).mono ?_; rintro e w3 ⟨rfl, hb3⟩)
        refine (times_int H 2 0 _ _ rfl rfl _ _ (hbh.below hb3) (by omega) (by omega) (by omega)).mono ?_
        rintro e w4 ⟨v3, rfl, hg3, hb4⟩
        go_wp2_with fail
        refine (times_int D 2 0 _ _ rfl rfl _ _ ((hbd.below hb3).below hb4) (by omega) (by omega) (by omega)).mono ?_
        rintro e w5 ⟨v4, rfl, hg4, hb5⟩
        go_wp2
        go_roundw
        case rel => exact Hrel'.out _ _ _ _ _ hb3 hb4 hb5 hg3 hg4
        case measure => simp [intOf]; omega
    · have hlt := cmpI_lt (show n < H by omega)
      have he3 : -1074 ≤ e0 + i := by omega
      go_wp2_with (go_at_call 130; refine (cmp_any n H _ _ _ hbn hbh (by omega) (by omega)).mono ?_; rintro e w3 ⟨rfl, hb3⟩)
      refine (half_any H _ _ (hbh.below hb3) (by omega)).mono ?_
      rintro e w4 ⟨v3, rfl, hg3, hb4⟩
      have Hlow : Hid (H / 2 = d * 2 ^ i * 2 ^ 52) := hide (by rw [HH.out]; omega)
      have H2 : Hid (H = 2 * (H / 2)) := hide (by rw [HH.out]; omega)
      have hbd4 := (hbd.below hb3).below hb4
      have hbn4 := (hbn.below hb3).below hb4
      have hb34 : Below w.heap.size w w4 := hb.trans ((hb3.trans (hb4.mono hb3.size)).mono hb.size)
      have hlL : (dig (H / 2)).length ≤ (dig H).length := dig_length_mono (by omega)
      have hHL := H2.out
      generalize H / 2 = L at *
      have H2L : Hid (H = 2 * L) := hide hHL
      clear hHL H2
      have hlim := hlH
      go_wp2
      go_loopw [0, 2] (Word2 w n (e0 + i) D H L u1 v3) (fun _ ev _ => (intOf ev + 1074).toNat)
      case atStart => exact ⟨0, n, by omega, by simp, hide (by simp), by omega, hbd4, hg3, hbn4, hb34⟩
      case round =>
        clear hbd4 hg3 hbn4 hb34 hb3 hb4 hbd hbh hbn hb
        obtain ⟨j, N, hj, rfl, HN, hNH, hbd, hbl, hbn, hb⟩ := hrel
        have hlN : (dig N).length ≤ (dig H).length := dig_length_mono (by omega)
        by_cases hc : -1074 < e0 + i - j ∧ N < L
        · obtain ⟨hc1, hc2⟩ := hc
          have hlt2 := cmpI_lt hc2
          go_wp2_with (go_at_call 130; refine (cmp_any N L _ _ _ hbn hbl (by omega) (by omega)).mono ?_; rintro e w5 ⟨rfl, hb5⟩)
          refine (times_int N 2 0 _ _ rfl rfl _ _ (hbn.below hb5) (by omega) (by omega) (by omega)).mono ?_
          rintro e w6 ⟨v4, rfl, hg4, hb6⟩
          have hNH' : N * 2 + 0 < H := by have := H2L.out; omega
          go_wp2
          go_roundw
          case rel => exact ⟨j + 1, N * 2 + 0, by omega, by rw [Int.natCast_add]; simp [Int.sub_sub], hide (by rw [HN.out, Nat.pow_succ, Nat.mul_assoc]; rfl), hNH', (hbd.below hb5).below hb6, (hbl.below hb5).below hb6, hg4, hb.trans ((hb5.trans (hb6.mono hb5.size)).mono hb.size)⟩
          case measure => simp [intOf]; omega
        · by_cases hc1 : -1074 < e0 + i - j
          · have hge2 := cmpI_ge (show L ≤ N by omega)
            go_wp2_with (go_at_call 130; refine (cmp_any N L _ _ _ hbn hbl (by omega) (by omega)).mono ?_; rintro e w5 ⟨rfl, hb5⟩)
            have hfin : Hid (e0 + i - j = -1074 ∨ L ≤ N) := hide (.inr (by omega))
            have hbd' := hbd.below hb5
            have hbn' := hbn.below hb5
            have hbl' := hbl.below hb5
            have hb' := hb.trans (hb5.mono hb.size)
            clear hbd hbn hbl hb hb5
            go_loopw [0, 9, 10, 11] (Word3 w D N (dig H).length u1) (fun _ _ _ bv _ => (intOf bv + 1).toNat)
            case atStart => exact ⟨53, 0, N, L, by omega, by simp, by simp, hide (by omega), hide (by have := HH.out; rw [HD.out]; omega), hide (by decide), hide (fun _ => by rw [Hlow.out, HD.out]), hlL, hlN, hbd', hbn', hbl', hb'⟩
            case round =>
              clear hbd' hbn' hbl' hb'
              obtain ⟨B, q, M, T, hB, rfl, rfl, Hq, HM, HqB, HT, hlT, hlM, hbd, hbn, hbt, hb⟩ := hrel
              cases B with
              | zero =>
                have hM : M < D := by have := HM.out; simpa using this
                have hq0 : (0 : Int) ≤ (q : Int) := by omega
                have hq1 : (q : Int) ≤ 9007199254740991 := by have : q + 1 ≤ 9007199254740992 := HqB.out; omega
                generalize hqz : (q : Int) = z at *
                have Hqz := hide hqz
                clear hqz
                go_wp2_with fail
                refine (times_int M 2 0 _ _ rfl rfl _ _ hbn (by omega) (by omega) (by omega)).mono ?_
                rintro e w7 ⟨v5, rfl, hg5, hb7⟩
                have hlM2 : (dig (M * 2 + 0)).length ≤ (dig H).length + 1 := Nat.le_trans (dig_length_mul (n := M) (m := 2) (k := 1) (by omega)) (by omega)
                have HC := hide (cmp_three (M * 2 + 0) D)
                have KEY := hide (word_end HD.out HH.out Hlow.out HN.out hNH hfin.out hj Hq.out hM)
                generalize M * 2 + 0 = M2 at hg5 hlM2 HC KEY
                go_wp2_with (go_at_call 130; refine (cmp_any M2 D _ _ _ hg5 (hbd.below hb7) (by omega) (by omega)).mono ?_; rintro e w8 ⟨rfl, hb8⟩; generalize cmpI M2 D = c at *)
                all_goals go_ret
                all_goals refine ⟨_, ret_int ?_, KEY.out.1, hb.trans ((hb7.trans (hb8.mono hb7.size)).mono hb.size)⟩
                all_goals have WE : WEnd (e0 + i - j) z c q D M2 := ⟨hj, KEY.out.2, Hqz.out, hq1, HC.out⟩
                all_goals first
                  | (have hu : Up c z (z + 1) := by first | exact up1 (by assumption) | exact up2 (by assumption) (by assumption)
                     first
                       | exact wend_A WE hu (by assumption) (by assumption)
                       | exact wend_B WE hu (by assumption) (by assumption)
                       | exact wend_C WE hu (by assumption)
                       | exact wend_D WE hu (by assumption)
                       | exact wend_F WE hu (by assumption) (by assumption))
                  | (have hu : Up c z z := by first | exact up3 (by assumption) (by assumption) | exact up4 (by assumption) (by assumption)
                     first
                       | exact wend_C WE hu (by assumption)
                       | exact wend_D WE hu (by assumption)
                       | exact wend_F WE hu (by assumption) (by assumption))
              | succ b =>
                have hT : T = D * 2 ^ b := HT.out (by omega)
                have HT1 := hide hT
                clear hT HT
                by_cases hc : T ≤ M
                · have hge3 := cmpI_ge hc
                  go_wp2_with (go_at_call 130; refine (cmp_any M T _ _ _ hbn hbt (by omega) (by omega)).mono ?_; rintro e w7 ⟨rfl, hb7⟩)
                  refine (minus_any M T _ _ _ (hbn.below hb7) (hbt.below hb7) (by omega) hc).mono ?_
                  rintro e w8 ⟨v5, rfl, hg5, hb8⟩
                  go_wp2_with fail
                  refine (half_any T _ _ ((hbt.below hb7).below hb8) (by omega)).mono ?_
                  rintro e w9 ⟨v6, rfl, hg6, hb9⟩
                  have S := (word_bit Hq.out HM.out HqB.out).1 (by rw [← HT1.out]; exact hc)
                  rw [← HT1.out] at S
                  have HS := hide S
                  have Hw := hide (wrap_q (q := q) (b := b) (Nat.le_trans (Nat.le_add_right _ _) S.2.2))
                  clear S
                  go_wp2
                  go_roundw
                  case rel => exact ⟨b, q + 2 ^ b, M - T, T / 2, by omega, rfl, by rw [Hw.out], hide HS.out.1, hide (by rw [← HT1.out]; exact HS.out.2.1), hide HS.out.2.2, hide (half_low HT1.out), Nat.le_trans (dig_length_mono (by omega)) hlT, Nat.le_trans (dig_length_mono (by omega)) hlM, ((hbd.below hb7).below hb8).below hb9, hg5.below hb9, hg6, hb.trans (((hb7.trans (hb8.mono hb7.size)).trans (hb9.mono (Nat.le_trans hb7.size hb8.size))).mono hb.size)⟩
                  case measure => simp [intOf]
                · have hlt3 := cmpI_lt (show M < T by omega)
                  have S := (word_bit Hq.out HM.out HqB.out).2 (by rw [← HT1.out]; exact hc)
                  have HS := hide S
                  clear S
                  go_wp2_with (go_at_call 130; refine (cmp_any M T _ _ _ hbn hbt (by omega) (by omega)).mono ?_; rintro e w7 ⟨rfl, hb7⟩)
                  refine (half_any T _ _ (hbt.below hb7) (by omega)).mono ?_
                  rintro e w8 ⟨v6, rfl, hg6, hb8⟩
                  go_wp2
                  go_roundw
                  case rel => exact ⟨b, q, M, T / 2, by omega, rfl, rfl, Hq, hide HS.out.1, hide HS.out.2, hide (half_low HT1.out), Nat.le_trans (dig_length_mono (by omega)) hlT, hlM, (hbd.below hb7).below hb8, (hbn.below hb7).below hb8, hg6, hb.trans ((hb7.trans (hb8.mono hb7.size)).mono hb.size)⟩
                  case measure => simp [intOf]
          · go_wp2
            have hfin : Hid (e0 + i - j = -1074 ∨ L ≤ N) := hide (.inl (by omega))
            have hbd' := hbd
            have hbn' := hbn
            have hbl' := hbl
            have hb' := hb
            clear hbd hbn hbl hb
            go_loopw [0, 9, 10, 11] (Word3 w D N (dig H).length u1) (fun _ _ _ bv _ => (intOf bv + 1).toNat)
            case atStart => exact ⟨53, 0, N, L, by omega, by simp, by simp, hide (by omega), hide (by have := HH.out; rw [HD.out]; omega), hide (by decide), hide (fun _ => by rw [Hlow.out, HD.out]), hlL, hlN, hbd', hbn', hbl', hb'⟩
            case round =>
              clear hbd' hbn' hbl' hb'
              obtain ⟨B, q, M, T, hB, rfl, rfl, Hq, HM, HqB, HT, hlT, hlM, hbd, hbn, hbt, hb⟩ := hrel
              cases B with
              | zero =>
                have hM : M < D := by have := HM.out; simpa using this
                have hq0 : (0 : Int) ≤ (q : Int) := by omega
                have hq1 : (q : Int) ≤ 9007199254740991 := by have : q + 1 ≤ 9007199254740992 := HqB.out; omega
                generalize hqz : (q : Int) = z at *
                have Hqz := hide hqz
                clear hqz
                go_wp2_with fail
                refine (times_int M 2 0 _ _ rfl rfl _ _ hbn (by omega) (by omega) (by omega)).mono ?_
                rintro e w7 ⟨v5, rfl, hg5, hb7⟩
                have hlM2 : (dig (M * 2 + 0)).length ≤ (dig H).length + 1 := Nat.le_trans (dig_length_mul (n := M) (m := 2) (k := 1) (by omega)) (by omega)
                have HC := hide (cmp_three (M * 2 + 0) D)
                have KEY := hide (word_end HD.out HH.out Hlow.out HN.out hNH hfin.out hj Hq.out hM)
                generalize M * 2 + 0 = M2 at hg5 hlM2 HC KEY
                go_wp2_with (go_at_call 130; refine (cmp_any M2 D _ _ _ hg5 (hbd.below hb7) (by omega) (by omega)).mono ?_; rintro e w8 ⟨rfl, hb8⟩; generalize cmpI M2 D = c at *)
                all_goals go_ret
                all_goals refine ⟨_, ret_int ?_, KEY.out.1, hb.trans ((hb7.trans (hb8.mono hb7.size)).mono hb.size)⟩
                all_goals have WE : WEnd (e0 + i - j) z c q D M2 := ⟨hj, KEY.out.2, Hqz.out, hq1, HC.out⟩
                all_goals first
                  | (have hu : Up c z (z + 1) := by first | exact up1 (by assumption) | exact up2 (by assumption) (by assumption)
                     first
                       | exact wend_A WE hu (by assumption) (by assumption)
                       | exact wend_B WE hu (by assumption) (by assumption)
                       | exact wend_C WE hu (by assumption)
                       | exact wend_D WE hu (by assumption)
                       | exact wend_F WE hu (by assumption) (by assumption))
                  | (have hu : Up c z z := by first | exact up3 (by assumption) (by assumption) | exact up4 (by assumption) (by assumption)
                     first
                       | exact wend_C WE hu (by assumption)
                       | exact wend_D WE hu (by assumption)
                       | exact wend_F WE hu (by assumption) (by assumption))
              | succ b =>
                have hT : T = D * 2 ^ b := HT.out (by omega)
                have HT1 := hide hT
                clear hT HT
                by_cases hc : T ≤ M
                · have hge3 := cmpI_ge hc
                  go_wp2_with (go_at_call 130; refine (cmp_any M T _ _ _ hbn hbt (by omega) (by omega)).mono ?_; rintro e w7 ⟨rfl, hb7⟩)
                  refine (minus_any M T _ _ _ (hbn.below hb7) (hbt.below hb7) (by omega) hc).mono ?_
                  rintro e w8 ⟨v5, rfl, hg5, hb8⟩
                  go_wp2_with fail
                  refine (half_any T _ _ ((hbt.below hb7).below hb8) (by omega)).mono ?_
                  rintro e w9 ⟨v6, rfl, hg6, hb9⟩
                  have S := (word_bit Hq.out HM.out HqB.out).1 (by rw [← HT1.out]; exact hc)
                  rw [← HT1.out] at S
                  have HS := hide S
                  have Hw := hide (wrap_q (q := q) (b := b) (Nat.le_trans (Nat.le_add_right _ _) S.2.2))
                  clear S
                  go_wp2
                  go_roundw
                  case rel => exact ⟨b, q + 2 ^ b, M - T, T / 2, by omega, rfl, by rw [Hw.out], hide HS.out.1, hide (by rw [← HT1.out]; exact HS.out.2.1), hide HS.out.2.2, hide (half_low HT1.out), Nat.le_trans (dig_length_mono (by omega)) hlT, Nat.le_trans (dig_length_mono (by omega)) hlM, ((hbd.below hb7).below hb8).below hb9, hg5.below hb9, hg6, hb.trans (((hb7.trans (hb8.mono hb7.size)).trans (hb9.mono (Nat.le_trans hb7.size hb8.size))).mono hb.size)⟩
                  case measure => simp [intOf]
                · have hlt3 := cmpI_lt (show M < T by omega)
                  have S := (word_bit Hq.out HM.out HqB.out).2 (by rw [← HT1.out]; exact hc)
                  have HS := hide S
                  clear S
                  go_wp2_with (go_at_call 130; refine (cmp_any M T _ _ _ hbn hbt (by omega) (by omega)).mono ?_; rintro e w7 ⟨rfl, hb7⟩)
                  refine (half_any T _ _ (hbt.below hb7) (by omega)).mono ?_
                  rintro e w8 ⟨v6, rfl, hg6, hb8⟩
                  go_wp2
                  go_roundw
                  case rel => exact ⟨b, q, M, T / 2, by omega, rfl, rfl, Hq, hide HS.out.1, hide HS.out.2, hide (half_low HT1.out), Nat.le_trans (dig_length_mono (by omega)) hlT, hlM, (hbd.below hb7).below hb8, (hbn.below hb7).below hb8, hg6, hb.trans ((hb7.trans (hb8.mono hb7.size)).mono hb.size)⟩
                  case measure => simp [intOf]
end Go.Proofs.YtmndipnifjpdjaaGreatDoor
