import Derived.Test.YtmndipnifjpdjaaGreatDoorQ27
import Derived.WalkMore
import Derived.ScopeJumps
import Derived.Laws.Bits128
namespace Go.Proofs.YtmndipnifjpdjaaGreatDoor
open Go Go.RowKit
set_option linter.unusedVariables false
set_option maxHeartbeats 800000 in
set_option maxRecDepth 100000 in
theorem sru_out (g nd : Nat) (D : Nat → Int) (dp : Int) (tr : Bool) (w : World) (h : DecAt w g D nd dp tr) (hc : dp < 0 ∨ (nd : Int) ≤ dp) :
    Calls Tryz.prog 270 #[.pointer (some ⟨g, 0, none⟩), .int .i64 dp] w fun e w' => e = .returned (.bool (sru D nd dp tr)) ∧ ∃ m, w' = w.drewN m := by
  have hs : sru D nd dp tr = false := by unfold sru; rw [if_pos hc]
  rw [hs]
  have c0 := h.nd
  clear h hs
  go_enter Tryz.func270, Tryz.ntmps270
  by_cases h0 : dp < 0
  · go_wp2
    go_ret
    exact ⟨rfl, 0, rfl⟩
  · have h1 : (nd : Int) ≤ dp := by omega
    go_wp2
    go_ret
    exact ⟨rfl, 0, rfl⟩
set_option maxHeartbeats 800000 in
set_option maxRecDepth 100000 in
theorem sru_no5 (g nd p : Nat) (D : Nat → Int) (tr : Bool) (w : World) (h : DecAt w g D nd (p : Int) tr) (hn : nd ≤ 800) (hc : p < nd) (h5 : ¬ (D p = 53 ∧ p + 1 = nd)) :
    Calls Tryz.prog 270 #[.pointer (some ⟨g, 0, none⟩), .int .i64 (p : Int)] w fun e w' => e = .returned (.bool (sru D nd (p : Int) tr)) ∧ ∃ m, w' = w.drewN m := by
  have hs : sru D nd (p : Int) tr = decide (53 ≤ D p) := by
    unfold sru
    rw [if_neg (by omega), show ((p : Int)).toNat = p by omega, if_neg (by omega)]
  rw [hs]
  have c0 := h.nd
  have c1 := h.dig p (by omega)
  clear h hs
  have h1 : (p : Int) < nd := by omega
  have h8 : (p : Int) < 800 := by omega
  go_enter Tryz.func270, Tryz.ntmps270
  by_cases e5 : D p = 53
  · have h6 : ((p : Int) + 1 == (nd : Int)) = false := by rw [beq_eq_false_iff_ne]; omega
    have h7 : (D p == 53) = true := by rw [e5]; rfl
    have h9 : decide (53 ≤ D p) = true := by rw [e5]; rfl
    rw [h9]
    go_wp2
    go_ret
    exact ⟨rfl, 0, rfl⟩
  · have h7 : (D p == 53) = false := by rw [beq_eq_false_iff_ne]; exact e5
    go_wp2
    go_ret
    exact ⟨rfl, 0, rfl⟩
set_option maxHeartbeats 800000 in
set_option maxRecDepth 100000 in
theorem sru_5 (g nd p : Nat) (D : Nat → Int) (tr : Bool) (w : World) (h : DecAt w g D nd (p : Int) tr) (hok : OkDig D nd) (hn : nd ≤ 800) (hc : p + 1 = nd) (h5 : D p = 53) :
    Calls Tryz.prog 270 #[.pointer (some ⟨g, 0, none⟩), .int .i64 (p : Int)] w fun e w' => e = .returned (.bool (sru D nd (p : Int) tr)) ∧ ∃ m, w' = w.drewN m := by
  have hs : sru D nd (p : Int) tr = (tr || (decide (0 < (p : Int)) && decide (dgt D (p - 1) % 2 = 1))) := by
    unfold sru
    rw [if_neg (by omega), show ((p : Int)).toNat = p by omega, if_pos ⟨h5, by omega⟩]
  rw [hs]
  have c0 := h.nd
  have c1 := h.dig p (by omega)
  have c3 := h.tr
  have c4 := h.dig (p - 1) (by omega)
  have hq := fun (hp : p ≠ 0) => hok (p - 1) (by omega)
  have Hq := hide hq
  clear h hs hok hq
  have h1 : (p : Int) < nd := by omega
  have h8 : (p : Int) < 800 := by omega
  have h6 : ((p : Int) + 1 == (nd : Int)) = true := by rw [beq_iff_eq]; omega
  have h7 : (D p == 53) = true := by rw [h5]; rfl
  go_enter Tryz.func270, Tryz.ntmps270
  cases tr with
  | true =>
    go_wp2
    go_ret
    exact ⟨rfl, 0, rfl⟩
  | false =>
    by_cases hp : p = 0
    · have hp0 : ¬ (0 : Int) < (p : Int) := by omega
      have hp1 : ¬ 0 < p := by omega
      have e0 : decide ((0 : Int) < (p : Int)) = false := by simp; omega
      rw [e0]
      have Hp := hide hp
      clear hp e0
      go_wp2
      go_ret
      exact ⟨rfl, 0, rfl⟩
    · have hp1 : (0 : Int) < p := by omega
      have hp2 : ((p : Int) - 1).toNat = p - 1 := by omega
      have hq := Hq.out hp
      obtain ⟨q1, q2⟩ := hq
      have e0 : (false || (decide ((0 : Int) < (p : Int)) && decide (dgt D (p - 1) % 2 = 1))) = ((D (p - 1) - 48) % 2 != 0) := by
        have h2 : D (p - 1) - 48 = (dgt D (p - 1) : Int) := by unfold dgt; omega
        rw [h2, decide_eq_true hp1]
        by_cases c : dgt D (p - 1) % 2 = 1
        · have : ((dgt D (p - 1) : Int) % 2) = 1 := by omega
          rw [this]; simp [c]
        · have : ((dgt D (p - 1) : Int) % 2) = 0 := by omega
          rw [this]; simp [c]
      rw [e0]
      clear e0
      go_wp2
      go_ret
      exact ⟨rfl, 0, rfl⟩
theorem sru_any (g nd : Nat) (D : Nat → Int) (dp : Int) (tr : Bool) (w : World) (h : DecAt w g D nd dp tr) (hN : Norm D nd) :
    Calls Tryz.prog 270 #[.pointer (some ⟨g, 0, none⟩), .int .i64 dp] w fun e w' => e = .returned (.bool (sru D nd dp tr)) ∧ ∃ m, w' = w.drewN m := by
  by_cases c : dp < 0 ∨ (nd : Int) ≤ dp
  · exact sru_out g nd D dp tr w h c
  · obtain ⟨p, rfl⟩ : ∃ p : Nat, dp = p := ⟨dp.toNat, by omega⟩
    by_cases c5 : D p = 53 ∧ p + 1 = nd
    · exact sru_5 g nd p D tr w h hN.ok hN.le c5.2 c5.1
    · exact sru_no5 g nd p D tr w h hN.le (by omega) c5
theorem ri_num {D : Nat → Int} {nd r : Nat} (hok : OkDig D nd) : Pz D nd r < 10 ^ r := by
  rcases Nat.le_total r nd with h | h
  · rw [pz_le h]; exact dv_lt (hok.mono h)
  · rw [pz_ge h]
    have := Nat.mul_lt_mul_of_pos_right (dv_lt hok) (p10 (r - nd))
    rw [← Nat.pow_add, show nd + (r - nd) = r by omega] at this
    exact this
theorem ri_small {n r : Nat} (h : n < 10 ^ r) (hr : r ≤ 17) : n < 100000000000000000 := by
  have := Nat.pow_le_pow_right (show 0 < 10 by omega) hr
  have e : (10 : Nat) ^ 17 = 100000000000000000 := by decide
  omega
set_option maxHeartbeats 800000 in
set_option maxRecDepth 100000 in
theorem ri_any (g nd : Nat) (D : Nat → Int) (dp : Int) (tr : Bool) (w : World) (h : DecAt w g D nd dp tr) (hN : Norm D nd) (hdp : dp ≤ 17) (hdp1 : -100000 ≤ dp) (R : Nat) (hR : Hid (R = Pz D nd dp.toNat + (if sru D nd dp tr = true then 1 else 0))) :
    Calls Tryz.prog 292 #[.pointer (some ⟨g, 0, none⟩)] w fun e w' => e = .returned (.int .u64 R) ∧ ∃ m, w' = w.drewN m := by
  have H := hide h
  have HN := hide hN
  have c0 := h.nd
  have c9 := h.dp
  have f0 := h.fr
  have hle' : nd ≤ 800 := hN.le
  have S := fun (m : Nat) => sru_any g nd D dp tr (w.drewN m) (h.drewN m) hN
  have HS := hide S
  clear h hN S
  go_enter Tryz.func292, Tryz.ntmps292
  go_wp2
  go_loop [3, 4] (fun iv nv => ∃ (r n : Nat), iv = .int .i64 r ∧ nv = .int .u64 n ∧ Hid (n = Pz D nd r) ∧ r ≤ dp.toNat ∧ r ≤ nd) (fun iv _ => nd - (intOf iv).toNat)
  case atStart => exact ⟨0, 0, rfl, rfl, hide (by rw [pz_le (Nat.zero_le _)]; rfl), Nat.zero_le _, Nat.zero_le _⟩
  case round =>
    obtain ⟨r, n, rfl, rfl, Hn, hr, hrn⟩ := hrel
    by_cases hc : (r : Int) < dp ∧ r < nd
    · obtain ⟨hc1, hc2⟩ := hc
      have cR := H.out.dig r (by omega)
      obtain ⟨hx1, hx2⟩ := HN.out.ok r hc2
      obtain ⟨m, hm⟩ : ∃ m, m = n * 10 + (D r - 48).toNat := ⟨_, rfl⟩
      have Hm : Hid (m = Pz D nd (r + 1)) := hide (by rw [hm, Hn.out, pz_lt hc2]; rfl)
      have hb1 : n < 100000000000000000 := ri_small (r := r) (by rw [Hn.out]; exact ri_num HN.out.ok) (by omega)
      have e0 : IntKind.u64.wrap ((n : Int) * 10) = (n : Int) * 10 := u64_id (by omega) (by omega)
      have e1 : IntKind.u64.wrap ((n : Int) * 10 + (D r - 48)) = (m : Int) := by rw [u64_id (by omega) (by omega)]; omega
      have hr8 : (r : Int) < 800 := by omega
      have hc3 : (r : Int) < nd := by omega
      clear hm
      go_wp2
      go_round
      case rel => exact ⟨r + 1, m, by go_num, rfl, Hm, by omega, by omega⟩
      case measure => simp [intOf]; omega
    · have HL : Hid ((r = dp.toNat ∨ nd ≤ r) ∧ r ≤ dp.toNat) := hide ⟨by omega, hr⟩
      by_cases hc1 : (r : Int) < dp
      · have hc2 : ¬ r < nd := fun hh => hc ⟨hc1, hh⟩
        have hc3 : (nd : Int) ≤ r := by omega
        clear hc
        go_wp2
        go_loop [3, 4] (fun iv nv => ∃ (r n : Nat), iv = .int .i64 r ∧ nv = .int .u64 n ∧ Hid (n = Pz D nd r) ∧ Hid ((r = dp.toNat ∨ nd ≤ r) ∧ r ≤ dp.toNat)) (fun iv _ => dp.toNat - (intOf iv).toNat)
        case atStart => exact ⟨r, n, rfl, rfl, Hn, HL⟩
        case round =>
          clear Hn HL
          obtain ⟨r, n, rfl, rfl, Hn, HL⟩ := hrel
          have hb1 : n < 100000000000000000 := ri_small (r := r) (by rw [Hn.out]; exact ri_num HN.out.ok) (by have := HL.out; omega)
          by_cases hc4 : (r : Int) < dp
          · have hnr : nd ≤ r := by have := HL.out; omega
            obtain ⟨m, hm⟩ : ∃ m, m = n * 10 := ⟨_, rfl⟩
            have Hm : Hid (m = Pz D nd (r + 1)) := hide (by rw [hm, Hn.out, pz_out hnr, Nat.add_zero])
            have e0 : IntKind.u64.wrap ((n : Int) * 10) = (m : Int) := by rw [u64_id (by omega) (by omega)]; omega
            clear hm
            go_wp2
            go_round
            case rel => exact ⟨r + 1, m, by go_num, rfl, Hm, hide (by omega)⟩
            case measure => simp [intOf]; omega
          · have HR : Hid (R = n + (if sru D nd dp tr = true then 1 else 0)) := hide (by
              have e : r = dp.toNat := by have := HL.out; omega
              rw [hR.out, Hn.out, e])
            go_wp2_with fail
            refine (HS.out 0).mono ?_
            rintro e w' ⟨rfl, q, rfl⟩
            cases hs : sru D nd dp tr with
            | true =>
              have Hs := hide hs
              clear hs
              have e2 : IntKind.u64.wrap ((n : Int) + 1) = (R : Int) := by
                have h1 := HR.out
                rw [Hs.out, if_pos rfl] at h1
                rw [u64_id (by omega) (by omega), h1]; omega
              go_wp2
              go_ret
              exact ⟨rfl, _, rfl⟩
            | false =>
              have Hs := hide hs
              clear hs
              have e2 : (n : Int) = (R : Int) := by
                have h1 := HR.out
                rw [Hs.out] at h1
                simp at h1
                omega
              have E2 := hide e2
              clear e2
              go_wp2
              go_ret
              refine ⟨?_, _, rfl⟩
              rw [← E2.out]
              rfl
      · clear hc
        go_wp2
        go_loop [3, 4] (fun iv nv => ∃ (r n : Nat), iv = .int .i64 r ∧ nv = .int .u64 n ∧ Hid (n = Pz D nd r) ∧ Hid (r = dp.toNat)) (fun iv _ => dp.toNat - (intOf iv).toNat)
        case atStart => exact ⟨r, n, rfl, rfl, Hn, hide (by have := HL.out; omega)⟩
        case round =>
          clear Hn HL
          obtain ⟨r, n, rfl, rfl, Hn, HL⟩ := hrel
          have hb1 : n < 100000000000000000 := ri_small (r := r) (by rw [Hn.out]; exact ri_num HN.out.ok) (by have := HL.out; omega)
          by_cases hc4 : (r : Int) < dp
          · exfalso; have := HL.out; omega
          · have HR : Hid (R = n + (if sru D nd dp tr = true then 1 else 0)) := hide (by
              have e : r = dp.toNat := by have := HL.out; omega
              rw [hR.out, Hn.out, e])
            go_wp2_with fail
            refine (HS.out 0).mono ?_
            rintro e w' ⟨rfl, q, rfl⟩
            cases hs : sru D nd dp tr with
            | true =>
              have Hs := hide hs
              clear hs
              have e2 : IntKind.u64.wrap ((n : Int) + 1) = (R : Int) := by
                have h1 := HR.out
                rw [Hs.out, if_pos rfl] at h1
                rw [u64_id (by omega) (by omega), h1]; omega
              go_wp2
              go_ret
              exact ⟨rfl, _, rfl⟩
            | false =>
              have Hs := hide hs
              clear hs
              have e2 : (n : Int) = (R : Int) := by
                have h1 := HR.out
                rw [Hs.out] at h1
                simp at h1
                omega
              have E2 := hide e2
              clear e2
              go_wp2
              go_ret
              refine ⟨?_, _, rfl⟩
              rw [← E2.out]
              rfl
end Go.Proofs.YtmndipnifjpdjaaGreatDoor
namespace Go.Proofs.YtmndipnifjpdjaaGreatDoor
open Go Go.RowKit
set_option linter.unusedVariables false
structure Kind1 (sm : Bool) (n d e0 b : Nat) : Prop where
  hn : 0 < n
  hd : 0 < d
  up : n < d * 10 ^ b
  lo : ∃ y, y = 331 ∧ d ≤ n * 10 ^ y
  yes : sm = true → d = 10 ^ e0 ∧ e0 ≤ 430 ∧ n < 10 ^ 100 ∧ b = 200
  no : sm = false → d = 1 ∧ b = 310
def QQ (sm : Bool) (j : Nat) : Nat := if sm = true then 600 else 400 - j
theorem ten_two {y z : Nat} (h : y ≤ 3 * z) : 10 ^ y ≤ 2 ^ (10 * z) := by
  refine Nat.le_trans (Nat.pow_le_pow_right (by omega) h) ?_
  rw [Nat.pow_mul, Nat.pow_mul]
  exact Nat.pow_le_pow_left (by decide) z
theorem pow2_27 : (2 : Nat) ^ 27 ≤ 10 ^ 9 := by decide
theorem p2 (n : Nat) : 0 < 2 ^ n := Nat.pow_pos (by omega)
theorem pow2_lt {a b : Nat} (h : 2 ^ a < 2 ^ b) : a < b := by
  rcases Nat.lt_or_ge a b with g | g
  · exact g
  · have := Nat.pow_le_pow_right (show 0 < 2 by omega) g; omega
structure L1 (sm : Bool) (n d e0 b i : Nat) (D : Nat → Int) (nd : Nat) (dp : Int) (tr : Bool) : Prop where
  k : Kind1 sm n d e0 b
  fb : FB n (d * 2 ^ i) (QQ sm 0) D nd dp tr
  st : i = 0 ∨ d * 2 ^ i ≤ n * 2 ^ 27
theorem qq_b {sm : Bool} {n d e0 b : Nat} (k : Kind1 sm n d e0 b) (j : Nat) : b + QQ sm j ≤ 800 ∧ 9 ≤ QQ sm 0 := by
  unfold QQ
  cases sm with
  | true => have := k.yes rfl; simp; omega
  | false => have := k.no rfl; simp; omega
theorem L1.ge {sm : Bool} {n d e0 b i nd : Nat} {D : Nat → Int} {dp : Int} {tr : Bool} (h : L1 sm n d e0 b i D nd dp tr) (hdp : 0 < dp) : d * 2 ^ i ≤ n := by
  have := h.fb.great (b := 0) (by omega)
  rwa [Nat.pow_zero, Nat.mul_one] at this
theorem L1.may {sm : Bool} {n d e0 b i nd m : Nat} {D : Nat → Int} {dp : Int} {tr : Bool} (h : L1 sm n d e0 b i D nd dp tr) (hdp : 0 < dp) (hm : m ≤ 27) :
    n < d * 2 ^ i * 10 ^ b ∧ b + QQ sm 0 ≤ 800 ∧ d * 2 ^ i * 2 ^ m ≤ n * 10 ^ QQ sm 0 ∧ d * 2 ^ (i + m) ≤ n * 2 ^ 27 := by
  have hg := h.ge hdp
  have hq := qq_b h.k 0
  have hm2 : 2 ^ m ≤ 2 ^ 27 := Nat.pow_le_pow_right (by omega) hm
  refine ⟨?_, hq.1, ?_, ?_⟩
  · have h1 := h.k.up
    have h2 : d * 1 ≤ d * 2 ^ i := Nat.mul_le_mul_left _ (p2 i)
    have h3 := Nat.mul_le_mul_right (10 ^ b) h2
    rw [Nat.mul_one] at h3
    omega
  · refine Nat.mul_le_mul hg (Nat.le_trans hm2 (Nat.le_trans pow2_27 (Nat.pow_le_pow_right (by omega) hq.2)))
  · rw [Nat.pow_add, ← Nat.mul_assoc]; exact Nat.mul_le_mul hg hm2
theorem L1.next {sm : Bool} {n d e0 b i nd m nd' : Nat} {D D' : Nat → Int} {dp dp' : Int} {tr tr' : Bool} (h : L1 sm n d e0 b i D nd dp tr) (hdp : 0 < dp) (hm : m ≤ 27) (hF : FB n (d * 2 ^ i * 2 ^ m) (QQ sm 0) D' nd' dp' tr') :
    L1 sm n d e0 b (i + m) D' nd' dp' tr' := by
  refine ⟨h.k, ?_, .inr (h.may hdp hm).2.2.2⟩
  rw [Nat.mul_assoc, ← Nat.pow_add] at hF
  exact hF
theorem L1.meas {sm : Bool} {n d e0 b i nd m : Nat} {D : Nat → Int} {dp : Int} {tr : Bool} (h : L1 sm n d e0 b i D nd dp tr) (hdp : 0 < dp) (hm : 1 ≤ m) : n / (d * 2 ^ (i + m)) < n / (d * 2 ^ i) := by
  have hg := h.ge hdp
  have hp : 0 < d * 2 ^ i := Nat.mul_pos h.k.hd (p2 i)
  have h1 : 1 ≤ n / (d * 2 ^ i) := (Nat.one_le_div_iff hp).2 hg
  rw [Nat.pow_add, ← Nat.mul_assoc, ← Nat.div_div_eq_div_mul]
  have h2 : 2 ^ 1 ≤ 2 ^ m := Nat.pow_le_pow_right (by omega) hm
  exact Nat.div_lt_self (by omega) (by omega)
structure L2 (sm : Bool) (n d e0 b i j : Nat) (D : Nat → Int) (nd : Nat) (dp : Int) (tr : Bool) : Prop where
  k : Kind1 sm n d e0 b
  fb : FB (n * 2 ^ j) (d * 2 ^ i) (QQ sm j) D nd dp tr
  lt : n * 2 ^ j < d * 2 ^ i
  st : (i = 0 ∧ sm = true) ∨ (d * 2 ^ i ≤ n * 2 ^ 27)
theorem L1.exit {sm : Bool} {n d e0 b i nd : Nat} {D : Nat → Int} {dp : Int} {tr : Bool} (h : L1 sm n d e0 b i D nd dp tr) (hdp : dp ≤ 0) : L2 sm n d e0 b i 0 D nd dp tr := by
  have hlt : n < d * 2 ^ i := by
    have := h.fb.small (a := 0) (Nat.zero_le _) (by omega)
    rwa [Nat.pow_zero, Nat.mul_one] at this
  refine ⟨h.k, by rw [Nat.pow_zero, Nat.mul_one]; exact h.fb, by rw [Nat.pow_zero, Nat.mul_one]; exact hlt, ?_⟩
  rcases h.st with h0 | h0
  · left
    refine ⟨h0, ?_⟩
    cases hs : sm with
    | true => rfl
    | false =>
      have h1 := (h.k.no hs).1
      have h2 := h.k.hn
      rw [h0, h1] at hlt
      simp at hlt
      omega
  · right; exact h0
theorem L2.jle {sm : Bool} {n d e0 b i j nd : Nat} {D : Nat → Int} {dp : Int} {tr : Bool} (h : L2 sm n d e0 b i j D nd dp tr) : j < 1110 + i ∧ ((i = 0 ∧ sm = true) ∨ j < 27) := by
  have hlt := h.lt
  obtain ⟨y, hy, hlo⟩ := h.k.lo
  have hn := h.k.hn
  constructor
  · have h1 : n * 2 ^ j < n * 10 ^ y * 2 ^ i := Nat.lt_of_lt_of_le hlt (Nat.mul_le_mul_right _ hlo)
    obtain ⟨z, hz⟩ : ∃ z, z = 111 := ⟨_, rfl⟩
    have h2 : n * 2 ^ j < n * (2 ^ (10 * z) * 2 ^ i) := by
      refine Nat.lt_of_lt_of_le h1 ?_
      rw [Nat.mul_assoc]
      exact Nat.mul_le_mul_left _ (Nat.mul_le_mul_right _ (ten_two (by omega)))
    rw [← Nat.pow_add] at h2
    have := pow2_lt (Nat.lt_of_mul_lt_mul_left h2)
    omega
  · rcases h.st with g | g
    · left; exact g
    · right
      exact pow2_lt (Nat.lt_of_mul_lt_mul_left (Nat.lt_of_lt_of_le hlt g))
theorem e0_i {sm : Bool} {n d e0 b i : Nat} (k : Kind1 sm n d e0 b) (hs : sm = true) (st : (i = 0 ∧ sm = true) ∨ (d * 2 ^ i ≤ n * 2 ^ 27)) : (i = 0 ∧ e0 ≤ 430) ∨ e0 + i ≤ 500 := by
  obtain ⟨h1, h2, h3, _⟩ := k.yes hs
  rcases st with g | g
  · left; exact ⟨g.1, h2⟩
  · right
    have h4 : 10 ^ e0 * 2 ^ i < 10 ^ 100 * 2 ^ 27 := by
      rw [← h1]; exact Nat.lt_of_le_of_lt g (Nat.mul_lt_mul_of_pos_right h3 (p2 27))
    have h5 : 10 ^ e0 * 1 ≤ 10 ^ e0 * 2 ^ i := Nat.mul_le_mul_left _ (p2 i)
    have h6 : 1 * 2 ^ i ≤ 10 ^ e0 * 2 ^ i := Nat.mul_le_mul_right _ (p10 e0)
    have h7 : 10 ^ e0 < 10 ^ 109 := by
      have : (10 : Nat) ^ 100 * 2 ^ 27 ≤ 10 ^ 109 := by decide +kernel
      omega
    obtain ⟨z, hz⟩ : ∃ z, z = 34 := ⟨_, rfl⟩
    have h8 : 2 ^ i < 2 ^ (10 * z + 27) := by
      have : (10 : Nat) ^ 100 * 2 ^ 27 ≤ 2 ^ (10 * z + 27) := by rw [Nat.pow_add]; exact Nat.mul_le_mul_right _ (ten_two (by omega))
      omega
    have := pow10_lt h7
    have := pow2_lt h8
    omega
theorem dvd_small {n d e0 i Q : Nat} (hd : d = 10 ^ e0) (h : e0 + i ≤ Q) : d * 2 ^ i ∣ n * 10 ^ Q := by
  rw [hd]
  have h1 : 2 ^ i ∣ 10 ^ i := ⟨5 ^ i, by rw [← Nat.mul_pow]⟩
  have h2 : 10 ^ e0 * 2 ^ i ∣ 10 ^ (e0 + i) := by rw [Nat.pow_add]; exact Nat.mul_dvd_mul_left _ h1
  exact Nat.dvd_mul_left_of_dvd (Nat.dvd_trans h2 (Nat.pow_dvd_pow 10 h)) n
theorem L2.may {sm : Bool} {n d e0 b i j nd m : Nat} {D : Nat → Int} {dp : Int} {tr : Bool} (h : L2 sm n d e0 b i j D nd dp tr) (hm : m ≤ 27) (hA : n * 2 ^ j * 2 ^ m < d * 2 ^ i) :
    (QQ sm (j + m) + m ≤ QQ sm j ∨ (d * 2 ^ i ∣ n * 2 ^ j * 10 ^ QQ sm j ∧ QQ sm (j + m) = QQ sm j)) ∧ n * 2 ^ j * 2 ^ m < d * 2 ^ i * 10 ^ 0 ∧ 0 + QQ sm (j + m) ≤ 800 ∧ d * 2 ^ i ≤ n * 2 ^ j * 2 ^ m * 10 ^ QQ sm (j + m) := by
  have hj := h.jle
  refine ⟨?_, by rw [Nat.pow_zero, Nat.mul_one]; exact hA, ?_, ?_⟩
  · cases hs : sm with
    | true =>
      right
      have he := e0_i h.k hs h.st
      have q1 : QQ true j = 600 := by unfold QQ; rw [if_pos rfl]
      have q2 : QQ true (j + m) = 600 := by unfold QQ; rw [if_pos rfl]
      exact ⟨dvd_small (h.k.yes hs).1 (by omega), q2.trans q1.symm⟩
    | false =>
      left
      unfold QQ
      have : j < 27 := by
        rcases hj.2 with g | g
        · exact absurd (hs.symm.trans g.2) (by decide)
        · exact g
      simp
      omega
  · unfold QQ; split <;> omega
  · have h1 : n * 1 ≤ n * (2 ^ j * 2 ^ m) := Nat.mul_le_mul_left _ (Nat.mul_pos (p2 j) (p2 m))
    rw [Nat.mul_one, ← Nat.mul_assoc] at h1
    rcases h.st with g | g
    · have hq : QQ sm (j + m) = 600 := by unfold QQ; rw [if_pos g.2]
      rw [g.1, Nat.pow_zero, Nat.mul_one]
      obtain ⟨y, hy, hlo⟩ := h.k.lo
      refine Nat.le_trans hlo (Nat.mul_le_mul h1 (Nat.pow_le_pow_right (by omega) (by omega)))
    · have hq : 9 ≤ QQ sm (j + m) := by
        unfold QQ
        split
        · omega
        · rename_i hs
          rcases hj.2 with g | g
          · exact absurd g.2 hs
          · omega
      refine Nat.le_trans g (Nat.mul_le_mul h1 (Nat.le_trans pow2_27 (Nat.pow_le_pow_right (by omega) hq)))
theorem L2.next {sm : Bool} {n d e0 b i j nd m nd' : Nat} {D D' : Nat → Int} {dp dp' : Int} {tr tr' : Bool} (h : L2 sm n d e0 b i j D nd dp tr) (hA : n * 2 ^ j * 2 ^ m < d * 2 ^ i) (hF : FB (n * 2 ^ j * 2 ^ m) (d * 2 ^ i) (QQ sm (j + m)) D' nd' dp' tr') :
    L2 sm n d e0 b i (j + m) D' nd' dp' tr' := by
  rw [Nat.mul_assoc, ← Nat.pow_add] at hF hA
  exact ⟨h.k, hF, hA, h.st⟩
theorem qq1 {sm : Bool} {n d e0 b i j nd : Nat} {D : Nat → Int} {dp : Int} {tr : Bool} (h : L2 sm n d e0 b i j D nd dp tr) : 60 ≤ QQ sm j := by
  have hj := h.jle
  unfold QQ
  split
  · omega
  · rename_i hs
    rcases hj.2 with g | g
    · exact absurd g.2 hs
    · omega
theorem L2.dbl {sm : Bool} {n d e0 b i j nd a m : Nat} {D : Nat → Int} {dp : Int} {tr : Bool} (h : L2 sm n d e0 b i j D nd dp tr) (ha : a ≤ 9) (hd : dp ≤ -(a : Int)) (hm : 2 ^ m ≤ 10 ^ a) : n * 2 ^ j * 2 ^ m < d * 2 ^ i := by
  have hq := qq1 h
  have h1 := h.fb.small (a := a) (by omega) hd
  exact Nat.lt_of_le_of_lt (Nat.mul_le_mul_left _ hm) h1
theorem L2.dbl0 {sm : Bool} {n d e0 b i j nd : Nat} {D : Nat → Int} {tr : Bool} (h : L2 sm n d e0 b i j D nd 0 tr) (h5 : D 0 < 53) : n * 2 ^ j * 2 ^ 1 < d * 2 ^ i := by
  have hq := qq1 h
  exact h.fb.lthalf (by omega) h5
theorem L1.ile {sm : Bool} {n d e0 b i nd : Nat} {D : Nat → Int} {dp : Int} {tr : Bool} (h : L1 sm n d e0 b i D nd dp tr) (hdp : 0 < dp) : i < 1050 := by
  have hg := h.ge hdp
  have hb : b ≤ 310 := by
    cases hs : sm with
    | true => have := h.k.yes hs; omega
    | false => have := h.k.no hs; omega
  obtain ⟨z, hz⟩ : ∃ z, z = 104 := ⟨_, rfl⟩
  have h1 : d * 2 ^ i < d * 2 ^ (10 * z) := Nat.lt_of_le_of_lt hg (Nat.lt_of_lt_of_le h.k.up (Nat.mul_le_mul_left _ (ten_two (by omega))))
  have := pow2_lt (Nat.lt_of_mul_lt_mul_left h1)
  omega
end Go.Proofs.YtmndipnifjpdjaaGreatDoor
namespace Go.Proofs.YtmndipnifjpdjaaGreatDoor
open Go Go.RowKit
set_option linter.unusedVariables false
def fwd (P : Program) (r0 r1 : Code) (Q : Exit → Act → World → Prop) : Exit → Act → World → Prop
  | .goto 0, a, w => r0.wp P (Exit.noGoto Q) a w
  | .goto 1, a, w => r1.wp P (Exit.noGoto Q) a w
  | .goto (_ + 2), _, _ => False
  | .normal, a, w => Q .normal a w
  | .exit id, a, w => Q (.exit id) a w
  | .ret, a, w => Q .ret a w
  | .panic ch, a, w => Q (.panic ch) a w
  | .outgrown, a, w => Q .outgrown a w
section
variable {P : Program} {a : Act} {w : World} {Q : Exit → Act → World → Prop}
theorem wp_scope_fwd {c r0 r1 : Code} (h0 : findLabel c 0 = some r0) (h1 : findLabel c 1 = some r1) (first : c.wp P (fwd P r0 r1 Q) a w) : (Code.scope c).wp P Q a w := by
  intro b k cs
  have key : ∀ (l : Nat) (r : Code) (a₁ : Act) (w₁ : World), findLabel c l = some r → r.wp P (Exit.noGoto Q) a₁ w₁ →
      (∀ k', gotoIn l (.inScope c :: k) = some k' → Steps P (lone (b.at a (.code (.scope c) :: k)) cs w) (lone (b.at a₁ k') cs w₁)) → ∃ e a' w', Q e a' w' ∧ Arrives P (lone (b.at a (.code (.scope c) :: k)) cs w) b k cs e a' w' := by
    intro l r a₁ w₁ hl hr hs
    have hg : gotoIn l (.inScope c :: k) = some (.code r :: .inScope c :: k) := by simp [gotoIn, hl]
    obtain ⟨e, a₂, w₂, hq, harr⟩ := hr b (.inScope c :: k) cs
    have hs' := hs _ hg
    cases e with
    | normal => exact ⟨.normal, a₂, w₂, hq, Steps.trans hs' (Steps.trans harr (.one step_inScope))⟩
    | exit id => exact ⟨.exit id, a₂, w₂, hq, fun k' hk => Steps.trans hs' (harr k' (by simp [exitTo, hk]))⟩
    | goto l' => exact hq.elim
    | ret => exact ⟨_, a₂, w₂, hq, .of_steps hs' harr⟩
    | panic ch => exact ⟨_, a₂, w₂, hq, .of_steps hs' harr⟩
    | outgrown => exact ⟨_, a₂, w₂, hq, .of_steps hs' harr⟩
  obtain ⟨e, a₁, w₁, hq, harr⟩ := first b (.inScope c :: k) cs
  cases e with
  | normal => exact ⟨.normal, a₁, w₁, hq, .head step_scope (Steps.trans harr (.one step_inScope))⟩
  | exit id => exact ⟨.exit id, a₁, w₁, hq, fun k' hk => .head step_scope (harr k' (by simp [exitTo, hk]))⟩
  | goto l =>
    match l, hq, harr with
    | 0, hq, harr => exact key 0 r0 a₁ w₁ h0 hq (fun k' hk => .head step_scope (harr k' hk))
    | 1, hq, harr => exact key 1 r1 a₁ w₁ h1 hq (fun k' hk => .head step_scope (harr k' hk))
    | l + 2, hq, harr => exact hq.elim
  | ret => exact ⟨_, a₁, w₁, hq, .of_steps (.one step_scope) harr⟩
  | panic ch => exact ⟨_, a₁, w₁, hq, .of_steps (.one step_scope) harr⟩
  | outgrown => exact ⟨_, a₁, w₁, hq, .of_steps (.one step_scope) harr⟩
end
theorem fwd_0 {P : Program} {r0 r1 : Code} {Q : Exit → Act → World → Prop} {a : Act} {w : World} : fwd P r0 r1 Q (.goto 0) a w = r0.wp P (Exit.noGoto Q) a w := rfl
theorem fwd_1 {P : Program} {r0 r1 : Code} {Q : Exit → Act → World → Prop} {a : Act} {w : World} : fwd P r0 r1 Q (.goto 1) a w = r1.wp P (Exit.noGoto Q) a w := rfl
theorem then_goto {K : Act → World → Prop} {Q : Exit → Act → World → Prop} {l : Nat} {a : Act} {w : World} : Exit.then K Q (.goto l) a w = Q (.goto l) a w := rfl
def powRow : List Nat := [1, 3, 6, 9, 13, 16, 19, 23, 26]
theorem powRow_ok {a : Nat} (h : a < 9) : 1 ≤ powRow.getD a 0 ∧ powRow.getD a 0 ≤ 26 ∧ (1 ≤ a → 2 ^ powRow.getD a 0 ≤ 10 ^ a) := by
  have : ∀ a : Fin 9, 1 ≤ powRow.getD a 0 ∧ powRow.getD a 0 ≤ 26 ∧ (1 ≤ a.val → 2 ^ powRow.getD a 0 ≤ 10 ^ a.val) := by decide +kernel
  exact this ⟨a, h⟩
structure FInfo (w : World) (g P po G o : Nat) : Prop where
  g12 : 18 < g
  hP : P < g
  hG : G < g
  mant : w.cell? ⟨13, 0, none⟩ = some (.int .u64 52)
  expb : w.cell? ⟨13, 1, none⟩ = some (.int .u64 11)
  bias : w.cell? ⟨13, 2, none⟩ = some (.int .i64 (-1023))
  slice : w.cell? ⟨17, 0, none⟩ = some (.slice (some ⟨P, po, none⟩) 9 9)
  tab : ∀ k, k < 9 → w.cell? ⟨P, po + k, none⟩ = some (.int .i64 (powRow.getD k 0 : Nat))
  cheats : Cheats w G o
theorem FInfo.below {w w' : World} {g P po G o : Nat} (h : FInfo w g P po G o) (hb : Below g w w') : FInfo w' g P po G o := by
  have h12 := h.g12
  exact ⟨h.g12, h.hP, h.hG, (hb.cell (by show 13 < g; omega)).trans h.mant, (hb.cell (by show 13 < g; omega)).trans h.expb, (hb.cell (by show 13 < g; omega)).trans h.bias, (hb.cell (by show 17 < g; omega)).trans h.slice,
    fun k hk => (hb.cell h.hP).trans (h.tab k hk), h.cheats.below hb h.g12 h.hG⟩
def FBits (n d g : Nat) (w : World) (e : Ending) (w' : World) : Prop :=
  ∃ W : Nat, e = .returned (.tuple #[.int .u64 W, .bool (decide (W = infW))]) ∧ IsRnd (n * 2 ^ 1074) d W ∧ Below g w w'
def ShL1 (sm : Bool) (n d e0 b i g : Nat) (w : World) (e : Ending) (w' : World) : Prop :=
  e = .returned (.tuple #[]) ∧ ∃ D nd dp tr, DecAt w' g D (nd : Nat) dp tr ∧ L1 sm n d e0 b i D nd dp tr ∧ Below g w w'
theorem L1.shift {sm : Bool} {n d e0 b i nd m g : Nat} {D : Nat → Int} {dp : Int} {tr : Bool} {w : World} (h : L1 sm n d e0 b i D nd dp tr) (hd : DecAt w g D nd dp tr) (hdp : 0 < dp) (hm1 : 1 ≤ m) (hm : m ≤ 27) (z : Int) (hz : z = -(m : Int)) :
    Calls Tryz.prog 247 #[.pointer (some ⟨g, 0, none⟩), .int .i64 z] w fun e w' => ShL1 sm n d e0 b (i + m) g w e w' := by
  obtain ⟨m1, m2, m3, m4⟩ := h.may hdp hm
  refine (shiftR hd h.fb hm1 (by omega) m1 m2 m3 z hz).mono ?_
  rintro e w' ⟨rfl, D', nd', dp', tr', a1, a2, a3, a4⟩
  exact ⟨rfl, D', nd', dp', tr', a1, h.next hdp hm a2, a4⟩
def ShL2 (sm : Bool) (n d e0 b i j g : Nat) (w : World) (e : Ending) (w' : World) : Prop :=
  e = .returned (.tuple #[]) ∧ ∃ D nd dp tr, DecAt w' g D (nd : Nat) dp tr ∧ L2 sm n d e0 b i j D nd dp tr ∧ Below g w w'
theorem L2.shift {sm : Bool} {n d e0 b i j nd m g G o : Nat} {D : Nat → Int} {dp : Int} {tr : Bool} {w : World} (h : L2 sm n d e0 b i j D nd dp tr) (hd : DecAt w g D nd dp tr) (hC : Cheats w G o) (hm1 : 1 ≤ m) (hm : m ≤ 27) (hA : n * 2 ^ j * 2 ^ m < d * 2 ^ i) :
    Calls Tryz.prog 247 #[.pointer (some ⟨g, 0, none⟩), .int .i64 m] w fun e w' => ShL2 sm n d e0 b i (j + m) g w e w' := by
  obtain ⟨m1, m2, m3, m4⟩ := h.may hm hA
  refine (shiftL hd hC h.fb hm1 (by omega) m1 m2 m3 m4).mono ?_
  rintro e w' ⟨rfl, D', nd', dp', tr', a1, a2, a3, a4⟩
  exact ⟨rfl, D', nd', dp', tr', a1, h.next hA a2, a4⟩
end Go.Proofs.YtmndipnifjpdjaaGreatDoor
namespace Go.Proofs.YtmndipnifjpdjaaGreatDoor
open Go Go.RowKit
set_option linter.unusedVariables false
theorem i64_and2047 (n : Int) : bits .and .i64 n 2047 = n % 2048 := by
  have h127 : (BitVec.ofInt 64 2047).toNat = 2 ^ 11 - 1 := by decide
  have key : (BitVec.ofInt 64 n &&& BitVec.ofInt 64 2047).toNat = (n % ((2 ^ 64 : Nat) : Int)).toNat % 2 ^ 11 := by
    rw [BitVec.toNat_and, BitVec.toNat_ofInt, h127, Nat.and_two_pow_sub_one_eq_mod]
  show IntKind.i64.wrap ((BitVec.ofInt 64 n &&& BitVec.ofInt 64 2047).toNat : Nat) = n % 2048
  rw [key, IntKind.wrap_i64]
  omega
theorem and52m {m : Nat} (h : m < 18446744073709551616) : bits .and .u64 (m : Int) 4503599627370495 = ((m % 4503599627370496 : Nat) : Int) := by
  have := u64_and_nat m 4503599627370495 h (by omega)
  rw [show (4503599627370495 : Nat) = 2 ^ 52 - 1 from rfl, Nat.and_two_pow_sub_one_eq_mod] at this
  exact this
theorem fb_word {m y W : Nat} {x z : Int} (hm : m < 18446744073709551616) (hx : x = (m : Int)) (hz : z = (y : Int)) (hy : y < 2048) (hW : W = y * 4503599627370496 + m % 4503599627370496) :
    bits .or .u64 (bits .and .u64 x 4503599627370495) (IntKind.u64.wrap (IntKind.u64.wrap (bits .and .i64 z 2047) * 4503599627370496)) = (W : Int) := by
  subst hx; subst hz
  rw [and52m hm, i64_and2047, show ((y : Int) % 2048) = (y : Int) by omega, u64_id (x := (y : Int)) (by omega) (by omega), u64_id (x := (y : Int) * 4503599627370496) (by omega) (by omega)]
  rw [or52 (Nat.mod_lt _ (by omega)) hy, hW]
theorem rqGe {A B c : Nat} (hB : 0 < B) (h : B * c ≤ A) : c ≤ rq A B := by
  unfold rq
  have : c ≤ A / B := (Nat.le_div_iff_mul_le hB).2 (by rw [Nat.mul_comm]; exact h)
  omega
theorem rqLe {A B c : Nat} (hB : 0 < B) (h : A < B * c) : rq A B ≤ c := by
  unfold rq
  have : A / B < c := (Nat.div_lt_iff_lt_mul hB).2 (by rw [Nat.mul_comm]; exact h)
  split <;> omega
theorem twice53 (y : Nat) : 2 * y * 2 ^ 52 = y * 2 ^ 53 := by
  have e : (2 : Nat) ^ 53 = 2 * 2 ^ 52 := by decide
  rw [e, Nat.mul_comm 2 y, Nat.mul_assoc]
theorem two_m (x y : Nat) : 2 * x * y = x * (2 * y) := by rw [Nat.mul_comm 2 x, Nat.mul_assoc]
theorem pow52 : (2 : Nat) ^ 52 = 4503599627370496 := rfl
theorem pow53 : (2 : Nat) ^ 53 = 9007199254740992 := rfl
structure L3 (sm : Bool) (n d e0 b i j : Nat) (D : Nat → Int) (nd : Nat) (tr : Bool) : Prop where
  l2 : L2 sm n d e0 b i j D nd 0 tr
  half : d * 2 ^ i ≤ 2 * (n * 2 ^ j)
theorem L3.b0 {sm : Bool} {n d e0 b i j nd : Nat} {D : Nat → Int} {tr : Bool} (h : L3 sm n d e0 b i j D nd tr) : 0 < d * 2 ^ i := Nat.mul_pos h.l2.k.hd (p2 i)
theorem L3.may53 {sm : Bool} {n d e0 b i j nd : Nat} {D : Nat → Int} {tr : Bool} (h : L3 sm n d e0 b i j D nd tr) :
    (QQ sm (j + 53) + 53 ≤ QQ sm j ∨ (d * 2 ^ i ∣ n * 2 ^ j * 10 ^ QQ sm j ∧ QQ sm (j + 53) = QQ sm j)) ∧ n * 2 ^ j * 2 ^ 53 < d * 2 ^ i * 10 ^ 16 ∧ 16 + QQ sm (j + 53) ≤ 800 ∧ d * 2 ^ i ≤ n * 2 ^ j * 2 ^ 53 * 10 ^ QQ sm (j + 53) ∧ 1 ≤ QQ sm (j + 53) := by
  have hj := h.l2.jle
  have hlt := h.l2.lt
  have hh := h.half
  refine ⟨?_, ?_, ?_, ?_, ?_⟩
  · cases hs : sm with
    | true =>
      right
      have he := e0_i h.l2.k hs h.l2.st
      have q1 : QQ true j = 600 := by unfold QQ; rw [if_pos rfl]
      have q2 : QQ true (j + 53) = 600 := by unfold QQ; rw [if_pos rfl]
      exact ⟨dvd_small (h.l2.k.yes hs).1 (by omega), q2.trans q1.symm⟩
    | false =>
      left
      unfold QQ
      have : j < 27 := by
        rcases hj.2 with g | g
        · exact absurd (hs.symm.trans g.2) (by decide)
        · exact g
      simp
      omega
  · have h1 : (2 : Nat) ^ 53 ≤ 10 ^ 16 := by decide
    exact Nat.lt_of_lt_of_le (Nat.mul_lt_mul_of_pos_right hlt (p2 53)) (Nat.mul_le_mul_left _ h1)
  · unfold QQ; split <;> omega
  · have h1 : n * 2 ^ j * 2 ^ 1 ≤ n * 2 ^ j * (2 ^ 53 * 10 ^ QQ sm (j + 53)) := Nat.mul_le_mul_left _ (Nat.le_trans (Nat.pow_le_pow_right (by omega) (by omega)) (Nat.le_mul_of_pos_right _ (p10 _)))
    rw [Nat.mul_assoc]
    omega
  · unfold QQ
    split
    · omega
    · rename_i hs
      rcases hj.2 with g | g
      · exact absurd g.2 hs
      · omega
theorem L3.word {sm : Bool} {n d e0 b i j nd k R : Nat} {D : Nat → Int} {tr : Bool} (h : L3 sm n d e0 b i j D nd tr) (hk : k + (j + 53) = 1074 + i) (hR : R = rq (n * 2 ^ j * 2 ^ 53) (d * 2 ^ i)) :
    IsRnd (n * 2 ^ 1074) d (min (k * 4503599627370496 + R) infW) ∧ 4503599627370496 ≤ R ∧ R ≤ 9007199254740992 := by
  have e : n * 2 ^ j * 2 ^ 53 = n * 2 ^ (j + 53) := by rw [Nat.mul_assoc, ← Nat.pow_add]
  have h1 : n * 2 ^ (j + 53) < d * 2 ^ i * 2 ^ 53 := by rw [← e]; exact Nat.mul_lt_mul_of_pos_right h.l2.lt (p2 53)
  have h2 : d * 2 ^ i * 2 ^ 52 ≤ n * 2 ^ (j + 53) := by
    rw [← e]
    have := Nat.mul_le_mul_right (2 ^ 52) h.half
    exact Nat.le_trans this (Nat.le_of_eq (twice53 _))
  refine ⟨?_, ?_, ?_⟩
  · have := isRnd_of (n := n) (d := d) (i := i) (j := j + 53) (A := 1074) (B := 0) (k := k) (by omega) h1 (.inr h2)
    rw [Nat.pow_zero, Nat.mul_one] at this
    rw [hR, e]
    exact this
  · rw [hR, e, ← pow52]; exact rqGe h.b0 h2
  · rw [hR, e, ← pow53]; exact rqLe h.b0 h1
theorem L3.over {sm : Bool} {n d e0 b i j nd : Nat} {D : Nat → Int} {tr : Bool} (h : L3 sm n d e0 b i j D nd tr) (hx : 1024 ≤ (i : Int) - j - 1) : IsRnd (n * 2 ^ 1074) d infW := by
  obtain ⟨h1, h2, _⟩ := h.word (k := 1074 + i - (j + 53)) (by omega) rfl
  rw [Nat.min_eq_right (by unfold infW; omega)] at h1
  exact h1
theorem L3.tiny {sm : Bool} {n d e0 b i j nd m : Nat} {D : Nat → Int} {tr : Bool} (h : L3 sm n d e0 b i j D nd tr) (hm1 : 1 ≤ m) (hm : m + i + 1021 = j) :
    n * 2 ^ j < d * 2 ^ i * 10 ^ 0 ∧ 0 + QQ sm j ≤ 800 ∧ d * 2 ^ i * 2 ^ m ≤ n * 2 ^ j * 10 ^ QQ sm j ∧ QQ sm j = 600 ∧ m ≤ 90 ∧
      d * 2 ^ i * 2 ^ m ∣ n * 2 ^ j * 10 ^ QQ sm j ∧ n * 2 ^ j * 2 ^ 53 < d * 2 ^ i * 2 ^ m * 10 ^ 16 ∧ d * 2 ^ i * 2 ^ m ≤ n * 2 ^ j * 2 ^ 53 * 10 ^ QQ sm j := by
  have hj := h.l2.jle
  have hlt := h.l2.lt
  have hh := h.half
  have hs : i = 0 ∧ sm = true := by
    rcases hj.2 with g | g
    · exact g
    · omega
  have hq : QQ sm j = 600 := by unfold QQ; rw [if_pos hs.2]
  have hm90 : m ≤ 90 := by omega
  have hpow : 2 * 2 ^ m ≤ 10 ^ QQ sm j := by
    rw [Nat.mul_comm, ← Nat.pow_succ]
    exact Nat.le_trans (Nat.pow_le_pow_left (by omega) _) (Nat.pow_le_pow_right (by omega) (by omega))
  have hlo : d * 2 ^ i * 2 ^ m ≤ n * 2 ^ j * 10 ^ QQ sm j := by
    have h1 := Nat.mul_le_mul_right (2 ^ m) hh
    rw [two_m] at h1
    exact Nat.le_trans h1 (Nat.mul_le_mul_left _ hpow)
  refine ⟨by rw [Nat.pow_zero, Nat.mul_one]; exact hlt, by omega, hlo, hq, hm90, ?_, ?_, ?_⟩
  · rw [Nat.mul_assoc, ← Nat.pow_add]
    refine dvd_small (h.l2.k.yes hs.2).1 ?_
    have := (h.l2.k.yes hs.2).2.1
    omega
  · have h1 : (2 : Nat) ^ 53 ≤ 10 ^ 16 := by decide
    have h2 : d * 2 ^ i * 1 ≤ d * 2 ^ i * 2 ^ m := Nat.mul_le_mul_left _ (p2 m)
    rw [Nat.mul_one] at h2
    exact Nat.lt_of_lt_of_le (Nat.mul_lt_mul_of_pos_right hlt (p2 53)) (Nat.mul_le_mul h2 h1)
  · refine Nat.le_trans hlo ?_
    refine Nat.mul_le_mul_right _ (Nat.le_mul_of_pos_right _ (p2 53))
theorem L3.tword {sm : Bool} {n d e0 b i j nd m R : Nat} {D : Nat → Int} {tr : Bool} (h : L3 sm n d e0 b i j D nd tr) (hm1 : 1 ≤ m) (hm : m + i + 1021 = j) (hR : R = rq (n * 2 ^ j * 2 ^ 53) (d * 2 ^ i * 2 ^ m)) :
    IsRnd (n * 2 ^ 1074) d R ∧ R ≤ 4503599627370496 := by
  have e : n * 2 ^ j * 2 ^ 53 = n * 2 ^ (j + 53) := by rw [Nat.mul_assoc, ← Nat.pow_add]
  have e3 : d * 2 ^ i * 2 ^ m = d * 2 ^ (i + m) := by rw [Nat.mul_assoc, ← Nat.pow_add]
  have h0 : n * 2 ^ (j + 53) < d * 2 ^ (i + m) * 2 ^ 52 := by
    rw [← e, ← e3]
    refine Nat.lt_of_lt_of_le (Nat.mul_lt_mul_of_pos_right h.l2.lt (p2 53)) ?_
    rw [Nat.mul_assoc, Nat.mul_assoc, Nat.mul_assoc, ← Nat.pow_add, ← Nat.pow_add, ← Nat.pow_add]
    exact Nat.mul_le_mul_left _ (Nat.pow_le_pow_right (by omega) (by omega))
  have hle : R ≤ 4503599627370496 := by
    rw [hR, e, e3, ← pow52]; exact rqLe (Nat.mul_pos h.l2.k.hd (p2 _)) h0
  refine ⟨?_, hle⟩
  have h1 : n * 2 ^ (j + 53) < d * 2 ^ (i + m) * 2 ^ 53 := Nat.lt_of_lt_of_le h0 (Nat.mul_le_mul_left _ (Nat.pow_le_pow_right (by omega) (by omega)))
  have := isRnd_of (n := n) (d := d) (i := i + m) (j := j + 53) (A := 1074) (B := 0) (k := 0) (by omega) h1 (.inl rfl)
  rw [Nat.pow_zero, Nat.mul_one, ← e, ← e3, ← hR, Nat.zero_mul, Nat.zero_add, Nat.min_eq_left (by unfold infW; omega)] at this
  exact this
theorem fbits_no {n d g W V : Nat} {z : Int} {w w' : World} (e : z = (W : Int)) (hV : V = W) (hW : W < infW) (hr : IsRnd (n * 2 ^ 1074) d V) (hb : Below g w w') : FBits n d g w (.returned (.tuple #[.int .u64 z, .bool false])) w' := by
  refine ⟨W, ?_, hV ▸ hr, hb⟩
  rw [e, decide_eq_false (by omega)]
theorem fbits_yes {n d g W V : Nat} {z : Int} {w w' : World} (e : z = (W : Int)) (hV : V = W) (hW : W = infW) (hr : IsRnd (n * 2 ^ 1074) d V) (hb : Below g w w') : FBits n d g w (.returned (.tuple #[.int .u64 z, .bool true])) w' := by
  refine ⟨W, ?_, hV ▸ hr, hb⟩
  rw [e, decide_eq_true hW]
theorem infW_eq : infW = 9218868437227405312 := rfl
def wordI (x z : Int) : Int := bits .or .u64 (bits .and .u64 x 4503599627370495) (IntKind.u64.wrap (IntKind.u64.wrap (bits .and .i64 z 2047) * 4503599627370496))
theorem mod52 {R : Nat} (h1 : 4503599627370496 ≤ R) (h2 : R < 9007199254740992) : R % 4503599627370496 = R - 4503599627370496 := by
  rw [Nat.mod_eq_sub_mod h1, Nat.mod_eq_of_lt (by omega)]
theorem leaf_b3 {i j R k : Nat} (hx : -1022 ≤ (i : Int) - j - 1) (hov : (i : Int) - j - 1 < 1024) (r2 : 4503599627370496 ≤ R) (r3 : R < 9007199254740992) (hk : k = 1074 + i - (j + 53)) :
    wordI (R : Int) ((i : Int) - j - 1 + 1023) = ((k * 4503599627370496 + R : Nat) : Int) ∧ min (k * 4503599627370496 + R) infW = k * 4503599627370496 + R ∧ k * 4503599627370496 + R < infW := by
  have hI := infW_eq
  have hlt : k * 4503599627370496 + R < infW := by
    rw [hI]
    have : k ≤ 2045 := by omega
    have := Nat.mul_le_mul_right 4503599627370496 this
    omega
  refine ⟨fb_word (m := R) (y := k + 1) (by omega) rfl (by omega) (by omega) ?_, Nat.min_eq_left (Nat.le_of_lt hlt), hlt⟩
  rw [mod52 r2 r3, Nat.add_mul]
  omega
theorem leaf_b2 {i j k : Nat} (hx : -1022 ≤ (i : Int) - j - 1) (hov : (i : Int) - j - 1 < 1023) (hk : k = 1074 + i - (j + 53)) :
    wordI (4503599627370496 : Int) ((i : Int) - j + 1023) = ((k * 4503599627370496 + 9007199254740992 : Nat) : Int) ∧ min (k * 4503599627370496 + 9007199254740992) infW = k * 4503599627370496 + 9007199254740992 ∧ k * 4503599627370496 + 9007199254740992 < infW := by
  have hI := infW_eq
  have hlt : k * 4503599627370496 + 9007199254740992 < infW := by
    rw [hI]
    have : k ≤ 2044 := by omega
    have := Nat.mul_le_mul_right 4503599627370496 this
    omega
  refine ⟨fb_word (m := 4503599627370496) (y := k + 2) (by omega) rfl (by omega) (by omega) ?_, Nat.min_eq_left (Nat.le_of_lt hlt), hlt⟩
  rw [Nat.mod_self, Nat.add_mul]
theorem leaf_b1 {i j k R : Nat} (ho : 1023 ≤ (i : Int) - j - 1) (hk : k = 1074 + i - (j + 53)) (hR : R = 9007199254740992) : min (k * 4503599627370496 + R) infW = 9218868437227405312 := by
  have hI := infW_eq
  have : 2045 ≤ k := by omega
  have := Nat.mul_le_mul_right 4503599627370496 this
  rw [Nat.min_eq_right (by omega), hI]
theorem leaf_c1 {R : Nat} (h : R < 4503599627370496) : wordI (R : Int) 0 = (R : Int) ∧ R < infW := by
  have hI := infW_eq
  exact ⟨fb_word (m := R) (y := 0) (by omega) rfl rfl (by omega) (by rw [Nat.mod_eq_of_lt h, Nat.zero_mul, Nat.zero_add]), by omega⟩
theorem leaf_c2 : wordI (4503599627370496 : Int) 1 = ((4503599627370496 : Nat) : Int) ∧ 4503599627370496 < infW := by
  have hI := infW_eq
  exact ⟨fb_word (m := 4503599627370496) (y := 1) (by omega) rfl rfl (by omega) (by rw [Nat.mod_self]), by omega⟩
end Go.Proofs.YtmndipnifjpdjaaGreatDoor
