import Derived.Test.YtamdnnkdnhkghaaGreatDoorQ25
import Derived.Test.YtamdnnkdnhkghaaGreatDoorQ28
namespace Go.Proofs.YtamdnnkdnhkghaaGreatDoor
open Go Go.RowKit
set_option linter.unusedVariables false

/-- What 'shouldRoundUp' says. -/
def sru (D : Nat → Int) (nd : Nat) (dp : Int) (tr : Bool) : Bool :=
  if dp < 0 ∨ (nd : Int) ≤ dp then false
  else if D dp.toNat = 53 ∧ dp + 1 = nd then (tr || (decide (0 < dp) && decide (dgt D (dp.toNat - 1) % 2 = 1)))
  else decide (53 ≤ D dp.toNat)

theorem sg_last (D : Nat → Int) (a n : Nat) : sg D a (n + 1) = sg D a n * 10 + dgt D (a + n) := by
  have h1 := dv_sg (D := D) (n + 1) a
  have h2 := dv_sg (D := D) n a
  have h3 : dv D (a + (n + 1)) = dv D (a + n) * 10 + dgt D (a + n) := rfl
  have e : dv D a * 10 ^ (n + 1) = dv D a * 10 ^ n * 10 := by rw [Nat.pow_succ, Nat.mul_assoc]
  rw [h1, h2, e] at h3
  omega

theorem sg_pos {D : Nat → Int} {a n : Nat} (hn : n ≠ 0) (h0 : 48 ≤ D (a + n - 1)) (h : D (a + n - 1) ≠ 48) : 0 < sg D a n := by
  obtain ⟨m, rfl⟩ : ∃ m, n = m + 1 := ⟨n - 1, by omega⟩
  rw [sg_last]
  have : a + (m + 1) - 1 = a + m := by omega
  rw [this] at h h0
  have : 0 < dgt D (a + m) := by unfold dgt; omega
  omega

theorem FB.rq {A B Q nd : Nat} {D : Nat → Int} {dp : Int} {tr : Bool} (h : FB A B Q D nd dp tr) (hQ1 : 1 ≤ Q) (hlast : D (nd - 1) ≠ 48) :
    rq A B = Pz D nd dp.toNat + (if sru D nd dp tr = true then 1 else 0) := by
  have hK := KK_eq
  have h1 := h.lo
  have h2 := h.norm.le
  have hQ := h.hQ
  have hok := h.norm.ok
  rw [h.rep.rq h.hB hQ1 (by omega)]
  have hU := p10 KK
  by_cases c1 : dp < 0
  · have hv := h.vhi
    have hle : 10 ^ (dp + KK).toNat ≤ 10 ^ (KK - 1) := Nat.pow_le_pow_right (by omega) (by omega)
    have e : 10 ^ KK = 10 ^ (KK - 1) * 10 := by rw [← Nat.pow_succ]; congr 1; omega
    generalize dv D nd * 10 ^ (dp - nd + KK).toNat = v at *
    have hs : sru D nd dp tr = false := by unfold sru; rw [if_pos (.inl c1)]
    rw [hs, show dp.toNat = 0 by omega, pz_le (Nat.zero_le _), Nat.div_eq_of_lt (by omega), Nat.mod_eq_of_lt (by omega)]
    rw [if_neg (by omega)]
    simp [dv]
  · by_cases c2 : (nd : Int) ≤ dp
    · have e : dv D nd * 10 ^ (dp - nd + KK).toNat = Pz D nd dp.toNat * 10 ^ KK := by
        rw [pz_ge (by omega), Nat.mul_assoc, ← Nat.pow_add]; congr 2; omega
      have hs : sru D nd dp tr = false := by unfold sru; rw [if_pos (.inr c2)]
      rw [hs, e, Nat.mul_div_cancel _ hU, Nat.mul_mod_left, if_neg (by omega)]
      simp
    · obtain ⟨p, hp⟩ : ∃ p : Nat, dp = p := ⟨dp.toNat, by omega⟩
      subst hp
      obtain ⟨c, rfl⟩ : ∃ c, nd = p + (c + 1) := ⟨nd - p - 1, by omega⟩
      have ev : dv D (p + (c + 1)) * 10 ^ ((p : Int) - (p + (c + 1) : Nat) + KK).toNat = sg D p (c + 1) * 10 ^ (KK - (c + 1)) + dv D p * 10 ^ KK := by
        rw [show ((p : Int) - (p + (c + 1) : Nat) + KK).toNat = KK - (c + 1) by omega, dv_sg, Nat.add_mul, Nat.mul_assoc, ← Nat.pow_add, show c + 1 + (KK - (c + 1)) = KK by omega, Nat.add_comm]
      have hsg := sg_lt hok
      have eU : 10 ^ KK = 10 ^ (c + 1) * 10 ^ (KK - (c + 1)) := by rw [← Nat.pow_add]; congr 1; omega
      have hpo := p10 (KK - (c + 1))
      have hrest : sg D p (c + 1) * 10 ^ (KK - (c + 1)) < 10 ^ KK := by rw [eU]; exact Nat.mul_lt_mul_of_pos_right hsg hpo
      rw [ev, Nat.add_mul_div_right _ _ hU, Nat.add_mul_mod_self_right, Nat.div_eq_of_lt hrest, Nat.mod_eq_of_lt hrest, Nat.zero_add]
      rw [show ((p : Int)).toNat = p by omega, pz_le (by omega)]
      congr 1
      have k1 : (10 ^ KK < 2 * (sg D p (c + 1) * 10 ^ (KK - (c + 1)))) ↔ (10 ^ (c + 1) < 2 * sg D p (c + 1)) := by
        rw [eU, ← Nat.mul_assoc]; exact Nat.mul_lt_mul_right hpo
      have k2 : (2 * (sg D p (c + 1) * 10 ^ (KK - (c + 1))) = 10 ^ KK) ↔ (2 * sg D p (c + 1) = 10 ^ (c + 1)) := by
        rw [eU, ← Nat.mul_assoc]; exact Nat.mul_right_cancel_iff hpo
      simp only [k1, k2]
      have e0 : sg D p (c + 1) = dgt D p * 10 ^ c + sg D (p + 1) c := rfl
      have hs2 : sg D (p + 1) c < 10 ^ c := sg_lt (by rw [show p + 1 + c = p + (c + 1) by omega]; exact hok)
      have hd9 := dgt_le hok (i := p) (by omega)
      have hDp := dgt_eq hok (i := p) (by omega)
      have e5 : 10 ^ (c + 1) = 10 * 10 ^ c := by rw [Nat.pow_succ, Nat.mul_comm]
      have hpc := p10 c
      simp only [e0, e5]
      by_cases hc : c = 0
      · subst hc
        have hs0 : sg D (p + 1) 0 = 0 := rfl
        rw [hs0, Nat.pow_zero, Nat.mul_one, Nat.mul_one, Nat.add_zero]
        by_cases h5 : D p = 53
        · have d5 : dgt D p = 5 := by unfold dgt; omega
          have hs : sru D (p + (0 + 1)) p tr = (tr || (decide (0 < (p : Int)) && decide (dgt D (p - 1) % 2 = 1))) := by
            unfold sru
            rw [if_neg (by omega), show ((p : Int)).toNat = p by omega, if_pos ⟨h5, by omega⟩]
          rw [hs, d5]
          have hpar : (dv D p % 2 = 1) ↔ (0 < (p : Int) ∧ dgt D (p - 1) % 2 = 1) := by
            cases p with
            | zero => simp [dv]
            | succ q =>
              rw [show dv D (q + 1) = dv D q * 10 + dgt D q from rfl, Nat.add_sub_cancel]
              constructor
              · intro hh; exact ⟨by omega, by omega⟩
              · rintro ⟨_, hh⟩; omega
          simp only [hpar, Bool.or_eq_true, Bool.and_eq_true, decide_eq_true_eq]
          have : ¬ (10 < 2 * 5) := by omega
          simp [this]
        · have hs : sru D (p + (0 + 1)) p tr = decide (53 ≤ D p) := by
            unfold sru
            rw [if_neg (by omega), show ((p : Int)).toNat = p by omega, if_neg (fun hh => h5 hh.1)]
          rw [hs]
          have d5 : dgt D p ≠ 5 := by unfold dgt; have := hok p (by omega); omega
          have : (10 < 2 * dgt D p ∨ 2 * dgt D p = 10 ∧ (tr = true ∨ dv D p % 2 = 1)) ↔ (decide (53 ≤ D p) = true) := by
            rw [decide_eq_true_eq]; omega
          simp only [this]
      · have hspos : 0 < sg D (p + 1) c := sg_pos hc (by rw [show p + 1 + c - 1 = p + (c + 1) - 1 by omega]; exact (hok _ (by omega)).1) (by rw [show p + 1 + c - 1 = p + (c + 1) - 1 by omega]; exact hlast)
        have hs : sru D (p + (c + 1)) p tr = decide (53 ≤ D p) := by
          unfold sru
          rw [if_neg (by omega), show ((p : Int)).toNat = p by omega, if_neg (by omega)]
        rw [hs]
        have : (10 * 10 ^ c < 2 * (dgt D p * 10 ^ c + sg D (p + 1) c) ∨ 2 * (dgt D p * 10 ^ c + sg D (p + 1) c) = 10 * 10 ^ c ∧ (tr = true ∨ dv D p % 2 = 1)) ↔ (decide (53 ≤ D p) = true) := by
          rw [decide_eq_true_eq]
          generalize 10 ^ c = y at *
          generalize sg D (p + 1) c = s at *
          constructor
          · intro hh
            rcases Nat.lt_or_ge (dgt D p) 5 with g | g
            · exfalso
              have := Nat.mul_le_mul_right y (show dgt D p ≤ 4 by omega)
              omega
            · omega
          · intro hh
            have := Nat.mul_le_mul_right y (show 5 ≤ dgt D p by omega)
            left; omega
        simp only [this]
end Go.Proofs.YtamdnnkdnhkghaaGreatDoor

namespace Go.Proofs.YtamdnnkdnhkghaaGreatDoor
open Go Go.RowKit
set_option linter.unusedVariables false

set_option maxHeartbeats 800000 in
set_option maxRecDepth 100000 in
theorem sru_out (g nd : Nat) (D : Nat → Int) (dp : Int) (tr : Bool) (w : World) (h : DecAt w g D nd dp tr) (hc : dp < 0 ∨ (nd : Int) ≤ dp) :
    Calls Tryz.prog 247 #[.pointer (some ⟨g, 0, none⟩), .int .i64 dp] w fun e w' => e = .returned (.bool (sru D nd dp tr)) ∧ ∃ m, w' = w.drewN m := by
  have hs : sru D nd dp tr = false := by unfold sru; rw [if_pos hc]
  rw [hs]
  have c0 := h.nd
  clear h hs
  go_enter Tryz.func247, Tryz.ntmps247
  by_cases h0 : dp < 0
  · go_wp2
    go_ret
    exact ⟨rfl, 0, rfl⟩
  · have h1 : (nd : Int) ≤ dp := by omega
    go_wp2
    go_ret
    exact ⟨rfl, 0, rfl⟩

set_option maxHeartbeats 800000 in
set_option maxRecDepth 100000 in
theorem sru_no5 (g nd p : Nat) (D : Nat → Int) (tr : Bool) (w : World) (h : DecAt w g D nd (p : Int) tr) (hn : nd ≤ 800) (hc : p < nd) (h5 : ¬ (D p = 53 ∧ p + 1 = nd)) :
    Calls Tryz.prog 247 #[.pointer (some ⟨g, 0, none⟩), .int .i64 (p : Int)] w fun e w' => e = .returned (.bool (sru D nd (p : Int) tr)) ∧ ∃ m, w' = w.drewN m := by
  have hs : sru D nd (p : Int) tr = decide (53 ≤ D p) := by
    unfold sru
    rw [if_neg (by omega), show ((p : Int)).toNat = p by omega, if_neg (by omega)]
  rw [hs]
  have c0 := h.nd
  have c1 := h.dig p (by omega)
  clear h hs
  have h1 : (p : Int) < nd := by omega
  have h8 : (p : Int) < 800 := by omega
  go_enter Tryz.func247, Tryz.ntmps247
  by_cases e5 : D p = 53
  · have h6 : ((p : Int) + 1 == (nd : Int)) = false := by rw [beq_eq_false_iff_ne]; omega
    have h7 : (D p == 53) = true := by rw [e5]; rfl
    have h9 : decide (53 ≤ D p) = true := by rw [e5]; rfl
    rw [h9]
    go_wp2
    go_ret
    exact ⟨rfl, 0, rfl⟩
  · have h7 : (D p == 53) = false := by rw [beq_eq_false_iff_ne]; exact e5
    go_wp2
    go_ret
    exact ⟨rfl, 0, rfl⟩

set_option maxHeartbeats 800000 in
set_option maxRecDepth 100000 in
theorem sru_5 (g nd p : Nat) (D : Nat → Int) (tr : Bool) (w : World) (h : DecAt w g D nd (p : Int) tr) (hok : OkDig D nd) (hn : nd ≤ 800) (hc : p + 1 = nd) (h5 : D p = 53) :
    Calls Tryz.prog 247 #[.pointer (some ⟨g, 0, none⟩), .int .i64 (p : Int)] w fun e w' => e = .returned (.bool (sru D nd (p : Int) tr)) ∧ ∃ m, w' = w.drewN m := by
  have hs : sru D nd (p : Int) tr = (tr || (decide (0 < (p : Int)) && decide (dgt D (p - 1) % 2 = 1))) := by
    unfold sru
    rw [if_neg (by omega), show ((p : Int)).toNat = p by omega, if_pos ⟨h5, by omega⟩]
  rw [hs]
  have c0 := h.nd
  have c1 := h.dig p (by omega)
  have c3 := h.tr
  have c4 := h.dig (p - 1) (by omega)
  have hq := fun (hp : p ≠ 0) => hok (p - 1) (by omega)
  have Hq := hide hq
  clear h hs hok hq
  have h1 : (p : Int) < nd := by omega
  have h8 : (p : Int) < 800 := by omega
  have h6 : ((p : Int) + 1 == (nd : Int)) = true := by rw [beq_iff_eq]; omega
  have h7 : (D p == 53) = true := by rw [h5]; rfl
  go_enter Tryz.func247, Tryz.ntmps247
  cases tr with
  | true =>
    go_wp2
    go_ret
    exact ⟨rfl, 0, rfl⟩
  | false =>
    by_cases hp : p = 0
    · have hp0 : ¬ (0 : Int) < (p : Int) := by omega
      have hp1 : ¬ 0 < p := by omega
      have e0 : decide ((0 : Int) < (p : Int)) = false := by simp; omega
      rw [e0]
      have Hp := hide hp
      clear hp e0
      go_wp2
      go_ret
      exact ⟨rfl, 0, rfl⟩
    · have hp1 : (0 : Int) < p := by omega
      have hp2 : ((p : Int) - 1).toNat = p - 1 := by omega
      have hq := Hq.out hp
      obtain ⟨q1, q2⟩ := hq
      have e0 : (false || (decide ((0 : Int) < (p : Int)) && decide (dgt D (p - 1) % 2 = 1))) = ((D (p - 1) - 48) % 2 != 0) := by
        have h2 : D (p - 1) - 48 = (dgt D (p - 1) : Int) := by unfold dgt; omega
        rw [h2, decide_eq_true hp1]
        by_cases c : dgt D (p - 1) % 2 = 1
        · have : ((dgt D (p - 1) : Int) % 2) = 1 := by omega
          rw [this]; simp [c]
        · have : ((dgt D (p - 1) : Int) % 2) = 0 := by omega
          rw [this]; simp [c]
      rw [e0]
      clear e0
      go_wp2
      go_ret
      exact ⟨rfl, 0, rfl⟩

theorem sru_any (g nd : Nat) (D : Nat → Int) (dp : Int) (tr : Bool) (w : World) (h : DecAt w g D nd dp tr) (hN : Norm D nd) :
    Calls Tryz.prog 247 #[.pointer (some ⟨g, 0, none⟩), .int .i64 dp] w fun e w' => e = .returned (.bool (sru D nd dp tr)) ∧ ∃ m, w' = w.drewN m := by
  by_cases c : dp < 0 ∨ (nd : Int) ≤ dp
  · exact sru_out g nd D dp tr w h c
  · obtain ⟨p, rfl⟩ : ∃ p : Nat, dp = p := ⟨dp.toNat, by omega⟩
    by_cases c5 : D p = 53 ∧ p + 1 = nd
    · exact sru_5 g nd p D tr w h hN.ok hN.le c5.2 c5.1
    · exact sru_no5 g nd p D tr w h hN.le (by omega) c5

theorem ri_num {D : Nat → Int} {nd r : Nat} (hok : OkDig D nd) : Pz D nd r < 10 ^ r := by
  rcases Nat.le_total r nd with h | h
  · rw [pz_le h]; exact dv_lt (hok.mono h)
  · rw [pz_ge h]
    have := Nat.mul_lt_mul_of_pos_right (dv_lt hok) (p10 (r - nd))
    rw [← Nat.pow_add, show nd + (r - nd) = r by omega] at this
    exact this

theorem ri_small {n r : Nat} (h : n < 10 ^ r) (hr : r ≤ 17) : n < 100000000000000000 := by
  have := Nat.pow_le_pow_right (show 0 < 10 by omega) hr
  have e : (10 : Nat) ^ 17 = 100000000000000000 := by decide
  omega

set_option maxHeartbeats 800000 in
set_option maxRecDepth 100000 in
theorem ri_any (g nd : Nat) (D : Nat → Int) (dp : Int) (tr : Bool) (w : World) (h : DecAt w g D nd dp tr) (hN : Norm D nd) (hdp : dp ≤ 17) (hdp1 : -100000 ≤ dp) (R : Nat) (hR : Hid (R = Pz D nd dp.toNat + (if sru D nd dp tr = true then 1 else 0))) :
    Calls Tryz.prog 254 #[.pointer (some ⟨g, 0, none⟩)] w fun e w' => e = .returned (.int .u64 R) ∧ ∃ m, w' = w.drewN m := by
  have H := hide h
  have HN := hide hN
  have c0 := h.nd
  have c9 := h.dp
  have f0 := h.fr
  have hle' : nd ≤ 800 := hN.le
  have S := fun (m : Nat) => sru_any g nd D dp tr (w.drewN m) (h.drewN m) hN
  have HS := hide S
  clear h hN S
  go_enter Tryz.func254, Tryz.ntmps254
  go_wp2
  go_loop [3, 4] (fun iv nv => ∃ (r n : Nat), iv = .int .i64 r ∧ nv = .int .u64 n ∧ Hid (n = Pz D nd r) ∧ r ≤ dp.toNat ∧ r ≤ nd) (fun iv _ => nd - (intOf iv).toNat)
  case atStart => exact ⟨0, 0, rfl, rfl, hide (by rw [pz_le (Nat.zero_le _)]; rfl), Nat.zero_le _, Nat.zero_le _⟩
  case round =>
    obtain ⟨r, n, rfl, rfl, Hn, hr, hrn⟩ := hrel
    by_cases hc : (r : Int) < dp ∧ r < nd
    · obtain ⟨hc1, hc2⟩ := hc
      have cR := H.out.dig r (by omega)
      obtain ⟨hx1, hx2⟩ := HN.out.ok r hc2
      obtain ⟨m, hm⟩ : ∃ m, m = n * 10 + (D r - 48).toNat := ⟨_, rfl⟩
      have Hm : Hid (m = Pz D nd (r + 1)) := hide (by rw [hm, Hn.out, pz_lt hc2]; rfl)
      have hb1 : n < 100000000000000000 := ri_small (r := r) (by rw [Hn.out]; exact ri_num HN.out.ok) (by omega)
      have e0 : IntKind.u64.wrap ((n : Int) * 10) = (n : Int) * 10 := u64_id (by omega) (by omega)
      have e1 : IntKind.u64.wrap ((n : Int) * 10 + (D r - 48)) = (m : Int) := by rw [u64_id (by omega) (by omega)]; omega
      have hr8 : (r : Int) < 800 := by omega
      have hc3 : (r : Int) < nd := by omega
      clear hm
      go_wp2
      go_round
      case rel => exact ⟨r + 1, m, by go_num, rfl, Hm, by omega, by omega⟩
      case measure => simp [intOf]; omega
    · have HL : Hid ((r = dp.toNat ∨ nd ≤ r) ∧ r ≤ dp.toNat) := hide ⟨by omega, hr⟩
      by_cases hc1 : (r : Int) < dp
      · have hc2 : ¬ r < nd := fun hh => hc ⟨hc1, hh⟩
        have hc3 : (nd : Int) ≤ r := by omega
        clear hc
        go_wp2
        go_loop [3, 4] (fun iv nv => ∃ (r n : Nat), iv = .int .i64 r ∧ nv = .int .u64 n ∧ Hid (n = Pz D nd r) ∧ Hid ((r = dp.toNat ∨ nd ≤ r) ∧ r ≤ dp.toNat)) (fun iv _ => dp.toNat - (intOf iv).toNat)
        case atStart => exact ⟨r, n, rfl, rfl, Hn, HL⟩
        case round =>
          clear Hn HL
          obtain ⟨r, n, rfl, rfl, Hn, HL⟩ := hrel
          have hb1 : n < 100000000000000000 := ri_small (r := r) (by rw [Hn.out]; exact ri_num HN.out.ok) (by have := HL.out; omega)
          by_cases hc4 : (r : Int) < dp
          · have hnr : nd ≤ r := by have := HL.out; omega
            obtain ⟨m, hm⟩ : ∃ m, m = n * 10 := ⟨_, rfl⟩
            have Hm : Hid (m = Pz D nd (r + 1)) := hide (by rw [hm, Hn.out, pz_out hnr, Nat.add_zero])
            have e0 : IntKind.u64.wrap ((n : Int) * 10) = (m : Int) := by rw [u64_id (by omega) (by omega)]; omega
            clear hm
            go_wp2
            go_round
            case rel => exact ⟨r + 1, m, by go_num, rfl, Hm, hide (by omega)⟩
            case measure => simp [intOf]; omega
          · have HR : Hid (R = n + (if sru D nd dp tr = true then 1 else 0)) := hide (by
              have e : r = dp.toNat := by have := HL.out; omega
              rw [hR.out, Hn.out, e])
            go_wp2_with fail
            refine (HS.out 0).mono ?_
            rintro e w' ⟨rfl, q, rfl⟩
            cases hs : sru D nd dp tr with
            | true =>
              have Hs := hide hs
              clear hs
              have e2 : IntKind.u64.wrap ((n : Int) + 1) = (R : Int) := by
                have h1 := HR.out
                rw [Hs.out, if_pos rfl] at h1
                rw [u64_id (by omega) (by omega), h1]; omega
              go_wp2
              go_ret
              exact ⟨rfl, _, rfl⟩
            | false =>
              have Hs := hide hs
              clear hs
              have e2 : (n : Int) = (R : Int) := by
                have h1 := HR.out
                rw [Hs.out] at h1
                simp at h1
                omega
              have E2 := hide e2
              clear e2
              go_wp2
              go_ret
              refine ⟨?_, _, rfl⟩
              rw [← E2.out]
              rfl
      · clear hc
        go_wp2
        go_loop [3, 4] (fun iv nv => ∃ (r n : Nat), iv = .int .i64 r ∧ nv = .int .u64 n ∧ Hid (n = Pz D nd r) ∧ Hid (r = dp.toNat)) (fun iv _ => dp.toNat - (intOf iv).toNat)
        case atStart => exact ⟨r, n, rfl, rfl, Hn, hide (by have := HL.out; omega)⟩
        case round =>
          clear Hn HL
          obtain ⟨r, n, rfl, rfl, Hn, HL⟩ := hrel
          have hb1 : n < 100000000000000000 := ri_small (r := r) (by rw [Hn.out]; exact ri_num HN.out.ok) (by have := HL.out; omega)
          by_cases hc4 : (r : Int) < dp
          · exfalso; have := HL.out; omega
          · have HR : Hid (R = n + (if sru D nd dp tr = true then 1 else 0)) := hide (by
              have e : r = dp.toNat := by have := HL.out; omega
              rw [hR.out, Hn.out, e])
            go_wp2_with fail
            refine (HS.out 0).mono ?_
            rintro e w' ⟨rfl, q, rfl⟩
            cases hs : sru D nd dp tr with
            | true =>
              have Hs := hide hs
              clear hs
              have e2 : IntKind.u64.wrap ((n : Int) + 1) = (R : Int) := by
                have h1 := HR.out
                rw [Hs.out, if_pos rfl] at h1
                rw [u64_id (by omega) (by omega), h1]; omega
              go_wp2
              go_ret
              exact ⟨rfl, _, rfl⟩
            | false =>
              have Hs := hide hs
              clear hs
              have e2 : (n : Int) = (R : Int) := by
                have h1 := HR.out
                rw [Hs.out] at h1
                simp at h1
                omega
              have E2 := hide e2
              clear e2
              go_wp2
              go_ret
              refine ⟨?_, _, rfl⟩
              rw [← E2.out]
              rfl
end Go.Proofs.YtamdnnkdnhkghaaGreatDoor
