import Derived.Test.YtmndipnifjpdjaaGreatDoorQ28
namespace Go.Proofs.YtmndipnifjpdjaaGreatDoor
open Go Go.RowKit
set_option linter.unusedVariables false
set_option maxHeartbeats 1600000 in
set_option maxRecDepth 100000 in
theorem fb_walk (sm : Bool) (n d e0 b g P po G o nd : Nat) (D : Nat → Int) (dp : Int) (w : World) (h : DecAt w g D nd dp false) (hI : FInfo w g P po G o) (hL : L1 sm n d e0 b 0 D nd dp false) (hdp1 : -330 ≤ dp) (hdp2 : dp ≤ 310) :
    Calls Tryz.prog 281 #[.pointer (some ⟨g, 0, none⟩), .pointer (some ⟨13, 0, none⟩)] w fun e w' => FBits n d g w e w' := by
  have H := hide h
  have HL := hide hL
  have HI := hide hI
  have c0 := h.nd
  have c9 := h.dp
  have f0 := h.fr
  have c60 := hI.mant
  have c61 := hI.expb
  have c62 := hI.bias
  have c8 := hI.slice
  have h0 : ((nd : Int) == 0) = false := by have := hL.fb.ne; rw [beq_eq_false_iff_ne]; omega
  clear h hL hI
  go_enter Tryz.func281, Tryz.ntmps281
  go_wp2
  refine wp_scope_fwd rfl rfl ?_
  go_hide hQ
  have HQ := hide hQ
  clear hQ
  go_wp2
  go_loopg [6] (n / (d * 2 ^ 0)) (fun gk xv wr => ∃ (i nd' : Nat) (D' : Nat → Int) (dp' : Int) (tr' : Bool), Hid (gk = n / (d * 2 ^ i)) ∧ xv = .int .i64 i ∧ i ≤ 2000 ∧ DecAt wr g D' nd' dp' tr' ∧ Hid (L1 sm n d e0 b i D' nd' dp' tr') ∧ Below g w wr)
  case atStart => exact ⟨0, nd, D, dp, false, hide rfl, rfl, by omega, H.out, HL, Below.refl _ _⟩
  case round =>
    clear c0 c9 f0 c60 c61 c62 c8 h0 H HL hdp1 hdp2
    obtain ⟨i, nd', D', dp', tr', Hgk, rfl, hi, hd, HL, hbw⟩ := hrel
    have HI' := hide (HI.out.below hbw)
    have Hd := hide hd
    have Hbw := hide hbw
    clear hd hbw
    have c9 := Hd.out.dp
    have f0 := Hd.out.fr
    have c8 := HI'.out.slice
    have hlo := HL.out.fb.lo
    have hhi := HL.out.fb.hi
    by_cases hp : 0 < dp'
    · have hile := HL.out.ile hp
      by_cases h9 : 9 ≤ dp'
      · have S := fun (q : Nat) => HL.out.shift (m := 27) (Hd.out.drewN q) hp (by omega) (by omega) (-27) (by omega)
        have HS := hide S
        clear S
        go_wp2
        go_quiet (fail)
        go_wp2_with fail
        refine (HS.out _).mono ?_
        rintro e w' ⟨rfl, D2, nd2, dp2, tr2, hd2, hL2, hb2⟩
        have Hd2 := hide hd2
        have HL2 := hide hL2
        have Hb2 := hide hb2
        clear hd2 hL2 hb2 HS
        go_wp2
        go_roundg (n / (d * 2 ^ (i + 27)))
        case rel => exact ⟨i + 27, nd2, D2, dp2, tr2, hide rfl, by go_num, by omega, Hd2.out, HL2, (below_drewN Hbw.out _).trans Hb2.out⟩
        case measure => rw [Hgk.out]; exact HL.out.meas hp (by omega)
      · obtain ⟨a, rfl⟩ : ∃ a : Nat, dp' = a := ⟨dp'.toNat, by omega⟩
        have cT := HI'.out.tab a (by omega)
        obtain ⟨p1, p2, p3⟩ := powRow_ok (a := a) (by omega)
        generalize powRow.getD a 0 = m at *
        have S := fun (q : Nat) => HL.out.shift (m := m) (Hd.out.drewN q) hp (by omega) (by omega) (-(m : Int)) rfl
        have HS := hide S
        clear S p3
        have ha9 : (a : Int) < 9 := by omega
        have ha0 : (0 : Int) < (a : Int) := hp
        have hm26 : (m : Int) ≤ 26 := by omega
        go_wp2
        go_quiet (fail)
        go_wp2
        go_quiet (fail)
        go_wp2_with fail
        refine (HS.out _).mono ?_
        rintro e w' ⟨rfl, D2, nd2, dp2, tr2, hd2, hL2, hb2⟩
        have Hd2 := hide hd2
        have HL2 := hide hL2
        have Hb2 := hide hb2
        clear hd2 hL2 hb2 HS cT
        go_wp2
        go_roundg (n / (d * 2 ^ (i + m)))
        case rel => exact ⟨i + m, nd2, D2, dp2, tr2, hide rfl, by go_num, by omega, Hd2.out, HL2, (below_drewN Hbw.out _).trans Hb2.out⟩
        case measure => rw [Hgk.out]; exact HL.out.meas hp p1
    · have HL0 := hide (HL.out.exit (by omega))
      clear HL Hgk
      go_wp2
      go_loopg [6] (1110 + i) (fun gk xv wq => ∃ (j nd' : Nat) (D' : Nat → Int) (dp' : Int) (tr' : Bool), Hid (gk + j = 1110 + i) ∧ xv = .int .i64 ((i : Int) - j) ∧ j ≤ 4000 ∧ DecAt wq g D' nd' dp' tr' ∧ Hid (L2 sm n d e0 b i j D' nd' dp' tr') ∧ Below g w wq)
      case atStart => exact ⟨0, nd', D', dp', tr', hide (by omega), by simp, by omega, Hd.out, HL0, Hbw.out⟩
      case round =>
        clear c9 f0 c8 Hd Hbw HL0 HI' hlo hhi hp
        obtain ⟨j, nd', D', dp', tr', Hgk, rfl, hj, hd, HL, hbw⟩ := hrel
        have HI' := hide (HI.out.below hbw)
        have Hd := hide hd
        have Hbw := hide hbw
        clear hd hbw
        have c9 := Hd.out.dp
        have f0 := Hd.out.fr
        have cD := Hd.out.dig 0 (by omega)
        have c8 := HI'.out.slice
        have hlo := HL.out.fb.lo
        have hjl : j < 1110 + i := HL.out.jle.1
        have hhi : dp' ≤ 0 := by
          have := HL.out.fb.ub (b := 0) (by rw [Nat.pow_zero, Nat.mul_one]; exact HL.out.lt)
          omega
        by_cases h9 : dp' ≤ -9
        · have hA : n * 2 ^ j * 2 ^ 27 < d * 2 ^ i := HL.out.dbl (a := 9) (by omega) (by omega) pow2_27
          have S := fun (q : Nat) => HL.out.shift (m := 27) (Hd.out.drewN q) (HI'.out.cheats.below (below_drewN (Below.refl g _) q) HI'.out.g12 HI'.out.hG) (by omega) (by omega) hA
          have HS := hide S
          clear S hA
          go_wp2
          go_quiet (fail)
          go_wp2_with fail
          refine (HS.out _).mono ?_
          rintro e w' ⟨rfl, D2, nd2, dp2, tr2, hd2, hL2, hb2⟩
          have Hd2 := hide hd2
          have HL2 := hide hL2
          have Hb2 := hide hb2
          clear hd2 hL2 hb2 HS
          have hj2 : j + 27 < 1110 + i := HL2.out.jle.1
          go_wp2
          go_roundg (1110 + i - (j + 27))
          case rel => exact ⟨j + 27, nd2, D2, dp2, tr2, hide (by omega), by go_num, by omega, Hd2.out, HL2, (below_drewN Hbw.out _).trans Hb2.out⟩
          case measure => have := Hgk.out; omega
        · by_cases hneg : dp' < 0
          · obtain ⟨a, rfl⟩ : ∃ a : Nat, dp' = -(a : Int) := ⟨(-dp').toNat, by omega⟩
            have cT := HI'.out.tab a (by omega)
            obtain ⟨p1, p2, p3⟩ := powRow_ok (a := a) (by omega)
            generalize powRow.getD a 0 = m at *
            have hA : n * 2 ^ j * 2 ^ m < d * 2 ^ i := HL.out.dbl (a := a) (by omega) (by omega) (p3 (by omega))
            have S := fun (q : Nat) => HL.out.shift (m := m) (Hd.out.drewN q) (HI'.out.cheats.below (below_drewN (Below.refl g _) q) HI'.out.g12 HI'.out.hG) p1 (by omega) hA
            have HS := hide S
            clear S hA p3
            have ha9 : (a : Int) < 9 := by omega
            have ha0 : (0 : Int) < (a : Int) := by omega
            have hm26 : (m : Int) ≤ 26 := by omega
            clear hlo hhi h9
            go_wp2
            go_quiet (fail)
            go_wp2
            go_quiet (fail)
            go_wp2_with fail
            refine (HS.out _).mono ?_
            rintro e w' ⟨rfl, D2, nd2, dp2, tr2, hd2, hL2, hb2⟩
            have Hd2 := hide hd2
            have HL2 := hide hL2
            have Hb2 := hide hb2
            clear hd2 hL2 hb2 HS cT
            have hj2 : j + m < 1110 + i := HL2.out.jle.1
            go_wp2
            go_roundg (1110 + i - (j + m))
            case rel => exact ⟨j + m, nd2, D2, dp2, tr2, hide (by omega), by go_num, by omega, Hd2.out, HL2, (below_drewN Hbw.out _).trans Hb2.out⟩
            case measure => have := Hgk.out; omega
          · have hz : dp' = 0 := by omega
            subst hz
            clear hlo hhi h9 hneg
            by_cases h5 : D' 0 < 53
            · have cT : wr.cell? ⟨P, po, none⟩ = some (.int .i64 1) := HI'.out.tab 0 (by omega)
              have hA : n * 2 ^ j * 2 ^ 1 < d * 2 ^ i := HL.out.dbl0 h5
              have S := fun (q : Nat) => HL.out.shift (m := 1) (Hd.out.drewN q) (HI'.out.cheats.below (below_drewN (Below.refl g _) q) HI'.out.g12 HI'.out.hG) (by omega) (by omega) hA
              have HS := hide S
              clear S hA
              go_wp2
              go_quiet (fail)
              go_wp2
              go_quiet (fail)
              go_wp2_with fail
              refine (HS.out _).mono ?_
              rintro e w' ⟨rfl, D2, nd2, dp2, tr2, hd2, hL2, hb2⟩
              have Hd2 := hide hd2
              have HL2 := hide hL2
              have Hb2 := hide hb2
              clear hd2 hL2 hb2 HS cT
              have hj2 : j + 1 < 1110 + i := HL2.out.jle.1
              go_wp2
              go_roundg (1110 + i - (j + 1))
              case rel => exact ⟨j + 1, nd2, D2, dp2, tr2, hide (by omega), by go_num, by omega, Hd2.out, HL2, (below_drewN Hbw.out _).trans Hb2.out⟩
              case measure => have := Hgk.out; omega
            · have c60 := HI'.out.mant
              have c61 := HI'.out.expb
              have c62 := HI'.out.bias
              have cN := Hd.out.neg
              have HL3 : Hid (L3 sm n d e0 b i j D' nd' tr') := hide ⟨HL.out, HL.out.fb.half (by omega)⟩
              clear HL Hgk hjl
              have eInf : bits .or .u64 (bits .and .u64 0 4503599627370495) (IntKind.u64.wrap (IntKind.u64.wrap (bits .and .i64 2047 2047) * 4503599627370496)) = 9218868437227405312 := fb_word (m := 0) (y := 2047) (W := 9218868437227405312) (by omega) rfl rfl (by omega) (by omega)
              by_cases hx : (i : Int) - j - 1 < -1022
              · obtain ⟨m, hm⟩ : ∃ m, m + i + 1021 = j := ⟨j - i - 1021, by omega⟩
                have hm1 : 1 ≤ m := by omega
                obtain ⟨t1, t2, t3, t4, t5, t6, t7, t8⟩ := HL3.out.tiny hm1 hm
                have S := fun (q : Nat) (z : Int) (hz : z = -(m : Int)) => shiftR (Hd.out.drewN q) HL3.out.l2.fb hm1 (by omega) t1 t2 t3 z hz
                have HS := hide S
                have Ht6 := hide t6
                have Ht7 := hide t7
                have Ht8 := hide t8
                have Ht4 := hide t4
                have Hm := hide hm
                clear S t1 t2 t3 t4 t6 t7 t8 hm
                go_wp2_with fail
                refine (HS.out 0 _ (by have := Hm.out; omega)).mono ?_
                rintro e w' ⟨rfl, D4, nd4, dp4, tr4, hd4, hF4, hl4, hb4⟩
                have hbw4 := Hbw.out.trans hb4
                have HI4 := hide (HI.out.below hbw4)
                have Hbw4 := hide hbw4
                have Hd4 := hide hd4
                have S := fun (q : Nat) => shiftL (k := 53) (Q' := QQ sm j) (b := 16) (hd4.drewN q) (HI4.out.cheats.below (below_drewN (Below.refl g _) q) HI4.out.g12 HI4.out.hG) hF4 (by omega) (by omega) (.inr ⟨Ht6.out, rfl⟩) Ht7.out (by have := Ht4.out; omega) Ht8.out
                clear HS c9 f0 c8 c60 c61 c62 cN hd4 hF4 hl4 hb4 hbw4
                have HS := hide S
                clear S
                have c60 := HI4.out.mant
                have c61 := HI4.out.expb
                have c62 := HI4.out.bias
                have eX : (i : Int) - j - 1 + (-1022 - ((i : Int) - j - 1)) = -1022 := by omega
                go_wp2
                go_quiet (fail)
                go_wp2_with fail
                refine (HS.out _).mono ?_
                rintro e w' ⟨rfl, D3, nd3, dp3, tr3, hd3, hF3, hl3, hb3⟩
                have hdp3 : dp3 ≤ 16 := hF3.ub Ht7.out
                obtain ⟨R, hR⟩ : ∃ R, R = rq (n * 2 ^ j * 2 ^ 53) (d * 2 ^ i * 2 ^ m) := ⟨_, rfl⟩
                have S := ri_any g nd3 D3 dp3 tr3 w' hd3 hF3.norm (by omega) (by have := hF3.lo; omega) R (hide (by rw [hR]; exact hF3.rq (by have := Ht4.out; omega) hl3))
                obtain ⟨r1, r2⟩ := HL3.out.tword hm1 Hm.out hR
                clear HS
                have HS := hide S
                have Hr1 := hide r1
                have hbw3 := (below_drewN Hbw4.out _).trans hb3
                have HI3 := hide (HI.out.below hbw3)
                have Hbw3 := hide hbw3
                have cN := hd3.neg
                clear S r1 hd3 hF3 hl3 hR hdp3 hb3 hbw3 c60 c61 c62
                have c60 := HI3.out.mant
                have c61 := HI3.out.expb
                have c62 := HI3.out.bias
                go_wp2_with fail
                refine (HS.out).mono ?_
                rintro e w' ⟨rfl, q, rfl⟩
                clear HS
                by_cases h52 : R = 4503599627370496
                · have hRi : (R : Int) = 4503599627370496 := by omega
                  have eA : bits .and .u64 (4503599627370496 : Int) 4503599627370496 = 4503599627370496 := and52_hi (m := 4503599627370496) (by omega) (by omega)
                  go_wp2
                  go_step3
                  repeat rw [then_goto]
                  rw [← HQ.out]
                  rw [fwd_0]
                  clear HQ
                  go_wp2
                  go_quiet (fail)
                  go_wp2
                  rw [Exit.noGoto_ret]
                  go_ret2
                  exact fbits_no leaf_c2.1 h52 leaf_c2.2 Hr1.out (below_drewN Hbw3.out _)
                · have hlt : R < 4503599627370496 := by omega
                  have eA := and52_lo hlt
                  go_wp2
                  go_step3
                  repeat rw [then_goto]
                  rw [← HQ.out]
                  rw [fwd_0]
                  clear HQ
                  go_wp2
                  go_quiet (fail)
                  go_wp2
                  rw [Exit.noGoto_ret]
                  go_ret2
                  exact fbits_no (leaf_c1 hlt).1 rfl (leaf_c1 hlt).2 Hr1.out (below_drewN Hbw3.out _)
              · by_cases hov : 1024 ≤ (i : Int) - j - 1
                · go_wp2
                  go_quiet (fail)
                  go_wp2
                  go_step3
                  repeat rw [then_goto]
                  rw [← HQ.out]
                  rw [fwd_1]
                  clear HQ
                  go_wp2
                  go_quiet (fail)
                  go_wp2
                  go_step3
                  go_wp2
                  go_quiet (fail)
                  go_wp2
                  rw [Exit.noGoto_ret]
                  go_ret2
                  exact ⟨infW, rfl, HL3.out.over hov, below_drewN Hbw.out _⟩
                · obtain ⟨m1, m2, m3, m4, m5⟩ := HL3.out.may53
                  have S := fun (q : Nat) => shiftL (k := 53) (Hd.out.drewN q) (HI'.out.cheats.below (below_drewN (Below.refl g _) q) HI'.out.g12 HI'.out.hG) HL3.out.l2.fb (by omega) (by omega) m1 m2 m3 m4
                  have HS := hide S
                  have Hm2 := hide m2
                  have Hm5 := hide m5
                  clear S m1 m2 m3 m4 m5
                  go_wp2
                  go_quiet (fail)
                  go_wp2_with fail
                  refine (HS.out _).mono ?_
                  rintro e w' ⟨rfl, D3, nd3, dp3, tr3, hd3, hF3, hl3, hb3⟩
                  have hdp3 : dp3 ≤ 16 := hF3.ub Hm2.out
                  obtain ⟨R, hR⟩ : ∃ R, R = rq (n * 2 ^ j * 2 ^ 53) (d * 2 ^ i) := ⟨_, rfl⟩
                  have S := ri_any g nd3 D3 dp3 tr3 w' hd3 hF3.norm (by omega) (by have := hF3.lo; omega) R (hide (by rw [hR]; exact hF3.rq Hm5.out hl3))
                  obtain ⟨k, hk⟩ : ∃ k, k = 1074 + i - (j + 53) := ⟨_, rfl⟩
                  obtain ⟨r1, r2, r3⟩ := HL3.out.word (k := k) (by omega) hR
                  have Hk := hide hk
                  clear hk
                  have HS := hide S
                  have Hr1 := hide r1
                  have hbw3 := (below_drewN Hbw.out _).trans hb3
                  have HI3 := hide (HI.out.below hbw3)
                  have Hbw3 := hide hbw3
                  have cN := hd3.neg
                  clear S r1 hd3 hF3 hl3 hR hdp3 hb3 hbw3 c9 f0 c8 c60 c61 c62
                  have c60 := HI3.out.mant
                  have c61 := HI3.out.expb
                  have c62 := HI3.out.bias
                  go_wp2_with fail
                  refine (HS.out).mono ?_
                  rintro e w' ⟨rfl, q, rfl⟩
                  clear HS
                  by_cases h53 : R = 9007199254740992
                  · have hRi : (R : Int) = 9007199254740992 := by omega
                    by_cases ho2 : 1023 ≤ (i : Int) - j - 1
                    · go_wp2
                      go_quiet (fail)
                      go_wp2
                      go_step3
                      repeat rw [then_goto]
                      rw [← HQ.out]
                      rw [fwd_1]
                      clear HQ
                      go_wp2
                      go_quiet (fail)
                      go_wp2
                      go_step3
                      go_wp2
                      go_quiet (fail)
                      go_wp2
                      rw [Exit.noGoto_ret]
                      go_ret2
                      exact fbits_yes (W := 9218868437227405312) rfl (leaf_b1 ho2 Hk.out h53) infW_eq.symm Hr1.out (below_drewN Hbw3.out _)
                    · have eA : bits .and .u64 (4503599627370496 : Int) 4503599627370496 = 4503599627370496 := and52_hi (m := 4503599627370496) (by omega) (by omega)
                      go_wp2
                      go_quiet (fail)
                      go_wp2
                      go_step3
                      repeat rw [then_goto]
                      rw [← HQ.out]
                      rw [fwd_0]
                      clear HQ
                      go_wp2
                      go_quiet (fail)
                      go_wp2
                      rw [Exit.noGoto_ret]
                      go_ret2
                      obtain ⟨l1, l2, l3⟩ := leaf_b2 hx ho2 Hk.out
                      exact fbits_no l1 (by rw [h53]; exact l2) l3 Hr1.out (below_drewN Hbw3.out _)
                  · have eA := and52_hi r2 (by omega)
                    go_wp2
                    go_step3
                    repeat rw [then_goto]
                    rw [← HQ.out]
                    rw [fwd_0]
                    clear HQ
                    go_wp2
                    go_quiet (fail)
                    go_wp2
                    rw [Exit.noGoto_ret]
                    go_ret2
                    obtain ⟨l1, l2, l3⟩ := leaf_b3 hx hov r2 (Nat.lt_of_le_of_ne r3 h53) Hk.out
                    exact fbits_no l1 l2 l3 Hr1.out (below_drewN Hbw3.out _)
end Go.Proofs.YtmndipnifjpdjaaGreatDoor
