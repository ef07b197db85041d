import Derived.Test.YtmndipnifjpdjaaGreatDoorQ51
namespace Go.Proofs.YtmndipnifjpdjaaGreatDoor
open Go Go.RowKit
set_option linter.unusedVariables false
set_option maxHeartbeats 12800000 in
set_option maxRecDepth 100000 in
theorem scan_any (s : ByteArray) (T M : Nat) (m : Int) (wb w : World) (hs : s.size ≤ 32768) (hSc : Sc s T M 0 (.slice none 0 0) w) (hbT : wb.heap.size ≤ T) (hB : Below wb.heap.size wb w) (hM : FixMap M wb) (hE : EnvL wb) (hX : MaxAt m wb) :
    Calls Tryz.prog 41 #[.pointer (some ⟨T, 0, none⟩)] w fun e w' => ∃ r, e = .returned r ∧ ScanR s T M w r w' := by
  obtain ⟨F, hF⟩ : ∃ F, w.heap.size = F := ⟨_, rfl⟩
  obtain ⟨wS, hwS⟩ : ∃ wS, w.alloc (.cells #[.int .i64 0, .int .i64 0, .int .i64 0] 24) = wS := ⟨_, rfl⟩
  have HSZ : Hid (wS.heap.size = F + 1) := hide (by rw [← hwS, ← hF]; simp)
  have HLW : Hid (Below w.heap.size w wS) := hide (by rw [← hwS]; exact (Below.refl _ _).alloc (Nat.le_refl _) _)
  have HCX : Hid (Cx s T M F m wb wS) := hide (by
    have h1 := HSZ.out
    have h2 := hSc.lt
    have h3 := hB.size
    exact ⟨hs, by omega, by omega, by omega, hB.trans (HLW.out.mono h3), hbT, hM, hE, hX, by rw [← hwS, ← hF]; exact heap_alloc_new w _⟩)
  have HST : Hid (St s T M 0 [] (.slice none 0 0) wS wS) := hide ⟨⟨rfl, rfl, rfl, Nat.le_refl _, fun _ _ _ => rfl⟩, hSc.low HLW.out hSc.lt, ownT_nil _ _ _⟩
  have HF := hide hF
  have hFT : F ≠ T := HCX.out.ne
  have hTF : T ≠ F := hFT.symm
  clear hSc hbT hB hM hE hX hF
  go_enter Tryz.func41, Tryz.ntmps41
  go_wp2
  rw [HF.out]
  clear hwS
  have HI : Hid (ScI s T M wS wS) := hide ⟨0, [], .slice none 0 0, Nat.zero_le _, Nat.le_refl _, HST.out, Fwd.start s⟩
  clear HST
  go_loopw [] (fun wr => ScI s T M wS wr) (fun wr => s.size - posS T wr)
  case atStart => exact HI.out
  case round =>
    have HRL := hide hrel
    clear hrel HI
    go_wp2
    refine wp_scope_back 0 (fun a w => Frm T F a ∧ ScI s T M wS w ∧ s.size - posS T w ≤ s.size - posS T wr) (fun a w => s.size - posS T w) ⟨⟨_, rfl, rfl⟩, HRL.out, Nat.le_refl _⟩ ?_
    · rintro a w1 ⟨⟨l, hl, rfl⟩, hI, hle⟩
      obtain ⟨y3, l3, rfl, h3⟩ := cons_of hl
      obtain ⟨y4, l4, rfl, h4⟩ := cons_of h3
      obtain ⟨y5, l5, rfl, h5⟩ := cons_of h4
      obtain ⟨y6, l6, rfl, h6⟩ := cons_of h5
      obtain ⟨y7, l7, rfl, h7⟩ := cons_of h6
      obtain ⟨y8, l8, rfl, h8⟩ := cons_of h7
      obtain ⟨y9, l9, rfl, h9⟩ := cons_of h8
      obtain ⟨y10, l10, rfl, h10⟩ := cons_of h9
      obtain ⟨y11, l11, rfl, h11⟩ := cons_of h10
      obtain ⟨y12, l12, rfl, h12⟩ := cons_of h11
      obtain ⟨y13, l13, rfl, h13⟩ := cons_of h12
      obtain ⟨y14, l14, rfl, h14⟩ := cons_of h13
      obtain ⟨y15, l15, rfl, h15⟩ := cons_of h14
      obtain ⟨y16, l16, rfl, h16⟩ := cons_of h15
      obtain ⟨y17, l17, rfl, h17⟩ := cons_of h16
      obtain ⟨y18, l18, rfl, h18⟩ := cons_of h17
      obtain ⟨y19, l19, rfl, h19⟩ := cons_of h18
      obtain ⟨y20, l20, rfl, h20⟩ := cons_of h19
      obtain ⟨y21, l21, rfl, h21⟩ := cons_of h20
      obtain ⟨y22, l22, rfl, h22⟩ := cons_of h21
      obtain ⟨y23, l23, rfl, h23⟩ := cons_of h22
      obtain ⟨y24, l24, rfl, h24⟩ := cons_of h23
      obtain ⟨y25, l25, rfl, h25⟩ := cons_of h24
      obtain ⟨y26, l26, rfl, h26⟩ := cons_of h25
      obtain ⟨y27, l27, rfl, h27⟩ := cons_of h26
      obtain ⟨y28, l28, rfl, h28⟩ := cons_of h27
      obtain ⟨y29, l29, rfl, h29⟩ := cons_of h28
      obtain ⟨y30, l30, rfl, h30⟩ := cons_of h29
      obtain ⟨y31, l31, rfl, h31⟩ := cons_of h30
      obtain ⟨y32, l32, rfl, h32⟩ := cons_of h31
      obtain ⟨y33, l33, rfl, h33⟩ := cons_of h32
      obtain ⟨y34, l34, rfl, h34⟩ := cons_of h33
      obtain ⟨y35, l35, rfl, h35⟩ := cons_of h34
      obtain ⟨y36, l36, rfl, h36⟩ := cons_of h35
      obtain ⟨y37, l37, rfl, h37⟩ := cons_of h36
      obtain ⟨y38, l38, rfl, h38⟩ := cons_of h37
      obtain ⟨y39, l39, rfl, h39⟩ := cons_of h38
      obtain ⟨y40, l40, rfl, h40⟩ := cons_of h39
      obtain ⟨y41, l41, rfl, h41⟩ := cons_of h40
      obtain ⟨y42, l42, rfl, h42⟩ := cons_of h41
      obtain ⟨y43, l43, rfl, h43⟩ := cons_of h42
      obtain ⟨y44, l44, rfl, h44⟩ := cons_of h43
      obtain ⟨y45, l45, rfl, h45⟩ := cons_of h44
      obtain ⟨y46, l46, rfl, h46⟩ := cons_of h45
      obtain ⟨y47, l47, rfl, h47⟩ := cons_of h46
      obtain ⟨y48, l48, rfl, h48⟩ := cons_of h47
      obtain ⟨y49, l49, rfl, h49⟩ := cons_of h48
      obtain ⟨y50, l50, rfl, h50⟩ := cons_of h49
      obtain ⟨y51, l51, rfl, h51⟩ := cons_of h50
      obtain ⟨y52, l52, rfl, h52⟩ := cons_of h51
      obtain ⟨y53, l53, rfl, h53⟩ := cons_of h52
      obtain ⟨y54, l54, rfl, h54⟩ := cons_of h53
      obtain ⟨y55, l55, rfl, h55⟩ := cons_of h54
      obtain ⟨y56, l56, rfl, h56⟩ := cons_of h55
      obtain ⟨y57, l57, rfl, h57⟩ := cons_of h56
      obtain ⟨y58, l58, rfl, h58⟩ := cons_of h57
      obtain ⟨y59, l59, rfl, h59⟩ := cons_of h58
      obtain ⟨y60, l60, rfl, h60⟩ := cons_of h59
      obtain ⟨y61, l61, rfl, h61⟩ := cons_of h60
      obtain ⟨y62, l62, rfl, h62⟩ := cons_of h61
      obtain ⟨y63, l63, rfl, h63⟩ := cons_of h62
      obtain ⟨y64, l64, rfl, h64⟩ := cons_of h63
      obtain ⟨y65, l65, rfl, h65⟩ := cons_of h64
      obtain ⟨y66, l66, rfl, h66⟩ := cons_of h65
      obtain ⟨y67, l67, rfl, h67⟩ := cons_of h66
      obtain ⟨y68, l68, rfl, h68⟩ := cons_of h67
      obtain ⟨y69, l69, rfl, h69⟩ := cons_of h68
      obtain ⟨y70, l70, rfl, h70⟩ := cons_of h69
      obtain ⟨y71, l71, rfl, h71⟩ := cons_of h70
      obtain ⟨y72, l72, rfl, h72⟩ := cons_of h71
      obtain ⟨y73, l73, rfl, h73⟩ := cons_of h72
      obtain ⟨y74, l74, rfl, h74⟩ := cons_of h73
      obtain ⟨y75, l75, rfl, h75⟩ := cons_of h74
      obtain ⟨y76, l76, rfl, h76⟩ := cons_of h75
      obtain ⟨y77, l77, rfl, h77⟩ := cons_of h76
      obtain ⟨y78, l78, rfl, h78⟩ := cons_of h77
      obtain ⟨y79, l79, rfl, h79⟩ := cons_of h78
      obtain ⟨y80, l80, rfl, h80⟩ := cons_of h79
      obtain ⟨y81, l81, rfl, h81⟩ := cons_of h80
      obtain rfl : l81 = [] := List.length_eq_zero_iff.mp h81
      clear hl h3 h4 h5 h6 h7 h8 h9 h10 h11 h12 h13 h14 h15 h16 h17 h18 h19 h20 h21 h22 h23 h24 h25 h26 h27 h28 h29 h30 h31 h32 h33 h34 h35 h36 h37 h38 h39 h40 h41 h42 h43 h44 h45 h46 h47 h48 h49 h50 h51 h52 h53 h54 h55 h56 h57 h58 h59 h60 h61 h62 h63 h64 h65 h66 h67 h68 h69 h70 h71 h72 h73 h74 h75 h76 h77 h78 h79 h80 h81
      obtain ⟨p, L, v, hp, hL, hst, hfw⟩ := hI
      have HS1 := hide hst
      have HFW := hide hfw
      have hpos := posS_sc hst.sc
      have HPOS := hide hpos
      rw [hpos] at hle
      clear hst hfw hpos HRL
      obtain ⟨s0, s1, s2, s3, s4, x2, x3, x4⟩ := HS1.out.sc.cells
      have hsl := fun w' : World => run_slice_string_l (P := Tryz.prog) w' 9 s Tryz.underlying9 .i64 (p : Int) (by omega) (by omega)
      rw [show ((p : Int)).toNat = p by omega] at hsl
      obtain ⟨t, ht⟩ : ∃ t, s.extract p s.size = t := ⟨_, rfl⟩
      have hts : t.size = s.size - p := by rw [← ht]; exact rest_size s p
      have HFR : Hid (hb t = fr s p) := hide (by rw [← ht]; exact hb_rest s p)
      rw [ht] at hsl
      have HT := hide ht
      clear ht
      go_wp2
      go_quiet (fail)
      have HS2 : Hid (St s T M p L v wS (w1.drewN nq)) := hide ⟨gdr HS1.out.g nq, HS1.out.sc, HS1.out.own⟩
      clear s0 s1 s2 s3 s4 x2 x3 x4 hsl
      generalize w1.drewN nq = w2 at HS2 ⊢
      go_wp2_with fail
      refine (blankLength_any t _ (by omega)).mono ?_
      rintro e w3 ⟨q, rfl, hrun, hq, hb3⟩
      have HS3 := hide (HS2.out.low hb3)
      rw [HFR.out] at hrun
      have HRUN := hide hrun
      clear hb3 hrun HS2
      by_cases hq0 : 0 < q
      · go_wp2_with fail
        refine (pass_any s T M p q v _ hs (by omega) HS3.out.sc).mono ?_
        rintro e w4 ⟨rfl, hsc4, hg4⟩
        have HS4 := hide (HS3.out.pass HCX.out.hT hsc4 hg4)
        clear hsc4 hg4
        have HNX : Hid (ScI s T M wS w4 ∧ s.size - posS T w4 ≤ s.size - posS T wr ∧ s.size - posS T w4 < s.size - posS T w1) := hide (by
          refine ⟨⟨p + q, L, v, by omega, by omega, HS4.out, HFW.out.blanks (by omega) HRUN.out.1⟩, ?_, ?_⟩
          · rw [posS_sc HS4.out.sc]; omega
          · rw [posS_sc HS4.out.sc, HPOS.out]; omega)
        clear HS3 HS4
        go_wp2
        refine wp_goto ?_
        exact ⟨rfl, ⟨⟨_, rfl, rfl⟩, HNX.out.1, HNX.out.2.1⟩, HNX.out.2.2⟩
      · obtain rfl : q = 0 := by omega
        have HNB : Hid (isBl (hb s p) = false) := hide (by have := HRUN.out.2; simpa [fr] using this)
        clear hq0 HRUN hq
        cases hpre : Lib.hasPrefix t.data.toList (ByteArray.mk #[45, 45]).data.toList with
        | true =>
          have HCM : Hid (isCom (hb t) ∧ 2 ≤ t.size) := hide ((com_pre t).1 hpre)
          have h2 := HCM.out.2
          go_wp2_with fail
          refine (lit_pre _ _ _).mono ?_
          rintro e w' ⟨rfl, hw'⟩
          rw [hw', hpre]
          clear hw' w' hpre
          go_wp2_with fail
          refine (readComment_any t m _ (by omega) h2 HCM.out.1 (HCX.out.max HS3.out.g)).mono ?_
          rintro e w4 ⟨r, rfl, hrc, hb4⟩
          have HS4 := hide (HS3.out.low hb4)
          clear hb4 HS3
          obtain ⟨k, tx, len, fc, fa, rfl, hcase⟩ : ∃ (k : Int) (tx : ByteArray) (len fc fa : Int), r = pieceV k tx 0 0 len fc 0 fa ∧ ((∃ q : Nat, len = (q : Int) ∧ fc = 0 ∧ Com (fr s p) (s.size - p) (some q) ∧ 2 ≤ q ∧ p + q ≤ s.size) ∨ (fc = 6 ∧ fa = 2 ∧ Com (fr s p) (s.size - p) none)) := by
            unfold ReadComR at hrc
            rw [HFR.out, hts] at hrc
            rcases hrc with ⟨k, tx, q, fa, h1, h2, h3, rfl⟩ | ⟨h1, rfl⟩
            · exact ⟨_, _, _, _, _, rfl, .inl ⟨q, rfl, rfl, h1, h2, by omega⟩⟩
            · exact ⟨_, _, _, _, _, rfl, .inr ⟨rfl, rfl, h1⟩⟩
          clear hrc
          have HPC : Hid (p < s.size ∧ isCom (fr s p)) := hide ⟨by omega, by rw [← HFR.out]; exact HCM.out.1⟩
          unfold pieceV
          obtain ⟨D, hD⟩ : ∃ D, w4.heap.size = D := ⟨_, rfl⟩
          have HPD : Hid (PBlock D #[.int .i64 k, .int .i64 0, .int .i64 0, .string tx, .int .i64 0, .int .u64 0, .int .i64 len, .int .i64 fc, .int .i64 0, .int .i64 fa] (w4.alloc (.cells #[.int .i64 k, .int .i64 0, .int .i64 0, .string tx, .int .i64 0, .int .u64 0, .int .i64 len, .int .i64 fc, .int .i64 0, .int .i64 fa] 98))) := hide (by rw [← hD]; exact pblock_new _ _)
          have HS5 : Hid (St s T M p L v wS (w4.alloc (.cells #[.int .i64 k, .int .i64 0, .int .i64 0, .string tx, .int .i64 0, .int .u64 0, .int .i64 len, .int .i64 fc, .int .i64 0, .int .i64 fa] 98))) := hide (HS4.out.low ((Below.refl _ _).alloc (Nat.le_refl _) _))
          rename_i K1 a1 K0 a0
          have HK := hide a1
          clear a1
          go_wp2
          generalize w4.alloc (.cells #[.int .i64 k, .int .i64 0, .int .i64 0, .string tx, .int .i64 0, .int .u64 0, .int .i64 len, .int .i64 fc, .int .i64 0, .int .i64 fa] 98) = w5 at HPD HS5 ⊢
          clear hD HS4
          refine HK.out _ _ ?_
          obtain ⟨d0, d1, d2, d3, d4, d5, d6, d7, d8, d9, y0', y1', y2', y3', y4', y5', y6', y7', y8', y9'⟩ := HPD.out.cells
          rcases hcase with ⟨q, rfl, rfl, hcm, hq2, hpq⟩ | ⟨rfl, rfl, hcm⟩
          · have HCO := hide hcm
            clear hcm
            go_wp2_with fail
            clear d0 d1 d2 d3 d4 d5 d6 d7 d8 d9 y0' y1' y2' y3' y4' y5' y6' y7' y8' y9'
            refine (pass_any s T M p q v _ hs hpq HS5.out.sc).mono ?_
            rintro e w6 ⟨rfl, hsc6, hg6⟩
            have HS6 := hide (HS5.out.pass HCX.out.hT hsc6 hg6)
            clear hsc6 hg6
            have HNX : Hid (ScI s T M wS w6 ∧ s.size - posS T w6 ≤ s.size - posS T wr ∧ s.size - posS T w6 < s.size - posS T w1) := hide (by
              refine ⟨⟨p + q, L, v, hpq, by omega, HS6.out, HFW.out.com HPC.out.1 HPC.out.2 HCO.out⟩, ?_, ?_⟩
              · rw [posS_sc HS6.out.sc]; omega
              · rw [posS_sc HS6.out.sc, HPOS.out]; omega)
            clear HS5 HS6
            go_wp2
            refine wp_goto ?_
            exact ⟨rfl, ⟨⟨_, rfl, rfl⟩, HNX.out.1, HNX.out.2.1⟩, HNX.out.2.2⟩
          · have HCO := hide hcm
            clear hcm
            go_wp2_with fail
            clear d0 d1 d2 d3 d4 d5 d6 d7 d8 d9 y0' y1' y2' y3' y4' y5' y6' y7' y8' y9'
            refine (placed_any s T M p 2 6 0 v _ hs (by omega) HS5.out.sc).mono ?_
            rintro e w6 ⟨rfl, hb6⟩
            have HS6 := hide (HS5.out.low hb6)
            clear hb6 HS5
            obtain ⟨f0, f1, f2, g0, g1, g2⟩ := FC.of (HCX.out.fc HS6.out.g)
            go_wp2
            refine jump_ret (then_ret ?_)
            refine bodyPost_ret (v := .agg #[.int .i64 6, .int .i64 ((nlc s (p + 2) : Int) + 1), .int .i64 ((p + 2 : Nat) : Int)]) (by simp [results, Tryz.results41, go_sem, f0, f1, f2]) rfl ⟨_, rfl, ?_⟩
            exact scanR_bad HF.out HLW.out HS6.out (by decide) (HFW.out.comBad HPC.out.1 HPC.out.2 HCO.out) _ _ _
        | false =>
          have HNC : Hid (¬ isCom (fr s p)) := hide (by
            intro hc
            rw [← HFR.out] at hc
            have h1 : 1 < t.size := hb_lt (by have := hc.2; omega)
            have := (com_pre t).2 ⟨hc, h1⟩
            rw [show Lib.hasPrefix t.data.toList [45, 45] = false from hpre] at this
            cases this)
          go_wp2_with fail
          refine (lit_pre _ _ _).mono ?_
          rintro e w' ⟨rfl, hw'⟩
          rw [hw', hpre]
          clear hw' w' hpre
          go_wp2_with fail
          have HRD : Hid (Calls Tryz.prog 71 #[.pointer (some ⟨T, 0, none⟩), .string t] w3 fun e w' => ∃ (tk : Tk) (len fc fa : Int), e = .returned (pieceV tk.kind tk.text tk.int tk.bits len fc 0 fa) ∧ Below w3.heap.size w3 w' ∧
              ((fc = 0 ∧ tk.kind ≠ 0 ∧ ∃ k : Nat, len = (k : Int) ∧ 1 ≤ k ∧ p + k ≤ s.size ∧ Rd s p (.inl (tk, k))) ∨ (fc = 0 ∧ tk.kind = 0 ∧ tk = ⟨0, ⟨#[]⟩, 0, 0⟩ ∧ p = s.size) ∨ (fc ≠ 0 ∧ ∃ o : Nat, fa = (o : Int) ∧ p + o ≤ s.size ∧ p < s.size ∧ Rd s p (.inr (fc, o))))) := hide (by
            by_cases hend : p < s.size
            · have hr := read_any s T M p v m w3 hs hend HS3.out.sc (HCX.out.fix HS3.out.g) (HCX.out.env HS3.out.g) (HCX.out.max HS3.out.g)
              rw [HT.out] at hr
              refine hr.mono ?_
              rintro e w' ⟨r, rfl, hR, hb'⟩
              rcases hR with ⟨tk, k, h1, h2, h3, h4, rfl⟩ | ⟨c, o, h1, h2, h3, rfl⟩
              · exact ⟨tk, _, _, _, rfl, hb', .inl ⟨rfl, h4, k, rfl, h2, h3, h1⟩⟩
              · exact ⟨⟨0, ⟨#[]⟩, 0, 0⟩, _, _, _, rfl, hb', .inr (.inr ⟨h2, o, rfl, h3, hend, h1⟩)⟩
            · obtain rfl : p = s.size := by omega
              have e0 : t = ⟨#[]⟩ := by
                have : t.size = 0 := by omega
                exact ByteArray.ext (Array.eq_empty_of_size_eq_zero this)
              rw [e0]
              refine (read_end T w3).mono ?_
              rintro e w' ⟨rfl, hb'⟩
              exact ⟨⟨0, ⟨#[]⟩, 0, 0⟩, _, _, _, rfl, hb', .inr (.inl ⟨rfl, rfl, rfl, rfl⟩)⟩)
          refine HRD.out.mono ?_
          rintro e w4 ⟨tk, len, fc, fa, rfl, hb4, hcase⟩
          have HS4 := hide (HS3.out.low hb4)
          clear hb4 HS3 HRD
          unfold pieceV
          obtain ⟨D, hD⟩ : ∃ D, w4.heap.size = D := ⟨_, rfl⟩
          have HPD : Hid (PBlock D #[.int .i64 tk.kind, .int .i64 0, .int .i64 0, .string tk.text, .int .i64 tk.int, .int .u64 tk.bits, .int .i64 len, .int .i64 fc, .int .i64 0, .int .i64 fa] (w4.alloc (.cells #[.int .i64 tk.kind, .int .i64 0, .int .i64 0, .string tk.text, .int .i64 tk.int, .int .u64 tk.bits, .int .i64 len, .int .i64 fc, .int .i64 0, .int .i64 fa] 98))) := hide (by rw [← hD]; exact pblock_new _ _)
          have HS5 : Hid (St s T M p L v wS (w4.alloc (.cells #[.int .i64 tk.kind, .int .i64 0, .int .i64 0, .string tk.text, .int .i64 tk.int, .int .u64 tk.bits, .int .i64 len, .int .i64 fc, .int .i64 0, .int .i64 fa] 98))) := hide (HS4.out.low ((Below.refl _ _).alloc (Nat.le_refl _) _))
          have HDN : Hid (wS.heap.size ≤ D ∧ D ≠ T ∧ v.ownBlock ≠ some D) := hide (by
            have h1 := HS4.out.g.size
            have h2 := HS4.out.sc.lt
            refine ⟨by omega, by omega, fun e => ?_⟩
            have := (World.ownsRow.lt HS4.out.own D e).2
            omega)
          rename_i K1 a1 K0 a0
          have HK := hide a1
          clear a1
          go_wp2
          generalize w4.alloc (.cells #[.int .i64 tk.kind, .int .i64 0, .int .i64 0, .string tk.text, .int .i64 tk.int, .int .u64 tk.bits, .int .i64 len, .int .i64 fc, .int .i64 0, .int .i64 fa] 98) = w5 at HPD HS5 ⊢
          clear hD HS4
          refine HK.out _ _ ?_
          clear HK
          have hcase' : (fc = 0 ∧ ((tk.kind ≠ 0 ∧ ∃ k : Nat, len = (k : Int) ∧ 1 ≤ k ∧ p + k ≤ s.size ∧ Rd s p (.inl (tk, k))) ∨ (tk.kind = 0 ∧ tk = ⟨0, ⟨#[]⟩, 0, 0⟩ ∧ p = s.size))) ∨ (fc ≠ 0 ∧ ∃ o : Nat, fa = (o : Int) ∧ p + o ≤ s.size ∧ p < s.size ∧ Rd s p (.inr (fc, o))) := by
            rcases hcase with ⟨h1, h2, h3⟩ | ⟨h1, h2, h3⟩ | h
            · exact .inl ⟨h1, .inl ⟨h2, h3⟩⟩
            · exact .inl ⟨h1, .inr ⟨h2, h3⟩⟩
            · exact .inr h
          clear hcase
          rcases hcase' with ⟨rfl, hok⟩ | ⟨hfc, o, rfl, hpo, hpl, hrd⟩
          · have HOK := hide hok
            clear hok
            obtain ⟨d0, d1, d2, d3, d4, d5, d6, d7, d8, d9, y0', y1', y2', y3', y4', y5', y6', y7', y8', y9'⟩ := HPD.out.cells
            obtain ⟨s0, s1, s2, s3, s4, x2, x3, x4⟩ := HS5.out.sc.cells
            have hDT : D ≠ T := HDN.out.2.1
            have hTD : T ≠ D := hDT.symm
            go_wp2
            go_region
            clear d0 d1 d2 d3 d4 d5 d6 d7 d8 d9 y0' y1' y2' y3' y4' y5' y6' y7' y8' y9' s0 s1 s2 s3 s4 x2 x3 x4
            have HS6 := hide ((HS5.out.far HDN.out.1 hDT HDN.out.2.2 1 (.int .i64 ((nlc s p : Int) + 1))).far HDN.out.1 hDT HDN.out.2.2 2 (.int .i64 (p : Int))).drw
            have HP6 := hide (HPD.out.set12 (x := .int .i64 ((nlc s p : Int) + 1)) (y := .int .i64 (p : Int)))
            generalize ((w5.setCell ⟨D, 1, none⟩ (.int .i64 ((nlc s p : Int) + 1))).setCell ⟨D, 2, none⟩ (.int .i64 (p : Int))).drew = w6 at HS6 HP6 ⊢
            clear HS5 HPD
            obtain ⟨d0, d1, d2, d3, d4, d5, d6, d7, d8, d9, y0', y1', y2', y3', y4', y5', y6', y7', y8', y9'⟩ := HP6.out.cells
            obtain ⟨s0, s1, s2, s3, s4, x2, x3, x4⟩ := HS6.out.sc.cells
            have hDlt := HP6.out.lt
            have hTlt := HS6.out.sc.lt
            have hne1 : w6.heap.size ≠ D := by omega
            have hne2 : w6.heap.size ≠ T := by omega
            have agT : v.ownBlock ≠ some T := fun e => by have := (World.ownsRow.lt HS6.out.own T e).1; have := HCX.out.hT; omega
            have agD : v.ownBlock ≠ some D := HDN.out.2.2
            have HSN : Hid (Sc s T M p v (w6.alloc (.cells (tokC s (tk, p)).toArray 37)).drew) := hide (HS6.out.sc.low (((Below.refl w6.heap.size w6).alloc (Nat.le_refl _) _).drew) hTlt)
            have HPN : Hid (PBlock D #[.int .i64 tk.kind, .int .i64 ((nlc s p : Int) + 1), .int .i64 (p : Int), .string tk.text, .int .i64 tk.int, .int .u64 tk.bits, .int .i64 len, .int .i64 0, .int .i64 0, .int .i64 fa] (w6.alloc (.cells (tokC s (tk, p)).toArray 37)).drew) := hide (HP6.out.low (((Below.refl w6.heap.size w6).alloc (Nat.le_refl _) _).drew) hDlt)
            have HBS : Hid (wS.heap.size ≤ w6.heap.size) := hide HS6.out.g.size
            go_wp2
            go_region_law
              ((refine step_tok (by rfl) _ _ (by rfl) s wS.heap.size w6.heap.size v L (tk, p) (by rfl) (HS6.out.own.low (((Below.refl _ _).alloc (Nat.le_refl _) _).drew)) (by rfl) (heap_alloc_new w6 _) (by omega) (by have := HBS.out; simp; omega) ?_; intro gg cap w9 hown9 hgrow hsz9; have t4 := (hgrow.cell_far ⟨T, 4, none⟩ (by simp; omega) (Ne.symm agT)).trans HSN.out.cells.s4; have u4 := (hgrow.frozen_far ⟨T, 4, none⟩ (by simp; omega) (Ne.symm agT)).trans HSN.out.cells.x4; have e0 := (hgrow.cell_far ⟨D, 0, none⟩ (by simp; omega) (Ne.symm agD)).trans HPN.out.cells.c0; have e1 := (hgrow.cell_far ⟨D, 1, none⟩ (by simp; omega) (Ne.symm agD)).trans HPN.out.cells.c1; have e2 := (hgrow.cell_far ⟨D, 2, none⟩ (by simp; omega) (Ne.symm agD)).trans HPN.out.cells.c2; have e3 := (hgrow.cell_far ⟨D, 3, none⟩ (by simp; omega) (Ne.symm agD)).trans HPN.out.cells.c3; have e4 := (hgrow.cell_far ⟨D, 4, none⟩ (by simp; omega) (Ne.symm agD)).trans HPN.out.cells.c4; have e5 := (hgrow.cell_far ⟨D, 5, none⟩ (by simp; omega) (Ne.symm agD)).trans HPN.out.cells.c5; have e6 := (hgrow.cell_far ⟨D, 6, none⟩ (by simp; omega) (Ne.symm agD)).trans HPN.out.cells.c6))
            all_goals
              have HSA := hide (HS6.out.app HCX.out.hT hown9 hgrow)
              have HFB := hide (HCX.out.fc HSA.out.g)
              clear d0 d1 d2 d3 d4 d5 d6 d7 d8 d9 y0' y1' y2' y3' y4' y5' y6' y7' y8' y9' s0 s1 s2 s3 s4 x2 x3 x4 HSN HPN HBS t4 u4 e1 e2 e3 e4 e5 hown9 hgrow hsz9
              have q0 : (w9.setCell ⟨T, 4, none⟩ (.slice (some ⟨gg, 0, none⟩) (L.length + 1) cap)).cell? ⟨D, 0, none⟩ = some (.int .i64 tk.kind) := cell_far' hDT e0
              have q6 : (w9.setCell ⟨T, 4, none⟩ (.slice (some ⟨gg, 0, none⟩) (L.length + 1) cap)).cell? ⟨D, 6, none⟩ = some (.int .i64 len) := cell_far' hDT e6
              clear e0 e6
              generalize w9.setCell ⟨T, 4, none⟩ (.slice (some ⟨gg, 0, none⟩) (L.length + 1) cap) = wA at HSA HFB q0 q6 ⊢
              rcases HOK.out with ⟨hkz, k, rfl, hk1, hpk, hrd⟩ | ⟨hkz, htk, hpe⟩
              · have HRD := hide hrd
                have hq0 := bq_f hkz
                clear hrd hkz HFB HOK
                go_wp2_with fail
                clear q0 q6
                refine (pass_any s T M p k _ _ hs hpk HSA.out.sc).mono ?_
                rintro e wB ⟨rfl, hscB, hgB⟩
                have HSB := hide (HSA.out.pass HCX.out.hT hscB hgB)
                clear hscB hgB
                have HNX : Hid (ScI s T M wS wB ∧ s.size - posS T wB < s.size - posS T wr) := hide (by
                  refine ⟨⟨p + k, L ++ [(tk, p)], _, hpk, by simp; omega, HSB.out, HFW.out.tok (by omega) HNB.out HNC.out HRD.out⟩, ?_⟩
                  rw [posS_sc HSB.out.sc]; omega)
                clear HSA HSB
                go_wp2
                go_roundw
                case rel => exact ⟨_, _, _, _, _, _, _, _, _, _, _, _, _, _, _, _, _, _, _, _, _, _, _, _, _, _, _, _, _, _, _, _, _, _, _, _, _, _, _, _, _, _, _, _, _, _, _, _, _, _, _, _, _, _, _, _, _, _, _, _, _, _, _, _, _, _, _, _, _, _, _, _, _, _, _, _, _, _, _, HNX.out.1, rfl⟩
                case measure => exact HNX.out.2
              · obtain ⟨f0, f1, f2, g0, g1, g2⟩ := FC.of HFB.out
                rw [hkz] at q0
                go_wp2
                refine jump_ret (then_ret ?_)
                refine bodyPost_ret (v := .agg #[.int .i64 0, .int .i64 0, .int .i64 0]) (by simp [results, Tryz.results41, go_sem, f0, f1, f2]) rfl ⟨_, rfl, ?_⟩
                have hst := HSA.out
                have hfw := HFW.out
                rw [htk, hpe] at hst
                rw [hpe] at hfw
                exact scanR_ok HF.out hFT HCX.out.hF HLW.out hst hfw.end (by omega) _ _ _
          · have HFC := hide hfc
            have HRD := hide hrd
            have hq0 := bq_f hfc
            clear hfc hrd
            obtain ⟨d0, d1, d2, d3, d4, d5, d6, d7, d8, d9, y0', y1', y2', y3', y4', y5', y6', y7', y8', y9'⟩ := HPD.out.cells
            go_wp2_with fail
            clear d0 d1 d2 d3 d4 d5 d6 d7 d8 d9 y0' y1' y2' y3' y4' y5' y6' y7' y8' y9'
            refine (placed_any s T M p o fc 0 v _ hs hpo HS5.out.sc).mono ?_
            rintro e w6 ⟨rfl, hb6⟩
            have HS6 := hide (HS5.out.low hb6)
            clear hb6 HS5
            obtain ⟨f0, f1, f2, g0, g1, g2⟩ := FC.of (HCX.out.fc HS6.out.g)
            go_wp2
            refine jump_ret (then_ret ?_)
            refine bodyPost_ret (v := .agg #[.int .i64 fc, .int .i64 ((nlc s (p + o) : Int) + 1), .int .i64 ((p + o : Nat) : Int)]) (by simp [results, Tryz.results41, go_sem, f0, f1, f2]) rfl ⟨_, rfl, ?_⟩
            exact scanR_bad HF.out HLW.out HS6.out HFC.out (HFW.out.bad hpl HNB.out HNC.out HRD.out) _ _ _
end Go.Proofs.YtmndipnifjpdjaaGreatDoor
