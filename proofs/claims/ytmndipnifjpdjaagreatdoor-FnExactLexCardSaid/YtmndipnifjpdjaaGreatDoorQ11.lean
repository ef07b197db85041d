import Derived.Test.YtmndipnifjpdjaaGreatDoorQ10
namespace Go.Proofs.YtmndipnifjpdjaaGreatDoor
open Go Go.RowKit
set_option linter.unusedVariables false
set_option maxHeartbeats 1600000 in
set_option maxRecDepth 100000 in
theorem pn_dec2 (s : ByteArray) (w : World) (hs : s.size ≤ 100) (hx : 1 < s.size) (hq : (((s[0].toNat : Nat) : Int) == 48) = false) :
    Calls Tryz.prog 37 #[.string s] w fun e w' => ∃ r, e = .returned r ∧ DecR (bs s) r ∧ Below w.heap.size w w' := by
  go_enter Tryz.func37, Tryz.ntmps37
  go_wp2
  go_loopw [4, 5, 6, 7] (DecRel w s) (fun _ _ _ kv _ => s.size - (intOf kv).toNat)
  case atStart =>
    refine ⟨0, 0, 0, [], Nat.zero_le _, rfl, rfl, rfl, hide rfl, hide (fun j hj => by omega), by omega, by omega, by simp, ?_, (Below.refl _ _).alloc (by simp) _⟩
    have := ownB_empty (w.alloc (.cells #[.bool false, .int .i64 0, .int .u64 0] 67))
    simpa using this
  case round =>
    obtain ⟨k, b, p, ds, hk, rfl, rfl, rfl, Hsc, Hall, hb100, hpk, hdk, hown, hb⟩ := hrel
    have hbs := hb.size
    simp at hbs
    by_cases hlt : k < s.size
    · have hc0 : (0 : Int) ≤ ((s[k].toNat : Nat) : Int) := by omega
      have hc1 : ((s[k].toNat : Nat) : Int) < 256 := by have := s[k].toNat_lt; omega
      by_cases hdg : isDig ((s[k].toNat : Nat) : Int) = true
      · have HN := hide (scan_dig hlt Hsc.out hdg)
        have HA := hide (all_next hlt Hall.out (isDP_dig hdg))
        have hn46 : (((s[k].toNat : Nat) : Int) == 46) = false := by rw [beq_eq_false_iff_ne]; intro e; simp [isDig] at hdg; omega
        go_wp2_with (first
          | (go_at_call 34; refine (digit_any _ _ hc0 hc1).mono ?_; rintro e w' ⟨rfl, rfl⟩)
          | (at_builtin; refine app_byte rfl _ _ rfl (w.heap.size + 1) _ ds ((s[k].toNat : Nat) : Int) hown rfl rfl (by omega) (by omega) ?_; intro v' w1 hown' hgrow)
          | go_in)
        go_roundw
        case rel => exact ⟨k + 1, b + p, p, ds ++ [((s[k].toNat : Nat) : Int)], by omega, by go_num, by go_num, rfl, hide HN.out, hide HA.out, by omega, by omega, by simp; omega, hown', hgrow _ _ hb (Nat.le_refl _)⟩
        case measure => simp [intOf]; omega
      · have hdf : isDig ((s[k].toNat : Nat) : Int) = false := by simpa using hdg
        clear hdg
        by_cases h46 : ((s[k].toNat : Nat) : Int) = 46
        · have hy46 : (((s[k].toNat : Nat) : Int) == 46) = true := by rw [h46]; rfl
          have HN := hide (scan_point hlt Hsc.out h46)
          have HA := hide (all_next hlt Hall.out (by simp [isDP, h46]))
          clear h46
          go_wp2_with (go_at_call 34; refine (digit_any _ _ hc0 hc1).mono ?_; rintro e w' ⟨rfl, rfl⟩)
          go_roundw
          case rel => exact ⟨k + 1, b, p + 1, ds, by omega, by go_num, rfl, by go_num, hide HN.out, hide HA.out, by omega, by omega, by omega, hown, hb⟩
          case measure => simp [intOf]; omega
        · have hn46 : (((s[k].toNat : Nat) : Int) == 46) = false := by rw [beq_eq_false_iff_ne]; exact h46
          have Hend := hide (decEnd_mk (by omega) Hsc.out Hall.out (.inr (by rw [bs_getD hlt]; exact isDP_no hdf h46)))
          have HBX := hb
          have hown2 := hown
          obtain ⟨g, cap, hv⟩ : ∃ g cap, u4 = .slice (some ⟨g, 0, none⟩) ds.length cap := by obtain ⟨g, cap, hv, _⟩ := hown.byt; exact ⟨g, cap, hv⟩
          subst hv
          obtain ⟨c0, c1, c2, f0, f1, f2⟩ := resC hb
          by_cases hd0 : ds.length = 0
          · have hz : ((ds.length : Int) == 0) = true := by simp [hd0]
            have HD1 : Hid (DecR (bs s) zeroR) := hide (decR_1 Hend.out (.inl (List.eq_nil_of_length_eq_zero hd0)))
            clear hd0
            go_wp2_with (go_at_call 34; refine (digit_any _ _ hc0 hc1).mono ?_; rintro e w' ⟨rfl, rfl⟩)
            all_goals (refine bodyPost_ret (v := zeroR) ?_ rfl ⟨_, rfl, HD1.out, ?_⟩; (simp [results, Tryz.results37, go_sem, numV, zeroR, c0, c1, c2]); refine Below.setCell (Below.setCell (Below.setCell (below_res hb) ?_ _) ?_ _) ?_ _; all_goals simp)
          · have hz : ((ds.length : Int) == 0) = false := by rw [beq_eq_false_iff_ne]; omega
            by_cases hp1 : 1 < p
            · have HD1 : Hid (DecR (bs s) zeroR) := hide (decR_1 Hend.out (.inr hp1))
              go_wp2_with (go_at_call 34; refine (digit_any _ _ hc0 hc1).mono ?_; rintro e w' ⟨rfl, rfl⟩)
              all_goals (refine bodyPost_ret (v := zeroR) ?_ rfl ⟨_, rfl, HD1.out, ?_⟩; (simp [results, Tryz.results37, go_sem, numV, zeroR, c0, c1, c2]); refine Below.setCell (Below.setCell (Below.setCell (below_res hb) ?_ _) ?_ _) ?_ _; all_goals simp)
            · have Hn1 : Hid (¬ (ds = [] ∨ 1 < p)) := hide (by rintro (h | h); exact hd0 (by rw [h]; rfl); exact hp1 h)
              have hbl := Hend.out.behind (by omega)
              have hks : ((k : Int) == s.size) = false := by rw [beq_eq_false_iff_ne]; omega
              have hes : (s.extract k s.size).size ≤ 100 := by simp; omega
              have hes0 : 0 < (s.extract k s.size).size := by simp; omega
              go_wp2_with (go_at_call 34; refine (digit_any _ _ hc0 hc1).mono ?_; rintro e w' ⟨rfl, rfl⟩)
              refine (exp_any (s.extract k s.size) _ hes hes0).mono ?_
              rintro e w2 ⟨rfl, rfl⟩
              cases hex : expV (bs (s.extract k s.size)) with
              | none =>
                rw [optR_none]
                have HD1 : Hid (DecR (bs s) zeroR) := hide (decR_4 Hend.out Hn1.out hlt hex)
                clear hex
                go_wp2
                all_goals (refine bodyPost_ret (v := zeroR) ?_ rfl ⟨_, rfl, HD1.out, ?_⟩; (simp [results, Tryz.results37, go_sem, numV, zeroR, c0, c1, c2]); refine Below.setCell (Below.setCell (Below.setCell (below_res hb) ?_ _) ?_ _) ?_ _; all_goals simp)
              | some x =>
                rw [optR_some]
                have hxb := expV_bound hex
                have Hex := hide hex
                clear hex
                go_wp2_with fail
                refine (nearest_any ds (x - (b : Int)) _ _ hown2.byt (by omega) Hend.out.hd (by omega) (by omega)).mono ?_
                rintro e w3 hNear
                obtain ⟨W, ok, W0, rfl, hD, hok, hW, hbn⟩ := hNear
                have hb3 := HBX.trans (hbn.mono hbs)
                obtain ⟨d0, d1, d2, g0, g1, g2⟩ := resC hb3
                have hWle := rnd_le hD
                have HD := hide hD
                clear hD c0 c1 c2 f0 f1 f2
                cases ok with
                | false =>
                  have Hok := hide hok
                  clear hok hW
                  have HR : Hid (DecR (bs s) zeroR) := hide (decR_5 Hend.out Hn1.out hlt Hex.out (floatR_no HD.out Hok.out))
                  go_wp2
                  all_goals (refine bodyPost_ret (v := zeroR) ?_ rfl ⟨_, rfl, HR.out, ?_⟩; (simp [results, Tryz.results37, go_sem, numV, zeroR, d0, d1, d2]); refine Below.setCell (Below.setCell (Below.setCell (below_res hb3) ?_ _) ?_ _) ?_ _; all_goals simp)
                | true =>
                  have HW := hide (hW rfl)
                  have Hok := hide hok
                  clear hok hW
                  have HR : Hid (DecR (bs s) (.tuple #[numV true 0 W, .bool true])) := hide (decR_5 Hend.out Hn1.out hlt Hex.out (floatR_yes HD.out Hok.out HW.out))
                  have hWle2 : (W : Int) ≤ 9218868437227405312 := by have := HW.out; unfold infW at hWle; omega
                  have hbs3 := hb3.size
                  simp at hbs3
                  go_wp2_with (go_at_call 46; refine (float_any W _ (by omega) hWle2).mono ?_; rintro e w4 ⟨rfl, hb4⟩; have hb34 := hb3.trans (hb4.mono hbs3); obtain ⟨c0, c1, c2, f0, f1, f2⟩ := resC hb34)
                  all_goals (refine bodyPost_ret (v := .tuple #[numV true 0 W, .bool true]) ?_ rfl ⟨_, rfl, HR.out, ?_⟩; (simp [results, Tryz.results37, go_sem, numV, c0, c1, c2]); refine Below.setCell (Below.setCell (Below.setCell (below_res hb34) ?_ _) ?_ _) ?_ _; all_goals simp)
    · have hkl : k = s.size := by omega
      have Hend := hide (decEnd_mk hk Hsc.out Hall.out (.inl hkl))
      have HBX := hb
      have hown2 := hown
      obtain ⟨g, cap, hv⟩ : ∃ g cap, u4 = .slice (some ⟨g, 0, none⟩) ds.length cap := by obtain ⟨g, cap, hv, _⟩ := hown.byt; exact ⟨g, cap, hv⟩
      subst hv
      obtain ⟨c0, c1, c2, f0, f1, f2⟩ := resC hb
      have Hkl := hide hkl
      by_cases hd0 : ds.length = 0
      · have hz : ((ds.length : Int) == 0) = true := by simp [hd0]
        have HD1 : Hid (DecR (bs s) zeroR) := hide (decR_1 Hend.out (.inl (List.eq_nil_of_length_eq_zero hd0)))
        clear hd0 hkl
        go_wp2
        all_goals (refine bodyPost_ret (v := zeroR) ?_ rfl ⟨_, rfl, HD1.out, ?_⟩; (simp [results, Tryz.results37, go_sem, numV, zeroR, c0, c1, c2]); refine Below.setCell (Below.setCell (Below.setCell (below_res hb) ?_ _) ?_ _) ?_ _; all_goals simp)
      · have hz : ((ds.length : Int) == 0) = false := by rw [beq_eq_false_iff_ne]; omega
        by_cases hp1 : 1 < p
        · have HD1 : Hid (DecR (bs s) zeroR) := hide (decR_1 Hend.out (.inr hp1))
          clear hkl
          go_wp2
          all_goals (refine bodyPost_ret (v := zeroR) ?_ rfl ⟨_, rfl, HD1.out, ?_⟩; (simp [results, Tryz.results37, go_sem, numV, zeroR, c0, c1, c2]); refine Below.setCell (Below.setCell (Below.setCell (below_res hb) ?_ _) ?_ _) ?_ _; all_goals simp)
        · have Hn1 : Hid (¬ (ds = [] ∨ 1 < p)) := hide (by rintro (h | h); exact hd0 (by rw [h]; rfl); exact hp1 h)
          have hbl := Hend.out.behind (by omega)
          have hks : ((k : Int) == s.size) = true := by simp [hkl]
          by_cases hp0 : p = 0
          · have hpz : ((p : Int) == 0) = true := by simp [hp0]
            have Hp0 := hide hp0
            clear hp0 hkl
            go_wp2_with fail
            refine (whole_any ds _ _ hown2.byt (by omega) Hend.out.hd).mono ?_
            rintro e w2 ⟨hwh, rfl⟩
            obtain ⟨x, ok, rfl, hok, hxv⟩ := hwh
            cases ok with
            | true =>
              have Hok : Hid (dval ds < 9223372036854775808) := hide (by simpa using hok.symm)
              have Hx := hide (hxv rfl)
              have HR : Hid (DecR (bs s) (.tuple #[numV false x 0, .bool true])) := hide (by rw [Hx.out]; exact decR_2 Hend.out Hn1.out Hkl.out Hp0.out Hok.out)
              clear hok hxv c0 c1 c2 f0 f1 f2
              go_wp2_with (go_at_call 62; refine (int_any x _).mono ?_; rintro e w3 ⟨rfl, hb3⟩; have hb34 := HBX.trans (hb3.mono hbs); obtain ⟨c0, c1, c2, f0, f1, f2⟩ := resC hb34)
              all_goals (refine bodyPost_ret (v := .tuple #[numV false x 0, .bool true]) ?_ rfl ⟨_, rfl, HR.out, ?_⟩; (simp [results, Tryz.results37, go_sem, numV, c0, c1, c2]); refine Below.setCell (Below.setCell (Below.setCell (below_res hb34) ?_ _) ?_ _) ?_ _; all_goals simp)
            | false =>
              have HokW : Hid (¬ dval ds < 9223372036854775808) := hide (by simpa using hok.symm)
              clear hok hxv
              go_wp2_with fail
              refine (nearest_any ds (-(b : Int)) _ _ hown2.byt (by omega) Hend.out.hd (by omega) (by omega)).mono ?_
              rintro e w3 hNear
              obtain ⟨W, ok, W0, rfl, hD, hok, hW, hbn⟩ := hNear
              have hb3 := HBX.trans (hbn.mono hbs)
              obtain ⟨d0, d1, d2, g0, g1, g2⟩ := resC hb3
              have hWle := rnd_le hD
              have HD := hide hD
              clear hD c0 c1 c2 f0 f1 f2
              cases ok with
              | false =>
                have Hok := hide hok
                clear hok hW
                have HR : Hid (DecR (bs s) zeroR) := hide (decR_3 Hend.out Hn1.out Hkl.out (fun _ => HokW.out) (floatR_no HD.out Hok.out))
                go_wp2
                all_goals (refine bodyPost_ret (v := zeroR) ?_ rfl ⟨_, rfl, HR.out, ?_⟩; (simp [results, Tryz.results37, go_sem, numV, zeroR, d0, d1, d2]); refine Below.setCell (Below.setCell (Below.setCell (below_res hb3) ?_ _) ?_ _) ?_ _; all_goals simp)
              | true =>
                have HW := hide (hW rfl)
                have Hok := hide hok
                clear hok hW
                have HR : Hid (DecR (bs s) (.tuple #[numV true 0 W, .bool true])) := hide (decR_3 Hend.out Hn1.out Hkl.out (fun _ => HokW.out) (floatR_yes HD.out Hok.out HW.out))
                have hWle2 : (W : Int) ≤ 9218868437227405312 := by have := HW.out; unfold infW at hWle; omega
                have hbs3 := hb3.size
                simp at hbs3
                go_wp2_with (go_at_call 46; refine (float_any W _ (by omega) hWle2).mono ?_; rintro e w4 ⟨rfl, hb4⟩; have hb34 := hb3.trans (hb4.mono hbs3); obtain ⟨c0, c1, c2, f0, f1, f2⟩ := resC hb34)
                all_goals (refine bodyPost_ret (v := .tuple #[numV true 0 W, .bool true]) ?_ rfl ⟨_, rfl, HR.out, ?_⟩; (simp [results, Tryz.results37, go_sem, numV, c0, c1, c2]); refine Below.setCell (Below.setCell (Below.setCell (below_res hb34) ?_ _) ?_ _) ?_ _; all_goals simp)
          · have hpz : ((p : Int) == 0) = false := by rw [beq_eq_false_iff_ne]; omega
            have Hp0 := hide hp0
            clear hp0 hkl
            go_wp2_with fail
            refine (nearest_any ds (-(b : Int)) _ _ hown2.byt (by omega) Hend.out.hd (by omega) (by omega)).mono ?_
            rintro e w3 hNear
            obtain ⟨W, ok, W0, rfl, hD, hok, hW, hbn⟩ := hNear
            have hb3 := HBX.trans (hbn.mono hbs)
            obtain ⟨d0, d1, d2, g0, g1, g2⟩ := resC hb3
            have hWle := rnd_le hD
            have HD := hide hD
            clear hD c0 c1 c2 f0 f1 f2
            cases ok with
            | false =>
              have Hok := hide hok
              clear hok hW
              have HR : Hid (DecR (bs s) zeroR) := hide (decR_3 Hend.out Hn1.out Hkl.out (fun h => absurd h Hp0.out) (floatR_no HD.out Hok.out))
              go_wp2
              all_goals (refine bodyPost_ret (v := zeroR) ?_ rfl ⟨_, rfl, HR.out, ?_⟩; (simp [results, Tryz.results37, go_sem, numV, zeroR, d0, d1, d2]); refine Below.setCell (Below.setCell (Below.setCell (below_res hb3) ?_ _) ?_ _) ?_ _; all_goals simp)
            | true =>
              have HW := hide (hW rfl)
              have Hok := hide hok
              clear hok hW
              have HR : Hid (DecR (bs s) (.tuple #[numV true 0 W, .bool true])) := hide (decR_3 Hend.out Hn1.out Hkl.out (fun h => absurd h Hp0.out) (floatR_yes HD.out Hok.out HW.out))
              have hWle2 : (W : Int) ≤ 9218868437227405312 := by have := HW.out; unfold infW at hWle; omega
              have hbs3 := hb3.size
              simp at hbs3
              go_wp2_with (go_at_call 46; refine (float_any W _ (by omega) hWle2).mono ?_; rintro e w4 ⟨rfl, hb4⟩; have hb34 := hb3.trans (hb4.mono hbs3); obtain ⟨c0, c1, c2, f0, f1, f2⟩ := resC hb34)
              all_goals (refine bodyPost_ret (v := .tuple #[numV true 0 W, .bool true]) ?_ rfl ⟨_, rfl, HR.out, ?_⟩; (simp [results, Tryz.results37, go_sem, numV, c0, c1, c2]); refine Below.setCell (Below.setCell (Below.setCell (below_res hb34) ?_ _) ?_ _) ?_ _; all_goals simp)
end Go.Proofs.YtmndipnifjpdjaaGreatDoor
namespace Go.Proofs.YtmndipnifjpdjaaGreatDoor
open Go Go.RowKit
set_option linter.unusedVariables false
set_option maxHeartbeats 1600000 in
set_option maxRecDepth 100000 in
theorem pn_dec3 (s : ByteArray) (w : World) (hs : s.size ≤ 100) (hx : 1 < s.size) (hq : (((s[0].toNat : Nat) : Int) == 48) = true) (hq1 : (((s[1].toNat : Nat) : Int) == 120) = false) (hq2 : (((s[1].toNat : Nat) : Int) == 88) = false) :
    Calls Tryz.prog 37 #[.string s] w fun e w' => ∃ r, e = .returned r ∧ DecR (bs s) r ∧ Below w.heap.size w w' := by
  go_enter Tryz.func37, Tryz.ntmps37
  go_wp2
  go_loopw [4, 5, 6, 7] (DecRel w s) (fun _ _ _ kv _ => s.size - (intOf kv).toNat)
  case atStart =>
    refine ⟨0, 0, 0, [], Nat.zero_le _, rfl, rfl, rfl, hide rfl, hide (fun j hj => by omega), by omega, by omega, by simp, ?_, (Below.refl _ _).alloc (by simp) _⟩
    have := ownB_empty (w.alloc (.cells #[.bool false, .int .i64 0, .int .u64 0] 67))
    simpa using this
  case round =>
    obtain ⟨k, b, p, ds, hk, rfl, rfl, rfl, Hsc, Hall, hb100, hpk, hdk, hown, hb⟩ := hrel
    have hbs := hb.size
    simp at hbs
    by_cases hlt : k < s.size
    · have hc0 : (0 : Int) ≤ ((s[k].toNat : Nat) : Int) := by omega
      have hc1 : ((s[k].toNat : Nat) : Int) < 256 := by have := s[k].toNat_lt; omega
      by_cases hdg : isDig ((s[k].toNat : Nat) : Int) = true
      · have HN := hide (scan_dig hlt Hsc.out hdg)
        have HA := hide (all_next hlt Hall.out (isDP_dig hdg))
        have hn46 : (((s[k].toNat : Nat) : Int) == 46) = false := by rw [beq_eq_false_iff_ne]; intro e; simp [isDig] at hdg; omega
        go_wp2_with (first
          | (go_at_call 34; refine (digit_any _ _ hc0 hc1).mono ?_; rintro e w' ⟨rfl, rfl⟩)
          | (at_builtin; refine app_byte rfl _ _ rfl (w.heap.size + 1) _ ds ((s[k].toNat : Nat) : Int) hown rfl rfl (by omega) (by omega) ?_; intro v' w1 hown' hgrow)
          | go_in)
        go_roundw
        case rel => exact ⟨k + 1, b + p, p, ds ++ [((s[k].toNat : Nat) : Int)], by omega, by go_num, by go_num, rfl, hide HN.out, hide HA.out, by omega, by omega, by simp; omega, hown', hgrow _ _ hb (Nat.le_refl _)⟩
        case measure => simp [intOf]; omega
      · have hdf : isDig ((s[k].toNat : Nat) : Int) = false := by simpa using hdg
        clear hdg
        by_cases h46 : ((s[k].toNat : Nat) : Int) = 46
        · have hy46 : (((s[k].toNat : Nat) : Int) == 46) = true := by rw [h46]; rfl
          have HN := hide (scan_point hlt Hsc.out h46)
          have HA := hide (all_next hlt Hall.out (by simp [isDP, h46]))
          clear h46
          go_wp2_with (go_at_call 34; refine (digit_any _ _ hc0 hc1).mono ?_; rintro e w' ⟨rfl, rfl⟩)
          go_roundw
          case rel => exact ⟨k + 1, b, p + 1, ds, by omega, by go_num, rfl, by go_num, hide HN.out, hide HA.out, by omega, by omega, by omega, hown, hb⟩
          case measure => simp [intOf]; omega
        · have hn46 : (((s[k].toNat : Nat) : Int) == 46) = false := by rw [beq_eq_false_iff_ne]; exact h46
          have Hend := hide (decEnd_mk (by omega) Hsc.out Hall.out (.inr (by rw [bs_getD hlt]; exact isDP_no hdf h46)))
          have HBX := hb
          have hown2 := hown
          obtain ⟨g, cap, hv⟩ : ∃ g cap, u4 = .slice (some ⟨g, 0, none⟩) ds.length cap := by obtain ⟨g, cap, hv, _⟩ := hown.byt; exact ⟨g, cap, hv⟩
          subst hv
          obtain ⟨c0, c1, c2, f0, f1, f2⟩ := resC hb
          by_cases hd0 : ds.length = 0
          · have hz : ((ds.length : Int) == 0) = true := by simp [hd0]
            have HD1 : Hid (DecR (bs s) zeroR) := hide (decR_1 Hend.out (.inl (List.eq_nil_of_length_eq_zero hd0)))
            clear hd0
            go_wp2_with (go_at_call 34; refine (digit_any _ _ hc0 hc1).mono ?_; rintro e w' ⟨rfl, rfl⟩)
            all_goals (refine bodyPost_ret (v := zeroR) ?_ rfl ⟨_, rfl, HD1.out, ?_⟩; (simp [results, Tryz.results37, go_sem, numV, zeroR, c0, c1, c2]); refine Below.setCell (Below.setCell (Below.setCell (below_res hb) ?_ _) ?_ _) ?_ _; all_goals simp)
          · have hz : ((ds.length : Int) == 0) = false := by rw [beq_eq_false_iff_ne]; omega
            by_cases hp1 : 1 < p
            · have HD1 : Hid (DecR (bs s) zeroR) := hide (decR_1 Hend.out (.inr hp1))
              go_wp2_with (go_at_call 34; refine (digit_any _ _ hc0 hc1).mono ?_; rintro e w' ⟨rfl, rfl⟩)
              all_goals (refine bodyPost_ret (v := zeroR) ?_ rfl ⟨_, rfl, HD1.out, ?_⟩; (simp [results, Tryz.results37, go_sem, numV, zeroR, c0, c1, c2]); refine Below.setCell (Below.setCell (Below.setCell (below_res hb) ?_ _) ?_ _) ?_ _; all_goals simp)
            · have Hn1 : Hid (¬ (ds = [] ∨ 1 < p)) := hide (by rintro (h | h); exact hd0 (by rw [h]; rfl); exact hp1 h)
              have hbl := Hend.out.behind (by omega)
              have hks : ((k : Int) == s.size) = false := by rw [beq_eq_false_iff_ne]; omega
              have hes : (s.extract k s.size).size ≤ 100 := by simp; omega
              have hes0 : 0 < (s.extract k s.size).size := by simp; omega
              go_wp2_with (go_at_call 34; refine (digit_any _ _ hc0 hc1).mono ?_; rintro e w' ⟨rfl, rfl⟩)
              refine (exp_any (s.extract k s.size) _ hes hes0).mono ?_
              rintro e w2 ⟨rfl, rfl⟩
              cases hex : expV (bs (s.extract k s.size)) with
              | none =>
                rw [optR_none]
                have HD1 : Hid (DecR (bs s) zeroR) := hide (decR_4 Hend.out Hn1.out hlt hex)
                clear hex
                go_wp2
                all_goals (refine bodyPost_ret (v := zeroR) ?_ rfl ⟨_, rfl, HD1.out, ?_⟩; (simp [results, Tryz.results37, go_sem, numV, zeroR, c0, c1, c2]); refine Below.setCell (Below.setCell (Below.setCell (below_res hb) ?_ _) ?_ _) ?_ _; all_goals simp)
              | some x =>
                rw [optR_some]
                have hxb := expV_bound hex
                have Hex := hide hex
                clear hex
                go_wp2_with fail
                refine (nearest_any ds (x - (b : Int)) _ _ hown2.byt (by omega) Hend.out.hd (by omega) (by omega)).mono ?_
                rintro e w3 hNear
                obtain ⟨W, ok, W0, rfl, hD, hok, hW, hbn⟩ := hNear
                have hb3 := HBX.trans (hbn.mono hbs)
                obtain ⟨d0, d1, d2, g0, g1, g2⟩ := resC hb3
                have hWle := rnd_le hD
                have HD := hide hD
                clear hD c0 c1 c2 f0 f1 f2
                cases ok with
                | false =>
                  have Hok := hide hok
                  clear hok hW
                  have HR : Hid (DecR (bs s) zeroR) := hide (decR_5 Hend.out Hn1.out hlt Hex.out (floatR_no HD.out Hok.out))
                  go_wp2
                  all_goals (refine bodyPost_ret (v := zeroR) ?_ rfl ⟨_, rfl, HR.out, ?_⟩; (simp [results, Tryz.results37, go_sem, numV, zeroR, d0, d1, d2]); refine Below.setCell (Below.setCell (Below.setCell (below_res hb3) ?_ _) ?_ _) ?_ _; all_goals simp)
                | true =>
                  have HW := hide (hW rfl)
                  have Hok := hide hok
                  clear hok hW
                  have HR : Hid (DecR (bs s) (.tuple #[numV true 0 W, .bool true])) := hide (decR_5 Hend.out Hn1.out hlt Hex.out (floatR_yes HD.out Hok.out HW.out))
                  have hWle2 : (W : Int) ≤ 9218868437227405312 := by have := HW.out; unfold infW at hWle; omega
                  have hbs3 := hb3.size
                  simp at hbs3
                  go_wp2_with (go_at_call 46; refine (float_any W _ (by omega) hWle2).mono ?_; rintro e w4 ⟨rfl, hb4⟩; have hb34 := hb3.trans (hb4.mono hbs3); obtain ⟨c0, c1, c2, f0, f1, f2⟩ := resC hb34)
                  all_goals (refine bodyPost_ret (v := .tuple #[numV true 0 W, .bool true]) ?_ rfl ⟨_, rfl, HR.out, ?_⟩; (simp [results, Tryz.results37, go_sem, numV, c0, c1, c2]); refine Below.setCell (Below.setCell (Below.setCell (below_res hb34) ?_ _) ?_ _) ?_ _; all_goals simp)
    · have hkl : k = s.size := by omega
      have Hend := hide (decEnd_mk hk Hsc.out Hall.out (.inl hkl))
      have HBX := hb
      have hown2 := hown
      obtain ⟨g, cap, hv⟩ : ∃ g cap, u4 = .slice (some ⟨g, 0, none⟩) ds.length cap := by obtain ⟨g, cap, hv, _⟩ := hown.byt; exact ⟨g, cap, hv⟩
      subst hv
      obtain ⟨c0, c1, c2, f0, f1, f2⟩ := resC hb
      have Hkl := hide hkl
      by_cases hd0 : ds.length = 0
      · have hz : ((ds.length : Int) == 0) = true := by simp [hd0]
        have HD1 : Hid (DecR (bs s) zeroR) := hide (decR_1 Hend.out (.inl (List.eq_nil_of_length_eq_zero hd0)))
        clear hd0 hkl
        go_wp2
        all_goals (refine bodyPost_ret (v := zeroR) ?_ rfl ⟨_, rfl, HD1.out, ?_⟩; (simp [results, Tryz.results37, go_sem, numV, zeroR, c0, c1, c2]); refine Below.setCell (Below.setCell (Below.setCell (below_res hb) ?_ _) ?_ _) ?_ _; all_goals simp)
      · have hz : ((ds.length : Int) == 0) = false := by rw [beq_eq_false_iff_ne]; omega
        by_cases hp1 : 1 < p
        · have HD1 : Hid (DecR (bs s) zeroR) := hide (decR_1 Hend.out (.inr hp1))
          clear hkl
          go_wp2
          all_goals (refine bodyPost_ret (v := zeroR) ?_ rfl ⟨_, rfl, HD1.out, ?_⟩; (simp [results, Tryz.results37, go_sem, numV, zeroR, c0, c1, c2]); refine Below.setCell (Below.setCell (Below.setCell (below_res hb) ?_ _) ?_ _) ?_ _; all_goals simp)
        · have Hn1 : Hid (¬ (ds = [] ∨ 1 < p)) := hide (by rintro (h | h); exact hd0 (by rw [h]; rfl); exact hp1 h)
          have hbl := Hend.out.behind (by omega)
          have hks : ((k : Int) == s.size) = true := by simp [hkl]
          by_cases hp0 : p = 0
          · have hpz : ((p : Int) == 0) = true := by simp [hp0]
            have Hp0 := hide hp0
            clear hp0 hkl
            go_wp2_with fail
            refine (whole_any ds _ _ hown2.byt (by omega) Hend.out.hd).mono ?_
            rintro e w2 ⟨hwh, rfl⟩
            obtain ⟨x, ok, rfl, hok, hxv⟩ := hwh
            cases ok with
            | true =>
              have Hok : Hid (dval ds < 9223372036854775808) := hide (by simpa using hok.symm)
              have Hx := hide (hxv rfl)
              have HR : Hid (DecR (bs s) (.tuple #[numV false x 0, .bool true])) := hide (by rw [Hx.out]; exact decR_2 Hend.out Hn1.out Hkl.out Hp0.out Hok.out)
              clear hok hxv c0 c1 c2 f0 f1 f2
              go_wp2_with (go_at_call 62; refine (int_any x _).mono ?_; rintro e w3 ⟨rfl, hb3⟩; have hb34 := HBX.trans (hb3.mono hbs); obtain ⟨c0, c1, c2, f0, f1, f2⟩ := resC hb34)
              all_goals (refine bodyPost_ret (v := .tuple #[numV false x 0, .bool true]) ?_ rfl ⟨_, rfl, HR.out, ?_⟩; (simp [results, Tryz.results37, go_sem, numV, c0, c1, c2]); refine Below.setCell (Below.setCell (Below.setCell (below_res hb34) ?_ _) ?_ _) ?_ _; all_goals simp)
            | false =>
              have HokW : Hid (¬ dval ds < 9223372036854775808) := hide (by simpa using hok.symm)
              clear hok hxv
              go_wp2_with fail
              refine (nearest_any ds (-(b : Int)) _ _ hown2.byt (by omega) Hend.out.hd (by omega) (by omega)).mono ?_
              rintro e w3 hNear
              obtain ⟨W, ok, W0, rfl, hD, hok, hW, hbn⟩ := hNear
              have hb3 := HBX.trans (hbn.mono hbs)
              obtain ⟨d0, d1, d2, g0, g1, g2⟩ := resC hb3
              have hWle := rnd_le hD
              have HD := hide hD
              clear hD c0 c1 c2 f0 f1 f2
              cases ok with
              | false =>
                have Hok := hide hok
                clear hok hW
                have HR : Hid (DecR (bs s) zeroR) := hide (decR_3 Hend.out Hn1.out Hkl.out (fun _ => HokW.out) (floatR_no HD.out Hok.out))
                go_wp2
                all_goals (refine bodyPost_ret (v := zeroR) ?_ rfl ⟨_, rfl, HR.out, ?_⟩; (simp [results, Tryz.results37, go_sem, numV, zeroR, d0, d1, d2]); refine Below.setCell (Below.setCell (Below.setCell (below_res hb3) ?_ _) ?_ _) ?_ _; all_goals simp)
              | true =>
                have HW := hide (hW rfl)
                have Hok := hide hok
                clear hok hW
                have HR : Hid (DecR (bs s) (.tuple #[numV true 0 W, .bool true])) := hide (decR_3 Hend.out Hn1.out Hkl.out (fun _ => HokW.out) (floatR_yes HD.out Hok.out HW.out))
                have hWle2 : (W : Int) ≤ 9218868437227405312 := by have := HW.out; unfold infW at hWle; omega
                have hbs3 := hb3.size
                simp at hbs3
                go_wp2_with (go_at_call 46; refine (float_any W _ (by omega) hWle2).mono ?_; rintro e w4 ⟨rfl, hb4⟩; have hb34 := hb3.trans (hb4.mono hbs3); obtain ⟨c0, c1, c2, f0, f1, f2⟩ := resC hb34)
                all_goals (refine bodyPost_ret (v := .tuple #[numV true 0 W, .bool true]) ?_ rfl ⟨_, rfl, HR.out, ?_⟩; (simp [results, Tryz.results37, go_sem, numV, c0, c1, c2]); refine Below.setCell (Below.setCell (Below.setCell (below_res hb34) ?_ _) ?_ _) ?_ _; all_goals simp)
          · have hpz : ((p : Int) == 0) = false := by rw [beq_eq_false_iff_ne]; omega
            have Hp0 := hide hp0
            clear hp0 hkl
            go_wp2_with fail
            refine (nearest_any ds (-(b : Int)) _ _ hown2.byt (by omega) Hend.out.hd (by omega) (by omega)).mono ?_
            rintro e w3 hNear
            obtain ⟨W, ok, W0, rfl, hD, hok, hW, hbn⟩ := hNear
            have hb3 := HBX.trans (hbn.mono hbs)
            obtain ⟨d0, d1, d2, g0, g1, g2⟩ := resC hb3
            have hWle := rnd_le hD
            have HD := hide hD
            clear hD c0 c1 c2 f0 f1 f2
            cases ok with
            | false =>
              have Hok := hide hok
              clear hok hW
              have HR : Hid (DecR (bs s) zeroR) := hide (decR_3 Hend.out Hn1.out Hkl.out (fun h => absurd h Hp0.out) (floatR_no HD.out Hok.out))
              go_wp2
              all_goals (refine bodyPost_ret (v := zeroR) ?_ rfl ⟨_, rfl, HR.out, ?_⟩; (simp [results, Tryz.results37, go_sem, numV, zeroR, d0, d1, d2]); refine Below.setCell (Below.setCell (Below.setCell (below_res hb3) ?_ _) ?_ _) ?_ _; all_goals simp)
            | true =>
              have HW := hide (hW rfl)
              have Hok := hide hok
              clear hok hW
              have HR : Hid (DecR (bs s) (.tuple #[numV true 0 W, .bool true])) := hide (decR_3 Hend.out Hn1.out Hkl.out (fun h => absurd h Hp0.out) (floatR_yes HD.out Hok.out HW.out))
              have hWle2 : (W : Int) ≤ 9218868437227405312 := by have := HW.out; unfold infW at hWle; omega
              have hbs3 := hb3.size
              simp at hbs3
              go_wp2_with (go_at_call 46; refine (float_any W _ (by omega) hWle2).mono ?_; rintro e w4 ⟨rfl, hb4⟩; have hb34 := hb3.trans (hb4.mono hbs3); obtain ⟨c0, c1, c2, f0, f1, f2⟩ := resC hb34)
              all_goals (refine bodyPost_ret (v := .tuple #[numV true 0 W, .bool true]) ?_ rfl ⟨_, rfl, HR.out, ?_⟩; (simp [results, Tryz.results37, go_sem, numV, c0, c1, c2]); refine Below.setCell (Below.setCell (Below.setCell (below_res hb34) ?_ _) ?_ _) ?_ _; all_goals simp)
end Go.Proofs.YtmndipnifjpdjaaGreatDoor
namespace Go.Proofs.YtmndipnifjpdjaaGreatDoor
open Go Go.RowKit
set_option linter.unusedVariables false
theorem pn_large (s : ByteArray) (w : World) (hs : 100 < s.size) (hr : s.size ≤ 140737488351232) :
    Calls Tryz.prog 37 #[.string s] w fun e w' => e = .returned zeroR ∧ Below w.heap.size w w' := by
  go_enter Tryz.func37, Tryz.ntmps37
  go_wp2
  refine bodyPost_ret (v := zeroR) (by simp [results, Tryz.results37, go_sem, numV, zeroR]) rfl ⟨rfl, ?_⟩
  exact (Below.refl _ _).alloc (Nat.le_refl _) _
set_option maxHeartbeats 800000 in
theorem pn_hex (s : ByteArray) (w : World) (hs : s.size ≤ 100) (hx : 1 < s.size) (hq : (((s[0].toNat : Nat) : Int) == 48) = true)
    (hq1 : (((s[1].toNat : Nat) : Int) == 120) = true ∨ ((((s[1].toNat : Nat) : Int) == 120) = false ∧ (((s[1].toNat : Nat) : Int) == 88) = true)) :
    Calls Tryz.prog 37 #[.string s] w fun e w' => e = .returned (hexR (s.extract 2 s.size)) ∧ Below w.heap.size w w' := by
  have hsz : (s.extract 2 s.size).size ≤ 100 := by simp; omega
  rcases hq1 with hq1 | ⟨hq1, hq2⟩
  · go_enter Tryz.func37, Tryz.ntmps37
    go_wp2_with fail
    refine (hex_any (s.extract 2 s.size) _ hsz).mono ?_
    rintro e w1 ⟨rfl, hb⟩
    have hb' : Below (w.heap.size + 1) (w.alloc (.cells #[.bool false, .int .i64 0, .int .u64 0] 67)) w1 := hb.mono (by simp)
    obtain ⟨c0, c1, c2, f0, f1, f2⟩ := resC hb'
    obtain ⟨x, ok, hh⟩ : ∃ x ok, hexR (s.extract 2 s.size) = .tuple #[.agg #[.bool false, .int .i64 x, .int .u64 0], .bool ok] := ⟨_, _, by unfold hexR numV; exact Eq.refl _⟩
    have Hh := hide hh
    rw [hh]
    clear hh
    go_wp2
    refine bodyPost_ret (v := .tuple #[.agg #[.bool false, .int .i64 x, .int .u64 0], .bool ok]) ?_ rfl ⟨by rw [Hh.out], ?_⟩
    · simp [results, Tryz.results37, go_sem, c0, c1, c2]
    · refine Below.setCell (Below.setCell (Below.setCell (below_res hb') ?_ _) ?_ _) ?_ _
      all_goals simp
  · go_enter Tryz.func37, Tryz.ntmps37
    go_wp2_with fail
    refine (hex_any (s.extract 2 s.size) _ hsz).mono ?_
    rintro e w1 ⟨rfl, hb⟩
    have hb' : Below (w.heap.size + 1) (w.alloc (.cells #[.bool false, .int .i64 0, .int .u64 0] 67)) w1 := hb.mono (by simp)
    obtain ⟨c0, c1, c2, f0, f1, f2⟩ := resC hb'
    obtain ⟨x, ok, hh⟩ : ∃ x ok, hexR (s.extract 2 s.size) = .tuple #[.agg #[.bool false, .int .i64 x, .int .u64 0], .bool ok] := ⟨_, _, by unfold hexR numV; exact Eq.refl _⟩
    have Hh := hide hh
    rw [hh]
    clear hh
    go_wp2
    refine bodyPost_ret (v := .tuple #[.agg #[.bool false, .int .i64 x, .int .u64 0], .bool ok]) ?_ rfl ⟨by rw [Hh.out], ?_⟩
    · simp [results, Tryz.results37, go_sem, c0, c1, c2]
    · refine Below.setCell (Below.setCell (Below.setCell (below_res hb') ?_ _) ?_ _) ?_ _
      all_goals simp
theorem spec_parse (s : ByteArray) (w : World) (hr : s.size ≤ 140737488351232) :
    Calls Tryz.prog 37 #[.string s] w fun e w' => ∃ r, e = .returned r ∧ PNR s r ∧ Below w.heap.size w w' := by
  by_cases hl : 100 < s.size
  · refine (pn_large s w hl hr).mono ?_
    rintro e w' ⟨rfl, hb⟩
    exact ⟨_, rfl, by unfold PNR; rw [if_pos hl], hb⟩
  · have hs : s.size ≤ 100 := by omega
    by_cases hx : 1 < s.size
    · have g0 : (bs s).getD 0 0 = ((s[0].toNat : Nat) : Int) := bs_getD (by omega)
      have g1 : (bs s).getD 1 0 = ((s[1].toNat : Nat) : Int) := bs_getD hx
      have hlen : decide (1 < (bs s).length) = true := by rw [bs_length]; simpa using hx
      by_cases hq : ((s[0].toNat : Nat) : Int) = 48
      · have bq : (((s[0].toNat : Nat) : Int) == 48) = true := by rw [beq_iff_eq]; exact hq
        by_cases hq1 : ((s[1].toNat : Nat) : Int) = 120 ∨ ((s[1].toNat : Nat) : Int) = 88
        · have hp : isHexP (bs s) = true := by unfold isHexP; rw [hlen, g0, g1]; simp [hq, hq1]
          refine (pn_hex s w hs hx bq (by
            by_cases h1 : ((s[1].toNat : Nat) : Int) = 120
            · left; rw [beq_iff_eq]; exact h1
            · right; exact ⟨by rw [beq_eq_false_iff_ne]; exact h1, by rw [beq_iff_eq]; exact hq1.resolve_left h1⟩)).mono ?_
          rintro e w' ⟨rfl, hb⟩
          exact ⟨_, rfl, by unfold PNR; rw [if_neg hl, if_pos hp], hb⟩
        · have hp : ¬ isHexP (bs s) = true := by unfold isHexP; rw [hlen, g0, g1]; simp [hq]; omega
          refine (pn_dec3 s w hs hx bq (by rw [beq_eq_false_iff_ne]; omega) (by rw [beq_eq_false_iff_ne]; omega)).mono ?_
          rintro e w' ⟨r, rfl, hr, hb⟩
          exact ⟨r, rfl, by unfold PNR; rw [if_neg hl, if_neg hp]; exact hr, hb⟩
      · have hp : ¬ isHexP (bs s) = true := by unfold isHexP; rw [hlen, g0, g1]; simp [hq]
        refine (pn_dec2 s w hs hx (by rw [beq_eq_false_iff_ne]; exact hq)).mono ?_
        rintro e w' ⟨r, rfl, hr, hb⟩
        exact ⟨r, rfl, by unfold PNR; rw [if_neg hl, if_neg hp]; exact hr, hb⟩
    · have hp : ¬ isHexP (bs s) = true := by unfold isHexP; rw [bs_length]; simp [hx]
      refine (pn_dec1 s w hs (by omega)).mono ?_
      rintro e w' ⟨r, rfl, hr, hb⟩
      exact ⟨r, rfl, by unfold PNR; rw [if_neg hl, if_neg hp]; exact hr, hb⟩
theorem FloatR.unique {N : Nat} {E : Int} {r r' : Value} (h : FloatR N E r) (h' : FloatR N E r') : r = r' := by
  obtain ⟨W, h1, rfl⟩ := h
  obtain ⟨W', h1', rfl⟩ := h'
  have : W = W' := IsRnd.unique h1 h1'
  rw [this]
theorem PNR.unique {s : ByteArray} {r r' : Value} (h : PNR s r) (h' : PNR s r') : r = r' := by
  unfold PNR at h h'
  split at h
  · rename_i c; rw [if_pos c] at h'; rw [h, h']
  · rename_i c
    rw [if_neg c] at h'
    split at h
    · rename_i c2; rw [if_pos c2] at h'; rw [h, h']
    · rename_i c2
      rw [if_neg c2] at h'
      unfold DecR at h h'
      split at h
      · rename_i c3; rw [if_pos c3] at h'; rw [h, h']
      · rename_i c3
        rw [if_neg c3] at h'
        split at h
        · rename_i c4; rw [if_pos c4] at h'; rw [h, h']
        · rename_i c4
          rw [if_neg c4] at h'
          split at h
          · rename_i c5; rw [c5] at h'; rw [h]; exact h'.symm
          · rename_i x c5; rw [c5] at h'; exact FloatR.unique h h'
end Go.Proofs.YtmndipnifjpdjaaGreatDoor
