import Derived.Test.YtamdnnkdnhkghaaGreatDoorQ15
namespace Go.Proofs.YtamdnnkdnhkghaaGreatDoor
open Go Go.RowKit
set_option linter.unusedVariables false

set_option maxHeartbeats 1600000 in
set_option maxRecDepth 100000 in
theorem pn_dec1 (s : ByteArray) (w : World) (hs : s.size ≤ 100) (hx : s.size ≤ 1) :
    Calls Tryz.prog 69 #[.string s] w fun e w' => ∃ r, e = .returned r ∧ DecR (bs s) r ∧ Below w.heap.size w w' := by
  go_enter Tryz.func69, Tryz.ntmps69
  go_wp2
  go_loopw [4, 5, 6, 7] (DecRel w s) (fun _ _ _ kv _ => s.size - (intOf kv).toNat)
  case atStart =>
    refine ⟨0, 0, 0, [], Nat.zero_le _, rfl, rfl, rfl, hide rfl, hide (fun j hj => by omega), by omega, by omega, by simp, ?_, (Below.refl _ _).alloc (by simp) _⟩
    have := ownB_empty (w.alloc (.cells #[.bool false, .int .i64 0, .int .u64 0] 26))
    simpa using this
  case round =>
    obtain ⟨k, b, p, ds, hk, rfl, rfl, rfl, Hsc, Hall, hb100, hpk, hdk, hown, hb⟩ := hrel
    have hbs := hb.size
    simp at hbs
    by_cases hlt : k < s.size
    · have hc0 : (0 : Int) ≤ ((s[k].toNat : Nat) : Int) := by omega
      have hc1 : ((s[k].toNat : Nat) : Int) < 256 := by have := s[k].toNat_lt; omega
      by_cases hdg : isDig ((s[k].toNat : Nat) : Int) = true
      · have HN := hide (scan_dig hlt Hsc.out hdg)
        have HA := hide (all_next hlt Hall.out (isDP_dig hdg))
        have hn46 : (((s[k].toNat : Nat) : Int) == 46) = false := by rw [beq_eq_false_iff_ne]; intro e; simp [isDig] at hdg; omega
        go_wp2_with (first
          | (go_at_call 115; refine (digit_any _ _ hc0 hc1).mono ?_; rintro e w' ⟨rfl, rfl⟩)
          | (at_builtin; refine app_byte rfl _ _ rfl (w.heap.size + 1) _ ds ((s[k].toNat : Nat) : Int) hown rfl rfl (by omega) (by omega) ?_; intro v' w1 hown' hgrow)
          | go_in)
        go_roundw
        case rel => exact ⟨k + 1, b + p, p, ds ++ [((s[k].toNat : Nat) : Int)], by omega, by go_num, by go_num, rfl, hide HN.out, hide HA.out, by omega, by omega, by simp; omega, hown', hgrow _ _ hb (Nat.le_refl _)⟩
        case measure => simp [intOf]; omega
      · have hdf : isDig ((s[k].toNat : Nat) : Int) = false := by simpa using hdg
        clear hdg
        by_cases h46 : ((s[k].toNat : Nat) : Int) = 46
        · have hy46 : (((s[k].toNat : Nat) : Int) == 46) = true := by rw [h46]; rfl
          have HN := hide (scan_point hlt Hsc.out h46)
          have HA := hide (all_next hlt Hall.out (by simp [isDP, h46]))
          clear h46
          go_wp2_with (go_at_call 115; refine (digit_any _ _ hc0 hc1).mono ?_; rintro e w' ⟨rfl, rfl⟩)
          go_roundw
          case rel => exact ⟨k + 1, b, p + 1, ds, by omega, by go_num, rfl, by go_num, hide HN.out, hide HA.out, by omega, by omega, by omega, hown, hb⟩
          case measure => simp [intOf]; omega
        · have hn46 : (((s[k].toNat : Nat) : Int) == 46) = false := by rw [beq_eq_false_iff_ne]; exact h46
          have Hend := hide (decEnd_mk (by omega) Hsc.out Hall.out (.inr (by rw [bs_getD hlt]; exact isDP_no hdf h46)))
          have HBX := hb
          have hown2 := hown
          obtain ⟨g, cap, hv⟩ : ∃ g cap, u4 = .slice (some ⟨g, 0, none⟩) ds.length cap := by obtain ⟨g, cap, hv, _⟩ := hown.byt; exact ⟨g, cap, hv⟩
          subst hv
          obtain ⟨c0, c1, c2, f0, f1, f2⟩ := resC hb
          by_cases hd0 : ds.length = 0
          · have hz : ((ds.length : Int) == 0) = true := by simp [hd0]
            have HD1 : Hid (DecR (bs s) zeroR) := hide (decR_1 Hend.out (.inl (List.eq_nil_of_length_eq_zero hd0)))
            clear hd0
            go_wp2_with (go_at_call 115; refine (digit_any _ _ hc0 hc1).mono ?_; rintro e w' ⟨rfl, rfl⟩)
            all_goals (refine bodyPost_ret (v := zeroR) ?_ rfl ⟨_, rfl, HD1.out, ?_⟩; (simp [results, Tryz.results69, go_sem, numV, zeroR, c0, c1, c2]); refine Below.setCell (Below.setCell (Below.setCell (below_res hb) ?_ _) ?_ _) ?_ _; all_goals simp)
          · exact absurd (show ds.length = 0 by omega) hd0
    · have hkl : k = s.size := by omega
      have Hend := hide (decEnd_mk hk Hsc.out Hall.out (.inl hkl))
      have HBX := hb
      have hown2 := hown
      obtain ⟨g, cap, hv⟩ : ∃ g cap, u4 = .slice (some ⟨g, 0, none⟩) ds.length cap := by obtain ⟨g, cap, hv, _⟩ := hown.byt; exact ⟨g, cap, hv⟩
      subst hv
      obtain ⟨c0, c1, c2, f0, f1, f2⟩ := resC hb
      have Hkl := hide hkl
      by_cases hd0 : ds.length = 0
      · have hz : ((ds.length : Int) == 0) = true := by simp [hd0]
        have HD1 : Hid (DecR (bs s) zeroR) := hide (decR_1 Hend.out (.inl (List.eq_nil_of_length_eq_zero hd0)))
        clear hd0 hkl
        go_wp2
        all_goals (refine bodyPost_ret (v := zeroR) ?_ rfl ⟨_, rfl, HD1.out, ?_⟩; (simp [results, Tryz.results69, go_sem, numV, zeroR, c0, c1, c2]); refine Below.setCell (Below.setCell (Below.setCell (below_res hb) ?_ _) ?_ _) ?_ _; all_goals simp)
      · have hz : ((ds.length : Int) == 0) = false := by rw [beq_eq_false_iff_ne]; omega
        by_cases hp1 : 1 < p
        · have HD1 : Hid (DecR (bs s) zeroR) := hide (decR_1 Hend.out (.inr hp1))
          clear hkl
          go_wp2
          all_goals (refine bodyPost_ret (v := zeroR) ?_ rfl ⟨_, rfl, HD1.out, ?_⟩; (simp [results, Tryz.results69, go_sem, numV, zeroR, c0, c1, c2]); refine Below.setCell (Below.setCell (Below.setCell (below_res hb) ?_ _) ?_ _) ?_ _; all_goals simp)
        · have Hn1 : Hid (¬ (ds = [] ∨ 1 < p)) := hide (by rintro (h | h); exact hd0 (by rw [h]; rfl); exact hp1 h)
          have hbl := Hend.out.behind (by omega)
          have hks : ((k : Int) == s.size) = true := by simp [hkl]
          by_cases hp0 : p = 0
          · have hpz : ((p : Int) == 0) = true := by simp [hp0]
            have Hp0 := hide hp0
            clear hp0 hkl
            go_wp2_with fail
            refine (whole_any ds _ _ hown2.byt (by omega) Hend.out.hd).mono ?_
            rintro e w2 ⟨hwh, rfl⟩
            obtain ⟨x, ok, rfl, hok, hxv⟩ := hwh
            cases ok with
            | true =>
              have Hok : Hid (dval ds < 9223372036854775808) := hide (by simpa using hok.symm)
              have Hx := hide (hxv rfl)
              have HR : Hid (DecR (bs s) (.tuple #[numV false x 0, .bool true])) := hide (by rw [Hx.out]; exact decR_2 Hend.out Hn1.out Hkl.out Hp0.out Hok.out)
              clear hok hxv c0 c1 c2 f0 f1 f2
              go_wp2_with (go_at_call 30; refine (int_any x _).mono ?_; rintro e w3 ⟨rfl, hb3⟩; have hb34 := HBX.trans (hb3.mono hbs); obtain ⟨c0, c1, c2, f0, f1, f2⟩ := resC hb34)
              all_goals (refine bodyPost_ret (v := .tuple #[numV false x 0, .bool true]) ?_ rfl ⟨_, rfl, HR.out, ?_⟩; (simp [results, Tryz.results69, go_sem, numV, c0, c1, c2]); refine Below.setCell (Below.setCell (Below.setCell (below_res hb34) ?_ _) ?_ _) ?_ _; all_goals simp)
            | false =>
              have HokW : Hid (¬ dval ds < 9223372036854775808) := hide (by simpa using hok.symm)
              clear hok hxv
              go_wp2_with fail
              refine (nearest_any ds (-(b : Int)) _ _ hown2.byt (by omega) Hend.out.hd (by omega) (by omega)).mono ?_
              rintro e w3 hNear
              obtain ⟨W, ok, W0, rfl, hD, hok, hW, hbn⟩ := hNear
              have hb3 := HBX.trans (hbn.mono hbs)
              obtain ⟨d0, d1, d2, g0, g1, g2⟩ := resC hb3
              have hWle := rnd_le hD
              have HD := hide hD
              clear hD c0 c1 c2 f0 f1 f2
              cases ok with
              | false =>
                have Hok := hide hok
                clear hok hW
                have HR : Hid (DecR (bs s) zeroR) := hide (decR_3 Hend.out Hn1.out Hkl.out (fun _ => HokW.out) (floatR_no HD.out Hok.out))
                go_wp2
                all_goals (refine bodyPost_ret (v := zeroR) ?_ rfl ⟨_, rfl, HR.out, ?_⟩; (simp [results, Tryz.results69, go_sem, numV, zeroR, d0, d1, d2]); refine Below.setCell (Below.setCell (Below.setCell (below_res hb3) ?_ _) ?_ _) ?_ _; all_goals simp)
              | true =>
                have HW := hide (hW rfl)
                have Hok := hide hok
                clear hok hW
                have HR : Hid (DecR (bs s) (.tuple #[numV true 0 W, .bool true])) := hide (decR_3 Hend.out Hn1.out Hkl.out (fun _ => HokW.out) (floatR_yes HD.out Hok.out HW.out))
                have hWle2 : (W : Int) ≤ 9218868437227405312 := by have := HW.out; unfold infW at hWle; omega
                have hbs3 := hb3.size
                simp at hbs3
                go_wp2_with (go_at_call 28; refine (float_any W _ (by omega) hWle2).mono ?_; rintro e w4 ⟨rfl, hb4⟩; have hb34 := hb3.trans (hb4.mono hbs3); obtain ⟨c0, c1, c2, f0, f1, f2⟩ := resC hb34)
                all_goals (refine bodyPost_ret (v := .tuple #[numV true 0 W, .bool true]) ?_ rfl ⟨_, rfl, HR.out, ?_⟩; (simp [results, Tryz.results69, go_sem, numV, c0, c1, c2]); refine Below.setCell (Below.setCell (Below.setCell (below_res hb34) ?_ _) ?_ _) ?_ _; all_goals simp)
          · have hpz : ((p : Int) == 0) = false := by rw [beq_eq_false_iff_ne]; omega
            have Hp0 := hide hp0
            clear hp0 hkl
            go_wp2_with fail
            refine (nearest_any ds (-(b : Int)) _ _ hown2.byt (by omega) Hend.out.hd (by omega) (by omega)).mono ?_
            rintro e w3 hNear
            obtain ⟨W, ok, W0, rfl, hD, hok, hW, hbn⟩ := hNear
            have hb3 := HBX.trans (hbn.mono hbs)
            obtain ⟨d0, d1, d2, g0, g1, g2⟩ := resC hb3
            have hWle := rnd_le hD
            have HD := hide hD
            clear hD c0 c1 c2 f0 f1 f2
            cases ok with
            | false =>
              have Hok := hide hok
              clear hok hW
              have HR : Hid (DecR (bs s) zeroR) := hide (decR_3 Hend.out Hn1.out Hkl.out (fun h => absurd h Hp0.out) (floatR_no HD.out Hok.out))
              go_wp2
              all_goals (refine bodyPost_ret (v := zeroR) ?_ rfl ⟨_, rfl, HR.out, ?_⟩; (simp [results, Tryz.results69, go_sem, numV, zeroR, d0, d1, d2]); refine Below.setCell (Below.setCell (Below.setCell (below_res hb3) ?_ _) ?_ _) ?_ _; all_goals simp)
            | true =>
              have HW := hide (hW rfl)
              have Hok := hide hok
              clear hok hW
              have HR : Hid (DecR (bs s) (.tuple #[numV true 0 W, .bool true])) := hide (decR_3 Hend.out Hn1.out Hkl.out (fun h => absurd h Hp0.out) (floatR_yes HD.out Hok.out HW.out))
              have hWle2 : (W : Int) ≤ 9218868437227405312 := by have := HW.out; unfold infW at hWle; omega
              have hbs3 := hb3.size
              simp at hbs3
              go_wp2_with (go_at_call 28; refine (float_any W _ (by omega) hWle2).mono ?_; rintro e w4 ⟨rfl, hb4⟩; have hb34 := hb3.trans (hb4.mono hbs3); obtain ⟨c0, c1, c2, f0, f1, f2⟩ := resC hb34)
              all_goals (refine bodyPost_ret (v := .tuple #[numV true 0 W, .bool true]) ?_ rfl ⟨_, rfl, HR.out, ?_⟩; (simp [results, Tryz.results69, go_sem, numV, c0, c1, c2]); refine Below.setCell (Below.setCell (Below.setCell (below_res hb34) ?_ _) ?_ _) ?_ _; all_goals simp)
end Go.Proofs.YtamdnnkdnhkghaaGreatDoor
