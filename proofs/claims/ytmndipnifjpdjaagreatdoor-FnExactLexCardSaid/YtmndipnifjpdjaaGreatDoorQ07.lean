import Derived.Test.YtmndipnifjpdjaaGreatDoorQ03
namespace Go.Proofs.YtmndipnifjpdjaaGreatDoor
open Go Go.RowKit
set_option linter.unusedVariables false
theorem exp_E_0 (s : ByteArray) (w : World) (h0 : 0 < s.size) (hs1 : s.size ≤ 1) (hE1 : (((s[0].toNat : Nat) : Int) != 101) = true) (hE3 : (((s[0].toNat : Nat) : Int) != 69) = false) (HV : Hid (expV (bs s) = none)) :
    Calls Tryz.prog 63 #[.string s] w fun e w' => e = .returned (optR (expV (bs s))) ∧ w' = w := by
  go_enter Tryz.func63, Tryz.ntmps63
  go_wp2
  go_ret2
  refine ⟨?_, rfl⟩
  rw [HV.out, optR_none]
  rfl
set_option maxHeartbeats 1600000 in
set_option maxRecDepth 100000 in
theorem exp_E_m (s : ByteArray) (w : World) (hs : s.size ≤ 100) (h0 : 0 < s.size) (hs2 : 2 ≤ s.size) (hx : 0 < (s.extract 1 s.size).size) (hE1 : (((s[0].toNat : Nat) : Int) != 101) = true) (hE3 : (((s[0].toNat : Nat) : Int) != 69) = false) (b1 : ((((s.extract 1 s.size)[0]'hx).toNat : Int) == 45) = true)
    (HV : Hid (expV (bs s) = expS ((bs s).drop 1))) (HB : Hid (expS ((bs s).drop 1) = (expB (bs ((s.extract 1 s.size).extract 1 (s.size - 1)))).map (fun x => -x))) :
    Calls Tryz.prog 63 #[.string s] w fun e w' => e = .returned (optR (expV (bs s))) ∧ w' = w := by
  by_cases hg : 3 ≤ s.size ∧ s.size ≤ 5
  · obtain ⟨hg1, hg2⟩ := hg
    have ht1 : 1 ≤ ((s.extract 1 s.size).extract 1 (s.size - 1)).size := by rw [size_tail2 s]; omega
    have ht3 : ((s.extract 1 s.size).extract 1 (s.size - 1)).size ≤ 3 := by rw [size_tail2 s]; omega
    go_enter Tryz.func63, Tryz.ntmps63
    go_wp2
    generalize ht : (s.extract 1 s.size).extract 1 (s.size - 1) = t at *
    have Ht := hide ht
    clear ht
    go_loop [6, 7] (ExpRel t) (fun _ iv => t.size - (intOf iv).toNat)
    case atStart => exact ⟨0, 0, Nat.zero_le _, rfl, rfl, by omega, by omega, hide rfl, hide (fun j hj => by omega)⟩
    case round =>
      obtain ⟨k, x, hk, rfl, rfl, hx0, hx1, Hx, Ha⟩ := hrel
      by_cases hlt : k < t.size
      · have hc0 : (0 : Int) ≤ ((t[k].toNat : Nat) : Int) := by omega
        have hc1 : ((t[k].toNat : Nat) : Int) < 256 := by have := t[k].toNat_lt; omega
        by_cases hdg : isDig ((t[k].toNat : Nat) : Int) = true
        · have HN := hide (expRel_next ht3 hlt Hx.out Ha.out hdg)
          have hN2 := HN.out.2.1
          have hcd : 48 ≤ ((t[k].toNat : Nat) : Int) := by have h := hdg; simp [isDig] at h; omega
          go_wp2_with (go_at_call 34; refine (digit_any _ _ hc0 hc1).mono ?_; rintro e w' ⟨rfl, rfl⟩)
          go_round
          case rel => exact ⟨k + 1, x * 10 + ((t[k].toNat : Nat) : Int) - 48, by omega, by go_num, rfl, by omega, HN.out.2.1, hide HN.out.1, hide HN.out.2.2⟩
          case measure => simp [intOf]; omega
        · have hdf : isDig ((t[k].toNat : Nat) : Int) = false := by simpa using hdg
          have HN := hide (expB_no hlt hdf)
          clear hdg
          go_wp2_with (go_at_call 34; refine (digit_any _ _ hc0 hc1).mono ?_; rintro e w' ⟨rfl, rfl⟩)
          go_ret2
          refine ⟨?_, rfl⟩
          rw [HV.out, HB.out, HN.out, Option.map_none, optR_none]
          rfl
      · have hkl : k = t.size := by omega
        subst hkl
        have HN := hide (expB_yes ht1 ht3 Hx.out Ha.out)
        go_wp2
        go_ret2
        refine ⟨?_, rfl⟩
        rw [HV.out, HB.out, HN.out, Option.map_some, optR_some]
        rfl
  · have HN : Hid (expB (bs ((s.extract 1 s.size).extract 1 (s.size - 1))) = none) := hide (expB_len (by rw [bs_length, size_tail2 s]; omega))
    by_cases hg1 : s.size < 3
    all_goals go_enter Tryz.func63, Tryz.ntmps63
    all_goals go_wp2
    all_goals go_ret2
    all_goals refine ⟨?_, rfl⟩
    all_goals rw [HV.out, HB.out, HN.out, Option.map_none, optR_none]
    all_goals rfl
end Go.Proofs.YtmndipnifjpdjaaGreatDoor
