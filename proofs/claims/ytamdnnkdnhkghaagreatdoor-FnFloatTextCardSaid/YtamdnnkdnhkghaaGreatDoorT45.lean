import Derived.Test.YtamdnnkdnhkghaaGreatDoorT44
namespace Go.Proofs.YtamdnnkdnhkghaaGreatDoor

open Go Go.RowKit

set_option linter.unusedVariables false

/-- How 'l01DrawWord' ends. -/
def DWR (B S : Nat) (w0 : World) (e : Ending) (w' : World) : Prop := ∃ W : Nat, e = .returned (.int .u64 W) ∧ W < 18446744073709551616 ∧ Drew B S w0 w'

theorem dwr_of {B S : Nat} {w0 w' : World} {x : Int} (h0 : 0 ≤ x) (h1 : x < 18446744073709551616) (h : Drew B S w0 w') : DWR B S w0 (.returned (.int .u64 x)) w' := by
  obtain ⟨n, rfl⟩ : ∃ n : Nat, x = n := ⟨x.toNat, by omega⟩
  exact ⟨n, rfl, by omega, h⟩

theorem intW_lt (i : Int) : intW i < 18446744073709551616 := by
  unfold intW wordS
  have := nearest_le i.natAbs 0
  unfold infW at this
  split <;> omega

set_option maxHeartbeats 1600000 in
set_option maxRecDepth 100000 in
theorem fromInt_low (w : World) : Calls Tryz.prog 59 #[.int .i64 (-9223372036854775808)] w fun e w' => e = .returned (.int .u64 14114281232179134464) ∧ Below w.heap.size w w' := by
  go_enter Tryz.func59, Tryz.ntmps59
  go_wp2
  all_goals go_ret
  all_goals exact ⟨rfl, Below.refl _ _⟩

theorem fromInt_rng (i : Int) (w : World) (h0 : -9223372036854775808 ≤ i) (h1 : i ≤ 9223372036854775807) :
    Calls Tryz.prog 59 #[.int .i64 i] w fun e w' => ∃ W : Nat, e = .returned (.int .u64 W) ∧ W < 18446744073709551616 ∧ Below w.heap.size w w' := by
  by_cases hl : i = -9223372036854775808
  · subst hl
    refine (fromInt_low w).mono ?_
    rintro e w' ⟨rfl, hb⟩
    exact ⟨14114281232179134464, rfl, by omega, hb⟩
  · refine (fromInt_val i w (by omega) h1).mono ?_
    rintro e w' ⟨rfl, hb⟩
    exact ⟨_, rfl, intW_lt i, hb⟩

theorem intW_parts {i : Int} (h0 : -9007199254740992 < i) (h1 : i < 9007199254740992) : Ieee.double.nearest false i.natAbs 0 < infW ∧ (i ≠ 0 → 0 < Ieee.double.nearest false i.natAbs 0) := by
  obtain ⟨c, hc⟩ : ∃ c : Nat, c = 1074 := ⟨_, rfl⟩
  have h := wV_int (d := i.natAbs) (c := c) (by omega) hc
  refine ⟨h.2, fun hi => ?_⟩
  rcases Nat.eq_zero_or_pos (Ieee.double.nearest false i.natAbs 0) with g | g
  · rw [g, wV_zero] at h
    have : 0 < i.natAbs * 2 ^ c := Nat.mul_pos (by omega) (Nat.pow_pos (by omega))
    omega
  · exact g

theorem div_int (i j : Int) (w : World) (h0 : -1000 ≤ i) (h1 : i ≤ 1000) (h2 : 1 ≤ j) (h3 : j ≤ 1000) :
    Calls Tryz.prog 60 #[.int .u64 (intW i : Nat), .int .u64 (intW j : Nat)] w fun e w' => ∃ W : Nat, e = .returned (.int .u64 W) ∧ W < 18446744073709551616 ∧ Below w.heap.size w w' := by
  have hi := intW_parts (i := i) (by omega) (by omega)
  have hj := intW_parts (i := j) (by omega) (by omega)
  have hz := hj.2 (by omega)
  have e0 : decide (Ieee.double.nearest false j.natAbs 0 = 0) = false := decide_eq_false (by omega)
  have hC := finC (s := decide (j < 0)) hj.1
  rw [e0] at hC
  have l1 := hi.1
  have l2 := hj.1
  refine (div_walk (intW i) (intW j) _ _ _ _ _ w (finC (s := decide (i < 0)) hi.1) hC (wordS_mod (by unfold infW at l1; omega)) (wordS_mod (by unfold infW at l2; omega)) hi.1 hj.1 hz).mono ?_
  rintro e w' ⟨W, rfl, hW, hb⟩
  have hle := isRnd_le hW
  refine ⟨_, rfl, ?_, hb⟩
  unfold infW at hle
  unfold wordS
  split <;> omega

theorem drawN_lit (B S : Nat) (k : Int) (w0 w : World) (o : Obj) (hk : 1 < k) (hk2 : k ≤ 9223372036854775807) (h : Drew B S w0 w) :
    Calls Tryz.prog 32 #[.pointer (some ⟨S, 0, none⟩), .int .i64 k] (w.alloc o) fun e w' => ∃ r : Int, e = .returned (.int .i64 r) ∧ 0 ≤ r ∧ r < k ∧ Drew B S w0 w' ∧ ∀ j, w'.cell? ⟨w.heap.size, j, none⟩ = (w.alloc o).cell? ⟨w.heap.size, j, none⟩ := by
  have h2 := h.low ((Below.refl w.heap.size w).alloc (Nat.le_refl _) o)
  refine (drawN_any B S k _ hk hk2 h2.1).mono ?_
  rintro e w' ⟨r, rfl, h0, h1, hs, hb, hf⟩
  have hS := h.1.2.1
  exact ⟨r, rfl, h0, h1, h2.trans ⟨hs, hb, fun p hp _ => hf p hp⟩, fun j => (hf _ (by show w.heap.size ≠ S; omega)).1⟩

set_option maxHeartbeats 3200000 in
set_option maxRecDepth 100000 in
theorem dword_any (B S : Nat) (w0 w : World) (h : Drew B S w0 w) :
    Calls Tryz.prog 29 #[.pointer (some ⟨S, 0, none⟩)] w fun e w' => DWR B S w0 e w' := by
  have HN := hide (fun k w hk hk2 h => drawN_drew B S k w0 w hk hk2 h)
  have HL := hide (fun k w o hk hk2 h => drawN_lit B S k w0 w o hk hk2 h)
  have HO := hide (fun k w hk hk2 h => one_any B S k w0 w hk hk2 h)
  have HW := hide (fun w h => wild_any B S w0 w h)
  have Hh := hide h
  clear h
  go_enter Tryz.func29, Tryz.ntmps29
  go_wp2_with fail
  refine (HN.out _ _ (by omega) (by omega) Hh.out).mono ?_
  rintro e w1 ⟨r, rfl, h0, h1, hd⟩
  have Hd := hide hd
  clear hd Hh
  have hr : r = 0 ∨ r = 1 ∨ r = 2 ∨ r = 3 ∨ r = 4 ∨ r = 5 ∨ 5 < r := by omega
  rcases hr with rfl | rfl | rfl | rfl | rfl | rfl | hr
  · clear h0 h1
    go_wp2_with fail
    refine (HL.out _ _ _ (by omega) (by omega) Hd.out).mono ?_
    rintro e w2 ⟨r2, rfl, h0, h1, hd2, hlit⟩
    have Hd2 := hide hd2
    clear hd2
    have hr2 : r2 = 0 ∨ r2 = 1 ∨ r2 = 2 ∨ r2 = 3 ∨ r2 = 4 ∨ r2 = 5 ∨ r2 = 6 ∨ r2 = 7 ∨ r2 = 8 ∨ r2 = 9 ∨ r2 = 10 ∨ r2 = 11 := by omega
    clear h0 h1
    rcases hr2 with rfl | rfl | rfl | rfl | rfl | rfl | rfl | rfl | rfl | rfl | rfl | rfl
    · have hl : w2.cell? ⟨w1.heap.size, 0, none⟩ = some (.int .u64 0) := (hlit 0).trans (by simp)
      clear hlit
      go_wp2
      go_ret
      exact ⟨0, rfl, by omega, Hd2.out⟩
    · have hl : w2.cell? ⟨w1.heap.size, 1, none⟩ = some (.int .u64 9223372036854775808) := (hlit 1).trans (by simp)
      clear hlit
      go_wp2
      go_ret
      exact ⟨9223372036854775808, rfl, by omega, Hd2.out⟩
    · have hl : w2.cell? ⟨w1.heap.size, 2, none⟩ = some (.int .u64 9218868437227405312) := (hlit 2).trans (by simp)
      clear hlit
      go_wp2
      go_ret
      exact ⟨9218868437227405312, rfl, by omega, Hd2.out⟩
    · have hl : w2.cell? ⟨w1.heap.size, 3, none⟩ = some (.int .u64 18442240474082181120) := (hlit 3).trans (by simp)
      clear hlit
      go_wp2
      go_ret
      exact ⟨18442240474082181120, rfl, by omega, Hd2.out⟩
    · have hl : w2.cell? ⟨w1.heap.size, 4, none⟩ = some (.int .u64 9221120237041090560) := (hlit 4).trans (by simp)
      clear hlit
      go_wp2
      go_ret
      exact ⟨9221120237041090560, rfl, by omega, Hd2.out⟩
    · have hl : w2.cell? ⟨w1.heap.size, 5, none⟩ = some (.int .u64 1) := (hlit 5).trans (by simp)
      clear hlit
      go_wp2
      go_ret
      exact ⟨1, rfl, by omega, Hd2.out⟩
    · have hl : w2.cell? ⟨w1.heap.size, 6, none⟩ = some (.int .u64 4503599627370495) := (hlit 6).trans (by simp)
      clear hlit
      go_wp2
      go_ret
      exact ⟨4503599627370495, rfl, by omega, Hd2.out⟩
    · have hl : w2.cell? ⟨w1.heap.size, 7, none⟩ = some (.int .u64 4503599627370496) := (hlit 7).trans (by simp)
      clear hlit
      go_wp2
      go_ret
      exact ⟨4503599627370496, rfl, by omega, Hd2.out⟩
    · have hl : w2.cell? ⟨w1.heap.size, 8, none⟩ = some (.int .u64 9218868437227405311) := (hlit 8).trans (by simp)
      clear hlit
      go_wp2
      go_ret
      exact ⟨9218868437227405311, rfl, by omega, Hd2.out⟩
    · have hl : w2.cell? ⟨w1.heap.size, 9, none⟩ = some (.int .u64 14114281232179134464) := (hlit 9).trans (by simp)
      clear hlit
      go_wp2
      go_ret
      exact ⟨14114281232179134464, rfl, by omega, Hd2.out⟩
    · have hl : w2.cell? ⟨w1.heap.size, 10, none⟩ = some (.int .u64 4890909195324358656) := (hlit 10).trans (by simp)
      clear hlit
      go_wp2
      go_ret
      exact ⟨4890909195324358656, rfl, by omega, Hd2.out⟩
    · have hl : w2.cell? ⟨w1.heap.size, 11, none⟩ = some (.int .u64 4845873199050653696) := (hlit 11).trans (by simp)
      clear hlit
      go_wp2
      go_ret
      exact ⟨4845873199050653696, rfl, by omega, Hd2.out⟩
  · clear h0 h1
    go_wp2_with fail
    refine (HN.out _ _ (by omega) (by omega) Hd.out).mono ?_
    rintro e w2 ⟨r2, rfl, h0, h1, hd2⟩
    have Hd2 := hide hd2
    clear hd2
    go_wp2_with fail
    refine (fromInt_rng (r2 - 1000) _ (by omega) (by omega)).mono ?_
    rintro e w3 ⟨W, rfl, hW, hb3⟩
    have Hd3 := hide (Hd2.out.low hb3)
    clear hb3
    go_wp2
    go_ret
    exact ⟨W, rfl, hW, Hd3.out⟩
  · clear h0 h1
    go_wp2_with fail
    refine (HN.out _ _ (by omega) (by omega) Hd.out).mono ?_
    rintro e w2 ⟨r2, rfl, h0, h1, hd2⟩
    have Hd2 := hide hd2
    clear hd2
    go_wp2_with fail
    refine (fromInt_rng (r2 - 1000) _ (by omega) (by omega)).mono ?_
    rintro e w3 ⟨W, rfl, hW, hb3⟩
    have Hd3 := hide (Hd2.out.low hb3)
    clear hb3
    go_wp2
    go_ret
    exact ⟨W, rfl, hW, Hd3.out⟩
  · clear h0 h1
    go_wp2_with fail
    refine (HN.out _ _ (by omega) (by omega) Hd.out).mono ?_
    rintro e w2 ⟨r2, rfl, h0, h1, hd2⟩
    have Hd2 := hide hd2
    clear hd2
    go_wp2_with fail
    refine (fromInt_rng (r2 - 1000) _ (by omega) (by omega)).mono ?_
    rintro e w3 ⟨W, rfl, hW, hb3⟩
    have Hd3 := hide (Hd2.out.low hb3)
    clear hb3
    go_wp2
    go_ret
    exact ⟨W, rfl, hW, Hd3.out⟩
  · clear h0 h1
    go_wp2_with fail
    refine (HN.out _ _ (by omega) (by omega) Hd.out).mono ?_
    rintro e w2 ⟨r2, rfl, h0, h1, hd2⟩
    have Hd2 := hide hd2
    clear hd2
    go_wp2_with fail
    refine (fromInt_val (r2 - 1000) _ (by omega) (by omega)).mono ?_
    rintro e w3 ⟨rfl, hb3⟩
    have Hd3 := hide (Hd2.out.low hb3)
    clear hb3
    go_wp2_with fail
    refine (HN.out _ _ (by omega) (by omega) Hd3.out).mono ?_
    rintro e w4 ⟨r4, rfl, h2, h3, hd4⟩
    have Hd4 := hide hd4
    clear hd4
    go_wp2_with fail
    refine (fromInt_val (1 + r4) _ (by omega) (by omega)).mono ?_
    rintro e w5 ⟨rfl, hb5⟩
    have Hd5 := hide (Hd4.out.low hb5)
    clear hb5
    have HD := hide (fun w => div_int (r2 - 1000) (1 + r4) w (by omega) (by omega) (by omega) (by omega))
    obtain ⟨X, hX⟩ : ∃ X, X = intW (r2 - 1000) := ⟨_, rfl⟩
    obtain ⟨Y, hY⟩ : ∃ Y, Y = intW (1 + r4) := ⟨_, rfl⟩
    rw [← hX, ← hY] at HD ⊢
    clear hX hY
    go_wp2_with fail
    refine (HD.out _).mono ?_
    rintro e w6 ⟨W, rfl, hW, hb6⟩
    have Hd6 := hide (Hd5.out.low hb6)
    clear hb6
    go_wp2
    go_ret
    exact ⟨W, rfl, hW, Hd6.out⟩
  · clear h0 h1
    go_wp2_with fail
    refine (HW.out _ Hd.out).mono ?_
    rintro e w2 ⟨v, rfl, hv0, hv1, hd2⟩
    have Hd2 := hide hd2
    clear hd2
    go_wp2_with fail
    refine (fromInt_rng v _ hv0 hv1).mono ?_
    rintro e w3 ⟨W, rfl, hW, hb3⟩
    have Hd3 := hide (Hd2.out.low hb3)
    clear hb3
    go_wp2
    go_ret
    exact ⟨W, rfl, hW, Hd3.out⟩
  · have n0 : (r == 0) = false := by rw [beq_eq_false_iff_ne]; omega
    have n1 : (r == 1) = false := by rw [beq_eq_false_iff_ne]; omega
    have n2 : (r == 2) = false := by rw [beq_eq_false_iff_ne]; omega
    have n3 : (r == 3) = false := by rw [beq_eq_false_iff_ne]; omega
    have n4 : (r == 4) = false := by rw [beq_eq_false_iff_ne]; omega
    have n5 : (r == 5) = false := by rw [beq_eq_false_iff_ne]; omega
    clear hr h0 h1
    go_wp2_with fail
    go_loopw [3, 4] (fun wv kv wr => ∃ (x : Int) (k : Nat), wv = .int .u64 x ∧ kv = .int .i64 k ∧ 0 ≤ x ∧ x < 18446744073709551616 ∧ k ≤ 8 ∧ Drew B S w0 wr) (fun _ kv _ => 8 - (intOf kv).toNat)
    case atStart => exact ⟨0, 0, rfl, rfl, by omega, by omega, by omega, Hd.out⟩
    case round =>
      clear n0 n1 n2 n3 n4 n5
      obtain ⟨x, k, rfl, rfl, hx0, hx, hk, hdr⟩ := hrel
      have Hdr := hide hdr
      clear hdr
      by_cases hk8 : k < 8
      · go_wp2_with fail
        refine (HN.out _ _ (by omega) (by omega) Hdr.out).mono ?_
        rintro e w2 ⟨r2, rfl, h0, h1, hd2⟩
        have Hd2 := hide hd2
        clear hd2
        go_wp2
        go_roundw
        case rel => exact ⟨_, k + 1, rfl, by go_num, (u64_range _).1, (u64_range _).2, by omega, Hd2.out⟩
        case measure => simp [intOf]; omega
      · obtain rfl : k = 8 := by omega
        go_wp2_with fail
        refine (HO.out _ _ (by omega) (by omega) Hdr.out).mono ?_
        rintro e w2 ⟨b, rfl, hd2⟩
        have Hd2 := hide hd2
        clear hd2
        cases b with
        | false =>
          go_wp2
          go_ret
          exact dwr_of hx0 hx Hd2.out
        | true =>
          go_wp2_with fail
          refine (HN.out _ _ (by omega) (by omega) Hd2.out).mono ?_
          rintro e w3 ⟨r3, rfl, h0, h1, hd3⟩
          have Hd3 := hide hd3
          clear hd3
          go_wp2_with fail
          refine (HN.out _ _ (by omega) (by omega) Hd3.out).mono ?_
          rintro e w4 ⟨r4, rfl, h2, h3, hd4⟩
          have Hd4 := hide hd4
          clear hd4
          go_wp2
          go_ret
          exact dwr_of (by omega) (by omega) Hd4.out

end Go.Proofs.YtamdnnkdnhkghaaGreatDoor
