import Derived.Test.YtamdnnkdnhkghaaGreatDoorQ16
import Derived.Test.YtamdnnkdnhkghaaGreatDoorQ17
import Derived.Test.YtamdnnkdnhkghaaGreatDoorQ18
import Derived.Laws.BitsAllLaws
import Derived.Lib.Strings
namespace Go.Proofs.YtamdnnkdnhkghaaGreatDoor
open Go Go.RowKit
set_option linter.unusedVariables false

theorem pn_large (s : ByteArray) (w : World) (hs : 100 < s.size) (hr : s.size ≤ 140737488351232) :
    Calls Tryz.prog 69 #[.string s] w fun e w' => e = .returned zeroR ∧ Below w.heap.size w w' := by
  go_enter Tryz.func69, Tryz.ntmps69
  go_wp2
  refine bodyPost_ret (v := zeroR) (by simp [results, Tryz.results69, go_sem, numV, zeroR]) rfl ⟨rfl, ?_⟩
  exact (Below.refl _ _).alloc (Nat.le_refl _) _

set_option maxHeartbeats 800000 in
theorem pn_hex (s : ByteArray) (w : World) (hs : s.size ≤ 100) (hx : 1 < s.size) (hq : (((s[0].toNat : Nat) : Int) == 48) = true)
    (hq1 : (((s[1].toNat : Nat) : Int) == 120) = true ∨ ((((s[1].toNat : Nat) : Int) == 120) = false ∧ (((s[1].toNat : Nat) : Int) == 88) = true)) :
    Calls Tryz.prog 69 #[.string s] w fun e w' => e = .returned (hexR (s.extract 2 s.size)) ∧ Below w.heap.size w w' := by
  have hsz : (s.extract 2 s.size).size ≤ 100 := by simp; omega
  rcases hq1 with hq1 | ⟨hq1, hq2⟩
  · go_enter Tryz.func69, Tryz.ntmps69
    go_wp2_with fail
    refine (hex_any (s.extract 2 s.size) _ hsz).mono ?_
    rintro e w1 ⟨rfl, hb⟩
    have hb' : Below (w.heap.size + 1) (w.alloc (.cells #[.bool false, .int .i64 0, .int .u64 0] 26)) w1 := hb.mono (by simp)
    obtain ⟨c0, c1, c2, f0, f1, f2⟩ := resC hb'
    obtain ⟨x, ok, hh⟩ : ∃ x ok, hexR (s.extract 2 s.size) = .tuple #[.agg #[.bool false, .int .i64 x, .int .u64 0], .bool ok] := ⟨_, _, by unfold hexR numV; exact Eq.refl _⟩
    have Hh := hide hh
    rw [hh]
    clear hh
    go_wp2
    refine bodyPost_ret (v := .tuple #[.agg #[.bool false, .int .i64 x, .int .u64 0], .bool ok]) ?_ rfl ⟨by rw [Hh.out], ?_⟩
    · simp [results, Tryz.results69, go_sem, c0, c1, c2]
    · refine Below.setCell (Below.setCell (Below.setCell (below_res hb') ?_ _) ?_ _) ?_ _
      all_goals simp
  · go_enter Tryz.func69, Tryz.ntmps69
    go_wp2_with fail
    refine (hex_any (s.extract 2 s.size) _ hsz).mono ?_
    rintro e w1 ⟨rfl, hb⟩
    have hb' : Below (w.heap.size + 1) (w.alloc (.cells #[.bool false, .int .i64 0, .int .u64 0] 26)) w1 := hb.mono (by simp)
    obtain ⟨c0, c1, c2, f0, f1, f2⟩ := resC hb'
    obtain ⟨x, ok, hh⟩ : ∃ x ok, hexR (s.extract 2 s.size) = .tuple #[.agg #[.bool false, .int .i64 x, .int .u64 0], .bool ok] := ⟨_, _, by unfold hexR numV; exact Eq.refl _⟩
    have Hh := hide hh
    rw [hh]
    clear hh
    go_wp2
    refine bodyPost_ret (v := .tuple #[.agg #[.bool false, .int .i64 x, .int .u64 0], .bool ok]) ?_ rfl ⟨by rw [Hh.out], ?_⟩
    · simp [results, Tryz.results69, go_sem, c0, c1, c2]
    · refine Below.setCell (Below.setCell (Below.setCell (below_res hb') ?_ _) ?_ _) ?_ _
      all_goals simp

/-- What 'spec.ParseNumber' hands back. -/
theorem spec_parse (s : ByteArray) (w : World) (hr : s.size ≤ 140737488351232) :
    Calls Tryz.prog 69 #[.string s] w fun e w' => ∃ r, e = .returned r ∧ PNR s r ∧ Below w.heap.size w w' := by
  by_cases hl : 100 < s.size
  · refine (pn_large s w hl hr).mono ?_
    rintro e w' ⟨rfl, hb⟩
    exact ⟨_, rfl, by unfold PNR; rw [if_pos hl], hb⟩
  · have hs : s.size ≤ 100 := by omega
    by_cases hx : 1 < s.size
    · have g0 : (bs s).getD 0 0 = ((s[0].toNat : Nat) : Int) := bs_getD (by omega)
      have g1 : (bs s).getD 1 0 = ((s[1].toNat : Nat) : Int) := bs_getD hx
      have hlen : decide (1 < (bs s).length) = true := by rw [bs_length]; simpa using hx
      by_cases hq : ((s[0].toNat : Nat) : Int) = 48
      · have bq : (((s[0].toNat : Nat) : Int) == 48) = true := by rw [beq_iff_eq]; exact hq
        by_cases hq1 : ((s[1].toNat : Nat) : Int) = 120 ∨ ((s[1].toNat : Nat) : Int) = 88
        · have hp : isHexP (bs s) = true := by unfold isHexP; rw [hlen, g0, g1]; simp [hq, hq1]
          refine (pn_hex s w hs hx bq (by
            by_cases h1 : ((s[1].toNat : Nat) : Int) = 120
            · left; rw [beq_iff_eq]; exact h1
            · right; exact ⟨by rw [beq_eq_false_iff_ne]; exact h1, by rw [beq_iff_eq]; exact hq1.resolve_left h1⟩)).mono ?_
          rintro e w' ⟨rfl, hb⟩
          exact ⟨_, rfl, by unfold PNR; rw [if_neg hl, if_pos hp], hb⟩
        · have hp : ¬ isHexP (bs s) = true := by unfold isHexP; rw [hlen, g0, g1]; simp [hq]; omega
          refine (pn_dec3 s w hs hx bq (by rw [beq_eq_false_iff_ne]; omega) (by rw [beq_eq_false_iff_ne]; omega)).mono ?_
          rintro e w' ⟨r, rfl, hr, hb⟩
          exact ⟨r, rfl, by unfold PNR; rw [if_neg hl, if_neg hp]; exact hr, hb⟩
      · have hp : ¬ isHexP (bs s) = true := by unfold isHexP; rw [hlen, g0, g1]; simp [hq]
        refine (pn_dec2 s w hs hx (by rw [beq_eq_false_iff_ne]; exact hq)).mono ?_
        rintro e w' ⟨r, rfl, hr, hb⟩
        exact ⟨r, rfl, by unfold PNR; rw [if_neg hl, if_neg hp]; exact hr, hb⟩
    · have hp : ¬ isHexP (bs s) = true := by unfold isHexP; rw [bs_length]; simp [hx]
      refine (pn_dec1 s w hs (by omega)).mono ?_
      rintro e w' ⟨r, rfl, hr, hb⟩
      exact ⟨r, rfl, by unfold PNR; rw [if_neg hl, if_neg hp]; exact hr, hb⟩

theorem FloatR.unique {N : Nat} {E : Int} {r r' : Value} (h : FloatR N E r) (h' : FloatR N E r') : r = r' := by
  obtain ⟨W, h1, rfl⟩ := h
  obtain ⟨W', h1', rfl⟩ := h'
  have : W = W' := IsRnd.unique h1 h1'
  rw [this]

/-- There is one answer. -/
theorem PNR.unique {s : ByteArray} {r r' : Value} (h : PNR s r) (h' : PNR s r') : r = r' := by
  unfold PNR at h h'
  split at h
  · rename_i c; rw [if_pos c] at h'; rw [h, h']
  · rename_i c
    rw [if_neg c] at h'
    split at h
    · rename_i c2; rw [if_pos c2] at h'; rw [h, h']
    · rename_i c2
      rw [if_neg c2] at h'
      unfold DecR at h h'
      split at h
      · rename_i c3; rw [if_pos c3] at h'; rw [h, h']
      · rename_i c3
        rw [if_neg c3] at h'
        split at h
        · rename_i c4; rw [if_pos c4] at h'; rw [h, h']
        · rename_i c4
          rw [if_neg c4] at h'
          split at h
          · rename_i c5; rw [c5] at h'; rw [h]; exact h'.symm
          · rename_i x c5; rw [c5] at h'; exact FloatR.unique h h'
end Go.Proofs.YtamdnnkdnhkghaaGreatDoor

namespace Go.Proofs.YtamdnnkdnhkghaaGreatDoor
open Go Go.RowKit
set_option linter.unusedVariables false

theorem isEmpty_size (s : ByteArray) : (!s.toList.isEmpty) = decide (0 < s.size) := by
  rw [Lib.size_eq, Lib.toList_data]
  cases h : s.data.toList <;> simp

theorem or_low {a d : Nat} (hd : d < 16) : 16 * a ||| d = 16 * a + d := by
  have := Nat.two_pow_add_eq_or_of_lt (i := 4) (b := d) (by omega) a
  simpa using this.symm

theorem hex_or {x d : Int} (hx0 : 0 ≤ x) (hd0 : 0 ≤ d) (hd1 : d < 16) : bits .or .u64 (IntKind.u64.wrap (x * 16)) d = (x * 16) % 18446744073709551616 + d := by
  have e1 : IntKind.u64.wrap (x * 16) = (x * 16) % 18446744073709551616 := by simp [IntKind.wrap, IntKind.signed, IntKind.bits]
  rw [e1]
  obtain ⟨n, hn⟩ : ∃ n : Nat, (x * 16) % 18446744073709551616 = ((16 * n : Nat) : Int) := ⟨((x * 16) % 18446744073709551616 / 16).toNat, by omega⟩
  obtain ⟨m, rfl⟩ : ∃ m : Nat, d = (m : Int) := ⟨d.toNat, by omega⟩
  rw [hn, u64_or_nat _ _ (by omega) (by omega), or_low (by omega)]
  omega

theorem hex_step {N : Nat} {x d : Int} (h : x = (N : Int) % 18446744073709551616) (h0 : 0 ≤ d) (h1 : d < 16) : (x * 16) % 18446744073709551616 + d = ((N * 16 + d.toNat : Nat) : Int) % 18446744073709551616 := by omega

theorem hex_end {N : Nat} {x : Int} (h : x = (N : Int) % 18446744073709551616) : wrap64 x = wrap64 (N : Int) := by unfold wrap64; omega

/-- What impl.hexDigit hands back. -/
def hexD (c : Int) : Value := if 0 ≤ hexV c then .tuple #[.int .u8 (hexV c), .bool true] else .tuple #[.int .u8 0, .bool false]

theorem hexD_yes {c v : Int} (h : hexV c = v) (h0 : 0 ≤ v) : hexD c = .tuple #[.int .u8 v, .bool true] := by unfold hexD; rw [h, if_pos h0]
theorem hexD_no {c : Int} (h : hexV c = -1) : hexD c = .tuple #[.int .u8 0, .bool false] := by unfold hexD; rw [h, if_neg (by omega)]

theorem implHexDigit_any (c : Int) (w : World) (h0 : 0 ≤ c) (h1 : c < 256) :
    Calls Tryz.prog 62 #[.int .u8 c] w fun e w' => e = .returned (hexD c) ∧ w' = w := by
  by_cases a1 : 48 ≤ c ∧ c ≤ 57
  · have H := hide (hexD_yes (c := c) (v := c - 48) (by unfold hexV; rw [if_pos a1]) (by omega))
    obtain ⟨a2, a3⟩ := a1
    go_enter Tryz.func62, Tryz.ntmps62
    go_wp2
    go_ret2
    exact ⟨by rw [H.out]; rfl, rfl⟩
  · by_cases b1 : 97 ≤ c ∧ c ≤ 102
    · have H := hide (hexD_yes (c := c) (v := c - 97 + 10) (by unfold hexV; rw [if_neg a1, if_pos b1]; omega) (by omega))
      obtain ⟨b2, b3⟩ := b1
      go_enter Tryz.func62, Tryz.ntmps62
      go_wp2
      go_ret2
      exact ⟨by rw [H.out]; rfl, rfl⟩
    · by_cases c1 : 65 ≤ c ∧ c ≤ 70
      · have H := hide (hexD_yes (c := c) (v := c - 65 + 10) (by unfold hexV; rw [if_neg a1, if_neg b1, if_pos c1]; omega) (by omega))
        obtain ⟨c2, c3⟩ := c1
        go_enter Tryz.func62, Tryz.ntmps62
        go_wp2
        go_ret2
        exact ⟨by rw [H.out]; rfl, rfl⟩
      · have H := hide (hexD_no (c := c) (by unfold hexV; rw [if_neg a1, if_neg b1, if_neg c1]))
        go_enter Tryz.func62, Tryz.ntmps62
        go_wp2
        all_goals go_ret2
        all_goals exact ⟨by rw [H.out]; rfl, rfl⟩

theorem implInt_any (i : Int) (w : World) : Calls Tryz.prog 63 #[.int .i64 i] w fun e w' => e = .returned (.agg #[.bool false, .int .i64 i, .int .u64 0]) ∧ Below w.heap.size w w' := by
  go_enter Tryz.func63, Tryz.ntmps63
  go_wp2
  exact bodyPost_ret (v := .agg #[.bool false, .int .i64 i, .int .u64 0]) (by simp [results, Tryz.results63, go_sem]) rfl ⟨rfl, (Below.refl _ _).alloc (Nat.le_refl _) _⟩

set_option maxHeartbeats 800000 in
set_option maxRecDepth 100000 in
theorem implHex_any (s : ByteArray) (w : World) (hs : s.size ≤ 100) :
    Calls Tryz.prog 34 #[.string s] w fun e w' => e = .returned (hexR s) ∧ Below w.heap.size w w' := by
  have Hl := hide (bs_length s)
  go_enter Tryz.func34, Tryz.ntmps34
  go_wp2
  go_loop [4, 10] (fun vv iv => ∃ (k : Nat) (x : Int), k ≤ s.size ∧ iv = .int .i64 k ∧ vv = .int .u64 x ∧ 0 ≤ x ∧ x < 18446744073709551616 ∧ Hid (x = (hexN ((bs s).take k) : Int) % 18446744073709551616) ∧ Hid (∀ j, j < k → 0 ≤ hexV ((bs s).getD j 0))) (fun _ iv => s.size - (intOf iv).toNat)
  case atStart => exact ⟨0, 0, Nat.zero_le _, rfl, rfl, by omega, by omega, hide (by simp [hexN]), hide (fun j hj => by omega)⟩
  case round =>
    obtain ⟨k, x, hk, rfl, rfl, hx0, hx1, Hx, Ha⟩ := hrel
    by_cases hlt : k < s.size
    · have hgd := bs_getD hlt
      have HT := hide (hexN_take (l := bs s) (k := k) (by rw [Hl.out]; exact hlt))
      have hb1 : ((s[k].toNat : Nat) : Int) < 256 := by have := s[k].toNat_lt; omega
      have hb0 : (0 : Int) ≤ ((s[k].toNat : Nat) : Int) := by omega
      have hv1 := hexV_lt ((s[k].toNat : Nat) : Int)
      have hv0 := hexV_ge ((s[k].toNat : Nat) : Int)
      have Hg := hide hgd
      clear hgd
      by_cases hneg : hexV ((s[k].toNat : Nat) : Int) < 0
      · have Hf := hide (allHex_false (l := bs s) (k := k) (by rw [Hl.out]; exact hlt) (by rw [Hg.out]; exact hneg))
        have HD := hide (hexD_no (c := ((s[k].toNat : Nat) : Int)) (by omega))
        go_wp2_with (go_at_call 62; refine (implHexDigit_any _ _ hb0 hb1).mono ?_; rintro e w' ⟨rfl, rfl⟩; rw [HD.out])
        refine bodyPost_ret (v := .tuple #[numV false 0 0, .bool false]) (by simp [results, Tryz.results34, go_sem, numV]) rfl ⟨by rw [hexR_no Hf.out], ?_⟩
        exact (Below.refl _ _).alloc (Nat.le_refl _) _
      · have HD := hide (hexD_yes (c := ((s[k].toNat : Nat) : Int)) rfl (by omega))
        have hv2 : 0 ≤ hexV ((s[k].toNat : Nat) : Int) := by omega
        generalize hdd : hexV ((s[k].toNat : Nat) : Int) = d at *
        have Hdd := hide hdd
        clear hdd
        go_wp2_with (go_at_call 62; refine (implHexDigit_any _ _ hb0 hb1).mono ?_; rintro e w' ⟨rfl, rfl⟩; rw [HD.out])
        have HO := hide (hex_or hx0 hv2 hv1)
        have HS := hide (hex_step Hx.out hv2 hv1)
        have hlo : 0 ≤ (x * 16) % 18446744073709551616 + d := by omega
        have hhi : (x * 16) % 18446744073709551616 + d < 18446744073709551616 := by omega
        go_round
        case rel => exact ⟨k + 1, (x * 16) % 18446744073709551616 + d, by omega, by go_num, by rw [HO.out], hlo, hhi, hide (by rw [HT.out, Hg.out, Hdd.out]; exact HS.out), hide (fun j hj => by
          by_cases e : j = k
          · subst e; rw [Hg.out, Hdd.out]; exact hv2
          · exact Ha.out j (by omega))⟩
        case measure => simp [intOf]; omega
    · have hkl : k = s.size := by omega
      have HA : Hid (allHex (bs s) = true) := hide (allHex_true (fun j hj => Ha.out j (by rw [Hl.out] at hj; omega)))
      have HX : Hid (wrap64 x = wrap64 (hexN (bs s))) := hide (by
        have h1 := Hx.out
        rw [hkl, ← Hl.out, List.take_length] at h1
        exact hex_end h1)
      have Hk := hide hkl
      clear hkl
      go_wp2_with fail
      refine (implInt_any (wrap64 x) _).mono ?_
      rintro e w' ⟨rfl, hb'⟩
      obtain ⟨hc, hf⟩ := bcell hb'
      go_wp2
      refine bodyPost_ret (v := .tuple #[numV false (wrap64 x) 0, .bool (!s.toList.isEmpty)]) ?_ rfl ⟨by rw [hexR_yes HA.out, HX.out, isEmpty_size], ?_⟩
      · simp [results, Tryz.results34, go_sem, numV, hc]
      · refine Below.setCell (Below.setCell (Below.setCell ?_ ?_ _) ?_ _) ?_ _
        · exact ((Below.refl _ _).alloc (Nat.le_refl _) _).trans (hb'.mono (by simp))
        all_goals simp
end Go.Proofs.YtamdnnkdnhkghaaGreatDoor

namespace Go.Proofs.YtamdnnkdnhkghaaGreatDoor
open Go Go.RowKit
set_option linter.unusedVariables false

set_option maxHeartbeats 800000 in
theorem areDigits_any (s : ByteArray) (w : World) (hs : s.size ≤ 140737488351232) :
    Calls Tryz.prog 65 #[.string s] w fun e w' => e = .returned (.bool (allDig (bs s))) ∧ w' = w := by
  have Hl := hide (bs_length s)
  go_enter Tryz.func65, Tryz.ntmps65
  go_wp2
  go_loop [6] (fun iv => ∃ (k : Nat), k ≤ s.size ∧ iv = .int .i64 k ∧ Hid (∀ j, j < k → isDigI ((bs s).getD j 0) = true)) (fun iv => s.size - (intOf iv).toNat)
  case atStart => exact ⟨0, Nat.zero_le _, rfl, hide (fun j hj => by omega)⟩
  case round =>
    obtain ⟨k, hk, rfl, Ha⟩ := hrel
    by_cases hlt : k < s.size
    · have Hg := hide (bs_getD hlt)
      have hb0 : (0 : Int) ≤ ((s[k].toNat : Nat) : Int) := by omega
      by_cases hd : 48 ≤ ((s[k].toNat : Nat) : Int) ∧ ((s[k].toNat : Nat) : Int) ≤ 57
      · have Hd : Hid (isDigI ((s[k].toNat : Nat) : Int) = true) := hide (by simp [isDigI, hd])
        obtain ⟨hd1, hd2⟩ := hd
        go_wp2
        go_round
        case rel => exact ⟨k + 1, by omega, by go_num, hide (fun j hj => by
          by_cases e : j = k
          · subst e; rw [Hg.out]; exact Hd.out
          · exact Ha.out j (by omega))⟩
        case measure => simp [intOf]; omega
      · have Hf := hide (allDig_false (l := bs s) (k := k) (by rw [Hl.out]; exact hlt) (by rw [Hg.out]; simp [isDigI]; omega))
        go_wp2
        all_goals go_ret
        all_goals exact ⟨by rw [Hf.out]; rfl, rfl⟩
    · have HA : Hid (allDig (bs s) = true) := hide (allDig_true (fun j hj => Ha.out j (by rw [Hl.out] at hj; omega)))
      go_wp2
      go_ret
      exact ⟨by rw [HA.out]; rfl, rfl⟩

end Go.Proofs.YtamdnnkdnhkghaaGreatDoor

namespace Go.Proofs.YtamdnnkdnhkghaaGreatDoor
open Go Go.RowKit
set_option linter.unusedVariables false

theorem expB_some (l : List Int) : (expB l).isSome = (decide (1 ≤ l.length) && decide (l.length ≤ 3) && allDig l) := by
  unfold expB
  split
  · rename_i h; simp [h.1, h.2.1, h.2.2]
  · rename_i h
    symm
    simp only [Option.isSome_none, Bool.and_eq_false_iff, decide_eq_false_iff_not]
    by_cases h1 : 1 ≤ l.length
    · by_cases h2 : l.length ≤ 3
      · right
        cases h3 : allDig l
        · rfl
        · exact absurd ⟨h1, h2, h3⟩ h
      · left; right; exact h2
    · left; left; exact h1

theorem expB_out {d : ByteArray} (h : d.size < 1 ∨ 3 < d.size) : (expB (bs d)).isSome = false := by
  rw [expB_len (by rw [bs_length]; exact h)]; rfl

theorem expB_in {d : ByteArray} (h1 : 1 ≤ d.size) (h3 : d.size ≤ 3) : (expB (bs d)).isSome = allDig (bs d) := by
  rw [expB_some, bs_length]; simp [h1, h3]

theorem isEmpty_true {s : ByteArray} (h : s.size = 0) : s.toList.isEmpty = true := by
  have := isEmpty_size s
  rw [h] at this
  simpa using this

theorem isEmpty_false {s : ByteArray} (h : 0 < s.size) : s.toList.isEmpty = false := by
  have := isEmpty_size s
  rw [decide_eq_true h] at this
  simpa using this

set_option maxHeartbeats 800000 in
theorem isExp_0 (s : ByteArray) (w : World) (h0 : s.size = 0) :
    Calls Tryz.prog 111 #[.string s] w fun e w' => e = .returned (.bool (expS (bs s)).isSome) ∧ w' = w := by
  have he := isEmpty_true h0
  have HR : Hid ((expS (bs s)).isSome = false) := hide (by
    have : bs s = [] := List.eq_nil_of_length_eq_zero (by rw [bs_length]; exact h0)
    rw [this]; rfl)
  have hle : s.size < 1 := by omega
  clear h0
  go_enter Tryz.func111, Tryz.ntmps111
  go_wp2
  all_goals go_ret
  all_goals exact ⟨by rw [HR.out]; rfl, rfl⟩

set_option maxHeartbeats 1600000 in
theorem isExp_sign (s : ByteArray) (w : World) (hs : s.size ≤ 100) (h0 : 0 < s.size)
    (hc : (((s[0].toNat : Nat) : Int) == 43) = true ∨ ((((s[0].toNat : Nat) : Int) == 43) = false ∧ (((s[0].toNat : Nat) : Int) == 45) = true))
    (HR : Hid ((expS (bs s)).isSome = (expB (bs (s.extract 1 s.size))).isSome)) :
    Calls Tryz.prog 111 #[.string s] w fun e w' => e = .returned (.bool (expS (bs s)).isSome) ∧ w' = w := by
  have he := isEmpty_false h0
  have hsz := size_tail s
  have Hsz := hide hsz
  by_cases hg : 2 ≤ s.size ∧ s.size ≤ 4
  · obtain ⟨hg1, hg2⟩ := hg
    have HB : Hid ((expB (bs (s.extract 1 s.size))).isSome = allDig (bs (s.extract 1 s.size))) := hide (expB_in (by rw [hsz]; omega) (by rw [hsz]; omega))
    have hle : (s.extract 1 s.size).size ≤ 140737488351232 := by rw [hsz]; omega
    clear hsz
    rcases hc with hc | ⟨hc1, hc2⟩
    all_goals go_enter Tryz.func111, Tryz.ntmps111
    all_goals go_wp2_with (go_at_call 65; refine (areDigits_any (s.extract 1 s.size) _ hle).mono ?_; rintro e w' ⟨rfl, rfl⟩)
    all_goals go_ret
    all_goals exact ⟨by rw [HR.out, HB.out]; rfl, rfl⟩
  · have HB : Hid ((expB (bs (s.extract 1 s.size))).isSome = false) := hide (expB_out (by rw [hsz]; omega))
    clear hsz
    by_cases hg1 : s.size < 2
    all_goals rcases hc with hc | ⟨hc1, hc2⟩
    all_goals go_enter Tryz.func111, Tryz.ntmps111
    all_goals go_wp2_with fail
    all_goals go_ret
    all_goals exact ⟨by rw [HR.out, HB.out]; rfl, rfl⟩

set_option maxHeartbeats 1600000 in
theorem isExp_plain (s : ByteArray) (w : World) (hs : s.size ≤ 100) (h0 : 0 < s.size)
    (hc1 : (((s[0].toNat : Nat) : Int) == 43) = false) (hc2 : (((s[0].toNat : Nat) : Int) == 45) = false)
    (HR : Hid ((expS (bs s)).isSome = (expB (bs s)).isSome)) :
    Calls Tryz.prog 111 #[.string s] w fun e w' => e = .returned (.bool (expS (bs s)).isSome) ∧ w' = w := by
  have he := isEmpty_false h0
  by_cases hg : s.size ≤ 3
  · have HB : Hid ((expB (bs s)).isSome = allDig (bs s)) := hide (expB_in (by omega) hg)
    have hle : s.size ≤ 140737488351232 := by omega
    go_enter Tryz.func111, Tryz.ntmps111
    go_wp2_with (go_at_call 65; refine (areDigits_any s _ hle).mono ?_; rintro e w' ⟨rfl, rfl⟩)
    go_ret
    exact ⟨by rw [HR.out, HB.out]; rfl, rfl⟩
  · have HB : Hid ((expB (bs s)).isSome = false) := hide (expB_out (by omega))
    go_enter Tryz.func111, Tryz.ntmps111
    go_wp2_with fail
    go_ret
    exact ⟨by rw [HR.out, HB.out]; rfl, rfl⟩

theorem isExp_any (s : ByteArray) (w : World) (hs : s.size ≤ 100) :
    Calls Tryz.prog 111 #[.string s] w fun e w' => e = .returned (.bool (expS (bs s)).isSome) ∧ w' = w := by
  by_cases h0 : s.size = 0
  · exact isExp_0 s w h0
  · have h1 : 0 < s.size := by omega
    have hg := bs_getD h1
    by_cases m1 : ((s[0].toNat : Nat) : Int) = 45
    · refine isExp_sign s w hs h1 (.inr ⟨by rw [m1]; rfl, by rw [m1]; rfl⟩) (hide ?_)
      unfold expS; rw [hg, if_pos m1, bs_tail]; simp
    · by_cases m2 : ((s[0].toNat : Nat) : Int) = 43
      · refine isExp_sign s w hs h1 (.inl (by rw [m2]; rfl)) (hide ?_)
        unfold expS; rw [hg, if_neg m1, if_pos m2, bs_tail]
      · refine isExp_plain s w hs h1 (by rw [beq_eq_false_iff_ne]; exact m2) (by rw [beq_eq_false_iff_ne]; exact m1) (hide ?_)
        unfold expS; rw [hg, if_neg m1, if_neg m2]

end Go.Proofs.YtamdnnkdnhkghaaGreatDoor
