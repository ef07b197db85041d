import Derived.Test.YtplfgfdlcfdfdaaW3
import Derived.Test.YtplfgfdlcfdfdaaM2
import Derived.Test.YtplfgfdlcfdfdaaCJ
namespace Go.Proofs.Ytplfgfdlcfdfdaa
open Go Go.RowKit
set_option linter.unusedVariables false

set_option maxHeartbeats 1600000 in
set_option maxRecDepth 100000 in
theorem allProto_any (v : Value) (n : Nat) (P : Nat → PV) (w : World) (hn : n ≤ 1048576) (hf : allFit n P 1048576) (hbit : allBits n P) (h : ProsA w v n P) :
    Calls Try.prog 32 #[v, .func (.func 33) #[] #[]] w fun e w' => RetB (∀ k, k < n → plainOk (P k)) w e w' := by
  have HA := hide h
  obtain ⟨sa, cap, rfl⟩ := h.val
  clear h
  have HF := hide hf
  have HBit := hide hbit
  clear hf hbit
  go_enter Try.func32, Try.ntmps32
  go_wp2_with fail
  go_loopw [9] (fun iv wr => ∃ i : Nat, i ≤ n ∧ iv = .int .i64 i ∧ Hid (∀ k, k < i → plainOk (P k)) ∧ Hid (Below w.heap.size w wr)) (fun iv _ => match iv with | .int _ x => n - x.toNat | _ => 0)
  case atStart => exact ⟨0, by omega, rfl, hide (fun k hk => by omega), hide (Below.refl _ _)⟩
  case round =>
    obtain ⟨i, hi9, rfl, HU, HBw⟩ := hrel
    by_cases hin : i < n
    · rcases HA.out with ⟨h9, _⟩ | ⟨b, o, cap', e, hb, hcap, hc⟩
      · omega
      cases e
      obtain ⟨s4, s5, s6, s7, h8, hp8⟩ := hc i hin
      obtain ⟨a4, k4, rfl⟩ := hp8.u.val
      obtain ⟨a5, k5, rfl⟩ := hp8.c.val
      obtain ⟨a6, k6, rfl⟩ := hp8.i.val
      obtain ⟨a7, k7, rfl⟩ := hp8.l.val
      have c0 := (HBw.out.cell (p := ⟨b, o + i * 8, none⟩) hb).trans h8.1
      have c1 := (HBw.out.cell (p := ⟨b, o + i * 8 + 1, none⟩) hb).trans h8.2.1
      have c2 := (HBw.out.cell (p := ⟨b, o + i * 8 + 2, none⟩) hb).trans h8.2.2.1
      have c3 := (HBw.out.cell (p := ⟨b, o + i * 8 + 3, none⟩) hb).trans h8.2.2.2.1
      have c4 := (HBw.out.cell (p := ⟨b, o + i * 8 + 4, none⟩) hb).trans h8.2.2.2.2.1
      have c5 := (HBw.out.cell (p := ⟨b, o + i * 8 + 5, none⟩) hb).trans h8.2.2.2.2.2.1
      have c6 := (HBw.out.cell (p := ⟨b, o + i * 8 + 6, none⟩) hb).trans h8.2.2.2.2.2.2.1
      have c7 := (HBw.out.cell (p := ⟨b, o + i * 8 + 7, none⟩) hb).trans h8.2.2.2.2.2.2.2
      have HP8 := hide ((hp8.low HBw.out (Nat.le_refl _)).low (b_1 wr (.cells #[.int .i64 (P i).params, .int .i64 (P i).regs, .int .i64 (P i).line, .bool (P i).dots, .slice a4 (P i).nu k4, .slice a5 (P i).nc k5, .slice a6 (P i).ni k6, .slice a7 (P i).nl k7] 46)) (Nat.le_refl _))
      clear hc h8 hp8
      go_wp2_with fail
      clear c0 c1 c2 c3 c4 c5 c6 c7
      refine (hasPlaces_any (P i) _ _ _ _ _ (HF.out i hin) (HBit.out i hin) HP8.out).mono ?_
      rintro e w3 ⟨r, rfl, hr, hb3⟩
      have HB4 := hide ((HBw.out.alloc HBw.out.size _).trans (hb3.mono (HBw.out.alloc HBw.out.size _).size))
      clear hb3
      rcases hr with ⟨rfl, hr⟩ | ⟨rfl, hr⟩
      · have HR := hide hr
        clear hr
        go_wp2
        go_roundw
        case rel => exact ⟨i + 1, by omega, by simp, hide (allQ_next HU.out HR.out), HB4⟩
        case measure => simp; omega
      · have HR := hide hr
        clear hr
        go_wp2
        go_ret
        exact ⟨_, rfl, .inr ⟨rfl, fun hq => HR.out (hq i hin)⟩, HB4.out⟩
    · obtain rfl : i = n := by omega
      go_wp2
      go_ret
      exact ⟨_, rfl, .inl ⟨rfl, HU.out⟩, HBw.out⟩

set_option maxHeartbeats 1600000 in
set_option maxRecDepth 100000 in
theorem hasFile_any (a : Option Addr) (n cap : Nat) (P : Nat → PV) (w : World) (hn : n ≤ 1048576) (hf : allFit n P 1048576) (hbit : allBits n P) (h : ProsA w (.slice a n cap) n P) :
    Calls Try.prog 20 #[.agg #[.slice a n cap]] w fun e w' => RetB (n ≤ 65535 ∧ ∀ k, k < n → plainOk (P k)) w e w' := by
  have HF := hide hf
  have HBit := hide hbit
  clear hf hbit
  have HB0 := hide (b_1 w (.cells #[.slice a n cap] 31))
  have HA0 := hide (h.low HB0.out (Nat.le_refl _))
  clear h
  by_cases hbig : 65535 < n
  · have hbi : ¬ ((n : Int) ≤ 65535) := by omega
    go_enter Try.func20, Try.ntmps20
    go_wp2
    go_ret
    exact ⟨false, rfl, .inr ⟨rfl, fun h => by have := h.1; omega⟩, HB0.out⟩
  have hbi : ((n : Int) ≤ 65535) := by omega
  go_enter Try.func20, Try.ntmps20
  go_wp2_with fail
  generalize w.alloc (.cells #[.slice a n cap] 31) = w1 at HB0 HA0 ⊢
  refine (allProto_any _ n P w1 hn HF.out HBit.out HA0.out).mono ?_
  rintro e w2 ⟨r, rfl, hr, hb2⟩
  have HB2 := hide (HB0.out.trans (hb2.mono HB0.out.size))
  clear HB0 HA0 hb2
  have HR := hide hr
  clear hr
  go_wp2
  go_ret
  refine ⟨r, rfl, ?_, HB2.out⟩
  rcases HR.out with ⟨h1, h2⟩ | ⟨h1, h2⟩
  · exact .inl ⟨h1, by omega, h2⟩
  · exact .inr ⟨h1, fun h => h2 h.2⟩

def headS : ByteArray := ⟨#[99, 104, 117, 110, 107, 45, 48, 49]⟩
theorem txL_head : txL headS = magic := by rfl

set_option maxHeartbeats 3200000 in
set_option maxRecDepth 100000 in
theorem implWrite_any : WriteAt 7 := by
  intro v n P w hn hf hbit hwt h
  have HF := hide hf
  have HBit := hide hbit
  have HWt := hide hwt
  clear hf hbit hwt
  have HA := hide h
  obtain ⟨a, cap, rfl⟩ := h.val
  clear h
  have HB0 := hide (b_1 w (.cells #[.slice a n cap] 31))
  have HA0 := hide (HA.out.low HB0.out (Nat.le_refl _))
  have HR0 := hide (RowF.mk' w 31 #[.slice a n cap])
  go_enter Try.func7, Try.ntmps7
  go_upto_region 1 with (fail)
  have HHF := hide (hasFile_any a n cap P _ hn HF.out HBit.out HA0.out)
  generalize w.alloc (.cells #[.slice a n cap] 31) = w1 at *
  have y00 : w1.cell? ⟨w.heap.size, 0, none⟩ = some (.slice a n cap) := HR0.out.cell (j := 0) (by simp)
  go_wp2_with fail
  refine HHF.out.mono ?_
  rintro e w2 ⟨r, rfl, hr, hb2⟩
  have HB2 := hide (HB0.out.trans (hb2.mono HB0.out.size))
  have HR2 := hide (HR0.out.low hb2 HR0.out.lt)
  clear HB0 HA0 HR0 hb2 HHF y00
  rcases hr with ⟨rfl, hr⟩ | ⟨rfl, hr⟩
  case inr =>
    have HR := hide hr
    clear hr
    go_wp2
    refine bodyPost_ret (v := .tuple #[.slice none 0 0, .int .i64 12]) ?_ rfl ⟨_, _, rfl, .inr ⟨fun h => HR.out ⟨h.1, h.2⟩, rfl, rfl⟩, HB2.out⟩
    simp [results, Try.results7, go_sem]
  have hbi : ¬ (65535 : Int) < (n : Int) := by have := hr.1; omega
  replace hr := hr.2
  have HPl := hide hr
  clear hr
  go_wp2_with fail
  have hWS : WS w (w2.alloc (.cells #[.slice none 0 0] 55)) w2.heap.size (.slice none 0 0) [] :=
    ⟨HB2.out.alloc HB2.out.size _, HB2.out.size, (RowF.mk' w2 55 #[.slice none 0 0]).congr (fun j hj => by
      have : j = 0 := by simp at hj; omega
      subst this; rfl), World.ownsRow_nil _ _ _ _⟩
  have HW := hide hWS
  have HR3 := hide (HR2.out.low (b_1 w2 (.cells #[.slice none 0 0] 55)) HR2.out.lt)
  have hgR : w.heap.size ≠ w2.heap.size := by have := HR2.out.lt; omega
  clear hWS HR2 HB2
  generalize w2.alloc (.cells #[.slice none 0 0] 55) = w3 at HW HR3 ⊢
  generalize w2.heap.size = R at HW hgR ⊢
  refine (wtext_any w w3 R _ [] headS (by decide) HW.out).mono ?_
  rintro e w4 ⟨rfl, v4, h1, k1⟩
  rw [txL_head, List.nil_append] at h1
  have HW := hide h1
  have HR4 := hide (HR3.out.wk k1 (by decide) hgR)
  clear h1 k1 HR3
  have y0 : w4.cell? ⟨w.heap.size, 0, none⟩ = some (.slice a n cap) := HR4.out.cell (j := 0) (by simp)
  go_wp2_with fail
  clear y0
  refine (wnum_any w w4 R v4 magic (n : Int) 2 (by omega) (by decide) HW.out).mono ?_
  rintro e w5 ⟨rfl, v5, h1, k1⟩
  rw [← chL_0 n P] at h1
  have HW := hide h1
  have HR5 := hide (HR4.out.wk k1 (by decide) hgR)
  clear h1 k1 HR4
  have y0 : w5.cell? ⟨w.heap.size, 0, none⟩ = some (.slice a n cap) := HR5.out.cell (j := 0) (by simp)
  go_wp2_with fail
  clear y0 HR5
  rename_i K1 a1
  have HK1 := hide a1
  clear a1
  go_loopw [22] (fun iv wr => ∃ i : Nat, i ≤ n ∧ iv = .int .i64 i ∧ ∃ v', Hid (WS w wr R v' (chL n P i))) (fun iv _ => match iv with | .int _ x => n - x.toNat | _ => 0)
  case atStart => exact ⟨0, by omega, rfl, v5, HW⟩
  case round =>
    obtain ⟨i, hi9, rfl, v6, HWr⟩ := hrel
    clear HW
    have hcl := chL_len n P i
    have hwm := wts_mono P (show i ≤ n from hi9)
    have hw9 := HWt.out
    by_cases hin : i < n
    · rcases HA.out with ⟨h9, _⟩ | ⟨b, o, cap', e, hb, hcap, hc⟩
      · omega
      cases e
      obtain ⟨s4, s5, s6, s7, h8, hp8⟩ := hc i hin
      obtain ⟨a4, k4, rfl⟩ := hp8.u.val
      obtain ⟨a5, k5, rfl⟩ := hp8.c.val
      obtain ⟨a6, k6, rfl⟩ := hp8.i.val
      obtain ⟨a7, k7, rfl⟩ := hp8.l.val
      have c0 := (HWr.out.low.cell (p := ⟨b, o + i * 8, none⟩) hb).trans h8.1
      have c1 := (HWr.out.low.cell (p := ⟨b, o + i * 8 + 1, none⟩) hb).trans h8.2.1
      have c2 := (HWr.out.low.cell (p := ⟨b, o + i * 8 + 2, none⟩) hb).trans h8.2.2.1
      have c3 := (HWr.out.low.cell (p := ⟨b, o + i * 8 + 3, none⟩) hb).trans h8.2.2.2.1
      have c4 := (HWr.out.low.cell (p := ⟨b, o + i * 8 + 4, none⟩) hb).trans h8.2.2.2.2.1
      have c5 := (HWr.out.low.cell (p := ⟨b, o + i * 8 + 5, none⟩) hb).trans h8.2.2.2.2.2.1
      have c6 := (HWr.out.low.cell (p := ⟨b, o + i * 8 + 6, none⟩) hb).trans h8.2.2.2.2.2.2.1
      have c7 := (HWr.out.low.cell (p := ⟨b, o + i * 8 + 7, none⟩) hb).trans h8.2.2.2.2.2.2.2
      have HP8 := hide hp8
      have HW := hide (HWr.out.alloc (.cells #[.int .i64 (P i).params, .int .i64 (P i).regs, .int .i64 (P i).line, .bool (P i).dots, .slice a4 (P i).nu k4, .slice a5 (P i).nc k5, .slice a6 (P i).ni k6, .slice a7 (P i).nl k7] 46))
      clear hc h8 hp8
      go_wp2_with fail
      clear c0 c1 c2 c3 c4 c5 c6 c7
      refine (function_any w _ R v6 (chL n P i) (P i) _ _ _ _ (HPl.out i hin) (HF.out i hin) HP8.out (by omega) HW.out).mono ?_
      rintro e w8 ⟨rfl, v8, h1, k1⟩
      rw [chL_1] at h1
      have HW := hide h1
      clear h1 k1
      go_wp2
      go_roundw
      case rel => exact ⟨i + 1, by omega, by simp, v8, HW⟩
      case measure => simp; omega
    · obtain rfl : i = n := by omega
      go_wp2
      refine HK1.out _ _ ?_
      clear HK1
      have y0 := HWr.out.row.cell (j := 0) (by omega)
      have hby := HWr.out.own
      have hpos : 0 < (chL i P i).length := by rw [chL]; simp [magic]
      have hform : ∃ g1 k1, v6 = .slice (some ⟨g1, 0, none⟩) (chL i P i).length k1 := by
        rcases hby.2 with ⟨_, h4⟩ | ⟨g, cap, cur, hv, _⟩
        · omega
        · exact ⟨g, cap, hv⟩
      obtain ⟨g1, k1, rfl⟩ := hform
      have hbyA := OwnL.byA ⟨hby, fun hh => by cases hh⟩ (BytesL.ch i P i)
      have HBy := hide hbyA
      clear hby hbyA
      go_wp2_with fail
      clear y0
      refine (implCrc_any _ (chL i P i).length (natF (chL i P i)) wr (by omega) HBy.out).mono ?_
      rintro e w7 ⟨rfl, hb7⟩
      have HW7 := hide (HWr.out.below hb7)
      clear hb7
      have hC : crcL (chL i P i) = crcN (natF (chL i P i)) (chL i P i).length ^^^ 4294967295 := rfl
      rw [← hC]
      clear hC
      obtain ⟨C, hC⟩ : ∃ C, C = crcL (chL i P i) := ⟨_, rfl⟩
      rw [← hC]
      have HC := hide hC
      clear hC
      obtain ⟨M, hM⟩ : ∃ M, M = chL i P i := ⟨_, rfl⟩
      rw [← hM] at HC HW7 hcl hpos ⊢
      have HM := hide hM
      clear hM HWr HBy
      go_wp2_with fail
      refine (wnum_any w w7 R _ M _ 4 (by omega) (by omega) HW7.out).mono ?_
      rintro e w8 ⟨rfl, v8, h1, k1⟩
      have HW8 := hide h1
      clear h1 k1 HW7
      have y0 := HW8.out.row.cell (j := 0) (by omega)
      have hform : ∃ g2 n2 k2, v8 = .slice (some ⟨g2, 0, none⟩) n2 k2 := by
        rcases HW8.out.own.2 with ⟨_, h4⟩ | ⟨g, cap, cur, hv, _⟩
        · rw [List.length_append, u64n_len] at h4; omega
        · exact ⟨g, _, cap, hv⟩
      obtain ⟨g2, n2, k2, rfl⟩ := hform
      go_wp2
      refine bodyPost_ret (v := .tuple #[.slice (some ⟨g2, 0, none⟩) n2 k2, .int .i64 0]) ?_ rfl ⟨_, _, rfl, .inl ⟨⟨by omega, HPl.out⟩, rfl, ?_⟩, HW8.out.low⟩
      · simp [results, Try.results7, go_sem]
      · refine ⟨?_, fun hh => by cases hh⟩
        rw [fileL, ← HM.out, ← HC.out]
        exact HW8.out.own

end Go.Proofs.Ytplfgfdlcfdfdaa
