import Derived.Test.YtcpeabchaimkaaaDoorJSL
namespace Go.Proofs.YtcpeabchaimkaaaDoor
open Go Go.RowKit
set_option linter.unusedVariables false

def pvs (ys : List FV) (k : Nat) : PV := (ys.getD k fv0).x.pv
/-- The bytes are those of what was read of them. -/
def ReadOk (l : List Int) (ys : List FV) : Prop := (dFile l).2.2 = false ∧ allPlain ys.length (pvs ys) ∧ fileL ys.length (pvs ys) = l
def SpR (l : List Int) (w : World) (e : Ending) (w' : World) : Prop :=
  Below w.heap.size w w' ∧ ∃ ys, ys.map FV.x = (dFile l).1.map DP.fd ∧ ((ReadOk l ys ∧ ∃ v lo, e = .returned (.tuple #[.agg #[v], .int .i64 0]) ∧ w.heap.size ≤ lo ∧ w'.ownsRow lo 44 8 v ys.length (fvC ys) ∧ Rows w' lo ys w'.heap.size) ∨ (¬ ReadOk l ys ∧ e = .returned (.tuple #[.agg #[nilS], .int .i64 12])))
theorem conv_part' {w : World} {v : Value} {l : List Int} (h : PartA w v l) : (convert 22 9 v).run Tryd.prog w = .ok (.string (bsL l)) w := by
  obtain ⟨b, o, cap, rfl, _, hc⟩ := h
  exact run_convert_bytes_arg w 22 5 Tryd.underlying22 Tryd.underlying5 b o l.length cap l rfl hc 9 Tryd.underlying9
theorem bs_ne {l m : List Int} (hl : BytesL l) (hm : BytesL m) (h : ((bsL l).toList == (bsL m).toList) = true) : l = m := by
  have h1 := eq_of_beq h
  rw [ByteArray.toList_eq, ByteArray.toList_eq] at h1
  rw [← txL_bsL hl, ← txL_bsL hm, txL, txL, h1]
theorem dProtos_sh {s : St} (n : Nat) (h : s.2 = true) : dProtos n s = ([], s) := by
  cases n with
  | zero => rfl
  | succ n => rw [dProtos, if_pos h]
theorem dProtos_1 {s : St} (n : Nat) (h : s.2 = false) : dProtos (n + 1) s = ((dProto s).1 :: (dProtos n (dProto s).2).1, (dProtos n (dProto s).2).2) := by rw [dProtos, if_neg (by rw [h]; simp)]

set_option maxHeartbeats 3200000 in
set_option maxRecDepth 100000 in
theorem specRead_any (v : Value) (l : List Int) (w : World) (hl : l.length ≤ 1048576) (hB : BytesL l) (hs : SlB w w.heap.size v l) :
    Calls Tryd.prog 4 #[v] w fun e w' => SpR l w e w' := by
  obtain ⟨a, cap, rfl⟩ : ∃ a cap, v = .slice a l.length cap := by
    rcases hs with ⟨rfl, a, cap, rfl, _⟩ | ⟨b, o, cap, rfl, _⟩
    · exact ⟨_, _, rfl⟩
    · exact ⟨_, _, rfl⟩
  have b2 := b_2 w (.cells #[nilS] 25) (.cells #[.slice a l.length cap, .bool false] 36)
  have s1 : (w.alloc (.cells #[nilS] 25)).heap.size = w.heap.size + 1 := by simp
  have s2 : ((w.alloc (.cells #[nilS] 25)).alloc (.cells #[.slice a l.length cap, .bool false] 36)).heap.size = w.heap.size + 1 + 1 := by simp
  have r1 : RowF (w.alloc (.cells #[nilS] 25)) 25 w.heap.size 1 (fun _ => nilS) := (RowF.mk' w 25 #[nilS]).congr (fun j hj => one_row nilS hj)
  have r1 := r1.low (b_1 (w.alloc (.cells #[nilS] 25)) (.cells #[.slice a l.length cap, .bool false] 36)) (by rw [s1]; omega)
  have r2 := RowF.mk' (w.alloc (.cells #[nilS] 25)) 36 #[.slice a l.length cap, .bool false]
  rw [s1] at r2
  have HRd := hide (show RdS ((w.alloc (.cells #[nilS] 25)).alloc (.cells #[.slice a l.length cap, .bool false] 36)) (w.heap.size + 1) l false from ⟨_, _, r2, rfl, rfl, by
    rcases hs.low b2 (Nat.le_refl _) with h | ⟨b1, o1, c1, h1, h2, h3⟩
    · exact .inl h
    · exact .inr ⟨b1, o1, c1, h1, by omega, h3⟩⟩)
  have HB2 := hide b2
  have HR1 := hide r1
  have HS2 := hide s2
  have HSl := hide hs
  have HBy := hide hB
  clear b2 s1 s2 r1 r2 hs hB
  go_enter Tryd.func4, Tryd.ntmps4
  go_wp2_with fail
  generalize (w.alloc (.cells #[nilS] 25)).alloc (.cells #[.slice a l.length cap, .bool false] 36) = w2 at *
  refine (bytes_any (w.heap.size + 1) 8 l false w2 (by omega) (by omega) HRd.out).mono ?_
  rintro e w3 ⟨vb, rfl, hk, hby⟩
  have hrb : RdS w3 (w.heap.size + 1) (rdD 8 l) (rdS 8 l false) := by
    rcases hby with ⟨hle6, h1, h2⟩ | ⟨hlt6, rfl, h2⟩
    · rw [rdD, rdS, if_pos hle6, if_pos hle6]; exact h2
    · rw [rdD, rdS, if_neg (by omega), if_neg (by omega)]; exact h2
  have hs2 := HS2.out
  have HC := hide (show CQ w2 (w3.alloc (.cells #[nilS] 25)) (w.heap.size + 1) w3.heap.size (rdD 8 l, rdS 8 l false) nilS [] [] from
    ⟨⟨by omega, hk.size⟩, ⟨hrb.low (b_1 w3 _) (by have := hk.size; omega), HBy.out.rdD, Nat.le_trans rdD_len (by omega)⟩, (RowF.mk' w3 25 #[nilS]).congr (fun j hj => one_row _ hj), hk.trans (Keeps.of (b_1 w3 _) (Nat.le_refl _) _), ⟨rfl, .inl ⟨rfl, rfl⟩⟩, ⟨by simp, Nat.le_refl _⟩⟩)
  have hl8 : (rdD 8 l).length ≤ 1048576 := Nat.le_trans rdD_len hl
  clear hk hby hrb
  go_upto_region 3 with (fail)
  rename_i K3 hK3
  have HK3 := hide hK3
  clear hK3
  go_wp2_with fail
  refine HK3.out _ _ ?_
  refine wp_seq_k ?_
  intro K5 hK5
  have HK5 := hide hK5
  clear hK5 HK3
  have hG2 := HC.out.o
  have HR3 := hide (HR1.out.keep HC.out.k (by omega))
  generalize w3.alloc (.cells #[nilS] 25) = w4 at *
  generalize w3.heap.size = G at *
  obtain ⟨s0, hs0⟩ : ∃ s0, (rdD 8 l, rdS 8 l false) = s0 := ⟨_, rfl⟩
  have HS0 := hide hs0
  have HL0 := hide (show s0.1.length ≤ 1048576 by rw [← hs0]; exact hl8)
  rw [hs0] at HC
  clear hs0 hl8
  go_cut [6] (fun sl wc => ∃ (s9 : St) (v : Value) (ys : List FV) (ds : List DP), Hid (dProtos (nm 2 false s0).1.toNat (nm 2 false s0).2 = (ds, s9)) ∧ Hid (ys.map FV.x = ds.map DP.fd) ∧ Hid (CQ w2 wc (w.heap.size + 1) G s9 v ys ys))
  case first =>
    obtain ⟨q5, hs⟩ : ∃ q, nm 2 false s0 = q := ⟨_, rfl⟩
    have HS6 := hide hs
    have hx := nm2_range s0 HC.out.rd.2.1
    go_wp2_with fail
    refine (number_nm (w.heap.size + 1) 2 false s0 w4 (by omega) HC.out.rd).mono ?_
    rintro e w9 ⟨rfl, hk, hn⟩
    rw [hs] at hn hx ⊢
    have hc := HC.out.go hk hn
    clear hs HC hk hn
    have HC := hide hc
    clear hc
    obtain ⟨n, hn⟩ : ∃ n : Nat, q5.1 = n := ⟨q5.1.toNat, by omega⟩
    have HN6 := hide (show q5.1.toNat = n by omega)
    rw [hn] at hx ⊢
    have hn9 : n ≤ 65535 := by omega
    clear hn hx
    go_wp2_with fail
    go_loopw [6] (fun iv wr => ∃ (m : Nat) (s9 : St) (v : Value) (ys : List FV) (ds : List DP), ys.length + m ≤ 65535 ∧ iv = .int .i64 (m : Nat) ∧ Hid (dProtos n q5.2 = (ds ++ (dProtos m s9).1, (dProtos m s9).2)) ∧ Hid (ys.map FV.x = ds.map DP.fd) ∧ Hid (CQ w2 wr (w.heap.size + 1) G s9 v ys ys)) (fun iv _ => match iv with | .int _ x => x.toNat | _ => 0)
    case atStart => exact ⟨n, q5.2, nilS, [], [], by simpa using hn9, rfl, hide (by simp), hide rfl, HC⟩
    clear HC
    case round =>
      obtain ⟨m, s9, v, ys, ds, hle, rfl, HE, HY, HC⟩ := hrel
      rcases m with _ | m
      · go_wp2_with fail
        go_meet
        case rel => exact ⟨s9, v, ys, ds, hide (by rw [HS6.out, HN6.out, HE.out]; simp [dProtos]), HY, HC⟩
      obtain ⟨⟨v0, fr, hr, e0, e1, hs0⟩, -⟩ := HC.out.rd
      have cR := hr.cell (j := 1) (by omega)
      rw [e1] at cR
      clear hr e0 e1 hs0
      have hm1 : (0 : Int) < ((m + 1 : Nat) : Int) := by omega
      rcases hb : s9.2 with _ | _
      case true =>
        rw [hb] at cR
        go_wp2_with fail
        go_meet
        case rel => exact ⟨s9, v, ys, ds, hide (by rw [HS6.out, HN6.out, HE.out, dProtos_sh _ hb]; simp), HY, HC⟩
      rw [hb] at cR
      have HE := hide (HE.out.trans (by rw [dProtos_1 m hb]))
      clear hb
      have HCd := hide HC.out.drew
      have c4 := HCd.out.p.cell (j := 0) (by omega)
      have z4 := HCd.out.p.frz 0
      go_wp2_with fail
      go_region_law
        (first
        | (go_simp
           go_at_call 14
           refine (proto_any (w.heap.size + 1) s9 _ HCd.out.rd).mono ?_
           rintro e w6 hpr
           obtain ⟨hk, hr, v4, v5, v6, v7, he, h4, h5, h6, h7⟩ := hpr.fd
           clear hpr
           obtain ⟨b4, k4, rfl⟩ := owns_val h4
           obtain ⟨b5, k5, rfl⟩ := owns_val h5
           obtain ⟨b6, k6, rfl⟩ := owns_val h6
           obtain ⟨b7, k7, rfl⟩ := owns_val h7
           have HC2 := hide (HCd.out.read hk hr h4 h5 h6 h7)
           obtain ⟨x, hx⟩ : ∃ x, (dProto s9).1.fd = x := ⟨_, rfl⟩
           rw [hx] at he HC2
           have HX := hide hx
           subst he
           have c5 := HC2.out.p.cell (j := 0) (by omega)
           have c6 : (w6.alloc (.cells #[.int .i64 x.params, .int .i64 x.regs, .int .i64 x.line, .bool x.dots, .slice b4 x.ups.length k4, .slice b5 x.cons.length k5, .slice b6 x.ins.length k6, .slice b7 x.ins.length k7] 44)).cell? ⟨G, 0, none⟩ = some v := ((b_1 w6 _).cell (p := ⟨G, 0, none⟩) HC2.out.p.lt).trans c5
           clear hk hr h4 h5 h6 h7 hx)
        | (have _z := HC2
           rw [if_pos (by rfl)]
           clear _z
           refine app_new_op _ _ 23 44 8 128 _ rfl Tryd.underlying23 Tryd.info44 rfl (by omega) (G + 1) v ys.length (fvC ys) [.int .i64 x.params, .int .i64 x.regs, .int .i64 x.line, .bool x.dots, .slice b4 x.ups.length k4, .slice b5 x.cons.length k5, .slice b6 x.ins.length k6, .slice b7 x.ins.length k7] HC2.out.own rfl rfl rfl (one_fn x b4 b5 b6 b7 k4 k5 k6 k7) (by omega) (by omega) (by have := HC2.out.p.lt; omega) ?_
           intro v' w7 h1 h2 h3
           obtain ⟨a9, k9, rfl⟩ := owns_val h1
           have HC3 := hide (HC2.out.app h1 h2 h3)
           have c5 : w7.cell? ⟨G, 0, none⟩ = some v := ((h2 _ _ (Below.refl _ _) (Nat.le_refl _)).cell (p := ⟨G, 0, none⟩) (Nat.lt_succ_self _)).trans c5
           have z5 : w7.frozen? ⟨G, 0, none⟩ = false := (HC2.out.p.low (h2 _ _ (Below.refl _ _) (Nat.le_refl _)) (Nat.lt_succ_self _)).frz 0
           clear h1 h2 h3 HC2))
      all_goals
        clear c4 z4 c5 z5 c6 HCd
        generalize w7.setCell ⟨G, 0, none⟩ (.slice a9 (ys.length + 1) k9) = w8 at *
        go_wp2_with fail
        go_roundw
        case rel => exact ⟨m, (dProto s9).2, _, ys ++ [⟨x, .slice b4 x.ups.length k4, .slice b5 x.cons.length k5, .slice b6 x.ins.length k6, .slice b7 x.ins.length k7⟩], ds ++ [(dProto s9).1], by simp; omega, by simp, hide (by rw [HE.out]; simp), hide (by rw [List.map_append, List.map_append, HY.out]; simp [HX.out]), HC3⟩
        case measure => simp
  case rest =>
    obtain ⟨s9, v, ys, ds, HD, HY, HC⟩ := hcut
    refine HK5.out _ _ ?_
    rename World => wc
    have HF := hide (show dFile l = (ds, s9) from by rw [dFile, HS0.out]; exact HD.out)
    have hoo := HC.out.o
    have r1 := HR1.out.keep HC.out.k (by omega)
    have g0 := r1.cell (j := 0) (by omega)
    have gz := r1.frz 0
    have HBw := hide (HB2.out.trans (HC.out.k.below (B := w.heap.size) HB2.out.size (by omega)))
    obtain ⟨⟨v0, fr, hr, e0, e1, hs0⟩, -⟩ := HC.out.rd
    have cR := hr.cell (j := 1) (by omega)
    rw [e1] at cR
    clear hr e0 e1 hs0
    rcases hb : s9.2 with _ | _
    case true =>
      rw [hb] at cR
      have HW := hide (HBw.out.setCell (p := ⟨w.heap.size, 0, none⟩) (Nat.le_refl _) nilS)
      have q0 := (r1.set (j := 0) (by omega) nilS).cell (j := 0) (by omega)
      simp only [if_true] at q0
      have Q0 := hide q0
      clear q0 r1
      go_wp2_with fail
      refine bodyPost_ret (v := .tuple #[.agg #[nilS], .int .i64 12]) ?_ rfl ⟨HW.out, ys, by rw [HF.out]; exact HY.out, .inr ⟨fun h => Bool.false_ne_true (by have h9 := h.1; rw [HF.out, hb] at h9; exact h9.symm), rfl⟩⟩
      simp [results, Tryd.results4, go_sem, g0]
    rw [hb] at cR
    have hfit := read_fits (n := (nm 2 false s0).1.toNat) (s := (nm 2 false s0).2) (ys := ys) (Nat.le_trans rdD_len HL0.out) (by rw [HD.out]; exact hb) (by rw [HD.out]; exact HY.out)
    have HFit := hide hfit
    obtain ⟨a9, k9, rfl⟩ := owns_val HC.out.own
    have p0 := HC.out.p.cell (j := 0) (by omega)
    have HPr := hide (pros_of HC.out.own HC.out.rows)
    have HNs := hide (show (dFile l).2.2 = false by rw [HF.out]; exact hb)
    clear hfit hb
    go_wp2_with fail
    refine (specWrite_any (.slice a9 ys.length k9) ys.length (pvs ys) wc HFit.out.1 HFit.out.2.1 HFit.out.2.2.1 HFit.out.2.2.2 HPr.out).mono ?_
    rintro e w6 ⟨v', c, rfl, hwr, hb6⟩
    have hc6 := HC.out
    have r6 := r1.low hb6 r1.lt
    have g0 := r6.cell (j := 0) (by omega)
    have gz := r6.frz 0
    have p6 : w6.cell? ⟨G, 0, none⟩ = some (.slice a9 ys.length k9) := (hb6.cell (p := ⟨G, 0, none⟩) HC.out.p.lt).trans p0
    have HW6 := hide (HBw.out.trans (hb6.mono HBw.out.size))
    have HW := hide (HW6.out.setCell (p := ⟨w.heap.size, 0, none⟩) (Nat.le_refl _) nilS)
    rcases hwr with ⟨hpl, rfl, hown⟩ | ⟨hnp, rfl, rfl⟩
    case inr =>
      have HNp := hide hnp
      clear hnp r6 r1 hb6 hc6
      go_wp2_with fail
      refine bodyPost_ret (v := .tuple #[.agg #[nilS], .int .i64 12]) ?_ rfl ⟨HW.out, ys, by rw [HF.out]; exact HY.out, .inr ⟨fun h => HNp.out h.2.1, rfl⟩⟩
      simp [results, Tryd.results4, go_sem, g0]
    have hcv := conv_part' hown.part
    have hcw := conv_sl (HSl.out.low HW6.out (Nat.le_refl _))
    have hBf : BytesL (fileL ys.length (pvs ys)) := (BytesL.ch _ _ _).app (BytesL.u64n _ _)
    have hc7 := HC.out.go (Keeps.of hb6 (Nat.le_refl _) _) (HC.out.rd.low' hb6 HC.out.rd.lt)
    have HFn := hide (hc7.fin (g2 := w.heap.size) (by omega) (.slice a9 ys.length k9))
    have HW2 := hide (HW6.out.setCell (p := ⟨w.heap.size, 0, none⟩) (Nat.le_refl _) (.slice a9 ys.length k9))
    have HPl := hide hpl
    have HBf := hide hBf
    obtain ⟨b9, o9, c9, rfl, -⟩ := hown.part
    clear hc6 hc7 r6 r1 hb6 hown hpl hBf
    by_cases hq : fileL ys.length (pvs ys) = l
    · rw [show bsL (fileL ys.length (pvs ys)) = bsL l by rw [hq]] at hcv
      have HEq := hide hq
      clear hq
      have hself : ((bsL l).toList == (bsL l).toList) = true := by simp
      generalize bsL l = B at *
      go_wp2_with fail
      refine bodyPost_ret (v := .tuple #[.agg #[.slice a9 ys.length k9], .int .i64 0]) ?_ rfl ⟨HW2.out, ys, by rw [HF.out]; exact HY.out, .inl ⟨⟨HNs.out, HPl.out, HEq.out⟩, _, G + 1, rfl, by have := HB2.out.size; omega, HFn.out.2⟩⟩
      simp [results, Tryd.results4, go_sem, g0]
    · have hne : ((bsL (fileL ys.length (pvs ys))).toList == (bsL l).toList) = false := by
        rcases h9 : ((bsL (fileL ys.length (pvs ys))).toList == (bsL l).toList) with _ | _
        · rfl
        · exact absurd (bs_ne HBf.out HBy.out h9) hq
      have HEq := hide hq
      clear hq
      generalize bsL (fileL ys.length (pvs ys)) = A at *
      generalize bsL l = B at *
      go_wp2_with fail
      refine bodyPost_ret (v := .tuple #[.agg #[nilS], .int .i64 12]) ?_ rfl ⟨HW.out, ys, by rw [HF.out]; exact HY.out, .inr ⟨fun h => HEq.out h.2.2, rfl⟩⟩
      simp [results, Tryd.results4, go_sem, g0]

end Go.Proofs.YtcpeabchaimkaaaDoor
