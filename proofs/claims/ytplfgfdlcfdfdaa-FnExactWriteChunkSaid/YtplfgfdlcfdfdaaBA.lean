import Derived.Test.YtplfgfdlcfdfdaaB9
namespace Go.Proofs.Ytplfgfdlcfdfdaa
open Go Go.RowKit
set_option linter.unusedVariables false

theorem Try.info46 : (Try.prog.info? 46).map (fun i => (i.zero, i.size, i.bytes)) = some (some (.agg #[.int .i64 0, .int .i64 0, .int .i64 0, .bool false, nilS, nilS, nilS, nilS]), 8, 128) := by kernel_rfl

theorem ProsO.new {w : World} {G n : Nat} {f : Nat → Value} {P : Nat → PV} (h : RowF w 46 G (n * 8) f) : ProsO w G n P 0 :=
  ⟨f, fun _ => G + 1, fun _ => 0, fun _ => 0, fun _ => 0, fun _ => 0, h, fun i hi => by omega, fun i hi => by omega, fun i hi => by omega, fun i hi => by show G < G + 1; omega, h.lt⟩

set_option maxHeartbeats 1600000 in
set_option maxRecDepth 100000 in
theorem toProtoS_any (v : Value) (n : Nat) (P : Nat → PV) (w : World) (hn : n ≤ 1048576) (hf : allFit n P 1048576) (h : ProsA w v n P) :
    Calls Try.prog 19 #[v] w fun e w' => e = .returned (sl w.heap.size n) ∧ ProsO w' w.heap.size n P n ∧ Below w.heap.size w w' := by
  obtain ⟨i0, hi, hz0, hz1, hz2⟩ := info_parts Try.info46
  rcases h with ⟨rfl, a, cap, rfl⟩ | ⟨b, o, cap, rfl, hb, hcap, hc⟩
  · clear hf
    go_enter Try.func19, Try.ntmps19
    go_wp2_with (first
      | (at_make; refine wpList_make_full _ rfl _ _ 29 rfl w.heap.size 46 i0 (.agg #[.int .i64 0, .int .i64 0, .int .i64 0, .bool false, nilS, nilS, nilS, nilS]) 8 Try.underlying29 hi hz0 hz1 _ _ _ _ 0 rfl rfl rfl rfl (by rw [hz2]; omega) (by unfold maxLen; omega) (Nat.le_refl _) ?_; intro w1 hown hgrow)
      | go_in)
    have hb1 : Below w.heap.size w w1 := (Below.refl _ _).grown hgrow (Nat.le_refl _) (fun _ h => by cases h)
    have HO := hide (ProsO.new (P := P) (rowF_owns hown))
    clear hgrow hown
    go_wp2
    go_loopw [4] (fun iv wr => iv = .int .i64 0 ∧ wr = w1) (fun _ _ => 0)
    case atStart => exact ⟨rfl, rfl⟩
    case round =>
      obtain ⟨rfl, rfl⟩ := hrel
      go_wp2
      go_ret
      exact ⟨rfl, HO.out, hb1⟩
  · have HC := hide hc
    have HF := hide hf
    clear hc hf
    go_enter Try.func19, Try.ntmps19
    go_wp2_with (first
      | (at_make; refine wpList_make_full _ rfl _ _ 29 rfl w.heap.size 46 i0 (.agg #[.int .i64 0, .int .i64 0, .int .i64 0, .bool false, nilS, nilS, nilS, nilS]) 8 Try.underlying29 hi hz0 hz1 _ _ _ _ n rfl rfl rfl rfl (by rw [hz2]; omega) (by unfold maxLen; omega) (Nat.le_refl _) ?_; intro w1 hown hgrow)
      | go_in)
    have hb1 : Below w.heap.size w w1 := (Below.refl _ _).grown hgrow (Nat.le_refl _) (fun _ h => by cases h)
    have HO := hide (ProsO.new (P := P) (rowF_owns hown))
    clear hgrow hown
    go_wp2
    go_loopw [4] (fun iv wr => ∃ i : Nat, i ≤ n ∧ iv = .int .i64 i ∧ ProsO wr w.heap.size n P i ∧ Below w.heap.size w wr) (fun iv _ => match iv with | .int _ x => n - x.toNat | _ => 0)
    case atStart => exact ⟨0, by omega, rfl, HO.out, hb1⟩
    case round =>
      clear HO hb1
      obtain ⟨i, hi9, rfl, hO, hbw⟩ := hrel
      by_cases hin : i < n
      · obtain ⟨s4, s5, s6, s7, hc8, hpva⟩ := HC.out i hin
        have HP := hide (hpva.low hbw (Nat.le_refl _))
        obtain ⟨c0, c1, c2, c3, c4, c5, c6, c7⟩ := hc8.low hbw hb
        clear hc8 hpva
        go_wp2_with fail
        refine (toProto_any (P i) s4 s5 s6 s7 wr (HF.out i hin) HP.out).mono ?_
        rintro e w2 ⟨g4, g5, g6, g7, rfl, q4, q5, q6, q7, q8, ho, hb2⟩
        have HS := hide (hO.step hin hb2 q4 q5 q6 q7 q8 ho)
        have HB := hide (put8_below (hbw.trans (hb2.mono hbw.size)) (Nat.le_refl _) (i * 8) (.int .i64 (P i).params) (.int .i64 (P i).regs) (.int .i64 (P i).line) (.bool (P i).dots) (sl g4 (P i).nu) (sl g5 (P i).nc) (sl g6 (P i).ni) (sl g7 (P i).nl))
        obtain ⟨f, L, b4, b5, b6, b7, hK⟩ := hO
        have hr := hK.row.low hb2 hK.row.lt
        have d0 := hr.cell (j := i * 8) (by omega)
        have d1 := hr.cell (j := i * 8 + 1) (by omega)
        have d2 := hr.cell (j := i * 8 + 2) (by omega)
        have d3 := hr.cell (j := i * 8 + 3) (by omega)
        have d4 := hr.cell (j := i * 8 + 4) (by omega)
        have d5 := hr.cell (j := i * 8 + 5) (by omega)
        have d6 := hr.cell (j := i * 8 + 6) (by omega)
        have d7 := hr.cell (j := i * 8 + 7) (by omega)
        have z0 := hr.frz (i * 8)
        have z1 := hr.frz (i * 8 + 1)
        have z2 := hr.frz (i * 8 + 2)
        have z3 := hr.frz (i * 8 + 3)
        have z4 := hr.frz (i * 8 + 4)
        have z5 := hr.frz (i * 8 + 5)
        have z6 := hr.frz (i * 8 + 6)
        have z7 := hr.frz (i * 8 + 7)
        clear hr hK hb2 hbw ho c0 c1 c2 c3 c4 c5 c6 c7 HP
        unfold PV.agg sl
        go_wp2
        go_roundw
        case rel => exact ⟨i + 1, by omega, by simp, HS.out, HB.out⟩
        case measure => simp; omega
      · obtain rfl : i = n := by omega
        have HO := hide hO
        clear hO
        go_wp2
        go_ret
        exact ⟨rfl, HO.out, hbw⟩

set_option maxHeartbeats 1600000 in
set_option maxRecDepth 100000 in
theorem toChunk_any (v : Value) (n : Nat) (P : Nat → PV) (w : World) (hn : n ≤ 1048576) (hf : allFit n P 1048576) (h : ProsA w v n P) :
    Calls Try.prog 6 #[.agg #[v]] w fun e w' => ∃ G, e = .returned (.agg #[sl G n]) ∧ w.heap.size ≤ G ∧ ProsO w' G n P n ∧ Below w.heap.size w w' := by
  have HA := hide (h.low (b_3 w (.cells #[v] 24) (.cells #[nilS] 31) (.cells #[nilS] 31)) (Nat.le_refl _))
  have HF := hide hf
  clear h hf
  go_enter Try.func6, Try.ntmps6
  go_wp2_with fail
  have HB := hide (b_3 w (.cells #[v] 24) (.cells #[nilS] 31) (.cells #[nilS] 31))
  have hz : (((w.alloc (.cells #[v] 24)).alloc (.cells #[nilS] 31)).alloc (.cells #[nilS] 31)).heap.size = w.heap.size + 1 + 1 + 1 := by simp
  have y1 := RowF.mk' (w.alloc (.cells #[v] 24)) 31 #[nilS]
  have y2 := RowF.mk' ((w.alloc (.cells #[v] 24)).alloc (.cells #[nilS] 31)) 31 #[nilS]
  have y3 := y1.low (b_1 _ (.cells #[nilS] 31)) y1.lt
  have u1 : (w.alloc (.cells #[v] 24)).heap.size = w.heap.size + 1 := by simp
  have u2 : ((w.alloc (.cells #[v] 24)).alloc (.cells #[nilS] 31)).heap.size = w.heap.size + 1 + 1 := by simp
  rw [u1] at y3
  rw [u2] at y2
  have a1 := y3.cell (j := 0) (by simp)
  have a2 := y2.cell (j := 0) (by simp)
  have t1 := y3.frz 0
  have t2 := y2.frz 0
  clear y1 y2 y3 u1 u2
  generalize ((w.alloc (.cells #[v] 24)).alloc (.cells #[nilS] 31)).alloc (.cells #[nilS] 31) = w1 at *
  refine (toProtoS_any v n P _ hn HF.out HA.out).mono ?_
  rintro e w2 ⟨rfl, ho, hb⟩
  have c1 := (hb.cell (p := ⟨w.heap.size + 1, 0, none⟩) (by show w.heap.size + 1 < w1.heap.size; omega)).trans a1
  have c2 := (hb.cell (p := ⟨w.heap.size + 1 + 1, 0, none⟩) (by show w.heap.size + 1 + 1 < w1.heap.size; omega)).trans a2
  have f1 := (hb.frozen (p := ⟨w.heap.size + 1, 0, none⟩) (by show w.heap.size + 1 < w1.heap.size; omega)).trans t1
  have f2 := (hb.frozen (p := ⟨w.heap.size + 1 + 1, 0, none⟩) (by show w.heap.size + 1 + 1 < w1.heap.size; omega)).trans t2
  have HB2 := hide (HB.out.trans (hb.mono HB.out.size))
  rw [hz] at ho ⊢
  have HO := hide ((ho.other (g' := w.heap.size + 1 + 1) (j := 0) (x := sl (w.heap.size + 1 + 1 + 1) n) (by omega)).other (g' := w.heap.size + 1) (j := 0) (x := sl (w.heap.size + 1 + 1 + 1) n) (by omega))
  clear a1 a2 t1 t2 hb HB ho hz HA HF
  unfold sl at HO ⊢
  go_wp2
  refine bodyPost_ret (v := .agg #[.slice (some ⟨w.heap.size + 1 + 1 + 1, 0, none⟩) n n]) ?_ rfl ⟨w.heap.size + 1 + 1 + 1, rfl, by omega, HO.out, ((HB2.out.setCell (by show w.heap.size ≤ w.heap.size + 1 + 1; omega) _).setCell (by show w.heap.size ≤ w.heap.size + 1; omega) _)⟩
  simp [results, Try.results6, go_sem, c1]

end Go.Proofs.Ytplfgfdlcfdfdaa
