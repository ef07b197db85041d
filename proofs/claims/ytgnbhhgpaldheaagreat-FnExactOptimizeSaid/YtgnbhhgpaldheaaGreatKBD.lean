import Derived.Test.YtgnbhhgpaldheaaGreatKB8
namespace Go.Proofs.YtgnbhhgpaldheaaGreat
open Go Go.RowKit
set_option linter.unusedVariables false
theorem PVO.low {w w' : World} {p : PV} {g4 g5 g6 g7 B : Nat} (h : PVO w p g4 g5 g6 g7) (hb : Below B w w') (hB : w.heap.size ≤ B) : PVO w' p g4 g5 g6 g7 :=
  ⟨h.u.low hb (Nat.lt_of_lt_of_le h.u.lt hB), h.c.low hb (Nat.lt_of_lt_of_le h.c.lt hB), h.i.low hb (Nat.lt_of_lt_of_le h.i.lt hB), h.l.low hb (Nat.lt_of_lt_of_le h.l.lt hB)⟩
theorem PVO.other {w : World} {p : PV} {g4 g5 g6 g7 g' j : Nat} {x : Value} (h : PVO w p g4 g5 g6 g7) (h4 : g4 ≠ g') (h5 : g5 ≠ g') (h6 : g6 ≠ g') (h7 : g7 ≠ g') : PVO (w.setCell ⟨g', j, none⟩ x) p g4 g5 g6 g7 :=
  ⟨h.u.other h4, h.c.other h5, h.i.other h6, h.l.other h7⟩
theorem PVO.by {w : World} {p : PV} {g4 g5 g6 g7 : Nat} (h : PVO w p g4 g5 g6 g7) : PVA w p (sl g4 p.nu) (sl g5 p.nc) (sl g6 p.ni) (sl g7 p.nl) := ⟨h.u.by, h.c.by, h.i.by, h.l.by⟩
def F8 (f : Nat → Value) (q : Nat) (p : PV) (g4 g5 g6 g7 : Nat) : Prop :=
  f q = .int .i64 p.params ∧ f (q + 1) = .int .i64 p.regs ∧ f (q + 2) = .int .i64 p.line ∧ f (q + 3) = .bool p.dots ∧ f (q + 4) = sl g4 p.nu ∧ f (q + 5) = sl g5 p.nc ∧ f (q + 6) = sl g6 p.ni ∧ f (q + 7) = sl g7 p.nl
structure ProsK (w : World) (G n : Nat) (P : Nat → PV) (k : Nat) (f : Nat → Value) (L b4 b5 b6 b7 : Nat → Nat) : Prop where
  row : RowF w 45 G (n * 8) f
  cel : ∀ i, i < k → F8 f (i * 8) (P i) (b4 i) (b5 i) (b6 i) (b7 i)
  own : ∀ i, i < k → PVO w (P i) (b4 i) (b5 i) (b6 i) (b7 i)
  ord : ∀ i, i < k → L i ≤ b4 i ∧ b4 i < b5 i ∧ b5 i < b6 i ∧ b6 i < b7 i ∧ b7 i < L (i + 1)
  low : ∀ i, i ≤ k → G < L i
  top : L k ≤ w.heap.size
def ProsO (w : World) (G n : Nat) (P : Nat → PV) (k : Nat) : Prop := ∃ f L b4 b5 b6 b7, ProsK w G n P k f L b4 b5 b6 b7
theorem ProsO.low {w w' : World} {G n k : Nat} {P : Nat → PV} {B : Nat} (h : ProsO w G n P k) (hb : Below B w w') (hB : w.heap.size ≤ B) : ProsO w' G n P k := by
  obtain ⟨f, L, b4, b5, b6, b7, h⟩ := h
  exact ⟨f, L, b4, b5, b6, b7, h.row.low hb (Nat.lt_of_lt_of_le h.row.lt hB), h.cel, fun i hi => (h.own i hi).low hb hB, h.ord, h.low, Nat.le_trans h.top hb.size⟩
theorem ProsO.other {w : World} {G n k g' j : Nat} {P : Nat → PV} {x : Value} (h : ProsO w G n P k) (hg : g' < G) : ProsO (w.setCell ⟨g', j, none⟩ x) G n P k := by
  obtain ⟨f, L, b4, b5, b6, b7, h⟩ := h
  refine ⟨f, L, b4, b5, b6, b7, h.row.other (by omega), h.cel, fun i hi => ?_, h.ord, h.low, by simpa using h.top⟩
  have o := h.ord i hi
  have l := h.low i (by omega)
  exact (h.own i hi).other (by omega) (by omega) (by omega) (by omega)
theorem ProsO.by {w : World} {G n : Nat} {P : Nat → PV} (h : ProsO w G n P n) : ProsA w (sl G n) n P := by
  obtain ⟨f, L, b4, b5, b6, b7, h⟩ := h
  refine .inr ⟨G, 0, n, rfl, h.row.lt, Nat.le_refl _, fun i hi => ⟨_, _, _, _, ?_, (h.own i hi).by⟩⟩
  obtain ⟨c0, c1, c2, c3, c4, c5, c6, c7⟩ := h.cel i hi
  rw [Nat.zero_add]
  refine ⟨?_, ?_, ?_, ?_, ?_, ?_, ?_, ?_⟩
  · rw [h.row.cell (j := i * 8) (by omega), c0]
  · rw [h.row.cell (j := i * 8 + 1) (by omega), c1]
  · rw [h.row.cell (j := i * 8 + 2) (by omega), c2]
  · rw [h.row.cell (j := i * 8 + 3) (by omega), c3]
  · rw [h.row.cell (j := i * 8 + 4) (by omega), c4]
  · rw [h.row.cell (j := i * 8 + 5) (by omega), c5]
  · rw [h.row.cell (j := i * 8 + 6) (by omega), c6]
  · rw [h.row.cell (j := i * 8 + 7) (by omega), c7]
def put8 (w : World) (G q : Nat) (v0 v1 v2 v3 v4 v5 v6 v7 : Value) : World :=
  (((((((w.setCell ⟨G, q, none⟩ v0).setCell ⟨G, q + 1, none⟩ v1).setCell ⟨G, q + 2, none⟩ v2).setCell ⟨G, q + 3, none⟩ v3).setCell ⟨G, q + 4, none⟩ v4).setCell ⟨G, q + 5, none⟩ v5).setCell ⟨G, q + 6, none⟩ v6).setCell ⟨G, q + 7, none⟩ v7
theorem put8_size (w : World) (G q : Nat) (v0 v1 v2 v3 v4 v5 v6 v7 : Value) : (put8 w G q v0 v1 v2 v3 v4 v5 v6 v7).heap.size = w.heap.size := by simp [put8]
theorem put8_below {B : Nat} {w w' : World} (h : Below B w w') {G : Nat} (hG : B ≤ G) (q : Nat) (v0 v1 v2 v3 v4 v5 v6 v7 : Value) : Below B w (put8 w' G q v0 v1 v2 v3 v4 v5 v6 v7) :=
  (((((((h.setCell hG _).setCell hG _).setCell hG _).setCell hG _).setCell hG _).setCell hG _).setCell hG _).setCell hG _
theorem PVO.put8 {w : World} {p : PV} {g4 g5 g6 g7 G : Nat} (h : PVO w p g4 g5 g6 g7) (h4 : g4 ≠ G) (h5 : g5 ≠ G) (h6 : g6 ≠ G) (h7 : g7 ≠ G) (q : Nat) (v0 v1 v2 v3 v4 v5 v6 v7 : Value) : PVO (put8 w G q v0 v1 v2 v3 v4 v5 v6 v7) p g4 g5 g6 g7 :=
  (((((((h.other h4 h5 h6 h7).other h4 h5 h6 h7).other h4 h5 h6 h7).other h4 h5 h6 h7).other h4 h5 h6 h7).other h4 h5 h6 h7).other h4 h5 h6 h7).other h4 h5 h6 h7
theorem RowF.put8 {w : World} {T G N q : Nat} {f : Nat → Value} (h : RowF w T G N f) (hq : q + 8 ≤ N) (v0 v1 v2 v3 v4 v5 v6 v7 : Value) :
    RowF (put8 w G q v0 v1 v2 v3 v4 v5 v6 v7) T G N (fun j => if j = q + 7 then v7 else if j = q + 6 then v6 else if j = q + 5 then v5 else if j = q + 4 then v4 else if j = q + 3 then v3 else if j = q + 2 then v2 else if j = q + 1 then v1 else if j = q then v0 else f j) :=
  (((((((h.set (by omega) v0).set (by omega) v1).set (by omega) v2).set (by omega) v3).set (by omega) v4).set (by omega) v5).set (by omega) v6).set (by omega) v7
theorem ProsO.step {w w2 : World} {G n i : Nat} {P : Nat → PV} {g4 g5 g6 g7 : Nat} (h : ProsO w G n P i) (hi : i < n) (hb : Below w.heap.size w w2) (q4 : w.heap.size ≤ g4) (q5 : g4 < g5) (q6 : g5 < g6) (q7 : g6 < g7) (q8 : g7 < w2.heap.size)
    (ho : PVO w2 (P i) g4 g5 g6 g7) : ProsO (put8 w2 G (i * 8) (.int .i64 (P i).params) (.int .i64 (P i).regs) (.int .i64 (P i).line) (.bool (P i).dots) (sl g4 (P i).nu) (sl g5 (P i).nc) (sl g6 (P i).ni) (sl g7 (P i).nl)) G n P (i + 1) := by
  obtain ⟨f, L, b4, b5, b6, b7, h⟩ := h
  have hGl : G < w.heap.size := Nat.lt_of_lt_of_le (h.low i (Nat.le_refl _)) h.top
  refine ⟨_, fun j => if j = i + 1 then w2.heap.size else L j, fun j => if j = i then g4 else b4 j, fun j => if j = i then g5 else b5 j, fun j => if j = i then g6 else b6 j, fun j => if j = i then g7 else b7 j, (h.row.low hb hGl).put8 (q := i * 8) (by omega) _ _ _ _ _ _ _ _, fun j hj => ?_, fun j hj => ?_, fun j hj => ?_, fun j hj => ?_, ?_⟩
  · by_cases e : j = i
    · subst e
      simp [F8]
    · obtain ⟨c0, c1, c2, c3, c4, c5, c6, c7⟩ := h.cel j (by omega)
      simp only [if_neg e]
      have K : ∀ k, k < 8 → ∀ a, a < 8 → ¬ j * 8 + k = i * 8 + a := fun k hk a ha => by omega
      refine ⟨?_, ?_, ?_, ?_, ?_, ?_, ?_, ?_⟩
      all_goals (simp only []; iterate 8 rw [if_neg (by omega)])
      all_goals assumption
  · by_cases e : j = i
    · subst e
      simp only [if_true]
      exact ho.put8 (by omega) (by omega) (by omega) (by omega) _ _ _ _ _ _ _ _ _
    · simp only [if_neg e]
      have o := h.ord j (by omega)
      have l := h.low j (by omega)
      exact ((h.own j (by omega)).low hb (Nat.le_refl _)).put8 (by omega) (by omega) (by omega) (by omega) _ _ _ _ _ _ _ _ _
  · by_cases e : j = i
    · subst e
      have t := h.top
      simp
      omega
    · have o := h.ord j (by omega)
      simp only [if_neg e]
      rw [if_neg (show ¬ j = i + 1 by omega), if_neg (show ¬ j + 1 = i + 1 by omega)]
      exact o
  · show G < if j = i + 1 then w2.heap.size else L j
    by_cases e : j = i + 1
    · rw [if_pos e]; exact Nat.lt_of_lt_of_le hGl hb.size
    · rw [if_neg e]; exact h.low j (by omega)
  · rw [put8_size]
    simp
theorem Tryz.info45 : (Tryz.prog.info? 45).map (fun i => (i.zero, i.size, i.bytes)) = some (some (.agg #[.int .i64 0, .int .i64 0, .int .i64 0, .bool false, nilS, nilS, nilS, nilS]), 8, 128) := by kernel_rfl
theorem ProsO.new {w : World} {G n : Nat} {f : Nat → Value} {P : Nat → PV} (h : RowF w 45 G (n * 8) f) : ProsO w G n P 0 :=
  ⟨f, fun _ => G + 1, fun _ => 0, fun _ => 0, fun _ => 0, fun _ => 0, h, fun i hi => by omega, fun i hi => by omega, fun i hi => by omega, fun i hi => by show G < G + 1; omega, h.lt⟩
set_option maxHeartbeats 1600000 in
set_option maxRecDepth 100000 in
theorem toProtoS_any (v : Value) (n : Nat) (P : Nat → PV) (w : World) (hn : n ≤ 1048576) (hf : allFit n P 1048576) (h : ProsA w v n P) :
    Calls Tryz.prog 16 #[v] w fun e w' => e = .returned (sl w.heap.size n) ∧ ProsO w' w.heap.size n P n ∧ Below w.heap.size w w' := by
  obtain ⟨i0, hi, hz0, hz1, hz2⟩ := info_parts Tryz.info45
  rcases h with ⟨rfl, a, cap, rfl⟩ | ⟨b, o, cap, rfl, hb, hcap, hc⟩
  · clear hf
    go_enter Tryz.func16, Tryz.ntmps16
    go_wp2_with (first
      | (at_make; refine wpList_make_full _ rfl _ _ 26 rfl w.heap.size 45 i0 (.agg #[.int .i64 0, .int .i64 0, .int .i64 0, .bool false, nilS, nilS, nilS, nilS]) 8 Tryz.underlying26 hi hz0 hz1 _ _ _ _ 0 rfl rfl rfl rfl (by rw [hz2]; omega) (by unfold maxLen; omega) (Nat.le_refl _) ?_; intro w1 hown hgrow)
      | go_in)
    have hb1 : Below w.heap.size w w1 := (Below.refl _ _).grown hgrow (Nat.le_refl _) (fun _ h => by cases h)
    have HO := hide (ProsO.new (P := P) (rowF_owns hown))
    clear hgrow hown
    go_wp2
    go_loopw [4] (fun iv wr => iv = .int .i64 0 ∧ wr = w1) (fun _ _ => 0)
    case atStart => exact ⟨rfl, rfl⟩
    case round =>
      obtain ⟨rfl, rfl⟩ := hrel
      go_wp2
      go_ret
      exact ⟨rfl, HO.out, hb1⟩
  · have HC := hide hc
    have HF := hide hf
    clear hc hf
    go_enter Tryz.func16, Tryz.ntmps16
    go_wp2_with (first
      | (at_make; refine wpList_make_full _ rfl _ _ 26 rfl w.heap.size 45 i0 (.agg #[.int .i64 0, .int .i64 0, .int .i64 0, .bool false, nilS, nilS, nilS, nilS]) 8 Tryz.underlying26 hi hz0 hz1 _ _ _ _ n rfl rfl rfl rfl (by rw [hz2]; omega) (by unfold maxLen; omega) (Nat.le_refl _) ?_; intro w1 hown hgrow)
      | go_in)
    have hb1 : Below w.heap.size w w1 := (Below.refl _ _).grown hgrow (Nat.le_refl _) (fun _ h => by cases h)
    have HO := hide (ProsO.new (P := P) (rowF_owns hown))
    clear hgrow hown
    go_wp2
    go_loopw [4] (fun iv wr => ∃ i : Nat, i ≤ n ∧ iv = .int .i64 i ∧ ProsO wr w.heap.size n P i ∧ Below w.heap.size w wr) (fun iv _ => match iv with | .int _ x => n - x.toNat | _ => 0)
    case atStart => exact ⟨0, by omega, rfl, HO.out, hb1⟩
    case round =>
      clear HO hb1
      obtain ⟨i, hi9, rfl, hO, hbw⟩ := hrel
      by_cases hin : i < n
      · obtain ⟨s4, s5, s6, s7, hc8, hpva⟩ := HC.out i hin
        have HP := hide (hpva.low hbw (Nat.le_refl _))
        obtain ⟨c0, c1, c2, c3, c4, c5, c6, c7⟩ := hc8.low hbw hb
        clear hc8 hpva
        go_wp2_with fail
        refine (toProto_any (P i) s4 s5 s6 s7 wr (HF.out i hin) HP.out).mono ?_
        rintro e w2 ⟨g4, g5, g6, g7, rfl, q4, q5, q6, q7, q8, ho, hb2⟩
        have HS := hide (hO.step hin hb2 q4 q5 q6 q7 q8 ho)
        have HB := hide (put8_below (hbw.trans (hb2.mono hbw.size)) (Nat.le_refl _) (i * 8) (.int .i64 (P i).params) (.int .i64 (P i).regs) (.int .i64 (P i).line) (.bool (P i).dots) (sl g4 (P i).nu) (sl g5 (P i).nc) (sl g6 (P i).ni) (sl g7 (P i).nl))
        obtain ⟨f, L, b4, b5, b6, b7, hK⟩ := hO
        have hr := hK.row.low hb2 hK.row.lt
        have d0 := hr.cell (j := i * 8) (by omega)
        have d1 := hr.cell (j := i * 8 + 1) (by omega)
        have d2 := hr.cell (j := i * 8 + 2) (by omega)
        have d3 := hr.cell (j := i * 8 + 3) (by omega)
        have d4 := hr.cell (j := i * 8 + 4) (by omega)
        have d5 := hr.cell (j := i * 8 + 5) (by omega)
        have d6 := hr.cell (j := i * 8 + 6) (by omega)
        have d7 := hr.cell (j := i * 8 + 7) (by omega)
        have z0 := hr.frz (i * 8)
        have z1 := hr.frz (i * 8 + 1)
        have z2 := hr.frz (i * 8 + 2)
        have z3 := hr.frz (i * 8 + 3)
        have z4 := hr.frz (i * 8 + 4)
        have z5 := hr.frz (i * 8 + 5)
        have z6 := hr.frz (i * 8 + 6)
        have z7 := hr.frz (i * 8 + 7)
        clear hr hK hb2 hbw ho c0 c1 c2 c3 c4 c5 c6 c7 HP
        unfold PV.agg sl
        go_wp2
        go_roundw
        case rel => exact ⟨i + 1, by omega, by simp, HS.out, HB.out⟩
        case measure => simp; omega
      · obtain rfl : i = n := by omega
        have HO := hide hO
        clear hO
        go_wp2
        go_ret
        exact ⟨rfl, HO.out, hbw⟩
set_option maxHeartbeats 1600000 in
set_option maxRecDepth 100000 in
theorem toChunk_any (v : Value) (n : Nat) (P : Nat → PV) (w : World) (hn : n ≤ 1048576) (hf : allFit n P 1048576) (h : ProsA w v n P) :
    Calls Tryz.prog 6 #[.agg #[v]] w fun e w' => ∃ G, e = .returned (.agg #[sl G n]) ∧ w.heap.size ≤ G ∧ ProsO w' G n P n ∧ Below w.heap.size w w' := by
  have HA := hide (h.low (b_3 w (.cells #[v] 24) (.cells #[nilS] 28) (.cells #[nilS] 28)) (Nat.le_refl _))
  have HF := hide hf
  clear h hf
  go_enter Tryz.func6, Tryz.ntmps6
  go_wp2_with fail
  have HB := hide (b_3 w (.cells #[v] 24) (.cells #[nilS] 28) (.cells #[nilS] 28))
  have hz : (((w.alloc (.cells #[v] 24)).alloc (.cells #[nilS] 28)).alloc (.cells #[nilS] 28)).heap.size = w.heap.size + 1 + 1 + 1 := by simp
  have y1 := RowF.mk' (w.alloc (.cells #[v] 24)) 28 #[nilS]
  have y2 := RowF.mk' ((w.alloc (.cells #[v] 24)).alloc (.cells #[nilS] 28)) 28 #[nilS]
  have y3 := y1.low (b_1 _ (.cells #[nilS] 28)) y1.lt
  have u1 : (w.alloc (.cells #[v] 24)).heap.size = w.heap.size + 1 := by simp
  have u2 : ((w.alloc (.cells #[v] 24)).alloc (.cells #[nilS] 28)).heap.size = w.heap.size + 1 + 1 := by simp
  rw [u1] at y3
  rw [u2] at y2
  have a1 := y3.cell (j := 0) (by simp)
  have a2 := y2.cell (j := 0) (by simp)
  have t1 := y3.frz 0
  have t2 := y2.frz 0
  clear y1 y2 y3 u1 u2
  generalize ((w.alloc (.cells #[v] 24)).alloc (.cells #[nilS] 28)).alloc (.cells #[nilS] 28) = w1 at *
  refine (toProtoS_any v n P _ hn HF.out HA.out).mono ?_
  rintro e w2 ⟨rfl, ho, hb⟩
  have c1 := (hb.cell (p := ⟨w.heap.size + 1, 0, none⟩) (by show w.heap.size + 1 < w1.heap.size; omega)).trans a1
  have c2 := (hb.cell (p := ⟨w.heap.size + 1 + 1, 0, none⟩) (by show w.heap.size + 1 + 1 < w1.heap.size; omega)).trans a2
  have f1 := (hb.frozen (p := ⟨w.heap.size + 1, 0, none⟩) (by show w.heap.size + 1 < w1.heap.size; omega)).trans t1
  have f2 := (hb.frozen (p := ⟨w.heap.size + 1 + 1, 0, none⟩) (by show w.heap.size + 1 + 1 < w1.heap.size; omega)).trans t2
  have HB2 := hide (HB.out.trans (hb.mono HB.out.size))
  rw [hz] at ho ⊢
  have HO := hide ((ho.other (g' := w.heap.size + 1 + 1) (j := 0) (x := sl (w.heap.size + 1 + 1 + 1) n) (by omega)).other (g' := w.heap.size + 1) (j := 0) (x := sl (w.heap.size + 1 + 1 + 1) n) (by omega))
  clear a1 a2 t1 t2 hb HB ho hz HA HF
  unfold sl at HO ⊢
  go_wp2
  refine bodyPost_ret (v := .agg #[.slice (some ⟨w.heap.size + 1 + 1 + 1, 0, none⟩) n n]) ?_ rfl ⟨w.heap.size + 1 + 1 + 1, rfl, by omega, HO.out, ((HB2.out.setCell (by show w.heap.size ≤ w.heap.size + 1 + 1; omega) _).setCell (by show w.heap.size ≤ w.heap.size + 1; omega) _)⟩
  simp [results, Tryz.results6, go_sem, c1]
set_option maxHeartbeats 1600000 in
set_option maxRecDepth 100000 in
theorem eqProto_any (p : PV) (s4 s5 s6 s7 t4 t5 t6 t7 : Value) (w : World) (hf : p.fits 1048576) (h : PVA w p s4 s5 s6 s7) (h' : PVA w p t4 t5 t6 t7) :
    Calls Tryz.prog 53 #[p.agg s4 s5 s6 s7, p.agg t4 t5 t6 t7] w fun e w' => e = .returned (.bool true) ∧ Below w.heap.size w w' := by
  obtain ⟨hs1, hs2, hs3, hs4, -⟩ := hf
  have HB := hide (b_2 w (.cells #[.int .i64 p.params, .int .i64 p.regs, .int .i64 p.line, .bool p.dots, s4, s5, s6, s7] 45) (.cells #[.int .i64 p.params, .int .i64 p.regs, .int .i64 p.line, .bool p.dots, t4, t5, t6, t7] 45))
  have HP := hide ((PC.mk w 45 p s4 s5 s6 s7).low (b_1 _ (.cells #[.int .i64 p.params, .int .i64 p.regs, .int .i64 p.line, .bool p.dots, t4, t5, t6, t7] 45)) (by simp))
  have hQ := PC.mk (w.alloc (.cells #[.int .i64 p.params, .int .i64 p.regs, .int .i64 p.line, .bool p.dots, s4, s5, s6, s7] 45)) 45 p t4 t5 t6 t7
  have u1 : (w.alloc (.cells #[.int .i64 p.params, .int .i64 p.regs, .int .i64 p.line, .bool p.dots, s4, s5, s6, s7] 45)).heap.size = w.heap.size + 1 := by simp
  rw [u1] at hQ
  have HQ := hide hQ
  have HA := hide (h.low HB.out (Nat.le_refl _))
  have HA' := hide (h'.low HB.out (Nat.le_refl _))
  clear h h' hQ u1
  unfold PV.agg
  go_enter Tryz.func53, Tryz.ntmps53
  go_wp2_with fail
  generalize (w.alloc (.cells #[.int .i64 p.params, .int .i64 p.regs, .int .i64 p.line, .bool p.dots, s4, s5, s6, s7] 45)).alloc (.cells #[.int .i64 p.params, .int .i64 p.regs, .int .i64 p.line, .bool p.dots, t4, t5, t6, t7] 45) = w1 at *
  refine (eqUpS_any s4 t4 p.nu p.u0 p.u1 w1 hs1 HA.out.u HA'.out.u).mono ?_
  rintro e w2 ⟨rfl, hb⟩
  have HB := hide (HB.out.trans (hb.mono HB.out.size))
  have HP := hide (HP.out.low hb HP.out.1)
  have HQ := hide (HQ.out.low hb HQ.out.1)
  have HA := hide (HA.out.low hb (Nat.le_refl _))
  have HA' := hide (HA'.out.low hb (Nat.le_refl _))
  clear hb
  obtain ⟨-, -, -, -, -, c4, c5, c6, c7⟩ := HP.out
  obtain ⟨-, -, -, -, -, d4, d5, d6, d7⟩ := HQ.out
  go_wp2_with fail
  clear c4 c5 c6 c7 d4 d5 d6 d7
  refine (eqConstS_any s5 t5 p.nc p.c0 p.c1 p.c2 p.c3 w2 hs2 HA.out.c HA'.out.c).mono ?_
  rintro e w3 ⟨rfl, hb⟩
  have HB := hide (HB.out.trans (hb.mono HB.out.size))
  have HP := hide (HP.out.low hb HP.out.1)
  have HQ := hide (HQ.out.low hb HQ.out.1)
  have HA := hide (HA.out.low hb (Nat.le_refl _))
  have HA' := hide (HA'.out.low hb (Nat.le_refl _))
  clear hb
  obtain ⟨-, -, -, -, -, c4, c5, c6, c7⟩ := HP.out
  obtain ⟨-, -, -, -, -, d4, d5, d6, d7⟩ := HQ.out
  go_wp2_with fail
  clear c4 c5 c6 c7 d4 d5 d6 d7
  refine (eqInstrS_any s6 t6 p.ni p.i0 p.i1 p.i2 p.i3 w3 hs3 HA.out.i HA'.out.i).mono ?_
  rintro e w4 ⟨rfl, hb⟩
  have HB := hide (HB.out.trans (hb.mono HB.out.size))
  have HP := hide (HP.out.low hb HP.out.1)
  have HQ := hide (HQ.out.low hb HQ.out.1)
  have HA := hide (HA.out.low hb (Nat.le_refl _))
  have HA' := hide (HA'.out.low hb (Nat.le_refl _))
  clear hb
  obtain ⟨-, -, -, -, -, c4, c5, c6, c7⟩ := HP.out
  obtain ⟨-, -, -, -, -, d4, d5, d6, d7⟩ := HQ.out
  go_wp2_with fail
  clear c4 c5 c6 c7 d4 d5 d6 d7
  refine (eqIntS_any s7 t7 p.nl p.l0 w4 hs4 HA.out.l HA'.out.l).mono ?_
  rintro e w5 ⟨rfl, hb⟩
  have HB := hide (HB.out.trans (hb.mono HB.out.size))
  go_wp2
  go_ret
  exact ⟨rfl, HB.out⟩
set_option maxHeartbeats 1600000 in
set_option maxRecDepth 100000 in
theorem eqProtoS_any (v v' : Value) (n : Nat) (P : Nat → PV) (w : World) (hn : n ≤ 1048576) (hf : allFit n P 1048576) (h : ProsA w v n P) (h' : ProsA w v' n P) :
    Calls Tryz.prog 23 #[v, v'] w fun e w' => e = .returned (.bool true) ∧ Below w.heap.size w w' := by
  by_cases h0 : n = 0
  · subst h0
    obtain ⟨a, cap, rfl⟩ := h.val
    obtain ⟨a', cap', rfl⟩ := h'.val
    clear h h' hf
    go_enter Tryz.func23, Tryz.ntmps23
    go_wp2
    go_loopw [5] (fun iv wr => iv = .int .i64 0 ∧ wr = w) (fun _ _ => 0)
    case atStart => exact ⟨rfl, rfl⟩
    case round =>
      obtain ⟨rfl, rfl⟩ := hrel
      go_wp2
      go_ret
      exact ⟨rfl, Below.refl _ _⟩
  · rcases h with ⟨h9, _⟩ | ⟨b, o, cap, rfl, hb, hcap, hc⟩
    · exact absurd h9 h0
    rcases h' with ⟨h9, _⟩ | ⟨b', o', cap', rfl, hb', hcap', hc'⟩
    · exact absurd h9 h0
    have HC := hide hc
    have HC' := hide hc'
    have HF := hide hf
    clear hc hc' hf
    go_enter Tryz.func23, Tryz.ntmps23
    go_wp2
    go_loopw [5] (fun iv wr => ∃ i : Nat, i ≤ n ∧ iv = .int .i64 i ∧ Below w.heap.size w wr) (fun iv _ => match iv with | .int _ x => n - x.toNat | _ => 0)
    case atStart => exact ⟨0, by omega, rfl, Below.refl _ _⟩
    case round =>
      obtain ⟨i, hi9, rfl, hbw⟩ := hrel
      by_cases hin : i < n
      · obtain ⟨s4, s5, s6, s7, hc8, hpva⟩ := HC.out i hin
        obtain ⟨t4, t5, t6, t7, hd8, hpvb⟩ := HC'.out i hin
        have HP := hide (hpva.low hbw (Nat.le_refl _))
        have HP' := hide (hpvb.low hbw (Nat.le_refl _))
        obtain ⟨c0, c1, c2, c3, c4, c5, c6, c7⟩ := hc8.low hbw hb
        obtain ⟨e0, e1, e2, e3, e4, e5, e6, e7⟩ := hd8.low hbw hb'
        clear hc8 hpva hd8 hpvb
        have hlb : b < wr.heap.size := Nat.lt_of_lt_of_le hb hbw.size
        have hlb' : b' < wr.heap.size := Nat.lt_of_lt_of_le hb' hbw.size
        have HB := hide hbw
        clear hbw
        go_wp2_with fail
        go_region_held3 (fun w9 => (w9.cell? ⟨b, o + i * 8, none⟩ = some (.int .i64 (P i).params) ∧ w9.cell? ⟨b, o + i * 8 + 1, none⟩ = some (.int .i64 (P i).regs) ∧ w9.cell? ⟨b, o + i * 8 + 2, none⟩ = some (.int .i64 (P i).line) ∧ w9.cell? ⟨b, o + i * 8 + 3, none⟩ = some (.bool (P i).dots) ∧ w9.cell? ⟨b, o + i * 8 + 4, none⟩ = some (s4) ∧ w9.cell? ⟨b, o + i * 8 + 5, none⟩ = some (s5) ∧ w9.cell? ⟨b, o + i * 8 + 6, none⟩ = some (s6) ∧ w9.cell? ⟨b, o + i * 8 + 7, none⟩ = some (s7)) ∧ w9.cell? ⟨b', o' + i * 8, none⟩ = some (.int .i64 (P i).params) ∧ w9.cell? ⟨b', o' + i * 8 + 1, none⟩ = some (.int .i64 (P i).regs) ∧ w9.cell? ⟨b', o' + i * 8 + 2, none⟩ = some (.int .i64 (P i).line) ∧ w9.cell? ⟨b', o' + i * 8 + 3, none⟩ = some (.bool (P i).dots) ∧ w9.cell? ⟨b', o' + i * 8 + 4, none⟩ = some (t4) ∧ w9.cell? ⟨b', o' + i * 8 + 5, none⟩ = some (t5) ∧ w9.cell? ⟨b', o' + i * 8 + 6, none⟩ = some (t6) ∧ w9.cell? ⟨b', o' + i * 8 + 7, none⟩ = some (t7)) (go_keep)
          (first | (go_at_call 53; refine (eqProto_any (P i) s4 s5 s6 s7 t4 t5 t6 t7 _ (HF.out i hin) (HP.out.low (Below.refl _ _).drew (Nat.le_refl _)) (HP'.out.low (Below.refl _ _).drew (Nat.le_refl _))).mono ?_; rintro e w2 ⟨rfl, hb2⟩; have q0 := (hb2.cell (p := ⟨b, o + i * 8, none⟩) hlb).trans c0; have r0 := (hb2.cell (p := ⟨b', o' + i * 8, none⟩) hlb').trans e0; have q1 := (hb2.cell (p := ⟨b, o + i * 8 + 1, none⟩) hlb).trans c1; have r1 := (hb2.cell (p := ⟨b', o' + i * 8 + 1, none⟩) hlb').trans e1; have q2 := (hb2.cell (p := ⟨b, o + i * 8 + 2, none⟩) hlb).trans c2; have r2 := (hb2.cell (p := ⟨b', o' + i * 8 + 2, none⟩) hlb').trans e2; have q3 := (hb2.cell (p := ⟨b, o + i * 8 + 3, none⟩) hlb).trans c3; have r3 := (hb2.cell (p := ⟨b', o' + i * 8 + 3, none⟩) hlb').trans e3; have q4 := (hb2.cell (p := ⟨b, o + i * 8 + 4, none⟩) hlb).trans c4; have r4 := (hb2.cell (p := ⟨b', o' + i * 8 + 4, none⟩) hlb').trans e4; have q5 := (hb2.cell (p := ⟨b, o + i * 8 + 5, none⟩) hlb).trans c5; have r5 := (hb2.cell (p := ⟨b', o' + i * 8 + 5, none⟩) hlb').trans e5; have q6 := (hb2.cell (p := ⟨b, o + i * 8 + 6, none⟩) hlb).trans c6; have r6 := (hb2.cell (p := ⟨b', o' + i * 8 + 6, none⟩) hlb').trans e6; have q7 := (hb2.cell (p := ⟨b, o + i * 8 + 7, none⟩) hlb).trans c7; have r7 := (hb2.cell (p := ⟨b', o' + i * 8 + 7, none⟩) hlb').trans e7; have HB2 := hide hb2; clear hb2))
        have HB3 := hide (HB.out.drew.trans (HB2.out.mono HB.out.size))
        rename_i hh
        clear hh c0 e0 q0 r0 c1 e1 q1 r1 c2 e2 q2 r2 c3 e3 q3 r3 c4 e4 q4 r4 c5 e5 q5 r5 c6 e6 q6 r6 c7 e7 q7 r7
        go_wp2
        go_roundw
        case rel => exact ⟨i + 1, by omega, by simp, HB3.out⟩
        case measure => simp; omega
      · obtain rfl : i = n := by omega
        go_wp2
        go_ret
        exact ⟨rfl, hbw⟩
set_option maxHeartbeats 1600000 in
set_option maxRecDepth 100000 in
theorem eqChunk_any (v v' : Value) (n : Nat) (P : Nat → PV) (w : World) (hn : n ≤ 1048576) (hf : allFit n P 1048576) (h : ProsA w v n P) (h' : ProsA w v' n P) :
    Calls Tryz.prog 8 #[.agg #[v], .agg #[v']] w fun e w' => e = .returned (.bool true) ∧ Below w.heap.size w w' := by
  have HB := hide (b_2 w (.cells #[v] 28) (.cells #[v'] 28))
  have HA := hide (h.low HB.out (Nat.le_refl _))
  have HA' := hide (h'.low HB.out (Nat.le_refl _))
  have HF := hide hf
  clear h h' hf
  go_enter Tryz.func8, Tryz.ntmps8
  go_wp2_with fail
  refine (eqProtoS_any v v' n P _ hn HF.out HA.out HA'.out).mono ?_
  rintro e w2 ⟨rfl, hb⟩
  have HB2 := hide (HB.out.trans (hb.mono HB.out.size))
  clear hb
  go_wp2
  go_ret
  exact ⟨rfl, HB2.out⟩
set_option maxHeartbeats 1600000 in
set_option maxRecDepth 100000 in
theorem eqVerdict_any (a b c : Int) (w : World) :
    Calls Tryz.prog 9 #[.agg #[.int .i64 a, .int .i64 b, .int .i64 c], .agg #[.int .i64 a, .int .i64 b, .int .i64 c]] w fun e w' => e = .returned (.bool true) ∧ Below w.heap.size w w' := by
  go_enter Tryz.func9, Tryz.ntmps9
  go_wp2
  go_ret
  exact ⟨rfl, b_2 _ _ _⟩
def BoolR (Q : Prop) (b : Bool) : Prop := (b = true ∧ Q) ∨ (b = false ∧ ¬ Q)
def RetB (Q : Prop) (w : World) (e : Ending) (w' : World) : Prop := ∃ r : Bool, e = .returned (.bool r) ∧ BoolR Q r ∧ Below w.heap.size w w'
def inI (v lo hi : Int) : Bool := decide (lo ≤ v ∧ v ≤ hi)
theorem inI_t {v lo hi : Int} (h : lo ≤ v ∧ v ≤ hi) : inI v lo hi = true := by simp [inI, h]
theorem inI_f {v lo hi : Int} (h : ¬ (lo ≤ v ∧ v ≤ hi)) : inI v lo hi = false := by simp [inI]; omega
set_option maxHeartbeats 1600000 in
set_option maxRecDepth 100000 in
theorem l07In_any (v lo hi : Int) (w : World) :
    Calls Tryz.prog 27 #[.int .i64 v, .int .i64 lo, .int .i64 hi] w fun e w' => e = .returned (.bool (inI v lo hi)) ∧ w' = w := by
  by_cases h1 : lo ≤ v
  · by_cases h2 : v ≤ hi
    · rw [inI_t ⟨h1, h2⟩]
      go_enter Tryz.func27, Tryz.ntmps27
      go_wp2
      go_ret
      exact ⟨rfl, rfl⟩
    · rw [inI_f (by omega)]
      go_enter Tryz.func27, Tryz.ntmps27
      go_wp2
      go_ret
      exact ⟨rfl, rfl⟩
  · rw [inI_f (by omega)]
    go_enter Tryz.func27, Tryz.ntmps27
    go_wp2
    go_ret
    exact ⟨rfl, rfl⟩
def isNanI (b : Int) : Bool := decide (9218868437227405312 < b % 9223372036854775808)
set_option maxHeartbeats 1600000 in
set_option maxRecDepth 100000 in
theorem isNan_any (b : Int) (w : World) (h0 : 0 ≤ b) (h1 : b < 18446744073709551616) :
    Calls Tryz.prog 131 #[.int .u64 b] w fun e w' => e = .returned (.bool (isNanI b)) ∧ w' = w := by
  clear h1
  go_enter Tryz.func131, Tryz.ntmps131
  go_wp2
  go_ret
  exact ⟨rfl, rfl⟩
def constOk (k i b : Int) (t : ByteArray) : Prop :=
  (k = 4 ∧ b = 0 ∧ t.toList = []) ∨ (k = 5 ∧ i = 0 ∧ t.toList = [] ∧ ¬ (isNanI b = true ∧ b ≠ 9221120237041090560)) ∨ (k = 6 ∧ i = 0 ∧ b = 0 ∧ t.size ≤ 65536)
set_option maxHeartbeats 1600000 in
set_option maxRecDepth 100000 in
theorem l07Const_any (k i b : Int) (t : ByteArray) (w : World) (h0 : 0 ≤ b) (h1 : b < 18446744073709551616) (ht : t.size ≤ 1048576) :
    Calls Tryz.prog 103 #[.agg #[.int .i64 k, .int .i64 i, .int .u64 b, .string t]] w fun e w' => RetB (constOk k i b t) w e w' := by
  by_cases k4 : k = 4
  · subst k4
    go_enter Tryz.func103, Tryz.ntmps103
    go_wp2
    all_goals go_ret
    all_goals refine ⟨_, rfl, ?_, b_2 _ _ _⟩
    all_goals first | exact .inl ⟨rfl, by simp_all [constOk]⟩ | exact .inr ⟨rfl, by simp_all [constOk]⟩
  by_cases k5 : k = 5
  · subst k5
    have HI := hide (isNan_any b · h0 h1)
    by_cases hn : isNanI b = true
    · go_enter Tryz.func103, Tryz.ntmps103
      go_wp2_with (go_at_call 131; refine (HI.out _).mono ?_; rintro e w' ⟨rfl, rfl⟩)
      all_goals go_ret
      all_goals refine ⟨_, rfl, ?_, b_2 _ _ _⟩
      all_goals first | exact .inl ⟨rfl, by simp_all [constOk]⟩ | exact .inr ⟨rfl, by simp_all [constOk]⟩
    · rw [Bool.not_eq_true] at hn
      go_enter Tryz.func103, Tryz.ntmps103
      go_wp2_with (go_at_call 131; refine (HI.out _).mono ?_; rintro e w' ⟨rfl, rfl⟩)
      all_goals go_ret
      all_goals refine ⟨_, rfl, ?_, b_2 _ _ _⟩
      all_goals first | exact .inl ⟨rfl, by simp_all [constOk]⟩ | exact .inr ⟨rfl, by simp_all [constOk]⟩
  by_cases k6 : k = 6
  · subst k6
    by_cases hts : t.size ≤ 65536
    · have hti : ¬ ((65536 : Int) < (t.size : Int)) := by omega
      go_enter Tryz.func103, Tryz.ntmps103
      go_wp2
      all_goals go_ret
      all_goals refine ⟨_, rfl, ?_, b_2 _ _ _⟩
      all_goals clear ht hti
      all_goals first | exact .inl ⟨rfl, by simp_all [constOk]⟩ | exact .inr ⟨rfl, by simp_all [constOk]⟩
    · have hti : ((65536 : Int) < (t.size : Int)) := by omega
      go_enter Tryz.func103, Tryz.ntmps103
      go_wp2
      go_ret
      refine ⟨_, rfl, .inr ⟨rfl, ?_⟩, b_2 _ _ _⟩
      rintro (⟨h, _⟩ | ⟨h, _⟩ | ⟨_, _, _, h⟩)
      · omega
      · omega
      · exact hts h
  · go_enter Tryz.func103, Tryz.ntmps103
    go_wp2
    all_goals go_ret
    all_goals refine ⟨_, rfl, ?_, b_2 _ _ _⟩
    all_goals exact .inr ⟨rfl, by simp_all [constOk]⟩
end Go.Proofs.YtgnbhhgpaldheaaGreat
