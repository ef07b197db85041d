import Derived.Test.YtgnbhhgpaldheaaGreatKV2
namespace Go.Proofs.YtgnbhhgpaldheaaGreat
open Go Go.RowKit
set_option linter.unusedVariables false
structure VX (w : World) (g : Nat) (p : PV) (s4 s5 s6 s7 va : Value) : Prop where
  r : VR w g p s4 s5 s6 s7 va
  a : PVA w p s4 s5 s6 s7
  ni : p.ni ≤ 1048576
  nc : p.nc ≤ 1048576
  nu : p.nu ≤ 1048576
  r0 : 0 ≤ p.regs
  r1 : p.regs ≤ 255
  by' : byteA p
theorem VX.low {w w' : World} {g : Nat} {p : PV} {s4 s5 s6 s7 va : Value} (h : VX w g p s4 s5 s6 s7 va) (hb : Below w.heap.size w w') : VX w' g p s4 s5 s6 s7 va :=
  ⟨h.r.low hb, h.a.low hb (Nat.le_refl _), h.ni, h.nc, h.nu, h.r0, h.r1, h.by'⟩
set_option maxHeartbeats 1600000 in
set_option maxRecDepth 100000 in
theorem canGo_any (g : Nat) (p : PV) (s4 s5 s6 s7 va : Value) (j m : Nat) (w : World) (hm : m < p.ni) (h : VX w g p s4 s5 s6 s7 va) :
    Calls Tryz.prog 135 #[.pointer (some ⟨g, 0, none⟩), .int .i64 j, .int .i64 m] w fun e w' => RetB (tkP p m < 0 ∧ ((j : Int) < (m : Int) ∨ p.i0 m = 1)) w e w' := by
  have hni := h.ni
  have hby := h.by' m hm
  have HX := hide h
  obtain ⟨b, o, cap, rfl, hb, c0, c1, c2, c3⟩ := ins_at h.a.i hm
  have HC := hide (And.intro hb (And.intro c0 (And.intro c1 (And.intro c2 c3))))
  clear h
  obtain ⟨y0, y1, y2, y3, y4, y5, y6, y7, y8⟩ := HX.out.r.cells
  go_enter Tryz.func135, Tryz.ntmps135
  go_wp2_with fail
  clear y0 y1 y2 y3 y4 y5 y6 y7 y8
  clear c0 c1 c2 c3
  refine (takesOpen_any _ _ _ _ w hby.1 hby.2).mono ?_
  rintro e w2 ⟨fr, t, rfl, ht, hb2⟩
  have HX2 := hide (HX.out.low hb2)
  have d0 := (hb2.cell (p := ⟨b, o + m * 4, none⟩) HC.out.1).trans HC.out.2.1
  have HB2 := hide hb2
  clear hb2
  obtain ⟨y0, y1, y2, y3, y4, y5, y6, y7, y8⟩ := HX2.out.r.cells
  rcases ht with ⟨rfl, ht, _⟩ | ⟨rfl, ht⟩
  · have HT := hide ht
    clear ht
    go_wp2
    go_ret
    exact ⟨_, rfl, .inr ⟨rfl, fun q => by have := q.1; unfold tkP at this; have := HT.out; omega⟩, HB2.out⟩
  · have HT := hide ht
    clear ht
    by_cases x1 : (j : Int) < (m : Int)
    · have X1 := hide x1
      go_wp2
      go_ret
      exact ⟨_, rfl, .inl ⟨rfl, HT.out, .inl X1.out⟩, HB2.out⟩
    · have X1 := hide x1
      by_cases x2 : p.i0 m = 1
      · have X2 := hide x2
        go_wp2
        go_ret
        exact ⟨_, rfl, .inl ⟨rfl, HT.out, .inr X2.out⟩, HB2.out⟩
      · have X2 := hide x2
        go_wp2
        go_ret
        refine ⟨_, rfl, .inr ⟨?_, fun q => by rcases q.2 with q | q; (have := X1.out; omega); exact X2.out q⟩, HB2.out⟩
        first | rfl | (simp; first | exact X2.out | exact ⟨by omega, X2.out⟩)
set_option maxHeartbeats 1600000 in
set_option maxRecDepth 100000 in
theorem isHanded_any (g : Nat) (p : PV) (s4 s5 s6 s7 va : Value) (j : Nat) (w : World) (hj : j < p.ni) (h : VX w g p s4 s5 s6 s7 va) :
    Calls Tryz.prog 85 #[.pointer (some ⟨g, 0, none⟩), .int .i64 j] w fun e w' => RetB (tkP p j < 0 ∨ (0 < j ∧ mkP p (j - 1))) w e w' := by
  have hni := h.ni
  have hby := h.by' j hj
  have HX := hide h
  obtain ⟨b, o, cap, rfl, hb, c0, c1, c2, c3⟩ := ins_at h.a.i hj
  clear h
  obtain ⟨y0, y1, y2, y3, y4, y5, y6, y7, y8⟩ := HX.out.r.cells
  go_enter Tryz.func85, Tryz.ntmps85
  go_wp2_with fail
  clear y0 y1 y2 y3 y4 y5 y6 y7 y8
  clear c0 c1 c2 c3
  refine (takesOpen_any _ _ _ _ w hby.1 hby.2).mono ?_
  rintro e w2 ⟨fr, t, rfl, ht, hb2⟩
  have HX2 := hide (HX.out.low hb2)
  have HB2 := hide hb2
  clear hb2
  rcases ht with ⟨rfl, ht, _⟩ | ⟨rfl, ht⟩
  · have HT := hide ht
    clear ht
    by_cases x0 : 0 < j
    · obtain ⟨q, rfl⟩ : ∃ q, j = q + 1 := ⟨j - 1, by omega⟩
      have hx : ((q + 1 : Nat) : Int) = (q : Int) + 1 := by omega
      rw [hx]
      have hx0 : (0 : Int) < (q : Int) + 1 := by omega
      obtain ⟨y0, y1, y2, y3, y4, y5, y6, y7, y8⟩ := HX2.out.r.cells
      obtain ⟨b', o', cap', e, hb', c0, c1, c2, c3⟩ := ins_at HX2.out.a.i (show q < p.ni by omega)
      cases e
      go_wp2_with fail
      clear y0 y1 y2 y3 y4 y5 y6 y7 y8 c0 c1 c2 c3
      refine (leavesOpen_any _ _ _ _ _).mono ?_
      rintro e w3 ⟨r, rfl, hr, hb3⟩
      have HB3 := hide (HB2.out.trans (hb3.mono HB2.out.size))
      clear hb3
      rcases hr with ⟨rfl, hr⟩ | ⟨rfl, hr⟩
      · have HR := hide hr
        clear hr
        go_wp2
        go_ret
        exact ⟨_, rfl, .inl ⟨rfl, .inr ⟨x0, HR.out⟩⟩, HB3.out⟩
      · have HR := hide hr
        clear hr
        go_wp2
        go_ret
        exact ⟨_, rfl, .inr ⟨rfl, fun q => by rcases q with q | q; (unfold tkP at q; have := HT.out; omega); exact HR.out q.2⟩, HB3.out⟩
    · have hx0 : ¬ (0 : Int) < (j : Int) := by omega
      go_wp2
      go_ret
      exact ⟨_, rfl, .inr ⟨rfl, fun q => by rcases q with q | q; (unfold tkP at q; have := HT.out; omega); exact x0 q.1⟩, HB2.out⟩
  · have HT := hide ht
    clear ht
    go_wp2
    go_ret
    exact ⟨_, rfl, .inl ⟨rfl, .inl HT.out⟩, HB2.out⟩
set_option maxHeartbeats 1600000 in
set_option maxRecDepth 100000 in
theorem handsOn_any (g : Nat) (p : PV) (s4 s5 s6 s7 va : Value) (j : Nat) (w : World) (hj : j < p.ni) (h : VX w g p s4 s5 s6 s7 va) :
    Calls Tryz.prog 84 #[.pointer (some ⟨g, 0, none⟩), .int .i64 j] w fun e w' => RetB (mkP p j → j + 1 < p.ni ∧ 0 ≤ tkP p (j + 1) ∧ tkP p (j + 1) ≤ p.i1 j) w e w' := by
  have hni := h.ni
  have HX := hide h
  obtain ⟨b, o, cap, rfl, hb, c0, c1, c2, c3⟩ := ins_at h.a.i hj
  clear h
  obtain ⟨y0, y1, y2, y3, y4, y5, y6, y7, y8⟩ := HX.out.r.cells
  go_enter Tryz.func84, Tryz.ntmps84
  go_wp2_with fail
  clear y0 y1 y2 y3 y4 y5 y6 y7 y8
  clear c0 c1 c2 c3
  refine (leavesOpen_any _ _ _ _ _).mono ?_
  rintro e w2 ⟨r, rfl, hr, hb2⟩
  have HX2 := hide (HX.out.low hb2)
  have HB2 := hide hb2
  clear hb2
  rcases hr with ⟨rfl, hr⟩ | ⟨rfl, hr⟩
  · have HR := hide hr
    clear hr
    obtain ⟨y0, y1, y2, y3, y4, y5, y6, y7, y8⟩ := HX2.out.r.cells
    by_cases x0 : j + 1 < p.ni
    · have hx0 : ((j : Int) == (p.ni : Int) - 1) = false := by simp; omega
      have hby := HX.out.by' (j + 1) x0
      obtain ⟨b', o', cap', e, hb', c0, c1, c2, c3⟩ := ins_at HX2.out.a.i x0
      cases e
      have hin : (j : Int) + 1 < (p.ni : Int) := by omega
      have hcast : ((j + 1 : Nat) : Int) = (j : Int) + 1 := by omega
      go_wp2_with fail
      clear y0 y1 y2 y3 y4 y5 y6 y7 y8 c0 c1 c2 c3
      refine (takesOpen_any _ _ _ _ _ hby.1 hby.2).mono ?_
      rintro e w3 ⟨fr, t, rfl, ht, hb3⟩
      have HX3 := hide (HX2.out.low hb3)
      have HB3 := hide (HB2.out.trans (hb3.mono HB2.out.size))
      clear hb3
      obtain ⟨y0, y1, y2, y3, y4, y5, y6, y7, y8⟩ := HX3.out.r.cells
      obtain ⟨b', o', cap', e, hb', c0, c1, c2, c3⟩ := ins_at HX3.out.a.i hj
      cases e
      rcases ht with ⟨rfl, ht, htv⟩ | ⟨rfl, ht⟩
      · have HT := hide (And.intro ht htv)
        clear ht htv
        by_cases x5 : fr ≤ p.i1 j
        · have X5 := hide x5
          go_wp2
          go_ret
          exact ⟨_, rfl, .inl ⟨by first | rfl | (simpa using X5.out), fun _ => ⟨x0, HT.out.1, by unfold tkP; rw [← HT.out.2]; exact X5.out⟩⟩, HB3.out⟩
        · have X5 := hide x5
          go_wp2
          go_ret
          exact ⟨_, rfl, .inr ⟨by first | rfl | (simpa using X5.out), fun q => by have h9 := (q HR.out).2.2; unfold tkP at h9; rw [← HT.out.2] at h9; have := X5.out; omega⟩, HB3.out⟩
      · have HT := hide ht
        clear ht
        go_wp2
        go_ret
        exact ⟨_, rfl, .inr ⟨rfl, fun q => by have := (q HR.out).2.1; unfold tkP at this; have := HT.out; omega⟩, HB3.out⟩
    · have hx0 : ((j : Int) == (p.ni : Int) - 1) = true := by simp; omega
      go_wp2
      go_ret
      exact ⟨_, rfl, .inr ⟨rfl, fun q => x0 (q HR.out).1⟩, HB2.out⟩
  · have HR := hide hr
    clear hr
    go_wp2
    go_ret
    exact ⟨_, rfl, .inl ⟨rfl, fun q => absurd q HR.out⟩, HB2.out⟩
theorem inI_iff {v lo hi : Int} : inI v lo hi = true ↔ lo ≤ v ∧ v ≤ hi := by simp [inI]
set_option maxHeartbeats 3200000 in
set_option maxRecDepth 100000 in
theorem countsWell_any (g : Nat) (p : PV) (s4 s5 s6 s7 va : Value) (o a b c : Int) (w : World) (ha : 0 ≤ a) (ha2 : a ≤ 255) (h : VX w g p s4 s5 s6 s7 va) :
    Calls Tryz.prog 87 #[.pointer (some ⟨g, 0, none⟩), .agg #[.int .i64 o, .int .i64 a, .int .i64 b, .int .i64 c]] w fun e w' => RetB (countsI p o a b c) w e w' := by
  have hr0 := h.r0
  have hr1 := h.r1
  have hB := b_1 w (.cells #[.int .i64 o, .int .i64 a, .int .i64 b, .int .i64 c] 51)
  obtain ⟨y0, y1, y2, y3, y4, y5, y6, y7, y8⟩ := (h.low hB).r.cells
  clear hB h
  by_cases n3 : o = 3
  · subst n3
    go_enter Tryz.func87, Tryz.ntmps87
    go_wp2
    go_quiet (fail)
    go_wp2_with (go_at_call 36; refine (within_any _ _ _ _).mono ?_; rintro e w' ⟨rfl, rfl⟩)
    all_goals go_ret
    all_goals refine ⟨_, rfl, ?_, below_drewN (b_1 _ _) _⟩
    all_goals refine boolR_iff ?_
    all_goals (simp [countsI, inI]; try omega)
  by_cases n4 : o = 4
  · subst n4
    go_enter Tryz.func87, Tryz.ntmps87
    go_wp2
    go_quiet (fail)
    go_wp2_with (go_at_call 36; refine (within_any _ _ _ _).mono ?_; rintro e w' ⟨rfl, rfl⟩)
    all_goals go_ret
    all_goals refine ⟨_, rfl, ?_, below_drewN (b_1 _ _) _⟩
    all_goals refine boolR_iff ?_
    all_goals (simp [countsI, inI]; try omega)
  by_cases n5 : o = 5
  · subst n5
    go_enter Tryz.func87, Tryz.ntmps87
    go_wp2
    go_quiet (fail)
    go_wp2_with (go_at_call 36; refine (within_any _ _ _ _).mono ?_; rintro e w' ⟨rfl, rfl⟩)
    all_goals go_ret
    all_goals refine ⟨_, rfl, ?_, below_drewN (b_1 _ _) _⟩
    all_goals refine boolR_iff ?_
    all_goals (simp [countsI, inI]; try omega)
  by_cases n17 : o = 17
  · subst n17
    go_enter Tryz.func87, Tryz.ntmps87
    go_wp2
    go_quiet (fail)
    go_wp2_with (go_at_call 36; refine (within_any _ _ _ _).mono ?_; rintro e w' ⟨rfl, rfl⟩)
    all_goals go_ret
    all_goals refine ⟨_, rfl, ?_, below_drewN (b_1 _ _) _⟩
    all_goals refine boolR_iff ?_
    all_goals simp [countsI]
  by_cases n18 : o = 18
  · subst n18
    go_enter Tryz.func87, Tryz.ntmps87
    go_wp2
    go_quiet (fail)
    go_wp2_with (go_at_call 36; refine (within_any _ _ _ _).mono ?_; rintro e w' ⟨rfl, rfl⟩)
    all_goals go_ret
    all_goals refine ⟨_, rfl, ?_, below_drewN (b_1 _ _) _⟩
    all_goals refine boolR_iff ?_
    all_goals simp [countsI]
  by_cases n28 : o = 28
  · subst n28
    go_enter Tryz.func87, Tryz.ntmps87
    go_wp2
    go_quiet (fail)
    go_wp2_with (go_at_call 36; refine (within_any _ _ _ _).mono ?_; rintro e w' ⟨rfl, rfl⟩)
    all_goals go_ret
    all_goals refine ⟨_, rfl, ?_, below_drewN (b_1 _ _) _⟩
    all_goals refine boolR_iff ?_
    all_goals (rename_i hz; first | (have hz2 := inI_iff.1 hz; simp [countsI, inI]; omega) | (have hz2 := mt inI_iff.2 hz; simp [countsI]; omega))
  by_cases n29 : o = 29
  · subst n29
    go_enter Tryz.func87, Tryz.ntmps87
    go_wp2
    go_quiet (fail)
    go_wp2_with (go_at_call 36; refine (within_any _ _ _ _).mono ?_; rintro e w' ⟨rfl, rfl⟩)
    all_goals go_ret
    all_goals refine ⟨_, rfl, ?_, below_drewN (b_1 _ _) _⟩
    all_goals refine boolR_iff ?_
    all_goals (simp [countsI, inI]; try omega)
  by_cases n30 : o = 30
  · subst n30
    go_enter Tryz.func87, Tryz.ntmps87
    go_wp2
    go_quiet (fail)
    go_wp2_with (go_at_call 36; refine (within_any _ _ _ _).mono ?_; rintro e w' ⟨rfl, rfl⟩)
    all_goals go_ret
    all_goals refine ⟨_, rfl, ?_, below_drewN (b_1 _ _) _⟩
    all_goals refine boolR_iff ?_
    all_goals (simp [countsI, inI]; try omega)
  by_cases n31 : o = 31
  · subst n31
    go_enter Tryz.func87, Tryz.ntmps87
    go_wp2
    go_quiet (fail)
    go_wp2_with (go_at_call 36; refine (within_any _ _ _ _).mono ?_; rintro e w' ⟨rfl, rfl⟩)
    all_goals go_ret
    all_goals refine ⟨_, rfl, ?_, below_drewN (b_1 _ _) _⟩
    all_goals refine boolR_iff ?_
    all_goals (simp [countsI, inI]; try omega)
  by_cases n37 : o = 37
  · subst n37
    go_enter Tryz.func87, Tryz.ntmps87
    go_wp2
    go_quiet (fail)
    go_wp2_with (go_at_call 36; refine (within_any _ _ _ _).mono ?_; rintro e w' ⟨rfl, rfl⟩)
    all_goals go_ret
    all_goals refine ⟨_, rfl, ?_, below_drewN (b_1 _ _) _⟩
    all_goals refine boolR_iff ?_
    all_goals (simp [countsI, inI]; try omega)
  · go_enter Tryz.func87, Tryz.ntmps87
    go_wp2
    go_quiet (fail)
    go_wp2_with (go_at_call 36; refine (within_any _ _ _ _).mono ?_; rintro e w' ⟨rfl, rfl⟩)
    go_ret
    refine ⟨_, rfl, .inl ⟨rfl, ?_⟩, below_drewN (b_1 _ _) _⟩
    unfold countsI
    omega
end Go.Proofs.YtgnbhhgpaldheaaGreat
