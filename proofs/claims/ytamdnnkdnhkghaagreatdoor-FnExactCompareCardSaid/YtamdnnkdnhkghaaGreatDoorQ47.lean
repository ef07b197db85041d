import Derived.Test.YtamdnnkdnhkghaaGreatDoorQ46
namespace Go.Proofs.YtamdnnkdnhkghaaGreatDoor
open Go Go.RowKit
set_option linter.unusedVariables false

theorem FloatR.ex (N : Nat) (E : Int) : ∃ r, FloatR N E r := by
  obtain ⟨W, hW⟩ := DecRnd.ex N E
  exact ⟨_, W, hW, rfl⟩

theorem DecR.ex (l : List Int) : ∃ r, DecR l r := by
  unfold DecR
  split
  · exact ⟨_, rfl⟩
  · split
    · exact ⟨_, rfl⟩
    · split
      · exact ⟨_, rfl⟩
      · exact FloatR.ex _ _

theorem PNR.ex (s : ByteArray) : ∃ f i u ok, PNR s (resG f i u ok) := by
  have : ∃ r, PNR s r := by
    unfold PNR
    split
    · exact ⟨_, rfl⟩
    · split
      · exact ⟨_, rfl⟩
      · exact DecR.ex _
  obtain ⟨r, hr⟩ := this
  obtain ⟨f, i, u, ok, rfl⟩ := hr.form
  exact ⟨f, i, u, ok, hr⟩

/-- What is true of a world for the program's 'ParseNumber'. -/
structure Ready (w : World) (ev1 ev5 : Value) : Prop where
  env : ∃ G o P po C co ev m, Env w G o P po C co ev m
  e1 : w.cell? ⟨1, 0, none⟩ = some ev1
  e5 : w.cell? ⟨5, 0, none⟩ = some ev5

theorem Ready.size {w : World} {ev1 ev5 : Value} (h : Ready w ev1 ev5) : 21 < w.heap.size := by
  obtain ⟨G, o, P, po, C, co, ev, m, hE⟩ := h.env
  exact hE.vars.h12

theorem Ready.below {w w' : World} {ev1 ev5 : Value} (h : Ready w ev1 ev5) (hb : Below w.heap.size w w') : Ready w' ev1 ev5 := by
  have hs := h.size
  obtain ⟨G, o, P, po, C, co, ev, m, hE⟩ := h.env
  exact ⟨⟨G, o, P, po, C, co, ev, m, hE.below hb⟩, (hb.cell (p := ⟨1, 0, none⟩) (show 1 < w.heap.size by omega)).trans h.e1, (hb.cell (p := ⟨5, 0, none⟩) (show 5 < w.heap.size by omega)).trans h.e5⟩

theorem impl_at {s : ByteArray} {f : Bool} {i u : Int} {ok : Bool} (hp : PNR s (resG f i u ok)) {ev1 ev5 : Value} (w : World) (hr : s.size ≤ 140737488351232) (hR : Ready w ev1 ev5) :
    Calls Tryz.prog 13 #[.string s] w fun e w' => e = .returned (resG f i u ok) ∧ Below w.heap.size w w' := by
  obtain ⟨G, o, P, po, C, co, ev, m, hE⟩ := hR.env
  refine (impl_parse idx_any s G o P po C co ev m w hr hE).mono ?_
  rintro e w' ⟨r, rfl, hr', hb⟩
  exact ⟨by rw [hr'.unique hp], hb⟩

theorem spec_at {s : ByteArray} {f : Bool} {i u : Int} {ok : Bool} (hp : PNR s (resG f i u ok)) (w : World) (hr : s.size ≤ 140737488351232) :
    Calls Tryz.prog 69 #[.string s] w fun e w' => e = .returned (resG f i u ok) ∧ Below w.heap.size w w' := by
  refine (spec_parse s w hr).mono ?_
  rintro e w' ⟨r, rfl, hr', hb⟩
  exact ⟨by rw [hr'.unique hp], hb⟩

theorem negate_any {f : Bool} {i u : Int} (h : NumOK f i u) : ∃ f' i' u', negN f i u = numG f' i' u' ∧ ∀ w, Calls Tryz.prog 120 #[numG f i u] w fun e w' => e = .returned (numG f' i' u') ∧ Below w.heap.size w w' := by
  rcases h with ⟨rfl, rfl, h0, h1⟩ | ⟨rfl, rfl, W, hW, rfl⟩
  · exact ⟨_, _, _, rfl, fun w => negate_int i w h0 h1⟩
  · refine ⟨true, 0, ((9223372036854775808 + W : Nat) : Int), ?_, fun w => negate_flt W _ w hW rfl⟩
    unfold negN
    rw [Int.natCast_add]
    rfl

theorem arith_any {f : Bool} {i u : Int} (h : NumOK f i u) : ∃ f' i' u', negN f i u = numG f' i' u' ∧ ∀ w, Calls Tryz.prog 44 #[.int .i64 13, numG f i u, numG f i u] w fun e w' => e = .returned (.tuple #[numG f' i' u', .int .i64 0]) ∧ Below w.heap.size w w' := by
  rcases h with ⟨rfl, rfl, h0, h1⟩ | ⟨rfl, rfl, W, hW, rfl⟩
  · exact ⟨_, _, _, rfl, fun w => arith_neg_int i w h0 h1⟩
  · refine ⟨true, 0, ((9223372036854775808 + W : Nat) : Int), ?_, fun w => arith_neg_flt W _ w (Nat.le_of_lt hW) rfl⟩
    unfold negN
    rw [Int.natCast_add]
    rfl

end Go.Proofs.YtamdnnkdnhkghaaGreatDoor

namespace Go.Proofs.YtamdnnkdnhkghaaGreatDoor
open Go Go.RowKit
set_option linter.unusedVariables false

theorem toList_beq (t : ByteArray) (l : List UInt8) : (t.toList == l) = decide (t.data.toList = l) := by
  rw [ByteArray.toList_eq]
  by_cases h : t.data.toList = l
  · rw [decide_eq_true h, h, beq_self_eq_true]
  · rw [decide_eq_false h, beq_eq_false_iff_ne]; exact h

theorem bs_of {t : ByteArray} {l : List UInt8} (h : t.data.toList = l) : bs t = l.map fun b => ((b.toNat : Nat) : Int) := by unfold bs; rw [h]

theorem size_of {t : ByteArray} {l : List UInt8} (h : t.data.toList = l) : t.size = l.length := by
  show t.data.size = _
  rw [← h, Array.length_toList]

theorem minus_yes {t : ByteArray} (h : (bs t).getD 0 0 = 45) : Minus t := by
  have h0 : 0 < t.size := by
    refine Classical.byContradiction fun hn => ?_
    have : bs t = [] := List.length_eq_zero_iff.1 (by rw [bs_length]; omega)
    rw [this] at h
    cases h
  refine ⟨h0, ?_⟩
  rw [bs_getD h0] at h
  rw [h]
  rfl

theorem minus_no {t : ByteArray} (h : (bs t).getD 0 0 ≠ 45) : NoMinus t := by
  by_cases h0 : 0 < t.size
  · refine .inr ⟨h0, ?_⟩
    rw [bs_getD h0] at h
    rw [beq_eq_false_iff_ne]
    exact h
  · exact .inl (by omega)

theorem tail_list (t : ByteArray) : (t.extract 1 t.size).data.toList = t.data.toList.drop 1 := by
  rw [ByteArray.data_extract, Array.toList_extract]
  simp
  rw [List.take_of_length_le]
  rw [List.length_tail, Array.length_toList]
  show t.data.size - 1 ≤ t.size - 1
  exact Nat.le_refl _

theorem tail_size (t : ByteArray) : (t.extract 1 t.size).size = t.size - 1 := by simp

/-- With the minus ahead the text is that minus and the rest. -/
theorem minus_list {t : ByteArray} (h : (bs t).getD 0 0 = 45) : t.data.toList = 45 :: (t.extract 1 t.size).data.toList := by
  rw [tail_list]
  cases hl : t.data.toList with
  | nil =>
    have : bs t = [] := by unfold bs; rw [hl]; rfl
    rw [this] at h
    cases h
  | cons a l =>
    have : bs t = ((a.toNat : Nat) : Int) :: l.map fun b => ((b.toNat : Nat) : Int) := by unfold bs; rw [hl]; rfl
    rw [this] at h
    have h1 : a.toNat = 45 := by
      have : ((a.toNat : Nat) : Int) = 45 := h
      omega
    have : a = 45 := UInt8.toNat_inj.1 h1
    rw [this]
    rfl

theorem negOut_form (s : ByteArray) (f : Bool) (i u : Int) : ∃ f' i' u', negOut s (numG f i u) = numG f' i' u' := by
  unfold negOut
  split
  · exact ⟨_, _, _, rfl⟩
  · exact ⟨_, _, _, rfl⟩

/-- What the document's reading of a text comes to. -/
theorem operand_any (t : ByteArray) (hs : t.size ≤ 1048576) : ∃ o, OpR t o ∧ ∀ w, Calls Tryz.prog 36 #[.string t] w fun e w' => e = .returned (opV o) ∧ Below w.heap.size w w' := by
  by_cases h1 : t.data.toList = [110, 97, 110]
  · refine ⟨some (fltV 9221120237041090560), by unfold OpR; rw [if_pos h1], fun w => op_nan t w ?_⟩
    rw [toList_beq, decide_eq_true h1]
  · have n1 : (t.toList == [110, 97, 110]) = false := by rw [toList_beq, decide_eq_false h1]
    by_cases h2 : t.data.toList = [105, 110, 102]
    · obtain ⟨f, i, u, ok, hp⟩ := PNR.ex t
      refine ⟨some (fltV infW), by unfold OpR; rw [if_neg h1, if_pos h2], fun w => op_inf t f i u ok w hs n1 ?_ (minus_no ?_) (fun w => spec_at hp w (by omega))⟩
      · rw [toList_beq, decide_eq_true h2]
      · rw [bs_of h2]; decide
    · by_cases h3 : t.data.toList = [45, 105, 110, 102]
      · have hm : (bs t).getD 0 0 = 45 := by rw [bs_of h3]; rfl
        have hd : (t.extract 1 t.size).data.toList = [105, 110, 102] := by rw [tail_list, h3]; rfl
        obtain ⟨f, i, u, ok, hp⟩ := PNR.ex (t.extract 1 t.size)
        have hsz := tail_size t
        refine ⟨some (fltV (9223372036854775808 + infW)), by unfold OpR; rw [if_neg h1, if_neg h2, if_pos h3], fun w => op_minf t f i u ok w hs n1 ?_ (minus_yes hm) (fun w => spec_at hp w (by omega)) (fun w => ?_)⟩
        · rw [toList_beq, decide_eq_true hd]
        · have := negated_any (t.extract 1 t.size) true true 0 0 infW (((9223372036854775808 + infW : Nat)) : Int) w (by rw [size_of hd]; decide) (fun w => arith_neg_flt infW _ w (Nat.le_refl _) rfl)
          have hno : ∀ v, negOut (t.extract 1 t.size) v = v := fun v => by
            unfold negOut
            rw [if_neg]
            rw [bs_of hd]
            exact fun hh => absurd hh.1 (by decide)
          rw [hno] at this
          exact this
      · by_cases h4 : (bs t).getD 0 0 = 45
        · have hl := minus_list h4
          have hd : (t.extract 1 t.size).data.toList ≠ [105, 110, 102] := fun hh => h3 (by rw [hl, hh])
          have n2 : ((t.extract 1 t.size).toList == [105, 110, 102]) = false := by rw [toList_beq, decide_eq_false hd]
          obtain ⟨f, i, u, ok, hp⟩ := PNR.ex (t.extract 1 t.size)
          have hsz := tail_size t
          have hO : OpR t (if ok then some (negOut (t.extract 1 t.size) (negN f i u)) else none) := by unfold OpR; rw [if_neg h1, if_neg h2, if_neg h3, if_pos h4]; exact ⟨f, i, u, ok, hp, rfl⟩
          refine ⟨_, hO, fun w => ?_⟩
          cases ok with
          | false => exact op_minus_no t f i u w hs n1 n2 (minus_yes h4) (fun w => spec_at hp w (by omega))
          | true =>
            obtain ⟨hk, h100⟩ := hp.ok
            obtain ⟨f', i', u', hn, hA⟩ := arith_any hk
            obtain ⟨f2, i2, u2, hn2⟩ := negOut_form (t.extract 1 t.size) f' i' u'
            have hN := fun w => negated_any (t.extract 1 t.size) f f' i i' u u' w (by omega) hA
            rw [hn2] at hN
            rw [hn, hn2]
            exact op_minus t f f2 i u i2 u2 w hs n1 n2 (minus_yes h4) (fun w => spec_at hp w (by omega)) hN
        · obtain ⟨f, i, u, ok, hp⟩ := PNR.ex t
          have n2 : (t.toList == [105, 110, 102]) = false := by rw [toList_beq, decide_eq_false h2]
          refine ⟨_, by unfold OpR; rw [if_neg h1, if_neg h2, if_neg h3, if_neg h4]; exact ⟨f, i, u, ok, hp, rfl⟩, fun w => op_plain t f i u ok w hs n1 n2 (minus_no h4) (fun w => spec_at hp w (by omega))⟩

end Go.Proofs.YtamdnnkdnhkghaaGreatDoor

namespace Go.Proofs.YtamdnnkdnhkghaaGreatDoor
open Go Go.RowKit
set_option linter.unusedVariables false

/-- The last two ways of 'OpR'. -/
def OpS (t : ByteArray) (o : Option Value) : Prop :=
  if (bs t).getD 0 0 = 45 then ∃ f i u ok, PNR (t.extract 1 t.size) (resG f i u ok) ∧ o = if ok then some (negOut (t.extract 1 t.size) (negN f i u)) else none
  else ∃ f i u ok, PNR t (resG f i u ok) ∧ o = if ok then some (numG f i u) else none

theorem cut_no {t : ByteArray} (h : (bs t).getD 0 0 ≠ 45) (w : World) : Calls Tryz.prog 119 #[.string t, .string ⟨#[45]⟩] w fun e w' => e = .returned (.tuple #[.string t, .bool false]) ∧ w' = w := by
  have := Tryz.strings_CutPrefix t ⟨#[45]⟩ w
  have e1 : Lib.hasPrefix t.data.toList [45] = false := by
    cases hl : t.data.toList with
    | nil => rfl
    | cons a l =>
      have ha : a ≠ 45 := fun ha => h (by rw [bs_of hl, ha]; rfl)
      show ([45] : List UInt8).isPrefixOf (a :: l) = false
      simp [List.isPrefixOf]
      exact fun hh => ha hh.symm
  have e2 : Lib.trimPrefix t.data.toList [45] = t.data.toList := by
    unfold Lib.trimPrefix
    rw [e1]
    rfl
  have e3 : (⟨#[45]⟩ : ByteArray).data.toList = [45] := rfl
  rw [e3, e1, e2] at this
  exact this

theorem cut_yes {t : ByteArray} (h : (bs t).getD 0 0 = 45) (w : World) : Calls Tryz.prog 119 #[.string t, .string ⟨#[45]⟩] w fun e w' => e = .returned (.tuple #[.string (t.extract 1 t.size), .bool true]) ∧ w' = w := by
  have := Tryz.strings_CutPrefix t ⟨#[45]⟩ w
  have hl := minus_list h
  have e1 : Lib.hasPrefix t.data.toList [45] = true := by
    rw [hl]
    show ([45] : List UInt8).isPrefixOf _ = true
    simp [List.isPrefixOf]
  have e2 : Lib.trimPrefix t.data.toList [45] = (t.extract 1 t.size).data.toList := by
    unfold Lib.trimPrefix
    rw [e1, hl]
    rfl
  have e3 : (⟨#[45]⟩ : ByteArray).data.toList = [45] := rfl
  rw [e3, e1, e2] at this
  exact this

set_option maxHeartbeats 1600000 in
set_option maxRecDepth 100000 in
theorem ps_plain (t : ByteArray) (f : Bool) (i u : Int) (ok : Bool) (w : World) (h : (bs t).getD 0 0 ≠ 45)
    (hP : ∀ w', Below w.heap.size w w' → Calls Tryz.prog 13 #[.string t] w' fun e w'' => e = .returned (resG f i u ok) ∧ Below w'.heap.size w' w'') :
    Calls Tryz.prog 74 #[.string t] w fun e w' => e = .returned (resG f i u ok) ∧ Below w.heap.size w w' := by
  have HC := hide (fun w => cut_no h w)
  have HP := hide hP
  clear hP h
  unfold resG numG at *
  go_enter Tryz.func74, Tryz.ntmps74
  go_wp2_with fail
  refine (HC.out _).mono ?_
  rintro e w' ⟨rfl, rfl⟩
  go_wp2_with fail
  refine (HP.out _ ((Below.refl _ _).alloc (Nat.le_refl _) _)).mono ?_
  rintro e w1 ⟨rfl, hb1⟩
  have hb2 := hb1.alloc hb1.size (.cells #[.bool f, .int .i64 i, .int .u64 u] 26)
  have hsz : w.heap.size + 1 ≤ w1.heap.size := by have := hb1.size; simp at this; omega
  have hz : w.heap.size ≠ w1.heap.size := by omega
  have hz2 : ¬ (w.heap.size = w1.heap.size) := hz
  have hz3 : ¬ (w1.heap.size = w.heap.size) := fun h => hz h.symm
  have HB0 := hide hb2
  obtain ⟨hc2, hf2⟩ := bcell hb2
  clear hb1 hb2
  cases ok
  · go_wp2
    refine bodyPost_ret (v := .tuple #[.agg #[.bool f, .int .i64 i, .int .u64 u], .bool false]) ?_ rfl ⟨rfl, ?_⟩
    · simp [results, Tryz.results74, go_sem, hc2]
    · refine Below.setCell (Below.setCell (Below.setCell (below_res (HB0.out.mono (by simp))) ?_ _) ?_ _) ?_ _
      all_goals simp
  · go_wp2
    refine bodyPost_ret (v := .tuple #[.agg #[.bool f, .int .i64 i, .int .u64 u], .bool true]) ?_ rfl ⟨rfl, ?_⟩
    · simp [results, Tryz.results74, go_sem, hc2]
    · refine Below.setCell (Below.setCell (Below.setCell (below_res (HB0.out.mono (by simp))) ?_ _) ?_ _) ?_ _
      all_goals simp

set_option maxHeartbeats 1600000 in
set_option maxRecDepth 100000 in
theorem ps_no (t : ByteArray) (f : Bool) (i u : Int) (w : World) (h : (bs t).getD 0 0 = 45)
    (hP : ∀ w', Below w.heap.size w w' → Calls Tryz.prog 13 #[.string (t.extract 1 t.size)] w' fun e w'' => e = .returned (resG f i u false) ∧ Below w'.heap.size w' w'') :
    Calls Tryz.prog 74 #[.string t] w fun e w' => e = .returned (resG f i u false) ∧ Below w.heap.size w w' := by
  have HC := hide (fun w => cut_yes h w)
  have HP := hide hP
  clear hP h
  unfold resG numG at *
  generalize t.extract 1 t.size = d at *
  go_enter Tryz.func74, Tryz.ntmps74
  go_wp2_with fail
  refine (HC.out _).mono ?_
  rintro e w' ⟨rfl, rfl⟩
  go_wp2_with fail
  refine (HP.out _ ((Below.refl _ _).alloc (Nat.le_refl _) _)).mono ?_
  rintro e w1 ⟨rfl, hb1⟩
  have hb2 := hb1.alloc hb1.size (.cells #[.bool f, .int .i64 i, .int .u64 u] 26)
  have hsz : w.heap.size + 1 ≤ w1.heap.size := by have := hb1.size; simp at this; omega
  have hz : w.heap.size ≠ w1.heap.size := by omega
  have hz2 : ¬ (w.heap.size = w1.heap.size) := hz
  have hz3 : ¬ (w1.heap.size = w.heap.size) := fun h => hz h.symm
  have HB0 := hide hb2
  obtain ⟨hc2, hf2⟩ := bcell hb2
  clear hb1 hb2
  go_wp2
  refine bodyPost_ret (v := .tuple #[.agg #[.bool f, .int .i64 i, .int .u64 u], .bool false]) ?_ rfl ⟨rfl, ?_⟩
  · simp [results, Tryz.results74, go_sem, hc2]
  · refine Below.setCell (Below.setCell (Below.setCell (below_res (HB0.out.mono (by simp))) ?_ _) ?_ _) ?_ _
    all_goals simp

set_option maxHeartbeats 1600000 in
set_option maxRecDepth 100000 in
theorem ps_other (t : ByteArray) (f f' : Bool) (i u i' u' : Int) (w : World) (h : (bs t).getD 0 0 = 45)
    (hP : ∀ w', Below w.heap.size w w' → Calls Tryz.prog 13 #[.string (t.extract 1 t.size)] w' fun e w'' => e = .returned (resG f i u true) ∧ Below w'.heap.size w' w'')
    (hd : ∀ w, Calls Tryz.prog 65 #[.string (t.extract 1 t.size)] w fun e w' => e = .returned (.bool false) ∧ w' = w)
    (hN : ∀ w, Calls Tryz.prog 120 #[numG f i u] w fun e w' => e = .returned (numG f' i' u') ∧ Below w.heap.size w w') :
    Calls Tryz.prog 74 #[.string t] w fun e w' => e = .returned (resG f' i' u' true) ∧ Below w.heap.size w w' := by
  have HD := hide hd
  have HN := hide hN
  clear hd hN
  have HC := hide (fun w => cut_yes h w)
  have HP := hide hP
  clear hP h
  unfold resG numG at *
  generalize t.extract 1 t.size = d at *
  go_enter Tryz.func74, Tryz.ntmps74
  go_wp2_with fail
  refine (HC.out _).mono ?_
  rintro e w' ⟨rfl, rfl⟩
  go_wp2_with fail
  refine (HP.out _ ((Below.refl _ _).alloc (Nat.le_refl _) _)).mono ?_
  rintro e w1 ⟨rfl, hb1⟩
  have hb2 := hb1.alloc hb1.size (.cells #[.bool f, .int .i64 i, .int .u64 u] 26)
  have hsz : w.heap.size + 1 ≤ w1.heap.size := by have := hb1.size; simp at this; omega
  have hz : w.heap.size ≠ w1.heap.size := by omega
  have hz2 : ¬ (w.heap.size = w1.heap.size) := hz
  have hz3 : ¬ (w1.heap.size = w.heap.size) := fun h => hz h.symm
  have HB0 := hide hb2
  obtain ⟨hc2, hf2⟩ := bcell hb2
  clear hb1 hb2
  go_wp2_with fail
  refine (HD.out _).mono ?_
  rintro e w' ⟨rfl, rfl⟩
  go_wp2_with fail
  refine (HN.out _).mono ?_
  rintro e w3 ⟨rfl, hb3⟩
  have hb5 := HB0.out.trans (hb3.mono HB0.out.size)
  clear hc2 hf2
  obtain ⟨hc2, hf2⟩ := bcell hb5
  have HB5 := hide hb5
  clear hb5 hb3
  go_wp2
  refine bodyPost_ret (v := .tuple #[.agg #[.bool f', .int .i64 i', .int .u64 u'], .bool true]) ?_ rfl ⟨rfl, ?_⟩
  · simp [results, Tryz.results74, go_sem, hc2]
  · refine Below.setCell (Below.setCell (Below.setCell (below_res (HB5.out.mono (by simp))) ?_ _) ?_ _) ?_ _
    all_goals simp

set_option maxHeartbeats 1600000 in
set_option maxRecDepth 100000 in
theorem ps_range (t : ByteArray) (f f' : Bool) (i u i' u' x : Int) (w : World) (h : (bs t).getD 0 0 = 45)
    (hP : ∀ w', Below w.heap.size w w' → Calls Tryz.prog 13 #[.string (t.extract 1 t.size)] w' fun e w'' => e = .returned (resG f i u true) ∧ Below w'.heap.size w' w'')
    (hd : ∀ w, Calls Tryz.prog 65 #[.string (t.extract 1 t.size)] w fun e w' => e = .returned (.bool true) ∧ w' = w)
    (hI : ∀ w', Below w.heap.size w w' → Calls Tryz.prog 66 #[.string t, .int .i64 10, .int .i64 64] w' fun e w'' => ∃ N, e = .returned (.tuple #[.int .i64 x, .iface 150 (.pointer (some ⟨N, 0, none⟩))]) ∧ Below w'.heap.size w' w'')
    (hN : ∀ w, Calls Tryz.prog 120 #[numG f i u] w fun e w' => e = .returned (numG f' i' u') ∧ Below w.heap.size w w') :
    Calls Tryz.prog 74 #[.string t] w fun e w' => e = .returned (resG f' i' u' true) ∧ Below w.heap.size w w' := by
  have HD := hide hd
  have HN := hide hN
  have HI := hide hI
  clear hd hN hI
  have HC := hide (fun w => cut_yes h w)
  have HP := hide hP
  clear hP h
  unfold resG numG at *
  generalize t.extract 1 t.size = d at *
  go_enter Tryz.func74, Tryz.ntmps74
  go_wp2_with fail
  refine (HC.out _).mono ?_
  rintro e w' ⟨rfl, rfl⟩
  go_wp2_with fail
  refine (HP.out _ ((Below.refl _ _).alloc (Nat.le_refl _) _)).mono ?_
  rintro e w1 ⟨rfl, hb1⟩
  have hb2 := hb1.alloc hb1.size (.cells #[.bool f, .int .i64 i, .int .u64 u] 26)
  have hsz : w.heap.size + 1 ≤ w1.heap.size := by have := hb1.size; simp at this; omega
  have hz : w.heap.size ≠ w1.heap.size := by omega
  have hz2 : ¬ (w.heap.size = w1.heap.size) := hz
  have hz3 : ¬ (w1.heap.size = w.heap.size) := fun h => hz h.symm
  have HB0 := hide hb2
  obtain ⟨hc2, hf2⟩ := bcell hb2
  clear hb1 hb2
  go_wp2_with fail
  refine (HD.out _).mono ?_
  rintro e w' ⟨rfl, rfl⟩
  go_wp2_with fail
  refine (HI.out _ (below_res (HB0.out.mono (by simp)))).mono ?_
  rintro e w2 ⟨B, rfl, hb4⟩
  obtain ⟨hc3, hf3⟩ := bcell hb4
  have hb6 := HB0.out.trans (hb4.mono HB0.out.size)
  have HB6 := hide hb6
  clear hb6 hb4
  go_wp2_with fail
  refine (HN.out _).mono ?_
  rintro e w3 ⟨rfl, hb3⟩
  have hb5 := HB6.out.trans (hb3.mono HB6.out.size)
  clear hc2 hf2
  obtain ⟨hc2, hf2⟩ := bcell hb5
  have HB5 := hide hb5
  clear hb5 hb3
  go_wp2
  refine bodyPost_ret (v := .tuple #[.agg #[.bool f', .int .i64 i', .int .u64 u'], .bool true]) ?_ rfl ⟨rfl, ?_⟩
  · simp [results, Tryz.results74, go_sem, hc2]
  · refine Below.setCell (Below.setCell (Below.setCell (below_res (HB5.out.mono (by simp))) ?_ _) ?_ _) ?_ _
    all_goals simp

set_option maxHeartbeats 1600000 in
set_option maxRecDepth 100000 in
theorem ps_int (t : ByteArray) (f : Bool) (i u x : Int) (w : World) (h : (bs t).getD 0 0 = 45)
    (hP : ∀ w', Below w.heap.size w w' → Calls Tryz.prog 13 #[.string (t.extract 1 t.size)] w' fun e w'' => e = .returned (resG f i u true) ∧ Below w'.heap.size w' w'')
    (hd : ∀ w, Calls Tryz.prog 65 #[.string (t.extract 1 t.size)] w fun e w' => e = .returned (.bool true) ∧ w' = w)
    (hI : ∀ w', Calls Tryz.prog 66 #[.string t, .int .i64 10, .int .i64 64] w' fun e w'' => e = .returned (.tuple #[.int .i64 x, .nilIface]) ∧ Below w'.heap.size w' w'') (hx0 : -9223372036854775808 ≤ x) (hx1 : x ≤ 9223372036854775807) :
    Calls Tryz.prog 74 #[.string t] w fun e w' => e = .returned (resG false x 0 true) ∧ Below w.heap.size w w' := by
  have HD := hide hd
  have HI := hide hI
  clear hd hI
  have HC := hide (fun w => cut_yes h w)
  have HP := hide hP
  clear hP h
  unfold resG numG at *
  generalize t.extract 1 t.size = d at *
  go_enter Tryz.func74, Tryz.ntmps74
  go_wp2_with fail
  refine (HC.out _).mono ?_
  rintro e w' ⟨rfl, rfl⟩
  go_wp2_with fail
  refine (HP.out _ ((Below.refl _ _).alloc (Nat.le_refl _) _)).mono ?_
  rintro e w1 ⟨rfl, hb1⟩
  have hb2 := hb1.alloc hb1.size (.cells #[.bool f, .int .i64 i, .int .u64 u] 26)
  have hsz : w.heap.size + 1 ≤ w1.heap.size := by have := hb1.size; simp at this; omega
  have hz : w.heap.size ≠ w1.heap.size := by omega
  have hz2 : ¬ (w.heap.size = w1.heap.size) := hz
  have hz3 : ¬ (w1.heap.size = w.heap.size) := fun h => hz h.symm
  have HB0 := hide hb2
  obtain ⟨hc2, hf2⟩ := bcell hb2
  clear hb1 hb2
  go_wp2_with fail
  refine (HD.out _).mono ?_
  rintro e w' ⟨rfl, rfl⟩
  go_wp2_with fail
  refine (HI.out _).mono ?_
  rintro e w2 ⟨rfl, hb4⟩
  have hb6 := HB0.out.trans (hb4.mono HB0.out.size)
  have HB6 := hide hb6
  clear hb6 hb4
  go_wp2_with fail
  refine (implInt_any _ _).mono ?_
  rintro e w3 ⟨rfl, hb3⟩
  have hb5 := HB6.out.trans (hb3.mono HB6.out.size)
  clear hc2 hf2
  obtain ⟨hc2, hf2⟩ := bcell hb5
  have HB5 := hide hb5
  clear hb5 hb3
  go_wp2
  refine bodyPost_ret (v := .tuple #[.agg #[.bool false, .int .i64 x, .int .u64 0], .bool true]) ?_ rfl ⟨rfl, ?_⟩
  · simp [results, Tryz.results74, go_sem, hc2]
  · refine Below.setCell (Below.setCell (Below.setCell (below_res (HB5.out.mono (by simp))) ?_ _) ?_ _) ?_ _
    all_goals simp

end Go.Proofs.YtamdnnkdnhkghaaGreatDoor
