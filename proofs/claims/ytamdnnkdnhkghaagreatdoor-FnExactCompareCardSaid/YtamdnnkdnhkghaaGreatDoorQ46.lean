import Derived.Test.YtamdnnkdnhkghaaGreatDoorQ45
import Derived.Test.YtamdnnkdnhkghaaGreatDoorQ40
import Derived.Test.YtamdnnkdnhkghaaGreatDoorQ42
namespace Go.Proofs.YtamdnnkdnhkghaaGreatDoor
open Go Go.RowKit
set_option linter.unusedVariables false

abbrev numG (f : Bool) (i u : Int) : Value := .agg #[.bool f, .int .i64 i, .int .u64 u]
abbrev resG (f : Bool) (i u : Int) (ok : Bool) : Value := .tuple #[numG f i u, .bool ok]

/-- What is sure of a numeral's number. -/
def NumOK (f : Bool) (i u : Int) : Prop := (f = false ∧ u = 0 ∧ -9223372036854775808 ≤ i ∧ i ≤ 9223372036854775807) ∨ (f = true ∧ i = 0 ∧ ∃ W : Nat, W < infW ∧ u = W)

theorem wrap_range (x : Int) : -9223372036854775808 ≤ wrap64 x ∧ wrap64 x ≤ 9223372036854775807 := by unfold wrap64; omega

theorem resG_inj {f g : Bool} {i j u v : Int} {a b : Bool} (h : resG f i u a = resG g j v b) : f = g ∧ i = j ∧ u = v ∧ a = b := by
  simp at h
  exact ⟨h.1.1, h.1.2.1, h.1.2.2, h.2⟩

theorem FloatR.ok {N : Nat} {E : Int} {f : Bool} {i u : Int} (h : FloatR N E (resG f i u true)) : f = true ∧ i = 0 ∧ ∃ W : Nat, W < infW ∧ u = W := by
  obtain ⟨W, hW, h⟩ := h
  split at h
  · have := (resG_inj (show resG f i u true = resG false 0 0 false from h)).2.2.2
    cases this
  · obtain ⟨h1, h2, h3, _⟩ := resG_inj (show resG f i u true = resG true 0 W true from h)
    exact ⟨h1, h2, W, by have := isRnd_le hW; omega, h3⟩

theorem DecR.ok {l : List Int} {f : Bool} {i u : Int} (h : DecR l (resG f i u true)) : NumOK f i u := by
  unfold DecR at h
  split at h
  · have := (resG_inj (show resG f i u true = resG false 0 0 false from h)).2.2.2
    cases this
  · split at h
    · rename_i hc
      obtain ⟨h1, h2, h3, _⟩ := resG_inj (show resG f i u true = resG false _ 0 true from h)
      exact .inl ⟨h1, h3, by omega, by omega⟩
    · split at h
      · have := (resG_inj (show resG f i u true = resG false 0 0 false from h)).2.2.2
        cases this
      · exact .inr h.ok

theorem PNR.ok {s : ByteArray} {f : Bool} {i u : Int} (h : PNR s (resG f i u true)) : NumOK f i u ∧ s.size ≤ 100 := by
  unfold PNR at h
  split at h
  · have := (resG_inj (show resG f i u true = resG false 0 0 false from h)).2.2.2
    cases this
  · refine ⟨?_, by omega⟩
    split at h
    · obtain ⟨h1, h2, h3, _⟩ := resG_inj (show resG f i u true = resG false _ 0 _ from h)
      refine .inl ⟨h1, h3, ?_⟩
      rw [h2]
      split
      · exact wrap_range _
      · omega
    · exact h.ok

theorem mlen_dig {l : List Int} (h : allDig l = true) : mlen l = l.length := by
  refine mlen_all ?_
  refine List.all_eq_true.2 (fun c hc => ?_)
  have := List.all_eq_true.1 h c hc
  unfold isDP
  rw [this]
  rfl

theorem isHexP_dig {l : List Int} (h : allDig l = true) : isHexP l = false := by
  unfold isHexP
  cases l with
  | nil => rfl
  | cons a l =>
    cases l with
    | nil => rfl
    | cons b l =>
      have h2 := dig_cons (dig_cons h).2.2
      have e1 : (b == 120) = false := by rw [beq_eq_false_iff_ne]; omega
      have e2 : (b == 88) = false := by rw [beq_eq_false_iff_ne]; omega
      show (_ && _ && ((b == 120) || (b == 88))) = false
      rw [e1, e2]
      simp

/-- Digits alone: below 2^63 an integer, else a float. -/
theorem PNR.digits {s : ByteArray} {f : Bool} {i u : Int} (h : PNR s (resG f i u true)) (hd : allDig (bs s) = true) :
    if dval (bs s) < 9223372036854775808 then f = false ∧ i = dval (bs s) else f = true := by
  have hsz := h.ok.2
  unfold PNR at h
  rw [if_neg (by omega), isHexP_dig hd, if_neg (by decide)] at h
  unfold DecR at h
  have e1 : (dscan (bs s)).1 = bs s := by
    rw [(dscan_parts (bs s)).1]
    refine List.filter_eq_self.2 (fun c hc => ?_)
    have := List.all_eq_true.1 hd c hc
    have := of_decide_eq_true this
    simp
    omega
  have e2 : (dscan (bs s)).2.2 = 0 := by
    rw [(dscan_parts (bs s)).2]
    refine List.count_eq_zero.2 (fun hc => ?_)
    have := of_decide_eq_true (List.all_eq_true.1 hd _ hc)
    omega
  rw [mlen_dig hd, List.take_length, e1, e2] at h
  split at h
  · have := (resG_inj (show resG f i u true = resG false 0 0 false from h)).2.2.2
    cases this
  · split at h
    · rename_i hc
      rw [if_pos hc.2.2]
      obtain ⟨h1, h2, _⟩ := resG_inj (show resG f i u true = resG false _ 0 true from h)
      exact ⟨h1, h2⟩
    · rename_i hc
      rw [if_neg (fun hh => hc ⟨rfl, rfl, hh⟩)]
      rw [if_neg (Nat.lt_irrefl _)] at h
      exact FloatR.ok h |>.1

/-- The number with the other sign. -/
def negN (f : Bool) (i u : Int) : Value := if f then numG true 0 (9223372036854775808 + u) else numG false (wrap64 (-i)) 0

/-- What a text comes to as a number: none if it is no number. -/
def OpR (t : ByteArray) (o : Option Value) : Prop :=
  if t.data.toList = [110, 97, 110] then o = some (fltV 9221120237041090560)
  else if t.data.toList = [105, 110, 102] then o = some (fltV infW)
  else if t.data.toList = [45, 105, 110, 102] then o = some (fltV (9223372036854775808 + infW))
  else if (bs t).getD 0 0 = 45 then ∃ f i u ok, PNR (t.extract 1 t.size) (resG f i u ok) ∧ o = if ok then some (negOut (t.extract 1 t.size) (negN f i u)) else none
  else ∃ f i u ok, PNR t (resG f i u ok) ∧ o = if ok then some (numG f i u) else none

theorem OpR.unique {t : ByteArray} {o o' : Option Value} (h : OpR t o) (h' : OpR t o') : o = o' := by
  unfold OpR at h h'
  by_cases h1 : t.data.toList = [110, 97, 110]
  · rw [if_pos h1] at h h'; rw [h, h']
  · rw [if_neg h1] at h h'
    by_cases h2 : t.data.toList = [105, 110, 102]
    · rw [if_pos h2] at h h'; rw [h, h']
    · rw [if_neg h2] at h h'
      by_cases h3 : t.data.toList = [45, 105, 110, 102]
      · rw [if_pos h3] at h h'; rw [h, h']
      · rw [if_neg h3] at h h'
        by_cases h4 : (bs t).getD 0 0 = 45
        · rw [if_pos h4] at h h'
          obtain ⟨f, i, u, ok, hp, rfl⟩ := h
          obtain ⟨f', i', u', ok', hp', rfl⟩ := h'
          obtain ⟨rfl, rfl, rfl, rfl⟩ := resG_inj (hp.unique hp')
          rfl
        · rw [if_neg h4] at h h'
          obtain ⟨f, i, u, ok, hp, rfl⟩ := h
          obtain ⟨f', i', u', ok', hp', rfl⟩ := h'
          obtain ⟨rfl, rfl, rfl, rfl⟩ := resG_inj (hp.unique hp')
          rfl

/-- Of what form a number is. -/
def IsNum (v : Value) : Prop := (∃ i, v = intV i ∧ -9223372036854775808 ≤ i ∧ i ≤ 9223372036854775807) ∨ (∃ s r, v = fltV (wordS s r) ∧ r < 9223372036854775808)

theorem isNum_flt {W : Nat} (h : W < 18446744073709551616) : IsNum (fltV W) := by
  refine .inr ⟨_, _, by rw [← word_split h], ?_⟩
  omega

theorem OpR.num {t : ByteArray} {v : Value} (h : OpR t (some v)) : IsNum v := by
  unfold OpR at h
  split at h
  · cases h; exact isNum_flt (by decide)
  · split at h
    · cases h; exact isNum_flt (by decide)
    · split at h
      · cases h; exact isNum_flt (by decide)
      · split at h
        · obtain ⟨f, i, u, ok, hp, h⟩ := h
          cases ok with
          | false => cases h
          | true =>
            cases h
            unfold negOut
            split
            · exact .inl ⟨_, rfl, by omega, by omega⟩
            · unfold negN
              rcases hp.ok.1 with ⟨rfl, rfl, h1⟩ | ⟨rfl, rfl, W, hW, rfl⟩
              · exact .inl ⟨_, rfl, wrap_range _⟩
              · have := isNum_flt (W := 9223372036854775808 + W) (by unfold infW at hW; omega)
                unfold fltV at this
                rw [Int.natCast_add] at this
                exact this
        · obtain ⟨f, i, u, ok, hp, h⟩ := h
          cases ok with
          | false => cases h
          | true =>
            cases h
            rcases hp.ok.1 with ⟨rfl, rfl, h1⟩ | ⟨rfl, rfl, W, hW, rfl⟩
            · exact .inl ⟨_, rfl, h1⟩
            · exact isNum_flt (by unfold infW at hW; omega)

end Go.Proofs.YtamdnnkdnhkghaaGreatDoor

namespace Go.Proofs.YtamdnnkdnhkghaaGreatDoor
open Go Go.RowKit
set_option linter.unusedVariables false

/-- What 'L01Operand' hands back. -/
def opV : Option Value → Value
  | some v => .tuple #[v, .bool true]
  | none => .tuple #[numG false 0 0, .bool false]

set_option maxHeartbeats 800000 in
set_option maxRecDepth 100000 in
theorem op_nan (t : ByteArray) (w : World) (h : (t.toList == [110, 97, 110]) = true) :
    Calls Tryz.prog 36 #[.string t] w fun e w' => e = .returned (opV (some (fltV 9221120237041090560))) ∧ Below w.heap.size w w' := by
  go_enter Tryz.func36, Tryz.ntmps36
  go_wp2_with fail
  refine (float_nan _).mono ?_
  rintro e w1 ⟨rfl, hb1⟩
  obtain ⟨hc, hf⟩ := bcell hb1
  have HB1 := hide hb1
  clear hb1
  go_wp2
  refine bodyPost_ret (v := opV (some (fltV 9221120237041090560))) ?_ rfl ⟨rfl, ?_⟩
  · simp [results, Tryz.results36, go_sem, hc, opV]
  · refine Below.setCell (Below.setCell (Below.setCell (below_res (HB1.out.mono (by simp))) ?_ _) ?_ _) ?_ _
    all_goals simp

/-- No minus ahead. -/
def NoMinus (t : ByteArray) : Prop := t.size = 0 ∨ ∃ h : 0 < t.size, (((t[0].toNat : Nat) : Int) == 45) = false

set_option maxHeartbeats 1600000 in
set_option maxRecDepth 100000 in
theorem op_plain (t : ByteArray) (f : Bool) (i u : Int) (ok : Bool) (w : World) (hs : t.size ≤ 1048576) (h : (t.toList == [110, 97, 110]) = false) (h2 : (t.toList == [105, 110, 102]) = false) (hm : NoMinus t)
    (hP : ∀ w, Calls Tryz.prog 69 #[.string t] w fun e w' => e = .returned (resG f i u ok) ∧ Below w.heap.size w w') :
    Calls Tryz.prog 36 #[.string t] w fun e w' => e = .returned (opV (if ok then some (numG f i u) else none)) ∧ Below w.heap.size w w' := by
  have HP := hide hP
  clear hP
  unfold resG numG at HP
  rcases hm with hm | ⟨hm1, hm2⟩
  all_goals cases ok
  · skip
    go_enter Tryz.func36, Tryz.ntmps36
    go_wp2_with fail
    refine (HP.out _).mono ?_
    rintro e w1 ⟨rfl, hb1⟩
    have hb2 := hb1.alloc hb1.size (.cells #[.bool f, .int .i64 i, .int .u64 u] 26)
    obtain ⟨hc2, hf2⟩ := bcell hb2
    have HB2 := hide hb2
    have hz : w.heap.size ≠ w1.heap.size := by have := hb1.size; simp at this; omega
    have hz2 : ¬ (w.heap.size = w1.heap.size) := hz
    have hz3 : ¬ (w1.heap.size = w.heap.size) := fun h => hz h.symm
    clear hb1 hb2
    go_wp2
    refine bodyPost_ret (v := opV (none)) ?_ rfl ⟨rfl, ?_⟩
    · simp [results, Tryz.results36, go_sem, hc2, opV]
    · refine Below.setCell (Below.setCell (Below.setCell (below_res (HB2.out.mono (by simp))) ?_ _) ?_ _) ?_ _
      all_goals simp
  · skip
    go_enter Tryz.func36, Tryz.ntmps36
    go_wp2_with fail
    refine (HP.out _).mono ?_
    rintro e w1 ⟨rfl, hb1⟩
    have hb2 := hb1.alloc hb1.size (.cells #[.bool f, .int .i64 i, .int .u64 u] 26)
    obtain ⟨hc2, hf2⟩ := bcell hb2
    have HB2 := hide hb2
    have hz : w.heap.size ≠ w1.heap.size := by have := hb1.size; simp at this; omega
    have hz2 : ¬ (w.heap.size = w1.heap.size) := hz
    have hz3 : ¬ (w1.heap.size = w.heap.size) := fun h => hz h.symm
    clear hb1 hb2
    go_wp2
    refine bodyPost_ret (v := opV (some (numG f i u))) ?_ rfl ⟨rfl, ?_⟩
    · simp [results, Tryz.results36, go_sem, hc2, opV]
    · refine Below.setCell (Below.setCell (Below.setCell (below_res (HB2.out.mono (by simp))) ?_ _) ?_ _) ?_ _
      all_goals simp
  · skip
    go_enter Tryz.func36, Tryz.ntmps36
    go_wp2_with fail
    refine (HP.out _).mono ?_
    rintro e w1 ⟨rfl, hb1⟩
    have hb2 := hb1.alloc hb1.size (.cells #[.bool f, .int .i64 i, .int .u64 u] 26)
    obtain ⟨hc2, hf2⟩ := bcell hb2
    have HB2 := hide hb2
    have hz : w.heap.size ≠ w1.heap.size := by have := hb1.size; simp at this; omega
    have hz2 : ¬ (w.heap.size = w1.heap.size) := hz
    have hz3 : ¬ (w1.heap.size = w.heap.size) := fun h => hz h.symm
    clear hb1 hb2
    go_wp2
    refine bodyPost_ret (v := opV (none)) ?_ rfl ⟨rfl, ?_⟩
    · simp [results, Tryz.results36, go_sem, hc2, opV]
    · refine Below.setCell (Below.setCell (Below.setCell (below_res (HB2.out.mono (by simp))) ?_ _) ?_ _) ?_ _
      all_goals simp
  · skip
    go_enter Tryz.func36, Tryz.ntmps36
    go_wp2_with fail
    refine (HP.out _).mono ?_
    rintro e w1 ⟨rfl, hb1⟩
    have hb2 := hb1.alloc hb1.size (.cells #[.bool f, .int .i64 i, .int .u64 u] 26)
    obtain ⟨hc2, hf2⟩ := bcell hb2
    have HB2 := hide hb2
    have hz : w.heap.size ≠ w1.heap.size := by have := hb1.size; simp at this; omega
    have hz2 : ¬ (w.heap.size = w1.heap.size) := hz
    have hz3 : ¬ (w1.heap.size = w.heap.size) := fun h => hz h.symm
    clear hb1 hb2
    go_wp2
    refine bodyPost_ret (v := opV (some (numG f i u))) ?_ rfl ⟨rfl, ?_⟩
    · simp [results, Tryz.results36, go_sem, hc2, opV]
    · refine Below.setCell (Below.setCell (Below.setCell (below_res (HB2.out.mono (by simp))) ?_ _) ?_ _) ?_ _
      all_goals simp

set_option maxHeartbeats 1600000 in
set_option maxRecDepth 100000 in
theorem op_inf (t : ByteArray) (f : Bool) (i u : Int) (ok : Bool) (w : World) (hs : t.size ≤ 1048576) (h : (t.toList == [110, 97, 110]) = false) (h2 : (t.toList == [105, 110, 102]) = true) (hm : NoMinus t)
    (hP : ∀ w, Calls Tryz.prog 69 #[.string t] w fun e w' => e = .returned (resG f i u ok) ∧ Below w.heap.size w w') :
    Calls Tryz.prog 36 #[.string t] w fun e w' => e = .returned (opV (some (fltV infW))) ∧ Below w.heap.size w w' := by
  have HP := hide hP
  clear hP
  unfold resG numG at HP
  have HF := hide (fun w => float_num infW w (by decide))
  unfold fltV infW at *
  rcases hm with hm | ⟨hm1, hm2⟩
  · skip
    go_enter Tryz.func36, Tryz.ntmps36
    go_wp2_with fail
    refine (HP.out _).mono ?_
    rintro e w1 ⟨rfl, hb1⟩
    have hb2 := hb1.alloc hb1.size (.cells #[.bool f, .int .i64 i, .int .u64 u] 26)
    have hsz : w.heap.size + 1 ≤ w1.heap.size := by have := hb1.size; simp at this; omega
    have hz : w.heap.size ≠ w1.heap.size := by omega
    have hz2 : ¬ (w.heap.size = w1.heap.size) := hz
    have hz3 : ¬ (w1.heap.size = w.heap.size) := fun h => hz h.symm
    have HB0 := hide hb2
    clear hb1 hb2
    go_wp2_with fail
    refine (HF.out _).mono ?_
    rintro e w2 ⟨rfl, hb3⟩
    have hb2 := HB0.out.trans (hb3.mono HB0.out.size)
    obtain ⟨hc2, hf2⟩ := bcell hb2
    obtain ⟨hc3, hf3⟩ := bcell hb3
    have HB2 := hide hb2
    clear hb2 hb3
    go_wp2
    refine bodyPost_ret (v := opV (some (.agg #[.bool true, .int .i64 0, .int .u64 9218868437227405312]))) ?_ rfl ⟨rfl, ?_⟩
    · simp [results, Tryz.results36, go_sem, hc2, opV]
    · refine Below.setCell (Below.setCell (Below.setCell (Below.setCell (Below.setCell (Below.setCell (below_res (HB2.out.mono (by simp))) ?_ _) ?_ _) ?_ _) ?_ _) ?_ _) ?_ _
      all_goals (simp; try omega)
  · skip
    go_enter Tryz.func36, Tryz.ntmps36
    go_wp2_with fail
    refine (HP.out _).mono ?_
    rintro e w1 ⟨rfl, hb1⟩
    have hb2 := hb1.alloc hb1.size (.cells #[.bool f, .int .i64 i, .int .u64 u] 26)
    have hsz : w.heap.size + 1 ≤ w1.heap.size := by have := hb1.size; simp at this; omega
    have hz : w.heap.size ≠ w1.heap.size := by omega
    have hz2 : ¬ (w.heap.size = w1.heap.size) := hz
    have hz3 : ¬ (w1.heap.size = w.heap.size) := fun h => hz h.symm
    have HB0 := hide hb2
    clear hb1 hb2
    go_wp2_with fail
    refine (HF.out _).mono ?_
    rintro e w2 ⟨rfl, hb3⟩
    have hb2 := HB0.out.trans (hb3.mono HB0.out.size)
    obtain ⟨hc2, hf2⟩ := bcell hb2
    obtain ⟨hc3, hf3⟩ := bcell hb3
    have HB2 := hide hb2
    clear hb2 hb3
    go_wp2
    refine bodyPost_ret (v := opV (some (.agg #[.bool true, .int .i64 0, .int .u64 9218868437227405312]))) ?_ rfl ⟨rfl, ?_⟩
    · simp [results, Tryz.results36, go_sem, hc2, opV]
    · refine Below.setCell (Below.setCell (Below.setCell (Below.setCell (Below.setCell (Below.setCell (below_res (HB2.out.mono (by simp))) ?_ _) ?_ _) ?_ _) ?_ _) ?_ _) ?_ _
      all_goals (simp; try omega)

/-- A minus ahead. -/
def Minus (t : ByteArray) : Prop := ∃ h : 0 < t.size, (((t[0].toNat : Nat) : Int) == 45) = true

set_option maxHeartbeats 1600000 in
set_option maxRecDepth 100000 in
theorem op_minus_no (t : ByteArray) (f : Bool) (i u : Int) (w : World) (hs : t.size ≤ 1048576) (h : (t.toList == [110, 97, 110]) = false) (h2 : ((t.extract 1 t.size).toList == [105, 110, 102]) = false) (hm : Minus t)
    (hP : ∀ w, Calls Tryz.prog 69 #[.string (t.extract 1 t.size)] w fun e w' => e = .returned (resG f i u false) ∧ Below w.heap.size w w') :
    Calls Tryz.prog 36 #[.string t] w fun e w' => e = .returned (opV none) ∧ Below w.heap.size w w' := by
  have HP := hide hP
  clear hP
  unfold resG numG at HP
  obtain ⟨hm1, hm2⟩ := hm
  go_enter Tryz.func36, Tryz.ntmps36
  go_wp2_with fail
  refine (HP.out _).mono ?_
  rintro e w1 ⟨rfl, hb1⟩
  have hb2 := hb1.alloc hb1.size (.cells #[.bool f, .int .i64 i, .int .u64 u] 26)
  have hsz : w.heap.size + 1 ≤ w1.heap.size := by have := hb1.size; simp at this; omega
  have hz : w.heap.size ≠ w1.heap.size := by omega
  have hz2 : ¬ (w.heap.size = w1.heap.size) := hz
  have hz3 : ¬ (w1.heap.size = w.heap.size) := fun h => hz h.symm
  have HB0 := hide hb2
  clear hb1 hb2
  obtain ⟨hc2, hf2⟩ := bcell HB0.out
  go_wp2
  refine bodyPost_ret (v := opV none) ?_ rfl ⟨rfl, ?_⟩
  · simp [results, Tryz.results36, go_sem, hc2, opV]
  · refine Below.setCell (Below.setCell (Below.setCell (below_res (HB0.out.mono (by simp))) ?_ _) ?_ _) ?_ _
    all_goals (simp; try omega)

set_option maxHeartbeats 1600000 in
set_option maxRecDepth 100000 in
theorem op_minus (t : ByteArray) (f f' : Bool) (i u i' u' : Int) (w : World) (hs : t.size ≤ 1048576) (h : (t.toList == [110, 97, 110]) = false) (h2 : ((t.extract 1 t.size).toList == [105, 110, 102]) = false) (hm : Minus t)
    (hP : ∀ w, Calls Tryz.prog 69 #[.string (t.extract 1 t.size)] w fun e w' => e = .returned (resG f i u true) ∧ Below w.heap.size w w')
    (hN : ∀ w, Calls Tryz.prog 70 #[.string (t.extract 1 t.size), numG f i u] w fun e w' => e = .returned (numG f' i' u') ∧ Below w.heap.size w w') :
    Calls Tryz.prog 36 #[.string t] w fun e w' => e = .returned (opV (some (numG f' i' u'))) ∧ Below w.heap.size w w' := by
  have HP := hide hP
  have HN := hide hN
  clear hP hN
  unfold resG numG at HP
  unfold numG at HN
  obtain ⟨hm1, hm2⟩ := hm
  go_enter Tryz.func36, Tryz.ntmps36
  go_wp2_with fail
  refine (HP.out _).mono ?_
  rintro e w1 ⟨rfl, hb1⟩
  have hb2 := hb1.alloc hb1.size (.cells #[.bool f, .int .i64 i, .int .u64 u] 26)
  have hsz : w.heap.size + 1 ≤ w1.heap.size := by have := hb1.size; simp at this; omega
  have hz : w.heap.size ≠ w1.heap.size := by omega
  have hz2 : ¬ (w.heap.size = w1.heap.size) := hz
  have hz3 : ¬ (w1.heap.size = w.heap.size) := fun h => hz h.symm
  have HB0 := hide hb2
  clear hb1 hb2
  obtain ⟨hc2, hf2⟩ := bcell HB0.out
  go_wp2_with fail
  refine (HN.out _).mono ?_
  rintro e w2 ⟨rfl, hb3⟩
  clear hc2 hf2
  have hb2 := HB0.out.trans (hb3.mono HB0.out.size)
  obtain ⟨hc2, hf2⟩ := bcell hb2
  obtain ⟨hc3, hf3⟩ := bcell hb3
  have HB2 := hide hb2
  clear hb2 hb3
  go_wp2
  refine bodyPost_ret (v := opV (some (.agg #[.bool f', .int .i64 i', .int .u64 u']))) ?_ rfl ⟨rfl, ?_⟩
  · simp [results, Tryz.results36, go_sem, hc2, opV]
  · refine Below.setCell (Below.setCell (Below.setCell (Below.setCell (Below.setCell (Below.setCell (below_res (HB2.out.mono (by simp))) ?_ _) ?_ _) ?_ _) ?_ _) ?_ _) ?_ _
    all_goals (simp; try omega)

set_option maxHeartbeats 1600000 in
set_option maxRecDepth 100000 in
theorem op_minf (t : ByteArray) (f : Bool) (i u : Int) (ok : Bool) (w : World) (hs : t.size ≤ 1048576) (h : (t.toList == [110, 97, 110]) = false) (h2 : ((t.extract 1 t.size).toList == [105, 110, 102]) = true) (hm : Minus t)
    (hP : ∀ w, Calls Tryz.prog 69 #[.string (t.extract 1 t.size)] w fun e w' => e = .returned (resG f i u ok) ∧ Below w.heap.size w w')
    (hN : ∀ w, Calls Tryz.prog 70 #[.string (t.extract 1 t.size), fltV infW] w fun e w' => e = .returned (fltV (9223372036854775808 + infW)) ∧ Below w.heap.size w w') :
    Calls Tryz.prog 36 #[.string t] w fun e w' => e = .returned (opV (some (fltV (9223372036854775808 + infW)))) ∧ Below w.heap.size w w' := by
  have HP := hide hP
  have HN := hide hN
  clear hP hN
  unfold resG numG at HP
  have HF := hide (fun w => float_num infW w (by decide))
  unfold fltV infW at *
  have e1 : ((9223372036854775808 + 9218868437227405312 : Nat) : Int) = 18442240474082181120 := rfl
  have e2 : ((9218868437227405312 : Nat) : Int) = 9218868437227405312 := rfl
  rw [e1] at HN ⊢
  rw [e2] at HN HF
  obtain ⟨hm1, hm2⟩ := hm
  go_enter Tryz.func36, Tryz.ntmps36
  go_wp2_with fail
  refine (HP.out _).mono ?_
  rintro e w1 ⟨rfl, hb1⟩
  have hb2 := hb1.alloc hb1.size (.cells #[.bool f, .int .i64 i, .int .u64 u] 26)
  have hsz : w.heap.size + 1 ≤ w1.heap.size := by have := hb1.size; simp at this; omega
  have hz : w.heap.size ≠ w1.heap.size := by omega
  have hz2 : ¬ (w.heap.size = w1.heap.size) := hz
  have hz3 : ¬ (w1.heap.size = w.heap.size) := fun h => hz h.symm
  have HB0 := hide hb2
  clear hb1 hb2
  go_wp2_with fail
  refine (HF.out _).mono ?_
  rintro e w2 ⟨rfl, hb3⟩
  have hb2 := HB0.out.trans (hb3.mono HB0.out.size)
  have hb5 : Below w.heap.size w w2 := below_res (hb2.mono (by simp))
  obtain ⟨hc2, hf2⟩ := bcell hb2
  obtain ⟨hc3, hf3⟩ := bcell hb3
  have HB2 := hide hb2
  have hsz2 : w1.heap.size + 1 ≤ w2.heap.size := by have := hb3.size; simp at this; omega
  have HB5 := hide hb5
  clear hb2 hb3 hb5
  go_wp2_with fail
  refine (HN.out _).mono ?_
  rintro e w4 ⟨rfl, hb4⟩
  have k10 : w4.cell? ⟨w.heap.size, 0, none⟩ = some (.bool false) := by rw [hb4.cell (p := ⟨w.heap.size, 0, none⟩) (by simp; omega)]; simp [go_sem, hc2]
  have k20 : w4.cell? ⟨w1.heap.size, 0, none⟩ = some (.bool true) := by rw [hb4.cell (p := ⟨w1.heap.size, 0, none⟩) (by simp; omega)]; simp [go_sem, hc3]
  have f10 : w4.frozen? ⟨w.heap.size, 0, none⟩ = false := by rw [hb4.frozen (p := ⟨w.heap.size, 0, none⟩) (by simp; omega)]; simp [hf2]
  have f20 : w4.frozen? ⟨w1.heap.size, 0, none⟩ = false := by rw [hb4.frozen (p := ⟨w1.heap.size, 0, none⟩) (by simp; omega)]; simp [hf3]
  have k11 : w4.cell? ⟨w.heap.size, 1, none⟩ = some (.int .i64 0) := by rw [hb4.cell (p := ⟨w.heap.size, 1, none⟩) (by simp; omega)]; simp [go_sem, hc2]
  have k21 : w4.cell? ⟨w1.heap.size, 1, none⟩ = some (.int .i64 0) := by rw [hb4.cell (p := ⟨w1.heap.size, 1, none⟩) (by simp; omega)]; simp [go_sem, hc3]
  have f11 : w4.frozen? ⟨w.heap.size, 1, none⟩ = false := by rw [hb4.frozen (p := ⟨w.heap.size, 1, none⟩) (by simp; omega)]; simp [hf2]
  have f21 : w4.frozen? ⟨w1.heap.size, 1, none⟩ = false := by rw [hb4.frozen (p := ⟨w1.heap.size, 1, none⟩) (by simp; omega)]; simp [hf3]
  have k12 : w4.cell? ⟨w.heap.size, 2, none⟩ = some (.int .u64 0) := by rw [hb4.cell (p := ⟨w.heap.size, 2, none⟩) (by simp; omega)]; simp [go_sem, hc2]
  have k22 : w4.cell? ⟨w1.heap.size, 2, none⟩ = some (.int .u64 9218868437227405312) := by rw [hb4.cell (p := ⟨w1.heap.size, 2, none⟩) (by simp; omega)]; simp [go_sem, hc3]
  have f12 : w4.frozen? ⟨w.heap.size, 2, none⟩ = false := by rw [hb4.frozen (p := ⟨w.heap.size, 2, none⟩) (by simp; omega)]; simp [hf2]
  have f22 : w4.frozen? ⟨w1.heap.size, 2, none⟩ = false := by rw [hb4.frozen (p := ⟨w1.heap.size, 2, none⟩) (by simp; omega)]; simp [hf3]
  have hb6 := (Below.setCell (Below.setCell (Below.setCell HB5.out (show w.heap.size ≤ w1.heap.size by omega) (.bool true) (p := ⟨w1.heap.size, 0, none⟩)) (show w.heap.size ≤ w1.heap.size by omega) (.int .i64 0) (p := ⟨w1.heap.size, 1, none⟩)) (show w.heap.size ≤ w1.heap.size by omega) (.int .u64 9218868437227405312) (p := ⟨w1.heap.size, 2, none⟩)).trans (hb4.mono (by simp; omega))
  have HB6 := hide hb6
  clear hb4 hb6
  clear hc2 hf2 hc3 hf3
  go_wp2
  refine bodyPost_ret (v := opV (some (.agg #[.bool true, .int .i64 0, .int .u64 18442240474082181120]))) ?_ rfl ⟨rfl, ?_⟩
  · simp [results, Tryz.results36, go_sem, opV, k10, k11, k12]
  · refine Below.setCell (Below.setCell (Below.setCell (Below.setCell (Below.setCell (Below.setCell HB6.out ?_ _) ?_ _) ?_ _) ?_ _) ?_ _) ?_ _
    all_goals (simp; try omega)

end Go.Proofs.YtamdnnkdnhkghaaGreatDoor

namespace Go.Proofs.YtamdnnkdnhkghaaGreatDoor
open Go Go.RowKit
set_option linter.unusedVariables false

theorem order_selfS {s : Bool} {r : Nat} (h : r ≤ infW) : FloatKind.f64.format.order (wordS s r) (wordS s r) = some .eq := by
  show Ieee.double.order _ _ = _
  unfold Ieee.Format.order
  by_cases hr : r < infW
  · rw [read_finS hr, order_eq (a := 0) (c := 0) (by omega)]
  · have : r = infW := by omega
    rw [this, read_infS]
    cases s <;> rfl

set_option maxHeartbeats 800000 in
set_option maxRecDepth 100000 in
theorem floatNumber_w (W : Nat) (w : World) (ho : FloatKind.f64.format.order W W = some Ordering.eq) : Calls Tryz.prog 68 #[.float .f64 W] w fun e w' => e = .returned (.agg #[.bool true, .int .i64 0, .int .u64 W]) ∧ Below w.heap.size w w' := by
  have hfb := run_f64bits
  go_enter Tryz.func68, Tryz.ntmps68
  go_wp2
  exact bodyPost_ret (v := .agg #[.bool true, .int .i64 0, .int .u64 W]) (by simp [results, Tryz.results68, go_sem]) rfl ⟨rfl, (Below.refl _ _).alloc (Nat.le_refl _) _⟩

set_option maxHeartbeats 800000 in
set_option maxRecDepth 100000 in
theorem floatNumber_nan (W : Nat) (w : World) (ho : FloatKind.f64.format.order W W = none) : Calls Tryz.prog 68 #[.float .f64 W] w fun e w' => e = .returned (fltV 9221120237041090560) ∧ Below w.heap.size w w' := by
  go_enter Tryz.func68, Tryz.ntmps68
  go_wp2
  exact bodyPost_ret (v := fltV 9221120237041090560) (by simp [results, Tryz.results68, go_sem]) rfl ⟨rfl, (Below.refl _ _).alloc (Nat.le_refl _) _⟩

theorem neg_top {x : Nat} (h : x < 9223372036854775808) : Op.negFloat .f64 x = 9223372036854775808 + x := xor_top h

set_option maxHeartbeats 800000 in
set_option maxRecDepth 100000 in
theorem negate_int (i : Int) (w : World) (h0 : -9223372036854775808 ≤ i) (h1 : i ≤ 9223372036854775807) : Calls Tryz.prog 120 #[intV i] w fun e w' => e = .returned (intV (wrap64 (-i))) ∧ Below w.heap.size w w' := by
  go_enter Tryz.func120, Tryz.ntmps120
  go_wp2_with fail
  refine (implInt_any _ _).mono ?_
  rintro e w1 ⟨rfl, hb1⟩
  obtain ⟨hc, hf⟩ := bcell hb1
  have HB1 := hide hb1
  clear hb1
  go_wp2
  refine bodyPost_ret (v := intV (wrap64 (-i))) ?_ rfl ⟨rfl, ?_⟩
  · simp [results, Tryz.results120, go_sem, hc]
  · refine Below.setCell (Below.setCell (Below.setCell (below_two HB1.out) ?_ _) ?_ _) ?_ _
    all_goals simp

theorem run_neg (x y : Nat) (h : Op.negFloat .f64 x = y) (w : World) : (Op.unary .neg (.float .f64 x)).run Tryz.prog w = .ok (.float .f64 y) w := by
  unfold Op.unary
  simp only [h]
  rfl

set_option maxHeartbeats 800000 in
set_option maxRecDepth 100000 in
theorem negate_flt (x y : Nat) (w : World) (hx : x < infW) (hy : y = 9223372036854775808 + x) : Calls Tryz.prog 120 #[fltV x] w fun e w' => e = .returned (fltV y) ∧ Below w.heap.size w w' := by
  have hneg : Op.negFloat .f64 x = y := by rw [hy]; exact neg_top (by unfold infW at hx; omega)
  have ho : FloatKind.f64.format.order y y = some Ordering.eq := by rw [hy]; exact order_selfS (s := true) (Nat.le_of_lt hx)
  have HN := hide (fun w => floatNumber_w y w ho)
  have HF := hide (fun w => floatOf_flt x w)
  have hng := fun w => run_neg x y hneg w
  clear ho hx hy
  unfold fltV
  go_enter Tryz.func120, Tryz.ntmps120
  go_wp2_with fail
  refine (HF.out _).mono ?_
  rintro e w1 ⟨rfl, hb1⟩
  go_wp2_with fail
  refine (HN.out _).mono ?_
  rintro e w2 ⟨rfl, hb2⟩
  have hb12 := hb1.trans (hb2.mono hb1.size)
  obtain ⟨hc, hf⟩ := bcell hb12
  have HB2 := hide hb12
  clear hb1 hb2 hb12
  go_wp2
  refine bodyPost_ret (v := .agg #[.bool true, .int .i64 0, .int .u64 y]) ?_ rfl ⟨rfl, ?_⟩
  · simp [results, Tryz.results120, go_sem, hc]
  · refine Below.setCell (Below.setCell (Below.setCell (below_two HB2.out) ?_ _) ?_ _) ?_ _
    all_goals simp

/-- 'ParseInt' of a minus and digits. -/
theorem parseInt_neg (t d : ByteArray) (ht : t.data.toList = 45 :: d.data.toList) (h0 : 0 < d.size) (h : allDig (bs d) = true) :
    (dval (bs d) ≤ 9223372036854775808 → Lib.parseIntB 64 t.data.toList = .ok (-(dval (bs d) : Int))) ∧ (¬ dval (bs d) ≤ 9223372036854775808 → Lib.parseIntB 64 t.data.toList = .range) := by
  have hd : ∀ c ∈ d.data.toList, 48 ≤ c.toNat ∧ c.toNat ≤ 57 := by
    intro c hc
    unfold allDig at h
    rw [List.all_eq_true] at h
    have := h ((c.toNat : Nat) : Int) (List.mem_map.2 ⟨c, hc, rfl⟩)
    unfold isDigI at this
    rw [decide_eq_true_eq] at this
    omega
  have hv := dval_dfold d hd
  have hne : d.data.toList ≠ [] := by
    intro e
    have : d.size = 0 := by show d.data.size = 0; rw [← Array.length_toList, e]; rfl
    omega
  have hu : Lib.parseUintB 64 d.data.toList = if dval (bs d) ≤ 18446744073709551615 then .ok (dval (bs d)) else .range := by
    unfold Lib.parseUintB
    rw [if_neg hne, hv]
    exact uintM_dig (M := 2 ^ 64 - 1) (by decide) _ 0 (Nat.zero_le _) hd
  have hp : Lib.parseIntB 64 t.data.toList = match Lib.parseUintB 64 d.data.toList with
      | .syntax => .syntax
      | .range => .range
      | .ok u => if 9223372036854775808 < u then .range else .ok (-(u : Int)) := by
    rw [ht]
    unfold Lib.parseIntB
    have e45 : (45 : UInt8).toNat = 45 := rfl
    simp only [e45, or_true, if_true, not_true, false_and, if_false, true_and]
    cases Lib.parseUintB 64 d.data.toList <;> rfl
  rw [hp, hu]
  constructor
  · intro hle
    rw [if_pos (by omega)]
    simp only
    rw [if_neg (by omega)]
  · intro hgt
    by_cases h2 : dval (bs d) ≤ 18446744073709551615
    · rw [if_pos h2]
      simp only
      rw [if_pos (by omega)]
    · rw [if_neg h2]

end Go.Proofs.YtamdnnkdnhkghaaGreatDoor
