import Derived.Test.YtmndipnifjpdjaaGreatDoorQ36
import Derived.Lib.IndexAny
import Derived.Lib.IndexMore
import Derived.Test.YtmndipnifjpdjaaGreatDoorQ31
import Derived.Lib.IndexBytes
namespace Go.Proofs.YtmndipnifjpdjaaGreatDoor
open Go Go.RowKit
set_option linter.unusedVariables false
theorem run_f64bits (W : Nat) (w : World) : (callFunc 115 #[.float .f64 W]).run Tryz.prog w = .ok (.value (.int .u64 W)) w := by
  rw [run_callFunc_extern (e := Extern.MathFloatBits.float64bits) Tryz.func115 (by kernel_rfl) (by kernel_rfl) (by kernel_rfl) (by kernel_rfl)]
  rfl
set_option maxHeartbeats 800000 in
set_option maxRecDepth 100000 in
theorem floatNumber_any (W : Nat) (w : World) (h : W < infW) : Calls Tryz.prog 224 #[.float .f64 W] w fun e w' => e = .returned (.agg #[.bool true, .int .i64 0, .int .u64 W]) ∧ Below w.heap.size w w' := by
  have ho : FloatKind.f64.format.order W W = some Ordering.eq := order_self h
  have hfb := run_f64bits
  clear h
  go_enter Tryz.func224, Tryz.ntmps224
  go_wp2
  exact bodyPost_ret (v := .agg #[.bool true, .int .i64 0, .int .u64 W]) (by simp [results, Tryz.results224, go_sem]) rfl ⟨rfl, (Below.refl _ _).alloc (Nat.le_refl _) _⟩
abbrev resW (w : World) : World := w.alloc (.cells #[.bool false, .int .i64 0, .int .u64 0] 67)
set_option maxHeartbeats 800000 in
set_option maxRecDepth 100000 in
theorem pd_no (s : ByteArray) (w : World) (hD : Calls Tryz.prog 221 #[.string s] (resW w) fun e w' => e = .returned (.bool false) ∧ Below (resW w).heap.size (resW w) w') :
    Calls Tryz.prog 182 #[.string s] w fun e w' => e = .returned zeroR ∧ Below w.heap.size w w' := by
  have H := hide hD
  clear hD
  go_enter Tryz.func182, Tryz.ntmps182
  go_wp2_with fail
  refine H.out.mono ?_
  rintro e w' ⟨rfl, hb⟩
  have hb' : Below (w.heap.size + 1) (resW w) w' := hb.mono (by simp)
  obtain ⟨c0, c1, c2, f0, f1, f2⟩ := resC hb'
  go_wp2
  refine bodyPost_ret (v := zeroR) ?_ rfl ⟨rfl, ?_⟩
  · simp [results, Tryz.results182, go_sem, c0, c1, c2, zeroR, numV]
  · refine Below.setCell (Below.setCell (Below.setCell (below_res hb') ?_ _) ?_ _) ?_ _
    all_goals simp
theorem below_bytes (w : World) (t : ByteArray) : Below w.heap.size w (Lib.bytesWorld w 5 t) :=
  ⟨rfl, rfl, rfl, by rw [Lib.bytesWorld_size]; omega, fun j hj => Lib.bytesWorld_at_old w 5 t j hj⟩
set_option maxHeartbeats 1600000 in
set_option maxRecDepth 100000 in
theorem pd_int (s : ByteArray) (w : World) (hs : s.size ≤ 100) (h0 : 0 < s.size) (hD : Calls Tryz.prog 221 #[.string s] (resW w) fun e w' => e = .returned (.bool true) ∧ Below (resW w).heap.size (resW w) w') (hA : allDig (bs s) = true) (hN : dval (bs s) < 9223372036854775808) :
    Calls Tryz.prog 182 #[.string s] w fun e w' => e = .returned (.tuple #[numV false (dval (bs s)) 0, .bool true]) ∧ Below w.heap.size w w' := by
  have hP := (parseInt_dig s h0 hA).1 hN
  have PI := fun (w' : World) => Tryz.strconv_ParseInt_10_at64_ok s (by omega) _ hP w'
  have HP := hide PI
  have AD := fun (w' : World) => areDigits_any s w' (by omega)
  rw [hA] at AD
  have HA := hide AD
  have H := hide hD
  have hN1 : (dval (bs s) : Int) < 9223372036854775808 := by omega
  generalize dval (bs s) = N at *
  clear hD hP PI AD hA
  go_enter Tryz.func182, Tryz.ntmps182
  go_wp2_with fail
  refine H.out.mono ?_
  rintro e w1 ⟨rfl, hb⟩
  have hb1 : Below (w.heap.size + 1) (resW w) w1 := hb.mono (by simp)
  have Hb1 := hide hb1
  clear hb hb1
  go_wp2_with fail
  refine (HA.out _).mono ?_
  rintro e w' ⟨rfl, rfl⟩
  go_wp2_with fail
  refine (HP.out _).mono ?_
  rintro e w2 ⟨rfl, hw2⟩
  have hb2 : Below w'.heap.size w' w2 := by
    rcases hw2 with rfl | ⟨t, rfl⟩
    · exact Below.refl _ _
    · exact below_bytes _ _
  have hb3 := Hb1.out.trans (hb2.mono (by have := Hb1.out.size; simp at this; omega))
  have Hb3 := hide hb3
  clear hw2 hb2 hb3
  go_wp2_with fail
  refine (implInt_any _ _).mono ?_
  rintro e w3 ⟨rfl, hb4⟩
  have hb' : Below (w.heap.size + 1) (resW w) w3 := Hb3.out.trans (hb4.mono (by have := Hb3.out.size; simp at this; omega))
  obtain ⟨c0, c1, c2, f0, f1, f2⟩ := resC hb'
  go_wp2
  refine bodyPost_ret (v := .tuple #[numV false N 0, .bool true]) ?_ rfl ⟨rfl, ?_⟩
  · simp [results, Tryz.results182, go_sem, c0, c1, c2, numV]
  · refine Below.setCell (Below.setCell (Below.setCell (below_res hb') ?_ _) ?_ _) ?_ _
    all_goals simp
set_option maxHeartbeats 1600000 in
set_option maxRecDepth 100000 in
theorem pd_flt (s : ByteArray) (N : Nat) (E : Int) (w : World) (hs : s.size ≤ 100) (h0 : 0 < s.size) (hD : Calls Tryz.prog 221 #[.string s] (resW w) fun e w' => e = .returned (.bool true) ∧ Below (resW w).heap.size (resW w) w') (hA : allDig (bs s) = false)
    (hS : ∀ w', Below w.heap.size w w' → Calls Tryz.prog 157 #[.string s, .int .i64 64] w' fun e w'' => SpfR N E w' e w'') :
    Calls Tryz.prog 182 #[.string s] w fun e w' => ∃ r, e = .returned r ∧ FloatR N E r ∧ Below w.heap.size w w' := by
  have AD := fun (w' : World) => areDigits_any s w' (by omega)
  rw [hA] at AD
  have HA := hide AD
  have H := hide hD
  have HS := hide hS
  clear hD hS AD hA
  go_enter Tryz.func182, Tryz.ntmps182
  go_wp2_with fail
  refine H.out.mono ?_
  rintro e w1 ⟨rfl, hb⟩
  have hb1 : Below (w.heap.size + 1) (resW w) w1 := hb.mono (by simp)
  have Hb1 := hide hb1
  clear hb hb1
  go_wp2_with fail
  refine (HA.out _).mono ?_
  rintro e w' ⟨rfl, rfl⟩
  have Hb3 := Hb1
  go_wp2_with fail
  refine (HS.out _ (below_res Hb3.out)).mono ?_
  rintro e w4 ⟨W, hd, hb4, hres⟩
  have hb5 : Below (w.heap.size + 1) (resW w) w4 := Hb3.out.trans (hb4.mono (by have := Hb3.out.size; simp at this; omega))
  have Hb5 := hide hb5
  have Hd := hide hd
  clear hd hb4 hb5
  rcases hres with ⟨hW, rfl⟩ | ⟨hW, B, rfl⟩
  · have hlt : W < infW := by have := isRnd_le Hd.out; omega
    have FN := fun (w' : World) => floatNumber_any W w' hlt
    have HF := hide FN
    have HW := hide hW
    clear hlt FN hW
    go_wp2_with fail
    refine (HF.out _).mono ?_
    rintro e w6 ⟨rfl, hb6⟩
    have hb' : Below (w.heap.size + 1) (resW w) w6 := Hb5.out.trans (hb6.mono (by have := Hb5.out.size; simp at this; omega))
    obtain ⟨c0, c1, c2, f0, f1, f2⟩ := resC hb'
    go_wp2
    refine bodyPost_ret (v := .tuple #[numV true 0 W, .bool true]) ?_ rfl ⟨_, rfl, ⟨W, Hd.out, by rw [if_neg HW.out]⟩, ?_⟩
    · simp [results, Tryz.results182, go_sem, c0, c1, c2, numV]
    · refine Below.setCell (Below.setCell (Below.setCell (below_res hb') ?_ _) ?_ _) ?_ _
      all_goals simp
  · have HW := hide hW
    clear hW
    have hb' : Below (w.heap.size + 1) (resW w) w4 := Hb5.out
    obtain ⟨c0, c1, c2, f0, f1, f2⟩ := resC hb'
    go_wp2
    refine bodyPost_ret (v := zeroR) ?_ rfl ⟨_, rfl, ⟨W, Hd.out, by rw [if_pos HW.out]⟩, ?_⟩
    · simp [results, Tryz.results182, go_sem, c0, c1, c2, zeroR, numV]
    · refine Below.setCell (Below.setCell (Below.setCell (below_res hb') ?_ _) ?_ _) ?_ _
      all_goals simp
set_option maxHeartbeats 1600000 in
set_option maxRecDepth 100000 in
theorem pd_big (s : ByteArray) (N : Nat) (E : Int) (w : World) (hs : s.size ≤ 100) (h0 : 0 < s.size) (hD : Calls Tryz.prog 221 #[.string s] (resW w) fun e w' => e = .returned (.bool true) ∧ Below (resW w).heap.size (resW w) w') (hA : allDig (bs s) = true) (hN : ¬ dval (bs s) < 9223372036854775808) (ev : Value) (h2 : 6 < w.heap.size) (hev : w.cell? ⟨6, 0, none⟩ = some ev) (hev2 : ev = .nilIface ∨ ∃ te pe, ev = .iface te pe)
    (hS : ∀ w', Below w.heap.size w w' → Calls Tryz.prog 157 #[.string s, .int .i64 64] w' fun e w'' => SpfR N E w' e w'') :
    Calls Tryz.prog 182 #[.string s] w fun e w' => ∃ r, e = .returned r ∧ FloatR N E r ∧ Below w.heap.size w w' := by
  have hP := (parseInt_dig s h0 hA).2 hN
  have PI := fun (w' : World) (hb : Below w.heap.size w w') => Tryz.strconv_ParseInt_10_at64_range s (by omega) hP ev w' ((hb.cell (show 6 < w.heap.size from h2)).trans hev) hev2
  have HP := hide PI
  have AD := fun (w' : World) => areDigits_any s w' (by omega)
  clear hP PI hev hev2 hN
  rw [hA] at AD
  have HA := hide AD
  have H := hide hD
  have HS := hide hS
  clear hD hS AD hA
  go_enter Tryz.func182, Tryz.ntmps182
  go_wp2_with fail
  refine H.out.mono ?_
  rintro e w1 ⟨rfl, hb⟩
  have hb1 : Below (w.heap.size + 1) (resW w) w1 := hb.mono (by simp)
  have Hb1 := hide hb1
  clear hb hb1
  go_wp2_with fail
  refine (HA.out _).mono ?_
  rintro e w' ⟨rfl, rfl⟩
  go_wp2_with fail
  refine (HP.out _ (below_res Hb1.out)).mono ?_
  rintro e w2 ⟨B0, rfl, h3, h4, hb2⟩
  have hb3 := Hb1.out.trans (hb2.mono (by have := Hb1.out.size; simp at this; omega))
  have Hb3 := hide hb3
  clear h3 h4 hb2 hb3
  go_wp2_with fail
  refine (HS.out _ (below_res Hb3.out)).mono ?_
  rintro e w4 ⟨W, hd, hb4, hres⟩
  have hb5 : Below (w.heap.size + 1) (resW w) w4 := Hb3.out.trans (hb4.mono (by have := Hb3.out.size; simp at this; omega))
  have Hb5 := hide hb5
  have Hd := hide hd
  clear hd hb4 hb5
  rcases hres with ⟨hW, rfl⟩ | ⟨hW, B, rfl⟩
  · have hlt : W < infW := by have := isRnd_le Hd.out; omega
    have FN := fun (w' : World) => floatNumber_any W w' hlt
    have HF := hide FN
    have HW := hide hW
    clear hlt FN hW
    go_wp2_with fail
    refine (HF.out _).mono ?_
    rintro e w6 ⟨rfl, hb6⟩
    have hb' : Below (w.heap.size + 1) (resW w) w6 := Hb5.out.trans (hb6.mono (by have := Hb5.out.size; simp at this; omega))
    obtain ⟨c0, c1, c2, f0, f1, f2⟩ := resC hb'
    go_wp2
    refine bodyPost_ret (v := .tuple #[numV true 0 W, .bool true]) ?_ rfl ⟨_, rfl, ⟨W, Hd.out, by rw [if_neg HW.out]⟩, ?_⟩
    · simp [results, Tryz.results182, go_sem, c0, c1, c2, numV]
    · refine Below.setCell (Below.setCell (Below.setCell (below_res hb') ?_ _) ?_ _) ?_ _
      all_goals simp
  · have HW := hide hW
    clear hW
    have hb' : Below (w.heap.size + 1) (resW w) w4 := Hb5.out
    obtain ⟨c0, c1, c2, f0, f1, f2⟩ := resC hb'
    go_wp2
    refine bodyPost_ret (v := zeroR) ?_ rfl ⟨_, rfl, ⟨W, Hd.out, by rw [if_pos HW.out]⟩, ?_⟩
    · simp [results, Tryz.results182, go_sem, c0, c1, c2, zeroR, numV]
    · refine Below.setCell (Below.setCell (Below.setCell (below_res hb') ?_ _) ?_ _) ?_ _
      all_goals simp
end Go.Proofs.YtmndipnifjpdjaaGreatDoor
namespace Go.Proofs.YtmndipnifjpdjaaGreatDoor
open Go Go.RowKit
set_option linter.unusedVariables false
def isE (c : Int) : Bool := c == 101 || c == 69
theorem dscan_parts (m : List Int) : (dscan m).1 = m.filter (fun c => decide (c ≠ 46)) ∧ (dscan m).2.2 = m.count 46 := by
  unfold dscan
  have key : ∀ (m : List Int) (st : List Int × Nat × Nat), (m.foldl dstep st).1 = st.1 ++ m.filter (fun c => decide (c ≠ 46)) ∧ (m.foldl dstep st).2.2 = st.2.2 + m.count 46 := by
    intro m
    induction m with
    | nil => intro st; simp
    | cons c m ih =>
      intro st
      obtain ⟨h1, h2⟩ := ih (dstep st c)
      rw [List.foldl_cons, h1, h2]
      by_cases e : c = 46
      · subst e
        simp [dstep]
        omega
      · simp [dstep, e]
  have := key m ([], 0, 0)
  simpa using this
def decM (m : List Int) : Bool := m.all isDP && decide ((dscan m).1 ≠ []) && decide ((dscan m).2.2 ≤ 1)
theorem all_dp {m : List Int} (h : ∀ c ∈ m, c ≠ 46) : m.all isDP = allDig m := by
  unfold allDig
  induction m with
  | nil => rfl
  | cons c m ih =>
    rw [List.all_cons, List.all_cons, ih (fun c' h' => h c' (List.mem_cons_of_mem _ h'))]
    have hc : isDP c = isDigI c := by unfold isDP; rw [bq (h c List.mem_cons_self), Bool.or_false]
    rw [hc]
theorem allDig_no {m : List Int} (h : (46 : Int) ∈ m) : allDig m = false := by
  cases hh : allDig m with
  | false => rfl
  | true =>
    unfold allDig at hh
    rw [List.all_eq_true] at hh
    have := hh 46 h
    unfold isDigI at this
    simp at this
theorem cut_none {a : List Int} (h : ∀ c ∈ a, c ≠ 46) : (allDig a && allDig ([] : List Int) && decide (a ++ [] ≠ [])) = decM a := by
  obtain ⟨h1, h2⟩ := dscan_parts a
  unfold decM
  rw [h1, h2, all_dp h, List.append_nil]
  have e1 : a.filter (fun c => decide (c ≠ 46)) = a := List.filter_eq_self.2 (fun c hc => by simp [h c hc])
  have e2 : a.count 46 = 0 := List.count_eq_zero.2 (fun hc => h 46 hc rfl)
  rw [e1, e2]
  simp [allDig]
theorem cut_some {a b : List Int} (h : ∀ c ∈ a, c ≠ 46) : (allDig a && allDig b && decide (a ++ b ≠ [])) = decM (a ++ 46 :: b) := by
  obtain ⟨h1, h2⟩ := dscan_parts (a ++ 46 :: b)
  unfold decM
  rw [h1, h2, List.all_append, all_dp h, List.all_cons]
  have e1 : a.filter (fun c => decide (c ≠ 46)) = a := List.filter_eq_self.2 (fun c hc => by simp [h c hc])
  have e2 : a.count 46 = 0 := List.count_eq_zero.2 (fun hc => h 46 hc rfl)
  rw [List.filter_append, e1, List.count_append, e2, List.count_cons_self]
  have e46 : isDP 46 = true := by decide
  by_cases hb : (46 : Int) ∈ b
  · rw [allDig_no hb]
    have : 0 < b.count 46 := List.count_pos_iff.2 hb
    rw [decide_eq_false (p := 0 + (b.count 46 + 1) ≤ 1) (by omega)]
    simp
  · have hb' : ∀ c ∈ b, c ≠ 46 := fun c hc e => hb (e ▸ hc)
    have e3 : b.filter (fun c => decide (c ≠ 46)) = b := List.filter_eq_self.2 (fun c hc => by simp [hb' c hc])
    have e4 : b.count 46 = 0 := List.count_eq_zero.2 hb
    rw [List.filter_cons, if_neg (by simp), e3, e4, all_dp hb', e46, decide_eq_true (p := 0 + (0 + 1) ≤ 1) (by omega)]
    simp
theorem mlen_all {l : List Int} (h : l.all isDP = true) : mlen l = l.length := by
  rw [List.all_eq_true] at h
  refine mlen_of (Nat.le_refl _) (fun j hj => ?_) (.inl rfl)
  rw [List.getD_eq_getElem?_getD, List.getElem?_eq_getElem hj]
  exact h _ (List.getElem_mem hj)
theorem mlen_stop {a b : List Int} {x : Int} (h : a.all isDP = true) (hx : isDP x = false) : mlen (a ++ x :: b) = a.length := by
  rw [List.all_eq_true] at h
  refine mlen_of (by simp) (fun j hj => ?_) (.inr ?_)
  · rw [List.getD_eq_getElem?_getD, List.getElem?_append_left hj, List.getElem?_eq_getElem hj]
    exact h _ (List.getElem_mem hj)
  · simp [List.getD_eq_getElem?_getD, hx]
theorem split_bad : ∀ {l : List Int}, l.all isDP = false → ∃ a x b, l = a ++ x :: b ∧ a.all isDP = true ∧ isDP x = false
  | [], h => by simp at h
  | c :: l, h => by
    by_cases hc : isDP c = true
    · rw [List.all_cons, hc, Bool.true_and] at h
      obtain ⟨a, x, b, e, h1, h2⟩ := split_bad h
      exact ⟨c :: a, x, b, by rw [e]; rfl, by rw [List.all_cons, hc, h1]; rfl, h2⟩
    · exact ⟨[], c, l, rfl, rfl, by simpa using hc⟩
theorem take_app {a b : List Int} : (a ++ b).take a.length = a := by simp
theorem drop_app {a b : List Int} : (a ++ b).drop a.length = b := by simp
theorem expV_noE {x : Int} {b : List Int} (h : isE x = false) : expV (x :: b) = none := by
  unfold expV
  unfold isE at h
  rw [Bool.or_eq_false_iff, beq_eq_false_iff_ne, beq_eq_false_iff_ne] at h
  rw [if_neg]
  intro hh
  have : (x :: b).getD 0 0 = x := rfl
  rw [this] at hh
  rcases hh with e | e
  · exact h.1 e
  · exact h.2 e
theorem expV_E {x : Int} {b : List Int} (h : isE x = true) : expV (x :: b) = expS b := by
  unfold expV
  unfold isE at h
  rw [Bool.or_eq_true, beq_iff_eq, beq_iff_eq] at h
  rw [if_pos (by have : (x :: b).getD 0 0 = x := rfl; rw [this]; exact h)]
  rfl
theorem isE_dp {x : Int} (h : isE x = true) : isDP x = false := by
  unfold isE at h
  rw [Bool.or_eq_true, beq_iff_eq, beq_iff_eq] at h
  rcases h with rfl | rfl <;> decide
theorem decR_bad {a b : List Int} {x : Int} (h1 : a.all isDP = true) (h2 : isDP x = false) (h3 : isE x = false) : DecR (a ++ x :: b) zeroR := by
  unfold DecR
  rw [mlen_stop h1 h2, take_app, drop_app]
  split
  · rfl
  · rw [if_neg (by simp), if_pos (by simp), expV_noE h3]
theorem decR_m {a b : List Int} (hm : mlen (a ++ b) = a.length) (h : (dscan a).1 = [] ∨ 1 < (dscan a).2.2) : DecR (a ++ b) zeroR := by
  unfold DecR
  rw [hm, take_app, if_pos h]
theorem decM_false {m : List Int} (h : decM m = false) (hd : m.all isDP = true) : (dscan m).1 = [] ∨ 1 < (dscan m).2.2 := by
  unfold decM at h
  rw [hd, Bool.true_and, Bool.and_eq_false_iff, decide_eq_false_iff_not, decide_eq_false_iff_not] at h
  rcases h with h | h
  · left; exact Classical.not_not.1 h
  · right; omega
theorem decM_true {m : List Int} (h : decM m = true) : m.all isDP = true ∧ (dscan m).1 ≠ [] ∧ (dscan m).2.2 ≤ 1 := by
  unfold decM at h
  rw [Bool.and_eq_true, Bool.and_eq_true, decide_eq_true_eq, decide_eq_true_eq] at h
  exact ⟨h.1.1, h.1.2, h.2⟩
theorem plain_no {l : List Int} (hE : ∀ c ∈ l, isE c = false) (h : decM l = false) : DecR l zeroR := by
  cases hd : l.all isDP with
  | true =>
    have := decR_m (a := l) (b := []) (by rw [List.append_nil]; exact mlen_all hd) (decM_false h hd)
    rwa [List.append_nil] at this
  | false =>
    obtain ⟨a, x, b, rfl, h1, h2⟩ := split_bad hd
    exact decR_bad h1 h2 (hE x (by simp))
theorem exp_no {m b : List Int} {x : Int} (hE : ∀ c ∈ m, isE c = false) (hx : isE x = true) (h : (decM m && (expS b).isSome) = false) : DecR (m ++ x :: b) zeroR := by
  cases hd : m.all isDP with
  | false =>
    obtain ⟨a, y, c, rfl, h1, h2⟩ := split_bad hd
    rw [List.append_assoc]
    exact decR_bad h1 h2 (hE y (by simp))
  | true =>
    have hm : mlen (m ++ x :: b) = m.length := mlen_stop hd (isE_dp hx)
    rw [Bool.and_eq_false_iff] at h
    rcases h with h | h
    · exact decR_m hm (decM_false h hd)
    · unfold DecR
      rw [hm, take_app, drop_app]
      split
      · rfl
      · rw [if_neg (by simp), if_pos (by simp), expV_E hx]
        cases he : expS b with
        | none => rfl
        | some y => rw [he] at h; cases h
theorem txt_of {s : ByteArray} {m r : List Int} {x : Int} (hs : s.size ≤ 100) (hl : bs s = m ++ r) (h : decM m = true) (hr : (r = [] ∧ x = 0) ∨ (r ≠ [] ∧ expV r = some x)) :
    Txt s m.length (dscan m).1 (dscan m).2.1 (dscan m).2.2 x := by
  obtain ⟨h1, h2, h3⟩ := decM_true h
  have hlen : s.size = m.length + r.length := by rw [← bs_length, hl, List.length_append]
  refine ⟨hs, by omega, fun j hj => ?_, by rw [hl, take_app], h3, h2, ?_⟩
  · rw [hl, List.getD_eq_getElem?_getD, List.getElem?_append_left hj, List.getElem?_eq_getElem hj]
    rw [List.all_eq_true] at h1
    exact h1 _ (List.getElem_mem hj)
  · rcases hr with ⟨e, hx⟩ | ⟨e, hx⟩
    · left; exact ⟨by rw [hlen, e]; rfl, hx⟩
    · right
      have : r.length ≠ 0 := fun hh => e (List.eq_nil_of_length_eq_zero hh)
      exact ⟨by omega, by rw [hl, drop_app]; exact hx⟩
theorem decR_yes {m r : List Int} {x : Int} {v : Value} (h : decM m = true) (hm : mlen (m ++ r) = m.length) (hr : (r = [] ∧ x = 0) ∨ (r ≠ [] ∧ expV r = some x))
    (hv : if r = [] ∧ (dscan m).2.2 = 0 ∧ dval (dscan m).1 < 9223372036854775808 then v = .tuple #[numV false (dval (dscan m).1) 0, .bool true] else FloatR (dval (dscan m).1) (x - (dscan m).2.1) v) : DecR (m ++ r) v := by
  obtain ⟨h1, h2, h3⟩ := decM_true h
  unfold DecR
  rw [hm, take_app, drop_app, if_neg (by rintro (e | e); exact h2 e; omega)]
  have hlen : (m ++ r).length = m.length + r.length := List.length_append
  by_cases c : r = []
  · subst c
    rcases hr with ⟨_, hx⟩ | ⟨e, _⟩
    · subst hx
      have e1 : m.length = (m ++ []).length := by simp
      split
      · rename_i hc
        rw [if_pos ⟨rfl, hc.2.1, hc.2.2⟩] at hv
        exact hv
      · rename_i hc
        rw [if_neg (fun hh => hc ⟨e1, hh.2.1, hh.2.2⟩)] at hv
        rw [if_neg (by omega)]
        exact hv
    · exact absurd rfl e
  · rw [if_neg (fun hh => c hh.1)] at hv
    have hne : r.length ≠ 0 := fun hh => c (List.eq_nil_of_length_eq_zero hh)
    rcases hr with ⟨e, _⟩ | ⟨_, hx⟩
    · exact absurd e c
    · rw [if_neg (by omega), if_pos (by omega), hx]
      exact hv
end Go.Proofs.YtmndipnifjpdjaaGreatDoor
namespace Go.Proofs.YtmndipnifjpdjaaGreatDoor
open Go Go.RowKit
set_option linter.unusedVariables false
def CutAt (t A B : ByteArray) (w : World) : Prop := Calls Tryz.prog 117 #[.string t, .string ⟨#[46]⟩] w fun e w' => (∃ f, e = .returned (.tuple #[.string A, .string B, .bool f])) ∧ ∃ n, w' = w.drewN n
theorem cat_empty (A B : ByteArray) : (!(A ++ B).toList.isEmpty) = decide (A.size + B.size ≠ 0) := by
  rw [isEmpty_size, ByteArray.size_append]
  by_cases h : A.size + B.size = 0
  · rw [h]; rfl
  · rw [decide_eq_true h, decide_eq_true (by omega)]
set_option maxHeartbeats 1600000 in
set_option maxRecDepth 100000 in
theorem idec_nff (s A B : ByteArray) (w : World) (hs : s.size ≤ 100) (hsA : A.size ≤ 100) (hsB : B.size ≤ 100) (hI : Calls Tryz.prog 236 #[.string s, .string ⟨#[101, 69]⟩] w fun e w' => e = .returned (.int .i64 (-1)) ∧ Below w.heap.size w w') (hC : ∀ w', Below w.heap.size w w' → CutAt s A B w') (hA : allDig (bs A) = false) :
    Calls Tryz.prog 221 #[.string s] w fun e w' => e = .returned (.bool (false)) ∧ Below w.heap.size w w' := by
  have HC := hide hC
  have A1 := fun (w' : World) => areDigits_any A w' (by omega)
  rw [hA] at A1
  have HA1 := hide A1
  have HI := hide hI
  clear hC A1 hI hA
  go_enter Tryz.func221, Tryz.ntmps221
  go_wp2_with fail
  refine HI.out.mono ?_
  rintro e w1 ⟨rfl, hb⟩
  have Hb := hide hb
  clear hb
  go_wp2_with fail
  refine (HC.out _ Hb.out).mono ?_
  rintro e w2 ⟨⟨f, rfl⟩, q, rfl⟩
  go_wp2_with fail
  refine (HA1.out _).mono ?_
  rintro e w3 ⟨rfl, rfl⟩
  go_wp2
  go_ret
  exact ⟨rfl, below_drewN Hb.out _⟩
set_option maxHeartbeats 1600000 in
set_option maxRecDepth 100000 in
theorem idec_ntf (s A B : ByteArray) (w : World) (hs : s.size ≤ 100) (hsA : A.size ≤ 100) (hsB : B.size ≤ 100) (hI : Calls Tryz.prog 236 #[.string s, .string ⟨#[101, 69]⟩] w fun e w' => e = .returned (.int .i64 (-1)) ∧ Below w.heap.size w w') (hC : ∀ w', Below w.heap.size w w' → CutAt s A B w') (hA : allDig (bs A) = true) (hB : allDig (bs B) = false) :
    Calls Tryz.prog 221 #[.string s] w fun e w' => e = .returned (.bool (false)) ∧ Below w.heap.size w w' := by
  have HC := hide hC
  have A1 := fun (w' : World) => areDigits_any A w' (by omega)
  rw [hA] at A1
  have HA1 := hide A1
  have A2 := fun (w' : World) => areDigits_any B w' (by omega)
  rw [hB] at A2
  have HA2 := hide A2
  have HI := hide hI
  clear hC A1 hI hA A2 hB
  go_enter Tryz.func221, Tryz.ntmps221
  go_wp2_with fail
  refine HI.out.mono ?_
  rintro e w1 ⟨rfl, hb⟩
  have Hb := hide hb
  clear hb
  go_wp2_with fail
  refine (HC.out _ Hb.out).mono ?_
  rintro e w2 ⟨⟨f, rfl⟩, q, rfl⟩
  go_wp2_with fail
  refine (HA1.out _).mono ?_
  rintro e w3 ⟨rfl, rfl⟩
  go_wp2_with fail
  refine (HA2.out _).mono ?_
  rintro e w3 ⟨rfl, rfl⟩
  go_wp2
  go_ret
  exact ⟨rfl, below_drewN Hb.out _⟩
set_option maxHeartbeats 1600000 in
set_option maxRecDepth 100000 in
theorem idec_ntt (s A B : ByteArray) (w : World) (hs : s.size ≤ 100) (hsA : A.size ≤ 100) (hsB : B.size ≤ 100) (hI : Calls Tryz.prog 236 #[.string s, .string ⟨#[101, 69]⟩] w fun e w' => e = .returned (.int .i64 (-1)) ∧ Below w.heap.size w w') (hC : ∀ w', Below w.heap.size w w' → CutAt s A B w') (hA : allDig (bs A) = true) (hB : allDig (bs B) = true) :
    Calls Tryz.prog 221 #[.string s] w fun e w' => e = .returned (.bool (decide (A.size + B.size ≠ 0))) ∧ Below w.heap.size w w' := by
  have HC := hide hC
  have A1 := fun (w' : World) => areDigits_any A w' (by omega)
  rw [hA] at A1
  have HA1 := hide A1
  have A2 := fun (w' : World) => areDigits_any B w' (by omega)
  rw [hB] at A2
  have HA2 := hide A2
  have HI := hide hI
  clear hC A1 hI hA A2 hB
  go_enter Tryz.func221, Tryz.ntmps221
  go_wp2_with fail
  refine HI.out.mono ?_
  rintro e w1 ⟨rfl, hb⟩
  have Hb := hide hb
  clear hb
  go_wp2_with fail
  refine (HC.out _ Hb.out).mono ?_
  rintro e w2 ⟨⟨f, rfl⟩, q, rfl⟩
  go_wp2_with fail
  refine (HA1.out _).mono ?_
  rintro e w3 ⟨rfl, rfl⟩
  go_wp2_with fail
  refine (HA2.out _).mono ?_
  rintro e w3 ⟨rfl, rfl⟩
  go_wp2
  go_ret
  refine ⟨?_, below_drewN Hb.out _⟩
  rw [← cat_empty]
  rfl
set_option maxHeartbeats 1600000 in
set_option maxRecDepth 100000 in
theorem idec_eff (s A B : ByteArray) (w : World) (hs : s.size ≤ 100) (hsA : A.size ≤ 100) (hsB : B.size ≤ 100) (j : Nat) (hj : j < s.size) (hI : Calls Tryz.prog 236 #[.string s, .string ⟨#[101, 69]⟩] w fun e w' => e = .returned (.int .i64 j) ∧ Below w.heap.size w w') (hX : (expS (bs (s.extract (j + 1) s.size))).isSome = true) (hC : ∀ w', Below w.heap.size w w' → CutAt (s.extract 0 j) A B w') (hA : allDig (bs A) = false) :
    Calls Tryz.prog 221 #[.string s] w fun e w' => e = .returned (.bool (false)) ∧ Below w.heap.size w w' := by
  have HC := hide hC
  have A1 := fun (w' : World) => areDigits_any A w' (by omega)
  rw [hA] at A1
  have HA1 := hide A1
  have X := fun (w' : World) => isExp_any (s.extract (j + 1) s.size) w' (by simp; omega)
  rw [hX] at X
  have HX := hide X
  have hjI : (j : Int) < (s.size : Int) := by omega
  have hjI1 : (j : Int) + 1 ≤ (s.size : Int) := by omega
  have hjn : ((j : Int) + 1).toNat = j + 1 := by omega
  clear X hX
  have HI := hide hI
  clear hC A1 hI hA
  go_enter Tryz.func221, Tryz.ntmps221
  go_wp2_with fail
  refine HI.out.mono ?_
  rintro e w1 ⟨rfl, hb⟩
  have Hb := hide hb
  clear hb
  go_wp2_with fail
  refine (HX.out _).mono ?_
  rintro e w1' ⟨rfl, rfl⟩
  go_wp2_with fail
  refine (HC.out _ Hb.out).mono ?_
  rintro e w2 ⟨⟨f, rfl⟩, q, rfl⟩
  go_wp2_with fail
  refine (HA1.out _).mono ?_
  rintro e w3 ⟨rfl, rfl⟩
  go_wp2
  go_ret
  exact ⟨rfl, below_drewN Hb.out _⟩
set_option maxHeartbeats 1600000 in
set_option maxRecDepth 100000 in
theorem idec_etf (s A B : ByteArray) (w : World) (hs : s.size ≤ 100) (hsA : A.size ≤ 100) (hsB : B.size ≤ 100) (j : Nat) (hj : j < s.size) (hI : Calls Tryz.prog 236 #[.string s, .string ⟨#[101, 69]⟩] w fun e w' => e = .returned (.int .i64 j) ∧ Below w.heap.size w w') (hX : (expS (bs (s.extract (j + 1) s.size))).isSome = true) (hC : ∀ w', Below w.heap.size w w' → CutAt (s.extract 0 j) A B w') (hA : allDig (bs A) = true) (hB : allDig (bs B) = false) :
    Calls Tryz.prog 221 #[.string s] w fun e w' => e = .returned (.bool (false)) ∧ Below w.heap.size w w' := by
  have HC := hide hC
  have A1 := fun (w' : World) => areDigits_any A w' (by omega)
  rw [hA] at A1
  have HA1 := hide A1
  have A2 := fun (w' : World) => areDigits_any B w' (by omega)
  rw [hB] at A2
  have HA2 := hide A2
  have X := fun (w' : World) => isExp_any (s.extract (j + 1) s.size) w' (by simp; omega)
  rw [hX] at X
  have HX := hide X
  have hjI : (j : Int) < (s.size : Int) := by omega
  have hjI1 : (j : Int) + 1 ≤ (s.size : Int) := by omega
  have hjn : ((j : Int) + 1).toNat = j + 1 := by omega
  clear X hX
  have HI := hide hI
  clear hC A1 hI hA A2 hB
  go_enter Tryz.func221, Tryz.ntmps221
  go_wp2_with fail
  refine HI.out.mono ?_
  rintro e w1 ⟨rfl, hb⟩
  have Hb := hide hb
  clear hb
  go_wp2_with fail
  refine (HX.out _).mono ?_
  rintro e w1' ⟨rfl, rfl⟩
  go_wp2_with fail
  refine (HC.out _ Hb.out).mono ?_
  rintro e w2 ⟨⟨f, rfl⟩, q, rfl⟩
  go_wp2_with fail
  refine (HA1.out _).mono ?_
  rintro e w3 ⟨rfl, rfl⟩
  go_wp2_with fail
  refine (HA2.out _).mono ?_
  rintro e w3 ⟨rfl, rfl⟩
  go_wp2
  go_ret
  exact ⟨rfl, below_drewN Hb.out _⟩
set_option maxHeartbeats 1600000 in
set_option maxRecDepth 100000 in
theorem idec_ett (s A B : ByteArray) (w : World) (hs : s.size ≤ 100) (hsA : A.size ≤ 100) (hsB : B.size ≤ 100) (j : Nat) (hj : j < s.size) (hI : Calls Tryz.prog 236 #[.string s, .string ⟨#[101, 69]⟩] w fun e w' => e = .returned (.int .i64 j) ∧ Below w.heap.size w w') (hX : (expS (bs (s.extract (j + 1) s.size))).isSome = true) (hC : ∀ w', Below w.heap.size w w' → CutAt (s.extract 0 j) A B w') (hA : allDig (bs A) = true) (hB : allDig (bs B) = true) :
    Calls Tryz.prog 221 #[.string s] w fun e w' => e = .returned (.bool (decide (A.size + B.size ≠ 0))) ∧ Below w.heap.size w w' := by
  have HC := hide hC
  have A1 := fun (w' : World) => areDigits_any A w' (by omega)
  rw [hA] at A1
  have HA1 := hide A1
  have A2 := fun (w' : World) => areDigits_any B w' (by omega)
  rw [hB] at A2
  have HA2 := hide A2
  have X := fun (w' : World) => isExp_any (s.extract (j + 1) s.size) w' (by simp; omega)
  rw [hX] at X
  have HX := hide X
  have hjI : (j : Int) < (s.size : Int) := by omega
  have hjI1 : (j : Int) + 1 ≤ (s.size : Int) := by omega
  have hjn : ((j : Int) + 1).toNat = j + 1 := by omega
  clear X hX
  have HI := hide hI
  clear hC A1 hI hA A2 hB
  go_enter Tryz.func221, Tryz.ntmps221
  go_wp2_with fail
  refine HI.out.mono ?_
  rintro e w1 ⟨rfl, hb⟩
  have Hb := hide hb
  clear hb
  go_wp2_with fail
  refine (HX.out _).mono ?_
  rintro e w1' ⟨rfl, rfl⟩
  go_wp2_with fail
  refine (HC.out _ Hb.out).mono ?_
  rintro e w2 ⟨⟨f, rfl⟩, q, rfl⟩
  go_wp2_with fail
  refine (HA1.out _).mono ?_
  rintro e w3 ⟨rfl, rfl⟩
  go_wp2_with fail
  refine (HA2.out _).mono ?_
  rintro e w3 ⟨rfl, rfl⟩
  go_wp2
  go_ret
  refine ⟨?_, below_drewN Hb.out _⟩
  rw [← cat_empty]
  rfl
set_option maxHeartbeats 1600000 in
set_option maxRecDepth 100000 in
theorem idec_x (s : ByteArray) (w : World) (hs : s.size ≤ 100) (j : Nat) (hj : j < s.size) (hI : Calls Tryz.prog 236 #[.string s, .string ⟨#[101, 69]⟩] w fun e w' => e = .returned (.int .i64 j) ∧ Below w.heap.size w w') (hX : (expS (bs (s.extract (j + 1) s.size))).isSome = false) :
    Calls Tryz.prog 221 #[.string s] w fun e w' => e = .returned (.bool false) ∧ Below w.heap.size w w' := by
  have X := fun (w' : World) => isExp_any (s.extract (j + 1) s.size) w' (by simp; omega)
  rw [hX] at X
  have HX := hide X
  have hjI : (j : Int) < (s.size : Int) := by omega
  have hjI1 : (j : Int) + 1 ≤ (s.size : Int) := by omega
  have hjn : ((j : Int) + 1).toNat = j + 1 := by omega
  clear X hX
  have HI := hide hI
  clear hI
  go_enter Tryz.func221, Tryz.ntmps221
  go_wp2_with fail
  refine HI.out.mono ?_
  rintro e w1 ⟨rfl, hb⟩
  have Hb := hide hb
  clear hb
  go_wp2_with fail
  refine (HX.out _).mono ?_
  rintro e w1' ⟨rfl, rfl⟩
  go_wp2
  go_ret
  exact ⟨rfl, Hb.out⟩
end Go.Proofs.YtmndipnifjpdjaaGreatDoor
namespace Go.Proofs.YtmndipnifjpdjaaGreatDoor
open Go Go.RowKit
set_option linter.unusedVariables false
def b2i (b : UInt8) : Int := ((b.toNat : Nat) : Int)
theorem isE_byte (b : UInt8) : isE (b2i b) = ([101, 69] : List UInt8).contains b := by
  unfold isE b2i
  by_cases h1 : b = 101
  · subst h1; decide
  · by_cases h2 : b = 69
    · subst h2; decide
    · have e1 : ((b.toNat : Nat) : Int) ≠ 101 := fun e => h1 (UInt8.toNat_inj.1 (by show b.toNat = 101; omega))
      have e2 : ((b.toNat : Nat) : Int) ≠ 69 := fun e => h2 (UInt8.toNat_inj.1 (by show b.toNat = 69; omega))
      rw [bq e1, bq e2]
      simp [h1, h2]
theorem ix_char : ∀ (l : List UInt8), (Lib.indexAny l [101, 69] = -1 ∧ ∀ c ∈ l, isE (b2i c) = false) ∨ ∃ a x b, l = a ++ x :: b ∧ Lib.indexAny l [101, 69] = a.length ∧ isE (b2i x) = true ∧ ∀ c ∈ a, isE (b2i c) = false
  | [] => .inl ⟨rfl, fun c h => by cases h⟩
  | c :: l => by
    by_cases hc : isE (b2i c) = true
    · right
      refine ⟨[], c, l, rfl, ?_, hc, fun c h => by cases h⟩
      rw [isE_byte] at hc
      rw [Lib.indexAny, if_pos hc]
      rfl
    · have hc' : isE (b2i c) = false := by simpa using hc
      have hc2 : ([101, 69] : List UInt8).contains c = false := by rw [← isE_byte]; exact hc'
      rcases ix_char l with ⟨h1, h2⟩ | ⟨a, x, b, h1, h2, h3, h4⟩
      · left
        refine ⟨by rw [Lib.indexAny, hc2, h1]; rfl, fun d hd => ?_⟩
        rcases List.mem_cons.1 hd with rfl | hd
        · exact hc'
        · exact h2 d hd
      · right
        refine ⟨c :: a, x, b, by rw [h1]; rfl, ?_, h3, fun d hd => ?_⟩
        · rw [Lib.indexAny, hc2, h2]
          have : ((a.length : Int) == -1) = false := bq (by omega)
          rw [this]
          simp
        · rcases List.mem_cons.1 hd with rfl | hd
          · exact hc'
          · exact h4 d hd
theorem ixb_char : ∀ (l : List UInt8), (Lib.indexByte l 46 = -1 ∧ ∀ c ∈ l, b2i c ≠ 46) ∨ ∃ a b, l = a ++ 46 :: b ∧ Lib.indexByte l 46 = a.length ∧ ∀ c ∈ a, b2i c ≠ 46
  | [] => .inl ⟨rfl, fun c h => by cases h⟩
  | c :: l => by
    by_cases hc : c = 46
    · subst hc
      exact .inr ⟨[], l, rfl, rfl, fun c h => by cases h⟩
    · have hc' : b2i c ≠ 46 := fun e => hc (UInt8.toNat_inj.1 (by unfold b2i at e; show c.toNat = 46; omega))
      have hb : (c == 46) = false := by simpa using hc
      rcases ixb_char l with ⟨h1, h2⟩ | ⟨a, b, h1, h2, h3⟩
      · left
        refine ⟨by rw [Lib.indexByte, hb, h1]; rfl, fun d hd => ?_⟩
        rcases List.mem_cons.1 hd with rfl | hd
        · exact hc'
        · exact h2 d hd
      · right
        refine ⟨c :: a, b, by rw [h1]; rfl, ?_, fun d hd => ?_⟩
        · rw [Lib.indexByte, hb, h2]
          have : ((a.length : Int) == -1) = false := bq (by omega)
          rw [this]
          simp
        · rcases List.mem_cons.1 hd with rfl | hd
          · exact hc'
          · exact h3 d hd
theorem cut_char (l : List UInt8) : (Lib.cut l [46] = (l, [], false) ∧ ∀ c ∈ l, b2i c ≠ 46) ∨ ∃ a b, l = a ++ 46 :: b ∧ Lib.cut l [46] = (a, b, true) ∧ ∀ c ∈ a, b2i c ≠ 46 := by
  unfold Lib.cut
  rw [Lib.index_one]
  rcases ixb_char l with ⟨h1, h2⟩ | ⟨a, b, h1, h2, h3⟩
  · left; rw [h1]; exact ⟨rfl, h2⟩
  · right
    refine ⟨a, b, h1, ?_, h3⟩
    rw [h2, if_pos (by omega), show ((a.length : Nat) : Int).toNat = a.length by omega, h1]
    simp
theorem bs_mk (l : List UInt8) : bs ⟨l.toArray⟩ = l.map b2i := rfl
theorem bs_eq (s : ByteArray) : bs s = s.data.toList.map b2i := rfl
theorem size_mk (l : List UInt8) : (⟨l.toArray⟩ : ByteArray).size = l.length := by show l.toArray.size = _; simp
theorem size_list (s : ByteArray) : s.size = s.data.toList.length := by show s.data.size = _; simp
theorem cut_at (t : ByteArray) (m : Int) (w : World) (ht : t.size ≤ 100) (hm : w.cell? ⟨3, 0, none⟩ = some (.int .i64 m)) :
    ∃ A B : ByteArray, A.size ≤ 100 ∧ B.size ≤ 100 ∧ (allDig (bs A) && allDig (bs B) && decide (A.size + B.size ≠ 0)) = decM (bs t) ∧ ∀ w', w'.cell? ⟨3, 0, none⟩ = some (.int .i64 m) → CutAt t A B w' := by
  have hC := fun (w' : World) (h : w'.cell? ⟨3, 0, none⟩ = some (.int .i64 m)) => Tryz.strings_Cut t ⟨#[46]⟩ m w' (by omega) h
  have ht' : t.data.toList.length ≤ 100 := by rw [← size_list]; exact ht
  rcases cut_char t.data.toList with ⟨h1, h2⟩ | ⟨a, b, h1, h2, h3⟩
  · refine ⟨⟨t.data.toList.toArray⟩, ⟨([] : List UInt8).toArray⟩, by rw [size_mk]; exact ht', by rw [size_mk]; simp, ?_, fun w' h => ?_⟩
    · rw [bs_mk, bs_mk, size_mk, size_mk]
      have := cut_none (a := t.data.toList.map b2i) (fun c hc => by obtain ⟨d, hd, rfl⟩ := List.mem_map.1 hc; exact h2 d hd)
      rw [← this]
      congr 1
      by_cases e : t.data.toList = []
      · rw [e]; decide
      · have e1 : t.data.toList.length ≠ 0 := fun hh => e (List.eq_nil_of_length_eq_zero hh)
        rw [decide_eq_true (by show _ + 0 ≠ 0; omega), decide_eq_true (by rw [List.append_nil]; intro hh; exact e (List.map_eq_nil_iff.1 hh))]
    · refine (hC w' h).mono ?_
      rintro e w'' ⟨rfl, n, rfl⟩
      refine ⟨⟨false, ?_⟩, n, rfl⟩
      rw [show (⟨#[46]⟩ : ByteArray).data.toList = [46] from rfl, h1]
  · have hl : a.length + (b.length + 1) ≤ 100 := by rw [h1, List.length_append, List.length_cons] at ht'; exact ht'
    refine ⟨⟨a.toArray⟩, ⟨b.toArray⟩, by rw [size_mk]; omega, by rw [size_mk]; omega, ?_, fun w' h => ?_⟩
    · rw [bs_mk, bs_mk, size_mk, size_mk, bs_eq, h1, List.map_append, List.map_cons]
      have := cut_some (a := a.map b2i) (b := b.map b2i) (fun c hc => by obtain ⟨d, hd, rfl⟩ := List.mem_map.1 hc; exact h3 d hd)
      rw [show b2i 46 = 46 from rfl, ← this]
      congr 1
      by_cases e : a.length + b.length = 0
      · have ea : a = [] := List.eq_nil_of_length_eq_zero (by omega)
        have eb : b = [] := List.eq_nil_of_length_eq_zero (by omega)
        rw [ea, eb]; decide
      · rw [decide_eq_true e, decide_eq_true]
        intro hh
        have := congrArg List.length hh
        rw [List.length_append, List.length_map, List.length_map] at this
        exact e this
    · refine (hC w' h).mono ?_
      rintro e w'' ⟨rfl, n, rfl⟩
      refine ⟨⟨true, ?_⟩, n, rfl⟩
      rw [show (⟨#[46]⟩ : ByteArray).data.toList = [46] from rfl, h2]
def isDec (l : List UInt8) : Bool :=
  if Lib.indexAny l [101, 69] = -1 then decM (l.map b2i)
  else (expS ((l.drop ((Lib.indexAny l [101, 69]).toNat + 1)).map b2i)).isSome && decM ((l.take (Lib.indexAny l [101, 69]).toNat).map b2i)
theorem idec_any (s : ByteArray) (m : Int) (w : World) (hs : s.size ≤ 100) (h3 : 3 < w.heap.size) (hm : w.cell? ⟨3, 0, none⟩ = some (.int .i64 m))
    (hI : Calls Tryz.prog 236 #[.string s, .string ⟨#[101, 69]⟩] w fun e w' => e = .returned (.int .i64 (Lib.indexAny s.data.toList [101, 69])) ∧ Below w.heap.size w w') :
    Calls Tryz.prog 221 #[.string s] w fun e w' => e = .returned (.bool (isDec s.data.toList)) ∧ Below w.heap.size w w' := by
  have hcell : ∀ w', Below w.heap.size w w' → w'.cell? ⟨3, 0, none⟩ = some (.int .i64 m) := fun w' hb => (hb.cell (show 3 < w.heap.size from h3)).trans hm
  rcases ix_char s.data.toList with ⟨h1, h2⟩ | ⟨a, x, b, h1, h2, h4, h5⟩
  · have hr : isDec s.data.toList = decM (bs s) := by unfold isDec; rw [if_pos h1]; rfl
    rw [h1] at hI
    rw [hr]
    obtain ⟨A, B, hA, hB, hR, hC⟩ := cut_at s m w hs hm
    rw [← hR]
    have hC' := fun w' hb => hC w' (hcell w' hb)
    cases ha : allDig (bs A) with
    | false => exact idec_nff s A B w hs hA hB hI hC' ha
    | true =>
      cases hb : allDig (bs B) with
      | false => exact idec_ntf s A B w hs hA hB hI hC' ha hb
      | true => exact idec_ntt s A B w hs hA hB hI hC' ha hb
  · have hj : a.length < s.size := by rw [size_list, h1, List.length_append, List.length_cons]; omega
    have ej : ((a.length : Nat) : Int).toNat = a.length := by omega
    have eX : bs (s.extract (a.length + 1) s.size) = (s.data.toList.drop (a.length + 1)).map b2i := by
      rw [bs_extract, bs_eq, List.map_drop, List.take_of_length_le]
      rw [List.length_drop, List.length_map, ← size_list]
      exact Nat.le_refl _
    have eM : bs (s.extract 0 a.length) = (s.data.toList.take a.length).map b2i := by
      rw [bs_extract, bs_eq, List.map_take, List.drop_zero, Nat.sub_zero]
    have hr : isDec s.data.toList = ((expS (bs (s.extract (a.length + 1) s.size))).isSome && decM (bs (s.extract 0 a.length))) := by
      unfold isDec
      rw [if_neg (by rw [h2]; omega), h2, ej, eX, eM]
    rw [h2] at hI
    rw [hr]
    cases hx : (expS (bs (s.extract (a.length + 1) s.size))).isSome with
    | false => exact idec_x s w hs a.length hj hI hx
    | true =>
      rw [Bool.true_and]
      obtain ⟨A, B, hA, hB, hR, hC⟩ := cut_at (s.extract 0 a.length) m w (by simp; omega) hm
      rw [← hR]
      have hC' := fun w' hb => hC w' (hcell w' hb)
      cases ha : allDig (bs A) with
      | false => exact idec_eff s A B w hs hA hB a.length hj hI hx hC' ha
      | true =>
        cases hb : allDig (bs B) with
        | false => exact idec_etf s A B w hs hA hB a.length hj hI hx hC' ha hb
        | true => exact idec_ett s A B w hs hA hB a.length hj hI hx hC' ha hb
end Go.Proofs.YtmndipnifjpdjaaGreatDoor
