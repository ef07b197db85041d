import Derived.Test.YtamdnnkdnhkghaaGreatDoorQ47
import Derived.Laws.IdiomStrings
import Derived.Test.YtamdnnkdnhkghaaGreatDoorQ43
import Derived.Lib.AppendIntMem
namespace Go.Proofs.YtamdnnkdnhkghaaGreatDoor
open Go Go.RowKit
set_option linter.unusedVariables false

theorem PNR.pos {s : ByteArray} {f : Bool} {i u : Int} (h : PNR s (resG f i u true)) : 0 < s.size := by
  refine Classical.byContradiction fun hn => ?_
  have hb : bs s = [] := List.length_eq_zero_iff.1 (by rw [bs_length]; omega)
  unfold PNR at h
  rw [if_neg (by omega), hb, if_neg (by decide)] at h
  unfold DecR at h
  rw [if_pos (.inl rfl)] at h
  have := (resG_inj (show resG f i u true = resG false 0 0 false from h)).2.2.2
  cases this

theorem negOut_else {s : ByteArray} {v : Value} (h : ¬ (allDig (bs s) = true ∧ dval (bs s) = 9223372036854775808)) : negOut s v = v := by unfold negOut; rw [if_neg h]

theorem signed_any {t : ByteArray} {o : Option Value} (h : OpS t o) (hs : t.size ≤ 1048576) : ∃ f i u ok, (o = if ok then some (numG f i u) else none) ∧
    ∀ w ev1 ev5, Ready w ev1 ev5 → Calls Tryz.prog 74 #[.string t] w fun e w' => e = .returned (resG f i u ok) ∧ Below w.heap.size w w' := by
  unfold OpS at h
  by_cases h4 : (bs t).getD 0 0 = 45
  · rw [if_pos h4] at h
    obtain ⟨f, i, u, ok, hp, rfl⟩ := h
    have hsz := tail_size t
    have hl := minus_list h4
    generalize hde : t.extract 1 t.size = d at *
    have hP : ∀ w ev1 ev5, Ready w ev1 ev5 → ∀ w', Below w.heap.size w w' → Calls Tryz.prog 13 #[.string (t.extract 1 t.size)] w' fun e w'' => e = .returned (resG f i u ok) ∧ Below w'.heap.size w' w'' := by
      rw [hde]
      exact fun w ev1 ev5 hR w' hb => impl_at hp w' (by omega) (hR.below hb)
    cases ok with
    | false => exact ⟨f, i, u, false, rfl, fun w ev1 ev5 hR => ps_no t f i u w h4 (hP w ev1 ev5 hR)⟩
    | true =>
      obtain ⟨hk, h100⟩ := hp.ok
      obtain ⟨f', i', u', hn, hN⟩ := negate_any hk
      have hA : ∀ w, Calls Tryz.prog 65 #[.string (t.extract 1 t.size)] w fun e w' => e = .returned (.bool (allDig (bs d))) ∧ w' = w := by
        rw [hde]
        exact fun w => areDigits_any d w (by omega)
      cases hb : allDig (bs d) with
      | false =>
        rw [hb] at hA
        refine ⟨f', i', u', true, ?_, fun w ev1 ev5 hR => ps_other t f f' i u i' u' w h4 (hP w ev1 ev5 hR) hA hN⟩
        rw [negOut_else (by rw [hb]; exact fun hh => Bool.noConfusion hh.1), hn]
      | true =>
        rw [hb] at hA
        have hdg := hp.digits hb
        have hpi := parseInt_neg t d hl hp.pos hb
        by_cases hv : dval (bs d) ≤ 9223372036854775808
        · have hok := hpi.1 hv
          refine ⟨false, -(dval (bs d) : Int), 0, true, ?_, fun w ev1 ev5 hR => ps_int t f i u _ w h4 (hP w ev1 ev5 hR) hA (fun w' => ?_) (by omega) (by omega)⟩
          · by_cases htop : dval (bs d) = 9223372036854775808
            · have e0 : negOut d (negN f i u) = intV (-9223372036854775808) := by unfold negOut; rw [if_pos]; exact ⟨hb, htop⟩
              rw [e0, htop]
              rfl
            · rw [negOut_else (fun hh => htop hh.2)]
              rw [if_pos (by omega)] at hdg
              unfold negN
              rw [hdg.1, hdg.2]
              have : wrap64 (-(dval (bs d) : Int)) = -(dval (bs d) : Int) := by unfold wrap64; omega
              rw [this]
              rfl
          · refine (Tryz.strconv_ParseInt_10_at64_ok t (by omega) _ hok w').mono ?_
            rintro e w2 ⟨rfl, hw2⟩
            refine ⟨rfl, ?_⟩
            rcases hw2 with rfl | ⟨t, rfl⟩
            · exact Below.refl _ _
            · exact below_bytes _ _
        · have hrg := hpi.2 hv
          refine ⟨f', i', u', true, ?_, fun w ev1 ev5 hR => ps_range t f f' i u i' u' (Lib.intSat 64 t.data.toList) w h4 (hP w ev1 ev5 hR) hA (fun w' hbw => ?_) hN⟩
          · rw [negOut_else (fun hh => hv (Nat.le_of_eq hh.2)), hn]
          · obtain ⟨G, o, P, po, C, co, ev, m, hE⟩ := (hR.below hbw).env
            refine (Tryz.strconv_ParseInt_10_at64_range t (by omega) hrg ev w' hE.er hE.er2).mono ?_
            rintro e w2 ⟨B, rfl, _, _, hb2⟩
            exact ⟨B, rfl, hb2⟩
  · rw [if_neg h4] at h
    obtain ⟨f, i, u, ok, hp, rfl⟩ := h
    exact ⟨f, i, u, ok, rfl, fun w ev1 ev5 hR => ps_plain t f i u ok w h4 (fun w' hb => impl_at hp w' (by omega) (hR.below hb))⟩

theorem nanF_any (w : World) : Calls Tryz.prog 72 #[] w fun e w' => e = .returned (.float .f64 9221120237041090561) ∧ w' = w := by
  have ht := run_frombitsM 9221120237041090561
  have e1 : ((9221120237041090561 : Nat) : Int) = 9221120237041090561 := rfl
  rw [e1] at ht
  go_enter Tryz.func72, Tryz.ntmps72
  go_wp2
  all_goals go_ret
  all_goals exact ⟨rfl, rfl⟩

theorem infF_any (w : World) : Calls Tryz.prog 73 #[.int .i64 1] w fun e w' => e = .returned (.float .f64 9218868437227405312) ∧ w' = w := by
  have ht := run_frombitsM 9218868437227405312
  have e1 : ((9218868437227405312 : Nat) : Int) = 9218868437227405312 := rfl
  rw [e1] at ht
  go_enter Tryz.func73, Tryz.ntmps73
  go_wp2
  all_goals go_ret
  all_goals exact ⟨rfl, rfl⟩

theorem minfF_any (w : World) : Calls Tryz.prog 73 #[.int .i64 (-1)] w fun e w' => e = .returned (.float .f64 18442240474082181120) ∧ w' = w := by
  have ht := run_frombitsM 18442240474082181120
  have e1 : ((18442240474082181120 : Nat) : Int) = 18442240474082181120 := rfl
  rw [e1] at ht
  go_enter Tryz.func73, Tryz.ntmps73
  go_wp2
  all_goals go_ret
  all_goals exact ⟨rfl, rfl⟩

/-- What 'readNumber' hands back. -/
def rdV (ev : Value) : Option Value → Value
  | some v => .tuple #[v, .nilIface]
  | none => .tuple #[numG false 0 0, ev]

set_option maxHeartbeats 1600000 in
set_option maxRecDepth 100000 in
theorem rd_nan (t : ByteArray) (ev : Value) (w : World) (h : (t.toList == [110, 97, 110]) = true) :
    Calls Tryz.prog 39 #[.string t] w fun e w' => e = .returned (rdV ev (some (fltV 9221120237041090560))) ∧ Below w.heap.size w w' := by
  have HN := hide (fun w => floatNumber_nan 9221120237041090561 w (by decide +kernel))
  go_enter Tryz.func39, Tryz.ntmps39
  go_wp2_with fail
  refine (nanF_any _).mono ?_
  rintro e w' ⟨rfl, rfl⟩
  go_wp2_with fail
  refine (HN.out _).mono ?_
  rintro e w1 ⟨rfl, hb1⟩
  obtain ⟨hc, hf⟩ := bcell hb1
  have HB1 := hide hb1
  clear hb1
  go_wp2
  refine bodyPost_ret (v := rdV ev (some (fltV 9221120237041090560))) ?_ rfl ⟨rfl, ?_⟩
  · simp [results, Tryz.results39, go_sem, hc, rdV]
  · refine Below.setCell (Below.setCell (Below.setCell (below_res (HB1.out.mono (by simp))) ?_ _) ?_ _) ?_ _
    all_goals simp

set_option maxHeartbeats 1600000 in
set_option maxRecDepth 100000 in
theorem rd_inf (t : ByteArray) (ev : Value) (w : World) (h0 : (t.toList == [110, 97, 110]) = false) (h : (t.toList == [105, 110, 102]) = true) :
    Calls Tryz.prog 39 #[.string t] w fun e w' => e = .returned (rdV ev (some (fltV infW))) ∧ Below w.heap.size w w' := by
  have HN := hide (fun w => floatNumber_w 9218868437227405312 w (by decide +kernel))
  unfold fltV infW
  go_enter Tryz.func39, Tryz.ntmps39
  go_wp2_with fail
  refine (infF_any _).mono ?_
  rintro e w' ⟨rfl, rfl⟩
  go_wp2_with fail
  refine (HN.out _).mono ?_
  rintro e w1 ⟨rfl, hb1⟩
  obtain ⟨hc, hf⟩ := bcell hb1
  have HB1 := hide hb1
  clear hb1
  go_wp2
  refine bodyPost_ret (v := rdV ev (some (.agg #[.bool true, .int .i64 0, .int .u64 9218868437227405312]))) ?_ rfl ⟨rfl, ?_⟩
  · simp [results, Tryz.results39, go_sem, hc, rdV]
  · refine Below.setCell (Below.setCell (Below.setCell (below_res (HB1.out.mono (by simp))) ?_ _) ?_ _) ?_ _
    all_goals simp

set_option maxHeartbeats 1600000 in
set_option maxRecDepth 100000 in
theorem rd_minf (t : ByteArray) (ev : Value) (w : World) (h0 : (t.toList == [110, 97, 110]) = false) (h1 : (t.toList == [105, 110, 102]) = false) (h : (t.toList == [45, 105, 110, 102]) = true) :
    Calls Tryz.prog 39 #[.string t] w fun e w' => e = .returned (rdV ev (some (fltV (9223372036854775808 + infW)))) ∧ Below w.heap.size w w' := by
  have HN := hide (fun w => floatNumber_w 18442240474082181120 w (by decide +kernel))
  unfold fltV infW
  have e1 : ((9223372036854775808 + 9218868437227405312 : Nat) : Int) = 18442240474082181120 := rfl
  rw [e1]
  go_enter Tryz.func39, Tryz.ntmps39
  go_wp2_with fail
  refine (minfF_any _).mono ?_
  rintro e w' ⟨rfl, rfl⟩
  go_wp2_with fail
  refine (HN.out _).mono ?_
  rintro e w1 ⟨rfl, hb1⟩
  obtain ⟨hc, hf⟩ := bcell hb1
  have HB1 := hide hb1
  clear hb1
  go_wp2
  refine bodyPost_ret (v := rdV ev (some (.agg #[.bool true, .int .i64 0, .int .u64 18442240474082181120]))) ?_ rfl ⟨rfl, ?_⟩
  · simp [results, Tryz.results39, go_sem, hc, rdV]
  · refine Below.setCell (Below.setCell (Below.setCell (below_res (HB1.out.mono (by simp))) ?_ _) ?_ _) ?_ _
    all_goals simp

set_option maxHeartbeats 1600000 in
set_option maxRecDepth 100000 in
theorem rd_plain (t : ByteArray) (f : Bool) (i u : Int) (ok : Bool) (ev : Value) (w : World) (h0 : (t.toList == [110, 97, 110]) = false) (h1 : (t.toList == [105, 110, 102]) = false) (h2 : (t.toList == [45, 105, 110, 102]) = false)
    (hsz : 1 < w.heap.size) (hev : w.cell? ⟨1, 0, none⟩ = some ev)
    (hP : ∀ w', Below w.heap.size w w' → Calls Tryz.prog 74 #[.string t] w' fun e w'' => e = .returned (resG f i u ok) ∧ Below w'.heap.size w' w'') :
    Calls Tryz.prog 39 #[.string t] w fun e w' => e = .returned (rdV ev (if ok then some (numG f i u) else none)) ∧ Below w.heap.size w w' := by
  have HP := hide hP
  have Hev := hide hev
  clear hP hev
  unfold resG numG at *
  go_enter Tryz.func39, Tryz.ntmps39
  go_wp2_with fail
  refine (HP.out _ ((Below.refl _ _).alloc (Nat.le_refl _) _)).mono ?_
  rintro e w1 ⟨rfl, hb1⟩
  have hb2 := hb1.alloc hb1.size (.cells #[.bool f, .int .i64 i, .int .u64 u] 26)
  have hsz : w.heap.size + 1 ≤ w1.heap.size := by have := hb1.size; simp at this; omega
  have hz : w.heap.size ≠ w1.heap.size := by omega
  have hz2 : ¬ (w.heap.size = w1.heap.size) := hz
  have hz3 : ¬ (w1.heap.size = w.heap.size) := fun h => hz h.symm
  have hb7 : Below w.heap.size w (w1.alloc (.cells #[.bool f, .int .i64 i, .int .u64 u] 26)) := below_res (hb2.mono (by simp))
  have hg : (w1.alloc (.cells #[.bool f, .int .i64 i, .int .u64 u] 26)).cell? ⟨1, 0, none⟩ = some ev := (hb7.cell (p := ⟨1, 0, none⟩) (by assumption)).trans Hev.out
  have HB0 := hide hb2
  obtain ⟨hc2, hf2⟩ := bcell hb2
  clear hb1 hb2 hb7
  cases ok
  · go_wp2
    go_region
    go_wp2
    refine bodyPost_ret (v := rdV ev none) ?_ rfl ⟨rfl, ?_⟩
    · simp [results, Tryz.results39, go_sem, hc2, rdV]
    · refine Below.drew (Below.setCell (Below.setCell (Below.setCell (below_res (HB0.out.mono (by simp))) ?_ _) ?_ _) ?_ _)
      all_goals simp
  · go_wp2
    refine bodyPost_ret (v := rdV ev (some (.agg #[.bool f, .int .i64 i, .int .u64 u]))) ?_ rfl ⟨rfl, ?_⟩
    · simp [results, Tryz.results39, go_sem, hc2, rdV]
    · refine Below.setCell (Below.setCell (Below.setCell (below_res (HB0.out.mono (by simp))) ?_ _) ?_ _) ?_ _
      all_goals simp

theorem OpR.rest {t : ByteArray} {o : Option Value} (h1 : t.data.toList ≠ [110, 97, 110]) (h2 : t.data.toList ≠ [105, 110, 102]) (h3 : t.data.toList ≠ [45, 105, 110, 102]) (h : OpR t o) : OpS t o := by
  unfold OpR at h
  rw [if_neg h1, if_neg h2, if_neg h3] at h
  exact h

/-- What the program's reading of a text comes to. -/
theorem read_any {t : ByteArray} {o : Option Value} (h : OpR t o) (hs : t.size ≤ 1048576) (w : World) (ev1 ev5 : Value) (hR : Ready w ev1 ev5) :
    Calls Tryz.prog 39 #[.string t] w fun e w' => e = .returned (rdV ev1 o) ∧ Below w.heap.size w w' := by
  by_cases h1 : t.data.toList = [110, 97, 110]
  · have : o = some (fltV 9221120237041090560) := by unfold OpR at h; rw [if_pos h1] at h; exact h
    rw [this]
    exact rd_nan t ev1 w (by rw [toList_beq, decide_eq_true h1])
  · have n1 : (t.toList == [110, 97, 110]) = false := by rw [toList_beq, decide_eq_false h1]
    by_cases h2 : t.data.toList = [105, 110, 102]
    · have : o = some (fltV infW) := by unfold OpR at h; rw [if_neg h1, if_pos h2] at h; exact h
      rw [this]
      exact rd_inf t ev1 w n1 (by rw [toList_beq, decide_eq_true h2])
    · have n2 : (t.toList == [105, 110, 102]) = false := by rw [toList_beq, decide_eq_false h2]
      by_cases h3 : t.data.toList = [45, 105, 110, 102]
      · have : o = some (fltV (9223372036854775808 + infW)) := by unfold OpR at h; rw [if_neg h1, if_neg h2, if_pos h3] at h; exact h
        rw [this]
        exact rd_minf t ev1 w n1 n2 (by rw [toList_beq, decide_eq_true h3])
      · have n3 : (t.toList == [45, 105, 110, 102]) = false := by rw [toList_beq, decide_eq_false h3]
        obtain ⟨f, i, u, ok, ho, hP⟩ := signed_any (h.rest h1 h2 h3) hs
        rw [ho]
        exact rd_plain t f i u ok ev1 w n1 n2 n3 (by have := hR.size; omega) hR.e1 (fun w' hb => hP w' ev1 ev5 (hR.below hb))

end Go.Proofs.YtamdnnkdnhkghaaGreatDoor

namespace Go.Proofs.YtamdnnkdnhkghaaGreatDoor
open Go Go.RowKit
set_option linter.unusedVariables false

theorem byt_cells {w : World} {g : Nat} {l : List Int} (h5 : ∀ j, j < l.length → w.cell? ⟨g, j, none⟩ = some (.int .u8 (l.getD j 0))) (o : Obj) (hg : g < w.heap.size) :
    ∀ j u, (l.map (Value.int .u8))[j]? = some u → (w.alloc o).cell? ((⟨g, 0, none⟩ : Addr).add j) = some u := by
  intro j u hj
  rw [List.getElem?_map] at hj
  cases hx : l[j]? with
  | none => rw [hx] at hj; simp at hj
  | some x =>
    rw [hx] at hj
    simp at hj
    subst hj
    obtain ⟨hlt, hxx⟩ := List.getElem?_eq_some_iff.1 hx
    have := h5 j hlt
    rw [getD_lt hlt, hxx] at this
    rw [← this]
    have hb : Below w.heap.size w (w.alloc o) := (Below.refl _ _).alloc (Nat.le_refl _) o
    rw [← hb.cell (p := ⟨g, j, none⟩) hg]
    simp only [Addr.add]
    by_cases e : j = 0
    · subst e; simp
    · simp [e]

/-- 'append([]byte{c}, a...)'. -/
theorem app_head {wr : World} {ops : Array Oper} {rest : List Oper} {o : Oper} {a : Act} {Q : Exit → Act → World → Prop} (hgd : o.guard = none) (s x : Operand)
    (ho : o.op = .call { callee := .builtin .append, args := #[s, x], argTypes := #[29, 29] }) (v : Value) (c : Int) (L : List Int) (hbig : Byt wr v L) (hx : a.eval x = v) (hs : a.eval s = .slice (some ⟨wr.heap.size, 0, none⟩) 1 1)
    (hlen : L.length ≤ 10000000000)
    (h : ∀ v' w', Byt w' v' (c :: L) → Below wr.heap.size wr w' → wpList Tryz.prog ops Q rest (a.put o.dst v') w') :
    wpList Tryz.prog ops Q (o :: rest) a (wr.alloc (.cells #[.int .u8 c] 5)) := by
  obtain ⟨i0, hi, hz0, hz1, hz2⟩ := info_parts Tryz.info5
  obtain ⟨g, cap, rfl, h2, h3, h4, h5⟩ := hbig
  have hown := World.ownsRow_lit (base := wr.heap.size) (e := 5) (size := 1) wr #[.int .u8 c] 1 (Nat.le_refl _) (by simp [maxLen]) rfl
  refine wpList_append_own _ hgd s x 29 ho wr.heap.size 5 i0 (.int .u8 0) 1 1 Tryz.underlying29 hi hz0 hz1 hz2 rfl (by decide) _ 1 _ hs hown ⟨g, 0, none⟩ L.length cap (L.map (Value.int .u8)) hx (by simp) (byt_cells h5 _ h4)
    (ints_oneCell _ _) (by unfold maxLen; omega) (by omega) (by simp) ?_
  intro v' w' h1 h2 h3
  refine h v' w' (OwnB.byt (base := wr.heap.size) (L := c :: L) ⟨?_, (fun hh => by have := (h3.1 hh).1; cases this)⟩) (((Below.refl _ _).alloc (Nat.le_refl _) _).grown h2 (by simp) (fun q hq => by cases hq; exact Nat.le_refl _))
  have e : (c :: L).length = 1 + L.length := by simp; omega
  rw [e]; simpa using h1

/-- The digits of a number as bytes. -/
def decL (u : Nat) : List Int := (Lib.decDigits u).map fun b => ((b.toNat : Nat) : Int)

theorem byte_digit {k : Nat} (h : k < 10) : (((UInt8.ofNat (48 + k)).toNat : Nat) : Int) = 48 + k := by
  rw [UInt8.toNat_ofNat']
  omega

theorem decL_small {u : Nat} (h : u < 10) : decL u = [48 + ((u % 10 : Nat) : Int)] := by
  unfold decL
  rw [Lib.decDigits, dif_pos h]
  simp only [List.map_cons, List.map_nil]
  rw [byte_digit h, Nat.mod_eq_of_lt h]

theorem decL_step {u : Nat} (h : ¬ u < 10) : decL u = decL (u / 10) ++ [48 + ((u % 10 : Nat) : Int)] := by
  unfold decL
  rw [Lib.decDigits, dif_neg h, List.map_append]
  simp only [List.map_cons, List.map_nil]
  rw [byte_digit (show u % 10 < 10 by omega)]

/-- What stands ahead of the last digit. -/
def aheadL (u : Nat) : List Int := if u < 10 then [] else decL (u / 10)

theorem decL_pre (u : Nat) : decL u = aheadL u ++ [48 + ((u % 10 : Nat) : Int)] := by
  unfold aheadL
  split
  · rw [decL_small (by assumption)]; rfl
  · rw [decL_step (by assumption)]

theorem decL_len {u : Nat} {k : Nat} (h : u < 10 ^ k) (hk : 1 ≤ k) : (decL u).length ≤ k := by
  induction k generalizing u with
  | zero => omega
  | succ k ih =>
    by_cases hu : u < 10
    · rw [decL_small hu]; simp
    · by_cases hk0 : k = 0
      · subst hk0; simp at h; omega
      · rw [decL_step hu, List.length_append]
        have := ih (u := u / 10) (by rw [Nat.pow_succ] at h; omega) (by omega)
        simp
        exact this

theorem byt_string {w : World} {v : Value} {l : List UInt8} (h : Byt w v (l.map fun b => ((b.toNat : Nat) : Int))) : (convert 29 9 v).run Tryz.prog w = .ok (.string ⟨l.toArray⟩) w := by
  obtain ⟨g, cap, rfl, h2, h3, h4, h5⟩ := h
  rw [List.length_map] at h5 ⊢
  refine run_convert_bytes_back w 29 9 5 ⟨g, 0, none⟩ cap l Tryz.underlying29 Tryz.underlying5 Tryz.underlying9 (fun j hj => ?_)
  have e : (⟨g, 0, none⟩ : Addr).add j = ⟨g, j, none⟩ := by
    simp only [Addr.add]
    by_cases e : j = 0
    · subst e; simp
    · simp [e]
  rw [e, h5 j hj, getD_lt (by rw [List.length_map]; exact hj)]
  simp

theorem byt_one (w : World) (c : Int) : Byt (w.alloc (.cells #[.int .u8 c] 5)) (.slice (some ⟨w.heap.size, 0, none⟩) 1 1) [c] := by
  refine ⟨w.heap.size, 1, rfl, by simp, by simp [maxLen], by simp, fun j hj => ?_⟩
  have : j = 0 := by simpa using hj
  subst this
  simp

set_option maxHeartbeats 1600000 in
set_option maxRecDepth 100000 in
theorem dec_any (v : Int) (w : World) (h0 : -9223372036854775808 ≤ v) (h1 : v ≤ 9223372036854775807) :
    Calls Tryz.prog 38 #[.int .i64 v] w fun e w' => e = .returned (.string ⟨(Lib.itoa v).toArray⟩) ∧ Below w.heap.size w w' := by
  by_cases hn : v < 0
  · obtain ⟨U, hU⟩ : ∃ U : Nat, v = -(U : Int) := ⟨v.natAbs, by omega⟩
    subst hU
    have hu1 : U ≤ 9223372036854775808 := by omega
    have hu0 : 0 < U := by omega
    have HL := hide (decL_len (u := U) (k := 20) (by omega) (by omega))
    have HI : Hid ((Lib.itoa (-(U : Int))).map (fun b => ((b.toNat : Nat) : Int)) = 45 :: decL U) := hide (by
      unfold Lib.itoa
      rw [if_pos hn]
      have : (-(U : Int)).natAbs = U := by omega
      rw [this]
      rfl)
    generalize Lib.itoa (-(U : Int)) = out at *
    have hw : IntKind.u64.wrap (-IntKind.u64.wrap (-(U : Int))) = U := by rw [IntKind.wrap_u64, IntKind.wrap_u64]; omega
    go_enter Tryz.func38, Tryz.ntmps38
    go_wp2
    go_loopw [3, 4] (fun uv ov wr => ∃ (x : Nat) (L : List Int), uv = .int .u64 x ∧ x ≤ 9223372036854775808 ∧ Byt wr ov L ∧ Hid (decL U = aheadL x ++ L) ∧ Below w.heap.size w wr) (fun uv _ _ => (intOf uv).toNat)
    case atStart =>
      exact ⟨U, [48 + ((U % 10 : Nat) : Int)], rfl, hu1, byt_one w _, hide (decL_pre U), (Below.refl _ _).alloc (Nat.le_refl _) _⟩
    case round =>
      obtain ⟨x, L, rfl, hx, hbyt, He, hb⟩ := hrel
      have hlen : L.length ≤ 20 := by
        have := HL.out
        rw [He.out, List.length_append] at this
        omega
      by_cases hx10 : 10 ≤ x
      · have Hn : Hid (decL U = aheadL (x / 10) ++ ((48 + ((x / 10 % 10 : Nat) : Int)) :: L)) := hide (by
          rw [He.out]
          have : aheadL x = decL (x / 10) := by unfold aheadL; rw [if_neg (by omega)]
          rw [this, decL_pre, List.append_assoc]
          rfl)
        clear He
        go_wp2_with (first
          | (at_builtin; (refine app_head rfl _ _ rfl _ (48 + (x : Int) / 10 % 10) L hbyt rfl rfl (by omega) ?_; intro v' w1 hbyt' hb'))
          | go_in)
        go_wp2
        go_roundw
        case rel => exact ⟨x / 10, (48 + ((x / 10 % 10 : Nat) : Int)) :: L, by go_num, by omega, hbyt', Hn, hb.trans (hb'.mono hb.size)⟩
        case measure => simp [intOf]; omega
      · have Hn : Hid (decL U = L) := hide (by
          rw [He.out]
          have : aheadL x = [] := by unfold aheadL; rw [if_pos (by omega)]
          rw [this]
          rfl)
        clear He
        go_wp2_with (first
          | (at_builtin; (refine app_head rfl _ _ rfl _ 45 L hbyt rfl rfl (by omega) ?_; intro v' w1 hbyt' hb'))
          | go_in)
        rw [← Hn.out, ← HI.out] at hbyt'
        have hcv := byt_string hbyt'
        rw [hcv]
        go_wp2
        go_ret
        exact ⟨rfl, hb.trans (hb'.mono hb.size)⟩
  · obtain ⟨U, hU⟩ : ∃ U : Nat, v = (U : Int) := ⟨v.toNat, by omega⟩
    subst hU
    have hu1 : U ≤ 9223372036854775808 := by omega
    have HL := hide (decL_len (u := U) (k := 20) (by omega) (by omega))
    have HI : Hid ((Lib.itoa (U : Int)).map (fun b => ((b.toNat : Nat) : Int)) = decL U) := hide (by
      unfold Lib.itoa
      rw [if_neg hn]
      rfl)
    generalize Lib.itoa (U : Int) = out at *
    go_enter Tryz.func38, Tryz.ntmps38
    go_wp2
    go_loopw [3, 4] (fun uv ov wr => ∃ (x : Nat) (L : List Int), uv = .int .u64 x ∧ x ≤ 9223372036854775808 ∧ Byt wr ov L ∧ Hid (decL U = aheadL x ++ L) ∧ Below w.heap.size w wr) (fun uv _ _ => (intOf uv).toNat)
    case atStart =>
      exact ⟨U, [48 + ((U % 10 : Nat) : Int)], rfl, hu1, byt_one w _, hide (decL_pre U), (Below.refl _ _).alloc (Nat.le_refl _) _⟩
    case round =>
      obtain ⟨x, L, rfl, hx, hbyt, He, hb⟩ := hrel
      have hlen : L.length ≤ 20 := by
        have := HL.out
        rw [He.out, List.length_append] at this
        omega
      by_cases hx10 : 10 ≤ x
      · have Hn : Hid (decL U = aheadL (x / 10) ++ ((48 + ((x / 10 % 10 : Nat) : Int)) :: L)) := hide (by
          rw [He.out]
          have : aheadL x = decL (x / 10) := by unfold aheadL; rw [if_neg (by omega)]
          rw [this, decL_pre, List.append_assoc]
          rfl)
        clear He
        go_wp2_with (first
          | (at_builtin; (refine app_head rfl _ _ rfl _ (48 + (x : Int) / 10 % 10) L hbyt rfl rfl (by omega) ?_; intro v' w1 hbyt' hb'))
          | go_in)
        go_wp2
        go_roundw
        case rel => exact ⟨x / 10, (48 + ((x / 10 % 10 : Nat) : Int)) :: L, by go_num, by omega, hbyt', Hn, hb.trans (hb'.mono hb.size)⟩
        case measure => simp [intOf]; omega
      · have Hn : Hid (decL U = L) := hide (by
          rw [He.out]
          have : aheadL x = [] := by unfold aheadL; rw [if_pos (by omega)]
          rw [this]
          rfl)
        clear He
        have hbyt' := hbyt
        rw [← Hn.out, ← HI.out] at hbyt'
        have hcv := byt_string hbyt'
        go_wp2
        go_ret
        exact ⟨rfl, hb⟩

end Go.Proofs.YtamdnnkdnhkghaaGreatDoor

namespace Go.Proofs.YtamdnnkdnhkghaaGreatDoor
open Go Go.RowKit
set_option linter.unusedVariables false

abbrev senV (a : Addr) : Value := .iface 228 (.pointer (some a))

/-- Two errors of the program's own, apart. -/
structure Apart (w : World) (a b : Addr) : Prop where
  ne : a ≠ b
  ha : ∃ c t, w.heap[a.block]? = some (.cells c t (0, 0))
  hb : ∃ c t, w.heap[b.block]? = some (.cells c t (0, 0))

theorem heap_lt {w : World} {b : Nat} {o : Obj} (h : w.heap[b]? = some o) : b < w.heap.size := (Array.getElem?_eq_some_iff.1 h).1

theorem Apart.below {w w' : World} {a b : Addr} (h : Apart w a b) (hb : Below w.heap.size w w') : Apart w' a b := by
  obtain ⟨h1, ⟨c, t, h2⟩, ⟨c', t', h3⟩⟩ := h
  exact ⟨h1, ⟨c, t, by rw [hb.block _ (heap_lt h2)]; exact h2⟩, ⟨c', t', by rw [hb.block _ (heap_lt h3)]; exact h3⟩⟩

theorem Apart.is {w : World} {a b : Addr} (h : Apart w a b) : Calls Tryz.prog 75 #[senV a, senV b] w fun e w' => e = .returned (.bool false) ∧ w' = w := by
  obtain ⟨h1, ⟨c, t, h2⟩, ⟨c', t', h3⟩⟩ := h
  exact is_other a b c c' t t' w h1 h2 h3

/-- The five errors. -/
structure Sents (w : World) (a1 a2 a3 a4 a5 : Addr) : Prop where
  g1 : w.cell? ⟨1, 0, none⟩ = some (senV a1)
  g2 : w.cell? ⟨2, 0, none⟩ = some (senV a2)
  g3 : w.cell? ⟨3, 0, none⟩ = some (senV a3)
  g4 : w.cell? ⟨4, 0, none⟩ = some (senV a4)
  g5 : w.cell? ⟨5, 0, none⟩ = some (senV a5)
  d1 : Apart w a5 a1
  d2 : Apart w a5 a2
  d3 : Apart w a5 a3
  d4 : Apart w a5 a4

theorem Sents.below {w w' : World} {a1 a2 a3 a4 a5 : Addr} (h : Sents w a1 a2 a3 a4 a5) (hs : 5 < w.heap.size) (hb : Below w.heap.size w w') : Sents w' a1 a2 a3 a4 a5 :=
  ⟨(hb.cell (p := ⟨1, 0, none⟩) (show 1 < w.heap.size by omega)).trans h.g1, (hb.cell (p := ⟨2, 0, none⟩) (show 2 < w.heap.size by omega)).trans h.g2, (hb.cell (p := ⟨3, 0, none⟩) (show 3 < w.heap.size by omega)).trans h.g3,
   (hb.cell (p := ⟨4, 0, none⟩) (show 4 < w.heap.size by omega)).trans h.g4, (hb.cell (p := ⟨5, 0, none⟩) hs).trans h.g5, h.d1.below hb, h.d2.below hb, h.d3.below hb, h.d4.below hb⟩

set_option maxHeartbeats 1600000 in
set_option maxRecDepth 100000 in
theorem code_text (a1 : Addr) (w : World) (h : w.cell? ⟨1, 0, none⟩ = some (senV a1)) :
    Calls Tryz.prog 40 #[senV a1] w fun e w' => e = .returned (.int .i64 1) ∧ Below w.heap.size w w' := by
  have HS := hide (fun w => is_same a1 w)
  go_enter Tryz.func40, Tryz.ntmps40
  go_wp2_with fail
  refine (HS.out _).mono ?_
  rintro e w' ⟨rfl, rfl⟩
  go_wp2
  all_goals go_ret
  all_goals exact ⟨rfl, Below.refl _ _⟩

set_option maxHeartbeats 1600000 in
set_option maxRecDepth 100000 in
theorem code_whole (a1 a2 a3 a4 a5 : Addr) (w : World) (h : Sents w a1 a2 a3 a4 a5) :
    Calls Tryz.prog 40 #[senV a5] w fun e w' => e = .returned (.int .i64 5) ∧ Below w.heap.size w w' := by
  have HS := hide (is_same a5 w)
  have H1 := hide h.d1.is
  have H2 := hide h.d2.is
  have H3 := hide h.d3.is
  have H4 := hide h.d4.is
  have g1 := h.g1
  have g2 := h.g2
  have g3 := h.g3
  have g4 := h.g4
  have g5 := h.g5
  clear h
  go_enter Tryz.func40, Tryz.ntmps40
  go_wp2_with fail
  refine H1.out.mono ?_
  rintro e w' ⟨rfl, rfl⟩
  go_wp2_with fail
  refine H2.out.mono ?_
  rintro e w' ⟨rfl, rfl⟩
  go_wp2_with fail
  refine H3.out.mono ?_
  rintro e w' ⟨rfl, rfl⟩
  go_wp2_with fail
  refine H4.out.mono ?_
  rintro e w' ⟨rfl, rfl⟩
  go_wp2_with fail
  refine HS.out.mono ?_
  rintro e w' ⟨rfl, rfl⟩
  go_wp2
  all_goals go_ret
  all_goals exact ⟨rfl, Below.refl _ _⟩

/-- A number as an integer, on both sides. -/
theorem num_whole {v : Value} (h : IsNum v) : ∃ (f : Bool) (i u : Int) (z : Option Int), v = numG f i u ∧ (∀ k, z = some k → -9223372036854775808 ≤ k ∧ k ≤ 9223372036854775807) ∧
    (∀ w, Calls Tryz.prog 37 #[numG f i u] w fun e w' => e = .returned (asIntV z) ∧ Below w.heap.size w w') ∧
    (∀ w ev, 5 < w.heap.size → w.cell? ⟨5, 0, none⟩ = some ev → Calls Tryz.prog 41 #[numG f i u] w fun e w' => e = .returned (wholeV ev z) ∧ Below w.heap.size w w') := by
  rcases h with ⟨i, rfl, h0, h1⟩ | ⟨s, r, rfl, hr⟩
  · exact ⟨false, i, 0, some i, rfl, fun k hk => by cases hk; exact ⟨h0, h1⟩, fun w => asInt_int i w, fun w ev _ _ => wholeOf_int i ev w⟩
  · refine ⟨true, 0, (wordS s r : Nat), wholeZ s r, rfl, fun k hk => ?_, fun w => asInt_flt s r w hr, fun w ev h5 hev => wholeOf_flt s r ev w hr h5 hev⟩
    unfold wholeZ at hk
    split at hk
    · rename_i hc
      cases hk
      exact sg_range hc.1
    · cases hk

/-- What 'ToInteger' hands back. -/
def tiV : Option Int → Value
  | some i => .tuple #[.string ⟨(Lib.itoa i).toArray⟩, .int .i64 0]
  | none => .tuple #[.string ⟨#[]⟩, .int .i64 5]

abbrev tiText : Value := .tuple #[.string ⟨#[]⟩, .int .i64 1]

set_option maxHeartbeats 1600000 in
set_option maxRecDepth 100000 in
theorem sti_none (t : ByteArray) (w : World) (hO : ∀ w, Calls Tryz.prog 36 #[.string t] w fun e w' => e = .returned (opV none) ∧ Below w.heap.size w w') :
    Calls Tryz.prog 14 #[.string t] w fun e w' => e = .returned tiText ∧ Below w.heap.size w w' := by
  have HO := hide hO
  clear hO
  unfold opV numG at HO
  go_enter Tryz.func14, Tryz.ntmps14
  go_wp2_with fail
  refine (HO.out _).mono ?_
  rintro e w1 ⟨rfl, hb1⟩
  have hb2 := hb1.alloc hb1.size (.cells #[.bool false, .int .i64 0, .int .u64 0] 26)
  have HB2 := hide hb2
  clear hb1 hb2
  go_wp2
  all_goals go_ret2
  all_goals exact ⟨rfl, HB2.out⟩

set_option maxHeartbeats 1600000 in
set_option maxRecDepth 100000 in
theorem sti_some (t : ByteArray) (f : Bool) (i u : Int) (z : Option Int) (w : World) (hO : ∀ w, Calls Tryz.prog 36 #[.string t] w fun e w' => e = .returned (opV (some (numG f i u))) ∧ Below w.heap.size w w')
    (hA : ∀ w, Calls Tryz.prog 37 #[numG f i u] w fun e w' => e = .returned (asIntV z) ∧ Below w.heap.size w w') (hr : ∀ k, z = some k → -9223372036854775808 ≤ k ∧ k ≤ 9223372036854775807) :
    Calls Tryz.prog 14 #[.string t] w fun e w' => e = .returned (tiV z) ∧ Below w.heap.size w w' := by
  have HO := hide hO
  have HA := hide hA
  have HR := hide hr
  clear hO hA hr
  unfold opV numG at HO
  unfold numG asIntV at HA
  go_enter Tryz.func14, Tryz.ntmps14
  go_wp2_with fail
  refine (HO.out _).mono ?_
  rintro e w1 ⟨rfl, hb1⟩
  have hb2 := hb1.alloc hb1.size (.cells #[.bool f, .int .i64 i, .int .u64 u] 26)
  have HB2 := hide hb2
  clear hb1 hb2
  go_wp2_with fail
  refine (HA.out _).mono ?_
  rintro e w2 ⟨rfl, hb3⟩
  have hb4 := HB2.out.trans (hb3.mono HB2.out.size)
  have HB4 := hide hb4
  clear hb3 hb4
  cases z with
  | none =>
    go_wp2
    all_goals go_ret2
    all_goals exact ⟨rfl, HB4.out⟩
  | some k =>
    obtain ⟨k0, k1⟩ := HR.out k rfl
    go_wp2_with fail
    refine (dec_any k _ k0 k1).mono ?_
    rintro e w3 ⟨rfl, hb5⟩
    go_wp2
    all_goals go_ret2
    all_goals exact ⟨rfl, HB4.out.trans (hb5.mono HB4.out.size)⟩

end Go.Proofs.YtamdnnkdnhkghaaGreatDoor

namespace Go.Proofs.YtamdnnkdnhkghaaGreatDoor
open Go Go.RowKit
set_option linter.unusedVariables false

/-- All that the program's own side reads. -/
structure Full (w : World) (a1 a2 a3 a4 a5 : Addr) : Prop where
  env : ∃ G o P po C co ev m, Env w G o P po C co ev m
  sents : Sents w a1 a2 a3 a4 a5
  tab : Lib.TabIs Tryz.prog w "internal/strconv.uint64pow10" .u64 Lib.pow10Tab

theorem Full.ready {w : World} {a1 a2 a3 a4 a5 : Addr} (h : Full w a1 a2 a3 a4 a5) : Ready w (senV a1) (senV a5) := ⟨h.env, h.sents.g1, h.sents.g5⟩

theorem Full.below {w w' : World} {a1 a2 a3 a4 a5 : Addr} (h : Full w a1 a2 a3 a4 a5) (hb : Below w.heap.size w w') : Full w' a1 a2 a3 a4 a5 := by
  have hs := h.ready.size
  exact ⟨(h.ready.below hb).env, h.sents.below (by omega) hb, Lib.tabBelow_of_tabIs h.tab w' hb⟩

set_option maxHeartbeats 1600000 in
set_option maxRecDepth 100000 in
theorem iti_none (t : ByteArray) (a1 : Addr) (w : World) (hO : ∀ w', Below w.heap.size w w' → Calls Tryz.prog 39 #[.string t] w' fun e w'' => e = .returned (rdV (senV a1) none) ∧ Below w'.heap.size w' w'')
    (hC : ∀ w', Below w.heap.size w w' → Calls Tryz.prog 40 #[senV a1] w' fun e w'' => e = .returned (.int .i64 1) ∧ Below w'.heap.size w' w'') :
    Calls Tryz.prog 15 #[.string t] w fun e w' => e = .returned tiText ∧ Below w.heap.size w w' := by
  have HO := hide hO
  have HC := hide hC
  clear hO hC
  unfold rdV numG senV at HO
  unfold senV at HC
  go_enter Tryz.func15, Tryz.ntmps15
  go_wp2_with fail
  refine (HO.out _ (Below.refl _ _)).mono ?_
  rintro e w1 ⟨rfl, hb1⟩
  have hb2 := hb1.alloc hb1.size (.cells #[.bool false, .int .i64 0, .int .u64 0] 26)
  have HB2 := hide hb2
  clear hb1 hb2
  go_wp2_with fail
  refine (HC.out _ HB2.out).mono ?_
  rintro e w2 ⟨rfl, hb3⟩
  have hb4 := HB2.out.trans (hb3.mono HB2.out.size)
  have HB4 := hide hb4
  clear hb3 hb4
  go_wp2
  all_goals go_ret2
  all_goals exact ⟨rfl, HB4.out⟩

set_option maxHeartbeats 1600000 in
set_option maxRecDepth 100000 in
theorem iti_some (t : ByteArray) (f : Bool) (i u : Int) (z : Option Int) (ev1 : Value) (a5 : Addr) (w : World) (hO : ∀ w', Below w.heap.size w w' → Calls Tryz.prog 39 #[.string t] w' fun e w'' => e = .returned (rdV ev1 (some (numG f i u))) ∧ Below w'.heap.size w' w'')
    (hA : ∀ w', Below w.heap.size w w' → Calls Tryz.prog 41 #[numG f i u] w' fun e w'' => e = .returned (wholeV (senV a5) z) ∧ Below w'.heap.size w' w'')
    (hC : ∀ w', Below w.heap.size w w' → Calls Tryz.prog 40 #[senV a5] w' fun e w'' => e = .returned (.int .i64 5) ∧ Below w'.heap.size w' w'')
    (hI : ∀ k w', z = some k → Below w.heap.size w w' → Calls Tryz.prog 21 #[.int .i64 k] w' fun e w'' => e = .returned (.string ⟨(Lib.itoa k).toArray⟩) ∧ Below w'.heap.size w' w'') :
    Calls Tryz.prog 15 #[.string t] w fun e w' => e = .returned (tiV z) ∧ Below w.heap.size w w' := by
  have HO := hide hO
  have HA := hide hA
  have HC := hide hC
  have HI := hide hI
  clear hO hA hC hI
  unfold rdV numG at HO
  unfold numG wholeV senV at HA
  unfold senV at HC
  go_enter Tryz.func15, Tryz.ntmps15
  go_wp2_with fail
  refine (HO.out _ (Below.refl _ _)).mono ?_
  rintro e w1 ⟨rfl, hb1⟩
  have hb2 := hb1.alloc hb1.size (.cells #[.bool f, .int .i64 i, .int .u64 u] 26)
  have HB2 := hide hb2
  clear hb1 hb2
  go_wp2_with fail
  refine (HA.out _ HB2.out).mono ?_
  rintro e w2 ⟨rfl, hb3⟩
  have hb4 := HB2.out.trans (hb3.mono HB2.out.size)
  have HB4 := hide hb4
  clear hb3 hb4
  cases z with
  | none =>
    go_wp2_with fail
    refine (HC.out _ HB4.out).mono ?_
    rintro e w3 ⟨rfl, hb5⟩
    have hb6 := HB4.out.trans (hb5.mono HB4.out.size)
    have HB6 := hide hb6
    clear hb5 hb6
    go_wp2
    all_goals go_ret2
    all_goals exact ⟨rfl, HB6.out⟩
  | some k =>
    go_wp2_with fail
    refine (HI.out k _ rfl HB4.out).mono ?_
    rintro e w3 ⟨rfl, hb5⟩
    have hb6 := HB4.out.trans (hb5.mono HB4.out.size)
    have HB6 := hide hb6
    clear hb5 hb6
    go_wp2
    all_goals go_ret2
    all_goals exact ⟨rfl, HB6.out⟩

theorem itoa_any (k : Int) (h0 : -9223372036854775808 ≤ k) (h1 : k ≤ 9223372036854775807) (w : World) (ht : Lib.TabIs Tryz.prog w "internal/strconv.uint64pow10" .u64 Lib.pow10Tab) :
    Calls Tryz.prog 21 #[.int .i64 k] w fun e w' => e = .returned (.string ⟨(Lib.itoa k).toArray⟩) ∧ Below w.heap.size w w' := by
  refine (Tryz.strconv_Itoa k h0 h1 w ht).mono ?_
  rintro e w' ⟨rfl, n, os, rfl⟩
  exact ⟨rfl, Lib.below_grow _ _ (Nat.le_refl _) _ _⟩

/-- Both sides of 'ToInteger' at a text. -/
theorem ti_both (t : ByteArray) (hs : t.size ≤ 1048576) : ∃ (b : ByteArray) (c : Int), (∀ w, Calls Tryz.prog 14 #[.string t] w fun e w' => e = .returned (.tuple #[.string b, .int .i64 c]) ∧ Below w.heap.size w w') ∧
    ∀ w a1 a2 a3 a4 a5, Full w a1 a2 a3 a4 a5 → Calls Tryz.prog 15 #[.string t] w fun e w' => e = .returned (.tuple #[.string b, .int .i64 c]) ∧ Below w.heap.size w w' := by
  obtain ⟨o, hO, hS⟩ := operand_any t hs
  cases o with
  | none =>
    refine ⟨⟨#[]⟩, 1, fun w => sti_none t w hS, fun w a1 a2 a3 a4 a5 hF => iti_none t a1 w (fun w' hb => read_any hO hs w' _ _ (hF.below hb).ready) (fun w' hb => code_text a1 w' (hF.below hb).sents.g1)⟩
  | some v =>
    obtain ⟨f, i, u, z, rfl, hz, hA, hB⟩ := num_whole hO.num
    have hI := fun w a1 a2 a3 a4 a5 (hF : Full w a1 a2 a3 a4 a5) => iti_some t f i u z (senV a1) a5 w (fun w' hb => read_any hO hs w' _ _ (hF.below hb).ready)
      (fun w' hb => hB w' (senV a5) (by have := (hF.below hb).ready.size; omega) (hF.below hb).sents.g5) (fun w' hb => code_whole a1 a2 a3 a4 a5 w' (hF.below hb).sents)
      (fun k w' hk hb => itoa_any k (hz k hk).1 (hz k hk).2 w' (hF.below hb).tab)
    cases z with
    | none => exact ⟨_, _, fun w => sti_some t f i u none w hS hA hz, hI⟩
    | some k => exact ⟨_, _, fun w => sti_some t f i u (some k) w hS hA hz, hI⟩

set_option maxHeartbeats 1600000 in
set_option maxRecDepth 100000 in
theorem law_long (t : ByteArray) (w : World) (h : 1048576 < t.size) (hm : t.size ≤ 9223372036854775807) :
    Calls Tryz.prog 5 #[.string t] w fun e w' => e = .returned (.bool true) ∧ Below w.heap.size w w' := by
  go_enter Tryz.func5, Tryz.ntmps5
  go_wp2
  all_goals go_ret
  all_goals exact ⟨rfl, Below.refl _ _⟩

set_option maxHeartbeats 1600000 in
set_option maxRecDepth 100000 in
theorem law_short (t : ByteArray) (b : ByteArray) (c : Int) (w : World) (h : t.size ≤ 1048576)
    (h1 : Calls Tryz.prog 14 #[.string t] w fun e w' => e = .returned (.tuple #[.string b, .int .i64 c]) ∧ Below w.heap.size w w')
    (h2 : ∀ w', Below w.heap.size w w' → Calls Tryz.prog 15 #[.string t] w' fun e w'' => e = .returned (.tuple #[.string b, .int .i64 c]) ∧ Below w'.heap.size w' w'') :
    Calls Tryz.prog 5 #[.string t] w fun e w' => e = .returned (.bool true) ∧ Below w.heap.size w w' := by
  have H1 := hide h1
  have H2 := hide h2
  clear h1 h2
  have hq : (b.toList == b.toList) = true := beq_self_eq_true _
  go_enter Tryz.func5, Tryz.ntmps5
  go_wp2_with fail
  refine H1.out.mono ?_
  rintro e w1 ⟨rfl, hb1⟩
  have HB1 := hide hb1
  clear hb1
  go_wp2_with fail
  refine (H2.out _ HB1.out).mono ?_
  rintro e w2 ⟨rfl, hb2⟩
  have hb3 := HB1.out.trans (hb2.mono HB1.out.size)
  have HB3 := hide hb3
  clear hb2 hb3
  go_wp2
  all_goals go_ret
  all_goals exact ⟨rfl, HB3.out⟩

/-- The law at any text, in a world that holds the tables and the errors. -/
theorem law_any (t : ByteArray) (w : World) (a1 a2 a3 a4 a5 : Addr) (hF : Full w a1 a2 a3 a4 a5) (hm : t.size ≤ 9223372036854775807) :
    Calls Tryz.prog 5 #[.string t] w fun e w' => e = .returned (.bool true) ∧ Below w.heap.size w w' := by
  by_cases hl : t.size ≤ 1048576
  · obtain ⟨b, c, h1, h2⟩ := ti_both t hl
    exact law_short t b c w hl (h1 w) (fun w' hb => h2 w' a1 a2 a3 a4 a5 (hF.below hb))
  · exact law_long t w (by omega) hm

end Go.Proofs.YtamdnnkdnhkghaaGreatDoor
