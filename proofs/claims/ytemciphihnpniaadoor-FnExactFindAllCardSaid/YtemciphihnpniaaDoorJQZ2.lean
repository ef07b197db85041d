import Derived.Test.YtemciphihnpniaaDoorQY2
namespace Go.Proofs.YtemciphihnpniaaDoor
open Go Go.RowKit Go.Shelf
set_option linter.unusedVariables false

/-- %b: behind it two bytes. -/
def blM (p : ByteArray) (pos : Nat) : Option (It × Nat) := if pos + 1 < p.size then some (itPair (hb p pos) (hb p (pos + 1)), pos + 2) else none

set_option maxHeartbeats 1600000 in
set_option maxRecDepth 100000 in
theorem pbalanced_any (R : Nat) (p : ByteArray) (pos : Nat) (vi vo vc : Value) (w : World) (hps : p.size ≤ 1000) (h : PQ w R p pos vi vo vc) :
    Calls Tryd.prog 55 #[.pointer (some ⟨R, 0, none⟩)] w fun e w' => ItO w w' R p vi vo vc e (blM p pos) ∧ Keeps w w' (fun b => b = R) := by
  have hRl : R < w.heap.size := RowF.lt h.2
  have c : w.cell? ⟨R, 0, none⟩ = some (.string (p.extract pos p.size)) := RowF.cell h.2 (j := 0) (by omega)
  have hsz : (p.extract pos p.size).size = p.size - pos := ext_size
  generalize p.extract pos p.size = rs at c hsz
  have HS := hide hsz
  have H := hide h
  clear h hsz
  go_enter Tryd.func55, Tryd.ntmps55
  by_cases hs : pos + 1 < p.size
  · have h1 : ¬ (rs.size : Int) < 2 := by have := HS.out; omega
    have HV := hide (show blM p pos = some (itPair (hb p pos) (hb p (pos + 1)), pos + 2) from if_pos hs)
    go_wp2_with fail
    refine (takeByte_q R p pos vi vo vc w (by omega) hps H.out).mono ?_
    rintro e w1 ⟨rfl, hp1, hk1⟩
    have H1 := hide (And.intro hp1 hk1)
    clear hp1 hk1
    go_wp2_with fail
    refine (takeByte_q R p (pos + 1) vi vo vc w1 (by omega) hps H1.out.1).mono ?_
    rintro e w2 ⟨rfl, hp2, hk2⟩
    have H2 := hide (And.intro hp2 (H1.out.2.trans hk2))
    clear hp2 hk2
    go_wp2_with fail
    refine (mk_balanced _ _ w2).mono ?_
    rintro e w3 ⟨rfl, hw⟩
    have HW := hide hw
    clear hw
    go_wp2_with fail
    refine bodyPost_ret (v := .tuple #[.func (.func 79) #[] #[.pointer (some ⟨w2.heap.size, 0, none⟩), .pointer (some ⟨w2.heap.size + 1, 0, none⟩)], .bool true]) ?_ rfl ⟨?_, ?_⟩
    · simp [results, Tryd.results55, go_sem]
    · rw [HV.out]
      refine ⟨_, _, rfl, by rw [HW.out]; exact iv_pair w2 R _ _ (Nat.lt_of_lt_of_le hRl H2.out.2.size), fun b hb => ?_, ?_⟩
      · rw [HW.out]
        simp [ptrB] at hb
        have := H2.out.2.size
        simp
        omega
      · rw [HW.out]
        exact PQ.keep H2.out.1 (Keeps.of (b_2 w2 _ _) (Nat.le_refl _) (fun _ => False)) (fun x => x)
    · rw [HW.out]
      exact H2.out.2.trans (Keeps.of (b_2 w2 _ _) (Nat.le_refl _) _)
  · have h1 : (rs.size : Int) < 2 := by have := HS.out; omega
    go_wp2_with fail
    refine bodyPost_ret (v := .tuple #[.nilFunc, .bool false]) ?_ rfl ⟨?_, Keeps.refl _ _⟩
    · simp [results, Tryd.results55, go_sem]
    · rw [show blM p pos = none from if_neg hs]
      exact ⟨_, rfl⟩

set_option maxHeartbeats 800000 in
theorem within_any (x a b : Int) (w : World) : Calls Tryd.prog 19 #[.int .i64 x, .int .i64 a, .int .i64 b] w fun e w' => e = .returned (.bool (decide (a ≤ x) && decide (x ≤ b))) ∧ w' = w := by
  go_enter Tryd.func19, Tryd.ntmps19
  by_cases h1 : a ≤ x
  · by_cases h2 : x ≤ b
    · go_wp2
      exact bodyPost_ret (results_tmp rfl _ _ _) rfl ⟨by simp [h1, h2], rfl⟩
    · go_wp2
      exact bodyPost_ret (results_tmp rfl _ _ _) rfl ⟨by simp [h2], rfl⟩
  · go_wp2
    exact bodyPost_ret (results_tmp rfl _ _ _) rfl ⟨by rw [decide_eq_false (by omega)]; rfl, rfl⟩

end Go.Proofs.YtemciphihnpniaaDoor
namespace Go.Proofs.YtemciphihnpniaaDoor
open Go Go.RowKit Go.Shelf
set_option linter.unusedVariables false

/-- What is held, again. -/
def bkM (p : ByteArray) (pos : Nat) (done : List Bool) : Option (It × Nat) :=
  if hb p (pos + 1) = 48 ∨ done.getD (hb p (pos + 1) - 49).toNat false = false then none else some (itBack (hb p (pos + 1) - 49).toNat, pos + 2)
theorem own_cell {w : World} {B T g n : Nat} {v : Value} {xs : List Value} (h : w.ownsRow B T 1 v n xs) (hv : v.ownBlock = some g) {j : Nat} {u : Value} (hj : xs[j]? = some u) : w.cell? ⟨g, j, none⟩ = some u := by
  have h2 := h
  obtain ⟨h1, ⟨rfl, h3⟩ | ⟨g', cap, cur, rfl, hb, hg, hnc, hcm, hcs, htake⟩⟩ := h2
  · simp [Value.ownBlock] at hv
  · have e : g' = g := by simpa [Value.ownBlock] using hv
    subst e
    have := h.cells (g := g') rfl j u hj
    rwa [add_none', Nat.zero_add] at this
theorem own_val {w : World} {B T n : Nat} {v : Value} {xs : List Value} (h : w.ownsRow B T 1 v n xs) : (v = .slice none 0 0 ∧ n = 0) ∨ ∃ g cap, v = .slice (some ⟨g, 0, none⟩) n cap ∧ n ≤ cap := by
  obtain ⟨h1, ⟨rfl, h3⟩ | ⟨g', cap, cur, rfl, hb, hg, hnc, hcm, hcs, htake⟩⟩ := h
  · exact .inl ⟨rfl, h3⟩
  · exact .inr ⟨g', cap, rfl, hnc⟩

set_option maxHeartbeats 1600000 in
set_option maxRecDepth 100000 in
theorem pheld_any (R : Nat) (p : ByteArray) (pos : Nat) (us : List Iu) (opn : List Nat) (done : List Bool) (vi vo vc : Value) (w : World) (hps : p.size ≤ 1000) (hs : pos + 1 < p.size) (hd : isDg (hb p (pos + 1)) = true) (hdl : done.length ≤ 1000) (h : RI w R p pos us opn done vi vo vc) :
    Calls Tryd.prog 54 #[.pointer (some ⟨R, 0, none⟩)] w fun e w' => ItO w w' R p vi vo vc e (bkM p pos done) ∧ Keeps w w' (fun b => b = R) := by
  have hRl : R < w.heap.size := RowF.lt h.q.2
  have c : w.cell? ⟨R, 0, none⟩ = some (.string (p.extract pos p.size)) := RowF.cell h.q.2 (j := 0) (by omega)
  have z : w.frozen? ⟨R, 0, none⟩ = false := RowF.frz h.q.2 0
  have hsz : (p.extract pos p.size).size = p.size - pos := ext_size
  have hx1 : hb (p.extract pos p.size) 1 = hb p (pos + 1) := hb_ext
  have hee := ext_ext (p := p) (pos := pos) (k := 2) (by omega)
  obtain ⟨x, hx⟩ : ∃ x, hb p (pos + 1) = x := ⟨_, rfl⟩
  rw [hx] at hd hx1
  have hxr : 48 ≤ x ∧ x ≤ 57 := by simp [isDg] at hd; omega
  have hq1 : PQ (w.setCell ⟨R, 0, none⟩ (.string (p.extract (pos + 2) p.size))) R p (pos + 2) vi vo vc := ⟨by omega, h.q.2.setR _⟩
  have hk1 : Keeps w (w.setCell ⟨R, 0, none⟩ (.string (p.extract (pos + 2) p.size))) (fun b => b = R) := (Keeps.refl w (fun b => b = R)).setCell (g := R) (j := 0) rfl _
  generalize p.extract pos p.size = rs at c hsz hx1 hee
  have hi1 : ∀ w' : World, (Instr.index 9 (.string rs) (.int .i64 1)).run Tryd.prog w' = .ok (.int .u8 x) w' := fun w' => by
    have := idx_str rs (i := 1) w' (by omega) (by omega)
    rw [← hx1]
    simpa using this
  have hsl : ∀ w' : World, (Instr.slice 9 (.string rs) (some (.int .i64 2)) none none).run Tryd.prog w' = .ok (.string (p.extract (pos + 2) p.size)) w' := fun w' => by
    rw [run_slice_string_from_if w' 9 rs .i64 2 Tryd.underlying9, ← hee]
    rw [if_pos (by omega)]
    rfl
  have hm : x - 48 - 1 = x - 49 := by omega
  have H := hide h
  have H1 := hide (And.intro (h.keepR hk1 hq1) hk1)
  have HX := hide hx
  clear h hq1 hk1 hsz hx1 hee hd hx
  go_enter Tryd.func54, Tryd.ntmps54
  go_upto_region 3 with fail
  generalize w.setCell ⟨R, 0, none⟩ (.string (p.extract (pos + 2) p.size)) = w1 at H1 ⊢
  clear c z hi1 hsl
  have c3 : w1.cell? ⟨R, 3, none⟩ = some vc := RowF.cell H1.out.1.q.2 (j := 3) (by omega)
  rcases own_val H1.out.1.d with ⟨rfl, hn0⟩ | ⟨g, cap, rfl, hnc⟩
  · have hn : done.length = 0 := hn0
    have HV := hide (show bkM p pos done = none by
      unfold bkM
      rw [HX.out, if_pos]
      by_cases h48 : x = 48
      · exact .inl h48
      · right
        rw [List.getD_eq_getElem?_getD, List.getElem?_eq_none (by omega)]
        rfl)
    go_wp2_with fail
    refine (within_any (x - 49) 0 (-1) w1).mono ?_
    rintro e w2 ⟨rfl, hw⟩
    obtain rfl := hw.symm
    rw [show (decide (0 ≤ x - 49) && decide (x - 49 ≤ (-1))) = false by rw [Bool.and_eq_false_iff]; simp; omega]
    go_wp2_with fail
    refine bodyPost_ret (v := .tuple #[.nilFunc, .bool false]) ?_ rfl ⟨?_, H1.out.2⟩
    · simp [results, Tryd.results54, go_sem]
    · rw [HV.out]
      exact ⟨_, rfl⟩
  · by_cases hin : 49 ≤ x ∧ x - 49 < done.length
    · obtain ⟨k, hk⟩ : ∃ k : Nat, x - 49 = k := ⟨(x - 49).toNat, by omega⟩
      have hkl : k < done.length := by omega
      have hck : w1.cell? ⟨g, k, none⟩ = some (.bool done[k]) := own_cell H1.out.1.d rfl (by simp [boC, hkl])
      obtain ⟨b, hbe⟩ : ∃ b, done[k] = b := ⟨_, rfl⟩
      rw [hbe] at hck
      have HV := hide (show bkM p pos done = if b = true then some (itBack k, pos + 2) else none by
        unfold bkM
        rw [HX.out, hk, Int.toNat_natCast, List.getD_eq_getElem?_getD, List.getElem?_eq_getElem hkl, Option.getD_some, hbe]
        cases b with
        | false => rw [if_pos (.inr rfl)]; rfl
        | true => rw [if_neg (by intro y; rcases y with y | y; · omega
                                 · cases y)]; rfl)
      have hx49 : x - 49 ≤ (done.length : Int) - 1 := by omega
      have hx0 : 0 ≤ x - 49 := by omega
      have hkc : (k : Int) < (done.length : Int) := by omega
      clear hbe
      go_wp2_with fail
      refine (within_any (k : Int) 0 ((done.length : Int) - 1) w1).mono ?_
      rintro e w2 ⟨rfl, hw⟩
      obtain rfl := hw.symm
      rw [show (decide (0 ≤ (k : Int)) && decide ((k : Int) ≤ (done.length : Int) - 1)) = true by rw [decide_eq_true (by omega), decide_eq_true (by omega)]; rfl]
      cases b with
      | false =>
        go_wp2_with fail
        refine bodyPost_ret (v := .tuple #[.nilFunc, .bool false]) ?_ rfl ⟨?_, H1.out.2⟩
        · simp [results, Tryd.results54, go_sem]
        · rw [HV.out, if_neg (by simp)]
          exact ⟨_, rfl⟩
      | true =>
        go_wp2_with fail
        refine (mk_heldAgain (k : Int) w1).mono ?_
        rintro e w9 ⟨rfl, hw9⟩
        have HW := hide hw9
        clear hw9
        go_wp2_with fail
        refine bodyPost_ret (v := .tuple #[.func (.func 77) #[] #[.pointer (some ⟨w1.heap.size, 0, none⟩)], .bool true]) ?_ rfl ⟨?_, ?_⟩
        · simp [results, Tryd.results54, go_sem]
        · rw [HV.out]
          refine ⟨_, _, rfl, by rw [HW.out]; exact iv_back w1 R k (Nat.lt_of_lt_of_le hRl H1.out.2.size), fun b hb => ?_, ?_⟩
          · rw [HW.out]
            simp [ptrB] at hb
            have := H1.out.2.size
            simp
            omega
          · rw [HW.out]
            exact PQ.keep H1.out.1.q (Keeps.of (b_1 w1 _) (Nat.le_refl _) (fun _ => False)) (fun x => x)
        · rw [HW.out]
          exact H1.out.2.trans (Keeps.of (b_1 w1 _) (Nat.le_refl _) _)
    · have HV := hide (show bkM p pos done = none by
        unfold bkM
        rw [HX.out, if_pos]
        by_cases h48 : x = 48
        · exact .inl h48
        · right
          rw [List.getD_eq_getElem?_getD, List.getElem?_eq_none (by omega)]
          rfl)
      go_wp2_with fail
      refine (within_any (x - 49) 0 ((done.length : Int) - 1) w1).mono ?_
      rintro e w2 ⟨rfl, hw⟩
      obtain rfl := hw.symm
      rw [show (decide (0 ≤ x - 49) && decide (x - 49 ≤ ((done.length : Int) - 1))) = false by rw [Bool.and_eq_false_iff]; simp; omega]
      go_wp2_with fail
      refine bodyPost_ret (v := .tuple #[.nilFunc, .bool false]) ?_ rfl ⟨?_, H1.out.2⟩
      · simp [results, Tryd.results54, go_sem]
      · rw [HV.out]
        exact ⟨_, rfl⟩


end Go.Proofs.YtemciphihnpniaaDoor
namespace Go.Proofs.YtemciphihnpniaaDoor
open Go Go.RowKit Go.Shelf
set_option linter.unusedVariables false

theorem RI.lt {w : World} {R : Nat} {p : ByteArray} {pos : Nat} {us : List Iu} {opn : List Nat} {done : List Bool} {vi vo vc : Value} (h : RI w R p pos us opn done vi vo vc) : R < w.heap.size := RowF.lt h.q.2
set_option maxHeartbeats 800000 in
set_option maxRecDepth 100000 in
/-- One more is open. -/
theorem add_any (R : Nat) (p : ByteArray) (pos : Nat) (us : List Iu) (opn : List Nat) (done : List Bool) (vi vo vc : Value) (x : Nat) (w : World) (hn : opn.length ≤ 1000) (h : RI w R p pos us opn done vi vo vc) :
    Calls Tryd.prog 50 #[.pointer (some ⟨R, 2, none⟩), .int .i64 (x : Int)] w fun e w' => e = .returned (.tuple #[]) ∧ Below R w w' ∧ ∃ v', RI w' R p pos us (opn ++ [x]) done vi v' vc := by
  have c2 : w.cell? ⟨R, 2, none⟩ = some vo := RowF.cell h.q.2 (j := 2) (by omega)
  have hRl := h.lt
  obtain ⟨a0, k0, rfl⟩ := owns_val h.n
  have HQ := hide h
  clear h
  go_enter Tryd.func50, Tryd.ntmps50
  go_wp2_with (first
    | (have _z := HQ
       at_builtin
       clear _z
       refine app_at rfl _ _ 59 3 1 8 _ rfl Tryd.underlying59 Tryd.infoI3 rfl (by omega) (R + 1) (.slice a0 opn.length k0) opn.length (opC opn) [.int .i64 (x : Int)] HQ.out.n rfl rfl rfl (one_n1 x) (by omega) (by omega) (by omega) ?_
       intro v' w5 h1' h2 h3 h4
       obtain ⟨a9, k9, rfl⟩ := owns_val h1'
       have HQ5 := hide (HQ.out.app_n x h1' h2 h3 h4)
       have HB5 := hide (h2 R w (Below.refl _ _) (by omega))
       have c9 : w5.cell? ⟨R, 2, none⟩ = some (.slice a0 opn.length k0) := ((h2 _ _ (Below.refl (R + 1) w) (Nat.le_refl _)).cell (p := ⟨R, 2, none⟩) (Nat.lt_succ_self _)).trans (RowF.cell HQ.out.q.2 (j := 2) (by omega))
       have z9 : w5.frozen? ⟨R, 2, none⟩ = false := (RowF.low HQ.out.q.2 (h2 _ _ (Below.refl (R + 1) w) (Nat.le_refl _)) (Nat.lt_succ_self _)).frz 2
       clear h1' h2 h3 h4 HQ)
    | fail)
  refine bodyPost_end (v := .tuple #[]) ?_ rfl ⟨rfl, HB5.out.setCell (p := ⟨R, 2, none⟩) (Nat.le_refl _) _, _, HQ5.out⟩
  simp [results, Tryd.results50, go_sem]

/-- What reading an item comes to. -/
def ItQ (w' : World) (R : Nat) (p : ByteArray) (us : List Iu) (vi : Value) (e : Ending) : Option (It × Nat × List Nat × List Bool) → Prop
  | none => ∃ v, e = .returned (.tuple #[v, .bool false])
  | some (it, pos, opn, done) => ∃ fi ci vo vc, e = .returned (.tuple #[.func (.func fi) #[] ci, .bool true]) ∧ RI w' R p pos us opn done vi vo vc ∧ ItP w' R vi vo vc it fi ci
theorem ItO.toQ {w w' : World} {R : Nat} {p : ByteArray} {pos0 : Nat} {us : List Iu} {opn : List Nat} {done : List Bool} {vi vo vc : Value} {e : Ending} {o : Option (It × Nat)} (h : RI w R p pos0 us opn done vi vo vc) (ho : ItO w w' R p vi vo vc e o) (k : Keeps w w' (fun b => b = R)) :
    ItQ w' R p us vi e (o.map (fun r => (r.1, r.2, opn, done))) := by
  cases o with
  | none => exact ho
  | some r =>
    obtain ⟨it, pos⟩ := r
    obtain ⟨fi, ci, he, hv, hp, hq⟩ := ho
    exact ⟨fi, ci, vo, vc, he, h.keepR k hq, h.fresh hv hp⟩
def ecM (pos : Nat) (opn : List Nat) (done : List Bool) : Option (It × Nat × List Nat × List Bool) :=
  match opn.getLast? with
  | none => none
  | some n => some (itShut n, pos, opn.dropLast, done.set n true)

set_option maxHeartbeats 1600000 in
set_option maxRecDepth 100000 in
theorem pend_any (R : Nat) (p : ByteArray) (pos : Nat) (us : List Iu) (opn : List Nat) (done : List Bool) (vi vo vc : Value) (w : World) (hn : opn.length ≤ 1000) (hdl : done.length ≤ 1000) (hop : ∀ n ∈ opn, n < done.length) (h : RI w R p pos us opn done vi vo vc) :
    Calls Tryd.prog 52 #[.pointer (some ⟨R, 0, none⟩)] w fun e w' => ItQ w' R p us vi e (ecM pos opn done) ∧ Below R w w' := by
  have c2 : w.cell? ⟨R, 2, none⟩ = some vo := RowF.cell h.q.2 (j := 2) (by omega)
  have z2 : w.frozen? ⟨R, 2, none⟩ = false := RowF.frz h.q.2 2
  have hRl := h.lt
  obtain ⟨a0, k0, rfl⟩ := owns_val h.n
  have HQ := hide h
  have HC2 := hide (And.intro c2 z2)
  go_enter Tryd.func52, Tryd.ntmps52
  clear h
  go_wp2_with fail
  refine (isEmpty_any R 2 opn.length k0 a0 w hn HC2.out.1).mono ?_
  rintro e w1 ⟨rfl, hw⟩
  obtain rfl := hw.symm
  by_cases hem : opn = []
  · subst hem
    rw [show decide (([] : List Nat).length = 0) = true from rfl]
    go_wp2_with fail
    refine bodyPost_ret (v := .tuple #[.nilFunc, .bool false]) ?_ rfl ⟨⟨_, rfl⟩, Below.refl _ _⟩
    simp [results, Tryd.results52, go_sem]
  · have hl0 : 0 < opn.length := List.length_pos_iff.2 hem
    rw [show decide (opn.length = 0) = false by simp [hem]]
    obtain ⟨n, hnl⟩ : ∃ n, opn.getLast? = some n := ⟨opn.getLast hem, List.getLast?_eq_some_getLast hem⟩
    have hnm : n ∈ opn := List.mem_of_getLast? hnl
    have hnd := hop n hnm
    rcases own_val HQ.out.n with ⟨e1, e2⟩ | ⟨g, cap, e1, hnc⟩
    · omega
    cases e1
    have hx : w.cell? ⟨g, opn.length - 1, none⟩ = some (.int .i64 (n : Int)) := own_cell HQ.out.n rfl (by
      rw [opC, List.getElem?_map, ← List.getLast?_eq_getElem?, hnl]; rfl)
    have HX := hide hx
    have H1 := hide (HQ.out.cut hem)
    have HB1 := hide ((Below.refl R w).setCell (p := ⟨R, 2, none⟩) (Nat.le_refl _) (.slice (some ⟨g, 0, none⟩) (opn.length - 1) k0))
    clear hx c2 z2
    go_wp2_with fail
    refine (takeLast_any R 2 opn.length k0 g (n : Int) w hl0 hn hnc HC2.out.1 HC2.out.2 HX.out).mono ?_
    rintro e w2 ⟨rfl, hw2⟩
    rw [← hw2] at H1 HB1
    clear hw2
    have c3 : w2.cell? ⟨R, 3, none⟩ = some vc := RowF.cell H1.out.q.2 (j := 3) (by omega)
    rcases own_val H1.out.d with ⟨e1, e2⟩ | ⟨gd, capd, rfl, hncd⟩
    · omega
    have hcd : w2.cell? ⟨gd, n, none⟩ = some (.bool done[n]) := own_cell H1.out.d rfl (by simp [boC, hnd])
    obtain ⟨fd, hfd⟩ := owns_rowF H1.out.d (g := gd) rfl
    have hzd : w2.frozen? ⟨gd, n, none⟩ = false := hfd.frz n
    have H2 := hide (H1.out.set_d (g := gd) rfl hnd)
    have HB2 := hide (HB1.out.setCell (p := ⟨gd, n, none⟩) (by have := (owns_blt H1.out.d (g := gd) rfl).1; show R ≤ gd; omega) (.bool true))
    have HV := hide (show ecM pos opn done = some (itShut n, pos, opn.dropLast, done.set n true) by unfold ecM; rw [hnl])
    have hndI : (n : Int) < (done.length : Int) := by omega
    clear hfd hnl hnm hop
    go_upto_region 5 with fail
    generalize w2.setCell ⟨gd, n, none⟩ (.bool true) = w3 at H2 HB2 ⊢
    clear c3 hcd hzd
    go_wp2_with fail
    refine (mk_endCapture (n : Int) w3).mono ?_
    rintro e w9 ⟨rfl, hw9⟩
    have HW := hide hw9
    clear hw9
    go_wp2_with fail
    refine bodyPost_ret (v := .tuple #[.func (.func 76) #[] #[.pointer (some ⟨w3.heap.size, 0, none⟩)], .bool true]) ?_ rfl ⟨?_, ?_⟩
    · simp [results, Tryd.results52, go_sem]
    · rw [HV.out]
      have h8 := H2.out.keep (Keeps.of (b_1 w3 (.cells #[.int .i64 (n : Int)] 3)) (Nat.le_refl _) _)
      have h9 := H2.out.fresh (iv_shut w3 R n H2.out.lt) (fun b hb => by
        simp [ptrB] at hb
        simp
        omega)
      rw [← HW.out] at h8 h9
      exact ⟨_, _, _, _, rfl, h8, h9⟩
    · rw [HW.out]
      exact HB2.out.trans ((b_1 w3 _).mono (Nat.le_of_lt H2.out.lt))

end Go.Proofs.YtemciphihnpniaaDoor
