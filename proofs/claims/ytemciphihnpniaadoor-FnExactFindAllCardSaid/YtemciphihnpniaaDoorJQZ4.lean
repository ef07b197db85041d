import Derived.Test.YtemciphihnpniaaDoorPQ
import Derived.Deep.RegionLaw
import Derived.Test.YtemciphihnpniaaDoorQZ3
namespace Go.Proofs.YtemciphihnpniaaDoor
open Go Go.RowKit
set_option linter.unusedVariables false

theorem rdItem_len {p : ByteArray} {rd rd' : Rd} (h : rdItem p rd = some rd') : rd'.items.length ≤ rd.items.length + 1 ∧ rd'.opn.length ≤ rd.opn.length + 1 ∧ rd'.done.length ≤ rd.done.length + 1 := by
  rw [rdItem] at h
  split at h
  · split at h <;> (simp only [Option.some.injEq] at h; subst h; simp)
  split at h
  · cases e : rd.opn.getLast? with
    | none => rw [e] at h; cases h
    | some n =>
      rw [e] at h
      simp only [Option.some.injEq] at h
      subst h
      simp
      omega
  split at h
  · split at h
    · cases h
    · simp only [Option.some.injEq] at h; subst h; simp
  split at h
  · split at h
    · simp only [Option.some.injEq] at h; subst h; simp
    · cases h
  split at h
  · split at h
    · cases e : rdSet p (rd.pos + 2) with
      | none => rw [e] at h; cases h
      | some r => rw [e] at h; simp only [Option.map_some, Option.some.injEq] at h; subst h; simp
    · cases h
  split at h
  · simp only [Option.some.injEq] at h; subst h; simp
  · cases e : rdOne p rd.pos with
    | none => rw [e] at h; cases h
    | some r =>
      rw [e] at h
      simp only [Option.map_some, Option.some.injEq] at h
      split at h <;> (subst h; simp)
theorem mc_row (w : World) {MC : Array Value} {n : Nat} (h : MC = madeCells #[Value.bool false] n) : RowF (w.alloc (.cells MC 4)) 4 w.heap.size n (fun _ => .bool false) := by
  have h1 := RowF.mk' w 4 MC
  have hs : MC.size = n := by rw [h]; exact size_madeCells _ _
  rw [hs] at h1
  refine h1.congr fun j hj => ?_
  have h2 : MC.toList = List.replicate n (Value.bool false) := by rw [h]; exact toList_madeCells_one _ _
  have h3 : MC[j]? = some (.bool false) := by
    rw [← Array.getElem?_toList, h2]
    simp [hj]
  simp [h3]
theorem owns_slF {w : World} {B : Nat} {v : Value} {us : List (It × Value)} (h : w.ownsRow B 83 6 v us.length (itsC us)) : SlF w 83 6 v us.length (itF us) := by
  have h0 := h
  obtain ⟨h1, ⟨rfl, h2⟩ | ⟨g, cap, cur, rfl, hb, hg, hnc, hr⟩⟩ := h
  · exact ⟨none, 0, by rw [h2], by omega, .inl ⟨rfl, h2⟩⟩
  · exact ⟨_, cap, rfl, hnc, .inr ⟨g, rfl, rowF_owns h0⟩⟩
theorem rdAll_end {p : ByteArray} {k : Nat} {R : Rd} (h : ¬ R.pos < p.size) : rdAll p k R = some R := by
  cases k with
  | zero => rw [rdAll, if_neg h]
  | succ k => rw [rdAll, if_neg h]
theorem rdAll_on {p : ByteArray} {k : Nat} {R : Rd} (h : R.pos < p.size) : rdAll p (k + 1) R = (rdItem p R).bind (rdAll p k) := by rw [rdAll, if_pos h]
def rd0 (p : ByteArray) : Rd := ⟨if hb p 0 = 94 then 1 else 0, [], [], []⟩
theorem rdPat_eq {p : ByteArray} (h : p.size ≤ 200) : rdPat p = (rdAll p 200 (rd0 p)).bind (fun R => if R.opn = [] ∧ R.done.length ≤ 16 then some ⟨R.items, R.done.length, isPl R.items, decide (hb p 0 = 94)⟩ else none) := by rw [rdPat, if_neg (by omega)]; rfl
theorem rdJ0 (p : ByteArray) : RdJ (rd0 p) := ⟨fun k hk => by simp [rd0] at hk, fun n hn => by simp [rd0] at hn, fun n hn => by simp [rd0] at hn, fun j hj => by simp [rd0] at hj⟩
/-- How far reading is still to go. -/
def mRd (p : ByteArray) (R : Nat) (w : World) : Nat := match w.cell? ⟨R, 2, none⟩ with | some (.bool true) => 0 | _ => p.size + 2 - posOf w R
theorem mRd_bad {p : ByteArray} {R : Nat} {w : World} {q : Nat} {vi vo vd : Value} (h : RdB w R p q true vi vo vd) : mRd p R w = 0 := by
  unfold mRd
  rw [show w.cell? ⟨R, 2, none⟩ = some (.bool true) from RowF.cell h (j := 2) (by omega)]
theorem mRd_ok {p : ByteArray} {R : Nat} {w : World} {q : Nat} {vi vo vd : Value} (h : RdB w R p q false vi vo vd) : mRd p R w = p.size + 2 - q := by
  unfold mRd
  rw [show w.cell? ⟨R, 2, none⟩ = some (.bool false) from RowF.cell h (j := 2) (by omega), h.posOf]
/-- What reading a pattern comes to. -/
def PtR (p : ByteArray) (w : World) (e : Ending) (w' : World) : Prop :=
  Below w.heap.size w w' ∧ ((rdPat p = none ∧ e = .returned (.tuple #[.agg #[nilS, nilS, .bool false], .bool false])) ∨
    ∃ t us a1 c1 a2 c2, rdPat p = some t ∧ e = .returned (.tuple #[.agg #[.slice a1 us.length c1, .slice a2 t.caps c2, .bool t.start], .bool true]) ∧ us.map Prod.fst = t.items ∧ us.length ≤ 200 ∧
      SlF w' 83 6 (.slice a1 us.length c1) us.length (itF us) ∧ SlF w' 4 1 (.slice a2 t.caps c2) t.caps (fun j => .bool (t.place j)) ∧ ∀ u ∈ us, SetV w' u)

end Go.Proofs.YtemciphihnpniaaDoor
namespace Go.Proofs.YtemciphihnpniaaDoor
open Go Go.RowKit Go.Shelf
set_option linter.unusedVariables false

theorem setL_rng {p : ByteArray} : ∀ {k : Nat} {f : Nat → Bool} {at_ : Nat} {b : Bool} {g : Nat → Bool} {q : Nat}, setL p k f at_ b = some (g, q) → at_ < q ∧ q ≤ p.size
  | 0, _, _, _, _, _, h => by cases h
  | k + 1, f, at_, b, g, q, h => by
    rw [setL] at h
    split at h
    · cases h
    rename_i h1
    split at h
    · cases h; omega
    split at h
    · split at h
      · have := setL_rng h; omega
      · cases h
    split at h
    · have := setL_rng h; omega
    · have := setL_rng h; omega
theorem stM_rng {p : ByteArray} {pos q : Nat} {g : Nat → Bool} (h : stM p pos = some (g, q)) : pos < q := by
  unfold stM at h
  split at h
  · cases hs : setL p (p.size + 1) (fun _ => false) (pos + 1) true with
    | none => rw [hs] at h; cases h
    | some r =>
      obtain ⟨g', q'⟩ := r
      rw [hs] at h
      cases h
      have := setL_rng hs
      omega
  · exact (setL_rng h).1
theorem rdOne_rng {p : ByteArray} {pos q : Nat} {g : Nat → Bool} (h : rdOne p pos = some (g, q)) : pos < q := by
  unfold rdOne at h
  split at h
  · have := stM_rng (pos := pos + 1) h; omega
  split at h
  · cases h; omega
  split at h
  · split at h
    · cases h; omega
    · cases h
  · cases h; omega
theorem itemM_rng {p : ByteArray} {pos q : Nat} {opn opn' : List Nat} {done done' : List Bool} {it : It} (h : itemM p pos opn done = some (it, q, opn', done')) : pos < q ∧ opn'.length ≤ opn.length + 1 ∧ done'.length ≤ done.length + 1 := by
  unfold itemM at h
  split at h
  · split at h
    · cases h; simp
    · cases h; simp
  split at h
  · unfold ecM at h
    split at h
    · cases h
    · cases h; simp; omega
  split at h
  · unfold bkM at h
    split at h
    · cases h
    · cases h; simp
  split at h
  · unfold blM at h
    split at h
    · cases h; simp; omega
    · cases h
  split at h
  · unfold bdM at h
    split at h
    · cases hs : stM p (pos + 2 + 1) with
      | none => rw [hs] at h; cases h
      | some r =>
        obtain ⟨g', q'⟩ := r
        rw [hs] at h
        cases h
        have := stM_rng hs
        simp
        omega
    · cases h
  split at h
  · cases h; simp
  · unfold sgM at h
    cases hs : rdOne p pos with
    | none => rw [hs] at h; cases h
    | some r =>
      obtain ⟨g', q'⟩ := r
      rw [hs] at h
      have := rdOne_rng hs
      simp only [Option.map_some] at h
      split at h
      · cases h; simp; omega
      · cases h; simp; omega
theorem Tryd.infoF : (Tryd.prog.info? 89).map (fun i => (i.zero, i.size, i.bytes)) = some (some .nilFunc, 1, 8) := by kernel_rfl
theorem one_f1 (fi : Nat) (ci : Array Value) : ∀ v ∈ [Value.func (.func fi) #[] ci], v.oneCell' = true := by
  intro v hv
  simp only [List.mem_cons, List.not_mem_nil, or_false] at hv
  subst hv
  rfl
/-- The reader between two items. -/
structure RpI (w wr : World) (R : Nat) (p : ByteArray) (T : Option Rd) (rd : Rd) (us : List Iu) (vi vo vc : Value) (k : Nat) : Prop where
  ri : RI wr R p rd.pos us rd.opn rd.done vi vo vc
  it : us.map Prod.fst = rd.items
  bl : Below R w wr
  lt : LtT wr
  j : RdJ rd
  l1 : us.length ≤ rd.pos
  l2 : rd.opn.length ≤ rd.pos
  l3 : rd.done.length ≤ rd.pos
  fu : p.size - rd.pos ≤ k
  val : rdAll p k rd = T
/-- What reading a pattern comes to. -/
def RpR (w w' : World) (R : Nat) (p : ByteArray) (e : Ending) : Option Rd → Prop
  | none => e = .returned (.bool false) ∧ Below R w w'
  | some rd => e = .returned (.bool (decide (rd.opn = [] ∧ rd.done.length ≤ 16))) ∧ ∃ us vi vo vc k, RpI w w' R p (some rd) rd us vi vo vc k

set_option maxHeartbeats 3200000 in
set_option maxRecDepth 100000 in
theorem readPattern_any (R : Nat) (p : ByteArray) (T : Option Rd) (rd0 : Rd) (vi0 vo0 vc0 : Value) (us0 : List Iu) (k0 : Nat) (w0 w : World) (hps : p.size ≤ 200) (hR : 0 < R) (h : RpI w0 w R p T rd0 us0 vi0 vo0 vc0 k0) :
    Calls Tryd.prog 30 #[.pointer (some ⟨R, 0, none⟩)] w fun e w' => RpR w0 w' R p e T := by
  have HI := hide h
  clear h
  go_enter Tryd.func30, Tryd.ntmps30
  go_wp2_with fail
  go_loopw [] (fun wr => ∃ rd us vi vo vc k, Hid (RpI w0 wr R p T rd us vi vo vc k)) (fun wr => restSize wr R)
  case atStart => exact ⟨_, _, _, _, _, _, HI⟩
  case round =>
    clear HI
    obtain ⟨rd, us, vi, vo, vc, k, HI⟩ := hrel
    have c : wr.cell? ⟨R, 0, none⟩ = some (.string (p.extract rd.pos p.size)) := RowF.cell HI.out.ri.q.2 (j := 0) (by omega)
    by_cases hlt : rd.pos < p.size
    · have hne := ext_ne hlt
      generalize p.extract rd.pos p.size = rs at c hne
      go_wp2_with fail
      refine (pitem_any R p rd.pos us rd.opn rd.done vi vo vc wr (by omega) hlt HI.out.lt hR (by have := HI.out.l2; omega) (by have := HI.out.l3; omega) (fun n hn => ?_) HI.out.ri).mono ?_
      · obtain ⟨j, hj1, hj2, hj3⟩ := HI.out.j.opn n hn
        rw [← hj3]
        exact HI.out.j.lt j hj1 (by omega) (by omega)
      rintro e w1 ⟨ho, hb1⟩
      clear c hne
      obtain ⟨k, rfl⟩ : ∃ k', k = k' + 1 := ⟨k - 1, by have := HI.out.fu; omega⟩
      have hT : T = ((itemM p rd.pos rd.opn rd.done).map (fun r => (⟨r.2.1, rd.items ++ [r.1], r.2.2.1, r.2.2.2⟩ : Rd))).bind (rdAll p k) := by
        rw [← rdItem_eq, ← rdAll_on hlt]
        exact HI.out.val.symm
      cases hm : itemM p rd.pos rd.opn rd.done with
      | none =>
        rw [hm] at ho hT
        obtain ⟨v, rfl⟩ := ho
        have HT := hide (show T = none from hT)
        have HB := hide (HI.out.bl.trans hb1)
        clear hT hm hb1
        go_wp2_with fail
        refine bodyPost_ret (results_tmp rfl _ _ _) rfl ?_
        rw [HT.out]
        exact ⟨rfl, HB.out⟩
      | some r =>
        obtain ⟨it, pos', opn', done'⟩ := r
        have hrn := itemM_rng hm
        have hj' := rdItem_j HI.out.j (R' := ⟨pos', rd.items ++ [it], opn', done'⟩) (by rw [rdItem_eq, hm]; rfl)
        rw [hm] at ho hT
        obtain ⟨fi, ci, vo', vc', rfl, hr, hp⟩ := ho
        have c1 : w1.cell? ⟨R, 1, none⟩ = some vi := RowF.cell hr.q.2 (j := 1) (by omega)
        obtain ⟨ai, ki, rfl⟩ := owns_val hr.i
        have hlt1 := HI.out.lt.low hb1 hR
        have HX := hide (And.intro hr (And.intro hp (And.intro (HI.out.bl.trans hb1) (And.intro hlt1 (And.intro (show rdAll p k ⟨pos', rd.items ++ [it], opn', done'⟩ = T from hT.symm) (And.intro hrn hj'))))))
        clear hT hm hb1 hr hp hrn hj' hlt1
        go_wp2_with (first
          | (have _z := HX
             at_builtin
             clear _z
             refine app_at rfl _ _ 65 89 1 8 _ rfl Tryd.underlying65 Tryd.infoF rfl (by omega) (R + 1) (.slice ai us.length ki) us.length (fnC us) [.func (.func fi) #[] ci] HX.out.1.i rfl rfl rfl (one_f1 fi ci) (by have := HI.out.l1; omega) (by omega) (by have := HX.out.1.lt; omega) ?_
             intro v' w5 h1' h2 h3 h4
             obtain ⟨a9, k9, rfl⟩ := owns_val h1'
             have HQ5 := hide (HX.out.1.app_i (it, fi, ci) HX.out.2.1 h1' h2 h3 h4)
             have HB5 := hide (h2 R w0 HX.out.2.2.1 (by omega))
             have HL5 := hide (HX.out.2.2.2.1.low (h2 _ _ (Below.refl (R + 1) w1) (Nat.le_refl _)) (by omega))
             have c9 : w5.cell? ⟨R, 1, none⟩ = some (.slice ai us.length ki) := ((h2 _ _ (Below.refl (R + 1) w1) (Nat.le_refl _)).cell (p := ⟨R, 1, none⟩) (Nat.lt_succ_self _)).trans (RowF.cell HX.out.1.q.2 (j := 1) (by omega))
             have z9 : w5.frozen? ⟨R, 1, none⟩ = false := (RowF.low HX.out.1.q.2 (h2 _ _ (Below.refl (R + 1) w1) (Nat.le_refl _)) (Nat.lt_succ_self _)).frz 1
             clear h1' h2 h3 h4)
          | fail)
        have HE := hide (show RpI w0 (w5.setCell ⟨R, 1, none⟩ (.slice a9 (us.length + 1) k9)) R p T ⟨pos', rd.items ++ [it], opn', done'⟩ (us ++ [(it, fi, ci)]) (.slice a9 (us.length + 1) k9) vo' vc' k from
          ⟨HQ5.out, by rw [List.map_append, HI.out.it]; rfl, HB5.out.setCell (p := ⟨R, 1, none⟩) (Nat.le_refl _) _, HL5.out.low ((Below.refl R w5).setCell (p := ⟨R, 1, none⟩) (Nat.le_refl _) _) hR, HX.out.2.2.2.2.2.2, by simp; have := HI.out.l1; have := HX.out.2.2.2.2.2.1; omega, by have := HI.out.l2; have := HX.out.2.2.2.2.2.1; show opn'.length ≤ pos'; omega, by have := HI.out.l3; have := HX.out.2.2.2.2.2.1; show done'.length ≤ pos'; omega, by have := HI.out.fu; have := HX.out.2.2.2.2.2.1; show p.size - pos' ≤ k; omega, HX.out.2.2.2.2.1⟩)
        clear c1 c9 z9
        go_roundw
        case rel => exact ⟨_, _, _, _, _, _, HE⟩
        case measure =>
          rw [restSize_pq HE.out.ri.q, restSize_pq HI.out.ri.q]
          have := HX.out.2.2.2.2.2.1
          show p.size - pos' < p.size - rd.pos
          omega
    · have hem := ext_empty (p := p) (pos := rd.pos) (by omega)
      rw [hem] at c
      have hT : T = some rd := HI.out.val.symm.trans (rdAll_end hlt)
      subst hT
      clear hem
      have c3 : wr.cell? ⟨R, 3, none⟩ = some vc := RowF.cell HI.out.ri.q.2 (j := 3) (by omega)
      have c2 : wr.cell? ⟨R, 2, none⟩ = some vo := RowF.cell HI.out.ri.q.2 (j := 2) (by omega)
      obtain ⟨ad, kd, rfl⟩ := owns_val HI.out.ri.d
      obtain ⟨ao, ko, rfl⟩ := owns_val HI.out.ri.n
      have HC2 := hide c2
      clear c2
      have hl3 : rd.done.length ≤ 200 := by have := HI.out.l3; have := HI.out.ri.q.1; omega
      go_wp2_with fail
      refine (isEmpty_any R 2 rd.opn.length ko ao wr (by have := HI.out.l2; have := HI.out.ri.q.1; omega) HC2.out).mono ?_
      rintro e w1 ⟨rfl, hw⟩
      obtain rfl := hw.symm
      by_cases ho0 : rd.opn = []
      · rw [show decide (rd.opn.length = 0) = true by rw [ho0]; rfl]
        have hV : decide (rd.opn = [] ∧ rd.done.length ≤ 16) = decide ((rd.done.length : Int) ≤ 16) := by
          rw [decide_eq_decide]
          constructor
          · rintro ⟨_, y⟩; omega
          · intro y; exact ⟨ho0, by omega⟩
        have HV := hide hV
        clear hV
        clear ho0
        go_wp2_with fail
        refine bodyPost_ret (results_tmp rfl _ _ _) rfl ⟨?_, us, vi, _, _, k, HI.out⟩
        rw [HV.out]
        rfl
      · rw [show decide (rd.opn.length = 0) = false by simp [ho0]]
        have HV := hide (show decide (rd.opn = [] ∧ rd.done.length ≤ 16) = false by simp [ho0])
        clear ho0
        go_wp2_with fail
        refine bodyPost_ret (results_tmp rfl _ _ _) rfl ⟨?_, us, vi, _, _, k, HI.out⟩
        rw [HV.out]
        rfl

end Go.Proofs.YtemciphihnpniaaDoor
