import Derived.Test.YtcpeabchaimkaaaDoorRC
namespace Go.Proofs.YtcpeabchaimkaaaDoor
open Go Go.RowKit
set_option linter.unusedVariables false

theorem Keeps.new {w w' : World} {S : Nat → Prop} (h : Keeps w w' S) {g j : Nat} (hg : w.heap.size ≤ g) (x : Value) : Keeps w (w'.setCell ⟨g, j, none⟩ x) S := h.past hg x
theorem RdP.set {w : World} {R : Nat} {l : List Int} (h : RdP w R l) {g j : Nat} (hg : R < g) (x : Value) : RdP (w.setCell ⟨g, j, none⟩ x) R l :=
  h.keep (S := fun b => b = g) ((Keeps.refl w (fun b => b = g)).setCell (g := g) (j := j) rfl x) (fun b hb => by subst hb; exact hg)

def upE (u : Bool × Int) : List Int := [flagI u.1] ++ u64n u.2 1
def upW (u : Bool × Int) : Prop := 0 ≤ u.2 ∧ u.2 ≤ 255
def upX (u : Bool × Int) : Value := .agg #[.bool u.1, .int .i64 u.2]

set_option maxHeartbeats 1600000 in
set_option maxRecDepth 100000 in
theorem upvalue_p (R : Nat) (l : List Int) (w : World) (h : RdP w R l) :
    Calls Tryd.prog 52 #[.pointer (some ⟨R, 0, none⟩)] w fun e w' => Pars upE upW upX R l w e w' := by
  have hR := h.lt
  have hb0 := b_2 w (.cells #[.bool false, .int .i64 0] 57) (.cells #[.bool false, .int .i64 0] 57)
  have hk0 := Keeps.of hb0 (Nat.le_refl _) (fun b => b = R)
  have HR := hide (h.keep (S := fun _ => False) (Keeps.of hb0 (Nat.le_refl _) _) (fun _ x => x.elim))
  have hA := RowF.mk' w 57 #[.bool false, .int .i64 0]
  have HA := hide (hA.low (b_1 _ (.cells #[.bool false, .int .i64 0] 57)) hA.lt)
  have hB := RowF.mk' (w.alloc (.cells #[.bool false, .int .i64 0] 57)) 57 #[.bool false, .int .i64 0]
  rw [show (w.alloc (.cells #[.bool false, .int .i64 0] 57)).heap.size = w.heap.size + 1 by simp] at hB
  have HB := hide hB
  have HK := hide hk0
  clear h hb0 hk0 hA hB
  go_enter Tryd.func52, Tryd.ntmps52
  go_wp2_with fail
  generalize (w.alloc (.cells #[.bool false, .int .i64 0] 57)).alloc (.cells #[.bool false, .int .i64 0] 57) = w1 at *
  refine (flag_p R l w1 HR.out).mono ?_
  rintro e w2 ⟨hk, ⟨b, r, -, hl, rfl, hr⟩ | ⟨hno, rfl⟩⟩
  case inr => exact ⟨rfl, HK.out.trans hk, .inr ⟨fun u r _ e => hno u.1 (u64n u.2 1 ++ r) trivial (by rw [e, upE, List.append_assoc]), rfl⟩⟩
  have HA2 := hide (HA.out.keep hk (by omega))
  have HB2 := hide (HB.out.keep hk (by omega))
  have HK2 := hide (HK.out.trans hk)
  have HL := hide hl
  have HR2 := hide hr
  clear hk hl hr HA HB HK HR
  have c0 := HB2.out.cell (j := 0) (by simp)
  have z0 := HB2.out.frz 0
  have HB3 := hide (HB2.out.set (j := 0) (by simp) (.bool b))
  have HA3 := hide (HA2.out.other (g' := w.heap.size + 1) (j := 0) (x := .bool b) (by omega))
  have HK3 := hide (HK2.out.new (g := w.heap.size + 1) (j := 0) (by omega) (.bool b))
  have HR3 := hide (HR2.out.set (g := w.heap.size + 1) (j := 0) (by omega) (.bool b))
  go_wp2_with fail
  clear c0 z0 HA2 HB2 HK2 HR2
  generalize w2.setCell ⟨w.heap.size + 1, 0, none⟩ (.bool b) = w3 at *
  refine (num_p R 1 r w3 (by omega) HR3.out).mono ?_
  rintro e w4 ⟨hk, ⟨x, r2, hx, hl, rfl, hr⟩ | ⟨hno, rfl⟩⟩
  case inr =>
    refine ⟨rfl, HK3.out.trans hk, .inr ⟨fun u r' hu e => ?_, rfl⟩⟩
    have e1 := HL.out.symm.trans e
    rw [upE, List.append_assoc] at e1
    exact hno u.2 r' (rng1.2 hu) (List.cons.inj e1).2
  rw [rng1] at hx
  have HA4 := hide (HA3.out.keep hk (by omega))
  have HB4 := hide (HB3.out.keep hk (by omega))
  have HK4 := hide (HK3.out.trans hk)
  have HL2 := hide hl
  have HR4 := hide hr
  clear hk hl hr HA3 HB3 HK3 HR3
  have c0 : w4.cell? ⟨w.heap.size + 1, 0, none⟩ = some (.bool b) := HB4.out.cell (j := 0) (by simp)
  have c1 : w4.cell? ⟨w.heap.size + 1, 1, none⟩ = some (.int .i64 0) := HB4.out.cell (j := 1) (by simp)
  have z1 := HB4.out.frz 1
  have a0 : w4.cell? ⟨w.heap.size, 0, none⟩ = some (.bool false) := HA4.out.cell (j := 0) (by simp)
  have a1 : w4.cell? ⟨w.heap.size, 1, none⟩ = some (.int .i64 0) := HA4.out.cell (j := 1) (by simp)
  have f0 := HA4.out.frz 0
  have f1 := HA4.out.frz 1
  have HKE := hide (((HK4.out.new (g := w.heap.size + 1) (j := 1) (by omega) (.int .i64 x)).new (g := w.heap.size) (j := 0) (by omega) (.bool b)).new (g := w.heap.size) (j := 1) (by omega) (.int .i64 x))
  have HRE := hide (((HR4.out.set (g := w.heap.size + 1) (j := 1) (by omega) (.int .i64 x)).set (g := w.heap.size) (j := 0) (by omega) (.bool b)).set (g := w.heap.size) (j := 1) (by omega) (.int .i64 x))
  go_wp2_with fail
  refine bodyPost_ret (v := .agg #[.bool b, .int .i64 x]) ?_ rfl ⟨HKE.out, .inl ⟨(b, x), r2, hx, ?_, rfl, HRE.out⟩⟩
  · simp [results, Tryd.results52, go_sem, a0, a1]
  · rw [HL.out, HL2.out, upE, List.append_assoc]

end Go.Proofs.YtcpeabchaimkaaaDoor
namespace Go.Proofs.YtcpeabchaimkaaaDoor
open Go Go.RowKit
set_option linter.unusedVariables false

def inE (u : Int × Int × Int × Int) : List Int := u64n u.1 1 ++ (u64n u.2.1 1 ++ (u64n u.2.2.1 4 ++ u64n u.2.2.2 4))
def inW (u : Int × Int × Int × Int) : Prop := (0 ≤ u.1 ∧ u.1 ≤ 255) ∧ (0 ≤ u.2.1 ∧ u.2.1 ≤ 255) ∧ (-2147483648 ≤ u.2.2.1 ∧ u.2.2.1 ≤ 2147483647) ∧ (-2147483648 ≤ u.2.2.2 ∧ u.2.2.2 ≤ 2147483647)
def inX (u : Int × Int × Int × Int) : Value := .agg #[.int .i64 u.1, .int .i64 u.2.1, .int .i64 u.2.2.1, .int .i64 u.2.2.2]

set_option maxHeartbeats 1600000 in
set_option maxRecDepth 100000 in
theorem instruction_p (R : Nat) (l : List Int) (w : World) (h : RdP w R l) :
    Calls Tryd.prog 54 #[.pointer (some ⟨R, 0, none⟩)] w fun e w' => Pars inE inW inX R l w e w' := by
  have hR := h.lt
  have hb0 := b_2 w (.cells #[.int .i64 0, .int .i64 0, .int .i64 0, .int .i64 0] 61) (.cells #[.int .i64 0, .int .i64 0, .int .i64 0, .int .i64 0] 61)
  have hk0 := Keeps.of hb0 (Nat.le_refl _) (fun b => b = R)
  have HR := hide (h.keep (S := fun _ => False) (Keeps.of hb0 (Nat.le_refl _) _) (fun _ x => x.elim))
  have hA := RowF.mk' w 61 #[.int .i64 0, .int .i64 0, .int .i64 0, .int .i64 0]
  have HA := hide (hA.low (b_1 _ (.cells #[.int .i64 0, .int .i64 0, .int .i64 0, .int .i64 0] 61)) hA.lt)
  have hB := RowF.mk' (w.alloc (.cells #[.int .i64 0, .int .i64 0, .int .i64 0, .int .i64 0] 61)) 61 #[.int .i64 0, .int .i64 0, .int .i64 0, .int .i64 0]
  rw [show (w.alloc (.cells #[.int .i64 0, .int .i64 0, .int .i64 0, .int .i64 0] 61)).heap.size = w.heap.size + 1 by simp] at hB
  have HB := hide hB
  have HK := hide hk0
  clear h hb0 hk0 hA hB
  go_enter Tryd.func54, Tryd.ntmps54
  go_wp2_with fail
  generalize (w.alloc (.cells #[.int .i64 0, .int .i64 0, .int .i64 0, .int .i64 0] 61)).alloc (.cells #[.int .i64 0, .int .i64 0, .int .i64 0, .int .i64 0] 61) = w0 at *
  refine (num_p R 1 l w0 (by omega) HR.out).mono ?_
  rintro e v0 ⟨hk, ⟨o, r0, hx0, hl, rfl, hr⟩ | ⟨hno, rfl⟩⟩
  case inr =>
    refine ⟨rfl, HK.out.trans hk, .inr ⟨fun u r' hu e => ?_, rfl⟩⟩
    rw [inE] at e
    simp only [List.append_assoc] at e
    exact hno u.1 _ (rng1.2 hu.1) e
  have HA := hide (HA.out.keep hk (by omega))
  have HB := hide (HB.out.keep hk (by omega))
  have HK := hide (HK.out.trans hk)
  have HL0 := hide hl
  have HR := hide hr
  clear hk hl hr
  have c0 := HB.out.cell (j := 0) (by simp)
  have z0 := HB.out.frz 0
  have HB' := hide (HB.out.set (j := 0) (by simp) (.int .i64 o))
  have HA' := hide (HA.out.other (g' := w.heap.size + 1) (j := 0) (x := .int .i64 o) (by omega))
  have HK' := hide (HK.out.new (g := w.heap.size + 1) (j := 0) (by omega) (.int .i64 o))
  have HR' := hide (HR.out.set (g := w.heap.size + 1) (j := 0) (by omega) (.int .i64 o))
  go_wp2_with fail
  clear c0 z0 HA HB HK HR
  generalize v0.setCell ⟨w.heap.size + 1, 0, none⟩ (.int .i64 o) = w1 at *
  have HA := HA'
  have HB := HB'
  have HK := HK'
  have HR := HR'
  clear HA' HB' HK' HR'
  refine (num_p R 1 r0 w1 (by omega) HR.out).mono ?_
  rintro e v1 ⟨hk, ⟨a, r1, hx1, hl, rfl, hr⟩ | ⟨hno, rfl⟩⟩
  case inr =>
    refine ⟨rfl, HK.out.trans hk, .inr ⟨fun u r' hu e => ?_, rfl⟩⟩
    rw [inE] at e
    simp only [List.append_assoc] at e
    rw [HL0.out] at e
    replace e := (fld e).2
    exact hno u.2.1 _ (rng1.2 hu.2.1) e
  have HA := hide (HA.out.keep hk (by omega))
  have HB := hide (HB.out.keep hk (by omega))
  have HK := hide (HK.out.trans hk)
  have HL1 := hide hl
  have HR := hide hr
  clear hk hl hr
  have c1 := HB.out.cell (j := 1) (by simp)
  have z1 := HB.out.frz 1
  have HB' := hide (HB.out.set (j := 1) (by simp) (.int .i64 a))
  have HA' := hide (HA.out.other (g' := w.heap.size + 1) (j := 1) (x := .int .i64 a) (by omega))
  have HK' := hide (HK.out.new (g := w.heap.size + 1) (j := 1) (by omega) (.int .i64 a))
  have HR' := hide (HR.out.set (g := w.heap.size + 1) (j := 1) (by omega) (.int .i64 a))
  go_wp2_with fail
  clear c1 z1 HA HB HK HR
  generalize v1.setCell ⟨w.heap.size + 1, 1, none⟩ (.int .i64 a) = w2 at *
  have HA := HA'
  have HB := HB'
  have HK := HK'
  have HR := HR'
  clear HA' HB' HK' HR'
  refine (signed_p R r1 w2 HR.out).mono ?_
  rintro e v2 ⟨hk, ⟨b, r2, hx2, hl, rfl, hr⟩ | ⟨hno, rfl⟩⟩
  case inr =>
    refine ⟨rfl, HK.out.trans hk, .inr ⟨fun u r' hu e => ?_, rfl⟩⟩
    rw [inE] at e
    simp only [List.append_assoc] at e
    rw [HL0.out] at e
    replace e := (fld e).2
    rw [HL1.out] at e
    replace e := (fld e).2
    exact hno u.2.2.1 _ (hu.2.2.1) e
  have HA := hide (HA.out.keep hk (by omega))
  have HB := hide (HB.out.keep hk (by omega))
  have HK := hide (HK.out.trans hk)
  have HL2 := hide hl
  have HR := hide hr
  clear hk hl hr
  have c2 := HB.out.cell (j := 2) (by simp)
  have z2 := HB.out.frz 2
  have HB' := hide (HB.out.set (j := 2) (by simp) (.int .i64 b))
  have HA' := hide (HA.out.other (g' := w.heap.size + 1) (j := 2) (x := .int .i64 b) (by omega))
  have HK' := hide (HK.out.new (g := w.heap.size + 1) (j := 2) (by omega) (.int .i64 b))
  have HR' := hide (HR.out.set (g := w.heap.size + 1) (j := 2) (by omega) (.int .i64 b))
  go_wp2_with fail
  clear c2 z2 HA HB HK HR
  generalize v2.setCell ⟨w.heap.size + 1, 2, none⟩ (.int .i64 b) = w3 at *
  have HA := HA'
  have HB := HB'
  have HK := HK'
  have HR := HR'
  clear HA' HB' HK' HR'
  refine (signed_p R r2 w3 HR.out).mono ?_
  rintro e v3 ⟨hk, ⟨c, r3, hx3, hl, rfl, hr⟩ | ⟨hno, rfl⟩⟩
  case inr =>
    refine ⟨rfl, HK.out.trans hk, .inr ⟨fun u r' hu e => ?_, rfl⟩⟩
    rw [inE] at e
    simp only [List.append_assoc] at e
    rw [HL0.out] at e
    replace e := (fld e).2
    rw [HL1.out] at e
    replace e := (fld e).2
    rw [HL2.out] at e
    replace e := (fld e).2
    exact hno u.2.2.2 _ (hu.2.2.2) e
  have HA := hide (HA.out.keep hk (by omega))
  have HB := hide (HB.out.keep hk (by omega))
  have HK := hide (HK.out.trans hk)
  have HL3 := hide hl
  have HR := hide hr
  clear hk hl hr
  have c0 : v3.cell? ⟨w.heap.size + 1, 0, none⟩ = some (.int .i64 o) := HB.out.cell (j := 0) (by simp)
  have c1 : v3.cell? ⟨w.heap.size + 1, 1, none⟩ = some (.int .i64 a) := HB.out.cell (j := 1) (by simp)
  have c2 : v3.cell? ⟨w.heap.size + 1, 2, none⟩ = some (.int .i64 b) := HB.out.cell (j := 2) (by simp)
  have c3 : v3.cell? ⟨w.heap.size + 1, 3, none⟩ = some (.int .i64 0) := HB.out.cell (j := 3) (by simp)
  have z3 := HB.out.frz 3
  have a0 : v3.cell? ⟨w.heap.size, 0, none⟩ = some (.int .i64 0) := HA.out.cell (j := 0) (by simp)
  have f0 := HA.out.frz 0
  have a1 : v3.cell? ⟨w.heap.size, 1, none⟩ = some (.int .i64 0) := HA.out.cell (j := 1) (by simp)
  have f1 := HA.out.frz 1
  have a2 : v3.cell? ⟨w.heap.size, 2, none⟩ = some (.int .i64 0) := HA.out.cell (j := 2) (by simp)
  have f2 := HA.out.frz 2
  have a3 : v3.cell? ⟨w.heap.size, 3, none⟩ = some (.int .i64 0) := HA.out.cell (j := 3) (by simp)
  have f3 := HA.out.frz 3
  have HKE := hide (((((HK.out.new (g := w.heap.size + 1) (j := 3) (by omega) (.int .i64 c)).new (g := w.heap.size) (j := 0) (by omega) (.int .i64 o)).new (g := w.heap.size) (j := 1) (by omega) (.int .i64 a)).new (g := w.heap.size) (j := 2) (by omega) (.int .i64 b)).new (g := w.heap.size) (j := 3) (by omega) (.int .i64 c))
  have HRE := hide (((((HR.out.set (g := w.heap.size + 1) (j := 3) (by omega) (.int .i64 c)).set (g := w.heap.size) (j := 0) (by omega) (.int .i64 o)).set (g := w.heap.size) (j := 1) (by omega) (.int .i64 a)).set (g := w.heap.size) (j := 2) (by omega) (.int .i64 b)).set (g := w.heap.size) (j := 3) (by omega) (.int .i64 c))
  go_wp2_with fail
  refine bodyPost_ret (v := .agg #[.int .i64 o, .int .i64 a, .int .i64 b, .int .i64 c]) ?_ rfl ⟨HKE.out, .inl ⟨(o, a, b, c), r3, ⟨rng1.1 hx0, rng1.1 hx1, hx2, hx3⟩, ?_, rfl, HRE.out⟩⟩
  · simp [results, Tryd.results54, go_sem, a0, a1, a2, a3]
  · rw [HL0.out, HL1.out, HL2.out, HL3.out, inE]
    simp only [List.append_assoc]

end Go.Proofs.YtcpeabchaimkaaaDoor
