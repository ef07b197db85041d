import Derived.Test.YtemciphihnpniaaDoorQJ
import Derived.Deep.RegionLaw
import Derived.Deep.RegionHeld
namespace Go.Proofs.YtemciphihnpniaaDoor
open Go Go.RowKit Go.Shelf
set_option linter.unusedVariables false

/-- The ranges of the small letters. -/
def ltTab : List (Int × List UInt8) := [(97, [97, 122, 65, 90]), (100, [48, 57]), (108, [97, 122]), (115, [9, 13, 32, 32]), (117, [65, 90]), (119, [97, 122, 65, 90, 48, 57]), (120, [48, 57, 97, 102, 65, 70]), (112, [33, 47, 58, 64, 91, 96, 123, 126]), (99, [0, 31, 127, 127])]
def ltC (i : Nat) : Int := (ltTab.getD i (0, [])).1
def ltS (i : Nat) : ByteArray := ⟨(ltTab.getD i (0, [])).2.toArray⟩
def ltL : List Value := ltTab.flatMap (fun r => [.int .u8 r.1, .string ⟨r.2.toArray⟩])
/-- The variable lies as it is laid. -/
def LtT (w : World) : Prop := w.rangeAt 0 0 ltL
theorem LtT.low {w w' : World} {B : Nat} (h : LtT w) (hb : Below B w w') (hB : 0 < B) : LtT w' := fun j v hv => (hb.cell (p := ⟨0, 0 + j, none⟩) hB).trans (h j v hv)
/-- The first m ranges of a row. -/
def ltP (s : ByteArray) (m : Nat) : Nat → Bool := fun c => (List.range m).any (fun k => btw (hb s (2 * k)).toNat (hb s (2 * k + 1)).toNat c)
theorem ltP_succ (s : ByteArray) (m c : Nat) : ltP s (m + 1) c = (ltP s m c || btw (hb s (2 * m)).toNat (hb s (2 * m + 1)).toNat c) := by
  simp [ltP, List.range_succ, List.any_append]
theorem lt_cases {i : Nat} (h : i < 9) : i = 0 ∨ i = 1 ∨ i = 2 ∨ i = 3 ∨ i = 4 ∨ i = 5 ∨ i = 6 ∨ i = 7 ∨ i = 8 := by omega
theorem ltS_even {i : Nat} (h : i < 9) : ∃ n, (ltS i).size = 2 * n ∧ n ≤ 4 := by
  rcases lt_cases h with rfl | rfl | rfl | rfl | rfl | rfl | rfl | rfl | rfl
  · exact ⟨2, rfl, by omega⟩
  · exact ⟨1, rfl, by omega⟩
  · exact ⟨1, rfl, by omega⟩
  · exact ⟨2, rfl, by omega⟩
  · exact ⟨1, rfl, by omega⟩
  · exact ⟨3, rfl, by omega⟩
  · exact ⟨3, rfl, by omega⟩
  · exact ⟨4, rfl, by omega⟩
  · exact ⟨2, rfl, by omega⟩
theorem lt_index {i : Nat} (h : i < 9) (w : World) : (Instr.index 123 (.agg ltL.toArray) (.int .i64 (i : Int))).run Tryd.prog w = .ok (.agg #[.int .u8 (ltC i), .string (ltS i)]) w := by
  rcases lt_cases h with rfl | rfl | rfl | rfl | rfl | rfl | rfl | rfl | rfl <;> kernel_rfl
theorem ltC_rng {i : Nat} (h : i < 9) : 97 ≤ ltC i ∧ ltC i ≤ 122 := by
  rcases lt_cases h with rfl | rfl | rfl | rfl | rfl | rfl | rfl | rfl | rfl <;> decide
theorem size_lit (l : List UInt8) : (⟨l.toArray⟩ : ByteArray).size = l.length := rfl
theorem hb_lit (l : List UInt8) (k : Nat) : hb ⟨l.toArray⟩ k = (((l.getD k 0).toNat : Nat) : Int) := by
  unfold hb
  by_cases h : k < l.length
  · rw [dif_pos (show k < (⟨l.toArray⟩ : ByteArray).size from h)]
    rw [List.getD_eq_getElem?_getD, List.getElem?_eq_getElem h]
    rfl
  · rw [dif_neg (show ¬ k < (⟨l.toArray⟩ : ByteArray).size from h)]
    rw [List.getD_eq_getElem?_getD, List.getElem?_eq_none (by omega)]
    rfl
theorem lt_cls {i : Nat} (h : i < 9) (c : Nat) (hc : c < 256) : ltP (ltS i) ((ltS i).size / 2) c = cls (ltC i) (c : Int) := by
  rcases lt_cases h with rfl | rfl | rfl | rfl | rfl | rfl | rfl | rfl | rfl
  all_goals (
    rw [Bool.eq_iff_iff]
    simp only [ltP, ltS, ltC, ltTab, List.getD_cons_zero, List.getD_cons_succ, size_lit, hb_lit]
    simp [btw, cls, isLow, isUp, isDg, List.range_succ]
    try omega)
theorem lt_is (x : Int) : (∀ i, i < 9 → ltC i ≠ x) → clsIs x = false := by
  intro h
  have h0 := h 0 (by omega); have h1 := h 1 (by omega); have h2 := h 2 (by omega); have h3 := h 3 (by omega); have h4 := h 4 (by omega)
  have h5 := h 5 (by omega); have h6 := h 6 (by omega); have h7 := h 7 (by omega); have h8 := h 8 (by omega)
  simp [ltC, ltTab] at h0 h1 h2 h3 h4 h5 h6 h7 h8
  simp [clsIs]
  omega
theorem lt_yes {i : Nat} (h : i < 9) : clsIs (ltC i) = true := by
  rcases lt_cases h with rfl | rfl | rfl | rfl | rfl | rfl | rfl | rfl | rfl <;> decide

end Go.Proofs.YtemciphihnpniaaDoor
namespace Go.Proofs.YtemciphihnpniaaDoor
open Go Go.RowKit Go.Shelf
set_option linter.unusedVariables false

theorem info_lt : (Tryd.prog.info? 123).map (·.size) = some 18 := by kernel_rfl
theorem ltL_len : ltL.length = 18 := rfl
theorem ld_cl {w : World} {g : Nat} {f : Nat → Bool} (h : ClF w g f) : (loadVar 109 ⟨g, 0, none⟩).run Tryd.prog w = .ok (.agg (clC f)) w :=
  run_loadVar_mid (P := Tryd.prog) w g 0 109 _ (.array 256 4) (row_range h) (by kernel_rfl) rfl (by rw [info_cl]; simp)
theorem ld_lt {w : World} (h : LtT w) : (loadVar 123 ⟨0, 0, none⟩).run Tryd.prog w = .ok (.agg ltL.toArray) w :=
  run_loadVar_mid (P := Tryd.prog) w 0 0 123 ltL (.array 9 122) h (by kernel_rfl) rfl (by rw [info_lt]; rfl)
theorem st_cl {w : World} {g : Nat} {f : Nat → Bool} (h : ClF w g f) (f' : Nat → Bool) : (storeVar 109 ⟨g, 0, none⟩ (.agg (clC f'))).run Tryd.prog w = .ok () (w.setCells g 0 (clC f').toList) :=
  run_storeVar_mid (P := Tryd.prog) w g 0 109 (clC f') (by rw [clC_size]; exact row_there h) (by rw [info_cl, clC_size]) (clC_one f')
theorem range_cl {w : World} {g : Nat} {f f' : Nat → Bool} (h : ClF w g f) : (w.setCells g 0 (clC f').toList).rangeAt g 0 (clC f').toList :=
  World.rangeAt_setCells_same w g 0 _ (by rw [Array.length_toList, clC_size]; exact row_there h)
theorem row_setCells {T g N : Nat} : ∀ (vs : List Value) (o : Nat) (w : World) (f : Nat → Value), RowF w T g N f → o + vs.length ≤ N → RowF (w.setCells g o vs) T g N (fun j => if o ≤ j ∧ j < o + vs.length then vs.getD (j - o) (.bool false) else f j)
  | [], o, w, f, h, hl => h.congr (fun j hj => by rw [if_neg (by simp)])
  | v :: r, o, w, f, h, hl => by
    rw [World.setCells]
    rw [List.length_cons] at hl
    refine (row_setCells r (o + 1) _ _ (h.set (j := o) (by omega) v) (by omega)).congr (fun j hj => ?_)
    rw [List.length_cons]
    by_cases e : j = o
    · subst e
      rw [if_neg (by omega), if_pos rfl, if_pos (by omega)]
      simp
    · rw [if_neg e]
      by_cases e2 : o + 1 ≤ j ∧ j < o + 1 + r.length
      · rw [if_pos e2, if_pos (by omega)]
        obtain ⟨k, rfl⟩ : ∃ k, j = o + 1 + k := ⟨j - (o + 1), by omega⟩
        rw [show o + 1 + k - (o + 1) = k by omega, show o + 1 + k - o = k + 1 by omega]
        rfl
      · rw [if_neg e2, if_neg (by omega)]
theorem row_setCells_other {T g N : Nat} {f : Nat → Value} (g' : Nat) (hn : g ≠ g') : ∀ (vs : List Value) (o : Nat) (w : World), RowF w T g N f → RowF (w.setCells g' o vs) T g N f
  | [], o, w, h => h
  | v :: r, o, w, h => by
    rw [World.setCells]
    exact row_setCells_other g' hn r (o + 1) _ (h.other hn)
theorem cl_set {w : World} {g : Nat} {f : Nat → Bool} (h : ClF w g f) (f' : Nat → Bool) : ClF (w.setCells g 0 (clC f').toList) g f' := by
  refine (row_setCells _ 0 w _ h (by rw [Array.length_toList, clC_size]; omega)).congr (fun j hj => ?_)
  rw [Array.length_toList, clC_size, if_pos (by omega)]
  simp [clC, hj]

end Go.Proofs.YtemciphihnpniaaDoor
namespace Go.Proofs.YtemciphihnpniaaDoor
open Go Go.RowKit Go.Shelf
set_option linter.unusedVariables false

theorem cell_setCells_other {g g' j : Nat} (hn : g ≠ g') : ∀ (vs : List Value) (o : Nat) (w : World), (w.setCells g' o vs).cell? ⟨g, j, none⟩ = w.cell? ⟨g, j, none⟩
  | [], o, w => rfl
  | v :: r, o, w => by
    rw [World.setCells, cell_setCells_other hn r (o + 1)]
    exact World.cell?_setCell_far w _ _ v (fun e => hn e.symm)
theorem below_of_drew {w w' : World} (h : Below w.drew.heap.size w.drew w') : Below w.heap.size w w' := ⟨h.os, h.tape, h.output, h.size, h.block⟩
/-- The statement of letterClass that joins a range to a class. -/
def r9 : Array Oper := #[{ dst := some 23, op := Op.load 109 (Operand.tmp 6), type := 109, pos := "l10_pattern.go:143", after := #[], guard := none }, { dst := some 24, op := Op.fieldAddr 122 (Operand.tmp 5) 1, type := 0, pos := "l10_pattern.go:143", after := #[], guard := none }, { dst := some 25, op := Op.load 9 (Operand.tmp 24), type := 9, pos := "l10_pattern.go:143", after := #[{ on := 1, ground := Ground.data }], guard := none }, { dst := some 26, op := Op.move (Operand.tmp 7), type := 3, pos := "l10_pattern.go:143", after := #[], guard := none }, { dst := some 27, op := Op.index 9 (Operand.tmp 25) (Operand.tmp 26), type := 5, pos := "l10_pattern.go:143", after := #[{ on := 2, ground := Ground.data }, { on := 3, ground := Ground.data }], guard := none }, { dst := some 28, op := Op.fieldAddr 122 (Operand.tmp 5) 1, type := 0, pos := "l10_pattern.go:143", after := #[], guard := none }, { dst := some 29, op := Op.load 9 (Operand.tmp 28), type := 9, pos := "l10_pattern.go:143", after := #[{ on := 5, ground := Ground.data }], guard := none }, { dst := some 30, op := Op.move (Operand.tmp 7), type := 3, pos := "l10_pattern.go:143", after := #[], guard := none }, { dst := some 31, op := Op.binOp BinOp.add 3 (Operand.tmp 30) (Operand.const (Value.int IntKind.i64 1)) 3, type := 3, pos := "l10_pattern.go:143", after := #[{ on := 7, ground := Ground.data }], guard := none }, { dst := some 32, op := Op.index 9 (Operand.tmp 29) (Operand.tmp 31), type := 5, pos := "l10_pattern.go:143", after := #[{ on := 6, ground := Ground.data }, { on := 8, ground := Ground.data }], guard := none }, { dst := some 33, op := Op.call { callee := Callee.value (Operand.func 85), args := #[Operand.tmp 27, Operand.tmp 32], argTypes := #[5, 5] }, type := 109, pos := "l10_pattern.go:143", after := #[{ on := 4, ground := Ground.data }, { on := 9, ground := Ground.data }], guard := none }, { dst := some 34, op := Op.call { callee := Callee.value (Operand.func 81), args := #[Operand.tmp 23, Operand.tmp 33], argTypes := #[109, 109] }, type := 109, pos := "l10_pattern.go:143", after := #[{ on := 0, ground := Ground.data }, { on := 10, ground := Ground.data }, { on := 10, ground := Ground.chain }], guard := none }, { dst := none, op := Op.store 109 (Operand.tmp 6) (Operand.tmp 34), type := 0, pos := "l10_pattern.go:143", after := #[{ on := 11, ground := Ground.data }, { on := 11, ground := Ground.chain }, { on := 0, ground := Ground.phase }, { on := 1, ground := Ground.phase }, { on := 2, ground := Ground.phase }, { on := 3, ground := Ground.phase }, { on := 4, ground := Ground.phase }, { on := 5, ground := Ground.phase }, { on := 6, ground := Ground.phase }, { on := 7, ground := Ground.phase }, { on := 8, ground := Ground.phase }, { on := 9, ground := Ground.phase }, { on := 10, ground := Ground.phase }, { on := 11, ground := Ground.phase }], guard := none }]

set_option maxHeartbeats 3200000 in
set_option maxRecDepth 100000 in
/-- It draws its order: the class may be read ahead of the range's making or behind it. -/
theorem reg9 (R1 j : Nat) (s : ByteArray) (f : Nat → Bool) (cs ls : List Value) (t0 t1 t2 t3 t4 t8 t9 t10 t11 t12 t13 t14 t15 t16 t17 t18 t19 t20 t21 t22 t23 t24 t25 t26 t27 t28 t29 t30 t31 t32 t33 t34 t35 t36 t37 : Value) (Q : Exit → Act → World → Prop) (w : World) (hj6 : j ≤ 6) (hj1 : j + 1 < s.size)
    (hcs : cs.toArray = clC f) (hls : clC (fun c => (f c || btw (hb s j).toNat (hb s (j + 1)).toNat c)) = ls.toArray)
    (hc1 : w.cell? ⟨R1, 1, none⟩ = some (.string s)) (hR : R1 < w.heap.size) (hcl : ClF w (R1 + 1) f)
    (hQp : ∀ c a (d : Nat) v w, Q (.panic c) (Act.put a (some d) v) w → Q (.panic c) a w) (hpost : ∀ w2, Below w.heap.size w w2 → Q .normal ⟨#[t0, t1, t2, t3, t4, .pointer (some ⟨R1, 0, none⟩), .pointer (some ⟨R1 + 1, 0, none⟩), .int .i64 (j : Int), t8, t9, t10, t11, t12, t13, t14, t15, t16, t17, t18, t19, t20, t21, t22, .agg cs.toArray, .pointer (some ⟨R1, 1, none⟩), .string s, .int .i64 (j : Int), .int .u8 (hb s j), .pointer (some ⟨R1, 1, none⟩), .string s, .int .i64 (j : Int), .int .i64 ((j : Int) + 1), .int .u8 (hb s (j + 1)), .agg (clC (btw (hb s j).toNat (hb s (j + 1)).toNat)), .agg ls.toArray, t35, t36, t37], []⟩ (w2.setCells (R1 + 1) 0 ls)) :
    (Code.region 9 r9 true).wp Tryd.prog Q ⟨#[t0, t1, t2, t3, t4, .pointer (some ⟨R1, 0, none⟩), .pointer (some ⟨R1 + 1, 0, none⟩), .int .i64 (j : Int), t8, t9, t10, t11, t12, t13, t14, t15, t16, t17, t18, t19, t20, t21, t22, t23, t24, t25, t26, t27, t28, t29, t30, t31, t32, t33, t34, t35, t36, t37], []⟩ w := by
  have hr0 := hb_rng s j
  have hr1 := hb_rng s (j + 1)
  have hi0 : ∀ w' : World, (Instr.index 9 (.string s) (.int .i64 (j : Int))).run Tryd.prog w' = .ok (.int .u8 (hb s j)) w' := fun w' => by
    have := idx_str s (i := (j : Int)) w' (by omega) (by omega)
    simpa using this
  have hi1 : ∀ w' : World, (Instr.index 9 (.string s) (.int .i64 ((j : Int) + 1))).run Tryd.prog w' = .ok (.int .u8 (hb s (j + 1))) w' := fun w' => by
    have := idx_str s (i := (j : Int) + 1) w' (by omega) (by omega)
    rwa [show ((j : Int) + 1).toNat = j + 1 by omega] at this
  have hwr : IntKind.i64.wrap ((j : Int) + 1) = (j : Int) + 1 := by rw [IntKind.wrap_i64]; omega
  have hcq : cs = (clC f).toList := by rw [← hcs]
  have hll : ls.length = 256 := by have := congrArg Array.size hls; rw [clC_size] at this; simpa using this.symm
  have hl1 : ∀ v ∈ ls, v.oneCell' = true := fun v hv => (Array.all_eq_true_iff_forall_mem.1 (show ls.toArray.all (·.oneCell') = true by rw [← hls]; exact clC_one _)) v (by simpa using hv)
  have hrg : w.rangeAt (R1 + 1) 0 cs := by rw [hcq]; exact cl_val hcl
  have hth : w.there (R1 + 1) 0 256 := row_there hcl
  have hu : Tryd.prog.underlying 109 = some (.array 256 4) := by kernel_rfl
  have hin1 : (Tryd.prog.info? 109).map (·.size) = some cs.length := by rw [info_cl, hcq, Array.length_toList, clC_size]
  have hin2 : (Tryd.prog.info? 109).map (·.size) = some ls.length := by rw [info_cl, hll]
  have HBt := hide (fun W => between_any (hb s j).toNat (hb s (j + 1)).toNat (hb s j) (hb s (j + 1)) (by omega) (by omega) (by omega) (by omega) W)
  have HJo := hide (fun W => joined_any f (btw (hb s j).toNat (hb s (j + 1)).toNat) cs.toArray (clC (btw (hb s j).toNat (hb s (j + 1)).toNat)) hcs rfl W)
  have HK := hide (fun W (hb : Below w.heap.size w W) => (⟨(hb.cell (p := ⟨R1, 1, none⟩) hR).trans hc1, row_there (hcl.low hb hcl.lt), by rw [hcq]; exact cl_val (hcl.low hb hcl.lt)⟩ : W.cell? ⟨R1, 1, none⟩ = some (.string s) ∧ W.there (R1 + 1) 0 256 ∧ W.rangeAt (R1 + 1) 0 cs))
  have HLS := hide hls
  clear hls hcs hcq hr0 hr1
  refine wp_region_held_drew (S := (fun w' : World => w'.cell? ⟨R1, 1, none⟩ = some (.string s) ∧ w'.there (R1 + 1) 0 256)) (by kernel_rfl) ⟨hc1, hth⟩ (fun hHeld => ?_)
  show wpAnyH Tryd.prog .any r9 Q (fun w' : World => w'.cell? ⟨R1, 1, none⟩ = some (.string s) ∧ w'.there (R1 + 1) 0 256) 13 #[false, false, false, false, false, false, false, false, false, false, false, false, false] ⟨#[t0, t1, t2, t3, t4, .pointer (some ⟨R1, 0, none⟩), .pointer (some ⟨R1 + 1, 0, none⟩), .int .i64 (j : Int), t8, t9, t10, t11, t12, t13, t14, t15, t16, t17, t18, t19, t20, t21, t22, t23, t24, t25, t26, t27, t28, t29, t30, t31, t32, t33, t34, t35, t36, t37], []⟩ w.drew
  refine wpAnyH_take (i := 1) (oi := { dst := some 24, op := Op.fieldAddr 122 (Operand.tmp 5) 1, type := 0, pos := "l10_pattern.go:143", after := #[], guard := none }) (v := .pointer (some ⟨R1, 1, none⟩)) rfl (by kernel_rfl) (by kernel_rfl) (by kernel_rfl) (fun c a w h => hQp c a _ _ w h) (Or.inl ⟨by rfl, fun w' hSw => by have hSw1 := hSw.1; clear hSw; go_simp⟩) hHeld ?_
  show wpAnyH Tryd.prog .any r9 Q (fun w' : World => w'.cell? ⟨R1, 1, none⟩ = some (.string s) ∧ w'.there (R1 + 1) 0 256) 12 #[false, true, false, false, false, false, false, false, false, false, false, false, false] ⟨#[t0, t1, t2, t3, t4, .pointer (some ⟨R1, 0, none⟩), .pointer (some ⟨R1 + 1, 0, none⟩), .int .i64 (j : Int), t8, t9, t10, t11, t12, t13, t14, t15, t16, t17, t18, t19, t20, t21, t22, t23, .pointer (some ⟨R1, 1, none⟩), t25, t26, t27, t28, t29, t30, t31, t32, t33, t34, t35, t36, t37], []⟩ w.drew
  refine wpAnyH_take (i := 2) (oi := { dst := some 25, op := Op.load 9 (Operand.tmp 24), type := 9, pos := "l10_pattern.go:143", after := #[{ on := 1, ground := Ground.data }], guard := none }) (v := .string s) rfl (by kernel_rfl) (by kernel_rfl) (by kernel_rfl) (fun c a w h => hQp c a _ _ w h) (Or.inl ⟨by rfl, fun w' hSw => by have hSw1 := hSw.1; clear hSw; go_simp⟩) hHeld ?_
  show wpAnyH Tryd.prog .any r9 Q (fun w' : World => w'.cell? ⟨R1, 1, none⟩ = some (.string s) ∧ w'.there (R1 + 1) 0 256) 11 #[false, true, true, false, false, false, false, false, false, false, false, false, false] ⟨#[t0, t1, t2, t3, t4, .pointer (some ⟨R1, 0, none⟩), .pointer (some ⟨R1 + 1, 0, none⟩), .int .i64 (j : Int), t8, t9, t10, t11, t12, t13, t14, t15, t16, t17, t18, t19, t20, t21, t22, t23, .pointer (some ⟨R1, 1, none⟩), .string s, t26, t27, t28, t29, t30, t31, t32, t33, t34, t35, t36, t37], []⟩ w.drew
  refine wpAnyH_take (i := 3) (oi := { dst := some 26, op := Op.move (Operand.tmp 7), type := 3, pos := "l10_pattern.go:143", after := #[], guard := none }) (v := .int .i64 (j : Int)) rfl (by kernel_rfl) (by kernel_rfl) (by kernel_rfl) (fun c a w h => hQp c a _ _ w h) (Or.inl ⟨by rfl, fun w' hSw => by have hSw1 := hSw.1; clear hSw; go_simp⟩) hHeld ?_
  show wpAnyH Tryd.prog .any r9 Q (fun w' : World => w'.cell? ⟨R1, 1, none⟩ = some (.string s) ∧ w'.there (R1 + 1) 0 256) 10 #[false, true, true, true, false, false, false, false, false, false, false, false, false] ⟨#[t0, t1, t2, t3, t4, .pointer (some ⟨R1, 0, none⟩), .pointer (some ⟨R1 + 1, 0, none⟩), .int .i64 (j : Int), t8, t9, t10, t11, t12, t13, t14, t15, t16, t17, t18, t19, t20, t21, t22, t23, .pointer (some ⟨R1, 1, none⟩), .string s, .int .i64 (j : Int), t27, t28, t29, t30, t31, t32, t33, t34, t35, t36, t37], []⟩ w.drew
  refine wpAnyH_take (i := 4) (oi := { dst := some 27, op := Op.index 9 (Operand.tmp 25) (Operand.tmp 26), type := 5, pos := "l10_pattern.go:143", after := #[{ on := 2, ground := Ground.data }, { on := 3, ground := Ground.data }], guard := none }) (v := .int .u8 (hb s j)) rfl (by kernel_rfl) (by kernel_rfl) (by kernel_rfl) (fun c a w h => hQp c a _ _ w h) (Or.inl ⟨by rfl, fun w' hSw => by have hSw1 := hSw.1; clear hSw; go_simp⟩) hHeld ?_
  show wpAnyH Tryd.prog .any r9 Q (fun w' : World => w'.cell? ⟨R1, 1, none⟩ = some (.string s) ∧ w'.there (R1 + 1) 0 256) 9 #[false, true, true, true, true, false, false, false, false, false, false, false, false] ⟨#[t0, t1, t2, t3, t4, .pointer (some ⟨R1, 0, none⟩), .pointer (some ⟨R1 + 1, 0, none⟩), .int .i64 (j : Int), t8, t9, t10, t11, t12, t13, t14, t15, t16, t17, t18, t19, t20, t21, t22, t23, .pointer (some ⟨R1, 1, none⟩), .string s, .int .i64 (j : Int), .int .u8 (hb s j), t28, t29, t30, t31, t32, t33, t34, t35, t36, t37], []⟩ w.drew
  refine wpAnyH_take (i := 5) (oi := { dst := some 28, op := Op.fieldAddr 122 (Operand.tmp 5) 1, type := 0, pos := "l10_pattern.go:143", after := #[], guard := none }) (v := .pointer (some ⟨R1, 1, none⟩)) rfl (by kernel_rfl) (by kernel_rfl) (by kernel_rfl) (fun c a w h => hQp c a _ _ w h) (Or.inl ⟨by rfl, fun w' hSw => by have hSw1 := hSw.1; clear hSw; go_simp⟩) hHeld ?_
  show wpAnyH Tryd.prog .any r9 Q (fun w' : World => w'.cell? ⟨R1, 1, none⟩ = some (.string s) ∧ w'.there (R1 + 1) 0 256) 8 #[false, true, true, true, true, true, false, false, false, false, false, false, false] ⟨#[t0, t1, t2, t3, t4, .pointer (some ⟨R1, 0, none⟩), .pointer (some ⟨R1 + 1, 0, none⟩), .int .i64 (j : Int), t8, t9, t10, t11, t12, t13, t14, t15, t16, t17, t18, t19, t20, t21, t22, t23, .pointer (some ⟨R1, 1, none⟩), .string s, .int .i64 (j : Int), .int .u8 (hb s j), .pointer (some ⟨R1, 1, none⟩), t29, t30, t31, t32, t33, t34, t35, t36, t37], []⟩ w.drew
  refine wpAnyH_take (i := 6) (oi := { dst := some 29, op := Op.load 9 (Operand.tmp 28), type := 9, pos := "l10_pattern.go:143", after := #[{ on := 5, ground := Ground.data }], guard := none }) (v := .string s) rfl (by kernel_rfl) (by kernel_rfl) (by kernel_rfl) (fun c a w h => hQp c a _ _ w h) (Or.inl ⟨by rfl, fun w' hSw => by have hSw1 := hSw.1; clear hSw; go_simp⟩) hHeld ?_
  show wpAnyH Tryd.prog .any r9 Q (fun w' : World => w'.cell? ⟨R1, 1, none⟩ = some (.string s) ∧ w'.there (R1 + 1) 0 256) 7 #[false, true, true, true, true, true, true, false, false, false, false, false, false] ⟨#[t0, t1, t2, t3, t4, .pointer (some ⟨R1, 0, none⟩), .pointer (some ⟨R1 + 1, 0, none⟩), .int .i64 (j : Int), t8, t9, t10, t11, t12, t13, t14, t15, t16, t17, t18, t19, t20, t21, t22, t23, .pointer (some ⟨R1, 1, none⟩), .string s, .int .i64 (j : Int), .int .u8 (hb s j), .pointer (some ⟨R1, 1, none⟩), .string s, t30, t31, t32, t33, t34, t35, t36, t37], []⟩ w.drew
  refine wpAnyH_take (i := 7) (oi := { dst := some 30, op := Op.move (Operand.tmp 7), type := 3, pos := "l10_pattern.go:143", after := #[], guard := none }) (v := .int .i64 (j : Int)) rfl (by kernel_rfl) (by kernel_rfl) (by kernel_rfl) (fun c a w h => hQp c a _ _ w h) (Or.inl ⟨by rfl, fun w' hSw => by have hSw1 := hSw.1; clear hSw; go_simp⟩) hHeld ?_
  show wpAnyH Tryd.prog .any r9 Q (fun w' : World => w'.cell? ⟨R1, 1, none⟩ = some (.string s) ∧ w'.there (R1 + 1) 0 256) 6 #[false, true, true, true, true, true, true, true, false, false, false, false, false] ⟨#[t0, t1, t2, t3, t4, .pointer (some ⟨R1, 0, none⟩), .pointer (some ⟨R1 + 1, 0, none⟩), .int .i64 (j : Int), t8, t9, t10, t11, t12, t13, t14, t15, t16, t17, t18, t19, t20, t21, t22, t23, .pointer (some ⟨R1, 1, none⟩), .string s, .int .i64 (j : Int), .int .u8 (hb s j), .pointer (some ⟨R1, 1, none⟩), .string s, .int .i64 (j : Int), t31, t32, t33, t34, t35, t36, t37], []⟩ w.drew
  refine wpAnyH_take (i := 8) (oi := { dst := some 31, op := Op.binOp BinOp.add 3 (Operand.tmp 30) (Operand.const (Value.int IntKind.i64 1)) 3, type := 3, pos := "l10_pattern.go:143", after := #[{ on := 7, ground := Ground.data }], guard := none }) (v := .int .i64 ((j : Int) + 1)) rfl (by kernel_rfl) (by kernel_rfl) (by kernel_rfl) (fun c a w h => hQp c a _ _ w h) (Or.inl ⟨by rfl, fun w' hSw => by have hSw1 := hSw.1; clear hSw; go_simp⟩) hHeld ?_
  show wpAnyH Tryd.prog .any r9 Q (fun w' : World => w'.cell? ⟨R1, 1, none⟩ = some (.string s) ∧ w'.there (R1 + 1) 0 256) 5 #[false, true, true, true, true, true, true, true, true, false, false, false, false] ⟨#[t0, t1, t2, t3, t4, .pointer (some ⟨R1, 0, none⟩), .pointer (some ⟨R1 + 1, 0, none⟩), .int .i64 (j : Int), t8, t9, t10, t11, t12, t13, t14, t15, t16, t17, t18, t19, t20, t21, t22, t23, .pointer (some ⟨R1, 1, none⟩), .string s, .int .i64 (j : Int), .int .u8 (hb s j), .pointer (some ⟨R1, 1, none⟩), .string s, .int .i64 (j : Int), .int .i64 ((j : Int) + 1), t32, t33, t34, t35, t36, t37], []⟩ w.drew
  refine wpAnyH_take (i := 9) (oi := { dst := some 32, op := Op.index 9 (Operand.tmp 29) (Operand.tmp 31), type := 5, pos := "l10_pattern.go:143", after := #[{ on := 6, ground := Ground.data }, { on := 8, ground := Ground.data }], guard := none }) (v := .int .u8 (hb s (j + 1))) rfl (by kernel_rfl) (by kernel_rfl) (by kernel_rfl) (fun c a w h => hQp c a _ _ w h) (Or.inl ⟨by rfl, fun w' hSw => by have hSw1 := hSw.1; clear hSw; go_simp⟩) hHeld ?_
  show wpAnyH Tryd.prog .any r9 Q (fun w' : World => w'.cell? ⟨R1, 1, none⟩ = some (.string s) ∧ w'.there (R1 + 1) 0 256) 4 #[false, true, true, true, true, true, true, true, true, true, false, false, false] ⟨#[t0, t1, t2, t3, t4, .pointer (some ⟨R1, 0, none⟩), .pointer (some ⟨R1 + 1, 0, none⟩), .int .i64 (j : Int), t8, t9, t10, t11, t12, t13, t14, t15, t16, t17, t18, t19, t20, t21, t22, t23, .pointer (some ⟨R1, 1, none⟩), .string s, .int .i64 (j : Int), .int .u8 (hb s j), .pointer (some ⟨R1, 1, none⟩), .string s, .int .i64 (j : Int), .int .i64 ((j : Int) + 1), .int .u8 (hb s (j + 1)), t33, t34, t35, t36, t37], []⟩ w.drew
  refine wpAnyH_ready (rs := [0, 10]) (by kernel_rfl) (by simp) ?_
  refine AllReadyH.cons (o := { dst := some 23, op := Op.load 109 (Operand.tmp 6), type := 109, pos := "l10_pattern.go:143", after := #[], guard := none }) rfl (fun K hK => ?_) (AllReadyH.cons (o := { dst := some 33, op := Op.call { callee := Callee.value (Operand.func 85), args := #[Operand.tmp 27, Operand.tmp 32], argTypes := #[5, 5] }, type := 109, pos := "l10_pattern.go:143", after := #[{ on := 4, ground := Ground.data }, { on := 9, ground := Ground.data }], guard := none }) rfl (fun K hK => ?_) AllReadyH.nil)
  · rw [if_pos (by rfl)]
    refine wp_load_mid 109 (.tmp 6) rfl (R1 + 1) 0 rfl cs (.array 256 4) hrg hu rfl hin1 ?_
    refine hK.out _ _ ⟨hc1, hth⟩ (fun hHeld => ?_)
    clear hK K
    show wpAnyH Tryd.prog .any r9 Q (fun w' : World => w'.cell? ⟨R1, 1, none⟩ = some (.string s) ∧ w'.there (R1 + 1) 0 256) 3 #[true, true, true, true, true, true, true, true, true, true, false, false, false] ⟨#[t0, t1, t2, t3, t4, .pointer (some ⟨R1, 0, none⟩), .pointer (some ⟨R1 + 1, 0, none⟩), .int .i64 (j : Int), t8, t9, t10, t11, t12, t13, t14, t15, t16, t17, t18, t19, t20, t21, t22, .agg cs.toArray, .pointer (some ⟨R1, 1, none⟩), .string s, .int .i64 (j : Int), .int .u8 (hb s j), .pointer (some ⟨R1, 1, none⟩), .string s, .int .i64 (j : Int), .int .i64 ((j : Int) + 1), .int .u8 (hb s (j + 1)), t33, t34, t35, t36, t37], []⟩ w.drew
    refine wpAnyH_ready (rs := [10]) (by kernel_rfl) (by simp) ?_
    refine AllReadyH.cons (o := { dst := some 33, op := Op.call { callee := Callee.value (Operand.func 85), args := #[Operand.tmp 27, Operand.tmp 32], argTypes := #[5, 5] }, type := 109, pos := "l10_pattern.go:143", after := #[{ on := 4, ground := Ground.data }, { on := 9, ground := Ground.data }], guard := none }) rfl (fun K hK => ?_) AllReadyH.nil
    rw [if_pos (by rfl)]
    go_wp2_with (go_at_call 85; fail)
    refine (HBt.out _).mono ?_
    rintro e w1 ⟨rfl, hb0⟩
    have hb1 := below_of_drew hb0
    clear hb0
    obtain ⟨hk1, ht1, hr1⟩ := HK.out _ hb1
    have HB1 := hide hb1
    clear hb1
    go_wp2_with fail
    refine hK.out _ _ ⟨hk1, ht1⟩ (fun hHeld => ?_)
    clear hK K
    show wpAnyH Tryd.prog .any r9 Q (fun w' : World => w'.cell? ⟨R1, 1, none⟩ = some (.string s) ∧ w'.there (R1 + 1) 0 256) 2 #[true, true, true, true, true, true, true, true, true, true, true, false, false] ⟨#[t0, t1, t2, t3, t4, .pointer (some ⟨R1, 0, none⟩), .pointer (some ⟨R1 + 1, 0, none⟩), .int .i64 (j : Int), t8, t9, t10, t11, t12, t13, t14, t15, t16, t17, t18, t19, t20, t21, t22, .agg cs.toArray, .pointer (some ⟨R1, 1, none⟩), .string s, .int .i64 (j : Int), .int .u8 (hb s j), .pointer (some ⟨R1, 1, none⟩), .string s, .int .i64 (j : Int), .int .i64 ((j : Int) + 1), .int .u8 (hb s (j + 1)), .agg (clC (btw (hb s j).toNat (hb s (j + 1)).toNat)), t34, t35, t36, t37], []⟩ w1
    refine wpAnyH_ready (rs := [11]) (by kernel_rfl) (by simp) ?_
    refine AllReadyH.cons (o := { dst := some 34, op := Op.call { callee := Callee.value (Operand.func 81), args := #[Operand.tmp 23, Operand.tmp 33], argTypes := #[109, 109] }, type := 109, pos := "l10_pattern.go:143", after := #[{ on := 0, ground := Ground.data }, { on := 10, ground := Ground.data }, { on := 10, ground := Ground.chain }], guard := none }) rfl (fun K hK => ?_) AllReadyH.nil
    rw [if_pos (by rfl)]
    go_wp2_with (go_at_call 81; fail)
    refine (HJo.out _).mono ?_
    rintro e w2 ⟨rfl, hb2⟩
    rw [HLS.out]
    have HB2 := hide (HB1.out.trans (hb2.mono HB1.out.size))
    obtain ⟨hk2, ht2, hr2⟩ := HK.out _ HB2.out
    clear hb2
    go_wp2_with fail
    refine hK.out _ _ ⟨hk2, ht2⟩ (fun hHeld => ?_)
    clear hK K
    show wpAnyH Tryd.prog .any r9 Q (fun w' : World => w'.cell? ⟨R1, 1, none⟩ = some (.string s) ∧ w'.there (R1 + 1) 0 256) 1 #[true, true, true, true, true, true, true, true, true, true, true, true, false] ⟨#[t0, t1, t2, t3, t4, .pointer (some ⟨R1, 0, none⟩), .pointer (some ⟨R1 + 1, 0, none⟩), .int .i64 (j : Int), t8, t9, t10, t11, t12, t13, t14, t15, t16, t17, t18, t19, t20, t21, t22, .agg cs.toArray, .pointer (some ⟨R1, 1, none⟩), .string s, .int .i64 (j : Int), .int .u8 (hb s j), .pointer (some ⟨R1, 1, none⟩), .string s, .int .i64 (j : Int), .int .i64 ((j : Int) + 1), .int .u8 (hb s (j + 1)), .agg (clC (btw (hb s j).toNat (hb s (j + 1)).toNat)), .agg ls.toArray, t35, t36, t37], []⟩ w2
    refine wpAnyH_ready (rs := [12]) (by kernel_rfl) (by simp) ?_
    refine AllReadyH.cons (o := { dst := none, op := Op.store 109 (Operand.tmp 6) (Operand.tmp 34), type := 0, pos := "l10_pattern.go:143", after := #[{ on := 11, ground := Ground.data }, { on := 11, ground := Ground.chain }, { on := 0, ground := Ground.phase }, { on := 1, ground := Ground.phase }, { on := 2, ground := Ground.phase }, { on := 3, ground := Ground.phase }, { on := 4, ground := Ground.phase }, { on := 5, ground := Ground.phase }, { on := 6, ground := Ground.phase }, { on := 7, ground := Ground.phase }, { on := 8, ground := Ground.phase }, { on := 9, ground := Ground.phase }, { on := 10, ground := Ground.phase }, { on := 11, ground := Ground.phase }], guard := none }) rfl (fun K hK => ?_) AllReadyH.nil
    rw [if_pos (by rfl)]
    refine wp_store_mid 109 (.tmp 6) (.tmp 34) rfl (R1 + 1) 0 ls.toArray rfl rfl (by rw [List.size_toArray, hll]; exact ht2) (by rw [List.size_toArray]; exact hin2) (all_oneCell_toArray hl1) ?_
    refine hK.out _ _ ⟨(cell_setCells_other (by omega) _ _ _).trans hk2, World.there_setCells ht2 _ _ _⟩ (fun hHeld => ?_)
    clear hK K
    refine wpAnyH_done (by kernel_rfl) ?_ _
    exact hpost _ HB2.out
  · rw [if_pos (by rfl)]
    go_wp2_with (go_at_call 85; fail)
    refine (HBt.out _).mono ?_
    rintro e w1 ⟨rfl, hb0⟩
    have hb1 := below_of_drew hb0
    clear hb0
    obtain ⟨hk1, ht1, hr1⟩ := HK.out _ hb1
    have HB1 := hide hb1
    clear hb1
    go_wp2_with fail
    refine hK.out _ _ ⟨hk1, ht1⟩ (fun hHeld => ?_)
    clear hK K
    show wpAnyH Tryd.prog .any r9 Q (fun w' : World => w'.cell? ⟨R1, 1, none⟩ = some (.string s) ∧ w'.there (R1 + 1) 0 256) 3 #[false, true, true, true, true, true, true, true, true, true, true, false, false] ⟨#[t0, t1, t2, t3, t4, .pointer (some ⟨R1, 0, none⟩), .pointer (some ⟨R1 + 1, 0, none⟩), .int .i64 (j : Int), t8, t9, t10, t11, t12, t13, t14, t15, t16, t17, t18, t19, t20, t21, t22, t23, .pointer (some ⟨R1, 1, none⟩), .string s, .int .i64 (j : Int), .int .u8 (hb s j), .pointer (some ⟨R1, 1, none⟩), .string s, .int .i64 (j : Int), .int .i64 ((j : Int) + 1), .int .u8 (hb s (j + 1)), .agg (clC (btw (hb s j).toNat (hb s (j + 1)).toNat)), t34, t35, t36, t37], []⟩ w1
    refine wpAnyH_ready (rs := [0]) (by kernel_rfl) (by simp) ?_
    refine AllReadyH.cons (o := { dst := some 23, op := Op.load 109 (Operand.tmp 6), type := 109, pos := "l10_pattern.go:143", after := #[], guard := none }) rfl (fun K hK => ?_) AllReadyH.nil
    rw [if_pos (by rfl)]
    refine wp_load_mid 109 (.tmp 6) rfl (R1 + 1) 0 rfl cs (.array 256 4) hr1 hu rfl hin1 ?_
    refine hK.out _ _ ⟨hk1, ht1⟩ (fun hHeld => ?_)
    clear hK K
    show wpAnyH Tryd.prog .any r9 Q (fun w' : World => w'.cell? ⟨R1, 1, none⟩ = some (.string s) ∧ w'.there (R1 + 1) 0 256) 2 #[true, true, true, true, true, true, true, true, true, true, true, false, false] ⟨#[t0, t1, t2, t3, t4, .pointer (some ⟨R1, 0, none⟩), .pointer (some ⟨R1 + 1, 0, none⟩), .int .i64 (j : Int), t8, t9, t10, t11, t12, t13, t14, t15, t16, t17, t18, t19, t20, t21, t22, .agg cs.toArray, .pointer (some ⟨R1, 1, none⟩), .string s, .int .i64 (j : Int), .int .u8 (hb s j), .pointer (some ⟨R1, 1, none⟩), .string s, .int .i64 (j : Int), .int .i64 ((j : Int) + 1), .int .u8 (hb s (j + 1)), .agg (clC (btw (hb s j).toNat (hb s (j + 1)).toNat)), t34, t35, t36, t37], []⟩ w1
    refine wpAnyH_ready (rs := [11]) (by kernel_rfl) (by simp) ?_
    refine AllReadyH.cons (o := { dst := some 34, op := Op.call { callee := Callee.value (Operand.func 81), args := #[Operand.tmp 23, Operand.tmp 33], argTypes := #[109, 109] }, type := 109, pos := "l10_pattern.go:143", after := #[{ on := 0, ground := Ground.data }, { on := 10, ground := Ground.data }, { on := 10, ground := Ground.chain }], guard := none }) rfl (fun K hK => ?_) AllReadyH.nil
    rw [if_pos (by rfl)]
    go_wp2_with (go_at_call 81; fail)
    refine (HJo.out _).mono ?_
    rintro e w2 ⟨rfl, hb2⟩
    rw [HLS.out]
    have HB2 := hide (HB1.out.trans (hb2.mono HB1.out.size))
    obtain ⟨hk2, ht2, hr2⟩ := HK.out _ HB2.out
    clear hb2
    go_wp2_with fail
    refine hK.out _ _ ⟨hk2, ht2⟩ (fun hHeld => ?_)
    clear hK K
    show wpAnyH Tryd.prog .any r9 Q (fun w' : World => w'.cell? ⟨R1, 1, none⟩ = some (.string s) ∧ w'.there (R1 + 1) 0 256) 1 #[true, true, true, true, true, true, true, true, true, true, true, true, false] ⟨#[t0, t1, t2, t3, t4, .pointer (some ⟨R1, 0, none⟩), .pointer (some ⟨R1 + 1, 0, none⟩), .int .i64 (j : Int), t8, t9, t10, t11, t12, t13, t14, t15, t16, t17, t18, t19, t20, t21, t22, .agg cs.toArray, .pointer (some ⟨R1, 1, none⟩), .string s, .int .i64 (j : Int), .int .u8 (hb s j), .pointer (some ⟨R1, 1, none⟩), .string s, .int .i64 (j : Int), .int .i64 ((j : Int) + 1), .int .u8 (hb s (j + 1)), .agg (clC (btw (hb s j).toNat (hb s (j + 1)).toNat)), .agg ls.toArray, t35, t36, t37], []⟩ w2
    refine wpAnyH_ready (rs := [12]) (by kernel_rfl) (by simp) ?_
    refine AllReadyH.cons (o := { dst := none, op := Op.store 109 (Operand.tmp 6) (Operand.tmp 34), type := 0, pos := "l10_pattern.go:143", after := #[{ on := 11, ground := Ground.data }, { on := 11, ground := Ground.chain }, { on := 0, ground := Ground.phase }, { on := 1, ground := Ground.phase }, { on := 2, ground := Ground.phase }, { on := 3, ground := Ground.phase }, { on := 4, ground := Ground.phase }, { on := 5, ground := Ground.phase }, { on := 6, ground := Ground.phase }, { on := 7, ground := Ground.phase }, { on := 8, ground := Ground.phase }, { on := 9, ground := Ground.phase }, { on := 10, ground := Ground.phase }, { on := 11, ground := Ground.phase }], guard := none }) rfl (fun K hK => ?_) AllReadyH.nil
    rw [if_pos (by rfl)]
    refine wp_store_mid 109 (.tmp 6) (.tmp 34) rfl (R1 + 1) 0 ls.toArray rfl rfl (by rw [List.size_toArray, hll]; exact ht2) (by rw [List.size_toArray]; exact hin2) (all_oneCell_toArray hl1) ?_
    refine hK.out _ _ ⟨(cell_setCells_other (by omega) _ _ _).trans hk2, World.there_setCells ht2 _ _ _⟩ (fun hHeld => ?_)
    clear hK K
    refine wpAnyH_done (by kernel_rfl) ?_ _
    exact hpost _ HB2.out

end Go.Proofs.YtemciphihnpniaaDoor
