import Derived.Lib.LaidU8
import Derived.Test.YtamdnnkdnhkghaaGreatDoorP25
import Derived.Laws.RangeAny
import Derived.Laws.RangeString
import Derived.Laws.Runes
import Derived.Laws.Strings3
import Derived.Deep.LoopGhost
import Derived.Test.YtamdnnkdnhkghaaGreatDoorP09
import Derived.Laws.FloatArith
import Derived.Test.YtamdnnkdnhkghaaGreatDoorP04
import Derived.Laws.Bits64
import Derived.Laws.BitsAllLaws
import Derived.Lib.Strings
import Derived.Lib.IndexAny
import Derived.Lib.IndexMore
import Derived.Test.YtamdnnkdnhkghaaGreatDoorP20
namespace Go.Proofs.YtamdnnkdnhkghaaGreatDoor

open Go Go.RowKit Go.Lib

set_option linter.unusedVariables false

section

variable {H : Type} {enc : TypeId × Value → H} {P : Program} {w : World} {base : Nat} {sp : Nat → Bool} {held : Bool} {fuel : Nat}

theorem trod_float {t : TypeId} {k : FloatKind} {cs : List Value} {x : DataW H × List MemPlace} (ht : P.underlying t = some (.float k)) (h : DataW.trod enc P w base sp held fuel t cs = some x) : ∃ n, cs = [.float k n] ∧ x = (.lit (.float k n), []) := by
  cases fuel with
  | zero => simp [DataW.trod] at h
  | succ fuel =>
    unfold DataW.trod at h
    rw [ht] at h
    split at h <;> simp_all

/-- The elements of a listed slice: where they lie, what each reads as. -/
theorem slice_elems {t e : TypeId} {cs : List Value} {ds : List (DataW H)} {p : List MemPlace} (ht : P.underlying t = some (.slice e)) (hsp : ∀ b, sp b = true) (h : DataW.trod enc P w base sp held fuel t cs = some (.slice ds [], p)) :
    ∃ (a : Addr) (n : Nat), cs = [.slice (some a) ds.length ds.length] ∧ ∀ i d, ds[i]? = some d → ∃ cs' q, w.cells? base (a.add (i * P.cellsOf e)) (P.cellsOf e) = some cs' ∧ DataW.trod enc P w base sp held n e cs' = some (d, q) := by
  rcases DataW.trod_slice ht h with ⟨_, h2⟩ | ⟨a, len, cap, elems, rest, n, h1, h2, h3, h4, h5, h6, h7, h8, h9, h10⟩
  · cases h2
  · have e1 : elems.map (·.1) = ds := by have := congrArg Prod.fst h3; simp at this; exact this.1.symm
    have e2 : rest = [] := by have := congrArg Prod.fst h3; simp at this; exact this.2
    have e3 := (h9 (hsp _)).1
    rw [e2] at e3
    have hlen : ds.length = len := by rw [← e1, List.length_map]; exact h7
    have hcap : cap = len := by simp at e3; omega
    refine ⟨a, n, by rw [h2, hcap, hlen], fun i d hd => ?_⟩
    have hi : i < len := by
      have := (List.getElem?_eq_some_iff.1 hd).1
      omega
    have h11 := h8 i hi
    rw [← e1, List.getElem?_map] at hd
    cases he : elems[i]? with
    | none => rw [he] at hd; cases hd
    | some y =>
      rw [he] at hd h11
      obtain ⟨cs', hc1, hc2⟩ := Option.bind_eq_some_iff.1 h11
      refine ⟨cs', y.2, hc1, ?_⟩
      rw [hc2]
      have : y.1 = d := by simpa using hd
      rw [← this]

end

theorem cells_at {w : World} {base n : Nat} {a : Addr} {cs : List Value} (h : w.cells? base a n = some cs) {i : Nat} (hi : i < n) : w.cell? (a.add i) = cs[i]? := by
  unfold World.cells? at h
  split at h
  · obtain ⟨b, h1, h2⟩ := mapM_at h i i (by simp [hi])
    rw [h1, h2]
  · cases h

theorem cell_lt {w : World} {b o : Nat} {sp : Option Nat} {v : Value} (h : w.cell? ⟨b, o, sp⟩ = some v) : b < w.heap.size := by
  rcases Nat.lt_or_ge b w.heap.size with g | g
  · exact g
  · exfalso
    unfold World.cell? at h
    rw [Array.getElem?_eq_none g] at h
    cases h

theorem add_none (b o k : Nat) : (⟨b, o, none⟩ : Addr).add k = ⟨b, o + k, none⟩ := by
  unfold Addr.add
  split
  · rename_i h; subst h; rfl
  · rfl

theorem rd_optimize {L : List (String × DataW Unit)} {W : World} (h : laidMet Tryz.prog L W) (hm : ("internal/strconv.optimize", Rows.laid_internal_strconv_optimize) ∈ L)  : W.cell? ⟨12, 0, none⟩ = some (.bool true) := by
  obtain ⟨g, t, cs, fuel, p, hg, hty, hvar, hd⟩ := laidMet.reads h (n := "internal/strconv.optimize") (d := Rows.laid_internal_strconv_optimize) hm
  obtain rfl := Option.some.inj ((show Tryz.prog.globalNamed "internal/strconv.optimize" = some 12 by kernel_rfl).symm.trans hg)
  obtain rfl := Option.some.inj ((show (Tryz.prog.globals[12]?).map (·.type) = some 4 by kernel_rfl).symm.trans hty)
  obtain ⟨b, h1, h2⟩ := DataW.trod_bool Tryz.underlying4 hd
  have hb : b = true := by
    have := congrArg Prod.fst h2
    unfold Rows.laid_internal_strconv_optimize at this
    simp at this
    exact this
  rw [World.var?_cell hg hvar 0, ← Array.getElem?_toList, h1, hb]
  rfl

theorem rd_info {L : List (String × DataW Unit)} {W : World} (h : laidMet Tryz.prog L W) (hm : ("internal/strconv.float64info", Rows.laid_internal_strconv_float64info) ∈ L)  : W.cell? ⟨14, 0, none⟩ = some (.int .u64 52) ∧ W.cell? ⟨14, 1, none⟩ = some (.int .u64 11) ∧ W.cell? ⟨14, 2, none⟩ = some (.int .i64 (-1023)) := by
  obtain ⟨g, t, cs, fuel, p, hg, hty, hvar, hd⟩ := laidMet.reads h (n := "internal/strconv.float64info") (d := Rows.laid_internal_strconv_float64info) hm
  obtain rfl := Option.some.inj ((show Tryz.prog.globalNamed "internal/strconv.float64info" = some 14 by kernel_rfl).symm.trans hg)
  obtain rfl := Option.some.inj ((show (Tryz.prog.globals[14]?).map (·.type) = some 238 by kernel_rfl).symm.trans hty)
  obtain ⟨xs, n, rfl, hx, hl, hxl, hall⟩ := DataW.trod_struct Tryz.underlying238 hd
  have hxs : xs.map (·.1) = [.lit (.int .u64 52), .lit (.int .u64 11), .lit (.int .i64 (-1023))] := by
    have := congrArg Prod.fst hx
    unfold Rows.laid_internal_strconv_float64info at this
    simp at this
    exact this.symm
  have c47 : Tryz.prog.cellsOf 84 = 1 := by kernel_rfl
  have c3 : Tryz.prog.cellsOf 3 = 1 := by kernel_rfl
  have f0 : DataW.trod (fun _ => ()) Tryz.prog W 0 (fun _ => true) false n 84 ((cs.toList.drop 0).take (Tryz.prog.cellsOf 84)) = xs[0]? := hall 0 _ rfl
  have f1 : DataW.trod (fun _ => ()) Tryz.prog W 0 (fun _ => true) false n 84 ((cs.toList.drop 1).take (Tryz.prog.cellsOf 84)) = xs[1]? := hall 1 _ rfl
  have f2 : DataW.trod (fun _ => ()) Tryz.prog W 0 (fun _ => true) false n 3 ((cs.toList.drop 2).take (Tryz.prog.cellsOf 3)) = xs[2]? := hall 2 _ rfl
  rw [c47] at f0 f1
  rw [c3] at f2
  have g0 := congrArg (·[0]?) hxs
  have g1 := congrArg (·[1]?) hxs
  have g2 := congrArg (·[2]?) hxs
  simp only [List.getElem?_map] at g0 g1 g2
  obtain ⟨y0, hy0, e0⟩ := Option.map_eq_some_iff.1 g0
  obtain ⟨y1, hy1, e1⟩ := Option.map_eq_some_iff.1 g1
  obtain ⟨y2, hy2, e2⟩ := Option.map_eq_some_iff.1 g2
  rw [hy0] at f0
  rw [hy1] at f1
  rw [hy2] at f2
  obtain ⟨n0, k0, l0, _⟩ := DataW.trod_int Tryz.underlying84 f0
  obtain ⟨n1, k1, l1, _⟩ := DataW.trod_int Tryz.underlying84 f1
  obtain ⟨n2, k2, l2, _⟩ := DataW.trod_int Tryz.underlying3 f2
  rw [l0] at e0
  rw [l1] at e1
  rw [l2] at e2
  simp at e0 e1 e2
  subst e0 e1 e2
  refine ⟨?_, ?_, ?_⟩
  · rw [World.var?_cell hg hvar 0, ← Array.getElem?_toList]
    have := congrArg (·[0]?) k0
    simpa [List.getElem?_take, List.getElem?_drop] using this
  · rw [World.var?_cell hg hvar 1, ← Array.getElem?_toList]
    have := congrArg (·[0]?) k1
    simpa [List.getElem?_take, List.getElem?_drop] using this
  · rw [World.var?_cell hg hvar 2, ← Array.getElem?_toList]
    have := congrArg (·[0]?) k2
    simpa [List.getElem?_take, List.getElem?_drop] using this

theorem rd_powtab {L : List (String × DataW Unit)} {W : World} (h : laidMet Tryz.prog L W) (hm : ("internal/strconv.powtab", Rows.laid_internal_strconv_powtab) ∈ L)  : ∃ P po, W.cell? ⟨18, 0, none⟩ = some (.slice (some ⟨P, po, none⟩) 9 9) ∧ P < W.heap.size ∧ ∀ k, k < 9 → W.cell? ⟨P, po + k, none⟩ = some (.int .i64 (powRow.getD k 0 : Nat)) := by
  obtain ⟨g, t, cs, fuel, p, hg, hty, hvar, hd⟩ := laidMet.reads h (n := "internal/strconv.powtab") (d := Rows.laid_internal_strconv_powtab) hm
  obtain rfl := Option.some.inj ((show Tryz.prog.globalNamed "internal/strconv.powtab" = some 18 by kernel_rfl).symm.trans hg)
  obtain rfl := Option.some.inj ((show (Tryz.prog.globals[18]?).map (·.type) = some 121 by kernel_rfl).symm.trans hty)
  have hdat : (Rows.laid_internal_strconv_powtab : DataW Unit) = .slice (powRow.map fun z => .lit (.int .i64 (z : Nat))) [] := rfl
  rw [hdat] at hd
  obtain ⟨a, n, h1, h2⟩ := slice_elems Tryz.underlying121 (fun _ => rfl) hd
  have c3 : Tryz.prog.cellsOf 3 = 1 := by kernel_rfl
  rw [c3] at h2
  have key : ∀ k, k < 9 → W.cell? (a.add (k * 1)) = some (.int .i64 (powRow.getD k 0 : Nat)) := by
    intro k hk
    obtain ⟨cs', q, h3, h4⟩ := h2 k (.lit (.int .i64 (powRow.getD k 0 : Nat))) (by
      have : ∀ k : Fin 9, (powRow.map fun z => (DataW.lit (.int .i64 ((z : Nat) : Int)) : DataW Unit))[k.val]? = some (.lit (.int .i64 (powRow.getD k.val 0 : Nat))) := by
        intro k
        have hk : k.val < powRow.length := k.isLt
        rw [List.getElem?_map, List.getElem?_eq_getElem hk, List.getD_eq_getElem?_getD, List.getElem?_eq_getElem hk]
        rfl
      exact this ⟨k, hk⟩)
    obtain ⟨m, k1, l1, _⟩ := DataW.trod_int Tryz.underlying3 h4
    have := congrArg Prod.fst l1
    simp at this
    have h5 := cells_at h3 (i := 0) (by omega)
    rw [k1, ← this] at h5
    exact h5
  obtain ⟨P, po, sp⟩ := a
  have hsp : sp = none := cell_spot (key 0 (by omega))
  subst hsp
  refine ⟨P, po, ?_, cell_lt (key 0 (by omega)), fun k hk => ?_⟩
  · rw [World.var?_cell hg hvar 0, ← Array.getElem?_toList, h1]; rfl
  · have := key k hk
    rw [Nat.mul_one, add_none] at this
    exact this

end Go.Proofs.YtamdnnkdnhkghaaGreatDoor

namespace Go.Proofs.YtamdnnkdnhkghaaGreatDoor

open Go Go.RowKit Go.Lib

set_option linter.unusedVariables false

theorem getD_of {α β : Type} {l : List α} {f : α → β} {k : Nat} {x : α} (h : k < l.length) : (l.map f)[k]? = some (f (l.getD k x)) := by
  rw [List.getElem?_map, List.getElem?_eq_getElem h, List.getD_eq_getElem?_getD, List.getElem?_eq_getElem h]
  rfl

theorem rd_tens {L : List (String × DataW Unit)} {W : World} (h : laidMet Tryz.prog L W) (hm : ("internal/strconv.float64pow10", Rows.laid_internal_strconv_float64pow10) ∈ L)  : ∃ G o, W.cell? ⟨19, 0, none⟩ = some (.slice (some ⟨G, o, none⟩) 23 23) ∧ G < W.heap.size ∧ ∀ k, k < 23 → W.cell? ⟨G, o + k, none⟩ = some (.float .f64 (pow10Words.getD k 0)) := by
  obtain ⟨g, t, cs, fuel, p, hg, hty, hvar, hd⟩ := laidMet.reads h (n := "internal/strconv.float64pow10") (d := Rows.laid_internal_strconv_float64pow10) hm
  obtain rfl := Option.some.inj ((show Tryz.prog.globalNamed "internal/strconv.float64pow10" = some 19 by kernel_rfl).symm.trans hg)
  obtain rfl := Option.some.inj ((show (Tryz.prog.globals[19]?).map (·.type) = some 267 by kernel_rfl).symm.trans hty)
  have hdat : (Rows.laid_internal_strconv_float64pow10 : DataW Unit) = .slice (pow10Words.map fun z => .lit (.float .f64 z)) [] := rfl
  rw [hdat] at hd
  obtain ⟨a, n, h1, h2⟩ := slice_elems Tryz.underlying267 (fun _ => rfl) hd
  have c52 : Tryz.prog.cellsOf 45 = 1 := by kernel_rfl
  have hlen : pow10Words.length = 23 := rfl
  rw [c52] at h2
  have key : ∀ k, k < 23 → W.cell? (a.add (k * 1)) = some (.float .f64 (pow10Words.getD k 0)) := by
    intro k hk
    obtain ⟨cs', q, h3, h4⟩ := h2 k _ (getD_of (x := 0) (by rw [hlen]; exact hk))
    obtain ⟨m, k1, l1⟩ := trod_float Tryz.underlying45 h4
    have := congrArg Prod.fst l1
    simp only [DataW.lit.injEq, Lit.float.injEq, true_and] at this
    have h5 := cells_at h3 (i := 0) (by omega)
    rw [k1, ← this] at h5
    exact h5
  obtain ⟨P, po, sp⟩ := a
  have hsp : sp = none := cell_spot (key 0 (by omega))
  subst hsp
  refine ⟨P, po, ?_, cell_lt (key 0 (by omega)), fun k hk => ?_⟩
  · rw [World.var?_cell hg hvar 0, ← Array.getElem?_toList, h1]; rfl
  · have := key k hk
    rw [Nat.mul_one, add_none] at this
    exact this

theorem rd_range {L : List (String × DataW Unit)} {W : World} (h : laidMet Tryz.prog L W) (hm : ("strconv.ErrRange", Rows.laid_strconv_ErrRange) ∈ L)  : ∃ te pe, W.cell? ⟨9, 0, none⟩ = some (.iface te pe) := by
  obtain ⟨g, t, cs, fuel, p, hg, hty, hvar, hd⟩ := laidMet.reads h (n := "strconv.ErrRange") (d := Rows.laid_strconv_ErrRange) hm
  obtain rfl := Option.some.inj ((show Tryz.prog.globalNamed "strconv.ErrRange" = some 9 by kernel_rfl).symm.trans hg)
  obtain rfl := Option.some.inj ((show (Tryz.prog.globals[9]?).map (·.type) = some 61 by kernel_rfl).symm.trans hty)
  obtain ⟨f', u, v, h1, _, _⟩ := iface_of_trod Tryz.underlying61 hd
  refine ⟨u, v, ?_⟩
  rw [World.var?_cell hg hvar 0, ← Array.getElem?_toList, h1]
  rfl

theorem rd_cheats {L : List (String × DataW Unit)} {W : World} (h : laidMet Tryz.prog L W) (hm : ("internal/strconv.leftcheats", Rows.laid_internal_strconv_leftcheats) ∈ L)  : ∃ C co, Cheats W C co := by
  obtain ⟨g, t, cs, fuel, p, hg, hty, hvar, hd⟩ := laidMet.reads h (n := "internal/strconv.leftcheats") (d := Rows.laid_internal_strconv_leftcheats) hm
  obtain rfl := Option.some.inj ((show Tryz.prog.globalNamed "internal/strconv.leftcheats" = some 21 by kernel_rfl).symm.trans hg)
  obtain rfl := Option.some.inj ((show (Tryz.prog.globals[21]?).map (·.type) = some 278 by kernel_rfl).symm.trans hty)
  have hdat : (Rows.laid_internal_strconv_leftcheats : DataW Unit) = .slice (Go.Pinned.cheatRows.map fun x => .agg [.lit (.int .i64 x.1), .lit (.string x.2)]) [] := rfl
  rw [hdat] at hd
  obtain ⟨a, n, h1, h2⟩ := slice_elems Tryz.underlying278 (fun _ => rfl) hd
  have c157 : Tryz.prog.cellsOf 277 = 2 := by kernel_rfl
  have c3 : Tryz.prog.cellsOf 3 = 1 := by kernel_rfl
  have c9 : Tryz.prog.cellsOf 9 = 1 := by kernel_rfl
  have hlen : Go.Pinned.cheatRows.length = 61 := by decide
  rw [c157] at h2
  have key : ∀ k, k < 61 → W.cell? ((a.add (k * 2)).add 0) = some (.int .i64 (cheatRow k).1) ∧ ∃ s : ByteArray, W.cell? ((a.add (k * 2)).add 1) = some (.string s) ∧ bs s = (cheatRow k).2.map (fun b => (b.toNat : Int)) := by
    intro k hk
    obtain ⟨cs', q, h3, h4⟩ := h2 k _ (getD_of (x := (0, [])) (by rw [hlen]; exact hk))
    obtain ⟨xs, n', rfl, hx, hl, hxl, hall⟩ := DataW.trod_struct Tryz.underlying277 h4
    have hxs : xs.map (·.1) = [.lit (.int .i64 (cheatRow k).1), .lit (.string (cheatRow k).2)] := by
      have := congrArg Prod.fst hx
      simp only [DataW.agg.injEq] at this
      exact this.symm
    have f0 : DataW.trod (fun _ => ()) Tryz.prog W 0 (fun _ => true) false n' 3 ((cs'.drop 0).take (Tryz.prog.cellsOf 3)) = xs[0]? := hall 0 _ rfl
    have f1 : DataW.trod (fun _ => ()) Tryz.prog W 0 (fun _ => true) false n' 9 ((cs'.drop 1).take (Tryz.prog.cellsOf 9)) = xs[1]? := hall 1 _ rfl
    rw [c3] at f0
    rw [c9] at f1
    have g0 := congrArg (·[0]?) hxs
    have g1 := congrArg (·[1]?) hxs
    simp only [List.getElem?_map] at g0 g1
    obtain ⟨y0, hy0, e0⟩ := Option.map_eq_some_iff.1 g0
    obtain ⟨y1, hy1, e1⟩ := Option.map_eq_some_iff.1 g1
    rw [hy0] at f0
    rw [hy1] at f1
    obtain ⟨n0, k0, l0, _⟩ := DataW.trod_int Tryz.underlying3 f0
    obtain ⟨s, k1, l1, _⟩ := DataW.trod_string Tryz.underlying9 f1
    rw [l0] at e0
    rw [l1] at e1
    simp only [DataW.lit.injEq, Lit.int.injEq, true_and, Lit.string.injEq] at e0 e1
    constructor
    · rw [cells_at h3 (by omega), ← e0]
      have := congrArg (·[0]?) k0
      simpa [List.getElem?_take, List.getElem?_drop] using this
    · refine ⟨s, ?_, ?_⟩
      · rw [cells_at h3 (by omega)]
        have := congrArg (·[0]?) k1
        simpa [List.getElem?_take, List.getElem?_drop] using this
      · rw [bs_eq, e1]; rfl
  have hsp : a.spot = none := by
    obtain ⟨b, o, sp⟩ := a
    have := (key 0 (by omega)).1
    exact cell_spot this
  obtain ⟨C, co, sp⟩ := a
  have hsp' : sp = none := hsp
  subst hsp'
  refine ⟨C, co, ?_, ?_, ?_, fun k hk => ?_, fun k hk => ?_⟩
  · have : W.cell? ⟨21, 0, none⟩ = some (.slice (some ⟨C, co, none⟩) 61 61) := by rw [World.var?_cell hg hvar 0, ← Array.getElem?_toList, h1]; rfl
    exact cell_lt this
  · have := (key 0 (by omega)).1
    rw [add_none, add_none] at this
    exact cell_lt this
  · rw [World.var?_cell hg hvar 0, ← Array.getElem?_toList, h1]; rfl
  · have := (key k hk).1
    rw [add_none, add_none] at this
    exact this
  · obtain ⟨s, h5, h6⟩ := (key k hk).2
    rw [add_none, add_none] at h5
    exact ⟨s, h5, h6⟩

theorem rd_pow10 {L : List (String × DataW Unit)} {W : World} (h : laidMet Tryz.prog L W) (hm : ("internal/strconv.pow10Tab", Rows.laid_internal_strconv_pow10Tab) ∈ L)  : ∀ i, i < 696 → W.cell? ⟨20, i * 2, none⟩ = some (.int .u64 ((Go.Pinned.pow10Rows.getD i (0, 0)).1 : Nat)) ∧ W.cell? ⟨20, i * 2 + 1, none⟩ = some (.int .u64 ((Go.Pinned.pow10Rows.getD i (0, 0)).2 : Nat)) := by
  intro i hi
  obtain ⟨g, t, cs, fuel, p, hg, hty, hvar, hd⟩ := laidMet.reads h (n := "internal/strconv.pow10Tab") (d := Rows.laid_internal_strconv_pow10Tab) hm
  obtain rfl := Option.some.inj ((show Tryz.prog.globalNamed "internal/strconv.pow10Tab" = some 20 by kernel_rfl).symm.trans hg)
  obtain rfl := Option.some.inj ((show (Tryz.prog.globals[20]?).map (·.type) = some 274 by kernel_rfl).symm.trans hty)
  have hdat : (Rows.laid_internal_strconv_pow10Tab : DataW Unit) = .agg (Go.Pinned.pow10Rows.map fun x => .agg [.lit (.int .u64 x.1), .lit (.int .u64 x.2)]) := rfl
  rw [hdat] at hd
  have c147 : Tryz.prog.cellsOf 273 = 2 := by kernel_rfl
  have c22 : Tryz.prog.cellsOf 22 = 1 := by kernel_rfl
  have hlen : Go.Pinned.pow10Rows.length = 696 := by decide +kernel
  obtain ⟨f', d, q, hdi, he⟩ := array_elem Tryz.underlying274 hd i hi
  rw [getD_of (x := (0, 0)) (by rw [hlen]; exact hi)] at hdi
  have hdi' := (Option.some.inj hdi).symm
  subst hdi'
  rw [c147] at he
  have hcs := ints_of_struct (k := .u64) (zs := [((Go.Pinned.pow10Rows.getD i (0, 0)).1 : Nat), ((Go.Pinned.pow10Rows.getD i (0, 0)).2 : Nat)]) Tryz.underlying273 (fun j f hj => by
    match j, hj with
    | 0, hj => simp at hj; subst hj; exact ⟨Tryz.underlying22, rfl, c22⟩
    | 1, hj => simp at hj; subst hj; exact ⟨Tryz.underlying22, rfl, c22⟩
    | j + 2, hj => simp at hj) (by rw [c147]; rfl) he
  have e0 := congrArg (·[0]?) hcs
  have e1 := congrArg (·[1]?) hcs
  simp only [List.getElem?_take, List.getElem?_drop] at e0 e1
  constructor
  · rw [World.var?_cell hg hvar (i * 2), ← Array.getElem?_toList]
    simpa using e0
  · rw [World.var?_cell hg hvar (i * 2 + 1), ← Array.getElem?_toList]
    simpa using e1

/-- The tables that 'ParseNumber' reads, on the list. -/
structure Listed (L : List (String × DataW Unit)) : Prop where
  opt : ("internal/strconv.optimize", Rows.laid_internal_strconv_optimize) ∈ L
  info : ("internal/strconv.float64info", Rows.laid_internal_strconv_float64info) ∈ L
  pow : ("internal/strconv.powtab", Rows.laid_internal_strconv_powtab) ∈ L
  tens : ("internal/strconv.float64pow10", Rows.laid_internal_strconv_float64pow10) ∈ L
  rng : ("strconv.ErrRange", Rows.laid_strconv_ErrRange) ∈ L
  cheats : ("internal/strconv.leftcheats", Rows.laid_internal_strconv_leftcheats) ∈ L
  pow10 : ("internal/strconv.pow10Tab", Rows.laid_internal_strconv_pow10Tab) ∈ L

/-- What the row's list and the world's shape give. -/
theorem env_of {L : List (String × DataW Unit)} {W : World} (h : laidMet Tryz.prog L W) (hL : Listed L) (hS : W.ShapedOpen Tryz.prog) : ∃ G o P po C co ev m, Env W G o P po C co ev m := by
  obtain ⟨m, hm⟩ := Tryz.laysM145.s1_3 W hS
  obtain ⟨G, o, t1, t2, t3⟩ := rd_tens h hL.tens
  obtain ⟨P, po, p1, p2, p3⟩ := rd_powtab h hL.pow
  obtain ⟨C, co, hC⟩ := rd_cheats h hL.cheats
  obtain ⟨te, pe, hr⟩ := rd_range h hL.rng
  obtain ⟨i0, i1, i2⟩ := rd_info h hL.info
  have h10 := rd_pow10 h hL.pow10
  have h12 := hC.size
  exact ⟨G, o, P, po, C, co, .iface te pe, m, ⟨⟨⟨by omega, t2, i0, t1, t3, fun i hi => (h10 i hi).1, fun i hi => (h10 i hi).2⟩, h12, p2, rd_optimize h hL.opt, i1, i2, p1, p3, hC⟩, hr, .inr ⟨te, pe, rfl⟩, hm⟩⟩

end Go.Proofs.YtamdnnkdnhkghaaGreatDoor

namespace Go.Proofs.YtamdnnkdnhkghaaGreatDoor

open Go Go.RowKit

set_option linter.unusedVariables false

def eE : ByteArray := ⟨#[101, 69]⟩

end Go.Proofs.YtamdnnkdnhkghaaGreatDoor

namespace Go.Proofs.YtamdnnkdnhkghaaGreatDoor

set_option maxHeartbeats 40000

/-- The magnitude of a finite rung is wM * 2^wE. -/
def wM (r : Nat) : Nat := if r < 4503599627370496 then r else r % 4503599627370496 + 4503599627370496

def wK (r : Nat) : Nat := r / 4503599627370496 - 1

def wE (r : Nat) : Int := (wK r : Int) - 1074

theorem wM_lt (r : Nat) : wM r < 9007199254740992 := by unfold wM; split <;> omega

theorem wM_ge {r : Nat} (h : 1 ≤ wK r) : 4503599627370496 ≤ wM r := by unfold wK at h; unfold wM; split <;> omega

theorem w_parts (r : Nat) : wK r * 4503599627370496 + wM r = r := by unfold wK wM; split <;> omega

theorem wK_lt {r : Nat} (h : r < infW) : wK r < 2046 := by unfold infW at h; unfold wK; omega

theorem read_fin {r : Nat} (h : r < infW) : Ieee.double.read r = .number false (wM r) (wE r) := by
  have h1 : wK r = 0 ∨ 4503599627370496 ≤ wM r := by
    by_cases h0 : wK r = 0
    · exact .inl h0
    · exact .inr (wM_ge (by omega))
  have := read_word (k := wK r) (q := wM r) (wM_lt r) h1 (by rw [w_parts]; exact h)
  rw [w_parts] at this
  exact this

theorem read_sign {r : Nat} (h : r < 9223372036854775808) : Ieee.double.read (9223372036854775808 + r) = (Ieee.double.read r).opposite := by
  unfold Ieee.Format.read
  rw [dbl_sw, dbl_bn, dbl_ir, dbl_lp]
  have h1 : (9223372036854775808 + r) % 9223372036854775808 = r := by omega
  have h2 : (9223372036854775808 + r) / 9223372036854775808 = 1 := by omega
  have h3 : r % 9223372036854775808 = r := by omega
  have h4 : r / 9223372036854775808 = 0 := by omega
  simp only [h1, h2, h3, h4]
  split
  · rfl
  · split
    · rfl
    · split
      · rfl
      · rfl

/-- The word of a sign and a rung. -/
def wordS (s : Bool) (r : Nat) : Nat := if s then 9223372036854775808 + r else r

theorem read_finS {s : Bool} {r : Nat} (h : r < infW) : Ieee.double.read (wordS s r) = .number s (wM r) (wE r) := by
  cases s with
  | false => exact read_fin h
  | true =>
    show Ieee.double.read (9223372036854775808 + r) = _
    rw [read_sign (by unfold infW at h; omega), read_fin h]
    rfl

theorem read_infS (s : Bool) : Ieee.double.read (wordS s infW) = .infinity s := by cases s <;> decide +kernel

theorem read_nan {r : Nat} (h1 : infW < r) (h2 : r < 9223372036854775808) : Ieee.double.read r = .nan false (r - infW) := by
  unfold Ieee.Format.read
  rw [dbl_sw, dbl_bn, dbl_ir, dbl_lp]
  have h3 : r % 9223372036854775808 = r := by omega
  have h4 : r / 9223372036854775808 = 0 := by omega
  simp only [h3, h4]
  rw [if_neg (by unfold infW at h1; omega), if_neg (by omega), if_neg (by omega)]
  rfl

theorem read_nanS {s : Bool} {r : Nat} (h1 : infW < r) (h2 : r < 9223372036854775808) : Ieee.double.read (wordS s r) = .nan s (r - infW) := by
  cases s with
  | false => exact read_nan h1 h2
  | true =>
    show Ieee.double.read (9223372036854775808 + r) = _
    rw [read_sign h2, read_nan h1 h2]
    rfl

/-- Every word has its sign and rung. -/
theorem word_split {W : Nat} (h : W < 18446744073709551616) : W = wordS (decide (9223372036854775808 ≤ W)) (W % 9223372036854775808) := by
  unfold wordS
  by_cases h1 : 9223372036854775808 ≤ W
  · rw [if_pos (decide_eq_true h1)]; omega
  · rw [if_neg (by rw [decide_eq_true_iff]; exact h1)]; omega

def sgZ (s : Bool) (n : Nat) : Int := if s then -(n : Int) else n

theorem signed_up (s : Bool) (m u : Nat) : Ieee.signed s m u = sgZ s (m * 2 ^ u) := by
  unfold Ieee.signed sgZ
  rw [Nat.shiftLeft_eq]

theorem icmp_lt {a b : Int} (h : a < b) : compare a b = .lt := by
  show compareOfLessAndEq a b = .lt
  unfold compareOfLessAndEq
  rw [if_pos h]

theorem icmp_eq {a b : Int} (h : a = b) : compare a b = .eq := Int.compare_eq_eq.2 h

theorem icmp_gt {a b : Int} (h : b < a) : compare a b = .gt := by
  show compareOfLessAndEq a b = .gt
  unfold compareOfLessAndEq
  rw [if_neg (by omega), if_neg (by omega)]

end Go.Proofs.YtamdnnkdnhkghaaGreatDoor

namespace Go.Proofs.YtamdnnkdnhkghaaGreatDoor

open Go Go.RowKit

set_option linter.unusedVariables false

theorem below_drw {B : Nat} {a w : World} (h : Below B a w) (n : Nat) : Below B a (w.drewN n) := ⟨h.os, h.tape, h.output, h.size, h.block⟩

theorem run_frombitsM (W : Nat) (w : World) : (callFunc 51 #[.int .u64 W]).run Tryz.prog w = .ok (.value (.float .f64 W)) w := by
  rw [run_callFunc_extern (e := Extern.MathFloatBits.float64frombits) Tryz.func51 (by kernel_rfl) (by kernel_rfl) (by kernel_rfl) (by kernel_rfl)]
  rfl

end Go.Proofs.YtamdnnkdnhkghaaGreatDoor

namespace Go.Proofs.YtamdnnkdnhkghaaGreatDoor

open Go Go.RowKit

set_option linter.unusedVariables false

theorem isNanU_any (x : Int) (w : World) (h0 : 0 ≤ x) : Calls Tryz.prog 46 #[.int .u64 x] w fun e w' => e = .returned (.bool (decide (9218868437227405312 < x % 9223372036854775808))) ∧ w' = w := by
  go_enter Tryz.func46, Tryz.ntmps46
  go_wp2
  all_goals go_ret
  all_goals exact ⟨rfl, rfl⟩

theorem isInf_any (x : Int) (w : World) (h0 : 0 ≤ x) : Calls Tryz.prog 48 #[.int .u64 x] w fun e w' => e = .returned (.bool (x % 9223372036854775808 == 9218868437227405312)) ∧ w' = w := by
  go_enter Tryz.func48, Tryz.ntmps48
  go_wp2
  all_goals go_ret
  all_goals exact ⟨rfl, rfl⟩

theorem minor_any (x : Int) (w : World) : Calls Tryz.prog 47 #[.int .u64 x] w fun e w' => e = .returned (.bool (decide (9223372036854775808 ≤ x))) ∧ w' = w := by
  go_enter Tryz.func47, Tryz.ntmps47
  go_wp2
  all_goals go_ret
  all_goals exact ⟨rfl, rfl⟩

theorem ret_tup {a b c d : Int} (h1 : a = c) (h2 : b = d) : Ending.returned (.tuple #[.int .i64 a, .int .i64 b]) = .returned (.tuple #[.int .i64 c, .int .i64 d]) := by rw [h1, h2]

set_option maxHeartbeats 400000 in
theorem parts_any (r : Nat) (w : World) (hr : r < infW) : Calls Tryz.prog 71 #[.int .u64 r] w fun e w' => e = .returned (.tuple #[.int .i64 (wM r), .int .i64 (wE r)]) ∧ w' = w := by
  have h0 : (r : Int) < 9218868437227405312 := by unfold infW at hr; omega
  by_cases hs : r < 4503599627370496
  · have hM : (wM r : Int) = (r : Int) % 4503599627370496 := by unfold wM; rw [if_pos hs]; omega
    have hE : wE r = -1074 := by unfold wE wK; omega
    have hq : (r : Int) / 4503599627370496 % 2048 = 0 := by omega
    rw [hM, hE]
    go_enter Tryz.func71, Tryz.ntmps71
    go_wp2
    all_goals go_ret2
    all_goals exact ⟨rfl, rfl⟩
  · have hM : (wM r : Int) = (r : Int) % 4503599627370496 + 4503599627370496 := by unfold wM; rw [if_neg hs]; omega
    have hE : wE r = (r : Int) / 4503599627370496 % 2048 - 1075 := by unfold wE wK; omega
    have hb : ((r : Int) / 4503599627370496 % 2048 == 0) = false := by rw [beq_eq_false_iff_ne]; omega
    have h1 : 0 ≤ (r : Int) % 4503599627370496 ∧ (r : Int) % 4503599627370496 < 4503599627370496 := by omega
    have h2 : 0 ≤ (r : Int) / 4503599627370496 % 2048 ∧ (r : Int) / 4503599627370496 % 2048 < 2048 := by omega
    rw [hM, hE]
    go_enter Tryz.func71, Tryz.ntmps71
    generalize hxx : (r : Int) % 4503599627370496 = x at *
    generalize hyy : (r : Int) / 4503599627370496 % 2048 = y at *
    go_wp2
    all_goals go_ret2
    all_goals exact ⟨ret_tup (by first | rfl | (unfold wrap64; omega)) (by first | rfl | (unfold wrap64; omega)), rfl⟩

abbrev fltV (W : Nat) : Value := .agg #[.bool true, .int .i64 0, .int .u64 W]

/-- The calls that every way makes. -/
structure AsCalls (W : Nat) (nan inf : Bool) : Prop where
  c1 : ∀ w, Calls Tryz.prog 46 #[.int .u64 W] w fun e w' => e = .returned (.bool nan) ∧ w' = w
  c2 : ∀ w, Calls Tryz.prog 48 #[.int .u64 W] w fun e w' => e = .returned (.bool inf) ∧ w' = w

theorem wordS_mod {s : Bool} {r : Nat} (hr : r < 9223372036854775808) : ((wordS s r : Nat) : Int) % 9223372036854775808 = r := by
  unfold wordS; cases s <;> simp <;> omega

theorem wordS_minor {s : Bool} {r : Nat} (hr : r < 9223372036854775808) : decide (9223372036854775808 ≤ ((wordS s r : Nat) : Int)) = s := by
  unfold wordS; cases s <;> simp <;> omega

theorem asCalls {s : Bool} {r : Nat} (hr : r < 9223372036854775808) : AsCalls (wordS s r) (decide (infW < r)) (decide (r = infW)) := {
  c1 := fun w => by
    have := isNanU_any (wordS s r : Nat) w (by omega)
    rw [wordS_mod hr] at this
    have e : decide ((9218868437227405312 : Int) < r) = decide (infW < r) := by
      by_cases h : infW < r
      · rw [decide_eq_true h, decide_eq_true]; unfold infW at h; omega
      · rw [decide_eq_false h, decide_eq_false]; unfold infW at h; omega
    rw [e] at this
    exact this
  c2 := fun w => by
    have := isInf_any (wordS s r : Nat) w (by omega)
    rw [wordS_mod hr] at this
    have e : ((r : Int) == 9218868437227405312) = decide (r = infW) := by
      by_cases h : r = infW
      · rw [decide_eq_true h, beq_iff_eq]; unfold infW at h; omega
      · rw [decide_eq_false h, beq_eq_false_iff_ne]; unfold infW at h; omega
    rw [e] at this
    exact this }

end Go.Proofs.YtamdnnkdnhkghaaGreatDoor

namespace Go.Proofs.YtamdnnkdnhkghaaGreatDoor

open Go Go.RowKit

set_option linter.unusedVariables false

theorem dig_len5 {n : Nat} (h : n < 9223372036854775808) : (dig n).length ≤ 5 := dig_length_le (by omega)

set_option maxHeartbeats 1600000 in
set_option maxRecDepth 100000 in
theorem of_any (n : Nat) (w : World) (hn : n < 9223372036854775808) :
    Calls Tryz.prog 107 #[.int .i64 n] w fun e w' => ∃ v', e = .returned v' ∧ Big w' v' (dig n) ∧ Below w.heap.size w w' := by
  have H5 := hide (dig_len5 hn)
  go_enter Tryz.func107, Tryz.ntmps107
  go_wp2
  go_loopw [0, 3] (fun v o wr => ∃ (x : Nat) (L : List Int), v = .int .i64 x ∧ x < 9223372036854775808 ∧ OwnI wr w.heap.size o L ∧ Hid (dig n = L ++ dig x) ∧ Below w.heap.size w wr) (fun v _ _ => (intOf v).toNat)
  case atStart => exact ⟨n, [], rfl, hn, ownI_empty w, hide rfl, (Below.refl _ _).alloc (Nat.le_refl _) _⟩
  case round =>
    obtain ⟨x, L, rfl, hx, hown, He, hb⟩ := hrel
    have hbs := hb.size
    by_cases h0 : 0 < x
    · have hL : L.length ≤ 5 := by
        have h1 := H5.out
        rw [He.out, List.length_append] at h1
        omega
      have HL := hide hL
      have Hn := hide (show dig n = (L ++ [((x % 10000 : Nat) : Int)]) ++ dig (x / 10000) by rw [He.out, dig_pos (show x ≠ 0 by omega), List.append_assoc]; rfl)
      clear hL He
      go_wp2_with (first
        | (at_builtin; (refine app_int rfl _ _ rfl w.heap.size _ L ((x : Int) % 10000) hown rfl rfl (by have := HL.out; omega) hbs ?_; intro v' w1 hown' hgrow))
        | go_in)
      have R : OwnI w1 w.heap.size v' (L ++ [((x % 10000 : Nat) : Int)]) ∧ Below w.heap.size w w1 := ⟨by exact hown', hgrow _ _ hb (Nat.le_refl _)⟩
      clear hown' hgrow hown
      go_wp2
      go_roundw
      case rel => exact ⟨x / 10000, L ++ [((x % 10000 : Nat) : Int)], by go_num, by omega, R.1, Hn, R.2⟩
      case measure => simp [intOf]; omega
    · have hx0 : x = 0 := by omega
      subst hx0
      go_wp2
      go_ret
      exact ⟨_, rfl, by rw [He.out, dig_zero, List.append_nil]; exact hown.big, hb⟩

abbrev intV (i : Int) : Value := .agg #[.bool false, .int .i64 i, .int .u64 0]

theorem xor_top {x : Nat} (h : x < 9223372036854775808) : x ^^^ 9223372036854775808 = 9223372036854775808 + x := by
  show x ^^^ 2 ^ 63 = 2 ^ 63 + x
  apply Nat.eq_of_testBit_eq
  intro i
  rw [Nat.testBit_xor, Nat.testBit_two_pow]
  rcases Nat.lt_trichotomy i 63 with hi | hi | hi
  · rw [Nat.testBit_two_pow_add_gt hi, decide_eq_false (by omega), Bool.xor_false]
  · subst hi
    rw [Nat.testBit_two_pow_add_eq, decide_eq_true rfl, Bool.xor_true]
  · have h1 : x < 2 ^ i := Nat.lt_of_lt_of_le h (Nat.pow_le_pow_right (show 2 > 0 by omega) (show 63 ≤ i by omega))
    have h2 : 2 ^ 63 + x < 2 ^ i := Nat.lt_of_lt_of_le (show 2 ^ 63 + x < 2 ^ 64 by omega) (Nat.pow_le_pow_right (by omega) (by omega))
    rw [Nat.testBit_lt_two_pow h1, Nat.testBit_lt_two_pow h2, decide_eq_false (by omega), Bool.xor_false]

end Go.Proofs.YtamdnnkdnhkghaaGreatDoor

namespace Go.Proofs.YtamdnnkdnhkghaaGreatDoor

open Go Go.RowKit

set_option linter.unusedVariables false

theorem dval_cons (c : Int) (l : List Int) : dval (c :: l) = (c - 48).toNat * 10 ^ l.length + dval l := by
  have key : ∀ (l : List Int) (a : Nat), l.foldl (fun a c => a * 10 + (c - 48).toNat) a = a * 10 ^ l.length + l.foldl (fun a c => a * 10 + (c - 48).toNat) 0 := by
    intro l
    induction l with
    | nil => intro a; simp
    | cons c l ih =>
      intro a
      rw [List.foldl_cons, List.foldl_cons, ih, ih (0 * 10 + (c - 48).toNat), List.length_cons, Nat.pow_succ, Nat.zero_mul, Nat.zero_add, Nat.add_mul]
      generalize 10 ^ l.length = p
      grind
  unfold dval
  rw [List.foldl_cons, key, Nat.zero_mul, Nat.zero_add]

theorem dig_cons {c : Int} {l : List Int} (h : allDig (c :: l) = true) : 48 ≤ c ∧ c ≤ 57 ∧ allDig l = true := by
  unfold allDig at h ⊢
  rw [List.all_cons, Bool.and_eq_true] at h
  have := of_decide_eq_true h.1
  exact ⟨this.1, this.2, h.2⟩

theorem dval_lt {l : List Int} (h : allDig l = true) : dval l < 10 ^ l.length := by
  induction l with
  | nil => simp [dval]
  | cons c l ih =>
    obtain ⟨h1, h2, h3⟩ := dig_cons h
    have h4 := ih h3
    rw [dval_cons, List.length_cons, Nat.pow_succ]
    have h5 : (c - 48).toNat ≤ 9 := by omega
    have h6 := Nat.mul_le_mul_right (10 ^ l.length) h5
    omega

theorem dval_inj : ∀ {l m : List Int}, allDig l = true → allDig m = true → l.length = m.length → dval l = dval m → l = m
  | [], [], _, _, _, _ => rfl
  | [], _ :: _, _, _, h, _ => by cases h
  | _ :: _, [], _, _, h, _ => by cases h
  | c :: l, d :: m, h1, h2, h3, h4 => by
    obtain ⟨a1, a2, a3⟩ := dig_cons h1
    obtain ⟨b1, b2, b3⟩ := dig_cons h2
    have hl : l.length = m.length := by simpa using h3
    rw [dval_cons, dval_cons, hl] at h4
    have e1 := dval_lt a3
    have e2 := dval_lt b3
    rw [hl] at e1
    have hp : 0 < 10 ^ m.length := Nat.pow_pos (by omega)
    have hc : (c - 48).toNat = (d - 48).toNat := by
      have x1 : ((c - 48).toNat * 10 ^ m.length + dval l) / 10 ^ m.length = (c - 48).toNat := by
        rw [Nat.add_comm, Nat.add_mul_div_right _ _ hp, Nat.div_eq_of_lt e1, Nat.zero_add]
      have x2 : ((d - 48).toNat * 10 ^ m.length + dval m) / 10 ^ m.length = (d - 48).toNat := by
        rw [Nat.add_comm, Nat.add_mul_div_right _ _ hp, Nat.div_eq_of_lt e2, Nat.zero_add]
      rw [← x1, h4, x2]
    have hv : dval l = dval m := by rw [hc] at h4; omega
    have hcd : c = d := by omega
    rw [hcd, dval_inj a3 b3 hl hv]

/-- What a minus ahead of a numeral makes of it. -/
def negOut (s : ByteArray) (v : Value) : Value := if allDig (bs s) = true ∧ dval (bs s) = 9223372036854775808 then intV (-9223372036854775808) else v

end Go.Proofs.YtamdnnkdnhkghaaGreatDoor

namespace Go.Proofs.YtamdnnkdnhkghaaGreatDoor

open Go Go.RowKit

set_option linter.unusedVariables false

abbrev numG (f : Bool) (i u : Int) : Value := .agg #[.bool f, .int .i64 i, .int .u64 u]

abbrev resG (f : Bool) (i u : Int) (ok : Bool) : Value := .tuple #[numG f i u, .bool ok]

/-- What is sure of a numeral's number. -/
def NumOK (f : Bool) (i u : Int) : Prop := (f = false ∧ u = 0 ∧ -9223372036854775808 ≤ i ∧ i ≤ 9223372036854775807) ∨ (f = true ∧ i = 0 ∧ ∃ W : Nat, W < infW ∧ u = W)

theorem wrap_range (x : Int) : -9223372036854775808 ≤ wrap64 x ∧ wrap64 x ≤ 9223372036854775807 := by unfold wrap64; omega

theorem resG_inj {f g : Bool} {i j u v : Int} {a b : Bool} (h : resG f i u a = resG g j v b) : f = g ∧ i = j ∧ u = v ∧ a = b := by
  simp at h
  exact ⟨h.1.1, h.1.2.1, h.1.2.2, h.2⟩

theorem FloatR.ok {N : Nat} {E : Int} {f : Bool} {i u : Int} (h : FloatR N E (resG f i u true)) : f = true ∧ i = 0 ∧ ∃ W : Nat, W < infW ∧ u = W := by
  obtain ⟨W, hW, h⟩ := h
  split at h
  · have := (resG_inj (show resG f i u true = resG false 0 0 false from h)).2.2.2
    cases this
  · obtain ⟨h1, h2, h3, _⟩ := resG_inj (show resG f i u true = resG true 0 W true from h)
    exact ⟨h1, h2, W, by have := isRnd_le hW; omega, h3⟩

theorem DecR.ok {l : List Int} {f : Bool} {i u : Int} (h : DecR l (resG f i u true)) : NumOK f i u := by
  unfold DecR at h
  split at h
  · have := (resG_inj (show resG f i u true = resG false 0 0 false from h)).2.2.2
    cases this
  · split at h
    · rename_i hc
      obtain ⟨h1, h2, h3, _⟩ := resG_inj (show resG f i u true = resG false _ 0 true from h)
      exact .inl ⟨h1, h3, by omega, by omega⟩
    · split at h
      · have := (resG_inj (show resG f i u true = resG false 0 0 false from h)).2.2.2
        cases this
      · exact .inr h.ok

theorem PNR.ok {s : ByteArray} {f : Bool} {i u : Int} (h : PNR s (resG f i u true)) : NumOK f i u ∧ s.size ≤ 100 := by
  unfold PNR at h
  split at h
  · have := (resG_inj (show resG f i u true = resG false 0 0 false from h)).2.2.2
    cases this
  · refine ⟨?_, by omega⟩
    split at h
    · obtain ⟨h1, h2, h3, _⟩ := resG_inj (show resG f i u true = resG false _ 0 _ from h)
      refine .inl ⟨h1, h3, ?_⟩
      rw [h2]
      split
      · exact wrap_range _
      · omega
    · exact h.ok

/-- The number with the other sign. -/
def negN (f : Bool) (i u : Int) : Value := if f then numG true 0 (9223372036854775808 + u) else numG false (wrap64 (-i)) 0

/-- What a text comes to as a number: none if it is no number. -/
def OpR (t : ByteArray) (o : Option Value) : Prop :=
  if t.data.toList = [110, 97, 110] then o = some (fltV 9221120237041090560)
  else if t.data.toList = [105, 110, 102] then o = some (fltV infW)
  else if t.data.toList = [45, 105, 110, 102] then o = some (fltV (9223372036854775808 + infW))
  else if (bs t).getD 0 0 = 45 then ∃ f i u ok, PNR (t.extract 1 t.size) (resG f i u ok) ∧ o = if ok then some (negOut (t.extract 1 t.size) (negN f i u)) else none
  else ∃ f i u ok, PNR t (resG f i u ok) ∧ o = if ok then some (numG f i u) else none

theorem OpR.unique {t : ByteArray} {o o' : Option Value} (h : OpR t o) (h' : OpR t o') : o = o' := by
  unfold OpR at h h'
  by_cases h1 : t.data.toList = [110, 97, 110]
  · rw [if_pos h1] at h h'; rw [h, h']
  · rw [if_neg h1] at h h'
    by_cases h2 : t.data.toList = [105, 110, 102]
    · rw [if_pos h2] at h h'; rw [h, h']
    · rw [if_neg h2] at h h'
      by_cases h3 : t.data.toList = [45, 105, 110, 102]
      · rw [if_pos h3] at h h'; rw [h, h']
      · rw [if_neg h3] at h h'
        by_cases h4 : (bs t).getD 0 0 = 45
        · rw [if_pos h4] at h h'
          obtain ⟨f, i, u, ok, hp, rfl⟩ := h
          obtain ⟨f', i', u', ok', hp', rfl⟩ := h'
          obtain ⟨rfl, rfl, rfl, rfl⟩ := resG_inj (hp.unique hp')
          rfl
        · rw [if_neg h4] at h h'
          obtain ⟨f, i, u, ok, hp, rfl⟩ := h
          obtain ⟨f', i', u', ok', hp', rfl⟩ := h'
          obtain ⟨rfl, rfl, rfl, rfl⟩ := resG_inj (hp.unique hp')
          rfl

end Go.Proofs.YtamdnnkdnhkghaaGreatDoor

namespace Go.Proofs.YtamdnnkdnhkghaaGreatDoor

open Go Go.RowKit

set_option linter.unusedVariables false

theorem FloatR.ex (N : Nat) (E : Int) : ∃ r, FloatR N E r := by
  obtain ⟨W, hW⟩ := DecRnd.ex N E
  exact ⟨_, W, hW, rfl⟩

theorem DecR.ex (l : List Int) : ∃ r, DecR l r := by
  unfold DecR
  split
  · exact ⟨_, rfl⟩
  · split
    · exact ⟨_, rfl⟩
    · split
      · exact ⟨_, rfl⟩
      · exact FloatR.ex _ _

theorem PNR.ex (s : ByteArray) : ∃ f i u ok, PNR s (resG f i u ok) := by
  have : ∃ r, PNR s r := by
    unfold PNR
    split
    · exact ⟨_, rfl⟩
    · split
      · exact ⟨_, rfl⟩
      · exact DecR.ex _
  obtain ⟨r, hr⟩ := this
  obtain ⟨f, i, u, ok, rfl⟩ := hr.form
  exact ⟨f, i, u, ok, hr⟩

/-- What is true of a world for the program's 'ParseNumber'. -/
structure Ready (w : World) (ev1 ev5 : Value) : Prop where
  env : ∃ G o P po C co ev m, Env w G o P po C co ev m
  e1 : w.cell? ⟨1, 0, none⟩ = some ev1
  e5 : w.cell? ⟨5, 0, none⟩ = some ev5

theorem Ready.size {w : World} {ev1 ev5 : Value} (h : Ready w ev1 ev5) : 21 < w.heap.size := by
  obtain ⟨G, o, P, po, C, co, ev, m, hE⟩ := h.env
  exact hE.vars.h12

theorem Ready.below {w w' : World} {ev1 ev5 : Value} (h : Ready w ev1 ev5) (hb : Below w.heap.size w w') : Ready w' ev1 ev5 := by
  have hs := h.size
  obtain ⟨G, o, P, po, C, co, ev, m, hE⟩ := h.env
  exact ⟨⟨G, o, P, po, C, co, ev, m, hE.below hb⟩, (hb.cell (p := ⟨1, 0, none⟩) (show 1 < w.heap.size by omega)).trans h.e1, (hb.cell (p := ⟨5, 0, none⟩) (show 5 < w.heap.size by omega)).trans h.e5⟩

end Go.Proofs.YtamdnnkdnhkghaaGreatDoor

namespace Go.Proofs.YtamdnnkdnhkghaaGreatDoor

open Go Go.RowKit

set_option linter.unusedVariables false

theorem bs_of {t : ByteArray} {l : List UInt8} (h : t.data.toList = l) : bs t = l.map fun b => ((b.toNat : Nat) : Int) := by unfold bs; rw [h]

end Go.Proofs.YtamdnnkdnhkghaaGreatDoor
