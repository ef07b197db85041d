import Derived.Test.YtamdnnkdnhkghaaGreatDoorQ41
import Derived.Lib.LaidU8
import Derived.Test.YtamdnnkdnhkghaaGreatDoorQ48
import Derived.Stop.LaidTwo
import Derived.LaidSub
import Derived.WalkKit
import Derived.ProofKit
import Derived.OpenShut
import Derived.Deep.DeepHandedRow
import Derived.ChangeMaps5
import Derived.Carry
import Derived.ChangeOld
namespace Go.Proofs.YtamdnnkdnhkghaaGreatDoor
open Go Go.RowKit Go.Lib
set_option linter.unusedVariables false

section
variable {H : Type} {enc : TypeId × Value → H} {P : Program} {w : World} {base : Nat} {sp : Nat → Bool} {held : Bool} {fuel : Nat}

theorem trod_float {t : TypeId} {k : FloatKind} {cs : List Value} {x : DataW H × List MemPlace} (ht : P.underlying t = some (.float k)) (h : DataW.trod enc P w base sp held fuel t cs = some x) : ∃ n, cs = [.float k n] ∧ x = (.lit (.float k n), []) := by
  cases fuel with
  | zero => simp [DataW.trod] at h
  | succ fuel =>
    unfold DataW.trod at h
    rw [ht] at h
    split at h <;> simp_all

/-- The elements of a listed slice: where they lie, what each reads as. -/
theorem slice_elems {t e : TypeId} {cs : List Value} {ds : List (DataW H)} {p : List MemPlace} (ht : P.underlying t = some (.slice e)) (hsp : ∀ b, sp b = true) (h : DataW.trod enc P w base sp held fuel t cs = some (.slice ds [], p)) :
    ∃ (a : Addr) (n : Nat), cs = [.slice (some a) ds.length ds.length] ∧ ∀ i d, ds[i]? = some d → ∃ cs' q, w.cells? base (a.add (i * P.cellsOf e)) (P.cellsOf e) = some cs' ∧ DataW.trod enc P w base sp held n e cs' = some (d, q) := by
  rcases DataW.trod_slice ht h with ⟨_, h2⟩ | ⟨a, len, cap, elems, rest, n, h1, h2, h3, h4, h5, h6, h7, h8, h9, h10⟩
  · cases h2
  · have e1 : elems.map (·.1) = ds := by have := congrArg Prod.fst h3; simp at this; exact this.1.symm
    have e2 : rest = [] := by have := congrArg Prod.fst h3; simp at this; exact this.2
    have e3 := (h9 (hsp _)).1
    rw [e2] at e3
    have hlen : ds.length = len := by rw [← e1, List.length_map]; exact h7
    have hcap : cap = len := by simp at e3; omega
    refine ⟨a, n, by rw [h2, hcap, hlen], fun i d hd => ?_⟩
    have hi : i < len := by
      have := (List.getElem?_eq_some_iff.1 hd).1
      omega
    have h11 := h8 i hi
    rw [← e1, List.getElem?_map] at hd
    cases he : elems[i]? with
    | none => rw [he] at hd; cases hd
    | some y =>
      rw [he] at hd h11
      obtain ⟨cs', hc1, hc2⟩ := Option.bind_eq_some_iff.1 h11
      refine ⟨cs', y.2, hc1, ?_⟩
      rw [hc2]
      have : y.1 = d := by simpa using hd
      rw [← this]
end

theorem cells_at {w : World} {base n : Nat} {a : Addr} {cs : List Value} (h : w.cells? base a n = some cs) {i : Nat} (hi : i < n) : w.cell? (a.add i) = cs[i]? := by
  unfold World.cells? at h
  split at h
  · obtain ⟨b, h1, h2⟩ := mapM_at h i i (by simp [hi])
    rw [h1, h2]
  · cases h

theorem cell_lt {w : World} {b o : Nat} {sp : Option Nat} {v : Value} (h : w.cell? ⟨b, o, sp⟩ = some v) : b < w.heap.size := by
  rcases Nat.lt_or_ge b w.heap.size with g | g
  · exact g
  · exfalso
    unfold World.cell? at h
    rw [Array.getElem?_eq_none g] at h
    cases h

theorem add_none (b o k : Nat) : (⟨b, o, none⟩ : Addr).add k = ⟨b, o + k, none⟩ := by
  unfold Addr.add
  split
  · rename_i h; subst h; rfl
  · rfl

theorem rd_optimize {L : List (String × DataW Unit)} {W : World} (h : laidMet Tryz.prog L W) (hm : ("internal/strconv.optimize", Rows.laid_internal_strconv_optimize) ∈ L)  : W.cell? ⟨12, 0, none⟩ = some (.bool true) := by
  obtain ⟨g, t, cs, fuel, p, hg, hty, hvar, hd⟩ := laidMet.reads h (n := "internal/strconv.optimize") (d := Rows.laid_internal_strconv_optimize) hm
  obtain rfl := Option.some.inj ((show Tryz.prog.globalNamed "internal/strconv.optimize" = some 12 by kernel_rfl).symm.trans hg)
  obtain rfl := Option.some.inj ((show (Tryz.prog.globals[12]?).map (·.type) = some 4 by kernel_rfl).symm.trans hty)
  obtain ⟨b, h1, h2⟩ := DataW.trod_bool Tryz.underlying4 hd
  have hb : b = true := by
    have := congrArg Prod.fst h2
    unfold Rows.laid_internal_strconv_optimize at this
    simp at this
    exact this
  rw [World.var?_cell hg hvar 0, ← Array.getElem?_toList, h1, hb]
  rfl

theorem rd_info {L : List (String × DataW Unit)} {W : World} (h : laidMet Tryz.prog L W) (hm : ("internal/strconv.float64info", Rows.laid_internal_strconv_float64info) ∈ L)  : W.cell? ⟨14, 0, none⟩ = some (.int .u64 52) ∧ W.cell? ⟨14, 1, none⟩ = some (.int .u64 11) ∧ W.cell? ⟨14, 2, none⟩ = some (.int .i64 (-1023)) := by
  obtain ⟨g, t, cs, fuel, p, hg, hty, hvar, hd⟩ := laidMet.reads h (n := "internal/strconv.float64info") (d := Rows.laid_internal_strconv_float64info) hm
  obtain rfl := Option.some.inj ((show Tryz.prog.globalNamed "internal/strconv.float64info" = some 14 by kernel_rfl).symm.trans hg)
  obtain rfl := Option.some.inj ((show (Tryz.prog.globals[14]?).map (·.type) = some 238 by kernel_rfl).symm.trans hty)
  obtain ⟨xs, n, rfl, hx, hl, hxl, hall⟩ := DataW.trod_struct Tryz.underlying238 hd
  have hxs : xs.map (·.1) = [.lit (.int .u64 52), .lit (.int .u64 11), .lit (.int .i64 (-1023))] := by
    have := congrArg Prod.fst hx
    unfold Rows.laid_internal_strconv_float64info at this
    simp at this
    exact this.symm
  have c47 : Tryz.prog.cellsOf 84 = 1 := by kernel_rfl
  have c3 : Tryz.prog.cellsOf 3 = 1 := by kernel_rfl
  have f0 : DataW.trod (fun _ => ()) Tryz.prog W 0 (fun _ => true) false n 84 ((cs.toList.drop 0).take (Tryz.prog.cellsOf 84)) = xs[0]? := hall 0 _ rfl
  have f1 : DataW.trod (fun _ => ()) Tryz.prog W 0 (fun _ => true) false n 84 ((cs.toList.drop 1).take (Tryz.prog.cellsOf 84)) = xs[1]? := hall 1 _ rfl
  have f2 : DataW.trod (fun _ => ()) Tryz.prog W 0 (fun _ => true) false n 3 ((cs.toList.drop 2).take (Tryz.prog.cellsOf 3)) = xs[2]? := hall 2 _ rfl
  rw [c47] at f0 f1
  rw [c3] at f2
  have g0 := congrArg (·[0]?) hxs
  have g1 := congrArg (·[1]?) hxs
  have g2 := congrArg (·[2]?) hxs
  simp only [List.getElem?_map] at g0 g1 g2
  obtain ⟨y0, hy0, e0⟩ := Option.map_eq_some_iff.1 g0
  obtain ⟨y1, hy1, e1⟩ := Option.map_eq_some_iff.1 g1
  obtain ⟨y2, hy2, e2⟩ := Option.map_eq_some_iff.1 g2
  rw [hy0] at f0
  rw [hy1] at f1
  rw [hy2] at f2
  obtain ⟨n0, k0, l0, _⟩ := DataW.trod_int Tryz.underlying84 f0
  obtain ⟨n1, k1, l1, _⟩ := DataW.trod_int Tryz.underlying84 f1
  obtain ⟨n2, k2, l2, _⟩ := DataW.trod_int Tryz.underlying3 f2
  rw [l0] at e0
  rw [l1] at e1
  rw [l2] at e2
  simp at e0 e1 e2
  subst e0 e1 e2
  refine ⟨?_, ?_, ?_⟩
  · rw [World.var?_cell hg hvar 0, ← Array.getElem?_toList]
    have := congrArg (·[0]?) k0
    simpa [List.getElem?_take, List.getElem?_drop] using this
  · rw [World.var?_cell hg hvar 1, ← Array.getElem?_toList]
    have := congrArg (·[0]?) k1
    simpa [List.getElem?_take, List.getElem?_drop] using this
  · rw [World.var?_cell hg hvar 2, ← Array.getElem?_toList]
    have := congrArg (·[0]?) k2
    simpa [List.getElem?_take, List.getElem?_drop] using this

theorem rd_powtab {L : List (String × DataW Unit)} {W : World} (h : laidMet Tryz.prog L W) (hm : ("internal/strconv.powtab", Rows.laid_internal_strconv_powtab) ∈ L)  : ∃ P po, W.cell? ⟨18, 0, none⟩ = some (.slice (some ⟨P, po, none⟩) 9 9) ∧ P < W.heap.size ∧ ∀ k, k < 9 → W.cell? ⟨P, po + k, none⟩ = some (.int .i64 (powRow.getD k 0 : Nat)) := by
  obtain ⟨g, t, cs, fuel, p, hg, hty, hvar, hd⟩ := laidMet.reads h (n := "internal/strconv.powtab") (d := Rows.laid_internal_strconv_powtab) hm
  obtain rfl := Option.some.inj ((show Tryz.prog.globalNamed "internal/strconv.powtab" = some 18 by kernel_rfl).symm.trans hg)
  obtain rfl := Option.some.inj ((show (Tryz.prog.globals[18]?).map (·.type) = some 121 by kernel_rfl).symm.trans hty)
  have hdat : (Rows.laid_internal_strconv_powtab : DataW Unit) = .slice (powRow.map fun z => .lit (.int .i64 (z : Nat))) [] := rfl
  rw [hdat] at hd
  obtain ⟨a, n, h1, h2⟩ := slice_elems Tryz.underlying121 (fun _ => rfl) hd
  have c3 : Tryz.prog.cellsOf 3 = 1 := by kernel_rfl
  rw [c3] at h2
  have key : ∀ k, k < 9 → W.cell? (a.add (k * 1)) = some (.int .i64 (powRow.getD k 0 : Nat)) := by
    intro k hk
    obtain ⟨cs', q, h3, h4⟩ := h2 k (.lit (.int .i64 (powRow.getD k 0 : Nat))) (by
      have : ∀ k : Fin 9, (powRow.map fun z => (DataW.lit (.int .i64 ((z : Nat) : Int)) : DataW Unit))[k.val]? = some (.lit (.int .i64 (powRow.getD k.val 0 : Nat))) := by
        intro k
        have hk : k.val < powRow.length := k.isLt
        rw [List.getElem?_map, List.getElem?_eq_getElem hk, List.getD_eq_getElem?_getD, List.getElem?_eq_getElem hk]
        rfl
      exact this ⟨k, hk⟩)
    obtain ⟨m, k1, l1, _⟩ := DataW.trod_int Tryz.underlying3 h4
    have := congrArg Prod.fst l1
    simp at this
    have h5 := cells_at h3 (i := 0) (by omega)
    rw [k1, ← this] at h5
    exact h5
  obtain ⟨P, po, sp⟩ := a
  have hsp : sp = none := cell_spot (key 0 (by omega))
  subst hsp
  refine ⟨P, po, ?_, cell_lt (key 0 (by omega)), fun k hk => ?_⟩
  · rw [World.var?_cell hg hvar 0, ← Array.getElem?_toList, h1]; rfl
  · have := key k hk
    rw [Nat.mul_one, add_none] at this
    exact this
end Go.Proofs.YtamdnnkdnhkghaaGreatDoor

namespace Go.Proofs.YtamdnnkdnhkghaaGreatDoor
open Go Go.RowKit Go.Lib
set_option linter.unusedVariables false

theorem getD_of {α β : Type} {l : List α} {f : α → β} {k : Nat} {x : α} (h : k < l.length) : (l.map f)[k]? = some (f (l.getD k x)) := by
  rw [List.getElem?_map, List.getElem?_eq_getElem h, List.getD_eq_getElem?_getD, List.getElem?_eq_getElem h]
  rfl

theorem rd_tens {L : List (String × DataW Unit)} {W : World} (h : laidMet Tryz.prog L W) (hm : ("internal/strconv.float64pow10", Rows.laid_internal_strconv_float64pow10) ∈ L)  : ∃ G o, W.cell? ⟨19, 0, none⟩ = some (.slice (some ⟨G, o, none⟩) 23 23) ∧ G < W.heap.size ∧ ∀ k, k < 23 → W.cell? ⟨G, o + k, none⟩ = some (.float .f64 (pow10Words.getD k 0)) := by
  obtain ⟨g, t, cs, fuel, p, hg, hty, hvar, hd⟩ := laidMet.reads h (n := "internal/strconv.float64pow10") (d := Rows.laid_internal_strconv_float64pow10) hm
  obtain rfl := Option.some.inj ((show Tryz.prog.globalNamed "internal/strconv.float64pow10" = some 19 by kernel_rfl).symm.trans hg)
  obtain rfl := Option.some.inj ((show (Tryz.prog.globals[19]?).map (·.type) = some 267 by kernel_rfl).symm.trans hty)
  have hdat : (Rows.laid_internal_strconv_float64pow10 : DataW Unit) = .slice (pow10Words.map fun z => .lit (.float .f64 z)) [] := rfl
  rw [hdat] at hd
  obtain ⟨a, n, h1, h2⟩ := slice_elems Tryz.underlying267 (fun _ => rfl) hd
  have c52 : Tryz.prog.cellsOf 45 = 1 := by kernel_rfl
  have hlen : pow10Words.length = 23 := rfl
  rw [c52] at h2
  have key : ∀ k, k < 23 → W.cell? (a.add (k * 1)) = some (.float .f64 (pow10Words.getD k 0)) := by
    intro k hk
    obtain ⟨cs', q, h3, h4⟩ := h2 k _ (getD_of (x := 0) (by rw [hlen]; exact hk))
    obtain ⟨m, k1, l1⟩ := trod_float Tryz.underlying45 h4
    have := congrArg Prod.fst l1
    simp only [DataW.lit.injEq, Lit.float.injEq, true_and] at this
    have h5 := cells_at h3 (i := 0) (by omega)
    rw [k1, ← this] at h5
    exact h5
  obtain ⟨P, po, sp⟩ := a
  have hsp : sp = none := cell_spot (key 0 (by omega))
  subst hsp
  refine ⟨P, po, ?_, cell_lt (key 0 (by omega)), fun k hk => ?_⟩
  · rw [World.var?_cell hg hvar 0, ← Array.getElem?_toList, h1]; rfl
  · have := key k hk
    rw [Nat.mul_one, add_none] at this
    exact this

theorem rd_range {L : List (String × DataW Unit)} {W : World} (h : laidMet Tryz.prog L W) (hm : ("strconv.ErrRange", Rows.laid_strconv_ErrRange) ∈ L)  : ∃ te pe, W.cell? ⟨9, 0, none⟩ = some (.iface te pe) := by
  obtain ⟨g, t, cs, fuel, p, hg, hty, hvar, hd⟩ := laidMet.reads h (n := "strconv.ErrRange") (d := Rows.laid_strconv_ErrRange) hm
  obtain rfl := Option.some.inj ((show Tryz.prog.globalNamed "strconv.ErrRange" = some 9 by kernel_rfl).symm.trans hg)
  obtain rfl := Option.some.inj ((show (Tryz.prog.globals[9]?).map (·.type) = some 61 by kernel_rfl).symm.trans hty)
  obtain ⟨f', u, v, h1, _, _⟩ := iface_of_trod Tryz.underlying61 hd
  refine ⟨u, v, ?_⟩
  rw [World.var?_cell hg hvar 0, ← Array.getElem?_toList, h1]
  rfl

theorem rd_cheats {L : List (String × DataW Unit)} {W : World} (h : laidMet Tryz.prog L W) (hm : ("internal/strconv.leftcheats", Rows.laid_internal_strconv_leftcheats) ∈ L)  : ∃ C co, Cheats W C co := by
  obtain ⟨g, t, cs, fuel, p, hg, hty, hvar, hd⟩ := laidMet.reads h (n := "internal/strconv.leftcheats") (d := Rows.laid_internal_strconv_leftcheats) hm
  obtain rfl := Option.some.inj ((show Tryz.prog.globalNamed "internal/strconv.leftcheats" = some 21 by kernel_rfl).symm.trans hg)
  obtain rfl := Option.some.inj ((show (Tryz.prog.globals[21]?).map (·.type) = some 278 by kernel_rfl).symm.trans hty)
  have hdat : (Rows.laid_internal_strconv_leftcheats : DataW Unit) = .slice (Go.Pinned.cheatRows.map fun x => .agg [.lit (.int .i64 x.1), .lit (.string x.2)]) [] := rfl
  rw [hdat] at hd
  obtain ⟨a, n, h1, h2⟩ := slice_elems Tryz.underlying278 (fun _ => rfl) hd
  have c157 : Tryz.prog.cellsOf 277 = 2 := by kernel_rfl
  have c3 : Tryz.prog.cellsOf 3 = 1 := by kernel_rfl
  have c9 : Tryz.prog.cellsOf 9 = 1 := by kernel_rfl
  have hlen : Go.Pinned.cheatRows.length = 61 := by decide
  rw [c157] at h2
  have key : ∀ k, k < 61 → W.cell? ((a.add (k * 2)).add 0) = some (.int .i64 (cheatRow k).1) ∧ ∃ s : ByteArray, W.cell? ((a.add (k * 2)).add 1) = some (.string s) ∧ bs s = (cheatRow k).2.map (fun b => (b.toNat : Int)) := by
    intro k hk
    obtain ⟨cs', q, h3, h4⟩ := h2 k _ (getD_of (x := (0, [])) (by rw [hlen]; exact hk))
    obtain ⟨xs, n', rfl, hx, hl, hxl, hall⟩ := DataW.trod_struct Tryz.underlying277 h4
    have hxs : xs.map (·.1) = [.lit (.int .i64 (cheatRow k).1), .lit (.string (cheatRow k).2)] := by
      have := congrArg Prod.fst hx
      simp only [DataW.agg.injEq] at this
      exact this.symm
    have f0 : DataW.trod (fun _ => ()) Tryz.prog W 0 (fun _ => true) false n' 3 ((cs'.drop 0).take (Tryz.prog.cellsOf 3)) = xs[0]? := hall 0 _ rfl
    have f1 : DataW.trod (fun _ => ()) Tryz.prog W 0 (fun _ => true) false n' 9 ((cs'.drop 1).take (Tryz.prog.cellsOf 9)) = xs[1]? := hall 1 _ rfl
    rw [c3] at f0
    rw [c9] at f1
    have g0 := congrArg (·[0]?) hxs
    have g1 := congrArg (·[1]?) hxs
    simp only [List.getElem?_map] at g0 g1
    obtain ⟨y0, hy0, e0⟩ := Option.map_eq_some_iff.1 g0
    obtain ⟨y1, hy1, e1⟩ := Option.map_eq_some_iff.1 g1
    rw [hy0] at f0
    rw [hy1] at f1
    obtain ⟨n0, k0, l0, _⟩ := DataW.trod_int Tryz.underlying3 f0
    obtain ⟨s, k1, l1, _⟩ := DataW.trod_string Tryz.underlying9 f1
    rw [l0] at e0
    rw [l1] at e1
    simp only [DataW.lit.injEq, Lit.int.injEq, true_and, Lit.string.injEq] at e0 e1
    constructor
    · rw [cells_at h3 (by omega), ← e0]
      have := congrArg (·[0]?) k0
      simpa [List.getElem?_take, List.getElem?_drop] using this
    · refine ⟨s, ?_, ?_⟩
      · rw [cells_at h3 (by omega)]
        have := congrArg (·[0]?) k1
        simpa [List.getElem?_take, List.getElem?_drop] using this
      · rw [bs_eq, e1]; rfl
  have hsp : a.spot = none := by
    obtain ⟨b, o, sp⟩ := a
    have := (key 0 (by omega)).1
    exact cell_spot this
  obtain ⟨C, co, sp⟩ := a
  have hsp' : sp = none := hsp
  subst hsp'
  refine ⟨C, co, ?_, ?_, ?_, fun k hk => ?_, fun k hk => ?_⟩
  · have : W.cell? ⟨21, 0, none⟩ = some (.slice (some ⟨C, co, none⟩) 61 61) := by rw [World.var?_cell hg hvar 0, ← Array.getElem?_toList, h1]; rfl
    exact cell_lt this
  · have := (key 0 (by omega)).1
    rw [add_none, add_none] at this
    exact cell_lt this
  · rw [World.var?_cell hg hvar 0, ← Array.getElem?_toList, h1]; rfl
  · have := (key k hk).1
    rw [add_none, add_none] at this
    exact this
  · obtain ⟨s, h5, h6⟩ := (key k hk).2
    rw [add_none, add_none] at h5
    exact ⟨s, h5, h6⟩

theorem rd_pow10 {L : List (String × DataW Unit)} {W : World} (h : laidMet Tryz.prog L W) (hm : ("internal/strconv.pow10Tab", Rows.laid_internal_strconv_pow10Tab) ∈ L)  : ∀ i, i < 696 → W.cell? ⟨20, i * 2, none⟩ = some (.int .u64 ((Go.Pinned.pow10Rows.getD i (0, 0)).1 : Nat)) ∧ W.cell? ⟨20, i * 2 + 1, none⟩ = some (.int .u64 ((Go.Pinned.pow10Rows.getD i (0, 0)).2 : Nat)) := by
  intro i hi
  obtain ⟨g, t, cs, fuel, p, hg, hty, hvar, hd⟩ := laidMet.reads h (n := "internal/strconv.pow10Tab") (d := Rows.laid_internal_strconv_pow10Tab) hm
  obtain rfl := Option.some.inj ((show Tryz.prog.globalNamed "internal/strconv.pow10Tab" = some 20 by kernel_rfl).symm.trans hg)
  obtain rfl := Option.some.inj ((show (Tryz.prog.globals[20]?).map (·.type) = some 274 by kernel_rfl).symm.trans hty)
  have hdat : (Rows.laid_internal_strconv_pow10Tab : DataW Unit) = .agg (Go.Pinned.pow10Rows.map fun x => .agg [.lit (.int .u64 x.1), .lit (.int .u64 x.2)]) := rfl
  rw [hdat] at hd
  have c147 : Tryz.prog.cellsOf 273 = 2 := by kernel_rfl
  have c22 : Tryz.prog.cellsOf 22 = 1 := by kernel_rfl
  have hlen : Go.Pinned.pow10Rows.length = 696 := by decide +kernel
  obtain ⟨f', d, q, hdi, he⟩ := array_elem Tryz.underlying274 hd i hi
  rw [getD_of (x := (0, 0)) (by rw [hlen]; exact hi)] at hdi
  have hdi' := (Option.some.inj hdi).symm
  subst hdi'
  rw [c147] at he
  have hcs := ints_of_struct (k := .u64) (zs := [((Go.Pinned.pow10Rows.getD i (0, 0)).1 : Nat), ((Go.Pinned.pow10Rows.getD i (0, 0)).2 : Nat)]) Tryz.underlying273 (fun j f hj => by
    match j, hj with
    | 0, hj => simp at hj; subst hj; exact ⟨Tryz.underlying22, rfl, c22⟩
    | 1, hj => simp at hj; subst hj; exact ⟨Tryz.underlying22, rfl, c22⟩
    | j + 2, hj => simp at hj) (by rw [c147]; rfl) he
  have e0 := congrArg (·[0]?) hcs
  have e1 := congrArg (·[1]?) hcs
  simp only [List.getElem?_take, List.getElem?_drop] at e0 e1
  constructor
  · rw [World.var?_cell hg hvar (i * 2), ← Array.getElem?_toList]
    simpa using e0
  · rw [World.var?_cell hg hvar (i * 2 + 1), ← Array.getElem?_toList]
    simpa using e1

/-- The tables that 'ParseNumber' reads, on the list. -/
structure Listed (L : List (String × DataW Unit)) : Prop where
  opt : ("internal/strconv.optimize", Rows.laid_internal_strconv_optimize) ∈ L
  info : ("internal/strconv.float64info", Rows.laid_internal_strconv_float64info) ∈ L
  pow : ("internal/strconv.powtab", Rows.laid_internal_strconv_powtab) ∈ L
  tens : ("internal/strconv.float64pow10", Rows.laid_internal_strconv_float64pow10) ∈ L
  rng : ("strconv.ErrRange", Rows.laid_strconv_ErrRange) ∈ L
  cheats : ("internal/strconv.leftcheats", Rows.laid_internal_strconv_leftcheats) ∈ L
  pow10 : ("internal/strconv.pow10Tab", Rows.laid_internal_strconv_pow10Tab) ∈ L

/-- What the row's list and the world's shape give. -/
theorem env_of {L : List (String × DataW Unit)} {W : World} (h : laidMet Tryz.prog L W) (hL : Listed L) (hS : W.ShapedOpen Tryz.prog) : ∃ G o P po C co ev m, Env W G o P po C co ev m := by
  obtain ⟨m, hm⟩ := Tryz.laysM145.s1_3 W hS
  obtain ⟨G, o, t1, t2, t3⟩ := rd_tens h hL.tens
  obtain ⟨P, po, p1, p2, p3⟩ := rd_powtab h hL.pow
  obtain ⟨C, co, hC⟩ := rd_cheats h hL.cheats
  obtain ⟨te, pe, hr⟩ := rd_range h hL.rng
  obtain ⟨i0, i1, i2⟩ := rd_info h hL.info
  have h10 := rd_pow10 h hL.pow10
  have h12 := hC.size
  exact ⟨G, o, P, po, C, co, .iface te pe, m, ⟨⟨⟨by omega, t2, i0, t1, t3, fun i hi => (h10 i hi).1, fun i hi => (h10 i hi).2⟩, h12, p2, rd_optimize h hL.opt, i1, i2, p1, p3, hC⟩, hr, .inr ⟨te, pe, rfl⟩, hm⟩⟩
end Go.Proofs.YtamdnnkdnhkghaaGreatDoor

namespace Go.Proofs.YtamdnnkdnhkghaaGreatDoor
open Go.ChangeShapes Go.WideShapes Go.ChangeAt Go Go.RowKit Go.ChangeMaps Go.WideElems
set_option linter.unusedVariables false

theorem star_es : "*" ++ "errors.errorString" = "*errors.errorString" := by decide
theorem row228 (u : TypeId) (h : Tryz.prog.typeName? 3 u = some "*errors.errorString") : u = 228 :=
  typeName_ptr_named (nm := "errors.errorString") (by rw [star_es]; kernel_rfl) (by kernel_rfl) (by decide) u (by rw [star_es]; exact h)

/-- Two errors that a row lists lie apart. -/
theorem two_apart {L : List (String × DataW Unit)} {W : World} (h : laidMet Tryz.prog L W) {n0 n1 : String} {t0 t1 : List UInt8} {g0 g1 : Nat}
    (hf : L.filter (fun x => x.1 == n0 || x.1 == n1) = [(n0, .iface "*errors.errorString" (.ptr (.agg [.lit (.string t0)]))), (n1, .iface "*errors.errorString" (.ptr (.agg [.lit (.string t1)])))])
    (hg0 : Tryz.prog.globalNamed n0 = some g0) (ht0 : (Tryz.prog.globals[g0]?).map (·.type) = some 61) (hg1 : Tryz.prog.globalNamed n1 = some g1) (ht1 : (Tryz.prog.globals[g1]?).map (·.type) = some 61) :
    ∃ a b, W.cell? ⟨g0, 0, none⟩ = some (senV a) ∧ W.cell? ⟨g1, 0, none⟩ = some (senV b) ∧ Apart W b a := by
  have h2 := laidMet.filter (fun x => x.1 == n0 || x.1 == n1) h
  rw [hf] at h2
  obtain ⟨a, b, s0, s1, c0, c1, u0, u1, v0, v1, _, _, _, _, _, _, hne, hb0, hb1⟩ := laid_sentinels2 h2 hg0 ht0 hg1 ht1 Tryz.underlying61 row228 Tryz.underlying228 Tryz.underlying230 rfl rfl Tryz.underlying9 (by kernel_rfl) (by kernel_rfl)
  refine ⟨a, b, ?_, ?_, fun h => hne h.symm, ⟨c1, u1, hb1⟩, ⟨c0, u0, hb0⟩⟩
  · simpa using World.var?_cell hg0 v0 0
  · simpa using World.var?_cell hg1 v1 0

/-- What lies below the heap's old size reads as it did: named variables. -/
theorem vars_stay {H : Type} {enc : TypeId × Value → H} {P : Program} (hl : laidOutB P = true) {W W' : World} (hb : Below W.heap.size W W') :
    ∀ {ns : List String} {gs : List (DataW H)} {ps : List MemPlace} {sp : Nat → Bool}, (∀ n ∈ ns, ∀ g t, P.globalNamed n = some g → (P.globals[g]?).map (·.type) = some t → P.readableRec t = true ∧ t < P.types.size) → (∀ p ∈ ps, sp p.block = true) →
      DataW.TrodVars enc P W (fun _ => true) ns gs ps → DataW.TrodVars enc P W' sp ns gs ps
  | [], [], _, _, _, _, h => h
  | [], _ :: _, _, _, _, _, h => h.elim
  | _ :: _, [], _, _, _, _, h => h.elim
  | n :: ns, d :: ds, ps, sp, hv, hp, h => by
    have hlt := h.lt
    obtain ⟨g, t, cs, fuel, p, q, h1, h2, h3, h4, hs, e⟩ := h
    obtain ⟨r1, r2⟩ := hv n (List.mem_cons_self) g t h1 h2
    subst e
    have hvar : W'.var? P n = some cs := by
      unfold World.var? at h3 ⊢
      rw [h1] at h3 ⊢
      simp only [Option.bind_some] at h3 ⊢
      have hg : g < W.heap.size := by
        cases hh : W.heap[g]? with
        | none => rw [hh] at h3; cases h3
        | some o => exact (Array.getElem?_eq_some_iff.1 hh).1
      rw [hb.block g hg]
      exact h3
    have l1 : ∀ x ∈ p, x.block < W.heap.size := fun x hx => hlt x (by simp [hx])
    refine ⟨g, t, cs, fuel, p, q, h1, h2, hvar, ?_, vars_stay hl hb (fun m hm => hv m (List.mem_cons_of_mem _ hm)) (fun x hx => hp x (by simp [hx])) hs, rfl⟩
    exact DataW.trod_stays (kids_book hl r1) (book_sized r1) (fun h => by cases h) ⟨r2, book_self t⟩ h4 (fun x hx => hb.same (l1 x hx)) (fun x hx => hp x (by simp [hx]))

theorem vars_len {H : Type} {enc : TypeId × Value → H} {P : Program} {W : World} {sp : Nat → Bool} : ∀ {ns : List String} {gs : List (DataW H)} {ps : List MemPlace}, DataW.TrodVars enc P W sp ns gs ps → gs.length = ns.length
  | [], [], _, _ => rfl
  | [], _ :: _, _, h => h.elim
  | _ :: _, [], _, h => h.elim
  | _ :: ns, _ :: ds, _, h => by
    obtain ⟨g, t, cs, fuel, p, q, h1, h2, h3, h4, hs, e⟩ := h
    rw [List.length_cons, List.length_cons, vars_len hs]

/-- The promise where nothing below the heap's old size has turned. -/
theorem post_low {H : Type} {enc : TypeId × Value → H} {P : Program} {f : Func} {s : ChangeSpec} {apart fresh handsOn again : Bool} {W W' : World} {args : Array Value} {v : Value} {ds gs : List (DataW H)} {before pa pv : List MemPlace}
    (hW : DataW.Whole enc P f.params.toList s.vars apart W args.toList ds gs before)
    (hres : ∀ (b : Nat) (sp : Nat → Bool) (hd : Bool), DataW.TrodAll enc P W' b sp hd f.resultTypes.toList (v.resultList f.resultTypes.size) (s.fn H (ds ++ gs)).results [])
    (hargs : ∀ sp : Nat → Bool, (∀ p ∈ before, sp p.block = true) → DataW.TrodAll enc P W' 0 sp true f.params.toList args.toList (s.fn H (ds ++ gs)).args pa)
    (hvars : ∀ sp : Nat → Bool, (∀ p ∈ before, sp p.block = true) → DataW.TrodVars enc P W' sp s.vars (s.fn H (ds ++ gs)).vars pv)
    (hps : before = pa ++ pv) (hb : Below W.heap.size W W')
    (hok : ∀ (j : Nat) (t : TypeId) (r : Value), f.resultTypes[j]? = some t → (v.resultList f.resultTypes.size)[j]? = some r → Value.okWide P W' .any 0 t r) :
    s.post enc P f apart fresh handsOn again W args v W' := by
  have hlt := hW.lt
  have hold : ∀ p ∈ before, (fun b => decide (b < W.heap.size)) p.block = true := fun p hp => by simpa using hlt p hp
  refine ⟨ds, gs, before, [], pa, pv, hW, hres _ _ _, hargs _ hold, hvars _ hold, World.keptBut_mono (fun p hp => ⟨hp, ?_⟩) (hb.frame _), fun _ => ?_⟩
  · rw [hps, List.mem_append] at hp
    exact Or.inr hp
  · obtain ⟨_, _, _, _, _, hz, hn⟩ := hW
    refine ⟨hok, _, _, ([] ++ pa) ++ pv, ⟨[] ++ pa, pv, trodAll_append (hargs _ (fun _ _ => rfl)) (hres _ _ _), hvars _ (fun _ _ => rfl), rfl, ?_, ?_⟩, ?_⟩
    · intro b off hp
      have hp' : MemPlace.cell b off ∈ before := by rw [hps]; simpa using hp
      rw [hb.frozen (p := ⟨b, off, none⟩) (hlt _ hp')]
      exact hz b off hp'
    · intro ha
      have := hn ha
      rw [hps] at this
      simpa using this
    · intro p hp _
      rw [hps]
      simpa using hp

theorem own : ownKnob Tryz.prog.godebug = none := by kernel_rfl

abbrev laidTI := Rows.fnExactToIntegerRow.laid

theorem listedTI : Listed laidTI := by
  constructor
  all_goals (unfold laidTI Rows.fnExactToIntegerRow; simp only [List.mem_cons, true_or, or_true])

theorem full_of {W : World} (h : laidMet Tryz.prog laidTI W) (hS : W.ShapedOpen Tryz.prog) : ∃ a1 a2 a3 a4 a5, Full W a1 a2 a3 a4 a5 := by
  obtain ⟨a1, a5, g1, g5, d1⟩ := two_apart h (n0 := "loop.example/g00002/impl.errNumText") (n1 := "loop.example/g00002/impl.errNumWhole") rfl (by kernel_rfl) (by kernel_rfl) (by kernel_rfl) (by kernel_rfl)
  obtain ⟨a2, b2, g2, k2, d2⟩ := two_apart h (n0 := "loop.example/g00002/impl.errNumOp") (n1 := "loop.example/g00002/impl.errNumWhole") rfl (by kernel_rfl) (by kernel_rfl) (by kernel_rfl) (by kernel_rfl)
  obtain ⟨a3, b3, g3, k3, d3⟩ := two_apart h (n0 := "loop.example/g00002/impl.errNumZero") (n1 := "loop.example/g00002/impl.errNumWhole") rfl (by kernel_rfl) (by kernel_rfl) (by kernel_rfl) (by kernel_rfl)
  obtain ⟨a4, b4, g4, k4, d4⟩ := two_apart h (n0 := "loop.example/g00002/impl.errNumRange") (n1 := "loop.example/g00002/impl.errNumWhole") rfl (by kernel_rfl) (by kernel_rfl) (by kernel_rfl) (by kernel_rfl)
  have same : ∀ {b : Addr}, W.cell? ⟨5, 0, none⟩ = some (senV b) → b = a5 := by
    intro b hb
    have e := hb.symm.trans g5
    simp at e
    exact e
  have e2 := same k2
  have e3 := same k3
  have e4 := same k4
  subst e2
  subst e3
  subst e4
  refine ⟨a1, a2, a3, a4, _, env_of h listedTI hS, ⟨g1, g2, g3, g4, g5, d1, d2, d3, d4⟩, ?_⟩
  have h2 := laidMet.filter (fun x => x.1 == "internal/strconv.uint64pow10") h
  have hf : laidTI.filter (fun x => x.1 == "internal/strconv.uint64pow10") = [("internal/strconv.uint64pow10", Lib.tabData .u64 Lib.pow10Tab)] := rfl
  rw [hf] at h2
  exact Lib.tabIs_of_head (g := 6) (t := 183) (n := 20) (by kernel_rfl) (by kernel_rfl) (by kernel_rfl) Tryz.underlying22 (by kernel_rfl) (by kernel_rfl) h2

theorem vars_five {H : Type} {enc : TypeId × Value → H} {W : World} {sp : Nat → Bool} {gs : List (DataW H)} {ps : List MemPlace} (h : DataW.TrodVars enc Tryz.prog W sp Rows.fnExactToIntegerSpec.vars gs ps) : ∃ g1 g2 g3 g4 g5, gs = [g1, g2, g3, g4, g5] := by
  have := vars_len h
  match gs, this with
  | [g1, g2, g3, g4, g5], _ => exact ⟨g1, g2, g3, g4, g5, rfl⟩

theorem rowed : ∀ n ∈ Rows.fnExactToIntegerSpec.vars, ∀ g t, Tryz.prog.globalNamed n = some g → (Tryz.prog.globals[g]?).map (·.type) = some t → Tryz.prog.readableRec t = true ∧ t < Tryz.prog.types.size := by
  have key : (Rows.fnExactToIntegerSpec.vars.all fun n => match Tryz.prog.globalNamed n with
      | some g => (match (Tryz.prog.globals[g]?).map (·.type) with | some t => Tryz.prog.readableRec t && decide (t < Tryz.prog.types.size) | none => true)
      | none => true) = true := by kernel_rfl
  intro n hn g t hg ht
  have := List.all_eq_true.1 key n hn
  rw [hg] at this
  simp only [ht, Bool.and_eq_true, decide_eq_true_eq] at this
  exact this

theorem laidOut : laidOutB Tryz.prog = true := by kernel_rfl

set_option maxRecDepth 100000 in
/-- What the walks give, for every argument and every world that holds the tables and the errors. -/
theorem contract (H : Type) (enc : TypeId × Value → H) (W : World) (base : Nat) (args : Array Value) (ds gs : List (DataW H)) (before : List MemPlace)
    (hval : ∀ (j : Nat) t v, Tryz.f5.params[j]? = some t → args[j]? = some v → Value.okWide Tryz.prog W .any base t v)
    (hW : DataW.Whole enc Tryz.prog Tryz.f5.params.toList Rows.fnExactToIntegerSpec.vars false W args.toList ds gs before) (hL : laidMetH Tryz.prog Rows.fnExactToIntegerRow.laid W) (hS : W.ShapedOpen Tryz.prog) :
    Calls Tryz.prog 5 args W fun e W' => ∃ v, e = .returned v ∧ Rows.fnExactToIntegerSpec.post enc Tryz.prog Tryz.f5 false true false false W args v W' := by
  have hW' := hW
  obtain ⟨p, q, hA0, hV, rfl, hfz, hnd⟩ := hW
  have hA : DataW.TrodAll enc Tryz.prog W 0 (fun _ => true) true Tryz.f5.params.toList args.toList ds p := hA0
  rw [Tryz.params5] at hA hval
  obtain ⟨v0, vs0, d0, ds0, p0, q0, hargs, rfl, rfl, h0, r0⟩ := trodAll_cons hA
  obtain ⟨rfl, rfl, rfl⟩ := trodAll_nil r0
  obtain rfl : args = #[v0] := by cases args; simp_all
  obtain ⟨g1, g2, g3, g4, g5, rfl⟩ := vars_five hV
  obtain ⟨s, rfl, rfl, rfl, hs⟩ := open_string Tryz.underlying9 (hval 0 9 v0 rfl rfl) h0
  clear hA0
  have hL' : laidMet Tryz.prog laidTI W := hL
  obtain ⟨a1, a2, a3, a4, a5, hF⟩ := full_of hL' hS
  refine (law_any s W a1 a2 a3 a4 a5 hF hs).mono fun e W' ⟨he, hb⟩ => ?_
  subst he
  refine ⟨_, rfl, post_low hW' (pa := []) (pv := q) (fun _ _ _ => trodAll_cons_mk (shut_bool Tryz.underlying4 _) trodAll_mk0) (fun _ _ => trodAll_cons_mk (shut_string Tryz.underlying9 hs) trodAll_mk0)
    (fun sp hsp => vars_stay laidOut hb rowed (fun x hx => hsp x (by simp [hx])) hV) (by simp) hb (ok_one (by kernel_rfl) rfl (okWide_bool_mk Tryz.underlying4 _))⟩

end Go.Proofs.YtamdnnkdnhkghaaGreatDoor
