import Derived.Lib.LaidU8
import Derived.Test.YtmndipnifjpdjaaGreatDoorQ38
import Derived.LaidSub
import Derived.WalkKit
import Derived.ProofKit
import Derived.OpenShut
import Derived.Deep.DeepHandedRow
import Derived.ChangeMaps5
import Derived.Test.YtmndipnifjpdjaaGreatDoorQ40
import Derived.Test.YtmndipnifjpdjaaGreatDoorQ41
import Derived.Test.YtmndipnifjpdjaaGreatDoorQ42
namespace Go.Proofs.YtmndipnifjpdjaaGreatDoor
open Go Go.RowKit Go.Lib
set_option linter.unusedVariables false
section
variable {H : Type} {enc : TypeId × Value → H} {P : Program} {w : World} {base : Nat} {sp : Nat → Bool} {held : Bool} {fuel : Nat}
theorem trod_float {t : TypeId} {k : FloatKind} {cs : List Value} {x : DataW H × List MemPlace} (ht : P.underlying t = some (.float k)) (h : DataW.trod enc P w base sp held fuel t cs = some x) : ∃ n, cs = [.float k n] ∧ x = (.lit (.float k n), []) := by
  cases fuel with
  | zero => simp [DataW.trod] at h
  | succ fuel =>
    unfold DataW.trod at h
    rw [ht] at h
    split at h <;> simp_all
theorem slice_elems {t e : TypeId} {cs : List Value} {ds : List (DataW H)} {p : List MemPlace} (ht : P.underlying t = some (.slice e)) (hsp : ∀ b, sp b = true) (h : DataW.trod enc P w base sp held fuel t cs = some (.slice ds [], p)) :
    ∃ (a : Addr) (n : Nat), cs = [.slice (some a) ds.length ds.length] ∧ ∀ i d, ds[i]? = some d → ∃ cs' q, w.cells? base (a.add (i * P.cellsOf e)) (P.cellsOf e) = some cs' ∧ DataW.trod enc P w base sp held n e cs' = some (d, q) := by
  rcases DataW.trod_slice ht h with ⟨_, h2⟩ | ⟨a, len, cap, elems, rest, n, h1, h2, h3, h4, h5, h6, h7, h8, h9, h10⟩
  · cases h2
  · have e1 : elems.map (·.1) = ds := by have := congrArg Prod.fst h3; simp at this; exact this.1.symm
    have e2 : rest = [] := by have := congrArg Prod.fst h3; simp at this; exact this.2
    have e3 := (h9 (hsp _)).1
    rw [e2] at e3
    have hlen : ds.length = len := by rw [← e1, List.length_map]; exact h7
    have hcap : cap = len := by simp at e3; omega
    refine ⟨a, n, by rw [h2, hcap, hlen], fun i d hd => ?_⟩
    have hi : i < len := by
      have := (List.getElem?_eq_some_iff.1 hd).1
      omega
    have h11 := h8 i hi
    rw [← e1, List.getElem?_map] at hd
    cases he : elems[i]? with
    | none => rw [he] at hd; cases hd
    | some y =>
      rw [he] at hd h11
      obtain ⟨cs', hc1, hc2⟩ := Option.bind_eq_some_iff.1 h11
      refine ⟨cs', y.2, hc1, ?_⟩
      rw [hc2]
      have : y.1 = d := by simpa using hd
      rw [← this]
end
theorem cells_at {w : World} {base n : Nat} {a : Addr} {cs : List Value} (h : w.cells? base a n = some cs) {i : Nat} (hi : i < n) : w.cell? (a.add i) = cs[i]? := by
  unfold World.cells? at h
  split at h
  · obtain ⟨b, h1, h2⟩ := mapM_at h i i (by simp [hi])
    rw [h1, h2]
  · cases h
theorem cell_lt {w : World} {b o : Nat} {sp : Option Nat} {v : Value} (h : w.cell? ⟨b, o, sp⟩ = some v) : b < w.heap.size := by
  rcases Nat.lt_or_ge b w.heap.size with g | g
  · exact g
  · exfalso
    unfold World.cell? at h
    rw [Array.getElem?_eq_none g] at h
    cases h
theorem add_none (b o k : Nat) : (⟨b, o, none⟩ : Addr).add k = ⟨b, o + k, none⟩ := by
  unfold Addr.add
  split
  · rename_i h; subst h; rfl
  · rfl
theorem rd_optimize {L : List (String × DataW Unit)} {W : World} (h : laidMet Tryz.prog L W) (hm : ("internal/strconv.optimize", Rows.laid_internal_strconv_optimize) ∈ L)  : W.cell? ⟨11, 0, none⟩ = some (.bool true) := by
  obtain ⟨g, t, cs, fuel, p, hg, hty, hvar, hd⟩ := laidMet.reads h (n := "internal/strconv.optimize") (d := Rows.laid_internal_strconv_optimize) hm
  obtain rfl := Option.some.inj ((show Tryz.prog.globalNamed "internal/strconv.optimize" = some 11 by kernel_rfl).symm.trans hg)
  obtain rfl := Option.some.inj ((show (Tryz.prog.globals[11]?).map (·.type) = some 4 by kernel_rfl).symm.trans hty)
  obtain ⟨b, h1, h2⟩ := DataW.trod_bool Tryz.underlying4 hd
  have hb : b = true := by
    have := congrArg Prod.fst h2
    unfold Rows.laid_internal_strconv_optimize at this
    simp at this
    exact this
  rw [World.var?_cell hg hvar 0, ← Array.getElem?_toList, h1, hb]
  rfl
theorem rd_info {L : List (String × DataW Unit)} {W : World} (h : laidMet Tryz.prog L W) (hm : ("internal/strconv.float64info", Rows.laid_internal_strconv_float64info) ∈ L)  : W.cell? ⟨13, 0, none⟩ = some (.int .u64 52) ∧ W.cell? ⟨13, 1, none⟩ = some (.int .u64 11) ∧ W.cell? ⟨13, 2, none⟩ = some (.int .i64 (-1023)) := by
  obtain ⟨g, t, cs, fuel, p, hg, hty, hvar, hd⟩ := laidMet.reads h (n := "internal/strconv.float64info") (d := Rows.laid_internal_strconv_float64info) hm
  obtain rfl := Option.some.inj ((show Tryz.prog.globalNamed "internal/strconv.float64info" = some 13 by kernel_rfl).symm.trans hg)
  obtain rfl := Option.some.inj ((show (Tryz.prog.globals[13]?).map (·.type) = some 278 by kernel_rfl).symm.trans hty)
  obtain ⟨xs, n, rfl, hx, hl, hxl, hall⟩ := DataW.trod_struct Tryz.underlying278 hd
  have hxs : xs.map (·.1) = [.lit (.int .u64 52), .lit (.int .u64 11), .lit (.int .i64 (-1023))] := by
    have := congrArg Prod.fst hx
    unfold Rows.laid_internal_strconv_float64info at this
    simp at this
    exact this.symm
  have c47 : Tryz.prog.cellsOf 150 = 1 := by kernel_rfl
  have c3 : Tryz.prog.cellsOf 3 = 1 := by kernel_rfl
  have f0 : DataW.trod (fun _ => ()) Tryz.prog W 0 (fun _ => true) false n 150 ((cs.toList.drop 0).take (Tryz.prog.cellsOf 150)) = xs[0]? := hall 0 _ rfl
  have f1 : DataW.trod (fun _ => ()) Tryz.prog W 0 (fun _ => true) false n 150 ((cs.toList.drop 1).take (Tryz.prog.cellsOf 150)) = xs[1]? := hall 1 _ rfl
  have f2 : DataW.trod (fun _ => ()) Tryz.prog W 0 (fun _ => true) false n 3 ((cs.toList.drop 2).take (Tryz.prog.cellsOf 3)) = xs[2]? := hall 2 _ rfl
  rw [c47] at f0 f1
  rw [c3] at f2
  have g0 := congrArg (·[0]?) hxs
  have g1 := congrArg (·[1]?) hxs
  have g2 := congrArg (·[2]?) hxs
  simp only [List.getElem?_map] at g0 g1 g2
  obtain ⟨y0, hy0, e0⟩ := Option.map_eq_some_iff.1 g0
  obtain ⟨y1, hy1, e1⟩ := Option.map_eq_some_iff.1 g1
  obtain ⟨y2, hy2, e2⟩ := Option.map_eq_some_iff.1 g2
  rw [hy0] at f0
  rw [hy1] at f1
  rw [hy2] at f2
  obtain ⟨n0, k0, l0, _⟩ := DataW.trod_int Tryz.underlying150 f0
  obtain ⟨n1, k1, l1, _⟩ := DataW.trod_int Tryz.underlying150 f1
  obtain ⟨n2, k2, l2, _⟩ := DataW.trod_int Tryz.underlying3 f2
  rw [l0] at e0
  rw [l1] at e1
  rw [l2] at e2
  simp at e0 e1 e2
  subst e0 e1 e2
  refine ⟨?_, ?_, ?_⟩
  · rw [World.var?_cell hg hvar 0, ← Array.getElem?_toList]
    have := congrArg (·[0]?) k0
    simpa [List.getElem?_take, List.getElem?_drop] using this
  · rw [World.var?_cell hg hvar 1, ← Array.getElem?_toList]
    have := congrArg (·[0]?) k1
    simpa [List.getElem?_take, List.getElem?_drop] using this
  · rw [World.var?_cell hg hvar 2, ← Array.getElem?_toList]
    have := congrArg (·[0]?) k2
    simpa [List.getElem?_take, List.getElem?_drop] using this
theorem rd_powtab {L : List (String × DataW Unit)} {W : World} (h : laidMet Tryz.prog L W) (hm : ("internal/strconv.powtab", Rows.laid_internal_strconv_powtab) ∈ L)  : ∃ P po, W.cell? ⟨17, 0, none⟩ = some (.slice (some ⟨P, po, none⟩) 9 9) ∧ P < W.heap.size ∧ ∀ k, k < 9 → W.cell? ⟨P, po + k, none⟩ = some (.int .i64 (powRow.getD k 0 : Nat)) := by
  obtain ⟨g, t, cs, fuel, p, hg, hty, hvar, hd⟩ := laidMet.reads h (n := "internal/strconv.powtab") (d := Rows.laid_internal_strconv_powtab) hm
  obtain rfl := Option.some.inj ((show Tryz.prog.globalNamed "internal/strconv.powtab" = some 17 by kernel_rfl).symm.trans hg)
  obtain rfl := Option.some.inj ((show (Tryz.prog.globals[17]?).map (·.type) = some 126 by kernel_rfl).symm.trans hty)
  have hdat : (Rows.laid_internal_strconv_powtab : DataW Unit) = .slice (powRow.map fun z => .lit (.int .i64 (z : Nat))) [] := rfl
  rw [hdat] at hd
  obtain ⟨a, n, h1, h2⟩ := slice_elems Tryz.underlying126 (fun _ => rfl) hd
  have c3 : Tryz.prog.cellsOf 3 = 1 := by kernel_rfl
  rw [c3] at h2
  have key : ∀ k, k < 9 → W.cell? (a.add (k * 1)) = some (.int .i64 (powRow.getD k 0 : Nat)) := by
    intro k hk
    obtain ⟨cs', q, h3, h4⟩ := h2 k (.lit (.int .i64 (powRow.getD k 0 : Nat))) (by
      have : ∀ k : Fin 9, (powRow.map fun z => (DataW.lit (.int .i64 ((z : Nat) : Int)) : DataW Unit))[k.val]? = some (.lit (.int .i64 (powRow.getD k.val 0 : Nat))) := by
        intro k
        have hk : k.val < powRow.length := k.isLt
        rw [List.getElem?_map, List.getElem?_eq_getElem hk, List.getD_eq_getElem?_getD, List.getElem?_eq_getElem hk]
        rfl
      exact this ⟨k, hk⟩)
    obtain ⟨m, k1, l1, _⟩ := DataW.trod_int Tryz.underlying3 h4
    have := congrArg Prod.fst l1
    simp at this
    have h5 := cells_at h3 (i := 0) (by omega)
    rw [k1, ← this] at h5
    exact h5
  obtain ⟨P, po, sp⟩ := a
  have hsp : sp = none := cell_spot (key 0 (by omega))
  subst hsp
  refine ⟨P, po, ?_, cell_lt (key 0 (by omega)), fun k hk => ?_⟩
  · rw [World.var?_cell hg hvar 0, ← Array.getElem?_toList, h1]; rfl
  · have := key k hk
    rw [Nat.mul_one, add_none] at this
    exact this
end Go.Proofs.YtmndipnifjpdjaaGreatDoor
namespace Go.Proofs.YtmndipnifjpdjaaGreatDoor
open Go Go.RowKit Go.Lib
set_option linter.unusedVariables false
theorem getD_of {α β : Type} {l : List α} {f : α → β} {k : Nat} {x : α} (h : k < l.length) : (l.map f)[k]? = some (f (l.getD k x)) := by
  rw [List.getElem?_map, List.getElem?_eq_getElem h, List.getD_eq_getElem?_getD, List.getElem?_eq_getElem h]
  rfl
theorem rd_tens {L : List (String × DataW Unit)} {W : World} (h : laidMet Tryz.prog L W) (hm : ("internal/strconv.float64pow10", Rows.laid_internal_strconv_float64pow10) ∈ L)  : ∃ G o, W.cell? ⟨18, 0, none⟩ = some (.slice (some ⟨G, o, none⟩) 23 23) ∧ G < W.heap.size ∧ ∀ k, k < 23 → W.cell? ⟨G, o + k, none⟩ = some (.float .f64 (pow10Words.getD k 0)) := by
  obtain ⟨g, t, cs, fuel, p, hg, hty, hvar, hd⟩ := laidMet.reads h (n := "internal/strconv.float64pow10") (d := Rows.laid_internal_strconv_float64pow10) hm
  obtain rfl := Option.some.inj ((show Tryz.prog.globalNamed "internal/strconv.float64pow10" = some 18 by kernel_rfl).symm.trans hg)
  obtain rfl := Option.some.inj ((show (Tryz.prog.globals[18]?).map (·.type) = some 302 by kernel_rfl).symm.trans hty)
  have hdat : (Rows.laid_internal_strconv_float64pow10 : DataW Unit) = .slice (pow10Words.map fun z => .lit (.float .f64 z)) [] := rfl
  rw [hdat] at hd
  obtain ⟨a, n, h1, h2⟩ := slice_elems Tryz.underlying302 (fun _ => rfl) hd
  have c52 : Tryz.prog.cellsOf 107 = 1 := by kernel_rfl
  have hlen : pow10Words.length = 23 := rfl
  rw [c52] at h2
  have key : ∀ k, k < 23 → W.cell? (a.add (k * 1)) = some (.float .f64 (pow10Words.getD k 0)) := by
    intro k hk
    obtain ⟨cs', q, h3, h4⟩ := h2 k _ (getD_of (x := 0) (by rw [hlen]; exact hk))
    obtain ⟨m, k1, l1⟩ := trod_float Tryz.underlying107 h4
    have := congrArg Prod.fst l1
    simp only [DataW.lit.injEq, Lit.float.injEq, true_and] at this
    have h5 := cells_at h3 (i := 0) (by omega)
    rw [k1, ← this] at h5
    exact h5
  obtain ⟨P, po, sp⟩ := a
  have hsp : sp = none := cell_spot (key 0 (by omega))
  subst hsp
  refine ⟨P, po, ?_, cell_lt (key 0 (by omega)), fun k hk => ?_⟩
  · rw [World.var?_cell hg hvar 0, ← Array.getElem?_toList, h1]; rfl
  · have := key k hk
    rw [Nat.mul_one, add_none] at this
    exact this
theorem rd_range {L : List (String × DataW Unit)} {W : World} (h : laidMet Tryz.prog L W) (hm : ("strconv.ErrRange", Rows.laid_strconv_ErrRange) ∈ L)  : ∃ te pe, W.cell? ⟨6, 0, none⟩ = some (.iface te pe) := by
  obtain ⟨g, t, cs, fuel, p, hg, hty, hvar, hd⟩ := laidMet.reads h (n := "strconv.ErrRange") (d := Rows.laid_strconv_ErrRange) hm
  obtain rfl := Option.some.inj ((show Tryz.prog.globalNamed "strconv.ErrRange" = some 6 by kernel_rfl).symm.trans hg)
  obtain rfl := Option.some.inj ((show (Tryz.prog.globals[6]?).map (·.type) = some 56 by kernel_rfl).symm.trans hty)
  obtain ⟨f', u, v, h1, _, _⟩ := iface_of_trod Tryz.underlying56 hd
  refine ⟨u, v, ?_⟩
  rw [World.var?_cell hg hvar 0, ← Array.getElem?_toList, h1]
  rfl
theorem rd_cheats {L : List (String × DataW Unit)} {W : World} (h : laidMet Tryz.prog L W) (hm : ("internal/strconv.leftcheats", Rows.laid_internal_strconv_leftcheats) ∈ L)  : ∃ C co, Cheats W C co := by
  obtain ⟨g, t, cs, fuel, p, hg, hty, hvar, hd⟩ := laidMet.reads h (n := "internal/strconv.leftcheats") (d := Rows.laid_internal_strconv_leftcheats) hm
  obtain rfl := Option.some.inj ((show Tryz.prog.globalNamed "internal/strconv.leftcheats" = some 15 by kernel_rfl).symm.trans hg)
  obtain rfl := Option.some.inj ((show (Tryz.prog.globals[15]?).map (·.type) = some 296 by kernel_rfl).symm.trans hty)
  have hdat : (Rows.laid_internal_strconv_leftcheats : DataW Unit) = .slice (Go.Pinned.cheatRows.map fun x => .agg [.lit (.int .i64 x.1), .lit (.string x.2)]) [] := rfl
  rw [hdat] at hd
  obtain ⟨a, n, h1, h2⟩ := slice_elems Tryz.underlying296 (fun _ => rfl) hd
  have c157 : Tryz.prog.cellsOf 295 = 2 := by kernel_rfl
  have c3 : Tryz.prog.cellsOf 3 = 1 := by kernel_rfl
  have c9 : Tryz.prog.cellsOf 9 = 1 := by kernel_rfl
  have hlen : Go.Pinned.cheatRows.length = 61 := by decide
  rw [c157] at h2
  have key : ∀ k, k < 61 → W.cell? ((a.add (k * 2)).add 0) = some (.int .i64 (cheatRow k).1) ∧ ∃ s : ByteArray, W.cell? ((a.add (k * 2)).add 1) = some (.string s) ∧ bs s = (cheatRow k).2.map (fun b => (b.toNat : Int)) := by
    intro k hk
    obtain ⟨cs', q, h3, h4⟩ := h2 k _ (getD_of (x := (0, [])) (by rw [hlen]; exact hk))
    obtain ⟨xs, n', rfl, hx, hl, hxl, hall⟩ := DataW.trod_struct Tryz.underlying295 h4
    have hxs : xs.map (·.1) = [.lit (.int .i64 (cheatRow k).1), .lit (.string (cheatRow k).2)] := by
      have := congrArg Prod.fst hx
      simp only [DataW.agg.injEq] at this
      exact this.symm
    have f0 : DataW.trod (fun _ => ()) Tryz.prog W 0 (fun _ => true) false n' 3 ((cs'.drop 0).take (Tryz.prog.cellsOf 3)) = xs[0]? := hall 0 _ rfl
    have f1 : DataW.trod (fun _ => ()) Tryz.prog W 0 (fun _ => true) false n' 9 ((cs'.drop 1).take (Tryz.prog.cellsOf 9)) = xs[1]? := hall 1 _ rfl
    rw [c3] at f0
    rw [c9] at f1
    have g0 := congrArg (·[0]?) hxs
    have g1 := congrArg (·[1]?) hxs
    simp only [List.getElem?_map] at g0 g1
    obtain ⟨y0, hy0, e0⟩ := Option.map_eq_some_iff.1 g0
    obtain ⟨y1, hy1, e1⟩ := Option.map_eq_some_iff.1 g1
    rw [hy0] at f0
    rw [hy1] at f1
    obtain ⟨n0, k0, l0, _⟩ := DataW.trod_int Tryz.underlying3 f0
    obtain ⟨s, k1, l1, _⟩ := DataW.trod_string Tryz.underlying9 f1
    rw [l0] at e0
    rw [l1] at e1
    simp only [DataW.lit.injEq, Lit.int.injEq, true_and, Lit.string.injEq] at e0 e1
    constructor
    · rw [cells_at h3 (by omega), ← e0]
      have := congrArg (·[0]?) k0
      simpa [List.getElem?_take, List.getElem?_drop] using this
    · refine ⟨s, ?_, ?_⟩
      · rw [cells_at h3 (by omega)]
        have := congrArg (·[0]?) k1
        simpa [List.getElem?_take, List.getElem?_drop] using this
      · rw [bs_eq, e1]; rfl
  have hsp : a.spot = none := by
    obtain ⟨b, o, sp⟩ := a
    have := (key 0 (by omega)).1
    exact cell_spot this
  obtain ⟨C, co, sp⟩ := a
  have hsp' : sp = none := hsp
  subst hsp'
  refine ⟨C, co, ?_, ?_, ?_, fun k hk => ?_, fun k hk => ?_⟩
  · have : W.cell? ⟨15, 0, none⟩ = some (.slice (some ⟨C, co, none⟩) 61 61) := by rw [World.var?_cell hg hvar 0, ← Array.getElem?_toList, h1]; rfl
    exact cell_lt this
  · have := (key 0 (by omega)).1
    rw [add_none, add_none] at this
    exact cell_lt this
  · rw [World.var?_cell hg hvar 0, ← Array.getElem?_toList, h1]; rfl
  · have := (key k hk).1
    rw [add_none, add_none] at this
    exact this
  · obtain ⟨s, h5, h6⟩ := (key k hk).2
    rw [add_none, add_none] at h5
    exact ⟨s, h5, h6⟩
theorem rd_pow10 {L : List (String × DataW Unit)} {W : World} (h : laidMet Tryz.prog L W) (hm : ("internal/strconv.pow10Tab", Rows.laid_internal_strconv_pow10Tab) ∈ L)  : ∀ i, i < 696 → W.cell? ⟨14, i * 2, none⟩ = some (.int .u64 ((Go.Pinned.pow10Rows.getD i (0, 0)).1 : Nat)) ∧ W.cell? ⟨14, i * 2 + 1, none⟩ = some (.int .u64 ((Go.Pinned.pow10Rows.getD i (0, 0)).2 : Nat)) := by
  intro i hi
  obtain ⟨g, t, cs, fuel, p, hg, hty, hvar, hd⟩ := laidMet.reads h (n := "internal/strconv.pow10Tab") (d := Rows.laid_internal_strconv_pow10Tab) hm
  obtain rfl := Option.some.inj ((show Tryz.prog.globalNamed "internal/strconv.pow10Tab" = some 14 by kernel_rfl).symm.trans hg)
  obtain rfl := Option.some.inj ((show (Tryz.prog.globals[14]?).map (·.type) = some 292 by kernel_rfl).symm.trans hty)
  have hdat : (Rows.laid_internal_strconv_pow10Tab : DataW Unit) = .agg (Go.Pinned.pow10Rows.map fun x => .agg [.lit (.int .u64 x.1), .lit (.int .u64 x.2)]) := rfl
  rw [hdat] at hd
  have c147 : Tryz.prog.cellsOf 291 = 2 := by kernel_rfl
  have c22 : Tryz.prog.cellsOf 35 = 1 := by kernel_rfl
  have hlen : Go.Pinned.pow10Rows.length = 696 := by decide +kernel
  obtain ⟨f', d, q, hdi, he⟩ := array_elem Tryz.underlying292 hd i hi
  rw [getD_of (x := (0, 0)) (by rw [hlen]; exact hi)] at hdi
  have hdi' := (Option.some.inj hdi).symm
  subst hdi'
  rw [c147] at he
  have hcs := ints_of_struct (k := .u64) (zs := [((Go.Pinned.pow10Rows.getD i (0, 0)).1 : Nat), ((Go.Pinned.pow10Rows.getD i (0, 0)).2 : Nat)]) Tryz.underlying291 (fun j f hj => by
    match j, hj with
    | 0, hj => simp at hj; subst hj; exact ⟨Tryz.underlying35, rfl, c22⟩
    | 1, hj => simp at hj; subst hj; exact ⟨Tryz.underlying35, rfl, c22⟩
    | j + 2, hj => simp at hj) (by rw [c147]; rfl) he
  have e0 := congrArg (·[0]?) hcs
  have e1 := congrArg (·[1]?) hcs
  simp only [List.getElem?_take, List.getElem?_drop] at e0 e1
  constructor
  · rw [World.var?_cell hg hvar (i * 2), ← Array.getElem?_toList]
    simpa using e0
  · rw [World.var?_cell hg hvar (i * 2 + 1), ← Array.getElem?_toList]
    simpa using e1
structure Listed (L : List (String × DataW Unit)) : Prop where
  opt : ("internal/strconv.optimize", Rows.laid_internal_strconv_optimize) ∈ L
  info : ("internal/strconv.float64info", Rows.laid_internal_strconv_float64info) ∈ L
  pow : ("internal/strconv.powtab", Rows.laid_internal_strconv_powtab) ∈ L
  tens : ("internal/strconv.float64pow10", Rows.laid_internal_strconv_float64pow10) ∈ L
  rng : ("strconv.ErrRange", Rows.laid_strconv_ErrRange) ∈ L
  cheats : ("internal/strconv.leftcheats", Rows.laid_internal_strconv_leftcheats) ∈ L
  pow10 : ("internal/strconv.pow10Tab", Rows.laid_internal_strconv_pow10Tab) ∈ L
theorem env_of {L : List (String × DataW Unit)} {W : World} (h : laidMet Tryz.prog L W) (hL : Listed L) (hS : W.ShapedOpen Tryz.prog) : ∃ G o P po C co ev m, Env W G o P po C co ev m := by
  obtain ⟨m, hm⟩ := Tryz.laysM145.s1_3 W hS
  obtain ⟨G, o, t1, t2, t3⟩ := rd_tens h hL.tens
  obtain ⟨P, po, p1, p2, p3⟩ := rd_powtab h hL.pow
  obtain ⟨C, co, hC⟩ := rd_cheats h hL.cheats
  obtain ⟨te, pe, hr⟩ := rd_range h hL.rng
  obtain ⟨i0, i1, i2⟩ := rd_info h hL.info
  have h10 := rd_pow10 h hL.pow10
  have h12 := cell_lt t1
  exact ⟨G, o, P, po, C, co, .iface te pe, m, ⟨⟨⟨by omega, t2, i0, t1, t3, fun i hi => (h10 i hi).1, fun i hi => (h10 i hi).2⟩, h12, p2, rd_optimize h hL.opt, i1, i2, p1, p3, hC⟩, hr, .inr ⟨te, pe, rfl⟩, hm⟩⟩
end Go.Proofs.YtmndipnifjpdjaaGreatDoor
namespace Go.Proofs.YtmndipnifjpdjaaGreatDoor
open Go.ChangeShapes Go.WideShapes Go.ChangeAt Go Go.RowKit Go.ChangeMaps
set_option linter.unusedVariables false
theorem post_nil {H : Type} {enc : TypeId × Value → H} {P : Program} {f : Func} {s : ChangeSpec} {apart fresh handsOn again : Bool} {W W' : World} {args : Array Value} {v : Value} {ds gs : List (DataW H)}
    (hW : DataW.Whole enc P f.params.toList s.vars apart W args.toList ds gs [])
    (hres : ∀ (b : Nat) (sp : Nat → Bool) (hd : Bool), DataW.TrodAll enc P W' b sp hd f.resultTypes.toList (v.resultList f.resultTypes.size) (s.fn H (ds ++ gs)).results [])
    (hargs : ∀ sp : Nat → Bool, DataW.TrodAll enc P W' 0 sp true f.params.toList args.toList (s.fn H (ds ++ gs)).args [])
    (hvars : ∀ sp : Nat → Bool, DataW.TrodVars enc P W' sp s.vars (s.fn H (ds ++ gs)).vars [])
    (hk : W.keptBut W' (fun _ => False))
    (hok : ∀ (j : Nat) (t : TypeId) (r : Value), f.resultTypes[j]? = some t → (v.resultList f.resultTypes.size)[j]? = some r → Value.okWide P W' .any 0 t r) :
    s.post enc P f apart fresh handsOn again W args v W' := by
  refine ⟨ds, gs, [], [], [], [], hW, hres _ _ _, hargs _, hvars _, World.keptBut_mono (fun p hp => hp.elim) hk, fun _ => ?_⟩
  obtain ⟨_, _, _, _, _, hz, hn⟩ := hW
  refine ⟨hok, _, _, ([] ++ []) ++ [], ⟨[] ++ [], [], trodAll_append (hargs _) (hres _ _ _), hvars _, rfl, ?_, ?_⟩, ?_⟩
  · intro b off hp
    cases hp
  · intro ha
    exact List.nodup_nil
  · intro p hp _
    cases hp
theorem own : ownKnob Tryz.prog.godebug = none := by kernel_rfl
abbrev laidL := Rows.fnExactLexRow.laid
theorem listedL : Listed laidL := by
  constructor
  all_goals (unfold laidL Rows.fnExactLexRow; simp only [List.mem_cons, true_or, or_true])
theorem tab_of {W : World} (h : laidMet Tryz.prog laidL W) : TabL W := by
  have h2 := laidMet.filter (fun x => x.1 == "strings.asciiSpace") h
  have hf : laidL.filter (fun x => x.1 == "strings.asciiSpace") = [("strings.asciiSpace", Lib.tabData .u8 Lib.asciiSpaceTab)] := by kernel_rfl
  rw [hf] at h2
  exact Lib.tabIs_of_head (g := 0) (t := 101) (n := 256) (by kernel_rfl) (by kernel_rfl) (by kernel_rfl) Tryz.underlying5 (by kernel_rfl) (by kernel_rfl) h2
def LawLx : Prop := ∀ (s : ByteArray) (w : World) (m : Int), TabL w → EnvL w → MaxAt m w → Calls Tryz.prog 3 #[.string s] w fun e w' => e = .returned (.bool true) ∧ Below w.heap.size w w'
set_option maxRecDepth 100000 in
theorem contract (hX : LawLx) (H : Type) (enc : TypeId × Value → H) (W : World) (base : Nat) (args : Array Value) (ds gs : List (DataW H)) (before : List MemPlace)
    (hval : ∀ (j : Nat) t v, Tryz.f3.params[j]? = some t → args[j]? = some v → Value.okWide Tryz.prog W .any base t v)
    (hW : DataW.Whole enc Tryz.prog Tryz.f3.params.toList Rows.fnExactLexSpec.vars false W args.toList ds gs before) (hL : laidMetH Tryz.prog Rows.fnExactLexRow.laid W) (hS : W.ShapedOpen Tryz.prog) :
    Calls Tryz.prog 3 args W fun e W' => ∃ v, e = .returned v ∧ Rows.fnExactLexSpec.post enc Tryz.prog Tryz.f3 false true false false W args v W' := by
  have hW' := hW
  obtain ⟨p, q, hA0, hV, rfl, hfz, hnd⟩ := hW
  have hA : DataW.TrodAll enc Tryz.prog W 0 (fun _ => true) true Tryz.f3.params.toList args.toList ds p := hA0
  rw [Tryz.params3] at hA hval
  obtain ⟨v0, vs0, d0, ds0, p0, q0, hargs, rfl, rfl, h0, r0⟩ := trodAll_cons hA
  obtain ⟨rfl, rfl, rfl⟩ := trodAll_nil r0
  obtain rfl : args = #[v0] := by cases args; simp_all
  obtain ⟨rfl, rfl⟩ := trodVars_none hV
  obtain ⟨s, rfl, rfl, rfl, hs⟩ := open_string Tryz.underlying9 (hval 0 9 v0 rfl rfl) h0
  clear hA0
  simp only [List.append_nil] at hW'
  have hL' : laidMet Tryz.prog laidL W := hL
  obtain ⟨G, o, P, po, C, co, ev, m, hE⟩ := env_of hL' listedL hS
  refine (hX s W m (tab_of hL') ⟨G, o, P, po, C, co, ev, m, hE⟩ ⟨hE.ml, by have := hE.vars.h12; omega⟩).mono fun e W' ⟨he, hb⟩ => ?_
  subst he
  exact ⟨_, rfl, post_nil hW' (fun _ _ _ => trodAll_cons_mk (shut_bool Tryz.underlying4 _) trodAll_mk0) (fun _ => trodAll_cons_mk (shut_string Tryz.underlying9 hs) trodAll_mk0) (fun _ => rfl)
    (hb.frame _) (ok_one (by kernel_rfl) rfl (okWide_bool_mk Tryz.underlying4 _))⟩
end Go.Proofs.YtmndipnifjpdjaaGreatDoor
