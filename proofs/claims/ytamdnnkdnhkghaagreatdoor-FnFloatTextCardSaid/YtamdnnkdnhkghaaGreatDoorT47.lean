import Derived.Test.YtamdnnkdnhkghaaGreatDoorT46
import Derived.Stop.LaidTwo
import Derived.LaidSub
import Derived.WalkKit
import Derived.ProofKit
import Derived.OpenShut
import Derived.Deep.DeepHandedRow
import Derived.ChangeMaps5
import Derived.Carry
import Derived.ChangeOld
import Derived.Test.YtamdnnkdnhkghaaGreatDoorT27
import Derived.Lib.SmallJoins
import Derived.Test.YtamdnnkdnhkghaaGreatDoorT44
import Derived.ChangeSlices
import Derived.Test.YtamdnnkdnhkghaaGreatDoorCards
import Derived.Lay
import Derived.SevenTiedAt
namespace Go.Proofs.YtamdnnkdnhkghaaGreatDoor

open Go Go.RowKit Go.Lib

set_option linter.unusedVariables false

theorem getD_of {α β : Type} {l : List α} {f : α → β} {k : Nat} {x : α} (h : k < l.length) : (l.map f)[k]? = some (f (l.getD k x)) := by
  rw [List.getElem?_map, List.getElem?_eq_getElem h, List.getD_eq_getElem?_getD, List.getElem?_eq_getElem h]
  rfl

theorem rd_tens {L : List (String × DataW Unit)} {W : World} (h : laidMet Tryz.prog L W) (hm : ("internal/strconv.float64pow10", Rows.laid_internal_strconv_float64pow10) ∈ L)  : ∃ G o, W.cell? ⟨19, 0, none⟩ = some (.slice (some ⟨G, o, none⟩) 23 23) ∧ G < W.heap.size ∧ ∀ k, k < 23 → W.cell? ⟨G, o + k, none⟩ = some (.float .f64 (pow10Words.getD k 0)) := by
  obtain ⟨g, t, cs, fuel, p, hg, hty, hvar, hd⟩ := laidMet.reads h (n := "internal/strconv.float64pow10") (d := Rows.laid_internal_strconv_float64pow10) hm
  obtain rfl := Option.some.inj ((show Tryz.prog.globalNamed "internal/strconv.float64pow10" = some 19 by kernel_rfl).symm.trans hg)
  obtain rfl := Option.some.inj ((show (Tryz.prog.globals[19]?).map (·.type) = some 267 by kernel_rfl).symm.trans hty)
  have hdat : (Rows.laid_internal_strconv_float64pow10 : DataW Unit) = .slice (pow10Words.map fun z => .lit (.float .f64 z)) [] := rfl
  rw [hdat] at hd
  obtain ⟨a, n, h1, h2⟩ := slice_elems Tryz.underlying267 (fun _ => rfl) hd
  have c52 : Tryz.prog.cellsOf 45 = 1 := by kernel_rfl
  have hlen : pow10Words.length = 23 := rfl
  rw [c52] at h2
  have key : ∀ k, k < 23 → W.cell? (a.add (k * 1)) = some (.float .f64 (pow10Words.getD k 0)) := by
    intro k hk
    obtain ⟨cs', q, h3, h4⟩ := h2 k _ (getD_of (x := 0) (by rw [hlen]; exact hk))
    obtain ⟨m, k1, l1⟩ := trod_float Tryz.underlying45 h4
    have := congrArg Prod.fst l1
    simp only [DataW.lit.injEq, Lit.float.injEq, true_and] at this
    have h5 := cells_at h3 (i := 0) (by omega)
    rw [k1, ← this] at h5
    exact h5
  obtain ⟨P, po, sp⟩ := a
  have hsp : sp = none := cell_spot (key 0 (by omega))
  subst hsp
  refine ⟨P, po, ?_, cell_lt (key 0 (by omega)), fun k hk => ?_⟩
  · rw [World.var?_cell hg hvar 0, ← Array.getElem?_toList, h1]; rfl
  · have := key k hk
    rw [Nat.mul_one, add_none] at this
    exact this

theorem rd_range {L : List (String × DataW Unit)} {W : World} (h : laidMet Tryz.prog L W) (hm : ("strconv.ErrRange", Rows.laid_strconv_ErrRange) ∈ L)  : ∃ te pe, W.cell? ⟨9, 0, none⟩ = some (.iface te pe) := by
  obtain ⟨g, t, cs, fuel, p, hg, hty, hvar, hd⟩ := laidMet.reads h (n := "strconv.ErrRange") (d := Rows.laid_strconv_ErrRange) hm
  obtain rfl := Option.some.inj ((show Tryz.prog.globalNamed "strconv.ErrRange" = some 9 by kernel_rfl).symm.trans hg)
  obtain rfl := Option.some.inj ((show (Tryz.prog.globals[9]?).map (·.type) = some 61 by kernel_rfl).symm.trans hty)
  obtain ⟨f', u, v, h1, _, _⟩ := iface_of_trod Tryz.underlying61 hd
  refine ⟨u, v, ?_⟩
  rw [World.var?_cell hg hvar 0, ← Array.getElem?_toList, h1]
  rfl

theorem rd_cheats {L : List (String × DataW Unit)} {W : World} (h : laidMet Tryz.prog L W) (hm : ("internal/strconv.leftcheats", Rows.laid_internal_strconv_leftcheats) ∈ L)  : ∃ C co, Cheats W C co := by
  obtain ⟨g, t, cs, fuel, p, hg, hty, hvar, hd⟩ := laidMet.reads h (n := "internal/strconv.leftcheats") (d := Rows.laid_internal_strconv_leftcheats) hm
  obtain rfl := Option.some.inj ((show Tryz.prog.globalNamed "internal/strconv.leftcheats" = some 21 by kernel_rfl).symm.trans hg)
  obtain rfl := Option.some.inj ((show (Tryz.prog.globals[21]?).map (·.type) = some 278 by kernel_rfl).symm.trans hty)
  have hdat : (Rows.laid_internal_strconv_leftcheats : DataW Unit) = .slice (Go.Pinned.cheatRows.map fun x => .agg [.lit (.int .i64 x.1), .lit (.string x.2)]) [] := rfl
  rw [hdat] at hd
  obtain ⟨a, n, h1, h2⟩ := slice_elems Tryz.underlying278 (fun _ => rfl) hd
  have c157 : Tryz.prog.cellsOf 277 = 2 := by kernel_rfl
  have c3 : Tryz.prog.cellsOf 3 = 1 := by kernel_rfl
  have c9 : Tryz.prog.cellsOf 9 = 1 := by kernel_rfl
  have hlen : Go.Pinned.cheatRows.length = 61 := by decide
  rw [c157] at h2
  have key : ∀ k, k < 61 → W.cell? ((a.add (k * 2)).add 0) = some (.int .i64 (cheatRow k).1) ∧ ∃ s : ByteArray, W.cell? ((a.add (k * 2)).add 1) = some (.string s) ∧ bs s = (cheatRow k).2.map (fun b => (b.toNat : Int)) := by
    intro k hk
    obtain ⟨cs', q, h3, h4⟩ := h2 k _ (getD_of (x := (0, [])) (by rw [hlen]; exact hk))
    obtain ⟨xs, n', rfl, hx, hl, hxl, hall⟩ := DataW.trod_struct Tryz.underlying277 h4
    have hxs : xs.map (·.1) = [.lit (.int .i64 (cheatRow k).1), .lit (.string (cheatRow k).2)] := by
      have := congrArg Prod.fst hx
      simp only [DataW.agg.injEq] at this
      exact this.symm
    have f0 : DataW.trod (fun _ => ()) Tryz.prog W 0 (fun _ => true) false n' 3 ((cs'.drop 0).take (Tryz.prog.cellsOf 3)) = xs[0]? := hall 0 _ rfl
    have f1 : DataW.trod (fun _ => ()) Tryz.prog W 0 (fun _ => true) false n' 9 ((cs'.drop 1).take (Tryz.prog.cellsOf 9)) = xs[1]? := hall 1 _ rfl
    rw [c3] at f0
    rw [c9] at f1
    have g0 := congrArg (·[0]?) hxs
    have g1 := congrArg (·[1]?) hxs
    simp only [List.getElem?_map] at g0 g1
    obtain ⟨y0, hy0, e0⟩ := Option.map_eq_some_iff.1 g0
    obtain ⟨y1, hy1, e1⟩ := Option.map_eq_some_iff.1 g1
    rw [hy0] at f0
    rw [hy1] at f1
    obtain ⟨n0, k0, l0, _⟩ := DataW.trod_int Tryz.underlying3 f0
    obtain ⟨s, k1, l1, _⟩ := DataW.trod_string Tryz.underlying9 f1
    rw [l0] at e0
    rw [l1] at e1
    simp only [DataW.lit.injEq, Lit.int.injEq, true_and, Lit.string.injEq] at e0 e1
    constructor
    · rw [cells_at h3 (by omega), ← e0]
      have := congrArg (·[0]?) k0
      simpa [List.getElem?_take, List.getElem?_drop] using this
    · refine ⟨s, ?_, ?_⟩
      · rw [cells_at h3 (by omega)]
        have := congrArg (·[0]?) k1
        simpa [List.getElem?_take, List.getElem?_drop] using this
      · rw [bs_eq, e1]; rfl
  have hsp : a.spot = none := by
    obtain ⟨b, o, sp⟩ := a
    have := (key 0 (by omega)).1
    exact cell_spot this
  obtain ⟨C, co, sp⟩ := a
  have hsp' : sp = none := hsp
  subst hsp'
  refine ⟨C, co, ?_, ?_, ?_, fun k hk => ?_, fun k hk => ?_⟩
  · have : W.cell? ⟨21, 0, none⟩ = some (.slice (some ⟨C, co, none⟩) 61 61) := by rw [World.var?_cell hg hvar 0, ← Array.getElem?_toList, h1]; rfl
    exact cell_lt this
  · have := (key 0 (by omega)).1
    rw [add_none, add_none] at this
    exact cell_lt this
  · rw [World.var?_cell hg hvar 0, ← Array.getElem?_toList, h1]; rfl
  · have := (key k hk).1
    rw [add_none, add_none] at this
    exact this
  · obtain ⟨s, h5, h6⟩ := (key k hk).2
    rw [add_none, add_none] at h5
    exact ⟨s, h5, h6⟩

theorem rd_pow10 {L : List (String × DataW Unit)} {W : World} (h : laidMet Tryz.prog L W) (hm : ("internal/strconv.pow10Tab", Rows.laid_internal_strconv_pow10Tab) ∈ L)  : ∀ i, i < 696 → W.cell? ⟨20, i * 2, none⟩ = some (.int .u64 ((Go.Pinned.pow10Rows.getD i (0, 0)).1 : Nat)) ∧ W.cell? ⟨20, i * 2 + 1, none⟩ = some (.int .u64 ((Go.Pinned.pow10Rows.getD i (0, 0)).2 : Nat)) := by
  intro i hi
  obtain ⟨g, t, cs, fuel, p, hg, hty, hvar, hd⟩ := laidMet.reads h (n := "internal/strconv.pow10Tab") (d := Rows.laid_internal_strconv_pow10Tab) hm
  obtain rfl := Option.some.inj ((show Tryz.prog.globalNamed "internal/strconv.pow10Tab" = some 20 by kernel_rfl).symm.trans hg)
  obtain rfl := Option.some.inj ((show (Tryz.prog.globals[20]?).map (·.type) = some 274 by kernel_rfl).symm.trans hty)
  have hdat : (Rows.laid_internal_strconv_pow10Tab : DataW Unit) = .agg (Go.Pinned.pow10Rows.map fun x => .agg [.lit (.int .u64 x.1), .lit (.int .u64 x.2)]) := rfl
  rw [hdat] at hd
  have c147 : Tryz.prog.cellsOf 273 = 2 := by kernel_rfl
  have c22 : Tryz.prog.cellsOf 22 = 1 := by kernel_rfl
  have hlen : Go.Pinned.pow10Rows.length = 696 := by decide +kernel
  obtain ⟨f', d, q, hdi, he⟩ := array_elem Tryz.underlying274 hd i hi
  rw [getD_of (x := (0, 0)) (by rw [hlen]; exact hi)] at hdi
  have hdi' := (Option.some.inj hdi).symm
  subst hdi'
  rw [c147] at he
  have hcs := ints_of_struct (k := .u64) (zs := [((Go.Pinned.pow10Rows.getD i (0, 0)).1 : Nat), ((Go.Pinned.pow10Rows.getD i (0, 0)).2 : Nat)]) Tryz.underlying273 (fun j f hj => by
    match j, hj with
    | 0, hj => simp at hj; subst hj; exact ⟨Tryz.underlying22, rfl, c22⟩
    | 1, hj => simp at hj; subst hj; exact ⟨Tryz.underlying22, rfl, c22⟩
    | j + 2, hj => simp at hj) (by rw [c147]; rfl) he
  have e0 := congrArg (·[0]?) hcs
  have e1 := congrArg (·[1]?) hcs
  simp only [List.getElem?_take, List.getElem?_drop] at e0 e1
  constructor
  · rw [World.var?_cell hg hvar (i * 2), ← Array.getElem?_toList]
    simpa using e0
  · rw [World.var?_cell hg hvar (i * 2 + 1), ← Array.getElem?_toList]
    simpa using e1

/-- The tables that 'ParseNumber' reads, on the list. -/
structure Listed (L : List (String × DataW Unit)) : Prop where
  opt : ("internal/strconv.optimize", Rows.laid_internal_strconv_optimize) ∈ L
  info : ("internal/strconv.float64info", Rows.laid_internal_strconv_float64info) ∈ L
  pow : ("internal/strconv.powtab", Rows.laid_internal_strconv_powtab) ∈ L
  tens : ("internal/strconv.float64pow10", Rows.laid_internal_strconv_float64pow10) ∈ L
  rng : ("strconv.ErrRange", Rows.laid_strconv_ErrRange) ∈ L
  cheats : ("internal/strconv.leftcheats", Rows.laid_internal_strconv_leftcheats) ∈ L
  pow10 : ("internal/strconv.pow10Tab", Rows.laid_internal_strconv_pow10Tab) ∈ L

/-- What the row's list and the world's shape give. -/
theorem env_of {L : List (String × DataW Unit)} {W : World} (h : laidMet Tryz.prog L W) (hL : Listed L) (hS : W.ShapedOpen Tryz.prog) : ∃ G o P po C co ev m, Env W G o P po C co ev m := by
  obtain ⟨m, hm⟩ := Tryz.laysM145.s1_3 W hS
  obtain ⟨G, o, t1, t2, t3⟩ := rd_tens h hL.tens
  obtain ⟨P, po, p1, p2, p3⟩ := rd_powtab h hL.pow
  obtain ⟨C, co, hC⟩ := rd_cheats h hL.cheats
  obtain ⟨te, pe, hr⟩ := rd_range h hL.rng
  obtain ⟨i0, i1, i2⟩ := rd_info h hL.info
  have h10 := rd_pow10 h hL.pow10
  have h12 := hC.size
  exact ⟨G, o, P, po, C, co, .iface te pe, m, ⟨⟨⟨by omega, t2, i0, t1, t3, fun i hi => (h10 i hi).1, fun i hi => (h10 i hi).2⟩, h12, p2, rd_optimize h hL.opt, i1, i2, p1, p3, hC⟩, hr, .inr ⟨te, pe, rfl⟩, hm⟩⟩

end Go.Proofs.YtamdnnkdnhkghaaGreatDoor

namespace Go.Proofs.YtamdnnkdnhkghaaGreatDoor

open Go.ChangeShapes Go.WideShapes Go.ChangeAt Go Go.RowKit Go.ChangeMaps Go.WideElems

set_option linter.unusedVariables false

/-- The promise where nothing below the heap's old size has turned. -/
theorem post_low {H : Type} {enc : TypeId × Value → H} {P : Program} {f : Func} {s : ChangeSpec} {apart fresh handsOn again : Bool} {W W' : World} {args : Array Value} {v : Value} {ds gs : List (DataW H)} {before pa pv : List MemPlace}
    (hW : DataW.Whole enc P f.params.toList s.vars apart W args.toList ds gs before)
    (hres : ∀ (b : Nat) (sp : Nat → Bool) (hd : Bool), DataW.TrodAll enc P W' b sp hd f.resultTypes.toList (v.resultList f.resultTypes.size) (s.fn H (ds ++ gs)).results [])
    (hargs : ∀ sp : Nat → Bool, (∀ p ∈ before, sp p.block = true) → DataW.TrodAll enc P W' 0 sp true f.params.toList args.toList (s.fn H (ds ++ gs)).args pa)
    (hvars : ∀ sp : Nat → Bool, (∀ p ∈ before, sp p.block = true) → DataW.TrodVars enc P W' sp s.vars (s.fn H (ds ++ gs)).vars pv)
    (hps : before = pa ++ pv) (hb : Below W.heap.size W W')
    (hok : ∀ (j : Nat) (t : TypeId) (r : Value), f.resultTypes[j]? = some t → (v.resultList f.resultTypes.size)[j]? = some r → Value.okWide P W' .any 0 t r) :
    s.post enc P f apart fresh handsOn again W args v W' := by
  have hlt := hW.lt
  have hold : ∀ p ∈ before, (fun b => decide (b < W.heap.size)) p.block = true := fun p hp => by simpa using hlt p hp
  refine ⟨ds, gs, before, [], pa, pv, hW, hres _ _ _, hargs _ hold, hvars _ hold, World.keptBut_mono (fun p hp => ⟨hp, ?_⟩) (hb.frame _), fun _ => ?_⟩
  · rw [hps, List.mem_append] at hp
    exact Or.inr hp
  · obtain ⟨_, _, _, _, _, hz, hn⟩ := hW
    refine ⟨hok, _, _, ([] ++ pa) ++ pv, ⟨[] ++ pa, pv, trodAll_append (hargs _ (fun _ _ => rfl)) (hres _ _ _), hvars _ (fun _ _ => rfl), rfl, ?_, ?_⟩, ?_⟩
    · intro b off hp
      have hp' : MemPlace.cell b off ∈ before := by rw [hps]; simpa using hp
      rw [hb.frozen (p := ⟨b, off, none⟩) (hlt _ hp')]
      exact hz b off hp'
    · intro ha
      have := hn ha
      rw [hps] at this
      simpa using this
    · intro p hp _
      rw [hps]
      simpa using hp

theorem own : ownKnob Tryz.prog.godebug = none := by kernel_rfl

theorem laidOut : laidOutB Tryz.prog = true := by kernel_rfl

end Go.Proofs.YtamdnnkdnhkghaaGreatDoor

namespace Go.Proofs.YtamdnnkdnhkghaaGreatDoor

open Go.ChangeShapes Go.WideShapes Go.ChangeAt Go Go.RowKit Go.ChangeMaps Go.WideElems Go.Joins Go.Deep

set_option linter.unusedVariables false

/-- What formatting wants, of a row's list. -/
theorem fe_of {L : List (String × DataW Unit)} {W : World} (h : laidMet Tryz.prog L W) (hL : Listed L) (hf : L.filter (fun x => x.1 == "internal/strconv.uint64pow10") = [("internal/strconv.uint64pow10", Lib.tabData .u64 Lib.pow10Tab)]) (hS : W.ShapedOpen Tryz.prog) : FE W := by
  obtain ⟨G, o, P, po, C, co, ev, m, hE⟩ := env_of h hL hS
  refine ⟨⟨?_, rd_pow10 h hL.pow10, rd_optimize h hL.opt, ?_⟩, G, o, P, po, C, co, ev, m, hE⟩
  · obtain ⟨C, co, hC⟩ := rd_cheats h hL.cheats
    exact hC.size
  · have h2 := laidMet.filter (fun x => x.1 == "internal/strconv.uint64pow10") h
    rw [hf] at h2
    exact Lib.tabIs_of_head (g := 6) (t := 183) (n := 20) (by kernel_rfl) (by kernel_rfl) (by kernel_rfl) Tryz.underlying22 (by kernel_rfl) (by kernel_rfl) h2

end Go.Proofs.YtamdnnkdnhkghaaGreatDoor

namespace Go.Proofs.YtamdnnkdnhkghaaGreatDoor

open Go.ChangeShapes Go.WideShapes Go.ChangeAt Go Go.RowKit Go.ChangeMaps Go.WideElems Go.Joins Go.Deep

set_option linter.unusedVariables false

abbrev laidFT := Rows.fnFloatTextRow.laid

theorem listedFT : Listed laidFT := by
  constructor
  all_goals (unfold laidFT Rows.fnFloatTextRow; simp only [List.mem_cons, true_or, or_true])

theorem byte29 : Tryz.prog.readableRec 29 = true ∧ 29 < Tryz.prog.types.size := ⟨by kernel_rfl, by decide +kernel⟩

set_option maxRecDepth 100000 in
/-- What the walks give, for every code and every world that holds the tables. -/
theorem ftcontract (H : Type) (enc : TypeId × Value → H) (W : World) (base : Nat) (args : Array Value) (ds gs : List (DataW H)) (before : List MemPlace)
    (hval : ∀ (j : Nat) t v, Tryz.f4.params[j]? = some t → args[j]? = some v → Value.okWide Tryz.prog W .any base t v)
    (hW : DataW.Whole enc Tryz.prog Tryz.f4.params.toList Rows.fnFloatTextSpec.vars false W args.toList ds gs before) (hL : laidMetH Tryz.prog Rows.fnFloatTextRow.laid W) (hS : W.ShapedOpen Tryz.prog) :
    Calls Tryz.prog 4 args W fun e W' => ∃ v, e = .returned v ∧ Rows.fnFloatTextSpec.post enc Tryz.prog Tryz.f4 false true false false W args v W' := by
  have hW' := hW
  obtain ⟨p, q, hA0, hV, rfl, hfz, hnd⟩ := hW
  have hA : DataW.TrodAll enc Tryz.prog W 0 (fun _ => true) true Tryz.f4.params.toList args.toList ds p := hA0
  rw [Tryz.params4] at hA hval
  obtain ⟨v0, vs0, d0, ds0, p0, q0, hargs, rfl, rfl, h0, r0⟩ := trodAll_cons hA
  obtain ⟨rfl, rfl, rfl⟩ := trodAll_nil r0
  obtain rfl : args = #[v0] := by cases args; simp_all
  obtain ⟨rfl, rfl⟩ := trodVars_none hV
  have hlt := hW'.lt
  obtain ⟨fuel, hf⟩ := h0
  clear hA0
  obtain ⟨a0, len0, cap0, rfl⟩ := okWide_slice Tryz.underlying29 (hval 0 29 v0 rfl rfl)
  have hf' : DataW.trod enc Tryz.prog W 0 (fun _ => true) true fuel 29 [.slice a0 len0 cap0] = some (d0, p0) := hf
  have hC : CodeAt W.heap.size W (.slice a0 len0 cap0) len0 := by
    rcases open_ints Tryz.underlying29 Tryz.underlying5 (show Tryz.prog.cellsOf 5 = 1 by kernel_rfl) hf' with ⟨hcs, _⟩ | ⟨a, len, cap, zs, hcs, _, hlc, _, hzl, _, hcell, hwf⟩
    · simp at hcs
      obtain ⟨rfl, rfl, rfl⟩ := hcs
      exact .inl ⟨rfl, _, _, rfl⟩
    · simp at hcs
      obtain ⟨rfl, rfl, rfl⟩ := hcs
      rw [if_pos rfl] at hzl
      by_cases h00 : len0 = 0
      · subst h00
        exact .inl ⟨rfl, _, _, rfl⟩
      · obtain ⟨b, o, sp⟩ := a
        have k0 := hcell 0 (by omega)
        have hsp : sp = none := cell_spot k0
        subst hsp
        have k1 := k0
        rw [add_none] at k1
        refine .inr ⟨b, o, cap0, rfl, cell_lt k1, fun j hj => ?_⟩
        have kj := hcell j (by omega)
        rw [add_none] at kj
        have hz := hwf _ (getD_mem (l := zs) (k := j) (by omega))
        have m1 : IntKind.u8.min = 0 := by decide
        have m2 : IntKind.u8.max = 255 := by decide
        simp only [Lit.wf, Bool.and_eq_true, decide_eq_true_eq, m1, m2] at hz
        exact ⟨_, hz.1, hz.2, kj⟩
  have hL' : laidMet Tryz.prog laidFT W := hL
  have hF : FE W := fe_of hL' listedFT rfl hS
  refine (ftlaw_any _ _ W hC hF).mono fun e W' ⟨he, hb⟩ => ?_
  subst he
  have hst : ∀ (sp : Nat → Bool), (∀ x ∈ p0, sp x.block = true) → DataW.Trod enc Tryz.prog W' 0 sp true 29 (.slice a0 len0 cap0) d0 p0 := fun sp hsp => by
    exact ⟨fuel, DataW.trod_stays (kids_book laidOut byte29.1) (book_sized byte29.1) (fun h => by cases h) ⟨byte29.2, book_self 29⟩ hf (fun x hx => hb.same (hlt x (by simp [hx]))) hsp⟩
  refine ⟨_, rfl, post_low hW' (pa := p0 ++ []) (pv := []) (fun _ _ _ => trodAll_cons_mk (shut_bool Tryz.underlying4 _) trodAll_mk0) (fun sp hsp => trodAll_cons_mk (hst sp (fun x hx => hsp x (by simp [hx]))) trodAll_mk0)
    (fun sp hsp => rfl) rfl hb (ok_one (by kernel_rfl) rfl (okWide_bool_mk Tryz.underlying4 _))⟩

end Go.Proofs.YtamdnnkdnhkghaaGreatDoor

namespace Go.Proofs.YtamdnnkdnhkghaaGreatDoor

open Go.ChangeShapes Go.WideShapes Go.ChangeAt Go Go.RowKit

set_option maxRecDepth 100000

theorem tclosed2 : Tryz.f4.isInstance Tryz.prog Rows.fnFloatTextRow.origin Rows.fnFloatTextRow.targs := of_decide_eq_true (by kernel_rfl)

theorem tclosed3 : Tryz.prog.funcNamed Rows.fnFloatTextRow.func = some 4 := by kernel_rfl

end Go.Proofs.YtamdnnkdnhkghaaGreatDoor

namespace Go.Proofs.YtamdnnkdnhkghaaGreatDoor

open Go.ChangeShapes Go.WideShapes Go.ChangeAt Go Go.RowKit

set_option maxRecDepth 100000

theorem tclosed4 : Tryz.f4.isWrapper Tryz.prog Rows.fnFloatTextRow.wrapper Rows.fnFloatTextRow.mainSum := by unfold Func.isWrapper; first | (rw [if_pos (by decide +kernel)]; kernel_rfl) | (rw [if_neg (by decide +kernel)]; exact ⟨rfl, rfl⟩)

end Go.Proofs.YtamdnnkdnhkghaaGreatDoor
