import Derived.Test.YtemciphihnpniaaDoorQZB
import Derived.Test.YtemciphihnpniaaDoorJQZU
import Derived.Test.YtemciphihnpniaaDoorTie
import Derived.Test.YtemciphihnpniaaDoorCards
import Derived.WalkKit
import Derived.ProofKit
import Derived.Deep.DeepHandedRow
import Derived.ChangeMaps5
import Derived.OpenVars
import Derived.Carry
import Derived.ChangeOld
import Derived.Lib.SmallJoins
import Derived.Lib.LaidTab
import Derived.LaidSub
import Derived.LaidOnce
import Derived.SevenTiedAt
import Derived.MakeChecks
namespace Go.Proofs.YtemciphihnpniaaDoor
open Go.ChangeShapes Go.WideShapes Go.ChangeAt Go Go.RowKit Go.ChangeMaps Go.WideElems
set_option linter.unusedVariables false

set_option maxRecDepth 100000 in
/-- What the walk gives, for every argument and every world that holds the variable. -/
theorem findall_contract (H : Type) (enc : TypeId × Value → H) (W : World) (base : Nat) (args : Array Value) (ds gs : List (DataW H)) (before : List MemPlace)
    (hval : ∀ (j : Nat) t v, Tryd.f4.params[j]? = some t → args[j]? = some v → Value.okWide Tryd.prog W .any base t v)
    (hW : DataW.Whole enc Tryd.prog Tryd.f4.params.toList Rows.fnExactFindAllSpec.vars false W args.toList ds gs before) (hL : laidMetH Tryd.prog Rows.fnExactFindAllRow.laid W) :
    Calls Tryd.prog 4 args W fun e W' => ∃ v, e = .returned v ∧ Rows.fnExactFindAllSpec.post enc Tryd.prog Tryd.f4 false true false false W args v W' := by
  have hW' := hW
  obtain ⟨p, q, hA0, hV0, rfl, hfz, hnd⟩ := hW
  have hA : DataW.TrodAll enc Tryd.prog W 0 (fun _ => true) true Tryd.f4.params.toList args.toList ds p := hA0
  have hV : DataW.TrodVars enc Tryd.prog W (fun _ => true) ["loop.example/g00002/impl.letterRanges"] gs q := hV0
  rw [Tryd.params4] at hA hval
  obtain ⟨v0, vs0, d0, ds0, p0, q0, hargs, rfl, rfl, h0, r0⟩ := trodAll_cons hA
  obtain ⟨v1, vs1, d1, ds1, p1, q1, rfl, rfl, rfl, h1, r1⟩ := trodAll_cons r0
  obtain ⟨rfl, rfl, rfl⟩ := trodAll_nil r1
  obtain rfl : args = #[v0, v1] := by cases args; simp_all
  obtain ⟨s0, rfl, rfl, rfl, hs0⟩ := open_string Tryd.underlying9 (hval 0 9 v0 rfl rfl) h0
  obtain ⟨s1, rfl, rfl, rfl, hs1⟩ := open_string Tryd.underlying9 (hval 1 9 v1 rfl rfl) h1
  have hltV := hV.lt
  obtain ⟨g, t, cs, fuel, d, p', rfl, hg, ht, hvar, hd, rfl⟩ := trodVars_one hV
  obtain rfl : g = 0 := Option.some.inj (hg.symm.trans lt_at)
  obtain rfl : t = 123 := Option.some.inj (ht.symm.trans lt_ty)
  clear hA0 hV0
  have hL' : laidMet Tryd.prog Rows.fnExactFindAllRow.laid W := hL
  have hT := ltT_of (show laidMet Tryd.prog Rows.fnExactFindRow.laid W from hL')
  have h00 : 0 < W.heap.size := by
    have hc := hT 0 (.int .u8 97) rfl
    rcases Nat.lt_or_ge 0 W.heap.size with y | y
    · exact y
    · exfalso
      unfold World.cell? at hc
      rw [Array.getElem?_eq_none y] at hc
      cases hc
  refine (findAllLaw_any s0 s1 W hT h00).mono fun e W' ⟨he, hb⟩ => ?_
  subst he
  have hvar' : W'.var? Tryd.prog "loop.example/g00002/impl.letterRanges" = some cs := by
    unfold World.var? at hvar ⊢
    rw [hg] at hvar ⊢
    simp only [Option.bind_some] at hvar ⊢
    rw [hb.block 0 h00]
    exact hvar
  refine ⟨_, rfl, post_low hW' (pa := []) (pv := MemPlace.row ⟨0, 0, none⟩ cs.size ++ p') (fun _ _ _ => trodAll_cons_mk (shut_bool Tryd.underlying4 _) trodAll_mk0)
    (fun sp _ => trodAll_cons_mk (shut_string Tryd.underlying9 hs0) (trodAll_cons_mk (shut_string Tryd.underlying9 hs1) trodAll_mk0))
    (fun sp hsp => trodVars_mk1 hg ht hvar' (DataW.trod_stays (kids_book ltOut ltR.1) (book_sized ltR.1) (fun h => by cases h) ⟨ltR.2, book_self 123⟩ hd (fun x hx => hb.same (hltV x (by simp [hx]))) (fun x hx => hsp x (by simp [hx]))))
    rfl hb (ok_one (by kernel_rfl) rfl (okWide_bool_mk Tryd.underlying4 _))⟩

def findallArgs : Array Value := #[.string ⟨#[]⟩, .string ⟨#[]⟩]
theorem ltWorldA_met (os : Os) : laidMet Tryd.prog Rows.fnExactFindAllRow.laid (({ World.holding Tryd.prog os ⟨#[], #[], []⟩ with heap := (World.holding Tryd.prog os ⟨#[], #[], []⟩).heap.modify 0 (fun x => match x with | .cells _ t frozen => .cells ltL.toArray t frozen | o => o) } : World).forCall (fun _ _ => 0) ⟨#[], findallArgs, []⟩).memory :=
  laidMet_of_run' 8 (by kernel_rfl) (by kernel_rfl)
theorem findall_reads (os : Os) {H : Type} (enc : TypeId × Value → H) : ∃ places, DataW.whole enc Tryd.prog (({ World.holding Tryd.prog os ⟨#[], #[], []⟩ with heap := (World.holding Tryd.prog os ⟨#[], #[], []⟩).heap.modify 0 (fun x => match x with | .cells _ t frozen => .cells ltL.toArray t frozen | o => o) } : World).forCall (fun _ _ => 0) ⟨#[], findallArgs, []⟩).memory Tryd.f4.params.toList Rows.fnExactFindAllSpec.vars false findallArgs.toList 8 = some ([.lit (.string []), .lit (.string [])], [Rows.laid_loop_example_g00002_impl_letterRanges], places) :=
  ⟨MemPlace.row ⟨0, 0, none⟩ 18 ++ [], by kernel_rfl⟩

set_option maxRecDepth 100000 in
theorem findall_lifted (os : Os) (started : os.Started) (H : Type) (enc : TypeId × Value → H) (F : Stop.Interp) :
    ReturnsInHanded {} Tryd.checked os 4 .any ((OpenSpec.ofChange Rows.fnExactFindAllSpec).preRow enc Tryd.prog Tryd.f4 Rows.fnExactFindAllRow.domain false Rows.fnExactFindAllRow.laid) (((OpenSpec.ofChange Rows.fnExactFindAllSpec).at F).post enc Tryd.prog Tryd.f4 false true false false) := by
  obtain ⟨places, hx⟩ := findall_reads os enc
  refine returnsInHanded_of_row (C := Tryd.checked) (s := OpenSpec.ofChange Rows.fnExactFindAllSpec) own started (by kernel_rfl) Tryd.func4
    (witness_row_at (enc := enc) (C := Tryd.checked) false ({ World.holding Tryd.prog os ⟨#[], #[], []⟩ with heap := (World.holding Tryd.prog os ⟨#[], #[], []⟩).heap.modify 0 (fun x => match x with | .cells _ t frozen => .cells ltL.toArray t frozen | o => o) } : World) findallArgs rfl (by kernel_rfl) (by kernel_rfl) (by kernel_rfl)
      (OpenSpec.preRow_of_cond 8 hx (by kernel_rfl) (fun k hk => by cases hk) (by kernel_rfl) (ltWorldA_met os))) ?_
  intro W base args ds gs before hval hW _ _ _ hL _ _
  exact findall_contract H enc W base args ds gs before hval hW hL

theorem findall_said : Rows.FnExactFindAllSaid :=
  OpenClaim.holds_of_cond 4 Tryd.f4 rfl rfl rfl rfl rfl rfl rfl ⟨rfl, rfl, rfl, rfl, rfl⟩ rfl rfl rfl rfl rfl (by kernel_rfl) Tryd.func4 (by kernel_rfl)
    (of_decide_eq_true (by kernel_rfl)) (by unfold Func.isWrapper; first | (rw [if_pos (by decide +kernel)]; kernel_rfl) | (rw [if_neg (by decide +kernel)]; exact ⟨rfl, rfl⟩))
    (fun os started H enc _ F => by rw [OpenClaim.pre_eq_preRow]; exact findall_lifted os started H enc F)

theorem findall_plain (f : FuncId) (fn : Func) (hf : Tryd.pinned.checked.prog.funcNamed "loop.example/g00002/laws.FnExactFindAll" = some f) (hfn : Tryd.pinned.checked.prog.funcs[f]? = some fn) :
    false = Tryd.pinned.checked.prog.looks [] ∧ ∀ (j : Nat) t, fn.params[j]? = some t → Tryd.pinned.checked.prog.wantsStandIn t = false := by
  obtain rfl : f = 4 := Option.some.inj ((show Tryd.prog.funcNamed "loop.example/g00002/laws.FnExactFindAll" = some 4 by kernel_rfl).symm.trans hf) |>.symm
  obtain rfl : fn = Tryd.f4 := (Option.some.inj (Tryd.func4.symm.trans hfn)).symm
  refine ⟨by kernel_rfl, fun j t ht => ?_⟩
  rw [Tryd.params4] at ht
  have h3 : t = 9 := by
    rcases j with _ | _ | j
    · simpa using ht.symm
    · simpa using ht.symm
    · simp at ht
  subst h3
  exact (show Tryd.prog.wantsStandIn 9 = false by kernel_rfl)

theorem fnExactFindAll_holds : Rows.FnExactFindAllCardSaid :=
  Claim7.holds_tied_plain_at .later [] _ _ _ _ findall_said (fun _ h => by cases h) (by kernel_rfl) (fun _ h => by cases h) fnExactFindAll_row_tie rfl ⟨rfl, rfl⟩ (by kernel_rfl) rfl findall_plain (by kernel_rfl)
#print axioms fnExactFindAll_holds

end Go.Proofs.YtemciphihnpniaaDoor
