import Derived.Test.YtgnbhhgpaldheaaGreatKEQ6
import Derived.Test.YtgnbhhgpaldheaaGreatKBQ
namespace Go.Proofs.YtgnbhhgpaldheaaGreat
open Go.ChangeShapes Go.WideShapes Go.ChangeAt Go Go.RowKit Go.ChangeMaps Go.WideElems Go.Joins Go.Deep
set_option linter.unusedVariables false
theorem chunkU : Tryz.prog.readableRec 24 = true ∧ 24 < Tryz.prog.types.size := ⟨by kernel_rfl, by decide +kernel⟩
set_option maxRecDepth 100000 in
theorem opt_lifted (os : Os) (started : os.Started) (H : Type) (enc : TypeId × Value → H) :
    ReturnsInHanded {} Tryz.checked os 3 .any (Rows.fnExactOptimizeSpec.pre6 enc Tryz.prog Tryz.f3 Rows.fnExactOptimizeRow.domain false) (Rows.fnExactOptimizeSpec.post enc Tryz.prog Tryz.f3 false true false false) := by
  refine returnsInHanded_of_change (C := Tryz.checked) Tryz.own started (by kernel_rfl) Tryz.func3
    (ChangeSpec.witness6 (enc := enc) (C := Tryz.checked) false ⟨#[], #[.agg #[.slice none 0 0]], []⟩ 8 (by kernel_rfl) (by kernel_rfl) (by kernel_rfl) (by kernel_rfl)) ?_
  intro W base args ds gs before hval0 hW hcnd _
  have hval : ∀ (j : Nat) t v, Tryz.f3.params[j]? = some t → args[j]? = some v → Value.okWide Tryz.prog W .any base t v := hval0
  have hW' := hW
  obtain ⟨p, q, hA0, hV, rfl, hfz, hnd⟩ := hW
  have hA : DataW.TrodAll enc Tryz.prog W 0 (fun _ => true) true Tryz.f3.params.toList args.toList ds p := hA0
  rw [Tryz.params3] at hA hval
  obtain ⟨v0, vs0, d0, ds0, p0, q0, hargs, rfl, rfl, h0, r0⟩ := trodAll_cons hA
  obtain ⟨rfl, rfl, rfl⟩ := trodAll_nil r0
  obtain rfl : args = #[v0] := by cases args; simp_all
  obtain ⟨rfl, rfl⟩ := trodVars_none hV
  have hlt := hW'.lt
  obtain ⟨fuel, hf⟩ := h0
  clear hA0
  obtain ⟨a, n, cap, P, rfl, hn, hP, hs, hb⟩ := chunk_open (hval 0 24 v0 rfl rfl) hf
  refine (optLaw_any a n cap P W hn hs hb hP).mono fun e W' ⟨he, hb⟩ => ?_
  subst he
  have hst : ∀ (sp : Nat → Bool), (∀ x ∈ p0, sp x.block = true) → DataW.Trod enc Tryz.prog W' 0 sp true 24 (.agg #[.slice a n cap]) d0 p0 := fun sp hsp => by
    exact ⟨fuel, DataW.trod_stays (kids_book Tryz.laidOut chunkU.1) (book_sized chunkU.1) (fun h => by cases h) ⟨chunkU.2, book_self 24⟩ hf (fun x hx => hb.same (hlt x (by simp [hx]))) hsp⟩
  refine ⟨_, rfl, post_low hW' (pa := p0 ++ []) (pv := []) (fun _ _ _ => trodAll_cons_mk (shut_bool Tryz.underlying4 _) trodAll_mk0) (fun sp hsp => trodAll_cons_mk (hst sp (fun x hx => hsp x (by simp [hx]))) trodAll_mk0)
    (fun sp hsp => rfl) rfl hb (ok_one (by kernel_rfl) rfl (okWide_bool_mk Tryz.underlying4 _))⟩
theorem fnExactOptimize_holds : Rows.FnExactOptimizeSaid :=
  OpenClaim.holds_of_wide 3 Tryz.f3 rfl rfl rfl rfl rfl rfl rfl ⟨rfl, rfl, rfl, rfl, rfl⟩ rfl rfl rfl rfl rfl (by kernel_rfl) Tryz.func3 (by kernel_rfl)
    (of_decide_eq_true (by kernel_rfl)) (by unfold Func.isWrapper; first | (rw [if_pos (by decide +kernel)]; kernel_rfl) | (rw [if_neg (by decide +kernel)]; exact ⟨rfl, rfl⟩))
    (fun os started H enc _ => opt_lifted os started H enc)
end Go.Proofs.YtgnbhhgpaldheaaGreat
