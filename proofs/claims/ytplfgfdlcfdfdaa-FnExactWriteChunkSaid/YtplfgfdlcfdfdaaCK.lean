import Derived.Test.YtplfgfdlcfdfdaaCJ
namespace Go.Proofs.Ytplfgfdlcfdfdaa
open Go.ChangeShapes Go.WideShapes Go.ChangeAt Go Go.RowKit Go.ChangeMaps Go.WideElems Go.Joins Go.Deep
set_option linter.unusedVariables false

theorem chunkTw : Try.prog.readableRec 24 = true ∧ 24 < Try.prog.types.size := ⟨by kernel_rfl, by decide +kernel⟩

set_option maxRecDepth 100000 in
theorem wr_lifted (HI : WriteAt 7) (os : Os) (started : os.Started) (H : Type) (enc : TypeId × Value → H) :
    ReturnsInHanded {} Try.checked os 3 .any (Rows.fnExactWriteChunkSpec.pre6 enc Try.prog Try.f3 Rows.fnExactWriteChunkRow.domain false) (Rows.fnExactWriteChunkSpec.post enc Try.prog Try.f3 false true false false) := by
  refine returnsInHanded_of_change (C := Try.checked) Try.own started (by kernel_rfl) Try.func3
    (ChangeSpec.witness6 (enc := enc) (C := Try.checked) false ⟨#[], #[.agg #[.slice none 0 0]], []⟩ 8 (by kernel_rfl) (by kernel_rfl) (by kernel_rfl) (by kernel_rfl)) ?_
  intro W base args ds gs before hval0 hW hcnd _
  have hval : ∀ (j : Nat) t v, Try.f3.params[j]? = some t → args[j]? = some v → Value.okWide Try.prog W .any base t v := hval0
  have hW' := hW
  obtain ⟨p, q, hA0, hV, rfl, hfz, hnd⟩ := hW
  have hA : DataW.TrodAll enc Try.prog W 0 (fun _ => true) true Try.f3.params.toList args.toList ds p := hA0
  rw [Try.params3] at hA hval
  obtain ⟨v0, vs0, d0, ds0, p0, q0, hargs, rfl, rfl, h0, r0⟩ := trodAll_cons hA
  obtain ⟨rfl, rfl, rfl⟩ := trodAll_nil r0
  obtain rfl : args = #[v0] := by cases args; simp_all
  obtain ⟨rfl, rfl⟩ := trodVars_none hV
  have hlt := hW'.lt
  obtain ⟨fuel, hf⟩ := h0
  clear hA0
  obtain ⟨a, n, cap, P, rfl, hn, hP, hs, hb⟩ := chunk_open (hval 0 24 v0 rfl rfl) hf
  refine (wrLaw_any HI a n cap P W hn hs hb hP).mono fun e W' ⟨he, hb⟩ => ?_
  subst he
  have hst : ∀ (sp : Nat → Bool), (∀ x ∈ p0, sp x.block = true) → DataW.Trod enc Try.prog W' 0 sp true 24 (.agg #[.slice a n cap]) d0 p0 := fun sp hsp => by
    exact ⟨fuel, DataW.trod_stays (kids_book Try.laidOut chunkTw.1) (book_sized chunkTw.1) (fun h => by cases h) ⟨chunkTw.2, book_self 24⟩ hf (fun x hx => hb.same (hlt x (by simp [hx]))) hsp⟩
  refine ⟨_, rfl, post_low hW' (pa := p0 ++ []) (pv := []) (fun _ _ _ => trodAll_cons_mk (shut_bool Try.underlying4 _) trodAll_mk0) (fun sp hsp => trodAll_cons_mk (hst sp (fun x hx => hsp x (by simp [hx]))) trodAll_mk0)
    (fun sp hsp => rfl) rfl hb (ok_one (by kernel_rfl) rfl (okWide_bool_mk Try.underlying4 _))⟩

theorem fnExactWriteChunk_of (HI : WriteAt 7) : Rows.FnExactWriteChunkSaid :=
  OpenClaim.holds_of_wide 3 Try.f3 rfl rfl rfl rfl rfl rfl rfl ⟨rfl, rfl, rfl, rfl, rfl⟩ rfl rfl rfl rfl rfl (by kernel_rfl) Try.func3 (by kernel_rfl)
    (of_decide_eq_true (by kernel_rfl)) (by unfold Func.isWrapper; first | (rw [if_pos (by decide +kernel)]; kernel_rfl) | (rw [if_neg (by decide +kernel)]; exact ⟨rfl, rfl⟩))
    (fun os started H enc _ => wr_lifted HI os started H enc)

end Go.Proofs.Ytplfgfdlcfdfdaa
