import Derived.Test.YtkfbkglkcfaeeaaA4
import Derived.Test.YtkfbkglkcfaeeaaA0
namespace Go.Proofs.Ytkfbkglkcfaeeaa
open Go.ChangeShapes Go.WideShapes Go.ChangeAt Go Go.RowKit Go.ChangeMaps Go.WideElems Go.Joins Go.Deep
set_option linter.unusedVariables false

theorem byteT : Try.prog.readableRec 22 = true ∧ 22 < Try.prog.types.size := ⟨by kernel_rfl, by decide +kernel⟩

set_option maxRecDepth 100000 in
theorem crc_lifted (os : Os) (started : os.Started) (H : Type) (enc : TypeId × Value → H) :
    ReturnsInHanded {} Try.checked os 3 .any (Rows.fnExactCrc32Spec.pre6 enc Try.prog Try.f3 Rows.fnExactCrc32Row.domain false) (Rows.fnExactCrc32Spec.post enc Try.prog Try.f3 false true false false) := by
  refine returnsInHanded_of_change (C := Try.checked) Try.own started (by kernel_rfl) Try.func3
    (ChangeSpec.witness6 (enc := enc) (C := Try.checked) false ⟨#[], #[.slice none 0 0], []⟩ 8 (by kernel_rfl) (by kernel_rfl) (by kernel_rfl) (by kernel_rfl)) ?_
  intro W base args ds gs before hval0 hW hcnd _
  have hval : ∀ (j : Nat) t v, Try.f3.params[j]? = some t → args[j]? = some v → Value.okWide Try.prog W .any base t v := hval0
  have hW' := hW
  obtain ⟨p, q, hA0, hV, rfl, hfz, hnd⟩ := hW
  have hA : DataW.TrodAll enc Try.prog W 0 (fun _ => true) true Try.f3.params.toList args.toList ds p := hA0
  rw [Try.params3] at hA hval
  obtain ⟨v0, vs0, d0, ds0, p0, q0, hargs, rfl, rfl, h0, r0⟩ := trodAll_cons hA
  obtain ⟨rfl, rfl, rfl⟩ := trodAll_nil r0
  obtain rfl : args = #[v0] := by cases args; simp_all
  obtain ⟨rfl, rfl⟩ := trodVars_none hV
  have hlt := hW'.lt
  obtain ⟨fuel, hf⟩ := h0
  clear hA0
  obtain ⟨a0, len0, cap0, rfl⟩ := okWide_slice Try.underlying22 (hval 0 22 v0 rfl rfl)
  have hf' : DataW.trod enc Try.prog W 0 (fun _ => true) true fuel 22 [.slice a0 len0 cap0] = some (d0, p0) := hf
  have hC : ∃ f, ByA W (.slice a0 len0 cap0) len0 f := by
    rcases open_ints Try.underlying22 Try.underlying5 (show Try.prog.cellsOf 5 = 1 by kernel_rfl) hf' with ⟨hcs, _⟩ | ⟨a, len, cap, zs, hcs, _, hlc, _, hzl, _, hcell, hwf⟩
    · simp at hcs
      obtain ⟨rfl, rfl, rfl⟩ := hcs
      exact ⟨fun _ => 0, .inl ⟨rfl, _, _, rfl⟩⟩
    · simp at hcs
      obtain ⟨rfl, rfl, rfl⟩ := hcs
      rw [if_pos rfl] at hzl
      by_cases h00 : len0 = 0
      · subst h00
        exact ⟨fun _ => 0, .inl ⟨rfl, _, _, rfl⟩⟩
      · obtain ⟨b, o, sp⟩ := a
        have k0 := hcell 0 (by omega)
        have hsp : sp = none := cell_spot0 k0
        subst hsp
        have k1 := k0
        rw [add_none] at k1
        refine ⟨fun j => (zs.getD j 0).toNat, .inr ⟨b, o, cap0, rfl, cell_lt k1, hlc, fun j hj => ?_⟩⟩
        have kj := hcell j (by omega)
        rw [add_none] at kj
        have hz := hwf _ (getD_mem (l := zs) (k := j) (by omega))
        have m1 : IntKind.u8.min = 0 := by decide
        have m2 : IntKind.u8.max = 255 := by decide
        simp only [Lit.wf, Bool.and_eq_true, decide_eq_true_eq, m1, m2] at hz
        show (zs.getD j 0).toNat ≤ 255 ∧ W.cell? ⟨b, o + j, none⟩ = some (.int .u8 ((zs.getD j 0).toNat : Int))
        refine ⟨by omega, ?_⟩
        rw [kj, Int.toNat_of_nonneg hz.1]
  obtain ⟨f, hC⟩ := hC
  refine (crcLaw_any _ _ f W hC).mono fun e W' ⟨he, hb⟩ => ?_
  subst he
  have hst : ∀ (sp : Nat → Bool), (∀ x ∈ p0, sp x.block = true) → DataW.Trod enc Try.prog W' 0 sp true 22 (.slice a0 len0 cap0) d0 p0 := fun sp hsp => by
    exact ⟨fuel, DataW.trod_stays (kids_book Try.laidOut byteT.1) (book_sized byteT.1) (fun h => by cases h) ⟨byteT.2, book_self 22⟩ hf (fun x hx => hb.same (hlt x (by simp [hx]))) hsp⟩
  refine ⟨_, rfl, post_low hW' (pa := p0 ++ []) (pv := []) (fun _ _ _ => trodAll_cons_mk (shut_bool Try.underlying4 _) trodAll_mk0) (fun sp hsp => trodAll_cons_mk (hst sp (fun x hx => hsp x (by simp [hx]))) trodAll_mk0)
    (fun sp hsp => rfl) rfl hb (ok_one (by kernel_rfl) rfl (okWide_bool_mk Try.underlying4 _))⟩

theorem fnExactCrc32_holds : Rows.FnExactCrc32Said :=
  OpenClaim.holds_of_wide 3 Try.f3 rfl rfl rfl rfl rfl rfl rfl ⟨rfl, rfl, rfl, rfl, rfl⟩ rfl rfl rfl rfl rfl (by kernel_rfl) Try.func3 (by kernel_rfl)
    (of_decide_eq_true (by kernel_rfl)) (by unfold Func.isWrapper; first | (rw [if_pos (by decide +kernel)]; kernel_rfl) | (rw [if_neg (by decide +kernel)]; exact ⟨rfl, rfl⟩))
    (fun os started H enc _ => crc_lifted os started H enc)

end Go.Proofs.Ytkfbkglkcfaeeaa
