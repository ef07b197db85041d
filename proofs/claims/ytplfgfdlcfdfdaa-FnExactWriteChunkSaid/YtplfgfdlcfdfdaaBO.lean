import Derived.Test.YtplfgfdlcfdfdaaA0
import Derived.Deep.Slices
import Derived.Lib.SmallJoins
namespace Go.Proofs.Ytplfgfdlcfdfdaa
open Go.ChangeShapes Go.WideShapes Go.ChangeAt Go Go.RowKit Go.ChangeMaps Go.WideElems Go.Joins Go.Deep
set_option linter.unusedVariables false

section
variable {H : Type} {enc : TypeId × Value → H} {P : Program} {w : World} {sp : Nat → Bool} {hd : Bool}

/-- A slice that is read, element by element. -/
theorem row_open {t e : TypeId} {sz fuel n cap : Nat} {a : Option Addr} {x : DataW H × List MemPlace} (ht : P.underlying t = some (.slice e)) (hc : P.cellsOf e = sz) (hsz : 0 < sz)
    (h : DataW.trod enc P w 0 sp hd fuel t [.slice a n cap] = some x) :
    n ≤ maxLen ∧ (n = 0 ∨ ∃ b o m, a = some ⟨b, o, none⟩ ∧ b < w.heap.size ∧ n ≤ cap ∧ ∀ i, i < n → ∃ cs y, cs.length = sz ∧ (∀ j, j < sz → w.cell? ⟨b, o + (i * sz + j), none⟩ = cs[j]?) ∧ DataW.trod enc P w 0 sp hd m e cs = some y) := by
  rcases open_slice ht h with ⟨h0, _⟩ | ⟨a', len, cap', m, q, D, Pl, h0, _, hlc, hcm, hm, _, hel⟩
  · simp at h0
    obtain ⟨-, rfl, -⟩ := h0
    exact ⟨Nat.zero_le _, .inl rfl⟩
  · simp at h0
    obtain ⟨rfl, rfl, rfl⟩ := h0
    refine ⟨by omega, ?_⟩
    by_cases hn : n = 0
    · exact .inl hn
    right
    have hnm : n ≤ m := by rw [hm]; split <;> omega
    obtain ⟨b, o, s⟩ := a'
    obtain ⟨cs0, hc0, _⟩ := hel 0 (by omega)
    obtain ⟨_, l0, k0⟩ := World.cells?_some hc0
    have k1 := k0 0 (by omega)
    rw [Nat.zero_mul, List.getElem?_eq_getElem (by omega)] at k1
    have hs : s = none := cell_spot0 k1
    subst hs
    refine ⟨b, o, q, rfl, cell_lt k1, hlc, fun i hi => ?_⟩
    obtain ⟨cs, hcs, htr⟩ := hel i (by omega)
    obtain ⟨_, l1, k2⟩ := World.cells?_some hcs
    refine ⟨cs, _, by omega, fun j hj => ?_, htr⟩
    have k3 := k2 j (by omega)
    rw [add_none, add_none, hc, Nat.add_assoc] at k3
    exact k3

theorem kid1 {fs : Array Field} {t : TypeId} {fuel : Nat} {cs : List Value} {x : DataW H × List MemPlace} (ht : P.underlying t = some (.struct fs)) (h : DataW.trod enc P w 0 sp hd fuel t cs = some x) (j : Nat) (f : Field) (hf : fs[j]? = some f) (hc : P.cellsOf f.type = 1) (ho : f.offset = j) {v : Value} (hv : cs[j]? = some v) :
    ∃ n y, DataW.trod enc P w 0 sp hd n f.type [v] = some y := by
  obtain ⟨xs, n, _, rfl, hl, hlen, hF⟩ := DataW.trod_struct ht h
  have hk := hF j f hf
  rw [hc, ho] at hk
  have e : (cs.drop j).take 1 = [v] := by
    rw [List.getElem?_eq_some_iff] at hv
    obtain ⟨hj, rfl⟩ := hv
    rw [List.drop_eq_getElem_cons hj]
    rfl
  rw [e] at hk
  have hj : j < xs.length := by
    rw [hlen]
    exact (Array.getElem?_eq_some_iff.1 hf).1
  rw [List.getElem?_eq_getElem hj] at hk
  exact ⟨n, _, hk⟩

end
end Go.Proofs.Ytplfgfdlcfdfdaa
