import Derived.Test.YtplfgfdlcfdfdaaBP
import Derived.Test.YtplfgfdlcfdfdaaBF
namespace Go.Proofs.Ytplfgfdlcfdfdaa
open Go.ChangeShapes Go.WideShapes Go.ChangeAt Go Go.RowKit Go.ChangeMaps Go.WideElems Go.Joins Go.Deep
set_option linter.unusedVariables false

theorem slice_form' {H : Type} {enc : TypeId × Value → H} {P : Program} {W : World} {sp : Nat → Bool} {hd : Bool} {fuel : Nat} {t e : TypeId} {v : Value} {x : DataW H × List MemPlace} (ht : P.underlying t = some (.slice e))
    (h : DataW.trod enc P W 0 sp hd fuel t [v] = some x) : ∃ a n cap, v = .slice a n cap := by
  rcases open_slice ht h with ⟨h0, _⟩ | ⟨a', len, cap', m, q, D, Pl, h0, _⟩
  · simp at h0
    exact ⟨_, _, _, h0⟩
  · simp at h0
    exact ⟨_, _, _, h0⟩

def PV.nil : PV := ⟨0, 0, 0, false, 0, fun _ => false, fun _ => 0, 0, fun _ => 0, fun _ => 0, fun _ => 0, fun _ => ByteArray.empty, 0, fun _ => 0, fun _ => 0, fun _ => 0, fun _ => 0, 0, fun _ => 0⟩
theorem maxLen_le : maxLen ≤ 9223372036854775807 := by unfold maxLen; omega

theorem pros_open {H : Type} {enc : TypeId × Value → H} {W : World} {sp : Nat → Bool} {hd : Bool} {fuel n cap : Nat} {a : Option Addr} {x : DataW H × List MemPlace} (h : DataW.trod enc Try.prog W 0 sp hd fuel 22 [.slice a n cap] = some x) :
    n ≤ 9223372036854775807 ∧ ∃ P, ProsA W (.slice a n cap) n P ∧ (∀ k, k < n → (P k).sane) ∧ allBits n P := by
  obtain ⟨hn, h⟩ := row_open Try.underlying22 (show Try.prog.cellsOf 66 = 8 by kernel_rfl) (by omega) h
  refine ⟨Nat.le_trans hn maxLen_le, ?_⟩
  rcases h with rfl | ⟨b, o, m, rfl, hb, hcap, hel⟩
  · exact ⟨fun _ => PV.nil, .inl ⟨rfl, _, _, rfl⟩, fun i hi => by omega, fun i hi => by omega⟩
  · have key : ∀ i, ∃ q : PV, i < n → (∃ s4 s5 s6 s7, C8 W b (o + i * 8) q s4 s5 s6 s7 ∧ PVA W q s4 s5 s6 s7) ∧ q.sane ∧ q.bitsOk := by
      intro i
      by_cases hi : i < n
      · obtain ⟨cs, y, hl, hcell, htr⟩ := hel i hi
        have hv : ∀ j, j < 8 → ∃ v, cs[j]? = some v := fun j hj => ⟨cs[j]'(by omega), List.getElem?_eq_getElem (by omega)⟩
        obtain ⟨v0, hv0⟩ := hv 0 (by omega)
        obtain ⟨v1, hv1⟩ := hv 1 (by omega)
        obtain ⟨v2, hv2⟩ := hv 2 (by omega)
        obtain ⟨v3, hv3⟩ := hv 3 (by omega)
        obtain ⟨v4, hv4⟩ := hv 4 (by omega)
        obtain ⟨v5, hv5⟩ := hv 5 (by omega)
        obtain ⟨v6, hv6⟩ := hv 6 (by omega)
        obtain ⟨v7, hv7⟩ := hv 7 (by omega)
        obtain ⟨_, _, t0⟩ := kid1 Try.underlying66 htr 0 _ rfl (by kernel_rfl) rfl hv0
        obtain ⟨_, _, t1⟩ := kid1 Try.underlying66 htr 1 _ rfl (by kernel_rfl) rfl hv1
        obtain ⟨_, _, t2⟩ := kid1 Try.underlying66 htr 2 _ rfl (by kernel_rfl) rfl hv2
        obtain ⟨_, _, t3⟩ := kid1 Try.underlying66 htr 3 _ rfl (by kernel_rfl) rfl hv3
        obtain ⟨_, _, t4⟩ := kid1 Try.underlying66 htr 4 _ rfl (by kernel_rfl) rfl hv4
        obtain ⟨_, _, t5⟩ := kid1 Try.underlying66 htr 5 _ rfl (by kernel_rfl) rfl hv5
        obtain ⟨_, _, t6⟩ := kid1 Try.underlying66 htr 6 _ rfl (by kernel_rfl) rfl hv6
        obtain ⟨_, _, t7⟩ := kid1 Try.underlying66 htr 7 _ rfl (by kernel_rfl) rfl hv7
        obtain ⟨z0, e0, _⟩ := DataW.trod_int Try.underlying3 t0
        obtain ⟨z1, e1, _⟩ := DataW.trod_int Try.underlying3 t1
        obtain ⟨z2, e2, _⟩ := DataW.trod_int Try.underlying3 t2
        obtain ⟨z3, e3, _⟩ := DataW.trod_bool Try.underlying4 t3
        simp at e0 e1 e2 e3
        subst e0 e1 e2 e3
        obtain ⟨a4, n4, k4, rfl⟩ := slice_form' Try.underlying62 t4
        obtain ⟨a5, n5, k5, rfl⟩ := slice_form' Try.underlying63 t5
        obtain ⟨a6, n6, k6, rfl⟩ := slice_form' Try.underlying64 t6
        obtain ⟨a7, n7, k7, rfl⟩ := slice_form' Try.underlying44 t7
        obtain ⟨l4, x0, x1, p4⟩ := Ups_open t4
        obtain ⟨l5, y0, y1, y2, y3, p5, p5b, p5s⟩ := Cons_open t5
        obtain ⟨l6, i0, i1, i2, i3, p6⟩ := Ins_open t6
        obtain ⟨l7, j0, p7⟩ := Ints_open t7
        have hm := maxLen_le
        refine ⟨⟨z0, z1, z2, z3, n4, x0, x1, n5, y0, y1, y2, y3, n6, i0, i1, i2, i3, n7, j0⟩, fun _ => ⟨⟨_, _, _, _, ⟨(hcell 0 (by omega)).trans hv0, (hcell 1 (by omega)).trans hv1, (hcell 2 (by omega)).trans hv2, (hcell 3 (by omega)).trans hv3, (hcell 4 (by omega)).trans hv4, (hcell 5 (by omega)).trans hv5, (hcell 6 (by omega)).trans hv6, (hcell 7 (by omega)).trans hv7⟩, ⟨p4, p5, p6, p7⟩⟩, ⟨?_, ?_, ?_, ?_, fun k hk => ?_⟩, p5b⟩⟩
        · exact Nat.le_trans l4 hm
        · exact Nat.le_trans l5 hm
        · exact Nat.le_trans l6 hm
        · exact Nat.le_trans l7 hm
        · exact Nat.le_trans (p5s k hk) hm
      · exact ⟨PV.nil, fun h => absurd h hi⟩
    exact ⟨fun i => Classical.choose (key i), .inr ⟨b, o, cap, rfl, hb, hcap, fun i hi => (Classical.choose_spec (key i) hi).1⟩, fun i hi => (Classical.choose_spec (key i) hi).2.1, fun i hi => (Classical.choose_spec (key i) hi).2.2⟩

theorem cells_chunk : Try.prog.cellsOf 24 = 1 := by kernel_rfl

set_option maxRecDepth 100000 in
/-- An argument of type Chunk, opened. -/
theorem chunk_open {H : Type} {enc : TypeId × Value → H} {W : World} {sp : Nat → Bool} {hd : Bool} {fuel b0 : Nat} {r : Reach} {v : Value} {x : DataW H × List MemPlace} (hval : Value.okWide Try.prog W r b0 24 v)
    (h : DataW.trod enc Try.prog W 0 sp hd fuel 24 v.cells.toList = some x) :
    ∃ a n cap P, v = .agg #[.slice a n cap] ∧ n ≤ 9223372036854775807 ∧ ProsA W (.slice a n cap) n P ∧ (∀ k, k < n → (P k).sane) ∧ allBits n P := by
  obtain ⟨cs, rfl, hsz⟩ := okWide_struct Try.underlying24 hval
  have h1 : cs.size = 1 := hsz.trans cells_chunk
  obtain ⟨c, rfl⟩ : ∃ c, cs = #[c] := by
    obtain ⟨l⟩ := cs
    match l, h1 with
    | [c], _ => exact ⟨c, rfl⟩
  obtain ⟨_, _, t0⟩ := kid1 Try.underlying24 h 0 _ rfl (by kernel_rfl) rfl (v := c) rfl
  obtain ⟨a, n, cap, rfl⟩ := slice_form' Try.underlying22 t0
  obtain ⟨hn, P, h2, h3, h4⟩ := pros_open t0
  exact ⟨a, n, cap, P, rfl, hn, h2, h3, h4⟩

end Go.Proofs.Ytplfgfdlcfdfdaa
