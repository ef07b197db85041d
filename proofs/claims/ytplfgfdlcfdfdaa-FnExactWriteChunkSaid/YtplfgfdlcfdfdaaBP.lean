import Derived.Test.YtplfgfdlcfdfdaaBO
import Derived.Test.YtplfgfdlcfdfdaaBC
namespace Go.Proofs.Ytplfgfdlcfdfdaa
open Go.ChangeShapes Go.WideShapes Go.ChangeAt Go Go.RowKit Go.ChangeMaps Go.WideElems Go.Joins Go.Deep
set_option linter.unusedVariables false

theorem u64_wf {n : Int} (h : (Lit.int .u64 n).wf = true) : 0 ≤ n ∧ n < 18446744073709551616 := by
  have m1 : IntKind.u64.min = 0 := by decide
  have m2 : IntKind.u64.max = 18446744073709551615 := by decide
  simp only [Lit.wf, Bool.and_eq_true, decide_eq_true_eq, m1, m2] at h
  omega

theorem Ups_open {H : Type} {enc : TypeId × Value → H} {W : World} {sp : Nat → Bool} {hd : Bool} {fuel n cap : Nat} {a : Option Addr} {x : DataW H × List MemPlace} (h : DataW.trod enc Try.prog W 0 sp hd fuel 62 [.slice a n cap] = some x) :
    n ≤ maxLen ∧ ∃ x0 x1, UpsA W (.slice a n cap) n x0 x1 := by
  obtain ⟨hn, h⟩ := row_open Try.underlying62 (show Try.prog.cellsOf 114 = 2 by kernel_rfl) (by omega) h
  refine ⟨hn, ?_⟩
  rcases h with rfl | ⟨b, o, m, rfl, hb, hcap, hel⟩
  · exact ⟨fun _ => false, fun _ => 0, .inl ⟨rfl, _, _, rfl⟩⟩
  · have key : ∀ i, ∃ q : Bool × Int, i < n → (W.cell? ⟨b, o + i * 2, none⟩ = some (.bool (q.1)) ∧ W.cell? ⟨b, o + i * 2 + 1, none⟩ = some (.int .i64 (q.2))) := by
      intro i
      by_cases hi : i < n
      · obtain ⟨cs, y, hl, hcell, htr⟩ := hel i hi
        obtain ⟨v0, hv0⟩ : ∃ v, cs[0]? = some v := ⟨cs[0]'(by omega), List.getElem?_eq_getElem (by omega)⟩
        obtain ⟨n0, y0, t0⟩ := kid1 Try.underlying114 htr 0 _ rfl (by kernel_rfl) rfl hv0
        obtain ⟨z0, e0, _⟩ := DataW.trod_bool Try.underlying4 t0
        simp at e0
        subst e0
        obtain ⟨v1, hv1⟩ : ∃ v, cs[1]? = some v := ⟨cs[1]'(by omega), List.getElem?_eq_getElem (by omega)⟩
        obtain ⟨n1, y1, t1⟩ := kid1 Try.underlying114 htr 1 _ rfl (by kernel_rfl) rfl hv1
        obtain ⟨z1, e1, _, w1⟩ := DataW.trod_int Try.underlying3 t1
        simp at e1
        subst e1
        exact ⟨⟨z0, z1⟩, fun _ => ⟨(hcell 0 (by omega)).trans hv0, (hcell 1 (by omega)).trans hv1⟩⟩
      · exact ⟨⟨false, 0⟩, fun h => absurd h hi⟩
    exact ⟨fun i => (Classical.choose (key i)).1, fun i => (Classical.choose (key i)).2, .inr ⟨b, o, cap, rfl, hb, hcap, fun i hi => (Classical.choose_spec (key i) hi)⟩⟩

theorem Cons_open {H : Type} {enc : TypeId × Value → H} {W : World} {sp : Nat → Bool} {hd : Bool} {fuel n cap : Nat} {a : Option Addr} {x : DataW H × List MemPlace} (h : DataW.trod enc Try.prog W 0 sp hd fuel 63 [.slice a n cap] = some x) :
    n ≤ maxLen ∧ ∃ x0 x1 x2 x3, ConsA W (.slice a n cap) n x0 x1 x2 x3 ∧ (∀ i, i < n → 0 ≤ x2 i ∧ x2 i < 18446744073709551616) ∧ (∀ i, i < n → (x3 i).size ≤ maxLen) := by
  obtain ⟨hn, h⟩ := row_open Try.underlying63 (show Try.prog.cellsOf 112 = 4 by kernel_rfl) (by omega) h
  refine ⟨hn, ?_⟩
  rcases h with rfl | ⟨b, o, m, rfl, hb, hcap, hel⟩
  · exact ⟨fun _ => 0, fun _ => 0, fun _ => 0, fun _ => ByteArray.empty, ⟨.inl ⟨rfl, _, _, rfl⟩, fun i hi => by omega, fun i hi => by omega⟩⟩
  · have key : ∀ i, ∃ q : Int × Int × Int × ByteArray, i < n → (W.cell? ⟨b, o + i * 4, none⟩ = some (.int .i64 (q.1)) ∧ W.cell? ⟨b, o + i * 4 + 1, none⟩ = some (.int .i64 (q.2.1)) ∧ W.cell? ⟨b, o + i * 4 + 2, none⟩ = some (.int .u64 (q.2.2.1)) ∧ W.cell? ⟨b, o + i * 4 + 3, none⟩ = some (.string (q.2.2.2))) ∧ 0 ≤ q.2.2.1 ∧ q.2.2.1 < 18446744073709551616 ∧ (q.2.2.2).size ≤ maxLen := by
      intro i
      by_cases hi : i < n
      · obtain ⟨cs, y, hl, hcell, htr⟩ := hel i hi
        obtain ⟨v0, hv0⟩ : ∃ v, cs[0]? = some v := ⟨cs[0]'(by omega), List.getElem?_eq_getElem (by omega)⟩
        obtain ⟨n0, y0, t0⟩ := kid1 Try.underlying112 htr 0 _ rfl (by kernel_rfl) rfl hv0
        obtain ⟨z0, e0, _, w0⟩ := DataW.trod_int Try.underlying3 t0
        simp at e0
        subst e0
        obtain ⟨v1, hv1⟩ : ∃ v, cs[1]? = some v := ⟨cs[1]'(by omega), List.getElem?_eq_getElem (by omega)⟩
        obtain ⟨n1, y1, t1⟩ := kid1 Try.underlying112 htr 1 _ rfl (by kernel_rfl) rfl hv1
        obtain ⟨z1, e1, _, w1⟩ := DataW.trod_int Try.underlying3 t1
        simp at e1
        subst e1
        obtain ⟨v2, hv2⟩ : ∃ v, cs[2]? = some v := ⟨cs[2]'(by omega), List.getElem?_eq_getElem (by omega)⟩
        obtain ⟨n2, y2, t2⟩ := kid1 Try.underlying112 htr 2 _ rfl (by kernel_rfl) rfl hv2
        obtain ⟨z2, e2, _, w2⟩ := DataW.trod_int Try.underlying68 t2
        simp at e2
        subst e2
        obtain ⟨v3, hv3⟩ : ∃ v, cs[3]? = some v := ⟨cs[3]'(by omega), List.getElem?_eq_getElem (by omega)⟩
        obtain ⟨n3, y3, t3⟩ := kid1 Try.underlying112 htr 3 _ rfl (by kernel_rfl) rfl hv3
        obtain ⟨z3, e3, _, w3⟩ := DataW.trod_string Try.underlying9 t3
        simp at e3
        subst e3
        exact ⟨⟨z0, z1, z2, z3⟩, fun _ => ⟨⟨(hcell 0 (by omega)).trans hv0, (hcell 1 (by omega)).trans hv1, (hcell 2 (by omega)).trans hv2, (hcell 3 (by omega)).trans hv3⟩, (u64_wf w2).1, (u64_wf w2).2, w3⟩⟩
      · exact ⟨⟨0, 0, 0, ByteArray.empty⟩, fun h => absurd h hi⟩
    exact ⟨fun i => (Classical.choose (key i)).1, fun i => (Classical.choose (key i)).2.1, fun i => (Classical.choose (key i)).2.2.1, fun i => (Classical.choose (key i)).2.2.2, .inr ⟨b, o, cap, rfl, hb, hcap, fun i hi => (Classical.choose_spec (key i) hi).1⟩, fun i hi => ⟨(Classical.choose_spec (key i) hi).2.1, (Classical.choose_spec (key i) hi).2.2.1⟩, fun i hi => (Classical.choose_spec (key i) hi).2.2.2⟩

theorem Ins_open {H : Type} {enc : TypeId × Value → H} {W : World} {sp : Nat → Bool} {hd : Bool} {fuel n cap : Nat} {a : Option Addr} {x : DataW H × List MemPlace} (h : DataW.trod enc Try.prog W 0 sp hd fuel 64 [.slice a n cap] = some x) :
    n ≤ maxLen ∧ ∃ x0 x1 x2 x3, InsA W (.slice a n cap) n x0 x1 x2 x3 := by
  obtain ⟨hn, h⟩ := row_open Try.underlying64 (show Try.prog.cellsOf 117 = 4 by kernel_rfl) (by omega) h
  refine ⟨hn, ?_⟩
  rcases h with rfl | ⟨b, o, m, rfl, hb, hcap, hel⟩
  · exact ⟨fun _ => 0, fun _ => 0, fun _ => 0, fun _ => 0, .inl ⟨rfl, _, _, rfl⟩⟩
  · have key : ∀ i, ∃ q : Int × Int × Int × Int, i < n → (W.cell? ⟨b, o + i * 4, none⟩ = some (.int .i64 (q.1)) ∧ W.cell? ⟨b, o + i * 4 + 1, none⟩ = some (.int .i64 (q.2.1)) ∧ W.cell? ⟨b, o + i * 4 + 2, none⟩ = some (.int .i64 (q.2.2.1)) ∧ W.cell? ⟨b, o + i * 4 + 3, none⟩ = some (.int .i64 (q.2.2.2))) := by
      intro i
      by_cases hi : i < n
      · obtain ⟨cs, y, hl, hcell, htr⟩ := hel i hi
        obtain ⟨v0, hv0⟩ : ∃ v, cs[0]? = some v := ⟨cs[0]'(by omega), List.getElem?_eq_getElem (by omega)⟩
        obtain ⟨n0, y0, t0⟩ := kid1 Try.underlying117 htr 0 _ rfl (by kernel_rfl) rfl hv0
        obtain ⟨z0, e0, _, w0⟩ := DataW.trod_int Try.underlying3 t0
        simp at e0
        subst e0
        obtain ⟨v1, hv1⟩ : ∃ v, cs[1]? = some v := ⟨cs[1]'(by omega), List.getElem?_eq_getElem (by omega)⟩
        obtain ⟨n1, y1, t1⟩ := kid1 Try.underlying117 htr 1 _ rfl (by kernel_rfl) rfl hv1
        obtain ⟨z1, e1, _, w1⟩ := DataW.trod_int Try.underlying3 t1
        simp at e1
        subst e1
        obtain ⟨v2, hv2⟩ : ∃ v, cs[2]? = some v := ⟨cs[2]'(by omega), List.getElem?_eq_getElem (by omega)⟩
        obtain ⟨n2, y2, t2⟩ := kid1 Try.underlying117 htr 2 _ rfl (by kernel_rfl) rfl hv2
        obtain ⟨z2, e2, _, w2⟩ := DataW.trod_int Try.underlying3 t2
        simp at e2
        subst e2
        obtain ⟨v3, hv3⟩ : ∃ v, cs[3]? = some v := ⟨cs[3]'(by omega), List.getElem?_eq_getElem (by omega)⟩
        obtain ⟨n3, y3, t3⟩ := kid1 Try.underlying117 htr 3 _ rfl (by kernel_rfl) rfl hv3
        obtain ⟨z3, e3, _, w3⟩ := DataW.trod_int Try.underlying3 t3
        simp at e3
        subst e3
        exact ⟨⟨z0, z1, z2, z3⟩, fun _ => ⟨(hcell 0 (by omega)).trans hv0, (hcell 1 (by omega)).trans hv1, (hcell 2 (by omega)).trans hv2, (hcell 3 (by omega)).trans hv3⟩⟩
      · exact ⟨⟨0, 0, 0, 0⟩, fun h => absurd h hi⟩
    exact ⟨fun i => (Classical.choose (key i)).1, fun i => (Classical.choose (key i)).2.1, fun i => (Classical.choose (key i)).2.2.1, fun i => (Classical.choose (key i)).2.2.2, .inr ⟨b, o, cap, rfl, hb, hcap, fun i hi => (Classical.choose_spec (key i) hi)⟩⟩

theorem Ints_open {H : Type} {enc : TypeId × Value → H} {W : World} {sp : Nat → Bool} {hd : Bool} {fuel n cap : Nat} {a : Option Addr} {x : DataW H × List MemPlace} (h : DataW.trod enc Try.prog W 0 sp hd fuel 44 [.slice a n cap] = some x) :
    n ≤ maxLen ∧ ∃ x0, IntsA W (.slice a n cap) n x0 := by
  obtain ⟨hn, h⟩ := row_open Try.underlying44 (show Try.prog.cellsOf 3 = 1 by kernel_rfl) (by omega) h
  refine ⟨hn, ?_⟩
  rcases h with rfl | ⟨b, o, m, rfl, hb, hcap, hel⟩
  · exact ⟨fun _ => 0, .inl ⟨rfl, _, _, rfl⟩⟩
  · have key : ∀ i, ∃ q : Int, i < n → (W.cell? ⟨b, o + i, none⟩ = some (.int .i64 (q))) := by
      intro i
      by_cases hi : i < n
      · obtain ⟨cs, y, hl, hcell, htr⟩ := hel i hi
        obtain ⟨v0, hv0⟩ : ∃ v, cs[0]? = some v := ⟨cs[0]'(by omega), List.getElem?_eq_getElem (by omega)⟩
        have ecs : cs = [v0] := by
          match cs, hl with
          | [c], _ => simp at hv0; rw [hv0]
        rw [ecs] at htr
        obtain ⟨z0, e0, _, w0⟩ := DataW.trod_int Try.underlying3 htr
        simp at e0
        subst e0
        exact ⟨z0, fun _ => ((by simpa using hcell 0 (by omega)) : W.cell? ⟨b, o + i, none⟩ = cs[0]?).trans hv0⟩
      · exact ⟨0, fun h => absurd h hi⟩
    exact ⟨fun i => (Classical.choose (key i)), .inr ⟨b, o, cap, rfl, hb, hcap, fun i hi => (Classical.choose_spec (key i) hi)⟩⟩

end Go.Proofs.Ytplfgfdlcfdfdaa
