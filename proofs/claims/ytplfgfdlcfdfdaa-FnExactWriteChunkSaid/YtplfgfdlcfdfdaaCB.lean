import Derived.Test.YtplfgfdlcfdfdaaCA
namespace Go.Proofs.Ytplfgfdlcfdfdaa
open Go Go.RowKit
set_option linter.unusedVariables false

/-- Bytes that are read, in a slice that isn't nil. -/
def PartA (w : World) (u : Value) (L : List Int) : Prop := ∃ b o cap, u = .slice (some ⟨b, o, none⟩) L.length cap ∧ b < w.heap.size ∧ ∀ j, j < L.length → w.cell? ⟨b, o + j, none⟩ = some (.int .u8 (L.getD j 0))
theorem PartA.low {w w' : World} {u : Value} {L : List Int} {B : Nat} (h : PartA w u L) (hb : Below B w w') (hB : w.heap.size ≤ B) : PartA w' u L := by
  obtain ⟨b, o, cap, rfl, h1, h2⟩ := h
  exact ⟨b, o, cap, rfl, Nat.lt_of_lt_of_le h1 hb.size, fun j hj => (hb.cell (p := ⟨b, o + j, none⟩) (Nat.lt_of_lt_of_le h1 hB)).trans (h2 j hj)⟩
theorem OwnL.part {w : World} {base : Nat} {v : Value} {L : List Int} (h : OwnL w base v L) : PartA w v L := by
  obtain ⟨⟨h1, h2⟩, hv⟩ := h
  rcases h2 with ⟨rfl, _⟩ | ⟨g, cap, cur, rfl, hB, hh, hn, hc, hs, ht⟩
  · exact absurd rfl hv
  · have hown : w.ownsRow base 5 1 (.slice (some ⟨g, 0, none⟩) L.length cap) L.length (L.map (Value.int .u8)) := ⟨h1, .inr ⟨g, cap, cur, rfl, hB, hh, hn, hc, hs, ht⟩⟩
    refine ⟨g, 0, cap, rfl, (owns_lt hown).2, fun j hj => ?_⟩
    rw [Nat.zero_add, hown.cellAt j (by omega), List.getElem?_map, List.getElem?_eq_getElem hj, List.getD_eq_getElem?_getD, List.getElem?_eq_getElem hj]
    rfl

theorem add_none' (b o k : Nat) : (⟨b, o, none⟩ : Addr).add k = ⟨b, o + k, none⟩ := by
  unfold Addr.add
  split
  · rename_i h; subst h; rfl
  · rfl

/-- 'out = append(out, p...)' on a slice of bytes that is the call's own. -/
theorem app_bytes {wr : World} {ops : Array Oper} {rest : List Oper} {o : Oper} {a : Act} {Q : Exit → Act → World → Prop} (hgd : o.guard = none) (s x : Operand)
    (ho : o.op = .call { callee := .builtin .append, args := #[s, x], argTypes := #[26, 26] }) (base : Nat) (v u : Value) (L L2 : List Int) (hown : OwnL wr base v L) (hp : PartA wr u L2) (hs : a.eval s = v) (hx : a.eval x = u)
    (hlen : L.length + L2.length ≤ 100000000000000) (hbase : base ≤ wr.heap.size)
    (h : ∀ v' w', OwnL w' base v' (L ++ L2) → (∀ B w0, Below B w0 wr → B ≤ base → Below B w0 w') → (∀ gx, gx < wr.heap.size → v.ownBlock ≠ some gx → w'.heap[gx]? = wr.heap[gx]?) → wpList Try.prog ops Q rest (a.put o.dst v') w') :
    wpList Try.prog ops Q (o :: rest) a wr := by
  obtain ⟨i0, hi, hz0, hz1, hz2⟩ := info_parts Try.info5
  obtain ⟨b, off, cap, rfl, hb, hc⟩ := hp
  refine wpList_append_own _ hgd s x 26 ho base 5 i0 (.int .u8 0) 1 1 Try.underlying26 hi hz0 hz1 hz2 rfl (by decide) v L.length (L.map (Value.int .u8)) hs hown.1 ⟨b, off, none⟩ L2.length cap (L2.map (Value.int .u8)) hx (by simp)
    (fun j z hj => ?_) (fun z hz => ?_) (by unfold maxLen; omega) (by omega) hbase ?_
  · rw [List.getElem?_map] at hj
    obtain ⟨y, hy, rfl⟩ := Option.map_eq_some_iff.1 hj
    obtain ⟨hl, rfl⟩ := List.getElem?_eq_some_iff.1 hy
    rw [add_none', hc j hl, List.getD_eq_getElem?_getD, List.getElem?_eq_getElem hl]
    rfl
  · obtain ⟨y, _, rfl⟩ := List.mem_map.1 hz
    rfl
  · intro v' w' h1 h2 h3
    refine h v' w' ⟨by simpa using h1, fun hh => hown.2 (h3.1 hh).1⟩ (fun B w0 hb hB => hb.grown h2 (by omega) (fun q hq => ?_)) (fun gx hgx hne => h2.block gx hgx (fun e => hne e.symm))
    have := (hown.1.lt q hq).1
    omega

def joinL (F : Nat → List Int) (i : Nat) : List Int := (List.range i).flatMap F
theorem joinL_step (F : Nat → List Int) (i : Nat) : joinL F i ++ F i = joinL F (i + 1) := by simp [joinL, List.range_succ]
/-- A list of parts in memory. -/
def PartsA (w : World) (v : Value) (n : Nat) (F : Nat → List Int) : Prop := ∃ b o cap, v = .slice (some ⟨b, o, none⟩) n cap ∧ b < w.heap.size ∧ n ≤ cap ∧ ∀ i, i < n → ∃ u, w.cell? ⟨b, o + i, none⟩ = some u ∧ PartA w u (F i)

set_option maxHeartbeats 1600000 in
set_option maxRecDepth 100000 in
theorem join_any (v : Value) (n : Nat) (F : Nat → List Int) (w : World) (hn : n ≤ 100) (hF : ∀ i, i < n → (F i).length ≤ 10000000) (h : PartsA w v n F) :
    Calls Try.prog 14 #[v] w fun e w' => ∃ v', e = .returned v' ∧ OwnL w' w.heap.size v' (joinL F n) ∧ Below w.heap.size w w' := by
  obtain ⟨b, o, cap, rfl, hb, hcap, hc⟩ := h
  have HC := hide hc
  have HFl := hide hF
  clear hc hF
  go_enter Try.func14, Try.ntmps14
  go_wp2
  go_loopw [3, 9] (fun ov iv wr => ∃ i : Nat, i ≤ n ∧ iv = .int .i64 i ∧ (joinL F i).length ≤ i * 10000000 ∧ OwnL wr w.heap.size ov (joinL F i) ∧ Below w.heap.size w wr) (fun _ iv _ => match iv with | .int _ x => n - x.toNat | _ => 0)
  case atStart => exact ⟨0, by omega, rfl, by simp [joinL], ownL_empty w, (Below.refl _ _).alloc (Nat.le_refl _) _⟩
  case round =>
    obtain ⟨i, hi9, rfl, hl, hown, hbw⟩ := hrel
    by_cases hin : i < n
    · obtain ⟨u, hu, hp⟩ := HC.out i hin
      have c0 := (hbw.cell (p := ⟨b, o + i, none⟩) hb).trans hu
      have hp2 := hp.low hbw (Nat.le_refl _)
      have hfl := HFl.out i hin
      have HL := hide (joinL_step F i)
      obtain ⟨b2, o2, cap2, rfl, -⟩ := hp
      clear hu
      generalize joinL F i = L at *
      go_wp2_with (first
        | (at_builtin; refine app_bytes rfl _ _ rfl w.heap.size _ _ L (F i) hown hp2 rfl rfl (by omega) hbw.size ?_; intro v' w1 hown' hgrow _)
        | go_in)
      go_roundw
      case rel => exact ⟨i + 1, by omega, by simp, by rw [← HL.out, List.length_append]; omega, by rw [← HL.out]; exact hown', hgrow _ _ hbw (Nat.le_refl _)⟩
      case measure => simp; omega
    · obtain rfl : i = n := by omega
      go_wp2
      go_ret
      exact ⟨_, rfl, hown, hbw⟩

end Go.Proofs.Ytplfgfdlcfdfdaa
