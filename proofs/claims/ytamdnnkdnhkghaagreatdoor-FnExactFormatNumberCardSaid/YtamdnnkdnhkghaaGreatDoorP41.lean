import Derived.Test.YtamdnnkdnhkghaaGreatDoorP27
import Derived.Test.YtamdnnkdnhkghaaGreatDoorP39
namespace Go.Proofs.YtamdnnkdnhkghaaGreatDoor

open Go Go.RowKit

set_option linter.unusedVariables false

/-- 'append([]byte{}, a...)'. -/
theorem app_none {wr : World} {ops : Array Oper} {rest : List Oper} {o : Oper} {a : Act} {Q : Exit → Act → World → Prop} (hgd : o.guard = none) (s x : Operand)
    (ho : o.op = .call { callee := .builtin .append, args := #[s, x], argTypes := #[29, 29] }) (v : Value) (L : List Int) (hbig : Byt wr v L) (hx : a.eval x = v) (hs : a.eval s = .slice (some ⟨wr.heap.size, 0, none⟩) 0 0)
    (hlen : L.length ≤ 10000000000)
    (h : ∀ v' w', OwnB w' wr.heap.size v' L → Below wr.heap.size wr w' → wpList Tryz.prog ops Q rest (a.put o.dst v') w') :
    wpList Tryz.prog ops Q (o :: rest) a (wr.alloc (.cells #[] 5)) := by
  obtain ⟨i0, hi, hz0, hz1, hz2⟩ := info_parts Tryz.info5
  obtain ⟨g, cap, rfl, h2, h3, h4, h5⟩ := hbig
  have hown := ownB_empty wr
  refine wpList_append_own _ hgd s x 29 ho wr.heap.size 5 i0 (.int .u8 0) 1 1 Tryz.underlying29 hi hz0 hz1 hz2 rfl (by decide) _ 0 _ hs hown.1 ⟨g, 0, none⟩ L.length cap (L.map (Value.int .u8)) hx (by simp) (byt_cells h5 _ h4)
    (ints_oneCell _ _) (by unfold maxLen; omega) (by omega) (by simp) ?_
  intro v' w' h1 h2 h3
  refine h v' w' ⟨by simpa using h1, (fun hh => by have := (h3.1 hh).1; cases this)⟩ (((Below.refl _ _).alloc (Nat.le_refl _) _).grown h2 (by simp) (fun q hq => by cases hq; exact Nat.le_refl _))

theorem dval_set : ∀ (L : List Int) (i : Nat) (x : Int), i < L.length → dval (L.set i x) + (L.getD i 0 - 48).toNat * 10 ^ (L.length - 1 - i) = dval L + (x - 48).toNat * 10 ^ (L.length - 1 - i)
  | [], i, x, h => by simp at h
  | c :: l, 0, x, h => by
    rw [List.set_cons_zero, dval_cons, dval_cons]
    simp
    omega
  | c :: l, i + 1, x, h => by
    have ih := dval_set l i x (by simpa using h)
    rw [List.set_cons_succ, dval_cons, dval_cons, List.length_set]
    have e : (c :: l).length - 1 - (i + 1) = l.length - 1 - i := by simp; omega
    have e2 : (c :: l).getD (i + 1) 0 = l.getD i 0 := by simp
    rw [e, e2]
    omega

theorem allDig_set {L : List Int} {i : Nat} {x : Int} (h : allDig L = true) (hx : 48 ≤ x ∧ x ≤ 57) : allDig (L.set i x) = true := by
  unfold allDig at *
  rw [List.all_eq_true] at *
  intro z hz
  rcases List.mem_or_eq_of_mem_set hz with g | g
  · exact h z g
  · subst g
    unfold isDigI
    exact decide_eq_true hx

theorem allDig_mem {L : List Int} (h : allDig L = true) {z : Int} (hz : z ∈ L) : 48 ≤ z ∧ z ≤ 57 := by
  unfold allDig at h
  rw [List.all_eq_true] at h
  have := h z hz
  unfold isDigI at this
  exact of_decide_eq_true this

theorem allDig_digits {L : List Int} (h : allDig L = true) : L = digL (dval L) L.length := by
  have hlt := dval_lt h
  refine dval_inj h (allDig_digL _ _) (by rw [digL_len]) (by rw [dval_digL hlt])

/-- What 'l01Round' hands back. -/
def RouR (N l k : Nat) (w : World) (e : Ending) (w' : World) : Prop :=
  (rq N (10 ^ (l - k)) ≠ 10 ^ k ∧ ∃ v', e = .returned (.tuple #[v', .bool false]) ∧ Byt w' v' (digL (rq N (10 ^ (l - k))) k) ∧ Below w.heap.size w w') ∨
  (rq N (10 ^ (l - k)) = 10 ^ k ∧ ∃ v', e = .returned (.tuple #[v', .bool true]) ∧ Byt w' v' (digL (10 ^ (k - 1)) k) ∧ Below w.heap.size w w')

theorem rou_a {N l k : Nat} {w w' : World} {v' : Value} {L : List Int} (hL : L.length = k) (hd : allDig L = true) (hv : dval L = rq N (10 ^ (l - k))) (hb : Byt w' v' L) (hB : Below w.heap.size w w') :
    RouR N l k w (.returned (.tuple #[v', .bool false])) w' := by
  have hlt := dval_lt hd
  rw [hL] at hlt
  have he := allDig_digits hd
  rw [hL, hv] at he
  rw [he] at hb
  exact .inl ⟨by omega, v', rfl, hb, hB⟩

theorem rou_b {N l k : Nat} {w w' : World} {v' : Value} {L : List Int} (hk : 1 ≤ k) (hL : L.length = k) (hd : allDig L = true) (hv : dval L + 10 ^ k = rq N (10 ^ (l - k))) (hle : rq N (10 ^ (l - k)) ≤ 10 ^ k) (hb : Byt w' v' (49 :: L.take (k - 1))) (hB : Below w.heap.size w w') :
    RouR N l k w (.returned (.tuple #[v', .bool true])) w' := by
  have h0 : dval L = 0 := by omega
  have ht := dval_take_le L (k - 1)
  have htl : (L.take (k - 1)).length = k - 1 := by rw [List.length_take]; omega
  have hd2 : allDig (49 :: L.take (k - 1)) = true := by
    unfold allDig
    rw [List.all_cons, Bool.and_eq_true]
    refine ⟨rfl, ?_⟩
    rw [List.all_eq_true]
    intro z hz
    unfold allDig at hd
    rw [List.all_eq_true] at hd
    exact hd z (List.mem_of_mem_take hz)
  have he := allDig_digits hd2
  have hv2 : dval (49 :: L.take (k - 1)) = 10 ^ (k - 1) := by
    rw [dval_cons, htl]
    have : ((49 : Int) - 48).toNat = 1 := rfl
    rw [this]
    omega
  have hl2 : (49 :: L.take (k - 1)).length = k := by simp; omega
  rw [hv2, hl2] at he
  rw [he] at hb
  exact .inr ⟨by omega, v', rfl, hb, hB⟩

theorem more_step {N s t : Nat} (d : Nat) (hd : d = N / 10 ^ s % 10) : (N / 10 ^ s % 10 ^ (t + 1) ≠ 0) ↔ (N / 10 ^ (s + 1) % 10 ^ t ≠ 0 ∨ d ≠ 0) := by
  rw [mod_step, hd]
  omega

end Go.Proofs.YtamdnnkdnhkghaaGreatDoor
