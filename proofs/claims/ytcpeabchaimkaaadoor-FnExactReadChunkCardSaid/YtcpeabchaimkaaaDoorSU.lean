import Derived.Test.YtcpeabchaimkaaaDoorST
import Derived.Test.YtcpeabchaimkaaaDoorJRP
namespace Go.Proofs.YtcpeabchaimkaaaDoor
open Go Go.RowKit
set_option linter.unusedVariables false

/-- Bytes as a list. -/
def byL (n : Nat) (f : Nat → Nat) : List Int := (List.range n).map (fun j => (f j : Int))
theorem byL_len (n : Nat) (f : Nat → Nat) : (byL n f).length = n := by simp [byL]
theorem byL_getD {n : Nat} (f : Nat → Nat) {j : Nat} (h : j < n) : (byL n f).getD j 0 = f j := by
  rw [List.getD_eq_getElem?_getD, byL, List.getElem?_map, List.getElem?_range h]
  rfl
theorem byL_bytes {n : Nat} {f : Nat → Nat} (h : ∀ j, j < n → f j ≤ 255) : BytesL (byL n f) := fun x hx => by
  obtain ⟨j, hj, rfl⟩ := List.mem_map.1 hx
  have := h j (List.mem_range.1 hj)
  omega
theorem OwnB.slB {w : World} {B : Nat} {v : Value} {n : Nat} {f : Nat → Nat} (h : OwnB w B v n f) : SlB w w.heap.size v (byL n f) ∧ BytesL (byL n f) := by
  obtain ⟨g, rfl, h1, h2, h3, h4⟩ := h
  refine ⟨.inr ⟨g, 0, n, by rw [byL_len], h2, by rw [byL_len]; exact Nat.le_refl _, fun j hj => ?_⟩, byL_bytes h3⟩
  rw [byL_len] at hj
  rw [byL_getD f hj, Nat.zero_add, h4.cellAt j (by omega), toTo_get1 f hj]
theorem OwnB.row {w : World} {B : Nat} {v : Value} {n : Nat} {f : Nat → Nat} (h : OwnB w B v n f) : ∃ g, v = .slice (some ⟨g, 0, none⟩) n n ∧ B ≤ g ∧ g < w.heap.size ∧ ∃ f', RowF w 5 g n f' := by
  obtain ⟨g, rfl, h1, h2, h3, h4⟩ := h
  exact ⟨g, rfl, h1, h2, _, by have := rowF_owns h4; rwa [Nat.mul_one] at this⟩
theorem OwnB.low {w w' : World} {B C : Nat} {v : Value} {n : Nat} {f : Nat → Nat} (h : OwnB w B v n f) (hb : Below C w w') (hB : w.heap.size ≤ C) : OwnB w' B v n f := by
  obtain ⟨g, rfl, h1, h2, h3, h4⟩ := h
  exact ⟨g, rfl, h1, Nat.lt_of_lt_of_le h2 hb.size, h3, owns_stay h4 (fun g' hg => by
    have e : g = g' := by simpa [Value.ownBlock] using hg
    subst e
    exact hb.block g (Nat.lt_of_lt_of_le h2 hB))⟩

/-- What is to be answered: the functions and the code. -/
def RdA (l : List Int) (xs : List FD) (c : Int) : Prop := (Fok xs ∧ l = fdFile xs ∧ c = 0) ∨ ((∀ xs, Fok xs → l ≠ fdFile xs) ∧ xs = [] ∧ c = 12)
theorem fd_of {l : List Int} {xs : List FD} (hx : Fok xs) (hl : l = fdFile xs) : (dFile l).1.map DP.fd = xs := by
  have h := read_yes (ys := (dFile l).1.map (fun d => ⟨d.fd, nilS, nilS, nilS, nilS⟩)) hx hl (by rw [List.map_map]; rfl)
  rw [← h.2, List.map_map]
  rfl
theorem RdA.unique {l : List Int} {xs xs' : List FD} {c c' : Int} (h : RdA l xs c) (h' : RdA l xs' c') : xs = xs' ∧ c = c' := by
  rcases h with ⟨h1, h2, rfl⟩ | ⟨h1, rfl, rfl⟩ <;> rcases h' with ⟨k1, k2, rfl⟩ | ⟨k1, rfl, rfl⟩
  · exact ⟨(fd_of h1 h2).symm.trans (fd_of k1 k2), rfl⟩
  · exact absurd h2 (k1 _ h1)
  · exact absurd k2 (h1 _ k1)
  · exact ⟨rfl, rfl⟩
theorem RdA.fits {l : List Int} {xs : List FD} {c : Int} {ys : List FV} (h : RdA l xs c) (hl : l.length ≤ 1048576) (hy : ys.map FV.x = xs) : ys.length ≤ 1048576 ∧ allFit ys.length (pvs ys) 1048576 ∧ wts (pvs ys) ys.length ≤ 1048576 := by
  rcases h with ⟨h1, h2, rfl⟩ | ⟨h1, rfl, rfl⟩
  · have e := hy.trans (fd_of h1 h2).symm
    have hr := (read_yes h1 h2 e).1
    have := read_fits (n := (nm 2 false (rdD 8 l, rdS 8 l false)).1.toNat) (s := (nm 2 false (rdD 8 l, rdS 8 l false)).2) (ys := ys) (Nat.le_trans rdD_len (Nat.le_trans rdD_len hl)) hr.1 e
    exact ⟨this.1, this.2.1, this.2.2.2⟩
  · obtain rfl : ys = [] := by simpa using hy
    exact ⟨by simp, fun k hk => by simp at hk, by simp [wts_0]⟩
theorem pvs_same {ys zs : List FV} (h : ys.map FV.x = zs.map FV.x) : pvs ys = pvs zs ∧ ys.length = zs.length := by
  refine ⟨by rw [pvs_eq, pvs_eq, h], ?_⟩
  have := congrArg List.length h
  simpa using this
/-- An answer: a chunk of the call's own, and a code. -/
def RdV (l : List Int) (w : World) (e : Ending) (w' : World) : Prop := Below w.heap.size w w' ∧ ∃ ys v lo c, e = .returned (.tuple #[.agg #[v], .int .i64 c]) ∧ RdA l (ys.map FV.x) c ∧ w.heap.size ≤ lo ∧ ChO w' lo w'.heap.size v ys
theorem cho_nil (w : World) : ChO w w.heap.size w.heap.size nilS [] := ⟨⟨rfl, .inl ⟨rfl, rfl⟩⟩, ⟨Nat.le_refl _, Nat.le_refl _⟩, fun g hg => by simp [Value.ownBlock] at hg, Nat.le_refl _⟩
theorem ReadR.v {l : List Int} {w w' : World} {e : Ending} (h : ReadR l w e w') : RdV l w e w' := by
  obtain ⟨hb, ⟨ys, v, lo, h1, h2, rfl, h4, h5, h6⟩ | ⟨h1, rfl⟩⟩ := h
  · exact ⟨hb, ys, v, lo, 0, rfl, .inl ⟨h1, h2, rfl⟩, h4, h5, h6, fun g hg => (h5.lt g hg).2, Nat.le_refl _⟩
  · exact ⟨hb, [], nilS, w'.heap.size, 12, rfl, .inr ⟨h1, rfl, rfl⟩, hb.size, cho_nil w'⟩
theorem SpR.v {l : List Int} {w w' : World} {e : Ending} (h : SpR l w e w') : RdV l w e w' := by
  obtain ⟨hb, ys, hy, ⟨h1, v, lo, rfl, h4, h5, h6⟩ | ⟨h1, rfl⟩⟩ := h
  · obtain ⟨k1, k2⟩ := read_no h1 hy
    exact ⟨hb, ys, v, lo, 0, rfl, .inl ⟨k1, k2, rfl⟩, h4, h5, h6, fun g hg => (h5.lt g hg).2, Nat.le_refl _⟩
  · exact ⟨hb, [], nilS, w'.heap.size, 12, rfl, .inr ⟨fun xs hx hl => h1 (read_yes hx hl hy).1, rfl, rfl⟩, hb.size, cho_nil w'⟩

end Go.Proofs.YtcpeabchaimkaaaDoor
