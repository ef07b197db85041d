import Derived.Test.YtcpeabchaimkaaaDoorSH
import Derived.Test.YtcpeabchaimkaaaDoorRM
namespace Go.Proofs.YtcpeabchaimkaaaDoor
open Go Go.RowKit
set_option linter.unusedVariables false

def toCon (u : DC) : Con := (u.1, u.2.1, u.2.2.1, bsL u.2.2.2)
def toIL (u : DI) : IL := ((u.1, u.2.1, u.2.2.1, u.2.2.2.1), u.2.2.2.2)
def DP.fd (d : DP) : FD := ⟨d.params, d.regs, d.line, d.dots, d.ups, d.cons.map toCon, d.ins.map toIL⟩
theorem conD_eq (us : List DC) : conD us = conC (us.map toCon) := by simp only [conD, conC, List.flatMap_map]; rfl
theorem inD_eq (us : List DI) : inD us = inC (us.map toIL) := by simp only [inD, inC, List.flatMap_map]; rfl
theorem liD_eq (us : List DI) : liD us = liC (us.map toIL) := by simp only [liD, liC, List.flatMap_map]; rfl
/-- What the document's reader comes to, in the words of the program's. -/
theorem PrR.fd {R : Nat} {s : St} {w w' : World} {e : Ending} (h : PrR R s w e w') : Keeps w w' (fun b => b = R) ∧ RdN w' R (dProto s).2 ∧ ∃ v4 v5 v6 v7, e = .returned (.agg #[.int .i64 (dProto s).1.fd.params, .int .i64 (dProto s).1.fd.regs, .int .i64 (dProto s).1.fd.line, .bool (dProto s).1.fd.dots, v4, v5, v6, v7]) ∧
    w'.ownsRow w.heap.size 57 2 v4 (dProto s).1.fd.ups.length (upC (dProto s).1.fd.ups) ∧ w'.ownsRow w.heap.size 59 4 v5 (dProto s).1.fd.cons.length (conC (dProto s).1.fd.cons) ∧ w'.ownsRow w.heap.size 61 4 v6 (dProto s).1.fd.ins.length (inC (dProto s).1.fd.ins) ∧ w'.ownsRow w.heap.size 3 1 v7 (dProto s).1.fd.ins.length (liC (dProto s).1.fd.ins) := by
  obtain ⟨h1, h2, v4, v5, v6, v7, h3, h4, h5, h6, h7⟩ := h
  rw [conD_eq] at h5
  rw [inD_eq] at h6
  rw [liD_eq] at h7
  exact ⟨h1, h2, v4, v5, v6, v7, h3, h4, by simpa [DP.fd] using h5, by simpa [DP.fd] using h6, by simpa [DP.fd] using h7⟩

/-- The chunk that is being read: the reader in R, the chunk's own cell in g3, its list of functions, and the functions' lists. -/
structure CQ (w0 w : World) (R g3 : Nat) (s : St) (v : Value) (ys zs : List FV) : Prop where
  o : R < w0.heap.size ∧ w0.heap.size ≤ g3
  rd : RdN w R s
  p : RowF w 25 g3 1 (fun _ => v)
  k : Keeps w0 w (fun b => b = R)
  own : w.ownsRow (g3 + 1) 44 8 v ys.length (fvC ys)
  rows : Rows w (g3 + 1) zs w.heap.size
section
variable {w0 w w' : World} {R g3 : Nat} {s s' : St} {v : Value} {ys zs : List FV}
theorem CQ.go (h : CQ w0 w R g3 s v ys zs) (h1 : Keeps w w' (fun b => b = R)) (h2 : RdN w' R s') : CQ w0 w' R g3 s' v ys zs := by
  obtain ⟨o1, o2⟩ := h.o
  exact ⟨h.o, h2, h.p.keep h1 (by omega), h.k.trans h1, owns_keep h.own h1 (by omega), Rows.more (lo := 0) (h.rows.keep (Kept4.of (lo := g3 + 1) h1 (by omega)) (Nat.le_refl _)) h1.size (Nat.le_refl _)⟩
theorem CQ.drew (h : CQ w0 w R g3 s v ys zs) : CQ w0 w.drew R g3 s v ys zs :=
  h.go (Keeps.of ((Below.refl w.heap.size w).drew) (Nat.le_refl _) _) (h.rd.low' ((Below.refl w.heap.size w).drew) h.rd.lt)
/-- One more function was read. -/
theorem CQ.read {x : FD} {v4 v5 v6 v7 : Value} (h : CQ w0 w R g3 s v ys ys) (h1 : Keeps w w' (fun b => b = R)) (h2 : RdN w' R s')
    (hu : w'.ownsRow w.heap.size 57 2 v4 x.ups.length (upC x.ups)) (hc : w'.ownsRow w.heap.size 59 4 v5 x.cons.length (conC x.cons)) (hi : w'.ownsRow w.heap.size 61 4 v6 x.ins.length (inC x.ins)) (hl : w'.ownsRow w.heap.size 3 1 v7 x.ins.length (liC x.ins)) :
    CQ w0 w' R g3 s' v ys (ys ++ [⟨x, v4, v5, v6, v7⟩]) := by
  obtain ⟨o1, o2⟩ := h.o
  exact ⟨h.o, h2, h.p.keep h1 (by omega), h.k.trans h1, owns_keep h.own h1 (by omega), (h.rows.keep (Kept4.of (lo := g3 + 1) h1 (by omega)) (Nat.le_refl _)).snoc ⟨h1.size, Nat.le_refl _, hu, hc, hi, hl, fun g hg => owns_blt hu hg, fun g hg => owns_blt hc hg, fun g hg => owns_blt hi hg, fun g hg => owns_blt hl hg⟩⟩
/-- It is in the list: behind the append, and the store. -/
theorem CQ.app {v' : Value} {y : FV} (h : CQ w0 w R g3 s v ys (ys ++ [y]))
    (h1 : w'.ownsRow (g3 + 1) 44 8 v' (ys.length + 1) (fvC ys ++ y.cells)) (h2 : ∀ B w0, Below B w0 w → B ≤ g3 + 1 → Below B w0 w') (h3 : ∀ gx, gx < w.heap.size → v.ownBlock ≠ some gx → w'.heap[gx]? = w.heap[gx]?) :
    CQ w0 (w'.setCell ⟨g3, 0, none⟩ v') R g3 s v' (ys ++ [y]) (ys ++ [y]) := by
  obtain ⟨o1, o2⟩ := h.o
  have hb : Below (g3 + 1) w w' := h2 _ _ (Below.refl _ _) (Nat.le_refl _)
  have hg3 := h.p.lt
  have k : Keeps w' (w'.setCell ⟨g3, 0, none⟩ v') (fun b => b = g3) := (Keeps.refl w' (fun b => b = g3)).setCell (S := fun b => b = g3) (j := 0) rfl v'
  have kk : Keeps w0 w' (fun b => b = R) := ⟨hb.os.trans h.k.os, hb.tape.trans h.k.tape, hb.output.trans h.k.output, Nat.le_trans h.k.size hb.size, fun b hb9 hn => (hb.block b (by omega)).trans (h.k.block b hb9 hn)⟩
  have k4 : Kept4 w w' (g3 + 1) := ⟨hb.size, fun g cur T hT hg hh => h3 g (by
    rcases Nat.lt_or_ge g w.heap.size with c | c
    · exact c
    · rw [Array.getElem?_eq_none c] at hh; cases hh) (fun e => by
    obtain ⟨-, ⟨rfl, _⟩ | ⟨a, cap, cur', rfl, hBg, hh', hr⟩⟩ := h.own
    · simp [Value.ownBlock] at e
    · have e1 : a = g := by simpa [Value.ownBlock] using e
      subst e1
      rw [hh] at hh'
      simp at hh'
      have e2 := hh'.2
      rcases hT with e3 | e3 | e3 | e3 <;> exact absurd (e3.symm.trans e2) (by decide))⟩
  refine ⟨h.o, (h.rd.low' hb (by omega)).keep k (by omega), ((h.p.low hb (by omega)).set (j := 0) (by omega) v').congr (fun j hj => by rw [if_pos (by omega)]), kk.past (by omega) v', ?_, ?_⟩
  · rw [List.length_append, fvC_1]
    exact owns_keep h1 k (by omega)
  · exact Rows.more (lo := 0) ((h.rows.keep k4 (Nat.le_refl _)).keep (Kept4.of (lo := g3 + 1) k (by omega)) (Nat.le_refl _)) (by have := hb.size; have := k.size; omega) (Nat.le_refl _)
end
theorem CQ.fin {w0 w : World} {R g3 : Nat} {s : St} {v : Value} {ys zs : List FV} (h : CQ w0 w R g3 s v ys zs) {g2 : Nat} (hg : g2 < w0.heap.size) (x : Value) :
    Keeps w0 (w.setCell ⟨g2, 0, none⟩ x) (fun b => b = R ∨ b = g2) ∧ (w.setCell ⟨g2, 0, none⟩ x).ownsRow (g3 + 1) 44 8 v ys.length (fvC ys) ∧ Rows (w.setCell ⟨g2, 0, none⟩ x) (g3 + 1) zs (w.setCell ⟨g2, 0, none⟩ x).heap.size := by
  obtain ⟨o1, o2⟩ := h.o
  have k : Keeps w (w.setCell ⟨g2, 0, none⟩ x) (fun b => b = g2) := (Keeps.refl w (fun b => b = g2)).setCell (S := fun b => b = g2) (j := 0) rfl x
  exact ⟨(h.k.mono (fun b hb => .inl hb)).trans (k.mono (fun b hb => .inr hb)), owns_keep h.own k (by omega), Rows.more (lo := 0) (h.rows.keep (Kept4.of (lo := g3 + 1) k (by omega)) (Nat.le_refl _)) k.size (Nat.le_refl _)⟩

end Go.Proofs.YtcpeabchaimkaaaDoor
namespace Go.Proofs.YtcpeabchaimkaaaDoor
open Go Go.RowKit
set_option linter.unusedVariables false

theorem flat_getD {α : Type} (f : α → List Value) (k : Nat) (hf : ∀ u, (f u).length = k) (d : Value) (d' : α) : ∀ (us : List α) (i j : Nat), i < us.length → j < k → (us.flatMap f).getD (i * k + j) d = (f (us.getD i d')).getD j d
  | [], i, j, hi, _ => by simp at hi
  | u :: us, 0, j, _, hj => by
    rw [List.flatMap_cons, Nat.zero_mul, Nat.zero_add, List.getD_eq_getElem?_getD, List.getElem?_append_left (by rw [hf]; exact hj), ← List.getD_eq_getElem?_getD]
    rfl
  | u :: us, i + 1, j, hi, hj => by
    have := flat_getD f k hf d d' us i j (by simpa using hi) hj
    rw [List.flatMap_cons, List.getD_eq_getElem?_getD, List.getElem?_append_right (by rw [hf, Nat.add_mul]; omega), ← List.getD_eq_getElem?_getD, hf, show (i + 1) * k + j - k = i * k + j by rw [Nat.add_mul]; omega, this]
    rfl
/-- A list of the call's own, element by element. -/
theorem owns_at {α : Type} {w : World} {base T k : Nat} {v : Value} {us : List α} {f : α → List Value} (hf : ∀ u, (f u).length = k) (hk : 0 < k) (d' : α) (h : w.ownsRow base T k v us.length (us.flatMap f)) :
    (us.length = 0 ∧ ∃ a cap, v = .slice a 0 cap) ∨ ∃ b o cap, v = .slice (some ⟨b, o, none⟩) us.length cap ∧ b < w.heap.size ∧ us.length ≤ cap ∧ ∀ i, i < us.length → ∀ j, j < k → w.cell? ⟨b, o + (i * k + j), none⟩ = some ((f (us.getD i d')).getD j (.bool false)) := by
  obtain ⟨h1, h2⟩ := h
  rcases h2 with ⟨rfl, h3⟩ | ⟨g, cap, cur, rfl, hb, hg, hnc, hcm, hcs, htake⟩
  · exact .inl ⟨h3, none, 0, rfl⟩
  · have hrow := rowF_owns (w := w) (B := base) (T := T) (s := k) (g := g) (n := us.length) (cap := cap) (xs := us.flatMap f) ⟨h1, .inr ⟨g, cap, cur, rfl, hb, hg, hnc, hcm, hcs, htake⟩⟩
    refine .inr ⟨g, 0, cap, rfl, hrow.lt, hnc, fun i hi j hj => ?_⟩
    have hlt : i * k + j < us.length * k := by
      have : (i + 1) * k ≤ us.length * k := Nat.mul_le_mul_right k hi
      rw [Nat.add_mul] at this
      omega
    rw [Nat.zero_add, hrow.cell hlt, flat_getD f k hf _ d' us i j hi hj]
def FD.pv (x : FD) : PV := ⟨x.params, x.regs, x.line, x.dots, x.ups.length, fun k => (x.ups.getD k (false, 0)).1, fun k => (x.ups.getD k (false, 0)).2,
  x.cons.length, fun k => (x.cons.getD k (0, 0, 0, ⟨#[]⟩)).1, fun k => (x.cons.getD k (0, 0, 0, ⟨#[]⟩)).2.1, fun k => (x.cons.getD k (0, 0, 0, ⟨#[]⟩)).2.2.1, fun k => (x.cons.getD k (0, 0, 0, ⟨#[]⟩)).2.2.2,
  x.ins.length, fun k => (x.ins.getD k ((0, 0, 0, 0), 0)).1.1, fun k => (x.ins.getD k ((0, 0, 0, 0), 0)).1.2.1, fun k => (x.ins.getD k ((0, 0, 0, 0), 0)).1.2.2.1, fun k => (x.ins.getD k ((0, 0, 0, 0), 0)).1.2.2.2,
  x.ins.length, fun k => (x.ins.getD k ((0, 0, 0, 0), 0)).2⟩
theorem FnO.pva {w : World} {lo hi : Nat} {y : FV} (h : FnO w lo hi y) : PVA w y.x.pv y.v4 y.v5 y.v6 y.v7 := by
  refine ⟨?_, ?_, ?_, ?_⟩
  · rcases owns_at (k := 2) (fun _ => rfl) (by omega) (false, 0) h.u with h1 | ⟨b, o, cap, h1, h2, h3, h4⟩
    · exact .inl h1
    · exact .inr ⟨b, o, cap, h1, h2, h3, fun i hi => ⟨h4 i hi 0 (by omega), h4 i hi 1 (by omega)⟩⟩
  · rcases owns_at (k := 4) (fun _ => rfl) (by omega) (0, 0, 0, ⟨#[]⟩) h.c with h1 | ⟨b, o, cap, h1, h2, h3, h4⟩
    · exact .inl h1
    · exact .inr ⟨b, o, cap, h1, h2, h3, fun i hi => ⟨h4 i hi 0 (by omega), h4 i hi 1 (by omega), h4 i hi 2 (by omega), h4 i hi 3 (by omega)⟩⟩
  · rcases owns_at (k := 4) (fun _ => rfl) (by omega) ((0, 0, 0, 0), 0) h.i with h1 | ⟨b, o, cap, h1, h2, h3, h4⟩
    · exact .inl h1
    · exact .inr ⟨b, o, cap, h1, h2, h3, fun i hi => ⟨h4 i hi 0 (by omega), h4 i hi 1 (by omega), h4 i hi 2 (by omega), h4 i hi 3 (by omega)⟩⟩
  · rcases owns_at (k := 1) (fun _ => rfl) (by omega) ((0, 0, 0, 0), 0) h.l with h1 | ⟨b, o, cap, h1, h2, h3, h4⟩
    · exact .inl h1
    · exact .inr ⟨b, o, cap, h1, h2, h3, fun i hi => by have := h4 i hi 0 (by omega); rw [Nat.mul_one, Nat.add_zero] at this; exact this⟩
theorem Rows.at {w : World} : ∀ {lo : Nat} {ys : List FV} {hi : Nat} (h : Rows w lo ys hi) (i : Nat) (d : FV), i < ys.length → ∃ a b, FnO w a b (ys.getD i d)
  | lo, [], hi, h, i, d, hl => by simp at hl
  | lo, y :: ys, hi, ⟨mid, h1, h2⟩, 0, d, _ => ⟨lo, mid, h1⟩
  | lo, y :: ys, hi, ⟨mid, h1, h2⟩, i + 1, d, hl => by
    obtain ⟨a, b, h3⟩ := h2.at i d (by simpa using hl)
    exact ⟨a, b, h3⟩
def fv0 : FV := ⟨⟨0, 0, 0, false, [], [], []⟩, nilS, nilS, nilS, nilS⟩
/-- Functions that were read lie in memory as a chunk. -/
theorem pros_of {w : World} {base lo hi : Nat} {v : Value} {ys : List FV} (h : w.ownsRow base 44 8 v ys.length (fvC ys)) (hr : Rows w lo ys hi) : ProsA w v ys.length (fun k => (ys.getD k fv0).x.pv) := by
  rcases owns_at (k := 8) (fun _ => rfl) (by omega) fv0 h with h1 | ⟨b, o, cap, h1, h2, h3, h4⟩
  · exact .inl h1
  · refine .inr ⟨b, o, cap, h1, h2, h3, fun i hi => ?_⟩
    obtain ⟨a9, b9, h9⟩ := hr.at i fv0 hi
    have e := fun j hj => h4 i hi j hj
    simp only [← Nat.add_assoc] at e
    exact ⟨_, _, _, _, ⟨e 0 (by omega), e 1 (by omega), e 2 (by omega), e 3 (by omega), e 4 (by omega), e 5 (by omega), e 6 (by omega), e 7 (by omega)⟩, h9.pva⟩

end Go.Proofs.YtcpeabchaimkaaaDoor
