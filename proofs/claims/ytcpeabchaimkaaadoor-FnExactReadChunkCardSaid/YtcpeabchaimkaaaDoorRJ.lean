import Derived.Test.YtcpeabchaimkaaaDoorRH
import Derived.Test.YtcpeabchaimkaaaDoorRI
namespace Go.Proofs.YtcpeabchaimkaaaDoor
open Go Go.RowKit
set_option linter.unusedVariables false

/-- A function that was read, and its four lists. -/
structure FV where
  x : FD
  v4 : Value
  v5 : Value
  v6 : Value
  v7 : Value
def FV.cells (y : FV) : List Value := [.int .i64 y.x.params, .int .i64 y.x.regs, .int .i64 y.x.line, .bool y.x.dots, y.v4, y.v5, y.v6, y.v7]
def fvC (ys : List FV) : List Value := ys.flatMap FV.cells
theorem fvC_1 (ys : List FV) (y : FV) : fvC (ys ++ [y]) = fvC ys ++ y.cells := by simp [fvC]
/-- Its lists are the call's own, in blocks from lo on and below hi. -/
structure FnO (w : World) (lo hi : Nat) (y : FV) : Prop where
  le : lo ≤ hi
  sz : hi ≤ w.heap.size
  u : w.ownsRow lo 57 2 y.v4 y.x.ups.length (upC y.x.ups)
  c : w.ownsRow lo 59 4 y.v5 y.x.cons.length (conC y.x.cons)
  i : w.ownsRow lo 61 4 y.v6 y.x.ins.length (inC y.x.ins)
  l : w.ownsRow lo 3 1 y.v7 y.x.ins.length (liC y.x.ins)
  bu : ∀ g, y.v4.ownBlock = some g → g < hi
  bc : ∀ g, y.v5.ownBlock = some g → g < hi
  bi : ∀ g, y.v6.ownBlock = some g → g < hi
  bl : ∀ g, y.v7.ownBlock = some g → g < hi
/-- Functions with their lists in blocks that rise. -/
def Rows (w : World) : Nat → List FV → Nat → Prop
  | lo, [], hi => lo ≤ hi ∧ hi ≤ w.heap.size
  | lo, y :: ys, hi => ∃ mid, FnO w lo mid y ∧ Rows w mid ys hi
theorem Rows.snoc {w : World} : ∀ {lo : Nat} {ys : List FV} {hi hi' : Nat} {y : FV}, Rows w lo ys hi → FnO w hi hi' y → Rows w lo (ys ++ [y]) hi'
  | lo, [], hi, hi', y, h, hy => ⟨hi', { hy with le := Nat.le_trans h.1 hy.le, u := owns_less hy.u h.1, c := owns_less hy.c h.1, i := owns_less hy.i h.1, l := owns_less hy.l h.1 }, Nat.le_refl _, hy.sz⟩
  | lo, z :: ys, hi, hi', y, ⟨mid, h1, h2⟩, hy => ⟨mid, h1, h2.snoc hy⟩
/-- What lies in blocks of the lists' types stays. -/
def Kept4 (w w' : World) (lo : Nat) : Prop := w.heap.size ≤ w'.heap.size ∧ ∀ g cur T, (T = 57 ∨ T = 59 ∨ T = 61 ∨ T = 3) → lo ≤ g → w.heap[g]? = some (.cells cur T (0, 0)) → w'.heap[g]? = w.heap[g]?
theorem Kept4.mono {w w' : World} {lo lo' : Nat} (h : Kept4 w w' lo) (hl : lo ≤ lo') : Kept4 w w' lo' := ⟨h.1, fun g cur T hT hg hh => h.2 g cur T hT (Nat.le_trans hl hg) hh⟩
theorem Kept4.owns {w w' : World} {lo base e size n : Nat} {v : Value} {xs : List Value} (k : Kept4 w w' lo) (hl : lo ≤ base) (hT : e = 57 ∨ e = 59 ∨ e = 61 ∨ e = 3) (h : w.ownsRow base e size v n xs) : w'.ownsRow base e size v n xs := by
  obtain ⟨h1, h2 | ⟨g, cap, cur, rfl, hBg, hh, hr⟩⟩ := h
  · exact ⟨h1, .inl h2⟩
  · exact ⟨h1, .inr ⟨g, cap, cur, rfl, hBg, (k.2 g _ _ hT (Nat.le_trans hl hBg) hh).trans hh, hr⟩⟩
theorem FnO.keep {w w' : World} {lo0 lo hi : Nat} {y : FV} (h : FnO w lo hi y) (k : Kept4 w w' lo0) (hl : lo0 ≤ lo) : FnO w' lo hi y :=
  { h with sz := Nat.le_trans h.sz k.1, u := k.owns hl (.inl rfl) h.u, c := k.owns hl (.inr (.inl rfl)) h.c, i := k.owns hl (.inr (.inr (.inl rfl))) h.i, l := k.owns hl (.inr (.inr (.inr rfl))) h.l }
theorem Rows.keep {w w' : World} {lo0 : Nat} (k : Kept4 w w' lo0) : ∀ {lo : Nat} {ys : List FV} {hi : Nat}, Rows w lo ys hi → lo0 ≤ lo → Rows w' lo ys hi
  | lo, [], hi, h, _ => ⟨h.1, Nat.le_trans h.2 k.1⟩
  | lo, y :: ys, hi, ⟨mid, h1, h2⟩, hl => ⟨mid, h1.keep k hl, h2.keep k (Nat.le_trans hl h1.le)⟩
theorem Kept4.of {w w' : World} {S : Nat → Prop} {lo : Nat} (k : Keeps w w' S) (hS : ∀ b, S b → b < lo) : Kept4 w w' lo := by
  refine ⟨k.size, fun g cur T _ hg hh => k.block g ?_ (fun s => by have := hS g s; omega)⟩
  rcases Nat.lt_or_ge g w.heap.size with c | c
  · exact c
  · rw [Array.getElem?_eq_none c] at hh; cases hh

def Fok (xs : List FD) : Prop := (∀ x ∈ xs, FD.ok x) ∧ xs.length ≤ 65535
def fbody (xs : List FD) : List Int := magic ++ (u64n xs.length 2 ++ encL fdE xs)
/-- The file of functions. -/
def fdFile (xs : List FD) : List Int := fbody xs ++ u64n (wrap64 (crcL (fbody xs))) 4
theorem fd_inj : Inj fdE FD.ok := fun a b r r' ha hb e => by
  obtain ⟨a0, a1, a2, a3, a4, a5, a6⟩ := a
  obtain ⟨b0, b1, b2, b3, b4, b5, b6⟩ := b
  simp only [fdE, t1, t2, t3, t4, t5, t6, t7, t8, List.append_assoc] at e
  obtain ⟨e0, e⟩ := fld e
  obtain ⟨e1, e⟩ := List.cons.inj e
  obtain ⟨e2, e⟩ := fld e
  obtain ⟨e3, e⟩ := fld e
  obtain ⟨e4, e⟩ := fld e
  have n4 : (a4.length : Int) = b4.length := n1_inj e4 ⟨by omega, by have := ha.nu; simp only at this; omega⟩ ⟨by omega, by have := hb.nu; simp only at this; omega⟩
  obtain ⟨e5, e⟩ := up_inj'.same _ _ _ _ ha.u hb.u (by simp only; omega) e
  obtain ⟨e6, e⟩ := fld e
  have n6 : (a5.length : Int) = b5.length := n2_inj e6 ⟨by omega, by have := ha.nc; simp only at this; omega⟩ ⟨by omega, by have := hb.nc; simp only at this; omega⟩
  obtain ⟨e7, e⟩ := con_inj'.same _ _ _ _ ha.c hb.c (by simp only; omega) e
  obtain ⟨e8, e⟩ := fld e
  have n8 : (a6.length : Int) = b6.length := n2_inj e8 ⟨by omega, by have := ha.ni; simp only at this; omega⟩ ⟨by omega, by have := hb.ni; simp only at this; omega⟩
  obtain ⟨e9, ee⟩ := il_inj.same _ _ _ _ ha.i hb.i (by simp only; omega) e
  have q0 := n1_inj e0 ha.p hb.p
  have q2 := n1_inj e2 ha.g hb.g
  have q3 := n4_inj e3 ha.l hb.l
  have q1 := flag_inj e1
  simp only at q0 q1 q2 q3 e5 e7 e9
  subst q0 q1 q2 q3 e5 e7 e9
  exact ⟨rfl, ee⟩

/-- The chunk that is being read: the reader in R, the result's cell in g2, the chunk's own in g3, its list of functions, and the functions' lists. -/
structure CK (w0 w : World) (R g2 g3 : Nat) (s : List Int) (v : Value) (ys zs : List FV) : Prop where
  o : R < w0.heap.size ∧ w0.heap.size ≤ g2 ∧ g2 < g3
  rd : RdP w R s
  z : RowF w 25 g2 1 (fun _ => nilS)
  p : RowF w 25 g3 1 (fun _ => v)
  k : Keeps w0 w (fun b => b = R)
  own : w.ownsRow (g3 + 1) 44 8 v ys.length (fvC ys)
  rows : Rows w (g3 + 1) zs w.heap.size
theorem owns_blt {w : World} {base e size n : Nat} {v : Value} {xs : List Value} (h : w.ownsRow base e size v n xs) {g : Nat} (hg : v.ownBlock = some g) : g < w.heap.size := (h.lt g hg).2
section
variable {w0 w w' : World} {R g2 g3 : Nat} {s s' : List Int} {v : Value} {ys zs : List FV}
theorem Rows.more {lo hi hi' : Nat} : ∀ {lo : Nat} {zs : List FV}, Rows w lo zs hi → hi ≤ hi' → hi' ≤ w.heap.size → Rows w lo zs hi'
  | lo, [], h, h1, h2 => ⟨Nat.le_trans h.1 h1, h2⟩
  | lo, y :: zs, ⟨mid, h3, h4⟩, h1, h2 => ⟨mid, h3, Rows.more (lo := lo) h4 h1 h2⟩
theorem CK.go (h : CK w0 w R g2 g3 s v ys zs) (h1 : Keeps w w' (fun b => b = R)) (h2 : RdP w' R s') : CK w0 w' R g2 g3 s' v ys zs := by
  obtain ⟨o1, o2, o3⟩ := h.o
  exact ⟨h.o, h2, h.z.keep h1 (by omega), h.p.keep h1 (by omega), h.k.trans h1, owns_keep h.own h1 (by omega), Rows.more (lo := 0) (h.rows.keep (Kept4.of (lo := g3 + 1) h1 (by omega)) (Nat.le_refl _)) h1.size (Nat.le_refl _)⟩
theorem CK.drew (h : CK w0 w R g2 g3 s v ys zs) : CK w0 w.drew R g2 g3 s v ys zs :=
  h.go (Keeps.of ((Below.refl w.heap.size w).drew) (Nat.le_refl _) _) (h.rd.low ((Below.refl w.heap.size w).drew) h.rd.lt)
/-- One more function was read. -/
theorem CK.read {x : FD} {v4 v5 v6 v7 : Value} (h : CK w0 w R g2 g3 s v ys ys) (h1 : Keeps w w' (fun b => b = R)) (h2 : RdP w' R s')
    (hu : w'.ownsRow w.heap.size 57 2 v4 x.ups.length (upC x.ups)) (hc : w'.ownsRow w.heap.size 59 4 v5 x.cons.length (conC x.cons)) (hi : w'.ownsRow w.heap.size 61 4 v6 x.ins.length (inC x.ins)) (hl : w'.ownsRow w.heap.size 3 1 v7 x.ins.length (liC x.ins)) :
    CK w0 w' R g2 g3 s' v ys (ys ++ [⟨x, v4, v5, v6, v7⟩]) := by
  obtain ⟨o1, o2, o3⟩ := h.o
  exact ⟨h.o, h2, h.z.keep h1 (by omega), h.p.keep h1 (by omega), h.k.trans h1, owns_keep h.own h1 (by omega), (h.rows.keep (Kept4.of (lo := g3 + 1) h1 (by omega)) (Nat.le_refl _)).snoc ⟨h1.size, Nat.le_refl _, hu, hc, hi, hl, fun g hg => owns_blt hu hg, fun g hg => owns_blt hc hg, fun g hg => owns_blt hi hg, fun g hg => owns_blt hl hg⟩⟩
/-- It is in the list: behind the append, and the store. -/
theorem CK.app {v' : Value} {y : FV} (h : CK w0 w R g2 g3 s v ys (ys ++ [y]))
    (h1 : w'.ownsRow (g3 + 1) 44 8 v' (ys.length + 1) (fvC ys ++ y.cells)) (h2 : ∀ B w0, Below B w0 w → B ≤ g3 + 1 → Below B w0 w') (h3 : ∀ gx, gx < w.heap.size → v.ownBlock ≠ some gx → w'.heap[gx]? = w.heap[gx]?) :
    CK w0 (w'.setCell ⟨g3, 0, none⟩ v') R g2 g3 s v' (ys ++ [y]) (ys ++ [y]) := by
  obtain ⟨o1, o2, o3⟩ := h.o
  have hb : Below (g3 + 1) w w' := h2 _ _ (Below.refl _ _) (Nat.le_refl _)
  have hg3 := h.p.lt
  have k : Keeps w' (w'.setCell ⟨g3, 0, none⟩ v') (fun b => b = g3) := (Keeps.refl w' (fun b => b = g3)).setCell (S := fun b => b = g3) (j := 0) rfl v'
  have kk : Keeps w0 w' (fun b => b = R) := ⟨hb.os.trans h.k.os, hb.tape.trans h.k.tape, hb.output.trans h.k.output, Nat.le_trans h.k.size hb.size, fun b hb9 hn => (hb.block b (by omega)).trans (h.k.block b hb9 hn)⟩
  have k4 : Kept4 w w' (g3 + 1) := ⟨hb.size, fun g cur T hT hg hh => h3 g (by
    rcases Nat.lt_or_ge g w.heap.size with c | c
    · exact c
    · rw [Array.getElem?_eq_none c] at hh; cases hh) (fun e => by
    obtain ⟨-, ⟨rfl, _⟩ | ⟨a, cap, cur', rfl, hBg, hh', hr⟩⟩ := h.own
    · simp [Value.ownBlock] at e
    · have e1 : a = g := by simpa [Value.ownBlock] using e
      subst e1
      rw [hh] at hh'
      simp at hh'
      have e2 := hh'.2
      rcases hT with e3 | e3 | e3 | e3 <;> exact absurd (e3.symm.trans e2) (by decide))⟩
  refine ⟨h.o, (h.rd.low hb (by omega)).keep k (by omega), (h.z.low hb (by omega)).keep k (by omega), ((h.p.low hb (by omega)).set (j := 0) (by omega) v').congr (fun j hj => by rw [if_pos (by omega)]), kk.past (by omega) v', ?_, ?_⟩
  · rw [List.length_append, fvC_1]
    exact owns_keep h1 k (by omega)
  · exact Rows.more (lo := 0) ((h.rows.keep k4 (Nat.le_refl _)).keep (Kept4.of (lo := g3 + 1) k (by omega)) (Nat.le_refl _)) (by have := hb.size; have := k.size; omega) (Nat.le_refl _)
end

end Go.Proofs.YtcpeabchaimkaaaDoor
