import Derived.Test.YtcpeabchaimkaaaDoorRJ
import Derived.Test.YtcpeabchaimkaaaDoorCU
namespace Go.Proofs.YtcpeabchaimkaaaDoor
open Go Go.RowKit
set_option linter.unusedVariables false

abbrev DC := Int × Int × Int × List Int
abbrev DI := Int × Int × Int × Int × Int
def conD (us : List DC) : List Value := us.flatMap fun u => [.int .i64 u.1, .int .i64 u.2.1, .int .u64 u.2.2.1, .string (bsL u.2.2.2)]
def inD (us : List DI) : List Value := us.flatMap fun u => [.int .i64 u.1, .int .i64 u.2.1, .int .i64 u.2.2.1, .int .i64 u.2.2.2.1]
def liD (us : List DI) : List Value := us.flatMap fun u => [.int .i64 u.2.2.2.2]
theorem conD_1 (us : List DC) (u : DC) : conD (us ++ [u]) = conD us ++ [.int .i64 u.1, .int .i64 u.2.1, .int .u64 u.2.2.1, .string (bsL u.2.2.2)] := by simp [conD]
theorem inD_1 (us : List DI) (u : DI) : inD (us ++ [u]) = inD us ++ [.int .i64 u.1, .int .i64 u.2.1, .int .i64 u.2.2.1, .int .i64 u.2.2.2.1] := by simp [inD]
theorem liD_1 (us : List DI) (u : DI) : liD (us ++ [u]) = liD us ++ [.int .i64 u.2.2.2.2] := by simp [liD]
theorem RdN.low' {w w' : World} {R B : Nat} {s : St} (h : RdN w R s) (hb : Below B w w') (hR : R < B) : RdN w' R s := ⟨h.1.low hb hR, h.2⟩

/-- A function that the document's reader is reading. -/
structure QP (w0 w : World) (R g2 g3 : Nat) (s : St) (f : Nat → Value) (us : List (Bool × Int)) (cs : List DC) (is ls : List DI) : Prop where
  o : R < w0.heap.size ∧ w0.heap.size ≤ g2 ∧ g2 < g3
  rd : RdN w R s
  z : RowF w 44 g2 8 (fun j => #[Value.int .i64 0, .int .i64 0, .int .i64 0, .bool false, nilS, nilS, nilS, nilS].getD j (.bool false))
  p : RowF w 44 g3 8 f
  k : Keeps w0 w (fun b => b = R)
  u : w.ownsRow (g3 + 1) 57 2 (f 4) us.length (upC us)
  c : w.ownsRow (g3 + 1) 59 4 (f 5) cs.length (conD cs)
  i : w.ownsRow (g3 + 1) 61 4 (f 6) is.length (inD is)
  l : w.ownsRow (g3 + 1) 3 1 (f 7) ls.length (liD ls)
section
variable {w0 w : World} {R g2 g3 : Nat} {s : St} {f : Nat → Value} {us : List (Bool × Int)} {cs : List DC} {is ls : List DI}
theorem QP.go {w' : World} {s' : St} (h : QP w0 w R g2 g3 s f us cs is ls) (h1 : Keeps w w' (fun b => b = R)) (h2 : RdN w' R s') : QP w0 w' R g2 g3 s' f us cs is ls := by
  obtain ⟨o1, o2, o3⟩ := h.o
  exact ⟨h.o, h2, h.z.keep h1 (by omega), h.p.keep h1 (by omega), h.k.trans h1, owns_keep h.u h1 (by omega), owns_keep h.c h1 (by omega), owns_keep h.i h1 (by omega), owns_keep h.l h1 (by omega)⟩
theorem QP.num (h : QP w0 w R g2 g3 s f us cs is ls) (k : Nat) (sg : Bool) (hk : k ≤ 8) :
    Calls Tryd.prog 13 #[.pointer (some ⟨R, 0, none⟩), .int .i64 k, .bool sg] w fun e w' => e = .returned (.int .i64 (nm k sg s).1) ∧ Keeps w w' (fun b => b = R) ∧ QP w0 w' R g2 g3 (nm k sg s).2 f us cs is ls := by
  refine (number_nm R k sg s w hk h.rd).mono ?_
  rintro e w' ⟨rfl, h1, h2⟩
  exact ⟨rfl, h1, h.go h1 h2⟩
theorem QP.drew (h : QP w0 w R g2 g3 s f us cs is ls) : QP w0 w.drew R g2 g3 s f us cs is ls :=
  h.go (Keeps.of ((Below.refl w.heap.size w).drew) (Nat.le_refl _) _) (h.rd.low' ((Below.refl w.heap.size w).drew) h.rd.lt)
theorem QP.alloc (h : QP w0 w R g2 g3 s f us cs is ls) (o : Obj) : QP w0 (w.alloc o) R g2 g3 s f us cs is ls :=
  h.go (Keeps.of (b_1 w o) (Nat.le_refl _) _) (h.rd.low' (b_1 w o) h.rd.lt)
/-- A cell of a block past all is written. -/
theorem QP.past (h : QP w0 w R g2 g3 s f us cs is ls) {g : Nat} (hg : g3 < g) (hn : ∀ v : Value, v = f 4 ∨ v = f 5 ∨ v = f 6 ∨ v = f 7 → v.ownBlock ≠ some g) (j : Nat) (x : Value) : QP w0 (w.setCell ⟨g, j, none⟩ x) R g2 g3 s f us cs is ls := by
  obtain ⟨o1, o2, o3⟩ := h.o
  have k : Keeps w (w.setCell ⟨g, j, none⟩ x) (fun b => b = g) := (Keeps.refl w (fun b => b = g)).setCell (S := fun b => b = g) (j := j) rfl x
  have kb : ∀ v : Value, v = f 4 ∨ v = f 5 ∨ v = f 6 ∨ v = f 7 → ∀ b, b < w.heap.size → v.ownBlock = some b → (w.setCell ⟨g, j, none⟩ x).heap[b]? = w.heap[b]? := fun v hv b hb hb2 => k.block b hb (fun e => hn v hv (by rw [← e]; exact hb2))
  exact ⟨h.o, h.rd.keep k (by omega), h.z.keep k (by omega), h.p.keep k (by omega), h.k.past (by omega) x, owns_same h.u (kb _ (.inl rfl)), owns_same h.c (kb _ (.inr (.inl rfl))), owns_same h.i (kb _ (.inr (.inr (.inl rfl)))), owns_same h.l (kb _ (.inr (.inr (.inr rfl))))⟩
/-- One of its four plain cells is written. -/
theorem QP.set (h : QP w0 w R g2 g3 s f us cs is ls) {j : Nat} (hj : j < 4) (x : Value) :
    QP w0 (w.setCell ⟨g3, j, none⟩ x) R g2 g3 s (fun i => if i = j then x else f i) us cs is ls := by
  obtain ⟨o1, o2, o3⟩ := h.o
  have k : Keeps w (w.setCell ⟨g3, j, none⟩ x) (fun b => b = g3) := (Keeps.refl w (fun b => b = g3)).setCell (S := fun b => b = g3) (j := j) rfl x
  refine ⟨h.o, h.rd.keep k (by omega), h.z.keep k (by omega), h.p.set (by omega) x, h.k.past (by omega) x, ?_, ?_, ?_, ?_⟩
  · rw [if_neg (by omega)]; exact owns_keep h.u k (by omega)
  · rw [if_neg (by omega)]; exact owns_keep h.c k (by omega)
  · rw [if_neg (by omega)]; exact owns_keep h.i k (by omega)
  · rw [if_neg (by omega)]; exact owns_keep h.l k (by omega)
/-- One more in a list: behind the append, and the store. -/
theorem QP.app_u {w' : World} {v' : Value} {u : Bool × Int} (h : QP w0 w R g2 g3 s f us cs is ls)
    (h1 : w'.ownsRow (g3 + 1) 57 2 v' (us.length + 1) (upC us ++ [.bool u.1, .int .i64 u.2])) (h2 : ∀ B w0, Below B w0 w → B ≤ g3 + 1 → Below B w0 w') (h3 : ∀ gx, gx < w.heap.size → (f 4).ownBlock ≠ some gx → w'.heap[gx]? = w.heap[gx]?) :
    QP w0 (w'.setCell ⟨g3, 4, none⟩ v') R g2 g3 s (fun i => if i = 4 then v' else f i) (us ++ [u]) cs is ls := by
  obtain ⟨o1, o2, o3⟩ := h.o
  have hb : Below (g3 + 1) w w' := h2 _ _ (Below.refl _ _) (Nat.le_refl _)
  have hg3 := h.p.lt
  have k : Keeps w' (w'.setCell ⟨g3, 4, none⟩ v') (fun b => b = g3) := (Keeps.refl w' (fun b => b = g3)).setCell (S := fun b => b = g3) (j := 4) rfl v'
  have kk : Keeps w0 w' (fun b => b = R) := ⟨hb.os.trans h.k.os, hb.tape.trans h.k.tape, hb.output.trans h.k.output, Nat.le_trans h.k.size hb.size, fun b hb9 hn => (hb.block b (by omega)).trans (h.k.block b hb9 hn)⟩
  refine ⟨h.o, (h.rd.low' hb (by omega)).keep k (by omega), (h.z.low hb (by omega)).keep k (by omega), (h.p.low hb (by omega)).set (by omega) v', kk.past (by omega) v', ?_, ?_, ?_, ?_⟩
  · rw [if_pos rfl, List.length_append, upC_1]; exact owns_keep h1 k (by omega)
  · rw [if_neg (by omega)]; exact owns_keep (owns_same h.c (fun g hg hv => h3 g hg (owns_apart h.c h.u (by decide) hv))) k (by omega)
  · rw [if_neg (by omega)]; exact owns_keep (owns_same h.i (fun g hg hv => h3 g hg (owns_apart h.i h.u (by decide) hv))) k (by omega)
  · rw [if_neg (by omega)]; exact owns_keep (owns_same h.l (fun g hg hv => h3 g hg (owns_apart h.l h.u (by decide) hv))) k (by omega)
/-- One more in a list: behind the append, and the store. -/
theorem QP.app_c {w' : World} {v' : Value} {u : DC} (h : QP w0 w R g2 g3 s f us cs is ls)
    (h1 : w'.ownsRow (g3 + 1) 59 4 v' (cs.length + 1) (conD cs ++ [.int .i64 u.1, .int .i64 u.2.1, .int .u64 u.2.2.1, .string (bsL u.2.2.2)])) (h2 : ∀ B w0, Below B w0 w → B ≤ g3 + 1 → Below B w0 w') (h3 : ∀ gx, gx < w.heap.size → (f 5).ownBlock ≠ some gx → w'.heap[gx]? = w.heap[gx]?) :
    QP w0 (w'.setCell ⟨g3, 5, none⟩ v') R g2 g3 s (fun i => if i = 5 then v' else f i) us (cs ++ [u]) is ls := by
  obtain ⟨o1, o2, o3⟩ := h.o
  have hb : Below (g3 + 1) w w' := h2 _ _ (Below.refl _ _) (Nat.le_refl _)
  have hg3 := h.p.lt
  have k : Keeps w' (w'.setCell ⟨g3, 5, none⟩ v') (fun b => b = g3) := (Keeps.refl w' (fun b => b = g3)).setCell (S := fun b => b = g3) (j := 5) rfl v'
  have kk : Keeps w0 w' (fun b => b = R) := ⟨hb.os.trans h.k.os, hb.tape.trans h.k.tape, hb.output.trans h.k.output, Nat.le_trans h.k.size hb.size, fun b hb9 hn => (hb.block b (by omega)).trans (h.k.block b hb9 hn)⟩
  refine ⟨h.o, (h.rd.low' hb (by omega)).keep k (by omega), (h.z.low hb (by omega)).keep k (by omega), (h.p.low hb (by omega)).set (by omega) v', kk.past (by omega) v', ?_, ?_, ?_, ?_⟩
  · rw [if_neg (by omega)]; exact owns_keep (owns_same h.u (fun g hg hv => h3 g hg (owns_apart h.u h.c (by decide) hv))) k (by omega)
  · rw [if_pos rfl, List.length_append, conD_1]; exact owns_keep h1 k (by omega)
  · rw [if_neg (by omega)]; exact owns_keep (owns_same h.i (fun g hg hv => h3 g hg (owns_apart h.i h.c (by decide) hv))) k (by omega)
  · rw [if_neg (by omega)]; exact owns_keep (owns_same h.l (fun g hg hv => h3 g hg (owns_apart h.l h.c (by decide) hv))) k (by omega)
/-- One more in a list: behind the append, and the store. -/
theorem QP.app_i {w' : World} {v' : Value} {u : DI} (h : QP w0 w R g2 g3 s f us cs is ls)
    (h1 : w'.ownsRow (g3 + 1) 61 4 v' (is.length + 1) (inD is ++ [.int .i64 u.1, .int .i64 u.2.1, .int .i64 u.2.2.1, .int .i64 u.2.2.2.1])) (h2 : ∀ B w0, Below B w0 w → B ≤ g3 + 1 → Below B w0 w') (h3 : ∀ gx, gx < w.heap.size → (f 6).ownBlock ≠ some gx → w'.heap[gx]? = w.heap[gx]?) :
    QP w0 (w'.setCell ⟨g3, 6, none⟩ v') R g2 g3 s (fun i => if i = 6 then v' else f i) us cs (is ++ [u]) ls := by
  obtain ⟨o1, o2, o3⟩ := h.o
  have hb : Below (g3 + 1) w w' := h2 _ _ (Below.refl _ _) (Nat.le_refl _)
  have hg3 := h.p.lt
  have k : Keeps w' (w'.setCell ⟨g3, 6, none⟩ v') (fun b => b = g3) := (Keeps.refl w' (fun b => b = g3)).setCell (S := fun b => b = g3) (j := 6) rfl v'
  have kk : Keeps w0 w' (fun b => b = R) := ⟨hb.os.trans h.k.os, hb.tape.trans h.k.tape, hb.output.trans h.k.output, Nat.le_trans h.k.size hb.size, fun b hb9 hn => (hb.block b (by omega)).trans (h.k.block b hb9 hn)⟩
  refine ⟨h.o, (h.rd.low' hb (by omega)).keep k (by omega), (h.z.low hb (by omega)).keep k (by omega), (h.p.low hb (by omega)).set (by omega) v', kk.past (by omega) v', ?_, ?_, ?_, ?_⟩
  · rw [if_neg (by omega)]; exact owns_keep (owns_same h.u (fun g hg hv => h3 g hg (owns_apart h.u h.i (by decide) hv))) k (by omega)
  · rw [if_neg (by omega)]; exact owns_keep (owns_same h.c (fun g hg hv => h3 g hg (owns_apart h.c h.i (by decide) hv))) k (by omega)
  · rw [if_pos rfl, List.length_append, inD_1]; exact owns_keep h1 k (by omega)
  · rw [if_neg (by omega)]; exact owns_keep (owns_same h.l (fun g hg hv => h3 g hg (owns_apart h.l h.i (by decide) hv))) k (by omega)
/-- One more in a list: behind the append, and the store. -/
theorem QP.app_l {w' : World} {v' : Value} {u : DI} (h : QP w0 w R g2 g3 s f us cs is ls)
    (h1 : w'.ownsRow (g3 + 1) 3 1 v' (ls.length + 1) (liD ls ++ [.int .i64 u.2.2.2.2])) (h2 : ∀ B w0, Below B w0 w → B ≤ g3 + 1 → Below B w0 w') (h3 : ∀ gx, gx < w.heap.size → (f 7).ownBlock ≠ some gx → w'.heap[gx]? = w.heap[gx]?) :
    QP w0 (w'.setCell ⟨g3, 7, none⟩ v') R g2 g3 s (fun i => if i = 7 then v' else f i) us cs is (ls ++ [u]) := by
  obtain ⟨o1, o2, o3⟩ := h.o
  have hb : Below (g3 + 1) w w' := h2 _ _ (Below.refl _ _) (Nat.le_refl _)
  have hg3 := h.p.lt
  have k : Keeps w' (w'.setCell ⟨g3, 7, none⟩ v') (fun b => b = g3) := (Keeps.refl w' (fun b => b = g3)).setCell (S := fun b => b = g3) (j := 7) rfl v'
  have kk : Keeps w0 w' (fun b => b = R) := ⟨hb.os.trans h.k.os, hb.tape.trans h.k.tape, hb.output.trans h.k.output, Nat.le_trans h.k.size hb.size, fun b hb9 hn => (hb.block b (by omega)).trans (h.k.block b hb9 hn)⟩
  refine ⟨h.o, (h.rd.low' hb (by omega)).keep k (by omega), (h.z.low hb (by omega)).keep k (by omega), (h.p.low hb (by omega)).set (by omega) v', kk.past (by omega) v', ?_, ?_, ?_, ?_⟩
  · rw [if_neg (by omega)]; exact owns_keep (owns_same h.u (fun g hg hv => h3 g hg (owns_apart h.u h.l (by decide) hv))) k (by omega)
  · rw [if_neg (by omega)]; exact owns_keep (owns_same h.c (fun g hg hv => h3 g hg (owns_apart h.c h.l (by decide) hv))) k (by omega)
  · rw [if_neg (by omega)]; exact owns_keep (owns_same h.i (fun g hg hv => h3 g hg (owns_apart h.i h.l (by decide) hv))) k (by omega)
  · rw [if_pos rfl, List.length_append, liD_1]; exact owns_keep h1 k (by omega)
/-- The lists lie ahead of a block that is made now. -/
theorem QP.fresh (h : QP w0 w R g2 g3 s f us cs is ls) {g : Nat} (hg : w.heap.size ≤ g) : ∀ v : Value, v = f 4 ∨ v = f 5 ∨ v = f 6 ∨ v = f 7 → v.ownBlock ≠ some g := by
  rintro v (rfl | rfl | rfl | rfl) e
  · have := owns_blt h.u e; omega
  · have := owns_blt h.c e; omega
  · have := owns_blt h.i e; omega
  · have := owns_blt h.l e; omega
end

end Go.Proofs.YtcpeabchaimkaaaDoor
