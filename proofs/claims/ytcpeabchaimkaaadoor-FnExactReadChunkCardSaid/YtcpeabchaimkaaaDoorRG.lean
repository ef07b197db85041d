import Derived.Test.YtcpeabchaimkaaaDoorRF
import Derived.Test.YtcpeabchaimkaaaDoorCU
namespace Go.Proofs.YtcpeabchaimkaaaDoor
open Go Go.RowKit
set_option linter.unusedVariables false

/-- What the writer lays down for a list. -/
def encL {α : Type} (E : α → List Int) (xs : List α) : List Int := xs.flatMap E
theorem encL_nil {α : Type} (E : α → List Int) : encL E [] = [] := rfl
theorem encL_1 {α : Type} (E : α → List Int) (xs : List α) (x : α) : encL E (xs ++ [x]) = encL E xs ++ E x := by simp [encL]
theorem encL_cons {α : Type} (E : α → List Int) (xs : List α) (x : α) : encL E (x :: xs) = E x ++ encL E xs := by simp [encL]
/-- An encoding that tells where it ends. -/
def Inj {α : Type} (E : α → List Int) (V : α → Prop) : Prop := ∀ a b r r', V a → V b → E a ++ r = E b ++ r' → a = b ∧ r = r'
theorem Inj.more {α : Type} {E : α → List Int} {V : α → Prop} (h : Inj E V) : ∀ (xs ys : List α) (r r' : List Int), (∀ x ∈ xs, V x) → (∀ y ∈ ys, V y) → xs.length < ys.length → encL E xs ++ r = encL E ys ++ r' → ∃ y r2, V y ∧ r = E y ++ r2
  | [], y :: ys, r, r', _, hy, _, e => ⟨y, encL E ys ++ r', hy y (by simp), by rw [encL_cons, List.append_assoc] at e; exact e⟩
  | x :: xs, y :: ys, r, r', hx, hy, hl, e => by
    rw [encL_cons, encL_cons, List.append_assoc, List.append_assoc] at e
    obtain ⟨-, e2⟩ := h x y _ _ (hx x (by simp)) (hy y (by simp)) e
    exact h.more xs ys r r' (fun z hz => hx z (by simp [hz])) (fun z hz => hy z (by simp [hz])) (by simpa using hl) e2
  | [], [], _, _, _, _, hl, _ => by simp at hl
  | x :: xs, [], _, _, _, _, hl, _ => by simp at hl
theorem Inj.same {α : Type} {E : α → List Int} {V : α → Prop} (h : Inj E V) : ∀ (xs ys : List α) (r r' : List Int), (∀ x ∈ xs, V x) → (∀ y ∈ ys, V y) → xs.length = ys.length → encL E xs ++ r = encL E ys ++ r' → xs = ys ∧ r = r'
  | [], [], r, r', _, _, _, e => ⟨rfl, e⟩
  | x :: xs, y :: ys, r, r', hx, hy, hl, e => by
    rw [encL_cons, encL_cons, List.append_assoc, List.append_assoc] at e
    obtain ⟨e1, e2⟩ := h x y _ _ (hx x (by simp)) (hy y (by simp)) e
    obtain ⟨e3, e4⟩ := h.same xs ys r r' (fun z hz => hx z (by simp [hz])) (fun z hz => hy z (by simp [hz])) (by simpa using hl) e2
    exact ⟨by rw [e1, e3], e4⟩
  | [], y :: ys, _, _, _, _, hl, _ => by simp at hl
  | x :: xs, [], _, _, _, _, hl, _ => by simp at hl
theorem up_inj' : Inj upE upW := fun a b r r' ha hb e => by
  simp only [upE, List.append_assoc] at e
  obtain ⟨e1, e2⟩ := List.cons.inj e
  obtain ⟨e3, e4⟩ := fld e2
  exact ⟨Prod.ext (flag_inj e1) (n1_inj e3 ha hb), e4⟩
theorem in_inj' : Inj inE inW := fun a b r r' ha hb e => by
  simp only [inE, List.append_assoc] at e
  obtain ⟨e1, e⟩ := fld e
  obtain ⟨e2, e⟩ := fld e
  obtain ⟨e3, e⟩ := fld e
  obtain ⟨e4, e⟩ := fld e
  exact ⟨Prod.ext (n1_inj e1 ha.1 hb.1) (Prod.ext (n1_inj e2 ha.2.1 hb.2.1) (Prod.ext (s4_inj e3 ha.2.2.1 hb.2.2.1) (s4_inj e4 ha.2.2.2 hb.2.2.2))), e⟩
/-- One constant as the only one of a function. -/
def onePV (u : Con) : PV := ⟨0, 0, 0, false, 0, fun _ => false, fun _ => 0, 1, fun _ => u.1, fun _ => u.2.1, fun _ => u.2.2.1, fun _ => u.2.2.2, 0, fun _ => 0, fun _ => 0, fun _ => 0, fun _ => 0, 0, fun _ => 0⟩
theorem con_inj' : Inj conE conW := fun a b r r' ha hb e => by
  obtain ⟨⟨h1, h2, h3, h4⟩, h5⟩ := co_inj (p := onePV a) (q := onePV b) (k := 0) ha.1 hb.1 ha.2.1 hb.2.1 ha.2.2 hb.2.2 (r := r) (r' := r') e
  exact ⟨Prod.ext h1 (Prod.ext h2 (Prod.ext h3 h4)), h5⟩
/-- An instruction and its line. -/
abbrev IL := (Int × Int × Int × Int) × Int
def ilE (u : IL) : List Int := inE u.1 ++ u64n u.2 4
def ilW (u : IL) : Prop := inW u.1 ∧ 0 ≤ u.2 ∧ u.2 ≤ 2147483647
theorem il_inj : Inj ilE ilW := fun a b r r' ha hb e => by
  simp only [ilE, List.append_assoc] at e
  obtain ⟨e1, e⟩ := in_inj' _ _ _ _ ha.1 hb.1 e
  obtain ⟨e2, e⟩ := fld e
  exact ⟨Prod.ext e1 (n4_inj e2 ha.2 hb.2), e⟩

/-- A function as it is read. -/
structure FD where
  params : Int
  regs : Int
  line : Int
  dots : Bool
  ups : List (Bool × Int)
  cons : List Con
  ins : List IL
structure FD.ok (x : FD) : Prop where
  p : 0 ≤ x.params ∧ x.params ≤ 255
  g : 0 ≤ x.regs ∧ x.regs ≤ 255
  l : 0 ≤ x.line ∧ x.line ≤ 2147483647
  nu : x.ups.length ≤ 255
  nc : x.cons.length ≤ 65535
  ni : x.ins.length ≤ 65535
  u : ∀ y ∈ x.ups, upW y
  c : ∀ y ∈ x.cons, conW y
  i : ∀ y ∈ x.ins, ilW y
def t8 (x : FD) : List Int := u64n x.ins.length 2 ++ encL ilE x.ins
def t7 (x : FD) : List Int := encL conE x.cons ++ t8 x
def t6 (x : FD) : List Int := u64n x.cons.length 2 ++ t7 x
def t5 (x : FD) : List Int := encL upE x.ups ++ t6 x
def t4 (x : FD) : List Int := u64n x.ups.length 1 ++ t5 x
def t3 (x : FD) : List Int := u64n x.line 4 ++ t4 x
def t2 (x : FD) : List Int := u64n x.regs 1 ++ t3 x
def t1 (x : FD) : List Int := [flagI x.dots] ++ t2 x
def fdE (x : FD) : List Int := u64n x.params 1 ++ t1 x
/-- What is left, wherever the bytes are those of something right. -/
def Lft (l : List Int) (t : FD → List Int) (r : List Int) : Prop := ∀ x s, x.ok → l = fdE x ++ s → r = t x ++ s

def upC (us : List (Bool × Int)) : List Value := us.flatMap fun u => [.bool u.1, .int .i64 u.2]
def conC (us : List Con) : List Value := us.flatMap fun u => [.int .i64 u.1, .int .i64 u.2.1, .int .u64 u.2.2.1, .string u.2.2.2]
def inC (us : List IL) : List Value := us.flatMap fun u => [.int .i64 u.1.1, .int .i64 u.1.2.1, .int .i64 u.1.2.2.1, .int .i64 u.1.2.2.2]
def liC (us : List IL) : List Value := us.flatMap fun u => [.int .i64 u.2]
theorem upC_1 (us : List (Bool × Int)) (u : Bool × Int) : upC (us ++ [u]) = upC us ++ [.bool u.1, .int .i64 u.2] := by simp [upC]
theorem conC_1 (us : List Con) (u : Con) : conC (us ++ [u]) = conC us ++ [.int .i64 u.1, .int .i64 u.2.1, .int .u64 u.2.2.1, .string u.2.2.2] := by simp [conC]
theorem inC_1 (us : List IL) (u : IL) : inC (us ++ [u]) = inC us ++ [.int .i64 u.1.1, .int .i64 u.1.2.1, .int .i64 u.1.2.2.1, .int .i64 u.1.2.2.2] := by simp [inC]
theorem liC_1 (us : List IL) (u : IL) : liC (us ++ [u]) = liC us ++ [.int .i64 u.2] := by simp [liC]

theorem RdP.low {w w' : World} {R B : Nat} {l : List Int} (h : RdP w R l) (hb : Below B w w') (hR : R < B) : RdP w' R l := by
  obtain ⟨⟨v, h1, h2⟩, h3⟩ := h
  exact ⟨⟨v, h1.low hb hR, h2.low hb (Nat.le_of_lt hR)⟩, h3⟩
/-- 's = append(s, x)' of one more, as one step of a region that draws. -/
theorem app_new_op {wr : World} {o : Oper} {a : Act} {K : Act → World → Prop} {Q : Exit → Act → World → Prop} (s x : Operand) (TS T size bytes : Nat) (z : Value)
    (ho : o.op = .call { callee := .builtin .append, args := #[s, x], argTypes := #[TS, TS] }) (hU : Tryd.prog.underlying TS = some (.slice T)) (hI : (Tryd.prog.info? T).map (fun i => (i.zero, i.size, i.bytes)) = some (some z, size, bytes)) (hz : z.cells.size = size) (hsz : 0 < size)
    (base : Nat) (v : Value) (n : Nat) (xs cs : List Value) (hown : wr.ownsRow base T size v n xs) (hs : a.eval s = v) (hx : a.eval x = .slice (some ⟨wr.heap.size, 0, none⟩) 1 1) (hcs : cs.length = size) (h1 : ∀ u ∈ cs, u.oneCell' = true)
    (hlen : (n + 1) * bytes ≤ 140737488355328) (hb0 : 0 < bytes) (hbase : base ≤ wr.heap.size)
    (h : ∀ v' w', w'.ownsRow base T size v' (n + 1) (xs ++ cs) → (∀ B w0, Below B w0 wr → B ≤ base → Below B w0 w') → (∀ gx, gx < wr.heap.size → v.ownBlock ≠ some gx → w'.heap[gx]? = wr.heap[gx]?) → K (a.put o.dst v') w') :
    Oper.wp Tryd.prog o a (wr.alloc (.cells cs.toArray T)) K Q := by
  obtain ⟨i0, hi, hz0, hz1, hz2⟩ := info_parts hI
  have hn : n + 1 ≤ 140737488355328 := Nat.le_trans (Nat.le_mul_of_pos_right _ hb0) hlen
  refine wp_append_own _ s x TS ho base T i0 z size bytes hU hi hz0 hz1 hz2 hz hsz v n xs hs (hown.alloc _) ⟨wr.heap.size, 0, none⟩ 1 1 cs hx (by omega)
    (fun j u hj => ?_) h1 (by unfold maxLen; omega) hlen (by simp; omega) ?_
  · rw [add_none', Nat.zero_add]
    obtain ⟨hl, rfl⟩ := List.getElem?_eq_some_iff.1 hj
    have := (RowF.mk' wr T cs.toArray).cell (j := j) (by simpa using hl)
    rw [this]
    simp [hl]
  · intro v' w' h1 h2 h3
    refine h v' w' h1 (fun B w0 hb hB => (hb.alloc (by omega) _).grown h2 (by simp; omega) (fun q hq => ?_))
      (fun gx hgx hne => (h2.block gx (by simp; omega) (fun e => hne e.symm)).trans ((b_1 wr _).block gx hgx))
    have := (hown.lt q hq).1
    omega

/-- A function that the program is reading: the reader in block R, the result's cells in g2, the function's own in g3, its lists of the call's own. -/
structure PP (w0 w : World) (R g2 g3 : Nat) (s : List Int) (f : Nat → Value) (us : List (Bool × Int)) (cs : List Con) (is ls : List IL) : Prop where
  o : R < w0.heap.size ∧ w0.heap.size ≤ g2 ∧ g2 < g3
  rd : RdP w R s
  z : RowF w 44 g2 8 (fun j => #[Value.int .i64 0, .int .i64 0, .int .i64 0, .bool false, nilS, nilS, nilS, nilS].getD j (.bool false))
  p : RowF w 44 g3 8 f
  k : Keeps w0 w (fun b => b = R)
  u : w.ownsRow (g3 + 1) 57 2 (f 4) us.length (upC us)
  c : w.ownsRow (g3 + 1) 59 4 (f 5) cs.length (conC cs)
  i : w.ownsRow (g3 + 1) 61 4 (f 6) is.length (inC is)
  l : w.ownsRow (g3 + 1) 3 1 (f 7) ls.length (liC ls)
section
variable {w0 w : World} {R g2 g3 : Nat} {s : List Int} {f : Nat → Value} {us : List (Bool × Int)} {cs : List Con} {is ls : List IL}
theorem PP.go {w' : World} {s' : List Int} (h : PP w0 w R g2 g3 s f us cs is ls) (h1 : Keeps w w' (fun b => b = R)) (h2 : RdP w' R s') : PP w0 w' R g2 g3 s' f us cs is ls := by
  obtain ⟨o1, o2, o3⟩ := h.o
  exact ⟨h.o, h2, h.z.keep h1 (by omega), h.p.keep h1 (by omega), h.k.trans h1, owns_keep h.u h1 (by omega), owns_keep h.c h1 (by omega), owns_keep h.i h1 (by omega), owns_keep h.l h1 (by omega)⟩
theorem PP.drew (h : PP w0 w R g2 g3 s f us cs is ls) : PP w0 w.drew R g2 g3 s f us cs is ls :=
  h.go (Keeps.of ((Below.refl w.heap.size w).drew) (Nat.le_refl _) _) (h.rd.low ((Below.refl w.heap.size w).drew) h.rd.lt)
/-- One of its four plain cells is written. -/
theorem PP.set (h : PP w0 w R g2 g3 s f us cs is ls) {j : Nat} (hj : j < 4) (x : Value) :
    PP w0 (w.setCell ⟨g3, j, none⟩ x) R g2 g3 s (fun i => if i = j then x else f i) us cs is ls := by
  obtain ⟨o1, o2, o3⟩ := h.o
  have k : Keeps w (w.setCell ⟨g3, j, none⟩ x) (fun b => b = g3) := (Keeps.refl w (fun b => b = g3)).setCell (S := fun b => b = g3) (j := j) rfl x
  refine ⟨h.o, h.rd.keep k (by omega), h.z.keep k (by omega), h.p.set (by omega) x, h.k.past (by omega) x, ?_, ?_, ?_, ?_⟩
  · rw [if_neg (by omega)]; exact owns_keep h.u k (by omega)
  · rw [if_neg (by omega)]; exact owns_keep h.c k (by omega)
  · rw [if_neg (by omega)]; exact owns_keep h.i k (by omega)
  · rw [if_neg (by omega)]; exact owns_keep h.l k (by omega)
/-- One more in a list: behind the append, and the store. -/
theorem PP.app_u {w' : World} {v' : Value} {u : Bool × Int} (h : PP w0 w R g2 g3 s f us cs is ls)
    (h1 : w'.ownsRow (g3 + 1) 57 2 v' (us.length + 1) (upC us ++ [.bool u.1, .int .i64 u.2])) (h2 : ∀ B w0, Below B w0 w → B ≤ g3 + 1 → Below B w0 w') (h3 : ∀ gx, gx < w.heap.size → (f 4).ownBlock ≠ some gx → w'.heap[gx]? = w.heap[gx]?) :
    PP w0 (w'.setCell ⟨g3, 4, none⟩ v') R g2 g3 s (fun i => if i = 4 then v' else f i) (us ++ [u]) cs is ls := by
  obtain ⟨o1, o2, o3⟩ := h.o
  have hb : Below (g3 + 1) w w' := h2 _ _ (Below.refl _ _) (Nat.le_refl _)
  have hg3 := h.p.lt
  have k : Keeps w' (w'.setCell ⟨g3, 4, none⟩ v') (fun b => b = g3) := (Keeps.refl w' (fun b => b = g3)).setCell (S := fun b => b = g3) (j := 4) rfl v'
  have kk : Keeps w0 w' (fun b => b = R) := ⟨hb.os.trans h.k.os, hb.tape.trans h.k.tape, hb.output.trans h.k.output, Nat.le_trans h.k.size hb.size, fun b hb9 hn => (hb.block b (by omega)).trans (h.k.block b hb9 hn)⟩
  refine ⟨h.o, (h.rd.low hb (by omega)).keep k (by omega), (h.z.low hb (by omega)).keep k (by omega), (h.p.low hb (by omega)).set (by omega) v', kk.past (by omega) v', ?_, ?_, ?_, ?_⟩
  · rw [if_pos rfl, List.length_append, upC_1]; exact owns_keep h1 k (by omega)
  · rw [if_neg (by omega)]; exact owns_keep (owns_same h.c (fun g hg hv => h3 g hg (owns_apart h.c h.u (by decide) hv))) k (by omega)
  · rw [if_neg (by omega)]; exact owns_keep (owns_same h.i (fun g hg hv => h3 g hg (owns_apart h.i h.u (by decide) hv))) k (by omega)
  · rw [if_neg (by omega)]; exact owns_keep (owns_same h.l (fun g hg hv => h3 g hg (owns_apart h.l h.u (by decide) hv))) k (by omega)
/-- One more in a list: behind the append, and the store. -/
theorem PP.app_c {w' : World} {v' : Value} {u : Con} (h : PP w0 w R g2 g3 s f us cs is ls)
    (h1 : w'.ownsRow (g3 + 1) 59 4 v' (cs.length + 1) (conC cs ++ [.int .i64 u.1, .int .i64 u.2.1, .int .u64 u.2.2.1, .string u.2.2.2])) (h2 : ∀ B w0, Below B w0 w → B ≤ g3 + 1 → Below B w0 w') (h3 : ∀ gx, gx < w.heap.size → (f 5).ownBlock ≠ some gx → w'.heap[gx]? = w.heap[gx]?) :
    PP w0 (w'.setCell ⟨g3, 5, none⟩ v') R g2 g3 s (fun i => if i = 5 then v' else f i) us (cs ++ [u]) is ls := by
  obtain ⟨o1, o2, o3⟩ := h.o
  have hb : Below (g3 + 1) w w' := h2 _ _ (Below.refl _ _) (Nat.le_refl _)
  have hg3 := h.p.lt
  have k : Keeps w' (w'.setCell ⟨g3, 5, none⟩ v') (fun b => b = g3) := (Keeps.refl w' (fun b => b = g3)).setCell (S := fun b => b = g3) (j := 5) rfl v'
  have kk : Keeps w0 w' (fun b => b = R) := ⟨hb.os.trans h.k.os, hb.tape.trans h.k.tape, hb.output.trans h.k.output, Nat.le_trans h.k.size hb.size, fun b hb9 hn => (hb.block b (by omega)).trans (h.k.block b hb9 hn)⟩
  refine ⟨h.o, (h.rd.low hb (by omega)).keep k (by omega), (h.z.low hb (by omega)).keep k (by omega), (h.p.low hb (by omega)).set (by omega) v', kk.past (by omega) v', ?_, ?_, ?_, ?_⟩
  · rw [if_neg (by omega)]; exact owns_keep (owns_same h.u (fun g hg hv => h3 g hg (owns_apart h.u h.c (by decide) hv))) k (by omega)
  · rw [if_pos rfl, List.length_append, conC_1]; exact owns_keep h1 k (by omega)
  · rw [if_neg (by omega)]; exact owns_keep (owns_same h.i (fun g hg hv => h3 g hg (owns_apart h.i h.c (by decide) hv))) k (by omega)
  · rw [if_neg (by omega)]; exact owns_keep (owns_same h.l (fun g hg hv => h3 g hg (owns_apart h.l h.c (by decide) hv))) k (by omega)
/-- One more in a list: behind the append, and the store. -/
theorem PP.app_i {w' : World} {v' : Value} {u : IL} (h : PP w0 w R g2 g3 s f us cs is ls)
    (h1 : w'.ownsRow (g3 + 1) 61 4 v' (is.length + 1) (inC is ++ [.int .i64 u.1.1, .int .i64 u.1.2.1, .int .i64 u.1.2.2.1, .int .i64 u.1.2.2.2])) (h2 : ∀ B w0, Below B w0 w → B ≤ g3 + 1 → Below B w0 w') (h3 : ∀ gx, gx < w.heap.size → (f 6).ownBlock ≠ some gx → w'.heap[gx]? = w.heap[gx]?) :
    PP w0 (w'.setCell ⟨g3, 6, none⟩ v') R g2 g3 s (fun i => if i = 6 then v' else f i) us cs (is ++ [u]) ls := by
  obtain ⟨o1, o2, o3⟩ := h.o
  have hb : Below (g3 + 1) w w' := h2 _ _ (Below.refl _ _) (Nat.le_refl _)
  have hg3 := h.p.lt
  have k : Keeps w' (w'.setCell ⟨g3, 6, none⟩ v') (fun b => b = g3) := (Keeps.refl w' (fun b => b = g3)).setCell (S := fun b => b = g3) (j := 6) rfl v'
  have kk : Keeps w0 w' (fun b => b = R) := ⟨hb.os.trans h.k.os, hb.tape.trans h.k.tape, hb.output.trans h.k.output, Nat.le_trans h.k.size hb.size, fun b hb9 hn => (hb.block b (by omega)).trans (h.k.block b hb9 hn)⟩
  refine ⟨h.o, (h.rd.low hb (by omega)).keep k (by omega), (h.z.low hb (by omega)).keep k (by omega), (h.p.low hb (by omega)).set (by omega) v', kk.past (by omega) v', ?_, ?_, ?_, ?_⟩
  · rw [if_neg (by omega)]; exact owns_keep (owns_same h.u (fun g hg hv => h3 g hg (owns_apart h.u h.i (by decide) hv))) k (by omega)
  · rw [if_neg (by omega)]; exact owns_keep (owns_same h.c (fun g hg hv => h3 g hg (owns_apart h.c h.i (by decide) hv))) k (by omega)
  · rw [if_pos rfl, List.length_append, inC_1]; exact owns_keep h1 k (by omega)
  · rw [if_neg (by omega)]; exact owns_keep (owns_same h.l (fun g hg hv => h3 g hg (owns_apart h.l h.i (by decide) hv))) k (by omega)
/-- One more in a list: behind the append, and the store. -/
theorem PP.app_l {w' : World} {v' : Value} {u : IL} (h : PP w0 w R g2 g3 s f us cs is ls)
    (h1 : w'.ownsRow (g3 + 1) 3 1 v' (ls.length + 1) (liC ls ++ [.int .i64 u.2])) (h2 : ∀ B w0, Below B w0 w → B ≤ g3 + 1 → Below B w0 w') (h3 : ∀ gx, gx < w.heap.size → (f 7).ownBlock ≠ some gx → w'.heap[gx]? = w.heap[gx]?) :
    PP w0 (w'.setCell ⟨g3, 7, none⟩ v') R g2 g3 s (fun i => if i = 7 then v' else f i) us cs is (ls ++ [u]) := by
  obtain ⟨o1, o2, o3⟩ := h.o
  have hb : Below (g3 + 1) w w' := h2 _ _ (Below.refl _ _) (Nat.le_refl _)
  have hg3 := h.p.lt
  have k : Keeps w' (w'.setCell ⟨g3, 7, none⟩ v') (fun b => b = g3) := (Keeps.refl w' (fun b => b = g3)).setCell (S := fun b => b = g3) (j := 7) rfl v'
  have kk : Keeps w0 w' (fun b => b = R) := ⟨hb.os.trans h.k.os, hb.tape.trans h.k.tape, hb.output.trans h.k.output, Nat.le_trans h.k.size hb.size, fun b hb9 hn => (hb.block b (by omega)).trans (h.k.block b hb9 hn)⟩
  refine ⟨h.o, (h.rd.low hb (by omega)).keep k (by omega), (h.z.low hb (by omega)).keep k (by omega), (h.p.low hb (by omega)).set (by omega) v', kk.past (by omega) v', ?_, ?_, ?_, ?_⟩
  · rw [if_neg (by omega)]; exact owns_keep (owns_same h.u (fun g hg hv => h3 g hg (owns_apart h.u h.l (by decide) hv))) k (by omega)
  · rw [if_neg (by omega)]; exact owns_keep (owns_same h.c (fun g hg hv => h3 g hg (owns_apart h.c h.l (by decide) hv))) k (by omega)
  · rw [if_neg (by omega)]; exact owns_keep (owns_same h.i (fun g hg hv => h3 g hg (owns_apart h.i h.l (by decide) hv))) k (by omega)
  · rw [if_pos rfl, List.length_append, liC_1]; exact owns_keep h1 k (by omega)
end

end Go.Proofs.YtcpeabchaimkaaaDoor
