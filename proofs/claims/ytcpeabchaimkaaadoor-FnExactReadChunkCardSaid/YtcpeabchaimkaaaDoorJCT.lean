import Derived.Test.YtcpeabchaimkaaaDoorCR
import Derived.Test.YtcpeabchaimkaaaDoorJBA
namespace Go.Proofs.YtcpeabchaimkaaaDoor
open Go Go.RowKit
set_option linter.unusedVariables false

/-- 's = append(s, x)' of one struct on a list that is the call's own, or nil. -/
theorem app_new {wr : World} {ops : Array Oper} {rest : List Oper} {o : Oper} {a : Act} {Q : Exit → Act → World → Prop} (hgd : o.guard = none) (s x : Operand) (TS T size bytes : Nat) (z : Value)
    (ho : o.op = .call { callee := .builtin .append, args := #[s, x], argTypes := #[TS, TS] }) (hU : Tryd.prog.underlying TS = some (.slice T)) (hI : (Tryd.prog.info? T).map (fun i => (i.zero, i.size, i.bytes)) = some (some z, size, bytes)) (hz : z.cells.size = size) (hsz : 0 < size)
    (base : Nat) (v : Value) (n : Nat) (xs cs : List Value) (hown : wr.ownsRow base T size v n xs) (hs : a.eval s = v) (hx : a.eval x = .slice (some ⟨wr.heap.size, 0, none⟩) 1 1) (hcs : cs.length = size) (h1 : ∀ u ∈ cs, u.oneCell' = true)
    (hlen : (n + 1) * bytes ≤ 140737488355328) (hb0 : 0 < bytes) (hbase : base ≤ wr.heap.size)
    (h : ∀ v' w', w'.ownsRow base T size v' (n + 1) (xs ++ cs) → v' ≠ .slice none 0 0 → (∀ B w0, Below B w0 wr → B ≤ base → Below B w0 w') → (∀ gx, gx < wr.heap.size → v.ownBlock ≠ some gx → w'.heap[gx]? = wr.heap[gx]?) → wpList Tryd.prog ops Q rest (a.put o.dst v') w') :
    wpList Tryd.prog ops Q (o :: rest) a (wr.alloc (.cells cs.toArray T)) := by
  obtain ⟨i0, hi, hz0, hz1, hz2⟩ := info_parts hI
  have hn : n + 1 ≤ 140737488355328 := Nat.le_trans (Nat.le_mul_of_pos_right _ hb0) hlen
  refine wpList_append_own _ hgd s x TS ho base T i0 z size bytes hU hi hz0 hz1 hz2 hz hsz v n xs hs (hown.alloc _) ⟨wr.heap.size, 0, none⟩ 1 1 cs hx (by omega)
    (fun j u hj => ?_) h1 (by unfold maxLen; omega) hlen (by simp; omega) ?_
  · rw [add_none', Nat.zero_add]
    obtain ⟨hl, rfl⟩ := List.getElem?_eq_some_iff.1 hj
    have := (RowF.mk' wr T cs.toArray).cell (j := j) (by simpa using hl)
    rw [this]
    simp [hl]
  · intro v' w' h1 h2 h3
    refine h v' w' h1 (fun hh => by have := (h3.1 hh).2; omega) (fun B w0 hb hB => (hb.alloc (by omega) _).grown h2 (by simp; omega) (fun q hq => ?_))
      (fun gx hgx hne => (h2.block gx (by simp; omega) (fun e => hne e.symm)).trans ((b_1 wr _).block gx hgx))
    have := (hown.lt q hq).1
    omega

end Go.Proofs.YtcpeabchaimkaaaDoor
namespace Go.Proofs.YtcpeabchaimkaaaDoor
open Go Go.RowKit
set_option linter.unusedVariables false

/-- A reader's state in memory, with what is known of its bytes. -/
def RdN (w : World) (R : Nat) (s : St) : Prop := RdS w R s.1 s.2 ∧ BytesL s.1 ∧ s.1.length ≤ 9223372036854775807
theorem rdD_len {n : Nat} {l : List Int} : (rdD n l).length ≤ l.length := by
  unfold rdD
  split
  · rw [List.length_drop]; omega
  · simp
theorem number_nm (R k : Nat) (sg : Bool) (s : St) (w : World) (hk : k ≤ 8) (h : RdN w R s) :
    Calls Tryd.prog 13 #[.pointer (some ⟨R, 0, none⟩), .int .i64 k, .bool sg] w fun e w' => e = .returned (.int .i64 (nm k sg s).1) ∧ Keeps w w' (fun b => b = R) ∧ RdN w' R (nm k sg s).2 := by
  refine (number_any R k sg s.1 s.2 w hk h.2.2 h.2.1 h.1).mono ?_
  rintro e w' ⟨rfl, h1, h2⟩
  exact ⟨rfl, h1, h2, h.2.1.rdD, Nat.le_trans rdD_len h.2.2⟩
theorem RdN.keep {w w' : World} {R : Nat} {s : St} {S : Nat → Prop} (h : RdN w R s) (k : Keeps w w' S) (hS : ∀ b, S b → R < b) : RdN w' R s := by
  obtain ⟨h1, h2, h3⟩ := h
  have hR : R < w.heap.size := by obtain ⟨v, f, hr, _⟩ := h1; exact hr.lt
  exact ⟨h1.low (k.below (B := R + 1) hR (fun b hb => hS b hb)) (Nat.lt_succ_self _), h2, h3⟩
theorem RdN.lt {w : World} {R : Nat} {s : St} (h : RdN w R s) : R < w.heap.size := by
  obtain ⟨⟨v, f, hr, _⟩, _⟩ := h
  exact hr.lt

theorem Keeps.past {w w' : World} {S : Nat → Prop} (h : Keeps w w' S) {g j : Nat} (hg : w.heap.size ≤ g) (x : Value) : Keeps w (w'.setCell ⟨g, j, none⟩ x) S := by
  have e : Below g w' (w'.setCell ⟨g, j, none⟩ x) := (Below.refl g w').setCell (Nat.le_refl _) x
  exact ⟨e.os.trans h.os, e.tape.trans h.tape, e.output.trans h.output, Nat.le_trans h.size e.size, fun b hb hn => (e.block b (by omega)).trans (h.block b hb hn)⟩
theorem owns_keep {w w' : World} {base e size n : Nat} {v : Value} {xs : List Value} {S : Nat → Prop} (h : w.ownsRow base e size v n xs) (k : Keeps w w' S) (hS : ∀ b, S b → b < base) : w'.ownsRow base e size v n xs := by
  obtain ⟨h1, h2⟩ := h
  rcases h2 with h2 | ⟨g, cap, cur, rfl, hBg, hh, hr⟩
  · exact ⟨h1, .inl h2⟩
  · have hg : g < w.heap.size := by
      rcases Nat.lt_or_ge g w.heap.size with c | c
      · exact c
      · rw [Array.getElem?_eq_none c] at hh; cases hh
    exact ⟨h1, .inr ⟨g, cap, cur, rfl, hBg, (k.block g hg (fun x => by have := hS g x; omega)).trans hh, hr⟩⟩

/-- A function that is being read: the reader in block R, the result's cells in g2, the function's own in g3, its lists of the call's own. -/
structure PS (w0 w : World) (R g2 g3 : Nat) (s : St) (f : Nat → Value) (nu : Nat) (us : List Value) (nc : Nat) (cs : List Value) (ni : Nat) (is : List Value) (nl : Nat) (ls : List Value) : Prop where
  o : R < w0.heap.size ∧ w0.heap.size ≤ g2 ∧ g2 < g3
  rd : RdN w R s
  z : RowF w 44 g2 8 (fun j => #[Value.int .i64 0, .int .i64 0, .int .i64 0, .bool false, nilS, nilS, nilS, nilS].getD j (.bool false))
  p : RowF w 44 g3 8 f
  k : Keeps w0 w (fun b => b = R)
  u : w.ownsRow (g3 + 1) 57 2 (f 4) nu us
  c : w.ownsRow (g3 + 1) 59 4 (f 5) nc cs
  i : w.ownsRow (g3 + 1) 61 4 (f 6) ni is
  l : w.ownsRow (g3 + 1) 3 1 (f 7) nl ls
theorem PS.num {w0 w : World} {R g2 g3 : Nat} {s : St} {f : Nat → Value} {nu nc ni nl : Nat} {us cs is ls : List Value} (h : PS w0 w R g2 g3 s f nu us nc cs ni is nl ls) (k : Nat) (sg : Bool) (hk : k ≤ 8) :
    Calls Tryd.prog 13 #[.pointer (some ⟨R, 0, none⟩), .int .i64 k, .bool sg] w fun e w' => e = .returned (.int .i64 (nm k sg s).1) ∧ PS w0 w' R g2 g3 (nm k sg s).2 f nu us nc cs ni is nl ls := by
  refine (number_nm R k sg s w hk h.rd).mono ?_
  rintro e w' ⟨rfl, h1, h2⟩
  obtain ⟨o1, o2, o3⟩ := h.o
  exact ⟨rfl, h.o, h2, h.z.keep h1 (by omega), h.p.keep h1 (by omega), h.k.trans h1, owns_keep h.u h1 (by omega), owns_keep h.c h1 (by omega), owns_keep h.i h1 (by omega), owns_keep h.l h1 (by omega)⟩
/-- One of its four plain cells is written. -/
theorem PS.set {w0 w : World} {R g2 g3 : Nat} {s : St} {f : Nat → Value} {nu nc ni nl : Nat} {us cs is ls : List Value} (h : PS w0 w R g2 g3 s f nu us nc cs ni is nl ls) {j : Nat} (hj : j < 4) (x : Value) :
    PS w0 (w.setCell ⟨g3, j, none⟩ x) R g2 g3 s (fun i => if i = j then x else f i) nu us nc cs ni is nl ls := by
  obtain ⟨o1, o2, o3⟩ := h.o
  have k : Keeps w (w.setCell ⟨g3, j, none⟩ x) (fun b => b = g3) := (Keeps.refl w (fun b => b = g3)).setCell (S := fun b => b = g3) (j := j) rfl x
  refine ⟨h.o, h.rd.keep k (by omega), h.z.keep k (by omega), h.p.set (by omega) x, h.k.past (by omega) x, ?_, ?_, ?_, ?_⟩
  · rw [if_neg (by omega)]; exact owns_keep h.u k (by omega)
  · rw [if_neg (by omega)]; exact owns_keep h.c k (by omega)
  · rw [if_neg (by omega)]; exact owns_keep h.i k (by omega)
  · rw [if_neg (by omega)]; exact owns_keep h.l k (by omega)
/-- A block is made beside it. -/
theorem PS.alloc {w0 w : World} {R g2 g3 : Nat} {s : St} {f : Nat → Value} {nu nc ni nl : Nat} {us cs is ls : List Value} (h : PS w0 w R g2 g3 s f nu us nc cs ni is nl ls) (o : Obj) : PS w0 (w.alloc o) R g2 g3 s f nu us nc cs ni is nl ls := by
  have k : Keeps w (w.alloc o) (fun _ => False) := Keeps.of (b_1 w o) (Nat.le_refl _) _
  have kR : Keeps w (w.alloc o) (fun b => b = R) := Keeps.of (b_1 w o) (Nat.le_refl _) _
  exact ⟨h.o, h.rd.keep k (fun b hb => hb.elim), h.z.keep k (fun x => x), h.p.keep k (fun x => x), h.k.trans kR, owns_keep h.u k (fun b hb => hb.elim), owns_keep h.c k (fun b hb => hb.elim), owns_keep h.i k (fun b hb => hb.elim), owns_keep h.l k (fun b hb => hb.elim)⟩

end Go.Proofs.YtcpeabchaimkaaaDoor
