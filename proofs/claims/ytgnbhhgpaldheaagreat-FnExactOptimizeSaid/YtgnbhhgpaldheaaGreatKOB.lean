import Derived.Test.YtgnbhhgpaldheaaGreatRows
import Derived.WalkKit
import Derived.ProofKit
import Derived.OpenShut
import Derived.WalkSpells
import Derived.Deep.QuietTactic
import Derived.BigQuiet
import Derived.OwnWalk
import Derived.Laws.OwnMore
import Derived.BigRegion
import Derived.Deep.RegionHeld3
namespace Go.Proofs.YtgnbhhgpaldheaaGreat
open Go Go.RowKit
set_option linter.unusedVariables false
theorem hide {p : Prop} (h : p) : Hid p := h
def ByA (w : World) (v : Value) (n : Nat) (f : Nat → Nat) : Prop :=
  (n = 0 ∧ ∃ a cap, v = .slice a 0 cap) ∨ ∃ b o cap, v = .slice (some ⟨b, o, none⟩) n cap ∧ b < w.heap.size ∧ n ≤ cap ∧ ∀ j, j < n → f j ≤ 255 ∧ w.cell? ⟨b, o + j, none⟩ = some (.int .u8 (f j))
theorem ByA.low {w w' : World} {v : Value} {n B : Nat} {f : Nat → Nat} (h : ByA w v n f) (hb : Below B w w') (hB : w.heap.size ≤ B) : ByA w' v n f := by
  rcases h with h | ⟨b, o, cap, rfl, hbB, hcap, hc⟩
  · exact .inl h
  · refine .inr ⟨b, o, cap, rfl, Nat.lt_of_lt_of_le hbB hb.size, hcap, fun j hj => ⟨(hc j hj).1, (hb.cell (p := ⟨b, o + j, none⟩) (Nat.lt_of_lt_of_le hbB hB)).trans (hc j hj).2⟩⟩
def pol : Nat := 3988292384
def cstep (r : Nat) : Nat := if r % 2 = 1 then (r / 2) ^^^ pol else r / 2
def csteps : Nat → Nat → Nat
  | 0, r => r
  | k + 1, r => cstep (csteps k r)
def crcN (f : Nat → Nat) : Nat → Nat
  | 0 => 4294967295
  | k + 1 => csteps 8 (crcN f k ^^^ f k)
def toTo (f : Nat → Nat) (n i : Nat) : List Value := (List.range n).map fun j => if j < i then .int .u8 (f j) else .int .u8 0
theorem toTo_get1 (f : Nat → Nat) {n j : Nat} (h : j < n) : (toTo f n n)[j]? = some (.int .u8 (f j)) := by
  simp [toTo, h]
def OwnB (w : World) (B : Nat) (v : Value) (n : Nat) (f : Nat → Nat) : Prop :=
  ∃ g, v = .slice (some ⟨g, 0, none⟩) n n ∧ B ≤ g ∧ g < w.heap.size ∧ (∀ j, j < n → f j ≤ 255) ∧ w.ownsRow B 5 1 v n (toTo f n n)
theorem owns_lt {w : World} {B e s g n cap : Nat} {xs : List Value} (h : w.ownsRow B e s (.slice (some ⟨g, 0, none⟩) n cap) n xs) : B ≤ g ∧ g < w.heap.size := by
  rcases h.2 with ⟨h', _⟩ | ⟨g', cap', cur, h', hb, hg, _⟩
  · simp at h'
  · simp only [Value.slice.injEq, Option.some.injEq, Addr.mk.injEq, and_true, true_and] at h'
    obtain ⟨rfl, rfl⟩ := h'
    refine ⟨hb, ?_⟩
    rcases Nat.lt_or_ge g w.heap.size with c | c
    · exact c
    · rw [Array.getElem?_eq_none c] at hg; cases hg
theorem OwnB.by {w : World} {B : Nat} {v : Value} {n : Nat} {f : Nat → Nat} (h : OwnB w B v n f) : ByA w v n f := by
  obtain ⟨g, rfl, h1, h2, h3, h4⟩ := h
  refine .inr ⟨g, 0, n, rfl, h2, Nat.le_refl _, fun j hj => ⟨h3 j hj, ?_⟩⟩
  rw [Nat.zero_add, h4.cellAt j (by omega), toTo_get1 f hj]
theorem below_drw {B : Nat} {a w : World} (h : Below B a w) (n : Nat) : Below B a (w.drewN n) := ⟨h.os, h.tape, h.output, h.size, h.block⟩
def RowF (w : World) (T g N : Nat) (f : Nat → Value) : Prop := ∃ cur : Array Value, w.heap[g]? = some (.cells cur T (0, 0)) ∧ N ≤ cur.size ∧ ∀ j, j < N → cur[j]? = some (f j)
theorem RowF.cell {w : World} {T g N : Nat} {f : Nat → Value} (h : RowF w T g N f) {j : Nat} (hj : j < N) : w.cell? ⟨g, j, none⟩ = some (f j) := by
  obtain ⟨cur, h1, h2, h3⟩ := h
  have := h3 j hj
  simp [World.cell?, h1, this]
theorem RowF.frz {w : World} {T g N : Nat} {f : Nat → Value} (h : RowF w T g N f) (j : Nat) : w.frozen? ⟨g, j, none⟩ = false := by
  obtain ⟨cur, h1, h2, h3⟩ := h
  simp [World.frozen?, h1]
theorem RowF.low {w w' : World} {T g N b : Nat} {f : Nat → Value} (h : RowF w T g N f) (hb : Below b w w') (hg : g < b) : RowF w' T g N f := by
  obtain ⟨cur, h1, h2, h3⟩ := h
  exact ⟨cur, (hb.block g hg).trans h1, h2, h3⟩
theorem RowF.lt {w : World} {T g N : Nat} {f : Nat → Value} (h : RowF w T g N f) : g < w.heap.size := by
  obtain ⟨cur, h1, h2, h3⟩ := h
  rcases Nat.lt_or_ge g w.heap.size with c | c
  · exact c
  · rw [Array.getElem?_eq_none c] at h1; cases h1
theorem RowF.set {w : World} {T g N : Nat} {f : Nat → Value} (h : RowF w T g N f) {j : Nat} (hj : j < N) (x : Value) : RowF (w.setCell ⟨g, j, none⟩ x) T g N (fun i => if i = j then x else f i) := by
  obtain ⟨cur, h1, h2, h3⟩ := h
  have e := heap_setCell_same w g j _ _ x h1
  refine ⟨_, e, by simpa using h2, fun i hi => ?_⟩
  by_cases hij : i = j
  · subst hij
    have h9 : i < cur.size := by omega
    simp [h9]
  · have := h3 i hi
    simp [hij, Ne.symm hij, this]
theorem RowF.congr {w : World} {T g N : Nat} {f f' : Nat → Value} (h : RowF w T g N f) (hf : ∀ j, j < N → f j = f' j) : RowF w T g N f' := by
  obtain ⟨cur, h1, h2, h3⟩ := h
  exact ⟨cur, h1, h2, fun j hj => by rw [h3 j hj, hf j hj]⟩
theorem rowF_owns {w : World} {B T s g n cap : Nat} {xs : List Value} (h : w.ownsRow B T s (.slice (some ⟨g, 0, none⟩) n cap) n xs) : RowF w T g (n * s) (fun j => xs.getD j (.bool false)) := by
  rcases h.2 with ⟨h', _⟩ | ⟨g', cap', cur, h', hb, hg, hnc, hcm, hcs, htake⟩
  · simp at h'
  · simp only [Value.slice.injEq, Option.some.injEq, Addr.mk.injEq, and_true, true_and] at h'
    obtain ⟨rfl, rfl⟩ := h'
    refine ⟨cur, hg, by rw [hcs]; exact Nat.mul_le_mul_right _ hnc, fun j hj => ?_⟩
    have hc : j < cur.size := by rw [hcs]; exact Nat.lt_of_lt_of_le hj (Nat.mul_le_mul_right _ hnc)
    show cur[j]? = some (xs.getD j (.bool false))
    rw [← htake, List.getD_eq_getElem?_getD, List.getElem?_take, if_pos hj]
    simp [hc]
theorem RowF.other {w : World} {T g g' N j : Nat} {f : Nat → Value} {x : Value} (h : RowF w T g N f) (hn : g ≠ g') : RowF (w.setCell ⟨g', j, none⟩ x) T g N f := by
  obtain ⟨cur, h1, h2, h3⟩ := h
  exact ⟨cur, (heap_setCell_other w ⟨g', j, none⟩ g x (fun e => hn e)).trans h1, h2, h3⟩
theorem RowF.mk' (w : World) (T : Nat) (arr : Array Value) : RowF (w.alloc (.cells arr T)) T w.heap.size arr.size (fun j => arr.getD j (.bool false)) := by
  refine ⟨arr, heap_alloc_new w _, Nat.le_refl _, fun j hj => ?_⟩
  simp [hj]
theorem b_1 (w : World) (o : Obj) : Below w.heap.size w (w.alloc o) := (Below.refl _ _).alloc (Nat.le_refl _) _
theorem b_2 (w : World) (o o' : Obj) : Below w.heap.size w ((w.alloc o).alloc o') := (b_1 w o).alloc (by simp) _
theorem b_3 (w : World) (o o' o2 : Obj) : Below w.heap.size w (((w.alloc o).alloc o').alloc o2) := (b_2 w o o').alloc (by simp; omega) _
end Go.Proofs.YtgnbhhgpaldheaaGreat
namespace Go.Proofs.YtgnbhhgpaldheaaGreat
set_option linter.unusedVariables false
structure Cf where
  n : Nat
  op : Nat → Int
  a : Nat → Int
  b : Nat → Nat
  lf : Nat → Bool
  mv : Nat → Bool
def jmp (o : Int) : Bool := o == 25 || o == 26 || o == 27 || o == 35 || o == 36 || o == 38
def chs (o : Int) : Bool := o == 26 || o == 27
def awy (o : Int) : Bool := o == 25 || o == 29 || o == 30
theorem chs_jmp {o : Int} (h : chs o = true) : jmp o = true := by
  simp [chs] at h
  rcases h with rfl | rfl <;> rfl
def Cf.nf (c : Cf) (p : Nat) : Nat := if h : p < c.n then (if c.lf p then p else c.nf (p + 1)) else c.n
  termination_by c.n - p
def Cf.nx (c : Cf) (p : Nat) : Nat := c.nf (p + 1)
def Cf.L (c : Cf) (p : Nat) : Prop := p < c.n ∧ c.lf p = true
theorem Cf.nf_out (c : Cf) : ∀ p, (c.L (c.nf p) ∧ p ≤ c.nf p ∨ c.nf p = c.n) ∧ ∀ q, p ≤ q → q < c.nf p → ¬ c.L q := by
  intro p
  rw [Cf.nf]
  split
  · rename_i h
    split
    · rename_i hl
      exact ⟨.inl ⟨⟨h, hl⟩, Nat.le_refl _⟩, fun q h1 h2 => by omega⟩
    · rename_i hl
      obtain ⟨h1, h2⟩ := Cf.nf_out c (p + 1)
      refine ⟨?_, fun q hq hlt hL => ?_⟩
      · rcases h1 with ⟨h3, h4⟩ | h3
        · exact .inl ⟨h3, by omega⟩
        · exact .inr h3
      · by_cases e : q = p
        · subst e; exact hl hL.2
        · exact h2 q (by omega) hlt hL
  · rename_i h
    exact ⟨.inr rfl, fun q h1 h2 => by omega⟩
  termination_by p => c.n - p
theorem Cf.nf_self {c : Cf} {p : Nat} (h : c.L p) : c.nf p = p := by rw [Cf.nf, dif_pos h.1, if_pos h.2]
theorem Cf.nf_le (c : Cf) (p : Nat) : c.nf p ≤ c.n := by
  rcases (c.nf_out p).1 with h | h
  · exact Nat.le_of_lt h.1.1
  · omega
theorem Cf.nf_L {c : Cf} {p : Nat} (h : c.nf p < c.n) : c.L (c.nf p) ∧ p ≤ c.nf p := by
  rcases (c.nf_out p).1 with h1 | h1
  · exact h1
  · omega
theorem Cf.nf_ge {c : Cf} {p : Nat} (h : p ≤ c.n) : p ≤ c.nf p := by
  rcases (c.nf_out p).1 with h1 | h1
  · exact h1.2
  · omega
theorem Cf.nf_eq {c : Cf} {p q : Nat} (h1 : c.L q ∧ p ≤ q ∨ q = c.n) (h2 : ∀ r, p ≤ r → r < q → ¬ c.L r) (hp : p ≤ c.n) : c.nf p = q := by
  obtain ⟨k1, k2⟩ := c.nf_out p
  rcases Nat.lt_trichotomy (c.nf p) q with d | d | d
  · rcases k1 with ⟨k1, k3⟩ | k1
    · exact (h2 _ k3 d k1).elim
    · rcases h1 with h1 | h1
      · have := h1.1.1; omega
      · omega
  · exact d
  · rcases h1 with ⟨h1, h3⟩ | h1
    · exact (k2 q h3 d h1).elim
    · have := c.nf_le p; omega
theorem Cf.nf_past {c : Cf} {p : Nat} (h : c.n ≤ p) : c.nf p = c.n := by rw [Cf.nf, dif_neg (by omega)]
theorem Cf.nf_congr {c d : Cf} (hn : d.n = c.n) (hl : ∀ p, p < c.n → d.lf p = c.lf p) (p : Nat) : d.nf p = c.nf p := by
  have hL : ∀ q, d.L q ↔ c.L q := fun q => by
    unfold Cf.L
    rw [hn]
    exact ⟨fun h => ⟨h.1, by rw [← hl q h.1]; exact h.2⟩, fun h => ⟨h.1, by rw [hl q h.1]; exact h.2⟩⟩
  rcases Nat.lt_or_ge c.n p with d' | d'
  · rw [Cf.nf_past (by omega), Cf.nf_past (by omega), hn]
  · obtain ⟨k1, k2⟩ := c.nf_out p
    refine Cf.nf_eq ?_ (fun r h1 h2 h3 => k2 r h1 h2 ((hL r).1 h3)) (by omega)
    rcases k1 with k1 | k1
    · exact .inl ⟨(hL _).2 k1.1, k1.2⟩
    · exact .inr (by rw [hn]; exact k1)
def Cf.snd (c : Cf) (o x : Int) (t : Nat) : Option Nat :=
  if c.op t = 25 then some (c.b t)
  else if chs o = true ∧ chs (c.op t) = true ∧ x = c.a t then (if o = c.op t then some (c.b t) else some (c.nx t))
  else none
def Cf.fol (c : Cf) (o x : Int) : Nat → Nat → Nat
  | 0, t => t
  | f + 1, t => match c.snd o x t with
    | none => t
    | some t' => c.fol o x f t'
structure Cf.Ok (c : Cf) : Prop where
  j : ∀ p, c.L p → jmp (c.op p) = true → c.L (c.b p) ∧ (c.b p ≤ p → c.op (c.b p) = 1)
  f : ∀ p, c.L p → awy (c.op p) = false → c.nx p < c.n
  e : c.nf 0 < c.n
  m : ∀ p, c.mv p = true → c.op p = 2
theorem Cf.Ok.nx {c : Cf} (h : c.Ok) {p : Nat} (hp : c.L p) (ha : awy (c.op p) = false) : c.L (c.nx p) ∧ p < c.nx p := by
  have := Cf.nf_L (h.f p hp ha)
  exact ⟨this.1, this.2⟩
theorem snd_tick {c : Cf} {o x : Int} {t : Nat} (h : c.op t = 1) : c.snd o x t = none := by
  unfold Cf.snd
  rw [if_neg (by rw [h]; decide), if_neg (fun k => by rw [h] at k; exact absurd k.2.1 (by decide))]
theorem Cf.Ok.snd {c : Cf} (h : c.Ok) {o x : Int} {t t' : Nat} (ht : c.L t) (e : c.snd o x t = some t') : c.L t' ∧ (t < t' ∨ c.op t' = 1) := by
  unfold Cf.snd at e
  split at e
  · rename_i k
    cases e
    obtain ⟨h1, h2⟩ := h.j t ht (by rw [k]; rfl)
    exact ⟨h1, by rcases Nat.lt_or_ge t (c.b t) with d | d; exact .inl d; exact .inr (h2 d)⟩
  · split at e
    · rename_i k
      split at e
      · cases e
        obtain ⟨h1, h2⟩ := h.j t ht (chs_jmp k.2.1)
        exact ⟨h1, by rcases Nat.lt_or_ge t (c.b t) with d | d; exact .inl d; exact .inr (h2 d)⟩
      · cases e
        have ha : awy (c.op t) = false := by
          have := k.2.1
          simp [chs] at this
          rcases this with q | q <;> rw [q] <;> rfl
        have := h.nx ht ha
        exact ⟨this.1, .inl this.2⟩
    · cases e
theorem Cf.Ok.fol {c : Cf} (h : c.Ok) {o x : Int} : ∀ (f t : Nat), c.L t → c.n - t + 1 ≤ f → c.L (c.fol o x f t) ∧ c.snd o x (c.fol o x f t) = none
  | 0, t, ht, hf => by omega
  | f + 1, t, ht, hf => by
    unfold Cf.fol
    split
    · rename_i e; exact ⟨ht, e⟩
    · rename_i t' e
      obtain ⟨h1, h2⟩ := h.snd ht e
      have := ht.1
      rcases h2 with h2 | h2
      · exact h.fol f t' h1 (by omega)
      · have e2 : c.snd o x t' = none := snd_tick h2
        have : c.fol o x f t' = t' := by
          cases f with
          | zero => rfl
          | succ f => unfold Cf.fol; rw [e2]
        rw [this]
        exact ⟨h1, e2⟩
theorem fol_end {c : Cf} {o x : Int} {t : Nat} (h : c.snd o x t = none) : ∀ f, c.fol o x f t = t
  | 0 => rfl
  | f + 1 => by unfold Cf.fol; rw [h]
def Cf.last (c : Cf) (p : Nat) : Nat := c.fol (c.op p) (c.a p) (c.n + 1) (c.b p)
def Cf.aim (c : Cf) (p : Nat) : Cf := { c with b := fun q => if q = p then c.last p else c.b q }
theorem fol_more {c : Cf} (h : c.Ok) {o x : Int} {t : Nat} (ht : c.L t) {f : Nat} (hf : c.n - t + 1 ≤ f) : c.fol o x f t = c.fol o x (c.n + 1) t := by
  have key : ∀ (f g t : Nat), c.L t → c.n - t + 1 ≤ f → c.n - t + 1 ≤ g → c.fol o x f t = c.fol o x g t := by
    intro f
    induction f with
    | zero => intro g t ht h1 h2; omega
    | succ f ih =>
      intro g t ht h1 h2
      cases g with
      | zero => omega
      | succ g =>
        unfold Cf.fol
        split
        · rfl
        · rename_i t' e
          obtain ⟨k1, k2⟩ := h.snd ht e
          have := ht.1
          rcases k2 with k2 | k2
          · exact ih g t' k1 (by omega) (by omega)
          · rw [fol_end (snd_tick k2), fol_end (snd_tick k2)]
  exact key f (c.n + 1) t ht hf (by omega)
theorem fol_step {c : Cf} (h : c.Ok) {o x : Int} {t t' : Nat} (ht : c.L t) (e : c.snd o x t = some t') : c.fol o x (c.n + 1) t = c.fol o x (c.n + 1) t' := by
  obtain ⟨k1, k2⟩ := h.snd ht e
  show (match c.snd o x t with | none => t | some t' => c.fol o x c.n t') = _
  rw [e]
  have := ht.1
  rcases k2 with k2 | k2
  · exact fol_more h k1 (by omega)
  · show c.fol o x c.n t' = _
    rw [fol_end (snd_tick k2), fol_end (snd_tick k2)]
theorem Cf.Ok.last {c : Cf} (h : c.Ok) {p : Nat} (hp : c.L p) (hj : jmp (c.op p) = true) : c.L (c.last p) ∧ c.snd (c.op p) (c.a p) (c.last p) = none :=
  h.fol _ _ (h.j p hp hj).1 (by omega)
theorem snd_aim (c : Cf) (p : Nat) (o x : Int) (t : Nat) : ((c.aim p).snd o x t).isNone = (c.snd o x t).isNone := by
  unfold Cf.snd
  show Option.isNone (if c.op t = 25 then some _ else if chs o = true ∧ chs (c.op t) = true ∧ x = c.a t then (if o = c.op t then some _ else some _) else none) = _
  split
  · rfl
  · split
    · split <;> rfl
    · rfl
theorem fol_up {c : Cf} (h : c.Ok) {o x : Int} : ∀ (f t : Nat), c.L t → t ≤ c.fol o x f t ∨ c.op (c.fol o x f t) = 1
  | 0, t, _ => .inl (Nat.le_refl _)
  | f + 1, t, ht => by
    unfold Cf.fol
    split
    · exact .inl (Nat.le_refl _)
    · rename_i t' e
      obtain ⟨h1, h2⟩ := h.snd ht e
      rcases h2 with h2 | h2
      · rcases fol_up h (o := o) (x := x) f t' h1 with k | k
        · exact .inl (by omega)
        · exact .inr k
      · rw [fol_end (snd_tick h2)]
        exact .inr h2
def Cf.St (c : Cf) (p : Nat) : Prop := c.snd (c.op p) (c.a p) (c.b p) = none
def Cf.jl (c : Cf) (p : Nat) : Bool := c.lf p && jmp (c.op p)
theorem Cf.jl_L {c : Cf} {p : Nat} (hp : p < c.n) (h : c.jl p = true) : c.L p ∧ jmp (c.op p) = true := by
  simp [Cf.jl] at h
  exact ⟨⟨hp, h.1⟩, h.2⟩
theorem aim_nf (c : Cf) (p q : Nat) : (c.aim p).nf q = c.nf q := Cf.nf_congr (c := c) (d := c.aim p) rfl (fun _ _ => rfl) q
theorem Cf.Ok.aim {c : Cf} (h : c.Ok) {p : Nat} (hp : c.L p) (hj : jmp (c.op p) = true) : (c.aim p).Ok := by
  obtain ⟨l1, l2⟩ := h.last hp hj
  obtain ⟨j1, j2⟩ := h.j p hp hj
  refine ⟨fun q hq hjq => ?_, fun q hq ha => ?_, ?_, h.m⟩
  · show c.L (if q = p then c.last p else c.b q) ∧ ((if q = p then c.last p else c.b q) ≤ q → c.op (if q = p then c.last p else c.b q) = 1)
    split
    · rename_i e
      subst e
      refine ⟨l1, fun hle => ?_⟩
      rcases Nat.lt_or_ge q (c.b q) with d | d
      · rcases fol_up h (o := c.op q) (x := c.a q) (c.n + 1) (c.b q) j1 with k | k
        · exact absurd (show c.b q ≤ c.last q from k) (by omega)
        · exact k
      · have : c.last q = c.b q := fol_end (snd_tick (j2 d)) _
        rw [this]; exact j2 d
    · exact h.j q hq hjq
  · show (c.aim p).nf (q + 1) < c.n
    rw [aim_nf]
    exact h.f q hq ha
  · show (c.aim p).nf 0 < c.n
    rw [aim_nf]
    exact h.e
theorem St_none {c : Cf} {p : Nat} : c.St p ↔ (c.snd (c.op p) (c.a p) (c.b p)).isNone = true := by
  unfold Cf.St
  cases c.snd (c.op p) (c.a p) (c.b p) <;> simp
theorem aim_St {c : Cf} (h : c.Ok) {p q : Nat} (hp : c.L p) (hj : jmp (c.op p) = true) : (c.aim p).St q ↔ q = p ∨ c.St q := by
  rw [St_none, St_none]
  show ((c.aim p).snd (c.op q) (c.a q) (if q = p then c.last p else c.b q)).isNone = true ↔ _
  rw [snd_aim]
  split
  · rename_i e
    subst e
    rw [(h.last hp hj).2]
    simp
  · rename_i e
    simp [e]
theorem aim_same {c : Cf} {p : Nat} (h : c.St p) : c.aim p = c := by
  have : c.last p = c.b p := fol_end h _
  unfold Cf.aim
  rw [this]
  have : (fun q => if q = p then c.b p else c.b q) = c.b := by
    funext q
    split
    · rename_i e; rw [e]
    · rfl
  rw [this]
def Cf.thr1 (c : Cf) (p : Nat) : Cf := if c.jl p then c.aim p else c
def Cf.thr (c : Cf) (l : List Nat) : Cf := l.foldl Cf.thr1 c
structure Sb (c d : Cf) : Prop where
  n : d.n = c.n
  op : d.op = c.op
  a : d.a = c.a
  lf : d.lf = c.lf
  mv : d.mv = c.mv
theorem Sb.refl (c : Cf) : Sb c c := ⟨rfl, rfl, rfl, rfl, rfl⟩
theorem Sb.trans {c d e : Cf} (x : Sb c d) (y : Sb d e) : Sb c e := ⟨y.n.trans x.n, y.op.trans x.op, y.a.trans x.a, y.lf.trans x.lf, y.mv.trans x.mv⟩
theorem Sb.thr1 (c : Cf) (p : Nat) : Sb c (c.thr1 p) := by
  unfold Cf.thr1
  split
  · exact ⟨rfl, rfl, rfl, rfl, rfl⟩
  · exact Sb.refl c
theorem Sb.thr : ∀ (l : List Nat) (c : Cf), Sb c (c.thr l)
  | [], c => Sb.refl c
  | p :: l, c => (Sb.thr1 c p).trans (Sb.thr l _)
theorem Sb.jl {c d : Cf} (x : Sb c d) (p : Nat) : d.jl p = c.jl p := by unfold Cf.jl; rw [x.lf, x.op]
theorem Cf.Ok.thr1 {c : Cf} (h : c.Ok) {p : Nat} (hp : p < c.n) : (c.thr1 p).Ok := by
  unfold Cf.thr1
  split
  · rename_i k
    obtain ⟨h1, h2⟩ := Cf.jl_L hp k
    exact h.aim h1 h2
  · exact h
theorem thr1_St {c : Cf} (h : c.Ok) {p q : Nat} (hp : p < c.n) (hs : c.St q) : (c.thr1 p).St q := by
  unfold Cf.thr1
  split
  · rename_i k
    obtain ⟨h1, h2⟩ := Cf.jl_L hp k
    exact (aim_St h h1 h2).2 (.inr hs)
  · exact hs
theorem Cf.Ok.thr : ∀ (l : List Nat) (c : Cf), c.Ok → (∀ p ∈ l, p < c.n) → (c.thr l).Ok ∧ (∀ q, c.St q → (c.thr l).St q) ∧ ∀ p ∈ l, c.jl p = true → (c.thr l).St p
  | [], c, h, _ => ⟨h, fun _ x => x, fun p hp => by simp at hp⟩
  | p :: l, c, h, hl => by
    have hp := hl p (List.mem_cons_self)
    have hb := Sb.thr1 c p
    obtain ⟨h1, h2, h3⟩ := Cf.Ok.thr l (c.thr1 p) (h.thr1 hp) (fun q hq => by rw [hb.n]; exact hl q (List.mem_cons_of_mem _ hq))
    refine ⟨h1, fun q hq => h2 q (thr1_St h hp hq), fun q hq hj => ?_⟩
    rcases List.mem_cons.1 hq with e | e
    · subst e
      refine h2 q ?_
      unfold Cf.thr1
      rw [if_pos hj]
      obtain ⟨k1, k2⟩ := Cf.jl_L hp hj
      exact (aim_St h k1 k2).2 (.inl rfl)
    · exact h3 q e (by rw [hb.jl]; exact hj)
theorem thr_filter (ls : Nat → Bool) : ∀ (l : List Nat) (c : Cf), c.Ok → (∀ p ∈ l, p < c.n) → (∀ p ∈ l, c.jl p = true → ls p = false → c.St p) → c.thr l = c.thr (l.filter ls)
  | [], c, h, _, _ => rfl
  | p :: l, c, h, hl, hs => by
    have hp := hl p (List.mem_cons_self)
    have hb := Sb.thr1 c p
    have hl' : ∀ q ∈ l, q < (c.thr1 p).n := fun q hq => by rw [hb.n]; exact hl q (List.mem_cons_of_mem _ hq)
    have ih := thr_filter ls l (c.thr1 p) (h.thr1 hp) hl' (fun q hq hj k => thr1_St h hp (hs q (List.mem_cons_of_mem _ hq) (by rw [← hb.jl]; exact hj) k))
    show (c.thr1 p).thr l = _
    rw [ih]
    cases e : ls p with
    | true => rw [List.filter_cons_of_pos e]; rfl
    | false =>
      rw [List.filter_cons_of_neg (by rw [e]; decide)]
      have : c.thr1 p = c := by
        unfold Cf.thr1
        split
        · rename_i k; exact aim_same (hs p (List.mem_cons_self) k e)
        · rfl
      rw [this]
end Go.Proofs.YtgnbhhgpaldheaaGreat
