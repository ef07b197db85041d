import Derived.Test.YtcpeabchaimkaaaDoorSP
import Derived.Test.YtcpeabchaimkaaaDoorSN
namespace Go.Proofs.YtcpeabchaimkaaaDoor
open Go Go.RowKit
set_option linter.unusedVariables false

/-- The blocks of a function's lists. -/
def FvB (y : FV) (b : Nat) : Prop := y.v4.ownBlock = some b ∨ y.v5.ownBlock = some b ∨ y.v6.ownBlock = some b ∨ y.v7.ownBlock = some b
/-- How the functions' lists lie: one function's below the next one's. -/
structure LayF (n : Nat) (Y : Nat → FV) (L : Nat → Nat) : Prop where
  up : ∀ i, i < n → L i ≤ L (i + 1)
  blk : ∀ i, i < n → ∀ b, FvB (Y i) b → L i ≤ b ∧ b < L (i + 1)
theorem LayF.mono {n : Nat} {Y : Nat → FV} {L : Nat → Nat} (h : LayF n Y L) {i j : Nat} (hij : i ≤ j) (hj : j ≤ n) : L i ≤ L j := by
  induction hij with
  | refl => exact Nat.le_refl _
  | @step m hm ih =>
    have o := h.up m hj
    have t := ih (Nat.le_of_lt hj)
    show L i ≤ L (m + 1)
    omega
theorem LayF.off {n : Nat} {Y : Nat → FV} {L : Nat → Nat} (h : LayF n Y L) {i j b : Nat} (hi : i < n) (hj : j < n) (hne : i ≠ j) (hb : FvB (Y i) b) : ¬ FvB (Y j) b := fun hc => by
  have h1 := h.blk i hi b hb
  have h2 := h.blk j hj b hc
  rcases Nat.lt_or_ge i j with c | c
  · have h3 : L (i + 1) ≤ L j := h.mono c (Nat.le_of_lt hj)
    omega
  · have h3 : L (j + 1) ≤ L i := h.mono (by omega) (Nat.le_of_lt hi)
    omega
theorem LayF.of {w : World} : ∀ {lo : Nat} {ys : List FV} {hi : Nat}, Rows w lo ys hi → ∃ L : Nat → Nat, L 0 = lo ∧ LayF ys.length (fun k => ys.getD k fv0) L ∧ ∀ i, i ≤ ys.length → lo ≤ L i ∧ L i ≤ hi
  | lo, [], hi, h => ⟨fun _ => lo, rfl, ⟨fun i hi => by simp at hi, fun i hi => by simp at hi⟩, fun i _ => ⟨Nat.le_refl _, h.1⟩⟩
  | lo, y :: ys, hi, ⟨mid, h1, h2⟩ => by
    obtain ⟨L, e0, hL, hs⟩ := LayF.of h2
    have hm := hs 0 (Nat.zero_le _)
    refine ⟨fun i => match i with | 0 => lo | i + 1 => L i, rfl, ⟨fun i hi => ?_, fun i hi b hb => ?_⟩, fun i hi => ?_⟩
    · cases i with
      | zero => show lo ≤ L 0; rw [e0]; exact h1.le
      | succ i => exact hL.up i (by simpa using hi)
    · cases i with
      | zero =>
        show lo ≤ b ∧ b < L 0
        rw [e0]
        rcases hb with hb | hb | hb | hb
        · exact ⟨(h1.u.lt b hb).1, h1.bu b hb⟩
        · exact ⟨(h1.c.lt b hb).1, h1.bc b hb⟩
        · exact ⟨(h1.i.lt b hb).1, h1.bi b hb⟩
        · exact ⟨(h1.l.lt b hb).1, h1.bl b hb⟩
      | succ i => exact hL.blk i (by simpa using hi) b hb
    · cases i with
      | zero => exact ⟨Nat.le_refl _, Nat.le_trans h1.le (by rw [← e0]; exact hm.2)⟩
      | succ i =>
        have := hs i (by simpa using hi)
        exact ⟨Nat.le_trans h1.le this.1, this.2⟩

/-- A function's lists, whatever they hold. -/
def PlF (w : World) (y : FV) : Prop := (∃ f, SlF w 57 2 y.v4 y.x.ups.length f) ∧ (∃ f, SlF w 59 4 y.v5 y.x.cons.length f) ∧ (∃ f, SlF w 61 4 y.v6 y.x.ins.length f) ∧ (∃ f, SlF w 3 1 y.v7 y.x.ins.length f)
/-- A function's lists, marked from k + 4 on. -/
def MkF (w : World) (y : FV) (k : Nat) : Prop := SlF w 57 2 y.v4 y.x.ups.length (mkUpS (k + 4)) ∧ SlF w 59 4 y.v5 y.x.cons.length (mkConstS (k + 4 + y.x.ups.length * 2)) ∧ SlF w 61 4 y.v6 y.x.ins.length (mkInstrS (k + 4 + y.x.ups.length * 2 + y.x.cons.length * 4)) ∧ SlF w 3 1 y.v7 y.x.ins.length (mkIntS (k + 4 + y.x.ups.length * 2 + y.x.cons.length * 4 + y.x.ins.length * 4))
theorem MkF.pl {w : World} {y : FV} {k : Nat} (h : MkF w y k) : PlF w y := ⟨⟨_, h.1⟩, ⟨_, h.2.1⟩, ⟨_, h.2.2.1⟩, ⟨_, h.2.2.2⟩⟩
theorem MkF.keep {w w' : World} {y : FV} {k : Nat} {S : Nat → Prop} (h : MkF w y k) (hk : Keeps w w' S) (hn : ∀ b, FvB y b → ¬ S b) : MkF w' y k :=
  ⟨h.1.keep hk (fun b hb => hn b (.inl hb)), h.2.1.keep hk (fun b hb => hn b (.inr (.inl hb))), h.2.2.1.keep hk (fun b hb => hn b (.inr (.inr (.inl hb)))), h.2.2.2.keep hk (fun b hb => hn b (.inr (.inr (.inr hb))))⟩
theorem PlF.keep {w w' : World} {y : FV} {S : Nat → Prop} (h : PlF w y) (hk : Keeps w w' S) (hn : ∀ b, FvB y b → ¬ S b) : PlF w' y := by
  obtain ⟨⟨f1, h1⟩, ⟨f2, h2⟩, ⟨f3, h3⟩, ⟨f4, h4⟩⟩ := h
  exact ⟨⟨f1, h1.keep hk (fun b hb => hn b (.inl hb))⟩, ⟨f2, h2.keep hk (fun b hb => hn b (.inr (.inl hb)))⟩, ⟨f3, h3.keep hk (fun b hb => hn b (.inr (.inr (.inl hb))))⟩, ⟨f4, h4.keep hk (fun b hb => hn b (.inr (.inr (.inr hb))))⟩⟩
theorem PlF.offG {w : World} {y : FV} {G N : Nat} {f : Nat → Value} (h : PlF w y) (hr : RowF w 44 G N f) {b : Nat} (hb : FvB y b) : b ≠ G := by
  obtain ⟨⟨f1, h1⟩, ⟨f2, h2⟩, ⟨f3, h3⟩, ⟨f4, h4⟩⟩ := h
  rcases hb with hb | hb | hb | hb
  · exact (h1.own hb).apart hr (by decide)
  · exact (h2.own hb).apart hr (by decide)
  · exact (h3.own hb).apart hr (by decide)
  · exact (h4.own hb).apart hr (by decide)
theorem PlF.of {w : World} {lo hi : Nat} {y : FV} (h : FnO w lo hi y) : PlF w y := ⟨SlF.of h.u, SlF.of h.c, SlF.of h.i, SlF.of h.l⟩

/-- How far a function's marks go. -/
def fvK (y : FV) : Nat := 4 + y.x.ups.length * 2 + y.x.cons.length * 4 + y.x.ins.length * 4 + y.x.ins.length
def kF (Y : Nat → FV) (k : Nat) : Nat → Nat
  | 0 => k
  | i + 1 => kF Y k i + fvK (Y i)
theorem pv_wt (y : FV) : y.x.ups.length + y.x.cons.length + y.x.ins.length + y.x.ins.length ≤ y.x.pv.weight := by
  show _ ≤ y.x.ups.length + y.x.cons.length + szs y.x.pv.c3 y.x.cons.length + y.x.ins.length + y.x.ins.length
  omega
theorem kF_le (Y : Nat → FV) (k : Nat) : ∀ i, kF Y k i ≤ k + 4 * i + 4 * wts (fun j => (Y j).x.pv) i
  | 0 => by simp [kF]
  | i + 1 => by
    have h1 := kF_le Y k i
    have h2 := pv_wt (Y i)
    have h3 := wts_1 (fun j => (Y j).x.pv) i
    simp only [kF, fvK]
    omega
theorem kF_ge (Y : Nat → FV) (k : Nat) : ∀ i, k ≤ kF Y k i
  | 0 => Nat.le_refl _
  | i + 1 => Nat.le_trans (kF_ge Y k i) (Nat.le_add_right _ _)

/-- The first i functions of n in block G are marked, from k on. -/
structure MkS (w : World) (G n : Nat) (Y : Nat → FV) (k i : Nat) : Prop where
  row : ∃ f, RowF w 44 G (n * 8) f ∧ (∀ j, j < n → f (j * 8 + 4) = (Y j).v4 ∧ f (j * 8 + 5) = (Y j).v5 ∧ f (j * 8 + 6) = (Y j).v6 ∧ f (j * 8 + 7) = (Y j).v7) ∧ (∀ j, j < i → f (j * 8) = .int .i64 (kF Y k j) ∧ f (j * 8 + 1) = .int .i64 ((kF Y k j : Int) + 1) ∧ f (j * 8 + 2) = .int .i64 ((kF Y k j : Int) + 1 + 1) ∧ f (j * 8 + 3) = .bool (((kF Y k j : Int) + 1 + 1 + 1) % 3 == 0))
  old : ∀ j, j < i → j < n → MkF w (Y j) (kF Y k j)
  new : ∀ j, i ≤ j → j < n → PlF w (Y j)
theorem MkS.low {w w' : World} {G n k i B : Nat} {Y : Nat → FV} (h : MkS w G n Y k i) (hb : Below B w w') (hB : w.heap.size ≤ B) : MkS w' G n Y k i := by
  have hk := Keeps.of hb hB (fun _ => False)
  obtain ⟨f, h1, h2⟩ := h.row
  exact ⟨⟨f, h1.keep hk (fun x => x), h2⟩, fun j hj hjn => (h.old j hj hjn).keep hk (fun _ _ x => x), fun j hj hjn => (h.new j hj hjn).keep hk (fun _ _ x => x)⟩

end Go.Proofs.YtcpeabchaimkaaaDoor
