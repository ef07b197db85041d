import Derived.Test.YtplfgfdlcfdfdaaBL
import Derived.Deep.DeepCutAuto
namespace Go.Proofs.Ytplfgfdlcfdfdaa
open Go Go.RowKit
set_option linter.unusedVariables false

/-- The first of some things asked that does not hold tells its code. -/
def FB : List (Prop × Int) → Int → Prop
  | [], r => r = 0
  | (Q, c) :: l, r => (Q ∧ FB l r) ∨ (¬ Q ∧ r = c)
theorem FB.unique : ∀ {l : List (Prop × Int)} {r r' : Int}, FB l r → FB l r' → r = r'
  | [], _, _, h, h' => by rw [show _ = (0 : Int) from h, show _ = (0 : Int) from h']
  | (Q, c) :: l, r, r', h, h' => by
    rcases h with ⟨q, h⟩ | ⟨q, h⟩ <;> rcases h' with ⟨q', h'⟩ | ⟨q', h'⟩
    · exact FB.unique h h'
    · exact absurd q q'
    · exact absurd q' q
    · rw [h, h']

theorem getD_mem' {l : List Int} {k : Nat} (h : k < l.length) : l.getD k 0 ∈ l := by
  rw [List.getD_eq_getElem?_getD, List.getElem?_eq_getElem h]
  exact List.getElem_mem h
def regsAll (p : PV) (l : List Int) : Prop := ∀ r, r ∈ l → regI p r
def upOk (p : PV) (j : Nat) : Prop := p.i0 j = 7 ∨ p.i0 j = 8 → inI (p.i2 j) 0 ((p.nu : Int) - 1) = true
def protoOk (P : Nat → PV) (k : Nat) (p : PV) (j : Nat) : Prop := p.i0 j = 32 → inI (p.i2 j) 0 ((k : Int) - 1) = true ∧ upsI p (P (p.i2 j).toNat) (P (p.i2 j).toNat).nu
def endOk (p : PV) (j : Nat) : Prop := j + 1 = p.ni → p.i0 j = 30 ∨ p.i0 j = 29 ∨ p.i0 j = 25
def dotsOk (p : PV) (j : Nat) : Prop := p.i0 j = 31 → p.dots = true
/-- What is asked of an instruction, in its order. -/
def asks (P : Nat → PV) (k : Nat) (p : PV) (j : Nat) : List (Prop × Int) :=
  [(knownI (p.i0 j), 2), (regsAll p (regsL (p.i0 j) (p.i1 j) (p.i2 j) (p.i3 j)), 3), (constsI p (p.i0 j) (p.i1 j) (p.i2 j) (p.i3 j), 4), (upOk p j, 5), (protoOk P k p j, 6), (jumpI p j, 7), (openI p j, 8), (endOk p j, 9), (dotsOk p j, 10), (countsI p (p.i0 j) (p.i1 j) (p.i2 j) (p.i3 j), 11)]

/-- A call that tells an instruction's code. -/
def RetC (l : List (Prop × Int)) (w : World) (e : Ending) (w' : World) : Prop := ∃ c : Int, e = .returned (.int .i64 c) ∧ FB l c ∧ Below w.heap.size w w'

end Go.Proofs.Ytplfgfdlcfdfdaa
