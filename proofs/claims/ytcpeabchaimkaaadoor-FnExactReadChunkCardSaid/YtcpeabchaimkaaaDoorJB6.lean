import Derived.Test.YtcpeabchaimkaaaDoorJB0
import Derived.Test.YtcpeabchaimkaaaDoorB1
import Derived.Test.YtcpeabchaimkaaaDoorB2
import Derived.Test.YtcpeabchaimkaaaDoorB3
namespace Go.Proofs.YtcpeabchaimkaaaDoor
open Go Go.RowKit
set_option linter.unusedVariables false

def IntsA (w : World) (v : Value) (n : Nat) (x0 : Nat → Int) : Prop :=
  (n = 0 ∧ ∃ a cap, v = .slice a 0 cap) ∨ ∃ b o cap, v = .slice (some ⟨b, o, none⟩) n cap ∧ b < w.heap.size ∧ n ≤ cap ∧ ∀ i, i < n → w.cell? ⟨b, o + i, none⟩ = some (.int .i64 (x0 i))
theorem IntsA.low {w w' : World} {v : Value} {n B : Nat} {x0 : Nat → Int} (h : IntsA w v n x0) (hb : Below B w w') (hB : w.heap.size ≤ B) : IntsA w' v n x0 := by
  rcases h with h | ⟨b, o, cap, rfl, hbB, hcap, hc⟩
  · exact .inl h
  · refine .inr ⟨b, o, cap, rfl, Nat.lt_of_lt_of_le hbB hb.size, hcap, fun i hi => ?_⟩
    have hc := hc i hi
    exact (hb.cell (p := ⟨b, o + i, none⟩) (Nat.lt_of_lt_of_le hbB hB)).trans hc
theorem IntsA.val {w : World} {v : Value} {n : Nat} {x0 : Nat → Int} (h : IntsA w v n x0) : ∃ a cap, v = .slice a n cap := by
  rcases h with ⟨rfl, a, cap, rfl⟩ | ⟨b, o, cap, rfl, _⟩
  · exact ⟨a, cap, rfl⟩
  · exact ⟨_, cap, rfl⟩
def IntsO (w : World) (g n : Nat) (x0 : Nat → Int) : Prop := ∃ f, RowF w 3 g (n * 1) f ∧ ∀ i, i < n → f (i) = (.int .i64 (x0 i))
theorem IntsO.by {w : World} {g n : Nat} {x0 : Nat → Int} (h : IntsO w g n x0) : IntsA w (.slice (some ⟨g, 0, none⟩) n n) n x0 := by
  obtain ⟨f, h1, h2⟩ := h
  refine .inr ⟨g, 0, n, rfl, h1.lt, Nat.le_refl _, fun i hi => ?_⟩
  have h2 := h2 i hi
  rw [Nat.zero_add, h1.cell (j := i) (by omega), h2]
theorem IntsO.low {w w' : World} {g n B : Nat} {x0 : Nat → Int} (h : IntsO w g n x0) (hb : Below B w w') (hg : g < B) : IntsO w' g n x0 := by
  obtain ⟨f, h1, h2⟩ := h
  exact ⟨f, h1.low hb hg, h2⟩
theorem IntsO.other {w : World} {g g' j n : Nat} {x0 : Nat → Int} {x : Value} (h : IntsO w g n x0) (hn : g ≠ g') : IntsO (w.setCell ⟨g', j, none⟩ x) g n x0 := by
  obtain ⟨f, h1, h2⟩ := h
  exact ⟨f, h1.other hn, h2⟩
theorem IntsO.lt {w : World} {g n : Nat} {x0 : Nat → Int} (h : IntsO w g n x0) : g < w.heap.size := by
  obtain ⟨f, h1, h2⟩ := h
  exact h1.lt

theorem Tryd.info3 : (Tryd.prog.info? 3).map (fun i => (i.zero, i.size, i.bytes)) = some (some (.int .i64 0), 1, 8) := by kernel_rfl

theorem Ints_step {n i : Nat} {f : Nat → Value} {x0 : Nat → Int} (h : ∀ k, k < i → f (k) = (.int .i64 (x0 k))) : ∀ k, k < i + 1 → (fun j => if j = i then (.int .i64 (x0 i)) else f j) (k) = (.int .i64 (x0 k)) := by
  intro k hk
  by_cases e : k = i
  · subst e
    simp
  · have := h k (by omega)
    exact (if_neg (by omega)).trans this

set_option maxHeartbeats 800000 in
set_option maxRecDepth 100000 in
theorem eqIntS_any (v v' : Value) (n : Nat) (x0 : Nat → Int) (w : World) (hn : n ≤ 1048576) (h : IntsA w v n x0) (h' : IntsA w v' n x0) :
    Calls Tryd.prog 58 #[v, v'] w fun e w' => e = .returned (.bool true) ∧ Below w.heap.size w w' := by
  by_cases h0 : n = 0
  · subst h0
    obtain ⟨a, cap, rfl⟩ := h.val
    obtain ⟨a', cap', rfl⟩ := h'.val
    clear h h'
    go_enter Tryd.func58, Tryd.ntmps58
    go_wp2
    go_loopw [5] (fun iv wr => iv = .int .i64 0 ∧ wr = w) (fun _ _ => 0)
    case atStart => exact ⟨rfl, rfl⟩
    case round =>
      obtain ⟨rfl, rfl⟩ := hrel
      go_wp2
      go_ret
      exact ⟨rfl, Below.refl _ _⟩
  · rcases h with ⟨h9, _⟩ | ⟨b, o, cap, rfl, hb, hcap, hc⟩
    · exact absurd h9 h0
    rcases h' with ⟨h9, _⟩ | ⟨b', o', cap', rfl, hb', hcap', hc'⟩
    · exact absurd h9 h0
    have HC := hide hc
    have HC' := hide hc'
    clear hc hc'
    go_enter Tryd.func58, Tryd.ntmps58
    go_wp2
    go_loopw [5] (fun iv wr => ∃ i : Nat, i ≤ n ∧ iv = .int .i64 i ∧ Below w.heap.size w wr) (fun iv _ => match iv with | .int _ x => n - x.toNat | _ => 0)
    case atStart => exact ⟨0, by omega, rfl, Below.refl _ _⟩
    case round =>
      obtain ⟨i, hi9, rfl, hbw⟩ := hrel
      by_cases hin : i < n
      · have c0 := (hbw.cell (p := ⟨b, o + i, none⟩) (by assumption)).trans (HC.out i hin)
        have e0 := (hbw.cell (p := ⟨b', o' + i, none⟩) (by assumption)).trans (HC'.out i hin)
        go_wp2
        go_quiet (fail)
        go_wp2
        go_roundw
        case rel => exact ⟨i + 1, by omega, by simp, below_drw hbw _⟩
        case measure => simp; omega
      · obtain rfl : i = n := by omega
        go_wp2
        go_ret
        exact ⟨rfl, hbw⟩

end Go.Proofs.YtcpeabchaimkaaaDoor
namespace Go.Proofs.YtcpeabchaimkaaaDoor
open Go Go.RowKit
set_option linter.unusedVariables false

/-- A function of a chunk, as numbers. -/
structure PV where
  params : Int
  regs : Int
  line : Int
  dots : Bool
  nu : Nat
  u0 : Nat → Bool
  u1 : Nat → Int
  nc : Nat
  c0 : Nat → Int
  c1 : Nat → Int
  c2 : Nat → Int
  c3 : Nat → ByteArray
  ni : Nat
  i0 : Nat → Int
  i1 : Nat → Int
  i2 : Nat → Int
  i3 : Nat → Int
  nl : Nat
  l0 : Nat → Int

/-- Its four lists lie in memory. -/
structure PVA (w : World) (p : PV) (s4 s5 s6 s7 : Value) : Prop where
  u : UpsA w s4 p.nu p.u0 p.u1
  c : ConsA w s5 p.nc p.c0 p.c1 p.c2 p.c3
  i : InsA w s6 p.ni p.i0 p.i1 p.i2 p.i3
  l : IntsA w s7 p.nl p.l0
theorem PVA.low {w w' : World} {p : PV} {s4 s5 s6 s7 : Value} {B : Nat} (h : PVA w p s4 s5 s6 s7) (hb : Below B w w') (hB : w.heap.size ≤ B) : PVA w' p s4 s5 s6 s7 :=
  ⟨h.u.low hb hB, h.c.low hb hB, h.i.low hb hB, h.l.low hb hB⟩
structure PVO (w : World) (p : PV) (g4 g5 g6 g7 : Nat) : Prop where
  u : UpsO w g4 p.nu p.u0 p.u1
  c : ConsO w g5 p.nc p.c0 p.c1 p.c2 p.c3
  i : InsO w g6 p.ni p.i0 p.i1 p.i2 p.i3
  l : IntsO w g7 p.nl p.l0
/-- No list is too long. -/
def PV.fits (p : PV) (m : Nat) : Prop := p.nu ≤ m ∧ p.nc ≤ m ∧ p.ni ≤ m ∧ p.nl ≤ m ∧ ∀ k, k < p.nc → (p.c3 k).size ≤ m

def PV.agg (p : PV) (s4 s5 s6 s7 : Value) : Value := .agg #[.int .i64 p.params, .int .i64 p.regs, .int .i64 p.line, .bool p.dots, s4, s5, s6, s7]

end Go.Proofs.YtcpeabchaimkaaaDoor
namespace Go.Proofs.YtcpeabchaimkaaaDoor
open Go Go.RowKit
set_option linter.unusedVariables false

/-- What a measuring answers: it is too much, or it fits. -/
def SzR (l r : Int) (Q : Prop) : Prop := r = -1 ∨ (0 ≤ r ∧ r ≤ l ∧ Q)
def sumN (f : Nat → Nat) : Nat → Nat
  | 0 => 0
  | k + 1 => sumN f k + f k
theorem sumN_1 (f : Nat → Nat) (k : Nat) : sumN f (k + 1) = sumN f k + f k := rfl
def szs (x : Nat → ByteArray) (n : Nat) : Nat := sumN (fun k => (x k).size) n
theorem szs_0 (x : Nat → ByteArray) : szs x 0 = 0 := rfl
theorem szs_1 (x : Nat → ByteArray) (k : Nat) : szs x (k + 1) = szs x k + (x k).size := rfl

/-- What lies in the memory of an argument is short enough for Go. -/
def PV.weight (p : PV) : Nat := p.nu + p.nc + szs p.c3 p.nc + p.ni + p.nl
def PV.sane (p : PV) : Prop := p.fits 9223372036854775807

/-- A struct that came in lies in a block of its own. -/
def PC (w : World) (g : Nat) (p : PV) (s4 s5 s6 s7 : Value) : Prop :=
  g < w.heap.size ∧ w.cell? ⟨g, 0, none⟩ = some (.int .i64 p.params) ∧ w.cell? ⟨g, 1, none⟩ = some (.int .i64 p.regs) ∧ w.cell? ⟨g, 2, none⟩ = some (.int .i64 p.line) ∧ w.cell? ⟨g, 3, none⟩ = some (.bool p.dots) ∧
    w.cell? ⟨g, 4, none⟩ = some s4 ∧ w.cell? ⟨g, 5, none⟩ = some s5 ∧ w.cell? ⟨g, 6, none⟩ = some s6 ∧ w.cell? ⟨g, 7, none⟩ = some s7
theorem PC.mk (w : World) (T : Nat) (p : PV) (s4 s5 s6 s7 : Value) : PC (w.alloc (.cells #[.int .i64 p.params, .int .i64 p.regs, .int .i64 p.line, .bool p.dots, s4, s5, s6, s7] T)) w.heap.size p s4 s5 s6 s7 := by
  refine ⟨by simp, ?_, ?_, ?_, ?_, ?_, ?_, ?_, ?_⟩ <;> simp
theorem PC.low {w w' : World} {g B : Nat} {p : PV} {s4 s5 s6 s7 : Value} (h : PC w g p s4 s5 s6 s7) (hb : Below B w w') (hB : g < B) : PC w' g p s4 s5 s6 s7 := by
  obtain ⟨h, h0, h1, h2, h3, h4, h5, h6, h7⟩ := h
  exact ⟨Nat.lt_of_lt_of_le h hb.size, (hb.cell (p := ⟨g, 0, none⟩) hB).trans h0, (hb.cell (p := ⟨g, 1, none⟩) hB).trans h1, (hb.cell (p := ⟨g, 2, none⟩) hB).trans h2, (hb.cell (p := ⟨g, 3, none⟩) hB).trans h3,
    (hb.cell (p := ⟨g, 4, none⟩) hB).trans h4, (hb.cell (p := ⟨g, 5, none⟩) hB).trans h5, (hb.cell (p := ⟨g, 6, none⟩) hB).trans h6, (hb.cell (p := ⟨g, 7, none⟩) hB).trans h7⟩

theorem SzR.fst {l : Int} {n : Nat} (h : l < n) : SzR l (-1) (n ≤ l) := .inl rfl

end Go.Proofs.YtcpeabchaimkaaaDoor
