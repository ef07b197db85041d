import Derived.Test.YtplfgfdlcfdfdaaB1
import Derived.Test.YtplfgfdlcfdfdaaB2
import Derived.Test.YtplfgfdlcfdfdaaB3
import Derived.Test.YtplfgfdlcfdfdaaB4
namespace Go.Proofs.Ytplfgfdlcfdfdaa
open Go Go.RowKit
set_option linter.unusedVariables false

/-- A function of a chunk, as numbers. -/
structure PV where
  params : Int
  regs : Int
  line : Int
  dots : Bool
  nu : Nat
  u0 : Nat → Bool
  u1 : Nat → Int
  nc : Nat
  c0 : Nat → Int
  c1 : Nat → Int
  c2 : Nat → Int
  c3 : Nat → ByteArray
  ni : Nat
  i0 : Nat → Int
  i1 : Nat → Int
  i2 : Nat → Int
  i3 : Nat → Int
  nl : Nat
  l0 : Nat → Int

/-- Its four lists lie in memory. -/
structure PVA (w : World) (p : PV) (s4 s5 s6 s7 : Value) : Prop where
  u : UpsA w s4 p.nu p.u0 p.u1
  c : ConsA w s5 p.nc p.c0 p.c1 p.c2 p.c3
  i : InsA w s6 p.ni p.i0 p.i1 p.i2 p.i3
  l : IntsA w s7 p.nl p.l0
theorem PVA.low {w w' : World} {p : PV} {s4 s5 s6 s7 : Value} {B : Nat} (h : PVA w p s4 s5 s6 s7) (hb : Below B w w') (hB : w.heap.size ≤ B) : PVA w' p s4 s5 s6 s7 :=
  ⟨h.u.low hb hB, h.c.low hb hB, h.i.low hb hB, h.l.low hb hB⟩
structure PVO (w : World) (p : PV) (g4 g5 g6 g7 : Nat) : Prop where
  u : UpsO w g4 p.nu p.u0 p.u1
  c : ConsO w g5 p.nc p.c0 p.c1 p.c2 p.c3
  i : InsO w g6 p.ni p.i0 p.i1 p.i2 p.i3
  l : IntsO w g7 p.nl p.l0
/-- No list is too long. -/
def PV.fits (p : PV) (m : Nat) : Prop := p.nu ≤ m ∧ p.nc ≤ m ∧ p.ni ≤ m ∧ p.nl ≤ m ∧ ∀ k, k < p.nc → (p.c3 k).size ≤ m

def PV.agg (p : PV) (s4 s5 s6 s7 : Value) : Value := .agg #[.int .i64 p.params, .int .i64 p.regs, .int .i64 p.line, .bool p.dots, s4, s5, s6, s7]

set_option maxHeartbeats 800000 in
set_option maxRecDepth 100000 in
theorem szUpS_any (a : Option Addr) (n cap : Nat) (l : Int) (w : World) (h0 : 0 ≤ l) (h1 : l ≤ 1048576) (hn : n ≤ 9223372036854775807) :
    Calls Try.prog 43 #[.slice a n cap, .int .i64 l] w fun e w' => e = .returned (.int .i64 (if l < n then -1 else l - n)) ∧ w' = w := by
  by_cases h : l < n
  · rw [if_pos h]
    go_enter Try.func43, Try.ntmps43
    go_wp2
    go_ret
    exact ⟨rfl, rfl⟩
  · rw [if_neg h]
    go_enter Try.func43, Try.ntmps43
    go_wp2
    go_ret
    exact ⟨rfl, rfl⟩

set_option maxHeartbeats 800000 in
set_option maxRecDepth 100000 in
theorem szInstrS_any (a : Option Addr) (n cap : Nat) (l : Int) (w : World) (h0 : 0 ≤ l) (h1 : l ≤ 1048576) (hn : n ≤ 9223372036854775807) :
    Calls Try.prog 45 #[.slice a n cap, .int .i64 l] w fun e w' => e = .returned (.int .i64 (if l < n then -1 else l - n)) ∧ w' = w := by
  by_cases h : l < n
  · rw [if_pos h]
    go_enter Try.func45, Try.ntmps45
    go_wp2
    go_ret
    exact ⟨rfl, rfl⟩
  · rw [if_neg h]
    go_enter Try.func45, Try.ntmps45
    go_wp2
    go_ret
    exact ⟨rfl, rfl⟩

set_option maxHeartbeats 800000 in
set_option maxRecDepth 100000 in
theorem szIntS_any (a : Option Addr) (n cap : Nat) (l : Int) (w : World) (h0 : 0 ≤ l) (h1 : l ≤ 1048576) (hn : n ≤ 9223372036854775807) :
    Calls Try.prog 46 #[.slice a n cap, .int .i64 l] w fun e w' => e = .returned (.int .i64 (if l < n then -1 else l - n)) ∧ w' = w := by
  by_cases h : l < n
  · rw [if_pos h]
    go_enter Try.func46, Try.ntmps46
    go_wp2
    go_ret
    exact ⟨rfl, rfl⟩
  · rw [if_neg h]
    go_enter Try.func46, Try.ntmps46
    go_wp2
    go_ret
    exact ⟨rfl, rfl⟩

set_option maxHeartbeats 800000 in
set_option maxRecDepth 100000 in
theorem szConst_any (p0 p1 p2 : Int) (p3 : ByteArray) (l : Int) (w : World) (h0 : 0 ≤ l) (h1 : l ≤ 1048576) (hs : p3.size ≤ 9223372036854775807) :
    Calls Try.prog 66 #[.agg #[.int .i64 p0, .int .i64 p1, .int .u64 p2, .string p3], .int .i64 l] w fun e w' => e = .returned (.int .i64 (if l < p3.size then -1 else l - p3.size)) ∧ Below w.heap.size w w' := by
  by_cases h : l < p3.size
  · rw [if_pos h]
    go_enter Try.func66, Try.ntmps66
    go_wp2
    go_ret
    exact ⟨rfl, b_1 _ _⟩
  · rw [if_neg h]
    go_enter Try.func66, Try.ntmps66
    go_wp2
    go_ret
    exact ⟨rfl, b_1 _ _⟩

end Go.Proofs.Ytplfgfdlcfdfdaa
