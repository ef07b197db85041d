import Derived.Test.YtgnbhhgpaldheaaGreatKD17
import Derived.Test.YtgnbhhgpaldheaaGreatKV3
import Derived.Lib.QuietBelow
import Derived.RangeFuncNested
import Derived.RangeFuncBound
import Derived.RangeFuncCalls
import Derived.RangeFuncLeaves
import Derived.Shelf.Abstract
import Derived.Shelf.RegionOpen
import Derived.WalkKit
import Derived.OwnWalkIn
import Derived.TacticsInMore
import Derived.LoopNIn
import Derived.LoopIn
import Derived.Test.YtgnbhhgpaldheaaGreatKEG1
namespace Go.Proofs.YtgnbhhgpaldheaaGreat
open Go Go.RowKit
set_option linter.unusedVariables false
theorem canJump_any (o : Int) (w : World) : Calls Tryz.prog 88 #[.int .i64 o] w fun e w' => e = .returned (.bool (jmp o)) ∧ w' = w := by
  go_enter Tryz.func88, Tryz.ntmps88
  go_wp2
  all_goals go_ret
  all_goals refine ⟨?_, rfl⟩
  all_goals (simp_all [jmp])
def isCh (o : Int) : Bool := o == 26 || o == 27
def idle1 (o a b be : Int) : Bool := if o = 2 then a == b else if o = 25 ∨ o = 26 ∨ o = 27 then b == be else false
set_option maxHeartbeats 1600000 in
theorem nothing_any (g q : Nat) (o a b be : Int) (w : World) (h0 : w.cell? ⟨g, q, none⟩ = some (.int .i64 o)) (h1 : w.cell? ⟨g, q + 1, none⟩ = some (.int .i64 a)) (h2 : w.cell? ⟨g, q + 2, none⟩ = some (.int .i64 b)) (h6 : w.cell? ⟨g, q + 6, none⟩ = some (.int .i64 be)) :
    Calls Tryz.prog 94 #[.pointer (some ⟨g, q, none⟩)] w fun e w' => e = .returned (.bool (idle1 o a b be)) ∧ Below w.heap.size w w' := by
  go_enter Tryz.func94, Tryz.ntmps94
  by_cases c2 : o = 2
  · subst c2
    go_wp2_with fail
    go_quiet (fail)
    go_wp2_with fail
    go_ret
    exact ⟨by simp [idle1], below_drw (Below.refl _ _) _⟩
  · by_cases c5 : o = 25
    · subst c5
      go_wp2_with fail
      go_quiet (fail)
      go_wp2_with fail
      go_ret
      exact ⟨by simp [idle1], below_drw (Below.refl _ _) _⟩
    · by_cases c6 : o = 26
      · subst c6
        go_wp2_with fail
        go_quiet (fail)
        go_wp2_with fail
        go_ret
        exact ⟨by simp [idle1], below_drw (Below.refl _ _) _⟩
      · by_cases c7 : o = 27
        · subst c7
          go_wp2_with fail
          go_quiet (fail)
          go_wp2_with fail
          go_ret
          exact ⟨by simp [idle1], below_drw (Below.refl _ _) _⟩
        · have e2 : (o == 2) = false := by simp [c2]
          have e5 : (o == 25) = false := by simp [c5]
          have e6 : (o == 26) = false := by simp [c6]
          have e7 : (o == 27) = false := by simp [c7]
          go_wp2_with fail
          go_ret
          exact ⟨by simp [idle1, c2, c5, c6, c7], Below.refl _ _⟩
theorem isChoice_q (o : Int) (w : World) : Calls Tryz.prog 139 #[.int .i64 o] w fun e w' => e = .returned (.bool (isCh o)) ∧ ∃ m, w' = w.drewN m := by
  go_enter Tryz.func139, Tryz.ntmps139
  by_cases h1 : o = 26
  · subst h1
    go_wp2
    all_goals (first | go_quiet (fail) | skip)
    all_goals go_wp2
    all_goals go_ret
    all_goals exact ⟨rfl, by first | exact ⟨_, rfl⟩ | exact ⟨0, rfl⟩⟩
  · by_cases h2 : o = 27
    · subst h2
      go_wp2
      all_goals (first | go_quiet (fail) | skip)
      all_goals go_wp2
      all_goals go_ret
      all_goals exact ⟨rfl, by first | exact ⟨_, rfl⟩ | exact ⟨0, rfl⟩⟩
    · have e1 : (o == 26) = false := by simp [h1]
      have e2 : (o == 27) = false := by simp [h2]
      go_wp2
      all_goals (first | go_quiet (fail) | skip)
      all_goals go_wp2
      all_goals go_ret
      all_goals exact ⟨by simp [isCh, e1, e2], by first | exact ⟨_, rfl⟩ | exact ⟨0, rfl⟩⟩
def sndI (ol al bl be oj aj : Int) : Option Int := if ol = 25 then some bl else if isCh oj = true ∧ isCh ol = true ∧ aj = al then (if oj = ol then some bl else some be) else none
set_option maxHeartbeats 3200000 in
set_option maxRecDepth 100000 in
theorem sendsOn_any (g q : Nat) (ol al bl be oj aj bj cj : Int) (w : World) (h0 : w.cell? ⟨g, q, none⟩ = some (.int .i64 ol)) (h1 : w.cell? ⟨g, q + 1, none⟩ = some (.int .i64 al)) (h2 : w.cell? ⟨g, q + 2, none⟩ = some (.int .i64 bl)) (h6 : w.cell? ⟨g, q + 6, none⟩ = some (.int .i64 be)) :
    Calls Tryz.prog 125 #[.pointer (some ⟨g, q, none⟩), .agg #[.int .i64 oj, .int .i64 aj, .int .i64 bj, .int .i64 cj]] w fun e w' => e = .returned (.tuple #[.int .i64 ((sndI ol al bl be oj aj).getD 0), .bool (sndI ol al bl be oj aj).isSome]) ∧ Below w.heap.size w w' := by
  have hg : g < w.heap.size := by
    rcases Nat.lt_or_ge g w.heap.size with c | c
    · exact c
    · simp [World.cell?, Array.getElem?_eq_none c] at h0
  have hb := b_1 w (.cells #[.int .i64 oj, .int .i64 aj, .int .i64 bj, .int .i64 cj] 51)
  have HR := hide (RowF.mk' w 51 #[.int .i64 oj, .int .i64 aj, .int .i64 bj, .int .i64 cj])
  have d0 := (hb.cell (p := ⟨g, q, none⟩) hg).trans h0
  have d1 := (hb.cell (p := ⟨g, q + 1, none⟩) hg).trans h1
  have d2 := (hb.cell (p := ⟨g, q + 2, none⟩) hg).trans h2
  have d6 := (hb.cell (p := ⟨g, q + 6, none⟩) hg).trans h6
  have HB := hide hb
  clear h0 h1 h2 h6 hg hb
  by_cases c25 : ol = 25
  · have hs : sndI ol al bl be oj aj = some bl := by unfold sndI; rw [if_pos c25]
    rw [hs]
    subst c25
    clear hs
    go_enter Tryz.func125, Tryz.ntmps125
    go_wp2
    go_ret2
    exact ⟨rfl, HB.out⟩
  · have n25 : (ol == 25) = false := by simp [c25]
    cases hj : isCh oj with
    | false =>
      have hs : sndI ol al bl be oj aj = none := by unfold sndI; rw [if_neg c25, if_neg (fun k => by rw [hj] at k; cases k.1)]
      rw [hs]
      clear hs c25
      go_enter Tryz.func125, Tryz.ntmps125
      go_upto_region 3 with (fail)
      have e0 : (w.alloc (.cells #[.int .i64 oj, .int .i64 aj, .int .i64 bj, .int .i64 cj] 51)).cell? ⟨w.heap.size, 0, none⟩ = some (.int .i64 oj) := HR.out.cell (j := 0) (by simp)
      have e1 : (w.alloc (.cells #[.int .i64 oj, .int .i64 aj, .int .i64 bj, .int .i64 cj] 51)).cell? ⟨w.heap.size, 1, none⟩ = some (.int .i64 aj) := HR.out.cell (j := 1) (by simp)
      generalize w.alloc (.cells #[.int .i64 oj, .int .i64 aj, .int .i64 bj, .int .i64 cj] 51) = w1 at *
      go_quiet ((go_at_call 139; exact Calls.quiet_of (isChoice_q _ _)))
      go_wp2
      go_ret2
      exact ⟨rfl, below_drw HB.out _⟩
    | true =>
      cases hl : isCh ol with
      | false =>
        have hs : sndI ol al bl be oj aj = none := by unfold sndI; rw [if_neg c25, if_neg (fun k => by rw [hl] at k; cases k.2.1)]
        rw [hs]
        clear hs c25
        go_enter Tryz.func125, Tryz.ntmps125
        go_upto_region 3 with (fail)
        have e0 : (w.alloc (.cells #[.int .i64 oj, .int .i64 aj, .int .i64 bj, .int .i64 cj] 51)).cell? ⟨w.heap.size, 0, none⟩ = some (.int .i64 oj) := HR.out.cell (j := 0) (by simp)
        have e1 : (w.alloc (.cells #[.int .i64 oj, .int .i64 aj, .int .i64 bj, .int .i64 cj] 51)).cell? ⟨w.heap.size, 1, none⟩ = some (.int .i64 aj) := HR.out.cell (j := 1) (by simp)
        generalize w.alloc (.cells #[.int .i64 oj, .int .i64 aj, .int .i64 bj, .int .i64 cj] 51) = w1 at *
        go_quiet ((go_at_call 139; exact Calls.quiet_of (isChoice_q _ _)))
        go_wp2
        go_ret2
        exact ⟨rfl, below_drw HB.out _⟩
      | true =>
        by_cases ha : aj = al
        · by_cases ho : oj = ol
          · have hs : sndI ol al bl be oj aj = some bl := by unfold sndI; rw [if_neg c25, if_pos ⟨hj, hl, ha⟩, if_pos ho]
            rw [hs]
            subst ha
            subst ho
            clear hs c25
            go_enter Tryz.func125, Tryz.ntmps125
            go_upto_region 3 with (fail)
            have e0 : (w.alloc (.cells #[.int .i64 oj, .int .i64 aj, .int .i64 bj, .int .i64 cj] 51)).cell? ⟨w.heap.size, 0, none⟩ = some (.int .i64 oj) := HR.out.cell (j := 0) (by simp)
            have e1 : (w.alloc (.cells #[.int .i64 oj, .int .i64 aj, .int .i64 bj, .int .i64 cj] 51)).cell? ⟨w.heap.size, 1, none⟩ = some (.int .i64 aj) := HR.out.cell (j := 1) (by simp)
            generalize w.alloc (.cells #[.int .i64 oj, .int .i64 aj, .int .i64 bj, .int .i64 cj] 51) = w1 at *
            have he : (aj != aj) = false := by simp
            go_quiet ((go_at_call 139; exact Calls.quiet_of (isChoice_q _ _)))
            have he2 : (oj == oj) = true := by simp
            go_wp2_with fail
            go_quiet (fail)
            go_wp2
            go_ret2
            exact ⟨rfl, below_drw HB.out _⟩
          · have hs : sndI ol al bl be oj aj = some be := by unfold sndI; rw [if_neg c25, if_pos ⟨hj, hl, ha⟩, if_neg ho]
            rw [hs]
            subst ha
            have hob : (oj == ol) = false := by simp [ho]
            clear hs c25 ho
            go_enter Tryz.func125, Tryz.ntmps125
            go_upto_region 3 with (fail)
            have e0 : (w.alloc (.cells #[.int .i64 oj, .int .i64 aj, .int .i64 bj, .int .i64 cj] 51)).cell? ⟨w.heap.size, 0, none⟩ = some (.int .i64 oj) := HR.out.cell (j := 0) (by simp)
            have e1 : (w.alloc (.cells #[.int .i64 oj, .int .i64 aj, .int .i64 bj, .int .i64 cj] 51)).cell? ⟨w.heap.size, 1, none⟩ = some (.int .i64 aj) := HR.out.cell (j := 1) (by simp)
            generalize w.alloc (.cells #[.int .i64 oj, .int .i64 aj, .int .i64 bj, .int .i64 cj] 51) = w1 at *
            have he : (aj != aj) = false := by simp
            go_quiet ((go_at_call 139; exact Calls.quiet_of (isChoice_q _ _)))
            go_wp2_with fail
            go_quiet (fail)
            go_wp2
            go_ret2
            exact ⟨rfl, below_drw HB.out _⟩
        · have hs : sndI ol al bl be oj aj = none := by unfold sndI; rw [if_neg c25, if_neg (fun k => ha k.2.2)]
          rw [hs]
          have he : (aj != al) = true := by simp [ha]
          clear hs c25 ha
          go_enter Tryz.func125, Tryz.ntmps125
          go_upto_region 3 with (fail)
          have e0 : (w.alloc (.cells #[.int .i64 oj, .int .i64 aj, .int .i64 bj, .int .i64 cj] 51)).cell? ⟨w.heap.size, 0, none⟩ = some (.int .i64 oj) := HR.out.cell (j := 0) (by simp)
          have e1 : (w.alloc (.cells #[.int .i64 oj, .int .i64 aj, .int .i64 bj, .int .i64 cj] 51)).cell? ⟨w.heap.size, 1, none⟩ = some (.int .i64 aj) := HR.out.cell (j := 1) (by simp)
          generalize w.alloc (.cells #[.int .i64 oj, .int .i64 aj, .int .i64 bj, .int .i64 cj] 51) = w1 at *
          go_quiet ((go_at_call 139; exact Calls.quiet_of (isChoice_q _ _)))
          go_wp2
          go_ret2
          exact ⟨rfl, below_drw HB.out _⟩
theorem mixedT : Tryz.prog.follows .mixedOrders = true := by kernel_rfl
structure Lks where
  o : Nat → Int
  a : Nat → Int
  b : Nat → Int
  x : Nat → Int
  l : Nat → Int
  ah : Nat → Int
  bh : Nat → Int
  cv : Nat → Value
  rd : Nat → Bool
  gn : Nat → Bool
def Lks.at (k : Lks) (p r : Nat) : Value :=
  if r = 0 then .int .i64 (k.o p) else if r = 1 then .int .i64 (k.a p) else if r = 2 then .int .i64 (k.b p) else if r = 3 then .int .i64 (k.x p) else if r = 4 then .int .i64 (k.l p)
  else if r = 5 then .int .i64 (k.ah p) else if r = 6 then .int .i64 (k.bh p) else if r = 7 then k.cv p else if r = 8 then .bool (k.rd p) else .bool (k.gn p)
def Lks.c (k : Lks) (j : Nat) : Value := k.at (j / 10) (j % 10)
theorem Lks.c_at (k : Lks) (p : Nat) {r : Nat} (hr : r < 10) : k.c (p * 10 + r) = k.at p r := by
  unfold Lks.c
  rw [show (p * 10 + r) / 10 = p by omega, show (p * 10 + r) % 10 = r by omega]
def LkA (w : World) (G n : Nat) (k : Lks) : Prop := RowF w 94 G (n * 10) k.c
def upI (f : Nat → Int) (p : Nat) (x : Int) : Nat → Int := fun q => if q = p then x else f q
def upB (f : Nat → Bool) (p : Nat) (x : Bool) : Nat → Bool := fun q => if q = p then x else f q
def upV (f : Nat → Value) (p : Nat) (x : Value) : Nat → Value := fun q => if q = p then x else f q
theorem LkA.lt {w : World} {G n : Nat} {k : Lks} (h : LkA w G n k) : G < w.heap.size := RowF.lt h
theorem LkA.frz {w : World} {G n : Nat} {k : Lks} (h : LkA w G n k) (j : Nat) : w.frozen? ⟨G, j, none⟩ = false := RowF.frz h j
theorem LkA.at0 {w : World} {G n : Nat} {k : Lks} (h : LkA w G n k) {p : Nat} (hp : p < n) {r : Nat} (hr : r < 10) : w.cell? ⟨G, p * 10 + r, none⟩ = some (k.at p r) := by
  have := RowF.cell h (j := p * 10 + r) (by omega)
  rw [this, k.c_at p hr]
theorem LkA.o {w : World} {G n : Nat} {k : Lks} (h : LkA w G n k) {p : Nat} (hp : p < n) : w.cell? ⟨G, p * 10, none⟩ = some (.int .i64 (k.o p)) := h.at0 hp (r := 0) (by omega)
theorem LkA.a {w : World} {G n : Nat} {k : Lks} (h : LkA w G n k) {p : Nat} (hp : p < n) : w.cell? ⟨G, p * 10 + 1, none⟩ = some (.int .i64 (k.a p)) := h.at0 hp (r := 1) (by omega)
theorem LkA.b {w : World} {G n : Nat} {k : Lks} (h : LkA w G n k) {p : Nat} (hp : p < n) : w.cell? ⟨G, p * 10 + 2, none⟩ = some (.int .i64 (k.b p)) := h.at0 hp (r := 2) (by omega)
theorem LkA.x {w : World} {G n : Nat} {k : Lks} (h : LkA w G n k) {p : Nat} (hp : p < n) : w.cell? ⟨G, p * 10 + 3, none⟩ = some (.int .i64 (k.x p)) := h.at0 hp (r := 3) (by omega)
theorem LkA.l {w : World} {G n : Nat} {k : Lks} (h : LkA w G n k) {p : Nat} (hp : p < n) : w.cell? ⟨G, p * 10 + 4, none⟩ = some (.int .i64 (k.l p)) := h.at0 hp (r := 4) (by omega)
theorem LkA.ah {w : World} {G n : Nat} {k : Lks} (h : LkA w G n k) {p : Nat} (hp : p < n) : w.cell? ⟨G, p * 10 + 5, none⟩ = some (.int .i64 (k.ah p)) := h.at0 hp (r := 5) (by omega)
theorem LkA.bh {w : World} {G n : Nat} {k : Lks} (h : LkA w G n k) {p : Nat} (hp : p < n) : w.cell? ⟨G, p * 10 + 6, none⟩ = some (.int .i64 (k.bh p)) := h.at0 hp (r := 6) (by omega)
theorem LkA.cv {w : World} {G n : Nat} {k : Lks} (h : LkA w G n k) {p : Nat} (hp : p < n) : w.cell? ⟨G, p * 10 + 7, none⟩ = some (k.cv p) := h.at0 hp (r := 7) (by omega)
theorem LkA.rd {w : World} {G n : Nat} {k : Lks} (h : LkA w G n k) {p : Nat} (hp : p < n) : w.cell? ⟨G, p * 10 + 8, none⟩ = some (.bool (k.rd p)) := h.at0 hp (r := 8) (by omega)
theorem LkA.gn {w : World} {G n : Nat} {k : Lks} (h : LkA w G n k) {p : Nat} (hp : p < n) : w.cell? ⟨G, p * 10 + 9, none⟩ = some (.bool (k.gn p)) := h.at0 hp (r := 9) (by omega)
theorem LkA.congr {w : World} {G n : Nat} {k k' : Lks} (h : LkA w G n k) (e : ∀ p, p < n → ∀ r, r < 10 → k.at p r = k'.at p r) : LkA w G n k' :=
  RowF.congr h (fun j hj => e (j / 10) (by omega) (j % 10) (by omega))
theorem LkA.set0 {w : World} {G n : Nat} {k k' : Lks} (h : LkA w G n k) {p r : Nat} (hp : p < n) (hr : r < 10) {v : Value} (e : ∀ q s, q < n → s < 10 → k'.at q s = if q = p ∧ s = r then v else k.at q s) : LkA (w.setCell ⟨G, p * 10 + r, none⟩ v) G n k' := by
  refine RowF.congr (RowF.set h (j := p * 10 + r) (by omega) v) (fun j hj => ?_)
  show (if j = p * 10 + r then v else k.at (j / 10) (j % 10)) = k'.at (j / 10) (j % 10)
  rw [e (j / 10) (j % 10) (by omega) (by omega)]
  by_cases c : j = p * 10 + r
  · rw [if_pos c, if_pos (by omega)]
  · rw [if_neg c, if_neg (by omega)]
theorem LkA.setb {w : World} {G n : Nat} {k : Lks} (h : LkA w G n k) {p : Nat} (hp : p < n) (x : Int) : LkA (w.setCell ⟨G, p * 10 + 2, none⟩ (.int .i64 x)) G n { k with b := upI k.b p x } := h.set0 hp (by omega) (fun q s _ _ => by
  unfold Lks.at upI
  by_cases c : s = 2
  · subst c; by_cases d : q = p <;> simp [d]
  · simp [c])
theorem LkA.setah {w : World} {G n : Nat} {k : Lks} (h : LkA w G n k) {p : Nat} (hp : p < n) (x : Int) : LkA (w.setCell ⟨G, p * 10 + 5, none⟩ (.int .i64 x)) G n { k with ah := upI k.ah p x } := h.set0 hp (by omega) (fun q s _ _ => by
  unfold Lks.at upI
  by_cases c : s = 5
  · subst c; by_cases d : q = p <;> simp [d]
  · simp [c])
theorem LkA.setbh {w : World} {G n : Nat} {k : Lks} (h : LkA w G n k) {p : Nat} (hp : p < n) (x : Int) : LkA (w.setCell ⟨G, p * 10 + 6, none⟩ (.int .i64 x)) G n { k with bh := upI k.bh p x } := h.set0 hp (by omega) (fun q s _ _ => by
  unfold Lks.at upI
  by_cases c : s = 6
  · subst c; by_cases d : q = p <;> simp [d]
  · simp [c])
theorem LkA.setcv {w : World} {G n : Nat} {k : Lks} (h : LkA w G n k) {p : Nat} (hp : p < n) (x : Value) : LkA (w.setCell ⟨G, p * 10 + 7, none⟩ x) G n { k with cv := upV k.cv p x } := h.set0 hp (by omega) (fun q s _ _ => by
  unfold Lks.at upV
  by_cases c : s = 7
  · subst c; by_cases d : q = p <;> simp [d]
  · simp [c])
theorem LkA.setrd {w : World} {G n : Nat} {k : Lks} (h : LkA w G n k) {p : Nat} (hp : p < n) (x : Bool) : LkA (w.setCell ⟨G, p * 10 + 8, none⟩ (.bool x)) G n { k with rd := upB k.rd p x } := h.set0 hp (by omega) (fun q s _ _ => by
  unfold Lks.at upB
  by_cases c : s = 8
  · subst c; by_cases d : q = p <;> simp [d]
  · simp [c])
theorem LkA.setgn {w : World} {G n : Nat} {k : Lks} (h : LkA w G n k) {p : Nat} (hp : p < n) (x : Bool) : LkA (w.setCell ⟨G, p * 10 + 9, none⟩ (.bool x)) G n { k with gn := upB k.gn p x } := h.set0 hp (by omega) (fun q s _ hs => by
  unfold Lks.at upB
  by_cases c : s = 9
  · subst c; by_cases d : q = p <;> simp [d]
  · have : s = 0 ∨ s = 1 ∨ s = 2 ∨ s = 3 ∨ s = 4 ∨ s = 5 ∨ s = 6 ∨ s = 7 ∨ s = 8 := by omega
    rcases this with rfl | rfl | rfl | rfl | rfl | rfl | rfl | rfl | rfl <;> simp)
def pvI (c : Cf) (p : Nat) : Int := match c.pv p with
  | none => -1
  | some q => (q : Int)
structure LkR (k : Lks) (n : Nat) (c : Cf) (i2 : Nat → Int) : Prop where
  en : c.n = n
  eo : k.o = c.op
  ea : k.a = c.a
  eb : ∀ p, p < n → k.b p = goals c.op i2 c p
  ebh : ∀ p, c.L p → k.bh p = (c.nx p : Int)
  eah : ∀ p, c.L p → k.ah p = pvI c p
  egn : ∀ p, p < n → k.gn p = !c.lf p
theorem LkR.bj {k : Lks} {n : Nat} {c : Cf} {i2 : Nat → Int} (h : LkR k n c i2) {p : Nat} (hp : p < n) (hj : jmp (c.op p) = true) : k.b p = (c.b p : Int) := by
  rw [h.eb p hp]; unfold goals; rw [if_pos hj]
theorem LkR.snd {k : Lks} {n : Nat} {c : Cf} {i2 : Nat → Int} (h : LkR k n c i2) {t : Nat} (ht : c.L t) (oj aj : Int) : sndI (k.o t) (k.a t) (k.b t) (k.bh t) oj aj = (c.snd oj aj t).map (fun (q : Nat) => (q : Int)) := by
  have htn : t < n := by rw [← h.en]; exact ht.1
  unfold sndI Cf.snd
  rw [h.eo, h.ea, h.ebh t ht]
  by_cases e : c.op t = 25
  · rw [if_pos e, if_pos e, h.bj htn (by rw [e]; rfl)]
    rfl
  · rw [if_neg e, if_neg e]
    by_cases e2 : chs oj = true ∧ chs (c.op t) = true ∧ aj = c.a t
    · rw [if_pos e2, if_pos (show isCh oj = true ∧ isCh (c.op t) = true ∧ aj = c.a t from e2)]
      by_cases e3 : oj = c.op t
      · rw [if_pos e3, if_pos e3, h.bj htn (chs_jmp e2.2.1)]
        rfl
      · rw [if_neg e3, if_neg e3]
        rfl
    · rw [if_neg e2, if_neg (show ¬ (isCh oj = true ∧ isCh (c.op t) = true ∧ aj = c.a t) from e2)]
      rfl
set_option maxHeartbeats 3200000 in
set_option maxRecDepth 100000 in
theorem lastAim_any (G n cap : Nat) (k : Lks) (c : Cf) (i2 : Nat → Int) (oj aj cj : Int) (t0 : Nat) (w : World) (hn : n ≤ 1048576) (h : LkA w G n k) (hr : LkR k n c i2) (hok : c.Ok) (ht0 : c.L t0) :
    Calls Tryz.prog 91 #[.slice (some ⟨G, 0, none⟩) n cap, .agg #[.int .i64 oj, .int .i64 aj, .int .i64 (t0 : Int), .int .i64 cj]] w fun e w' => e = .returned (.int .i64 (c.fol oj aj (c.n + 1) t0 : Int)) ∧ Below w.heap.size w w' := by
  have HA := hide h
  have HR := hide hr
  have HOk := hide hok
  have HJ := hide (RowF.mk' w 51 #[.int .i64 oj, .int .i64 aj, .int .i64 (t0 : Int), .int .i64 cj])
  have HB0 := hide (b_1 w (.cells #[.int .i64 oj, .int .i64 aj, .int .i64 (t0 : Int), .int .i64 cj] 51))
  have HT0 := hide ht0
  clear h hr hok ht0
  go_enter Tryz.func91, Tryz.ntmps91
  go_upto_region 1 with (fail)
  have hJl := HJ.out.lt
  generalize w.alloc (.cells #[.int .i64 oj, .int .i64 aj, .int .i64 (t0 : Int), .int .i64 cj] 51) = w1 at *
  obtain ⟨X, hX⟩ : ∃ X, w.heap.size = X := ⟨_, rfl⟩
  rw [hX] at HJ HB0 hJl ⊢
  have HX := hide hX
  clear hX
  have e2 : w1.cell? ⟨X, 2, none⟩ = some (.int .i64 (t0 : Int)) := HJ.out.cell (j := 2) (by simp)
  go_upto_region 2 with (fail)
  clear e2
  go_wp2_with fail
  go_loopg [5] (mTh c t0) (fun m av wr => ∃ t : Nat, av = .int .i64 (t : Int) ∧ Hid (mTh c t = m) ∧ Hid (c.L t ∧ c.fol oj aj (c.n + 1) t = c.fol oj aj (c.n + 1) t0) ∧ Hid (Below w1.heap.size w1 wr))
  case atStart => exact ⟨t0, rfl, hide rfl, hide ⟨HT0.out, rfl⟩, hide (Below.refl _ _)⟩
  case round =>
    obtain ⟨t, rfl, HM, HT, HB⟩ := hrel
    have htn : t < n := by have := HT.out.1.1; rw [HR.out.en] at this; exact this
    have hGl : G < w1.heap.size := by have := HA.out.lt; rw [HX.out] at this; omega
    have hA := (HA.out.low HB0.out (by have := HA.out.lt; rw [HX.out] at this; exact this)).low HB.out hGl
    have hJ := HJ.out.low HB.out hJl
    have e0 : wr.cell? ⟨X, 0, none⟩ = some (.int .i64 oj) := hJ.cell (j := 0) (by simp)
    have e1 : wr.cell? ⟨X, 1, none⟩ = some (.int .i64 aj) := hJ.cell (j := 1) (by simp)
    have e2 : wr.cell? ⟨X, 2, none⟩ = some (.int .i64 (t0 : Int)) := hJ.cell (j := 2) (by simp)
    have e3 : wr.cell? ⟨X, 3, none⟩ = some (.int .i64 cj) := hJ.cell (j := 3) (by simp)
    have hS := fun (w' : World) (hb : Below wr.heap.size wr w') => sendsOn_any G (t * 10) (k.o t) (k.a t) (k.b t) (k.bh t) oj aj (t0 : Int) cj w' ((hb.cell (p := ⟨G, t * 10, none⟩) (LkA.lt hA)).trans (LkA.o hA htn)) ((hb.cell (p := ⟨G, t * 10 + 1, none⟩) (LkA.lt hA)).trans (LkA.a hA htn)) ((hb.cell (p := ⟨G, t * 10 + 2, none⟩) (LkA.lt hA)).trans (LkA.b hA htn)) ((hb.cell (p := ⟨G, t * 10 + 6, none⟩) (LkA.lt hA)).trans (LkA.bh hA htn))
    rw [HR.out.snd HT.out.1 oj aj] at hS
    have HS := hide (fun d os => Calls.regrown_of (w := wr) (d := d) (os := os) (hS _ (below_regrown wr d os)))
    have k0 := fun d os => cell_regrown (w := wr) (a := ⟨X, 0, none⟩) e0 d os
    have k1 := fun d os => cell_regrown (w := wr) (a := ⟨X, 1, none⟩) e1 d os
    have k2 := fun d os => cell_regrown (w := wr) (a := ⟨X, 2, none⟩) e2 d os
    have k3 := fun d os => cell_regrown (w := wr) (a := ⟨X, 3, none⟩) e3 d os
    clear hS hA hJ
    cases hs : c.snd oj aj t with
    | none =>
      rw [hs] at HS
      have HSn := hide hs
      clear hs
      go_wp2_with fail
      refine wp_region_quiet_below mixedT (by kernel_rfl) ?_
      repeat (quiet_step (exact HS.out _ _))
      refine wpQuiet_nil ?_
      rintro w2 ⟨⟨dq, osq⟩, hw2⟩
      have hb2 : Below wr.heap.size wr w2 := by rw [hw2]; exact below_regrown _ _ _
      have HB2 := hide hb2
      clear hw2 hb2 k0 k1 k2 k3 e0 e1 e2 e3
      go_wp2_with fail
      go_ret
      refine ⟨?_, by rw [HX.out]; exact HB0.out.trans ((HB.out.trans (HB2.out.mono HB.out.size)).mono (by have := HB0.out.size; have := HX.out; omega))⟩
      rw [← HT.out.2, fol_end HSn.out]
      rfl
    | some t' =>
      rw [hs] at HS
      have HSn := hide (show c.L t' ∧ c.fol oj aj (c.n + 1) t' = c.fol oj aj (c.n + 1) t0 ∧ mTh c t' < mTh c t from ⟨(HOk.out.snd HT.out.1 hs).1, (fol_step HOk.out HT.out.1 hs).symm.trans HT.out.2, mTh_less HOk.out HT.out.1 hs⟩)
      clear hs
      go_wp2_with fail
      refine wp_region_quiet_below mixedT (by kernel_rfl) ?_
      repeat (quiet_step (exact HS.out _ _))
      refine wpQuiet_nil ?_
      rintro w2 ⟨⟨dq, osq⟩, hw2⟩
      have hb2 : Below wr.heap.size wr w2 := by rw [hw2]; exact below_regrown _ _ _
      have HB2 := hide hb2
      clear hw2 hb2 k0 k1 k2 k3 e0 e1 e2 e3
      go_wp2_with fail
      go_roundg (mTh c t')
      case rel => exact ⟨t', rfl, hide rfl, hide ⟨HSn.out.1, HSn.out.2.1⟩, hide (HB.out.trans (HB2.out.mono HB.out.size))⟩
      case measure => have h1 := HM.out; have h2 := HSn.out.2.2; omega
def Cf.dr1 (c : Cf) (p : Nat) : Cf := { c with lf := fun q => c.lf q && !(q == p) }
theorem dr1_L {c : Cf} {p q : Nat} : (c.dr1 p).L q ↔ c.L q ∧ q ≠ p := by
  unfold Cf.L Cf.dr1
  simp [and_assoc]
theorem dr1_drp (c : Cf) (p : Nat) : c.dr1 p = c.drp (fun q => q == p) := rfl
theorem dr1_nf {c : Cf} {p : Nat} (hp : c.L p) {q : Nat} (hq : q ≤ c.n) : (c.dr1 p).nf q = if c.nf q = p then c.nx p else c.nf q := by
  rw [dr1_drp, ← drp_nf hq]
  rcases (c.nf_out q).1 with ⟨h1, h2⟩ | h1
  · by_cases e : c.nf q = p
    · rw [if_pos e, e, drp_gone hp (by simp), ← drp_nf (p := p + 1) hp.1]
      rcases (c.nf_out (p + 1)).1 with ⟨k1, k2⟩ | k1
      · exact drp_self k1 (by have : c.nf (p + 1) ≠ p := by omega
                              simpa using this)
      · show (c.drp _).nf (c.nf (p + 1)) = c.nf (p + 1)
        rw [k1]; exact Cf.nf_past (c := c.drp fun q => q == p) (Nat.le_refl _)
    · rw [if_neg e]
      exact drp_self h1 (by simpa using e)
  · have : c.nf q ≠ p := by have := hp.1; omega
    rw [if_neg this, h1]
    exact Cf.nf_past (c := c.drp fun q => q == p) (Nat.le_refl _)
theorem nf_pv {c : Cf} {p : Nat} (hp : c.L p) : c.nf 0 = p ↔ c.pv p = none := by
  constructor
  · intro h
    cases e : c.pv p with
    | none => rfl
    | some q =>
      obtain ⟨h1, h2, h3⟩ := pv_some e
      exact ((c.nf_out 0).2 q (Nat.zero_le _) (by omega) ⟨by have := hp.1; omega, h2⟩).elim
  · intro h
    refine Cf.nf_eq (.inl ⟨hp, Nat.zero_le _⟩) (fun r _ h2 h3 => ?_) (Nat.zero_le _)
    have := pv_none h r h2
    rw [h3.2] at this; cases this
theorem nx_pv {c : Cf} {p q : Nat} (hp : c.L p) (hq : c.L q) : c.nx q = p ↔ c.pv p = some q := by
  constructor
  · intro h
    have h1 := Cf.nf_L (c := c) (p := q + 1) (by show c.nx q < c.n; rw [h]; exact hp.1)
    have h2 : q + 1 ≤ c.nx q := h1.2
    refine pv_eq (by omega) hq.2 (fun r k1 k2 => ?_)
    cases e : c.lf r with
    | false => rfl
    | true => exact ((c.nf_out (q + 1)).2 r k1 (by show r < c.nx q; omega) ⟨by have := hp.1; omega, e⟩).elim
  · intro h
    obtain ⟨h1, h2, h3⟩ := pv_some h
    refine Cf.nf_eq (.inl ⟨hp, h1⟩) (fun r k1 k2 k3 => ?_) (by have := hq.1; omega)
    have k4 := k3.2
    rw [h3 r k1 k2] at k4
    cases k4
theorem dr1_nx {c : Cf} {p q : Nat} (hp : c.L p) (hq : c.L q) : (c.dr1 p).nx q = if c.pv p = some q then c.nx p else c.nx q := by
  have := dr1_nf hp (q := q + 1) hq.1
  show (c.dr1 p).nf (q + 1) = _
  rw [this]
  show (if c.nx q = p then c.nx p else c.nx q) = _
  by_cases e : c.nx q = p
  · rw [if_pos e, if_pos ((nx_pv hp hq).1 e)]
  · rw [if_neg e, if_neg (fun k => e ((nx_pv hp hq).2 k))]
theorem dr1_first {c : Cf} {p : Nat} (hp : c.L p) : (c.dr1 p).nf 0 = if c.pv p = none then c.nx p else c.nf 0 := by
  rw [dr1_nf hp (Nat.zero_le _)]
  by_cases e : c.nf 0 = p
  · rw [if_pos e, if_pos ((nf_pv hp).1 e)]
  · rw [if_neg e, if_neg (fun k => e ((nf_pv hp).2 k))]
theorem pv_same {c d : Cf} {p : Nat} (h : ∀ q, q < p → d.lf q = c.lf q) : d.pv p = c.pv p := by
  induction p with
  | zero => rfl
  | succ p ih =>
    unfold Cf.pv
    rw [h p (by omega), ih (fun q hq => h q (by omega))]
theorem dr1_pv {c : Cf} {p q : Nat} (hp : c.L p) (hq : c.L q) (hne : q ≠ p) : (c.dr1 p).pv q = if c.nx p = q then c.pv p else c.pv q := by
  have lf1 : ∀ r, r ≠ p → (c.dr1 p).lf r = c.lf r := fun r h => by show (c.lf r && !(r == p)) = _; simp [h]
  by_cases e : c.nx p = q
  · rw [if_pos e]
    have e2 := (nx_pv hq hp).1 e
    obtain ⟨h1, h2, h3⟩ := pv_some e2
    cases e3 : c.pv p with
    | none =>
      have key : ∀ r, r < q → (c.dr1 p).lf r = false := fun r hr => by
        by_cases d : r = p
        · subst d; show (c.lf r && !(r == r)) = false; simp
        · rw [lf1 r d]
          rcases Nat.lt_or_ge r p with d2 | d2
          · exact pv_none e3 r d2
          · exact h3 r (by omega) hr
      cases e4 : (c.dr1 p).pv q with
      | none => rfl
      | some t =>
        obtain ⟨k1, k2, _⟩ := pv_some e4
        rw [key t k1] at k2; cases k2
    | some t =>
      obtain ⟨k1, k2, k3⟩ := pv_some e3
      refine pv_eq (by omega) (by rw [lf1 t (by omega)]; exact k2) (fun r r1 r2 => ?_)
      by_cases d : r = p
      · subst d; show (c.lf r && !(r == r)) = false; simp
      · rw [lf1 r d]
        rcases Nat.lt_or_ge r p with d2 | d2
        · exact k3 r r1 d2
        · exact h3 r (by omega) r2
  · rw [if_neg e]
    cases e3 : c.pv q with
    | none =>
      cases e4 : (c.dr1 p).pv q with
      | none => rfl
      | some t =>
        obtain ⟨k1, k2, _⟩ := pv_some e4
        have : c.lf t = true := by have k2' : (c.lf t && !(t == p)) = true := k2; rw [Bool.and_eq_true] at k2'; exact k2'.1
        rw [pv_none e3 t k1] at this; cases this
    | some t =>
      obtain ⟨k1, k2, k3⟩ := pv_some e3
      have htp : t ≠ p := fun d => e (by rw [← d]; exact (nx_pv hq ⟨by have := hq.1; omega, k2⟩).2 e3)
      refine pv_eq k1 (by rw [lf1 t htp]; exact k2) (fun r r1 r2 => ?_)
      show (c.lf r && !(r == p)) = false
      rw [k3 r r1 r2]; rfl
def shC (f lm tm : Nat) (un : Bool) (j : Nat) : Value := if j = 0 then .int .i64 (f : Int) else if j = 1 then .map (some lm) else if j = 2 then .map (some tm) else .bool un
def ShR (w : World) (S f lm tm : Nat) (un : Bool) : Prop := RowF w 130 S 4 (shC f lm tm un)
theorem ShR.c0 {w : World} {S f lm tm : Nat} {un : Bool} (h : ShR w S f lm tm un) : w.cell? ⟨S, 0, none⟩ = some (.int .i64 (f : Int)) := RowF.cell h (j := 0) (by omega)
theorem ShR.c1 {w : World} {S f lm tm : Nat} {un : Bool} (h : ShR w S f lm tm un) : w.cell? ⟨S, 1, none⟩ = some (.map (some lm)) := RowF.cell h (j := 1) (by omega)
theorem ShR.c2 {w : World} {S f lm tm : Nat} {un : Bool} (h : ShR w S f lm tm un) : w.cell? ⟨S, 2, none⟩ = some (.map (some tm)) := RowF.cell h (j := 2) (by omega)
theorem ShR.c3 {w : World} {S f lm tm : Nat} {un : Bool} (h : ShR w S f lm tm un) : w.cell? ⟨S, 3, none⟩ = some (.bool un) := RowF.cell h (j := 3) (by omega)
theorem ShR.set0 {w : World} {S f lm tm : Nat} {un : Bool} (h : ShR w S f lm tm un) (g : Nat) : ShR (w.setCell ⟨S, 0, none⟩ (.int .i64 (g : Int))) S g lm tm un := (RowF.set h (j := 0) (by omega) _).congr (fun j _ => by
  unfold shC
  by_cases e : j = 0 <;> simp [e])
theorem ShR.set3 {w : World} {S f lm tm : Nat} {un : Bool} (h : ShR w S f lm tm un) (b : Bool) : ShR (w.setCell ⟨S, 3, none⟩ (.bool b)) S f lm tm b := (RowF.set h (j := 3) (by omega) _).congr (fun j hj => by
  have : j = 0 ∨ j = 1 ∨ j = 2 ∨ j = 3 := by omega
  rcases this with rfl | rfl | rfl | rfl <;> rfl)
theorem ShR.apartL {w : World} {S f lm tm G n : Nat} {un : Bool} {k : Lks} (h : ShR w S f lm tm un) (h' : LkA w G n k) : S ≠ G := RowF.apart h h' (by decide)
theorem SetM.row {w : World} {b n T g N : Nat} {s : Nat → Bool} {f : Nat → Value} (h : SetM w b n s) (h' : RowF w T g N f) : b ≠ g := by
  rintro rfl
  obtain ⟨D, ⟨es, clk, h1, _⟩, _⟩ := h
  obtain ⟨cur, h2, _⟩ := h'
  rw [h1] at h2; cases h2
theorem k_set (w : World) (g j : Nat) (x : Value) : Keeps w (w.setCell ⟨g, j, none⟩ x) (fun b => b = g) := (Keeps.refl w (fun b => b = g)).setCell (j := j) rfl x
def Lks.jn (k : Lks) (n : Nat) (a : Option Nat) (b : Nat) : Lks :=
  { k with bh := match a with | none => k.bh | some q => upI k.bh q (b : Int), ah := if b < n then upI k.ah b (match a with | none => -1 | some q => (q : Int)) else k.ah }
def JnS (G S tm : Nat) (b : Nat) : Prop := b = G ∨ b = S ∨ b = tm
def aI (a : Option Nat) : Int := match a with | none => -1 | some q => (q : Int)
set_option maxHeartbeats 3200000 in
set_option maxRecDepth 100000 in
theorem join_any (G S lm tm n cap f : Nat) (un : Bool) (k : Lks) (tc : Nat → Bool) (a : Option Nat) (b : Nat) (w : World) (hn : n ≤ 1048576) (h : LkA w G n k) (hs : ShR w S f lm tm un) (ht : SetM w tm n tc) (ha : ∀ q, a = some q → q < n) (hb : b ≤ n) :
    Calls Tryz.prog 126 #[.pointer (some ⟨S, 0, none⟩), .slice (some ⟨G, 0, none⟩) n cap, .int .i64 (aI a), .int .i64 (b : Int)] w fun e w' => e = .returned (.tuple #[]) ∧ LkA w' G n (k.jn n a b) ∧ ShR w' S (if a = none then b else f) lm tm un ∧
      SetM w' tm n (fun q => tc q || decide (a = some q)) ∧ Keeps w w' (JnS G S tm) := by
  have hSG := hs.apartL h
  have htS := ht.row hs
  have htG := ht.row h
  have HA := hide h
  have HS := hide hs
  have HT := hide ht
  have HNe := hide (show S ≠ G ∧ tm ≠ S ∧ tm ≠ G from ⟨hSG, htS, htG⟩)
  clear h hs ht hSG htS htG
  cases a with
  | none =>
    have z0 := HS.out.frz 0
    have c0 := HS.out.c0
    have HA1 := hide (show LkA (w.setCell ⟨S, 0, none⟩ (.int .i64 (b : Int))) G n k from RowF.keep HA.out (k_set w S 0 _) (fun e => HNe.out.1 e.symm))
    have HS1 := hide (HS.out.set0 b)
    have HT1 := hide (HT.out.keep (k_set w S 0 (.int .i64 (b : Int))) (fun e => HNe.out.2.1 e))
    have HK1 := hide (show Keeps w (w.setCell ⟨S, 0, none⟩ (.int .i64 (b : Int))) (JnS G S tm) from (Keeps.refl w _).setCell (j := 0) (.inr (.inl rfl)) _)
    go_enter Tryz.func126, Tryz.ntmps126
    go_upto_region 4 with (fail)
    clear z0 c0
    generalize w.setCell ⟨S, 0, none⟩ (.int .i64 (b : Int)) = w1 at *
    by_cases hbn : b < n
    · have z5 := LkA.frz HA1.out (b * 10 + 5)
      have c5 := HA1.out.ah hbn
      have HE := hide (show LkA (w1.setCell ⟨G, b * 10 + 5, none⟩ (.int .i64 (-1))) G n (k.jn n none b) from by
        have := HA1.out.setah hbn (-1)
        unfold Lks.jn
        rw [if_pos hbn]
        exact this)
      have HE2 := hide (show ShR (w1.setCell ⟨G, b * 10 + 5, none⟩ (.int .i64 (-1))) S b lm tm un from RowF.keep HS1.out (k_set w1 G _ _) HNe.out.1)
      have HE3 := hide (HT1.out.keep (k_set w1 G (b * 10 + 5) (.int .i64 (-1))) HNe.out.2.2)
      have HE4 := hide (HK1.out.setCell (g := G) (j := b * 10 + 5) (.inl rfl) (.int .i64 (-1)))
      go_wp2_with fail
      go_end0
      exact ⟨rfl, HE.out, HE2.out, HE3.out.congr (fun p _ => by simp), HE4.out⟩
    · obtain rfl : b = n := by omega
      go_wp2_with fail
      go_end0
      refine ⟨rfl, ?_, HS1.out, HT1.out.congr (fun p _ => by simp), HK1.out⟩
      unfold Lks.jn
      rw [if_neg (by omega)]
      exact HA1.out
  | some q =>
    have hq := ha q rfl
    have z6 := HA.out.frz (q * 10 + 6)
    have c6 := HA.out.bh hq
    have HA1 := hide (HA.out.setbh hq (b : Int))
    have HS1 := hide (show ShR (w.setCell ⟨G, q * 10 + 6, none⟩ (.int .i64 (b : Int))) S f lm tm un from RowF.keep HS.out (k_set w G _ _) HNe.out.1)
    have HT1 := hide (HT.out.keep (k_set w G (q * 10 + 6) (.int .i64 (b : Int))) HNe.out.2.2)
    have HK1 := hide (show Keeps w (w.setCell ⟨G, q * 10 + 6, none⟩ (.int .i64 (b : Int))) (JnS G S tm) from (Keeps.refl w _).setCell (j := q * 10 + 6) (.inl rfl) _)
    show Calls Tryz.prog 126 #[.pointer (some ⟨S, 0, none⟩), .slice (some ⟨G, 0, none⟩) n cap, .int .i64 (q : Int), .int .i64 (b : Int)] w _
    go_enter Tryz.func126, Tryz.ntmps126
    go_upto_region 3 with (fail)
    clear z6 c6
    generalize w.setCell ⟨G, q * 10 + 6, none⟩ (.int .i64 (b : Int)) = w1 at *
    have c2 := HS1.out.c2
    go_upto_region 4 with (first
      | (go_at_call 52
         refine (padd_any HT1.out hn hq).mono ?_
         rintro e w2 ⟨rfl, ht2, hk2⟩
         have HT2 := hide ht2
         have HA2 := hide (show LkA w2 G n { k with bh := upI k.bh q (b : Int) } from RowF.keep HA1.out hk2 (fun e => HNe.out.2.2 e.symm))
         have HS2 := hide (show ShR w2 S f lm tm un from RowF.keep HS1.out hk2 (fun e => HNe.out.2.1 e.symm))
         have HK2 := hide (HK1.out.trans (hk2.mono (S' := JnS G S tm) (fun b e => .inr (.inr e))))
         clear ht2 hk2 c2)
      | fail)
    by_cases hbn : b < n
    · have z5 := LkA.frz HA2.out (b * 10 + 5)
      have c5 := HA2.out.ah hbn
      have HE := hide (show LkA (w2.setCell ⟨G, b * 10 + 5, none⟩ (.int .i64 (q : Int))) G n (k.jn n (some q) b) from by
        have := HA2.out.setah hbn (q : Int)
        unfold Lks.jn
        rw [if_pos hbn]
        exact this)
      have HE2 := hide (show ShR (w2.setCell ⟨G, b * 10 + 5, none⟩ (.int .i64 (q : Int))) S f lm tm un from RowF.keep HS2.out (k_set w2 G _ _) HNe.out.1)
      have HE3 := hide (HT2.out.keep (k_set w2 G (b * 10 + 5) (.int .i64 (q : Int))) HNe.out.2.2)
      have HE4 := hide (HK2.out.setCell (g := G) (j := b * 10 + 5) (.inl rfl) (.int .i64 (q : Int)))
      go_wp2_with fail
      go_end0
      exact ⟨rfl, HE.out, HE2.out, HE3.out.congr (fun p _ => by simp [eq_comm]), HE4.out⟩
    · obtain rfl : b = n := by omega
      go_wp2_with fail
      go_end0
      refine ⟨rfl, ?_, HS2.out, HT2.out.congr (fun p _ => by simp [eq_comm]), HK2.out⟩
      unfold Lks.jn
      rw [if_neg (by omega)]
      exact HA2.out
end Go.Proofs.YtgnbhhgpaldheaaGreat
namespace Go.Proofs.YtgnbhhgpaldheaaGreat
open Go Go.RowKit Go.Shelf
set_option linter.unusedVariables false
attribute [local go_sem] Oper.semAt_some
def upTo {α : Type} (f : Nat → α) (k : Nat) : List α := (List.range k).map f
theorem upTo_succ {α : Type} (f : Nat → α) (k : Nat) : upTo f (k + 1) = upTo f k ++ [f k] := by simp [upTo, List.range_succ]
theorem upTo_length {α : Type} (f : Nat → α) (k : Nat) : (upTo f k).length = k := by simp [upTo]
def Kb (Bs : Nat) (ob : Option Nat) (W W' : World) : Prop := W'.heap[Bs]? = W.heap[Bs]? ∧ ∀ b, ob = some b → W'.heap[b]? = W.heap[b]?
theorem Kb.trans {Bs : Nat} {ob : Option Nat} {A B C : World} (h : Kb Bs ob A B) (k : Kb Bs ob B C) : Kb Bs ob A C := ⟨k.1.trans h.1, fun b e => (k.2 b e).trans (h.2 b e)⟩
theorem Kb.rfl' (Bs : Nat) (ob : Option Nat) (A : World) : Kb Bs ob A A := ⟨rfl, fun _ _ => rfl⟩
theorem Kb.put {Bs : Nat} {ob : Option Nat} {w : World} (hB : Bs < w.heap.size) (hb : ∀ b, ob = some b → b < w.heap.size) (W : World) (l : Nat) (o o' : Obj) (hl : w.heap.size ≤ l) (h : W.heap[l]? = some o) (h1 : o.isCells = false) (h2 : o.isWalk = false) : Kb Bs ob W (W.putObj l o') :=
  ⟨World.putObj_heap_other (fun e => by omega), fun b e => World.putObj_heap_other (fun c => by have := hb b e; omega)⟩
theorem Kb.keep {Bs : Nat} {ob : Option Nat} {W W' : World} {S : Nat → Prop} (k : Keeps W W' S) (hB : Bs < W.heap.size) (hnB : ¬ S Bs) (hb : ∀ b, ob = some b → b < W.heap.size ∧ ¬ S b) : Kb Bs ob W W' :=
  ⟨k.block _ hB hnB, fun b e => k.block _ (hb b e).1 (hb b e).2⟩
def bkN (l : List Nat) : Nat → Nat × Nat := fun j => (l.length - 1 - j, l.getD (l.length - 1 - j) 0)
set_option maxRecDepth 100000 in
set_option maxHeartbeats 2000000 in
theorem backI1_in (F : Fence) (n : Nat) (hf : F.fn 122) (hro : F.round = none) (hn : 1 ≤ n) (l Bs b cap : Nat) (xs : List Nat) (hlen : xs.length ≤ 1048576) (J Jx : List (Nat × Nat) → World → Prop)
    (hY : ∀ pre x W, J pre W → (pre = upTo (bkN xs) pre.length ∧ x = bkN xs pre.length) → pre.length < xs.length → YieldAt F (n - 1) Tryz.prog l #[.int .i64 (x.1 : Int), .int .i64 (x.2 : Int)] W fun e W' =>
      (e = .returned (.bool true) ∧ J (pre ++ [x]) W' ∧ Kb Bs (some b) W W') ∨ (e = .returned (.bool false) ∧ Jx (pre ++ [x]) W'))
    (W : World) (hBs : W.cell? ⟨Bs, 0, none⟩ = some (.slice (some ⟨b, 0, none⟩) xs.length cap)) (hc : ∀ j, j < xs.length → W.cell? ⟨b, j, none⟩ = some (.int .i64 (xs.getD j 0 : Nat))) (h0 : J [] W) :
    CallsIn F n Tryz.prog 122 #[.func (.yield l) #[] #[], .pointer (some ⟨Bs, 0, none⟩)] W fun e W' => (∃ v, e = .returned v) ∧
      ((∃ ys, ys = upTo (bkN xs) xs.length ∧ J ys W') ∨ (∃ pre, (∃ k, k ≤ xs.length ∧ pre = upTo (bkN xs) k) ∧ Jx pre W')) := by
  obtain ⟨len, hL⟩ : ∃ len, xs.length = len := ⟨_, rfl⟩
  have hbk : ∀ k, bkN xs k = (len - 1 - k, xs.getD (len - 1 - k) 0) := fun k => by unfold bkN; rw [hL]
  rw [hL] at hlen hY hBs hc ⊢
  have hY2 : ∀ k W, J (upTo (bkN xs) k) W → k < len → YieldAt F (n - 1) Tryz.prog l #[.int .i64 ((bkN xs k).1 : Int), .int .i64 ((bkN xs k).2 : Int)] W fun e W' =>
      (e = .returned (.bool true) ∧ J (upTo (bkN xs) k ++ [bkN xs k]) W' ∧ Kb Bs (some b) W W') ∨ (e = .returned (.bool false) ∧ Jx (upTo (bkN xs) k ++ [bkN xs k]) W') := fun k W hj hk =>
    hY _ _ W hj ⟨by rw [upTo_length], by rw [upTo_length]⟩ (by rw [upTo_length]; exact hk)
  clear hY
  generalize bkN xs = bk at *
  generalize hg : (fun j => xs.getD j 0) = fs at *
  have hfs : ∀ j, xs.getD j 0 = fs j := fun j => by rw [← hg]
  simp only [hfs] at hbk hc
  clear hg hfs hL
  refine callsIn_of_wp Tryz.func122 rfl hf ?_ hro
  simp only [Tryz.ntmps122, List.size_toArray, List.length_cons, List.length_nil, Nat.reduceAdd, Nat.reduceSub, Array.replicate_succ, Array.replicate_zero, List.push_toArray, List.append_toArray, List.nil_append, List.cons_append]
  have hw0 : wrap64 ((len : Int) - 1) = (len : Int) - 1 := by unfold wrap64; omega
  gi_wp2
  gi_loopw [3] (fun i wr => ∃ k : Nat, k ≤ len ∧ i = .int .i64 ((len : Int) - 1 - k) ∧ J (upTo bk k) wr ∧ Kb Bs (some b) W wr)
    (fun i _ => (intOf i + 1).toNat)
  case atStart => exact ⟨0, Nat.zero_le _, by simp, h0, Kb.rfl' _ _ _⟩
  case round =>
    obtain ⟨k, hk, rfl, hJs, hnx⟩ := hrel
    by_cases hlt : k < len
    · have hcx : wr.cell? ⟨b, len - 1 - k, none⟩ = _ := (World.cell?_of_block (hnx.2 b rfl)).trans (hc (len - 1 - k) (by omega))
      have hcs : wr.cell? ⟨Bs, 0, none⟩ = some (.slice (some ⟨b, 0, none⟩) len cap) := by rw [← hBs]; simp only [World.cell?, hnx.1]
      obtain ⟨fn, tmps, assign, body, hy, hR⟩ := hY2 k wr hJs hlt
      rw [hbk k] at hy
      dsimp only at hy
      obtain ⟨m, hm⟩ : ∃ m, len - 1 - k = m := ⟨_, rfl⟩
      have hmi : (len : Int) - 1 - k = (m : Int) := by omega
      rw [hm] at hy hcx
      rw [hmi]
      gi_wp2
      refine hR.mono ?_
      rintro e W3 (⟨rfl, hJ3, hk3⟩ | ⟨rfl, hJx3⟩)
      · gi_wp2
        go_roundw
        case rel => exact ⟨k + 1, by omega, by simp; omega, by rw [upTo_succ]; exact hJ3, hnx.trans hk3⟩
        case measure => simp [intOf]
      · gi_wp2
        refine bodyPost_ret (results_none rfl _ _ _) rfl ?_
        exact ⟨⟨_, rfl⟩, .inr ⟨_, ⟨k + 1, by omega, (upTo_succ _ _).symm⟩, hJx3⟩⟩
    · obtain rfl : k = len := by omega
      gi_wp2
      go_end0
      exact ⟨⟨_, rfl⟩, .inl ⟨_, rfl, hJs⟩⟩
set_option maxRecDepth 100000 in
set_option maxHeartbeats 1000000 in
theorem backI1_nil (F : Fence) (n : Nat) (hf : F.fn 122) (hro : F.round = none) (l Bs cap : Nat) (J : List (Nat × Nat) → World → Prop) (W : World) (hBs : W.cell? ⟨Bs, 0, none⟩ = some (.slice none 0 cap)) (h0 : J [] W) :
    CallsIn F n Tryz.prog 122 #[.func (.yield l) #[] #[], .pointer (some ⟨Bs, 0, none⟩)] W fun e W' => (∃ v, e = .returned v) ∧ J [] W' := by
  refine callsIn_of_wp Tryz.func122 rfl hf ?_ hro
  simp only [Tryz.ntmps122, List.size_toArray, List.length_cons, List.length_nil, Nat.reduceAdd, Nat.reduceSub, Array.replicate_succ, Array.replicate_zero, List.push_toArray, List.append_toArray, List.nil_append, List.cons_append]
  gi_wp2
  gi_loopw [3] (fun i wr => i = .int .i64 (-1) ∧ J [] wr) (fun _ _ => 0)
  case atStart => exact ⟨by simp, h0⟩
  case round =>
    obtain ⟨rfl, hJs⟩ := hrel
    gi_wp2
    go_end0
    exact ⟨⟨_, rfl⟩, hJs⟩
set_option maxHeartbeats 1000000 in
theorem backI_in (F : Fence) (n : Nat) (hf : F.fn 89) (hro : F.round = none) (a : Option Addr) (len cap : Nat) (w : World) :
    CallsIn F n Tryz.prog 89 #[.slice a len cap] w fun e w' => e = .returned (.func (.func 122) #[] #[.pointer (some ⟨w.heap.size, 0, none⟩)]) ∧ w' = w.alloc (.cells #[.slice a len cap] 43) := by
  refine callsIn_of_wp Tryz.func89 rfl hf ?_ hro
  simp only [Tryz.ntmps89, List.size_toArray, List.length_cons, List.length_nil, Nat.reduceAdd, Nat.reduceSub, Array.replicate_succ, Array.replicate_zero, List.push_toArray, List.append_toArray, List.nil_append, List.cons_append]
  gi_wp2
  go_ret
  exact ⟨rfl, rfl⟩
theorem natC_getD (xs : List Nat) {j : Nat} (hj : j < xs.length) : (natC xs).getD j (.bool false) = .int .i64 (xs.getD j 0 : Nat) := by
  simp [natC, List.getD_eq_getElem?_getD, hj]
theorem backI_seq (F : Fence) (n : Nat) (hf : F.fn 122) (hro : F.round = none) (hn : 1 ≤ n) (Bs base : Nat) (sv : Value) (xs : List Nat) (hlen : xs.length ≤ 1048576) (w : World) (hBs : Bs < w.heap.size)
    (hc : w.cell? ⟨Bs, 0, none⟩ = some sv) (hI : w.ownsRow base 3 1 sv xs.length (natC xs)) (I : List (Nat × Nat) → World → Prop) (l : Nat) (J Jx : List (Nat × Nat) → World → Prop) (W : World)
    (hY : ∀ pre x W1, J pre W1 → (pre = upTo (bkN xs) pre.length ∧ x = bkN xs pre.length) → pre.length < xs.length → YieldAt F (n - 1) Tryz.prog l #[.int .i64 (x.1 : Int), .int .i64 (x.2 : Int)] W1 fun e W' => (e = .returned (.bool true) ∧ J (pre ++ [x]) W' ∧ Kb Bs sv.ownBlock W1 W') ∨ (e = .returned (.bool false) ∧ Jx (pre ++ [x]) W'))
    (h0 : J [] W) (hW : ∀ b, b < w.heap.size → W.heap[b]? = w.heap[b]?) :
    CallsIn F n Tryz.prog 122 (#[] ++ #[.func (.yield l) #[] #[]] ++ #[.pointer (some ⟨Bs, 0, none⟩)]) W fun e W' => (∃ v, e = .returned v) ∧ ((∃ ys, ys = upTo (bkN xs) xs.length ∧ J ys W') ∨ (∃ pre, True ∧ Jx pre W')) := by
  have hc' : W.cell? ⟨Bs, 0, none⟩ = some sv := (World.cell?_of_block (hW Bs hBs)).trans hc
  rcases hI.2 with ⟨rfl, h2⟩ | ⟨g, cap, cur, rfl, hbg, hgg, _⟩
  · have hx : xs = [] := List.length_eq_zero_iff.1 h2
    subst hx
    exact (backI1_nil F n hf hro l Bs _ J W hc' h0).mono fun e W' ⟨he, hj⟩ => ⟨he, .inl ⟨_, rfl, hj⟩⟩
  · have hr := owns_rowF hI (g := g) rfl
    have hr2 := hr.same (hW g hr.lt)
    exact (backI1_in F n hf hro hn l Bs g cap xs hlen J Jx hY W hc' (fun j hj => by rw [RowF.cell hr2 (by omega), natC_getD xs hj]) h0).mono fun e W' ⟨he, h⟩ => ⟨he, h.elim .inl (fun ⟨pre, _, hj⟩ => .inr ⟨pre, trivial, hj⟩)⟩
end Go.Proofs.YtgnbhhgpaldheaaGreat
