import Derived.RangeFuncNested
import Derived.RangeFuncBound
import Derived.RangeFuncCalls
import Derived.RangeFuncLeaves
import Derived.Shelf.Abstract
import Derived.Shelf.RegionOpen
import Derived.WalkKit
import Derived.OwnWalkIn
import Derived.TacticsInMore
import Derived.LoopNIn
import Derived.LoopIn
import Derived.Test.YtemciphihnpniaaDoorQD
namespace Go.Proofs.YtemciphihnpniaaDoor
open Go Go.RowKit Go.Shelf
set_option linter.unusedVariables false
attribute [local go_sem] Oper.semAt_some

/-- What has come when k rounds are over. -/
def upTo {α : Type} (f : Nat → α) (k : Nat) : List α := (List.range k).map f
theorem upTo_succ {α : Type} (f : Nat → α) (k : Nat) : upTo f (k + 1) = upTo f k ++ [f k] := by simp [upTo, List.range_succ]
theorem upTo_length {α : Type} (f : Nat → α) (k : Nat) : (upTo f k).length = k := by simp [upTo]
/-- What the rounds must leave: what lay below n0, and the box Bs. -/
def Kb (n0 Bs : Nat) (W W' : World) : Prop := Below n0 W W' ∧ W'.heap[Bs]? = W.heap[Bs]?
theorem Kb.trans {n0 Bs : Nat} {A B C : World} (h : Kb n0 Bs A B) (k : Kb n0 Bs B C) : Kb n0 Bs A C := ⟨h.1.trans k.1, k.2.trans h.2⟩
theorem Kb.rfl' (n0 Bs : Nat) (A : World) : Kb n0 Bs A A := ⟨Below.refl _ _, rfl⟩
theorem Kb.put {n0 Bs : Nat} {w : World} (hn : n0 ≤ w.heap.size) (hB : Bs < w.heap.size) (W : World) (l : Nat) (o o' : Obj) (hl : w.heap.size ≤ l) (h : W.heap[l]? = some o) (h1 : o.isCells = false) (h2 : o.isWalk = false) : Kb n0 Bs W (W.putObj l o') :=
  ⟨belowK_b hn W l o o' hl h h1 h2, World.putObj_heap_other (fun e => by omega)⟩
theorem Kb.alloc {n0 Bs : Nat} {W : World} (hn : n0 ≤ W.heap.size) (hB : Bs < W.heap.size) (o : Obj) : Kb n0 Bs W (W.alloc o) :=
  ⟨(Below.refl _ W).alloc hn _, Below.heap_alloc W _ Bs hB⟩
/-- The items from the last on. -/
def bkF (n : Nat) (fs : Nat → Nat × Array Value) : Nat → Nat × Nat × Array Value := fun j => (n - 1 - j, (fs (n - 1 - j)).1, (fs (n - 1 - j)).2)

set_option maxRecDepth 100000 in
set_option maxHeartbeats 2000000 in
theorem backward1_in (F : Fence) (n : Nat) (hf : F.fn 58) (hro : F.round = none) (hn : 1 ≤ n) (l Bs n0 b len cap : Nat) (fs : Nat → Nat × Array Value) (hlen : len ≤ 1000) (hb : b < n0) (J Jx : List (Nat × Nat × Array Value) → World → Prop)
    (hY : ∀ pre x W, J pre W → pre.length < len → YieldAt F (n - 1) Tryd.prog l #[.int .i64 (x.1 : Int), .func (.func x.2.1) #[] x.2.2] W fun e W' =>
      (e = .returned (.bool true) ∧ J (pre ++ [x]) W' ∧ Kb n0 Bs W W') ∨ (e = .returned (.bool false) ∧ Jx (pre ++ [x]) W'))
    (W : World) (hBs : W.cell? ⟨Bs, 0, none⟩ = some (.slice (some ⟨b, 0, none⟩) len cap)) (hc : ∀ j, j < len → W.cell? ⟨b, j, none⟩ = some (.func (.func (fs j).1) #[] (fs j).2)) (h0 : J [] W) :
    CallsIn F n Tryd.prog 58 #[.func (.yield l) #[] #[], .pointer (some ⟨Bs, 0, none⟩)] W fun e W' => (∃ v, e = .returned v) ∧
      ((∃ ys, ys = upTo (bkF len fs) len ∧ J ys W') ∨ (∃ pre, (∃ k, k ≤ len ∧ pre = upTo (bkF len fs) k) ∧ Jx pre W')) := by
  refine callsIn_of_wp Tryd.func58 rfl hf ?_ hro
  simp only [Tryd.ntmps58, List.size_toArray, List.length_cons, List.length_nil, Nat.reduceAdd, Nat.reduceSub, Array.replicate_succ, Array.replicate_zero, List.push_toArray, List.append_toArray, List.nil_append, List.cons_append]
  have hw0 : wrap64 ((len : Int) - 1) = (len : Int) - 1 := by unfold wrap64; omega
  gi_wp2
  gi_loopw [3] (fun i wr => ∃ k : Nat, k ≤ len ∧ i = .int .i64 ((len : Int) - 1 - k) ∧ J (upTo (bkF len fs) k) wr ∧ Kb n0 Bs W wr)
    (fun i _ => (intOf i + 1).toNat)
  case atStart => exact ⟨0, Nat.zero_le _, by simp, h0, Kb.rfl' _ _ _⟩
  case round =>
    obtain ⟨k, hk, rfl, hJs, hnx⟩ := hrel
    by_cases hlt : k < len
    · have hcx := (hnx.1.cell (p := ⟨b, len - 1 - k, none⟩) hb).trans (hc (len - 1 - k) (by omega))
      have hcs : wr.cell? ⟨Bs, 0, none⟩ = some (.slice (some ⟨b, 0, none⟩) len cap) := by rw [← hBs]; simp only [World.cell?, hnx.2]
      obtain ⟨fn, tmps, assign, body, hy, hR⟩ := hY _ (bkF len fs k) wr hJs (by rw [upTo_length]; exact hlt)
      dsimp only [bkF] at hy
      obtain ⟨m, hm⟩ : ∃ m, len - 1 - k = m := ⟨_, rfl⟩
      have hmi : (len : Int) - 1 - k = (m : Int) := by omega
      rw [hm] at hy hcx
      rw [hmi]
      gi_wp2
      refine hR.mono ?_
      rintro e W3 (⟨rfl, hJ3, hk3⟩ | ⟨rfl, hJx3⟩)
      · gi_wp2
        go_roundw
        case rel => exact ⟨k + 1, by omega, by simp; omega, by rw [upTo_succ]; exact hJ3, hnx.trans hk3⟩
        case measure => simp [intOf]
      · gi_wp2
        refine bodyPost_ret (results_none rfl _ _ _) rfl ?_
        exact ⟨⟨_, rfl⟩, .inr ⟨_, ⟨k + 1, by omega, (upTo_succ _ _).symm⟩, hJx3⟩⟩
    · obtain rfl : k = len := by omega
      gi_wp2
      go_end0
      exact ⟨⟨_, rfl⟩, .inl ⟨_, rfl, hJs⟩⟩

set_option maxRecDepth 100000 in
set_option maxHeartbeats 1000000 in
theorem backward1_nil (F : Fence) (n : Nat) (hf : F.fn 58) (hro : F.round = none) (l Bs : Nat) (J : List (Nat × Nat × Array Value) → World → Prop) (W : World) (hBs : W.cell? ⟨Bs, 0, none⟩ = some (.slice none 0 0)) (h0 : J [] W) :
    CallsIn F n Tryd.prog 58 #[.func (.yield l) #[] #[], .pointer (some ⟨Bs, 0, none⟩)] W fun e W' => (∃ v, e = .returned v) ∧ J [] W' := by
  refine callsIn_of_wp Tryd.func58 rfl hf ?_ hro
  simp only [Tryd.ntmps58, List.size_toArray, List.length_cons, List.length_nil, Nat.reduceAdd, Nat.reduceSub, Array.replicate_succ, Array.replicate_zero, List.push_toArray, List.append_toArray, List.nil_append, List.cons_append]
  gi_wp2
  gi_loopw [3] (fun i wr => i = .int .i64 (-1) ∧ J [] wr) (fun _ _ => 0)
  case atStart => exact ⟨by simp, h0⟩
  case round =>
    obtain ⟨rfl, hJs⟩ := hrel
    gi_wp2
    go_end0
    exact ⟨⟨_, rfl⟩, hJs⟩
set_option maxHeartbeats 1000000 in
theorem backward_in (F : Fence) (n : Nat) (hf : F.fn 40) (hro : F.round = none) (a : Option Addr) (len cap : Nat) (w : World) :
    CallsIn F n Tryd.prog 40 #[.slice a len cap] w fun e w' => e = .returned (.func (.func 58) #[] #[.pointer (some ⟨w.heap.size, 0, none⟩)]) ∧ w' = w.alloc (.cells #[.slice a len cap] 65) := by
  refine callsIn_of_wp Tryd.func40 rfl hf ?_ hro
  simp only [Tryd.ntmps40, List.size_toArray, List.length_cons, List.length_nil, Nat.reduceAdd, Nat.reduceSub, Array.replicate_succ, Array.replicate_zero, List.push_toArray, List.append_toArray, List.nil_append, List.cons_append]
  gi_wp2
  go_ret
  exact ⟨rfl, rfl⟩
/-- A list of items as they lie in memory. -/
def FnsA (w : World) (v : Value) (n : Nat) (fs : Nat → Nat × Array Value) : Prop := SlF w 89 1 v n (fun j => .func (.func (fs j).1) #[] (fs j).2)
theorem backward_stops (F : Fence) (n : Nat) (hf : F.fn 58) (hro : F.round = none) (hn : 1 ≤ n) (Bs len : Nat) (sv : Value) (fs : Nat → Nat × Array Value) (hlen : len ≤ 1000) (w0 w : World) (hB0 : Below w0.heap.size w0 w) (hBs : Bs < w.heap.size)
    (hc : w.cell? ⟨Bs, 0, none⟩ = some sv) (hI : FnsA w0 sv len fs) (hcn : ∀ cap, sv = .slice none 0 cap → cap = 0) :
    SeqStopsK F n Tryd.prog 58 #[.pointer (some ⟨Bs, 0, none⟩)] (fun x : Nat × Nat × Array Value => #[Value.int .i64 (x.1 : Int), .func (.func x.2.1) #[] x.2.2]) (Kb w0.heap.size Bs) (fun ys => ys = upTo (bkF len fs) len)
      (fun pre => ∃ k, k ≤ len ∧ pre = upTo (bkF len fs) k) len w := fun l J Jx W hW _ _ hY h0 => by
  have hc' := (hW.cell (p := ⟨Bs, 0, none⟩) hBs).trans hc
  obtain ⟨a, cap, rfl, hle, ⟨rfl, rfl⟩ | ⟨g, rfl, hr⟩⟩ := hI
  · obtain rfl := hcn cap rfl
    exact (backward1_nil F n hf hro l Bs J W hc' h0).mono fun e W' ⟨he, hj⟩ => ⟨he, .inl ⟨_, rfl, hj⟩⟩
  · have hr2 := (hr.low hB0 hr.lt).low (hW.mono hB0.size) hr.lt
    exact backward1_in F n hf hro hn l Bs w0.heap.size g len cap fs hlen hr.lt J Jx hY W hc' (fun j hj => RowF.cell hr2 (by omega)) h0

end Go.Proofs.YtemciphihnpniaaDoor
namespace Go.Proofs.YtemciphihnpniaaDoor
open Go Go.RowKit Go.Shelf
set_option linter.unusedVariables false
attribute [local go_sem] Oper.semAt_some

theorem cell_blk {A C : World} {b j : Nat} {v : Value} (h : A.cell? ⟨b, j, none⟩ = some v) (e : C.heap[b]? = A.heap[b]?) : C.cell? ⟨b, j, none⟩ = some v := (World.cell?_of_block (a := ⟨b, j, none⟩) e).trans h
theorem cell_blt {A : World} {b j : Nat} {v : Value} (h : A.cell? ⟨b, j, none⟩ = some v) : b < A.heap.size := World.block_lt_of_cell? A ⟨b, j, none⟩ h
/-- What lay in w, S aside, lies there still. -/
def Old (w : World) (S : Nat) (W : World) : Prop := ∀ b, b < w.heap.size → b ≠ S → W.heap[b]? = w.heap[b]?
theorem ItV.same {w w' : World} {S fi : Nat} {it : It} {ci : Array Value} (h : ItV w S it fi ci) (k : Old w S w') : ItV w' S it fi ci := by
  have hr : ∀ {C : Nat} {f : Nat → Bool}, ClF w C f → C ≠ S → ClF w' C f := fun h hC => RowF.same h (k _ (RowF.lt h) hC)
  have hc : ∀ {L j : Nat} {v : Value}, w.cell? ⟨L, j, none⟩ = some v → L ≠ S → w'.cell? ⟨L, j, none⟩ = some v := fun h hL => cell_blk h (k _ (cell_blt h) hL)
  rcases h with ⟨C, hk, hs, h, hC, rfl, rfl⟩ | ⟨C, hk, hs, h, hC, rfl, rfl⟩ | ⟨C, hk, hs, h, hC, rfl, rfl⟩ | ⟨C, L, least, hk, hs, h, hC, hl, hL, hle, rfl, rfl⟩ | ⟨B, hk, h, hB, rfl, rfl⟩ | ⟨B, hk, h, hB, rfl, rfl⟩ | ⟨B, hk, h, hB, rfl, rfl⟩ | ⟨B, hk, h, hB, rfl, rfl⟩ | ⟨A, B, hk, h, h', hA, hB, rfl, rfl⟩ | ⟨C, hk, h, hC, rfl, rfl⟩ | ⟨hk, rfl, rfl⟩
  · exact .single C hk hs (hr h hC) hC
  · exact .opt C hk hs (hr h hC) hC
  · exact .short C hk hs (hr h hC) hC
  · exact .long C L least hk hs (hr h hC) hC (hc hl hL) hL hle
  · exact .place B hk (hc h hB) hB
  · exact .opn B hk (hc h hB) hB
  · exact .shut B hk (hc h hB) hB
  · exact .back B hk (hc h hB) hB
  · exact .pair A B hk (hc h hA) (hc h' hB) hA hB
  · exact .edge C hk (hr h hC) hC
  · exact .fin hk
/-- An item is right as long as what lay in w lies there. -/
theorem itv_old (X : Sx) (pl : Nat → Bool) (pre : List It) (it : It) (fi : Nat) (ci : Array Value) (w : World) (hs : X.s.size ≤ 65536) (hp : PreOk pl pre it) (h : ItV w X.S it fi ci) : ItOk X pl pre it fi ci (fun W => w.heap.size ≤ W.heap.size ∧ Old w X.S W) := by
  have h1 := itv_ok X pl pre it fi ci w hs hp h
  exact ⟨h1.en, fun A C hA k => ⟨Nat.le_trans hA.1 k.size, fun b hb hS => (k.block b (by omega) hS).trans (hA.2 b hb hS)⟩, fun nx fn bd cs D at_ σ nt to_ W a1 a2 a3 a4 a5 a6 a7 a8 a9 => h1.go nx fn bd cs D at_ σ nt to_ W a1 a2 a3 (h.same a4.2) a5 a6 a7 a8 a9⟩
/-- D speaks of the blocks below Bd alone, and neither of S nor of NX. -/
def Only (S NX Bd : Nat) (D : World → Prop) : Prop := ∀ A C, D A → A.heap.size ≤ C.heap.size → (∀ b, b < Bd → b < A.heap.size → b ≠ S → b ≠ NX → C.heap[b]? = A.heap[b]?) → D C
theorem Only.mono {S NX Bd Bd' : Nat} {D : World → Prop} (h : Only S NX Bd D) (hb : Bd ≤ Bd') : Only S NX Bd' D := fun A C hA hz hC => h A C hA hz (fun b h1 h0 h2 h3 => hC b (by omega) h0 h2 h3)
/-- A way, whatever the rest of the search. -/
def WyA (S : Nat) (s : ByteArray) (its pre : List It) (nx : Nx) (fn : Nat) (bd cs : Array Value) (D : World → Prop) : Prop := ∀ X : Sx, X.S = S → X.s = s → X.its = its → WyOk X pre nx fn bd cs D
/-- The way's value between two rounds. -/
def ThI (S : Nat) (s : ByteArray) (t : Pt) (fs : Nat → Nat × Array Value) (w : World) (B0 : Nat) (pre : List (Nat × Nat × Array Value)) (W : World) : Prop :=
  ∃ fn bd cs D, Boxed W (w.heap.size + 1) 71 (.func (.func fn) bd cs) ∧ OwnFrom B0 (fun (_ : Unit) W => D W) ∧ D W ∧ Only S (w.heap.size + 1) W.heap.size D ∧
    (pre = upTo (bkF t.items.length fs) pre.length → pre.length ≤ t.items.length → WyA S s t.items (t.items.take (t.items.length - pre.length)) (tryM s t.place (t.items.drop (t.items.length - pre.length))) fn bd cs D)
theorem thI_own (S : Nat) (s : ByteArray) (t : Pt) (fs : Nat → Nat × Array Value) (w : World) (B0 : Nat) : OwnFrom B0 (ThI S s t fs w B0) := by
  rintro pre A C row ⟨fn, bd, cs, D, h1, h2, h3, h4, h5⟩ hg hr
  exact ⟨fn, bd, cs, D, boxed_own (w.heap.size + 1) _ (fun (_ : Unit) => Value.func (.func fn) bd cs) () A C row h1 hg (fun r e => (hr r e).2), h2, h2 () A C row h3 hg hr, h4.mono hg.size, h5⟩
theorem upTo_snoc {α : Type} {f : Nat → α} {pre : List α} {x : α} (h : pre ++ [x] = upTo f (pre ++ [x]).length) : pre = upTo f pre.length ∧ x = f pre.length := by
  rw [List.length_append, List.length_singleton, upTo_succ] at h
  have h1 := List.append_inj' h rfl
  exact ⟨h1.1, by simpa using h1.2⟩
/-- One round: another item ahead of the way. -/
theorem thI_step (S : Nat) (s : ByteArray) (t : Pt) (fs : Nat → Nat × Array Value) (w : World) (B0 : Nat) (hs : s.size ≤ 65536) (hk : PtK t) (hS : S < w.heap.size) (hB0 : w.heap.size + 1 < B0) (hi : ∀ j (hj : j < t.items.length), ItV w S t.items[j] (fs j).1 (fs j).2)
    (pre : List (Nat × Nat × Array Value)) (x : Nat × Nat × Array Value) (W W' : World) (fn : Nat) (bd cs : Array Value) (D : World → Prop) (Bx Bn : Nat)
    (h2 : OwnFrom B0 (fun (_ : Unit) W => D W)) (h3 : D W) (h4 : Only S (w.heap.size + 1) W.heap.size D)
    (h5 : pre = upTo (bkF t.items.length fs) pre.length → pre.length ≤ t.items.length → WyA S s t.items (t.items.take (t.items.length - pre.length)) (tryM s t.place (t.items.drop (t.items.length - pre.length))) fn bd cs D)
    (hb : Boxed W w.heap.size 42 (.pointer (some ⟨S, 0, none⟩))) (hB : Below w.heap.size w W)
    (hsz : W.heap.size ≤ W'.heap.size) (hW : ∀ b, b < W.heap.size → b ≠ w.heap.size + 1 → W'.heap[b]? = W.heap[b]?)
    (b1 : Boxed W' (w.heap.size + 1) 71 (.func (.func 41) #[] #[.pointer (some ⟨w.heap.size, 0, none⟩), .pointer (some ⟨Bx, 0, none⟩), .pointer (some ⟨Bn, 0, none⟩)]))
    (b2 : Boxed W' Bx 89 (.func (.func x.2.1) #[] x.2.2)) (b3 : Boxed W' Bn 71 (.func (.func fn) bd cs)) (hx : w.heap.size + 1 < Bx) (hn : w.heap.size + 1 < Bn) :
    ThI S s t fs w B0 (pre ++ [x]) W' := by
  have hD : D W' := h4 W W' h3 hsz (fun b c1 _ c2 c3 => hW b c1 c3)
  have hold : w.heap.size ≤ W'.heap.size ∧ Old w S W' := ⟨Nat.le_trans hB.size hsz, fun b c1 c2 => (hW b (Nat.lt_of_lt_of_le c1 hB.size) (by omega)).trans (hB.block b c1)⟩
  have hb' : Boxed W' w.heap.size 42 (.pointer (some ⟨S, 0, none⟩)) := (hW _ hb.lt (by omega)).trans hb
  by_cases hg : pre ++ [x] = upTo (bkF t.items.length fs) (pre ++ [x]).length ∧ (pre ++ [x]).length ≤ t.items.length
  · obtain ⟨hp, hxe⟩ := upTo_snoc hg.1
    have hl := hg.2
    rw [List.length_append, List.length_singleton] at hl
    have hw := h5 hp (by omega)
    obtain ⟨j, hj⟩ : ∃ j, t.items.length - (pre.length + 1) = j := ⟨_, rfl⟩
    have hj1 : t.items.length - pre.length = j + 1 := by omega
    have hj2 : j < t.items.length := by omega
    rw [hj1] at hw
    have hx1 : x.2.1 = (fs j).1 ∧ x.2.2 = (fs j).2 := by
      rw [hxe]
      simp [bkF, show t.items.length - 1 - pre.length = j by omega]
    refine ⟨_, _, _, fun C => C.cell? ⟨w.heap.size, 0, none⟩ = some (.pointer (some ⟨S, 0, none⟩)) ∧ C.cell? ⟨Bx, 0, none⟩ = some (.func (.func x.2.1) #[] x.2.2) ∧ C.cell? ⟨Bn, 0, none⟩ = some (.func (.func fn) bd cs) ∧ (w.heap.size ≤ C.heap.size ∧ Old w S C) ∧ D C, b1, ?_, ⟨hb'.cell, b2.cell, b3.cell, hold, hD⟩, ?_, fun _ _ => ?_⟩
    · rintro _ A C row ⟨c1, c2, c3, c4, c5⟩ hg hr
      have hr' := fun r e => (hr r e).2
      exact ⟨cell_kept c1 hg hr', cell_kept c2 hg hr', cell_kept c3 hg hr', ⟨Nat.le_trans c4.1 hg.size, fun b d1 d2 => (hg.block b (by omega) (fun e => by have := (hr b e.symm).1; omega)).trans (c4.2 b d1 d2)⟩, h2 () A C row c5 hg hr⟩
    · rintro A C ⟨c1, c2, c3, c4, c5⟩ hz hC
      exact ⟨cell_blk c1 (hC _ hb'.lt (cell_blt c1) (by omega) (by omega)), cell_blk c2 (hC _ b2.lt (cell_blt c2) (by omega) (by omega)), cell_blk c3 (hC _ b3.lt (cell_blt c3) (by omega) (by omega)), ⟨Nat.le_trans c4.1 hz, fun b d1 d2 => (hC b (by have := hold.1; omega) (by have := c4.1; omega) d2 (by omega)).trans (c4.2 b d1 d2)⟩, h4 A C c5 hz (fun b e1 e0 e2 e3 => hC b (by omega) e0 e2 e3)⟩
    · rw [List.length_append, List.length_singleton, hj]
      intro X e1 e2 e3
      subst e1 e2
      have h6 := hw X rfl rfl e3
      rw [List.take_succ_eq_append_getElem hj2] at h6
      rw [List.drop_eq_getElem_cons hj2]
      have h7 := itv_old X t.place (t.items.take j) t.items[j] (fs j).1 (fs j).2 w hs (hk.preOk hj2) (hi j hj2)
      rw [← hx1.1, ← hx1.2] at h7
      exact way_step X t.place (t.items.take j) (t.items.drop (j + 1)) t.items[j] x.2.1 x.2.2 _ fn bd cs D w.heap.size Bx Bn (by omega) (by omega) (by omega) h7 h6
  · exact ⟨_, _, _, fun _ => True, b1, fun _ _ _ _ _ _ _ => trivial, trivial, fun _ _ _ _ _ => trivial, fun e1 e2 => absurd ⟨e1, e2⟩ hg⟩

end Go.Proofs.YtemciphihnpniaaDoor
namespace Go.Proofs.YtemciphihnpniaaDoor
open Go Go.RowKit Go.Shelf
set_option linter.unusedVariables false
attribute [local go_sem] Oper.semAt_some

theorem st_func (P : Program) (w : World) (a : Addr) (m : Mode) (f : Fn) (bd cs : Array Value) : (store a (.func f bd cs) m).run P w = stored P w a (.func f bd cs) m := run_store P w a _ m rfl
attribute [local go_sem] st_func

set_option maxRecDepth 100000 in
set_option maxHeartbeats 2000000 in
theorem through_in (F : Fence) (n : Nat) (hf : F.fn 31) (hf1 : F.fn 40) (hf2 : F.fn 58) (hro : F.round = none) (hn : 3 ≤ n)
    (S : Nat) (s : ByteArray) (t : Pt) (fs : Nat → Nat × Array Value) (a : Option Addr) (cap : Nat) (w : World) (hs : s.size ≤ 65536) (hk : PtK t) (hl : t.items.length ≤ 200) (hS : S < w.heap.size)
    (hv : FnsA w (.slice a t.items.length cap) t.items.length fs) (hcn : ∀ c, Value.slice a t.items.length cap = .slice none 0 c → c = 0) (hi : ∀ j (hj : j < t.items.length), ItV w S t.items[j] (fs j).1 (fs j).2) :
    CallsIn F n Tryd.prog 31 #[.pointer (some ⟨S, 0, none⟩), .slice a t.items.length cap] w fun e w' => Below w.heap.size w w' ∧
      ∃ fn bd cs D, e = .returned (.func (.func fn) bd cs) ∧ D w' ∧ Only S (w.heap.size + 1) w'.heap.size D ∧ WyA S s t.items [] (tryM s t.place t.items) fn bd cs D := by
  have h1 : 1 ≤ n := by omega
  refine callsIn_of_wp_marks Tryd.func31 rfl hf ?_ hro
  simp only [Tryd.ntmps31, List.size_toArray, List.length_cons, List.length_nil, Nat.reduceAdd, Nat.reduceSub, Array.replicate_succ, Array.replicate_zero, List.push_toArray, List.append_toArray, List.nil_append, List.cons_append]
  obtain ⟨len, hlen⟩ : ∃ len, t.items.length = len := ⟨_, rfl⟩
  rw [hlen] at hv hcn hl ⊢
  gi_wp2_with (gi_at_call 40; refine (backward_in F (n - 1) hf1 hro _ _ _ _).mono ?_; rintro e w' ⟨rfl, rfl⟩)
  have bS := ((Boxed.new w 42 (.pointer (some ⟨S, 0, none⟩))).alloc (.cells #[Value.func (.func 39) #[.pointer (some ⟨S, 0, none⟩)] #[]] 71)).alloc (.cells #[.slice a len cap] 65)
  have bN := (Boxed.new (w.alloc (.cells #[.pointer (some ⟨S, 0, none⟩)] 42)) 71 (.func (.func 39) #[.pointer (some ⟨S, 0, none⟩)] #[])).alloc (.cells #[.slice a len cap] 65)
  have bA := Boxed.new ((w.alloc (.cells #[.pointer (some ⟨S, 0, none⟩)] 42)).alloc (.cells #[Value.func (.func 39) #[.pointer (some ⟨S, 0, none⟩)] #[]] 71)) 65 (.slice a len cap)
  have hB0 := b_3 w (.cells #[.pointer (some ⟨S, 0, none⟩)] 42) (.cells #[Value.func (.func 39) #[.pointer (some ⟨S, 0, none⟩)] #[]] 71) (.cells #[.slice a len cap] 65)
  have hsz : (((w.alloc (.cells #[.pointer (some ⟨S, 0, none⟩)] 42)).alloc (.cells #[Value.func (.func 39) #[.pointer (some ⟨S, 0, none⟩)] #[]] 71)).alloc (.cells #[.slice a len cap] 65)).heap.size = w.heap.size + 3 := by simp
  simp only [World.size_alloc] at bN bA
  obtain ⟨W0, hW0⟩ : ∃ W0, ((w.alloc (.cells #[.pointer (some ⟨S, 0, none⟩)] 42)).alloc (.cells #[Value.func (.func 39) #[.pointer (some ⟨S, 0, none⟩)] #[]] 71)).alloc (.cells #[.slice a len cap] 65) = W0 := ⟨_, rfl⟩
  rw [hW0] at bS bN bA hB0 hsz ⊢
  clear hW0
  have h0 : ThI S s t fs w W0.heap.size [] W0 := ⟨_, _, _, fun _ => True, bN, fun _ _ _ _ _ _ _ => trivial, trivial, fun _ _ _ _ _ => trivial, fun _ _ X e1 e2 e3 => by
    subst e1 e2
    simp only [List.length_nil, Nat.sub_zero, List.take_length, List.drop_length]
    rw [← e3]
    exact way_end X t.place⟩
  refine wpIn_rangeFunc_ownH hro h1 (gf := 58) (lb := #[.pointer (some ⟨w.heap.size + 1 + 1, 0, none⟩)]) rfl hf2 (enters_of Tryd.func58 (by kernel_rfl) rfl)
    (backward_stops F (n - 1) hf2 hro (by omega) (w.heap.size + 1 + 1) len _ fs (by omega) w W0 hB0 (by omega) bA.cell hv hcn) Kb.trans (Kb.put (by omega) (by omega)) (Below.refl _ _) (fun _ => rfl)
    (fun pre W => ThI S s t fs w W0.heap.size pre W ∧ Boxed W w.heap.size 42 (.pointer (some ⟨S, 0, none⟩)) ∧ Boxed W (w.heap.size + 1 + 1) 65 (.slice a len cap) ∧ Below w.heap.size w W)
    (fun _ _ _ => False)
    (OwnFrom.and (thI_own S s t fs w W0.heap.size) (OwnFrom.and (Own.from (boxed_own _ _ _) _) (OwnFrom.and (Own.from (boxed_own _ _ _) _) (ownFrom_below (Nat.le_refl _) (by omega)))))
    (fun _ _ _ _ _ hs _ _ => hs)
    ⟨h0, bS, bA, hB0⟩
    (fun x a' W => ∃ Bx, w.heap.size + 1 + 1 < Bx ∧ Boxed W Bx 89 (.func (.func x.2.1) #[] x.2.2) ∧ a' = { tmps := #[Value.pointer (some ⟨S, 0, none⟩), Value.slice a len cap,
          Value.pointer (some ⟨w.heap.size, 0, none⟩), undef, Value.nilFunc, Value.pointer (some ⟨w.heap.size + 1, 0, none⟩), undef, .pointer (some ⟨Bx, 0, none⟩), undef,
          Value.pointer (some ⟨S, 0, none⟩), Value.func (Fn.func 39) #[Value.pointer (some ⟨S, 0, none⟩)] #[], Value.slice a len cap,
          Value.func (Fn.func 58) #[] #[Value.pointer (some ⟨w.heap.size + 1 + 1, 0, none⟩)], .int .i64 (x.1 : Int), .func (.func x.2.1) #[] x.2.2, undef, undef, undef], defers := [] })
    (fun x a' _ X Y row hs hg hr => by obtain ⟨Bx, h1, h2, h3⟩ := hs; exact ⟨Bx, h1, boxed_own Bx 89 (fun (_ : Unit) => Value.func (.func x.2.1) #[] x.2.2) () X Y row h2 hg (fun r e => (hr r e).2), h3⟩)
    ?assign ?body ?done ?stop
  case assign =>
    rintro l pre x W K ⟨hT, bS1, bA1, hB1⟩ hK
    have hz := bA1.lt
    gi_wp2
    refine hK _ _ ((KeepsOthers.alloc _ _).from _) (Kb.alloc hB1.size (by omega) _) ⟨(thI_own S s t fs w W0.heap.size).alloc _ hT, bS1.alloc _, bA1.alloc _, hB1.alloc hB1.size _⟩ ⟨W.heap.size, by omega, Boxed.new W 89 _, rfl⟩
  case body =>
    rintro l pre x a' W hll _ ⟨⟨fn, bd, cs, D, bN1, d1, d2, d3, d4⟩, bS1, bA1, hB1⟩ ⟨Bx, hBx, bX, rfl⟩ hlt
    have cN := bN1.cell
    have bN2 := bN1.alloc (.cells #[.func (.func fn) bd cs] 71)
    have cN2 := bN2.cell
    have fN2 := bN2.frozen
    have HS := hide bS1
    have HA := hide bA1
    have HX := hide bX
    have HD := hide d2
    have H4 := hide d4
    have HN := hide bN2
    clear bS1 bX d2 d4 bA1 bN1 bN2
    gi_wp2
    replace HS := HS.out
    replace HA := HA.out
    replace HX := HX.out
    have hzA := HA.lt
    have hzX := HX.lt
    have hbl : ∀ b, b < W.heap.size → b ≠ w.heap.size + 1 → ((W.alloc (.cells #[.func (.func fn) bd cs] 71)).setCell ⟨w.heap.size + 1, 0, none⟩ (.func (.func 41) #[] #[.pointer (some ⟨w.heap.size, 0, none⟩), .pointer (some ⟨Bx, 0, none⟩), .pointer (some ⟨W.heap.size, 0, none⟩)])).heap[b]? = W.heap[b]? := fun b c1 c2 =>
      (Below.heap_setCell _ _ _ b c2).trans (Below.heap_alloc W _ b c1)
    have hsz2 : W.heap.size ≤ ((W.alloc (.cells #[.func (.func fn) bd cs] 71)).setCell ⟨w.heap.size + 1, 0, none⟩ (.func (.func 41) #[] #[.pointer (some ⟨w.heap.size, 0, none⟩), .pointer (some ⟨Bx, 0, none⟩), .pointer (some ⟨W.heap.size, 0, none⟩)])).heap.size := by simp
    have hBl := ((Below.refl w.heap.size W).alloc hB1.size (.cells #[.func (.func fn) bd cs] 71)).setCell (p := ⟨w.heap.size + 1, 0, none⟩) (by simp) (.func (.func 41) #[] #[.pointer (some ⟨w.heap.size, 0, none⟩), .pointer (some ⟨Bx, 0, none⟩), .pointer (some ⟨W.heap.size, 0, none⟩)])
    exact ⟨((KeepsOthers.alloc _ _).trans (KeepsOthers.setCell _ _ _)).from _, ⟨hBl, hbl _ hzA (by omega)⟩,
      thI_step S s t fs w W0.heap.size hs hk hS (by omega) hi pre x W _ fn bd cs D Bx W.heap.size d1 HD.out d3 H4.out HS hB1 hsz2 hbl (HN.out.set _) ((HX.alloc _).other (by omega) _) ((Boxed.new W _ _).other (by omega) _) (by omega) (by omega),
      (HS.alloc _).other (by omega) _, (HA.alloc _).other (by omega) _, hB1.trans hBl⟩
  case done =>
    rintro D ys W hD rfl ⟨⟨fn, bd, cs, Dp, bN1, d1, d2, d3, d4⟩, bS1, bA1, hB1⟩ hK
    have cN := bN1.cell
    have HD := hide d2
    have H4 := hide d4
    clear bS1 d2 d4 bA1
    gi_wp2
    refine ⟨by simp, .inl ⟨_, _, rfl, run_takeDeferred hK, ?_⟩⟩
    refine ⟨_, results_tmp rfl _ _ _, hB1.trans (belowK_b (w := w) (Nat.le_refl _) W D _ _ (by omega) hK rfl rfl), fn, bd, cs, Dp, rfl, d1.putObj (s := ()) _ HD.out hD hK rfl, d3.mono (by simp), ?_⟩
    have h9 := H4.out (by rw [upTo_length, hlen]) (by rw [upTo_length, hlen]; exact Nat.le_refl _)
    rw [upTo_length, hlen, Nat.sub_self] at h9
    simpa using h9
  case stop =>
    rintro D c pre W _ _ h _
    exact h.elim

/-- The way through a pattern's items: what (*search).through answers goes them all. -/
theorem through_any (S : Nat) (s : ByteArray) (t : Pt) (fs : Nat → Nat × Array Value) (a : Option Addr) (cap : Nat) (w : World) (hs : s.size ≤ 65536) (hk : PtK t) (hl : t.items.length ≤ 200) (hS : S < w.heap.size)
    (hv : FnsA w (.slice a t.items.length cap) t.items.length fs) (hcn : ∀ c, Value.slice a t.items.length cap = .slice none 0 c → c = 0) (hi : ∀ j (hj : j < t.items.length), ItV w S t.items[j] (fs j).1 (fs j).2) :
    Calls Tryd.prog 31 #[.pointer (some ⟨S, 0, none⟩), .slice a t.items.length cap] w fun e w' => Below w.heap.size w w' ∧
      ∃ fn bd cs D, e = .returned (.func (.func fn) bd cs) ∧ D w' ∧ Only S (w.heap.size + 1) w'.heap.size D ∧ WyA S s t.items [] (tryM s t.place t.items) fn bd cs D :=
  (callsIn_wide (n := 3)).1 (through_in Fence.wide 3 trivial trivial trivial rfl (by omega) S s t fs a cap w hs hk hl hS hv hcn hi)
/-- .. and what first_fix, first_free ask of it. -/
theorem WyA.all {S NX Bd B : Nat} {s : ByteArray} {t : Pt} {fn : Nat} {bd cs : Array Value} {D : World → Prop} (h : WyA S s t.items [] (tryM s t.place t.items) fn bd cs D) (ho : Only S NX Bd D) (hB : Bd ≤ B) (X : Sx) (h1 : X.S = S) (h2 : X.s = s) (h3 : X.its = t.items) : WyAll X t.place fn bd cs D B := by
  subst h1 h2
  refine ⟨by rw [h3]; exact h X rfl rfl h3, fun w w' b hD k hb => ?_, fun w w' hD k => ?_⟩
  · exact ho w w' hD k.size fun c c1 c0 c2 c3 => k.block c c0 (by omega)
  · exact ho w w' hD k.size fun c c1 c0 c2 c3 => k.block c c0 (fun x => x)

end Go.Proofs.YtemciphihnpniaaDoor
