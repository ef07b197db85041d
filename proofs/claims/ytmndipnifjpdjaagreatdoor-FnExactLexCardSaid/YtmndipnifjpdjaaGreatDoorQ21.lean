import Derived.BigRegion
import Derived.Deep.RegionWith
import Derived.Test.YtmndipnifjpdjaaGreatDoorQ14
import Derived.Deep.LoopGhost
import Derived.Deep.QuietTactic
import Derived.BigQuiet
import Derived.RegionTactic
import Derived.ChangeAlike
import Derived.Test.YtmndipnifjpdjaaGreatDoorQ20
import Derived.Test.YtmndipnifjpdjaaGreatDoorQ19
namespace Go.Proofs.YtmndipnifjpdjaaGreatDoor
open Go Go.RowKit
set_option linter.unusedVariables false
def TB (D : Nat) (k l a : Int) (x : ByteArray) (i b : Int) (w : World) : Prop := w.heap[D]? = some (.cells #[.int .i64 k, .int .i64 l, .int .i64 a, .string x, .int .i64 i, .int .u64 b] 37 (0, 0))
structure TBC (D : Nat) (k l a : Int) (x : ByteArray) (i b : Int) (w : World) : Prop where
  t0 : w.cell? ⟨D, 0, none⟩ = some (.int .i64 k)
  t1 : w.cell? ⟨D, 1, none⟩ = some (.int .i64 l)
  t2 : w.cell? ⟨D, 2, none⟩ = some (.int .i64 a)
  t3 : w.cell? ⟨D, 3, none⟩ = some (.string x)
  t4 : w.cell? ⟨D, 4, none⟩ = some (.int .i64 i)
  t5 : w.cell? ⟨D, 5, none⟩ = some (.int .u64 b)
  y0 : w.frozen? ⟨D, 0, none⟩ = false
  y3 : w.frozen? ⟨D, 3, none⟩ = false
  y4 : w.frozen? ⟨D, 4, none⟩ = false
  y5 : w.frozen? ⟨D, 5, none⟩ = false
theorem TB.cells {D : Nat} {k l a i b : Int} {x : ByteArray} {w : World} (h : TB D k l a x i b w) : TBC D k l a x i b w := by
  unfold TB at h
  constructor <;> simp [World.cell?, World.frozen?, h]
theorem TB.lt {D : Nat} {k l a i b : Int} {x : ByteArray} {w : World} (h : TB D k l a x i b w) : D < w.heap.size := by
  rcases Nat.lt_or_ge D w.heap.size with g | g
  · exact g
  · unfold TB at h; rw [Array.getElem?_eq_none g] at h; cases h
theorem TB.low {D : Nat} {k l a i b : Int} {x : ByteArray} {w w' : World} (h : TB D k l a x i b w) (hb : Below w.heap.size w w') : TB D k l a x i b w' := by
  unfold TB
  rw [hb.block D h.lt]
  exact h
theorem TB.beside {D S : Nat} {k l a i b : Int} {x : ByteArray} {w w' : World} (h : TB D k l a x i b w) (hg : w.grownBy w' (some S)) (hn : D ≠ S) : TB D k l a x i b w' := by
  unfold TB
  rw [hg.block D h.lt (by simp [hn])]
  exact h
def OneR (s : ByteArray) (S base p : Nat) (L : List (Tk × Nat)) (fl fa : Int) (wb : World) (e : Ending) (w' : World) : Prop :=
  e = .returned (.tuple #[]) ∧ Below wb.heap.size wb w' ∧ base ≤ w'.heap.size ∧
  ((∃ p' L' v', p < p' ∧ p' ≤ s.size ∧ L'.length ≤ p' ∧ Lx s S p' v' 0 fl fa w' ∧ OwnT s w' base v' L' ∧ (Fwd s L p → Fwd s L' p')) ∨
   (∃ (c : Int) (o p' : Nat) (v' : Value), c ≠ 0 ∧ Lx s S p' v' c ((nlc s o : Int) + 1) ((o : Nat) : Int) w' ∧ (Fwd s L p → LexR s 0 (.inr (c, o)))))
structure OneB (s : ByteArray) (S base p : Nat) (L : List (Tk × Nat)) (v : Value) (fl fa : Int) (wb w : World) : Prop where
  hs : s.size ≤ 32768
  hp : p < s.size
  hL : L.length ≤ p
  lx : Lx s S p v 0 fl fa w
  own : OwnT s w base v L
  bel : Below wb.heap.size wb w
  hS : wb.heap.size ≤ S
  hSb : S < base
  hb : base ≤ w.heap.size
theorem OneB.drw {s : ByteArray} {S base p : Nat} {L : List (Tk × Nat)} {v : Value} {fl fa : Int} {wb w : World} (h : OneB s S base p L v fl fa wb w) (n : Nat) : OneB s S base p L v fl fa wb (w.drewN n) :=
  ⟨h.hs, h.hp, h.hL, h.lx, h.own, below_dN h.bel n, h.hS, h.hSb, h.hb⟩
def tokZ (l a : Int) : Array Value := #[.int .i64 0, .int .i64 l, .int .i64 a, .string ⟨#[]⟩, .int .i64 0, .int .u64 0]
theorem OneB.tok {s : ByteArray} {S base p : Nat} {L : List (Tk × Nat)} {v : Value} {fl fa : Int} {wb w : World} (h : OneB s S base p L v fl fa wb w) :
    OneB s S base p L v fl fa wb (w.alloc (.cells (tokZ ((nlc s p : Int) + 1) p) 37)).drew ∧ TB w.heap.size 0 ((nlc s p : Int) + 1) p ⟨#[]⟩ 0 0 (w.alloc (.cells (tokZ ((nlc s p : Int) + 1) p) 37)).drew := by
  have hb : Below w.heap.size w (w.alloc (.cells (tokZ ((nlc s p : Int) + 1) p) 37)).drew := ((Below.refl _ _).alloc (Nat.le_refl _) _).drew
  refine ⟨⟨h.hs, h.hp, h.hL, h.lx.low hb, h.own.low hb, h.bel.trans (hb.mono h.bel.size), h.hS, h.hSb, Nat.le_trans h.hb hb.size⟩, ?_⟩
  exact heap_alloc_new w _
theorem oneR_go {s : ByteArray} {S base p p' : Nat} {L L' : List (Tk × Nat)} {v' : Value} {fl fa : Int} {wb w' : World} (h1 : Below wb.heap.size wb w') (h2 : base ≤ w'.heap.size) (h3 : p < p') (h4 : p' ≤ s.size) (h5 : L'.length ≤ p') (h6 : Lx s S p' v' 0 fl fa w') (h7 : OwnT s w' base v' L') (h8 : Fwd s L p → Fwd s L' p') :
    OneR s S base p L fl fa wb (.returned (.tuple #[])) w' := ⟨rfl, h1, h2, .inl ⟨p', L', v', h3, h4, h5, h6, h7, h8⟩⟩
theorem oneR_bad {s : ByteArray} {S base p p' o : Nat} {L : List (Tk × Nat)} {v' : Value} {c fl fa : Int} {wb w' : World} (h1 : Below wb.heap.size wb w') (h2 : base ≤ w'.heap.size) (h3 : c ≠ 0) (h6 : Lx s S p' v' c ((nlc s o : Int) + 1) ((o : Nat) : Int) w') (h8 : Fwd s L p → LexR s 0 (.inr (c, o))) :
    OneR s S base p L fl fa wb (.returned (.tuple #[])) w' := ⟨rfl, h1, h2, .inr ⟨c, o, p', v', h3, h6, h8⟩⟩
theorem below_on {b S : Nat} {wb w w' : World} (h : Below b wb w) (hg : w.grownBy w' (some S)) (hS : b ≤ S) (hb : b ≤ w.heap.size) : Below b wb w' := h.grown hg hb (fun k hk => by cases hk; exact hS)
set_option maxHeartbeats 3200000 in
set_option maxRecDepth 100000 in
theorem one_blank (s : ByteArray) (S base p : Nat) (L : List (Tk × Nat)) (v : Value) (fl fa : Int) (wb w : World) (h : OneB s S base p L v fl fa wb w) (hbl : isBl (hb s p) = true) :
    Calls Tryz.prog 16 #[.pointer (some ⟨S, 0, none⟩)] w fun e w' => OneR s S base p L fl fa wb e w' := by
  have HH := hide h
  have hs := h.hs
  have hp := h.hp
  have hnl := nlc_le s p
  have hr := hb_rng s p
  clear h
  go_enter Tryz.func16, Tryz.ntmps16
  go_wp2_with fail
  refine (here_any s S p 0 v 0 fl fa _ HH.out.lx hs (by omega) (by omega)).mono ?_
  rintro e w1 ⟨rfl, m0, hw1⟩
  have HH1 : Hid (OneB s S base p L v fl fa wb w1) := hide (by rw [hw1]; exact HH.out.drw m0)
  clear hw1 HH
  rw [Nat.add_zero]
  obtain ⟨c, hc⟩ : ∃ c, hb s p = c := ⟨_, rfl⟩
  have Hc := hide hc
  rw [hc] at hr hbl ⊢
  clear hc
  obtain ⟨c0, c1, c2, c3, c4, c5, c6, z1, z2, z3, z4, z5, z6⟩ := HH1.out.lx.cells
  have hlt := HH1.out.lx.lt
  have HT := hide HH1.out.tok
  have HBL : Hid (isBl c = true) := hide hbl
  have hcc : c = 9 ∨ c = 10 ∨ c = 13 ∨ c = 32 := by
    simp [isBl] at hbl
    omega
  clear hbl
  rcases hcc with rfl | rfl | rfl | rfl
  · go_wp2
    go_region
    clear c0 c1 c2 c3 c4 c5 c6 z1 z2 z3 z4 z5 z6
    go_wp2_with fail
    change Calls _ _ _ (w1.alloc (.cells (tokZ ((nlc s p : Int) + 1) p) 37)).drew _
    obtain ⟨D, hD⟩ : ∃ D, w1.heap.size = D := ⟨_, rfl⟩
    have hDb : base ≤ D := by have := HH1.out.hb; omega
    have hSb := HH1.out.hSb
    rw [hD] at HT ⊢
    generalize hw2 : (w1.alloc (.cells (tokZ ((nlc s p : Int) + 1) p) 37)).drew = w2
    rw [hw2] at HT
    clear hw2 hD HH1 hlt
    have HO := hide HT.out.1
    have HTB := hide HT.out.2
    clear HT
    refine (step_any s S p 1 v 0 fl fa _ HO.out.lx hs (by omega)).mono ?_
    rintro e w3 ⟨rfl, hx3, hg3⟩
    have HX3 := hide hx3
    have HG3 := hide hg3
    clear hx3 hg3
    go_wp2
    refine bodyPost_ret (v := .tuple #[]) (by simp [results, Tryz.results16, go_sem]) rfl ?_
    exact oneR_go (below_on HO.out.bel HG3.out HO.out.hS HO.out.bel.size) (Nat.le_trans HO.out.hb HG3.out.size) (by omega) (by omega) (by have := HO.out.hL; omega) HX3.out (HO.out.own.beside HG3.out hSb) (fun hF => hF.blank (by omega) (by rw [Hc.out]; exact HBL.out))
  · go_wp2
    go_region
    clear c0 c1 c2 c3 c4 c5 c6 z1 z2 z3 z4 z5 z6
    go_wp2_with fail
    change Calls _ _ _ (w1.alloc (.cells (tokZ ((nlc s p : Int) + 1) p) 37)).drew _
    obtain ⟨D, hD⟩ : ∃ D, w1.heap.size = D := ⟨_, rfl⟩
    have hDb : base ≤ D := by have := HH1.out.hb; omega
    have hSb := HH1.out.hSb
    rw [hD] at HT ⊢
    generalize hw2 : (w1.alloc (.cells (tokZ ((nlc s p : Int) + 1) p) 37)).drew = w2
    rw [hw2] at HT
    clear hw2 hD HH1 hlt
    have HO := hide HT.out.1
    have HTB := hide HT.out.2
    clear HT
    refine (step_any s S p 1 v 0 fl fa _ HO.out.lx hs (by omega)).mono ?_
    rintro e w3 ⟨rfl, hx3, hg3⟩
    have HX3 := hide hx3
    have HG3 := hide hg3
    clear hx3 hg3
    go_wp2
    refine bodyPost_ret (v := .tuple #[]) (by simp [results, Tryz.results16, go_sem]) rfl ?_
    exact oneR_go (below_on HO.out.bel HG3.out HO.out.hS HO.out.bel.size) (Nat.le_trans HO.out.hb HG3.out.size) (by omega) (by omega) (by have := HO.out.hL; omega) HX3.out (HO.out.own.beside HG3.out hSb) (fun hF => hF.blank (by omega) (by rw [Hc.out]; exact HBL.out))
  · go_wp2
    go_region
    clear c0 c1 c2 c3 c4 c5 c6 z1 z2 z3 z4 z5 z6
    go_wp2_with fail
    change Calls _ _ _ (w1.alloc (.cells (tokZ ((nlc s p : Int) + 1) p) 37)).drew _
    obtain ⟨D, hD⟩ : ∃ D, w1.heap.size = D := ⟨_, rfl⟩
    have hDb : base ≤ D := by have := HH1.out.hb; omega
    have hSb := HH1.out.hSb
    rw [hD] at HT ⊢
    generalize hw2 : (w1.alloc (.cells (tokZ ((nlc s p : Int) + 1) p) 37)).drew = w2
    rw [hw2] at HT
    clear hw2 hD HH1 hlt
    have HO := hide HT.out.1
    have HTB := hide HT.out.2
    clear HT
    refine (step_any s S p 1 v 0 fl fa _ HO.out.lx hs (by omega)).mono ?_
    rintro e w3 ⟨rfl, hx3, hg3⟩
    have HX3 := hide hx3
    have HG3 := hide hg3
    clear hx3 hg3
    go_wp2
    refine bodyPost_ret (v := .tuple #[]) (by simp [results, Tryz.results16, go_sem]) rfl ?_
    exact oneR_go (below_on HO.out.bel HG3.out HO.out.hS HO.out.bel.size) (Nat.le_trans HO.out.hb HG3.out.size) (by omega) (by omega) (by have := HO.out.hL; omega) HX3.out (HO.out.own.beside HG3.out hSb) (fun hF => hF.blank (by omega) (by rw [Hc.out]; exact HBL.out))
  · go_wp2
    go_region
    clear c0 c1 c2 c3 c4 c5 c6 z1 z2 z3 z4 z5 z6
    go_wp2_with fail
    change Calls _ _ _ (w1.alloc (.cells (tokZ ((nlc s p : Int) + 1) p) 37)).drew _
    obtain ⟨D, hD⟩ : ∃ D, w1.heap.size = D := ⟨_, rfl⟩
    have hDb : base ≤ D := by have := HH1.out.hb; omega
    have hSb := HH1.out.hSb
    rw [hD] at HT ⊢
    generalize hw2 : (w1.alloc (.cells (tokZ ((nlc s p : Int) + 1) p) 37)).drew = w2
    rw [hw2] at HT
    clear hw2 hD HH1 hlt
    have HO := hide HT.out.1
    have HTB := hide HT.out.2
    clear HT
    refine (step_any s S p 1 v 0 fl fa _ HO.out.lx hs (by omega)).mono ?_
    rintro e w3 ⟨rfl, hx3, hg3⟩
    have HX3 := hide hx3
    have HG3 := hide hg3
    clear hx3 hg3
    go_wp2
    refine bodyPost_ret (v := .tuple #[]) (by simp [results, Tryz.results16, go_sem]) rfl ?_
    exact oneR_go (below_on HO.out.bel HG3.out HO.out.hS HO.out.bel.size) (Nat.le_trans HO.out.hb HG3.out.size) (by omega) (by omega) (by have := HO.out.hL; omega) HX3.out (HO.out.own.beside HG3.out hSb) (fun hF => hF.blank (by omega) (by rw [Hc.out]; exact HBL.out))
end Go.Proofs.YtmndipnifjpdjaaGreatDoor
namespace Go.Proofs.YtmndipnifjpdjaaGreatDoor
open Go Go.RowKit
set_option linter.unusedVariables false
structure DecAt (w : World) (g : Nat) (D : Nat → Int) (nd dp : Int) (tr : Bool) : Prop where
  lt : g < w.heap.size
  fr : ∀ k, w.frozen? ⟨g, k, none⟩ = false
  dig : ∀ k, k < 800 → w.cell? ⟨g, k, none⟩ = some (.int .u8 (D k))
  nd : w.cell? ⟨g, 800, none⟩ = some (.int .i64 nd)
  dp : w.cell? ⟨g, 801, none⟩ = some (.int .i64 dp)
  neg : w.cell? ⟨g, 802, none⟩ = some (.bool false)
  tr : w.cell? ⟨g, 803, none⟩ = some (.bool tr)
theorem addr_ne {g i j : Nat} (h : i ≠ j) : (⟨g, i, none⟩ : Addr) ≠ ⟨g, j, none⟩ := by
  intro e; cases e; exact h rfl
theorem DecAt.setNd {w : World} {g : Nat} {D : Nat → Int} {nd dp : Int} {tr : Bool} (h : DecAt w g D nd dp tr) (x : Int) : DecAt (w.setCell ⟨g, 800, none⟩ (.int .i64 x)) g D x dp tr := {
  lt := by simpa using h.lt
  fr := fun k => by simpa using h.fr k
  dig := fun k hk => (World.cell?_setCell_other _ _ _ _ (addr_ne (by omega))).trans (h.dig k hk)
  nd := World.cell?_setCell_same _ _ _ h.nd
  dp := (World.cell?_setCell_other _ _ _ _ (addr_ne (by omega))).trans h.dp
  neg := (World.cell?_setCell_other _ _ _ _ (addr_ne (by omega))).trans h.neg
  tr := (World.cell?_setCell_other _ _ _ _ (addr_ne (by omega))).trans h.tr }
theorem DecAt.setDp {w : World} {g : Nat} {D : Nat → Int} {nd dp : Int} {tr : Bool} (h : DecAt w g D nd dp tr) (x : Int) : DecAt (w.setCell ⟨g, 801, none⟩ (.int .i64 x)) g D nd x tr := {
  lt := by simpa using h.lt
  fr := fun k => by simpa using h.fr k
  dig := fun k hk => (World.cell?_setCell_other _ _ _ _ (addr_ne (by omega))).trans (h.dig k hk)
  nd := (World.cell?_setCell_other _ _ _ _ (addr_ne (by omega))).trans h.nd
  dp := World.cell?_setCell_same _ _ _ h.dp
  neg := (World.cell?_setCell_other _ _ _ _ (addr_ne (by omega))).trans h.neg
  tr := (World.cell?_setCell_other _ _ _ _ (addr_ne (by omega))).trans h.tr }
theorem DecAt.setTr {w : World} {g : Nat} {D : Nat → Int} {nd dp : Int} {tr : Bool} (h : DecAt w g D nd dp tr) (x : Bool) : DecAt (w.setCell ⟨g, 803, none⟩ (.bool x)) g D nd dp x := {
  lt := by simpa using h.lt
  fr := fun k => by simpa using h.fr k
  dig := fun k hk => (World.cell?_setCell_other _ _ _ _ (addr_ne (by omega))).trans (h.dig k hk)
  nd := (World.cell?_setCell_other _ _ _ _ (addr_ne (by omega))).trans h.nd
  dp := (World.cell?_setCell_other _ _ _ _ (addr_ne (by omega))).trans h.dp
  neg := (World.cell?_setCell_other _ _ _ _ (addr_ne (by omega))).trans h.neg
  tr := World.cell?_setCell_same _ _ _ h.tr }
theorem DecAt.drewN {w : World} {g : Nat} {D : Nat → Int} {nd dp : Int} {tr : Bool} (h : DecAt w g D nd dp tr) (n : Nat) : DecAt (w.drewN n) g D nd dp tr :=
  ⟨h.lt, h.fr, h.dig, h.nd, h.dp, h.neg, h.tr⟩
theorem below_drewN {B : Nat} {a w : World} (h : Below B a w) (n : Nat) : Below B a (w.drewN n) := ⟨h.os, h.tape, h.output, h.size, h.block⟩
def updD (D : Nat → Int) (k : Nat) (x : Int) : Nat → Int := fun j => if j = k then x else D j
theorem updD_same (D : Nat → Int) (k : Nat) (x : Int) : updD D k x k = x := by simp [updD]
theorem updD_other {D : Nat → Int} {k j : Nat} {x : Int} (h : j ≠ k) : updD D k x j = D j := by simp [updD, h]
theorem DecAt.setDig {w : World} {g : Nat} {D : Nat → Int} {nd dp : Int} {tr : Bool} (h : DecAt w g D nd dp tr) {k : Nat} (hk : k < 800) (x : Int) : DecAt (w.setCell ⟨g, k, none⟩ (.int .u8 x)) g (updD D k x) nd dp tr := {
  lt := by simpa using h.lt
  fr := fun k => by simpa using h.fr k
  dig := fun j hj => by
    by_cases e : j = k
    · subst e; rw [updD_same]; exact World.cell?_setCell_same _ _ _ (h.dig j hj)
    · rw [updD_other e]; exact (World.cell?_setCell_other _ _ _ _ (addr_ne (by omega))).trans (h.dig j hj)
  nd := (World.cell?_setCell_other _ _ _ _ (addr_ne (by omega))).trans h.nd
  dp := (World.cell?_setCell_other _ _ _ _ (addr_ne (by omega))).trans h.dp
  neg := (World.cell?_setCell_other _ _ _ _ (addr_ne (by omega))).trans h.neg
  tr := (World.cell?_setCell_other _ _ _ _ (addr_ne (by omega))).trans h.tr }
def trimN (D : Nat → Int) : Nat → Nat
  | 0 => 0
  | n + 1 => if D n = 48 then trimN D n else n + 1
def trimDp (n : Nat) (dp : Int) : Int := if n = 0 then 0 else dp
theorem trimN_pos {D : Nat → Int} {n m : Nat} (h : m = n + 1) (hd : D n = 48) : trimN D m = trimN D n := by subst h; simp [trimN, hd]
theorem trimN_stop {D : Nat → Int} {n m : Nat} (h : m = n + 1) (hd : D n ≠ 48) : trimN D m = m := by subst h; simp [trimN, hd]
set_option maxHeartbeats 800000 in
set_option maxRecDepth 100000 in
theorem trimD_any (g n : Nat) (D : Nat → Int) (dp : Int) (tr : Bool) (w : World) (h : DecAt w g D n dp tr) (hn : n ≤ 800) :
    Calls Tryz.prog 267 #[.pointer (some ⟨g, 0, none⟩)] w fun e w' => e = .returned (.tuple #[]) ∧ DecAt w' g D (trimN D n) (trimDp (trimN D n) dp) tr ∧ Below g w w' := by
  have H := hide h
  go_enter Tryz.func267, Tryz.ntmps267
  go_wp2
  go_loopg [] n (fun gk wr => ∃ m : Nat, gk = m ∧ m ≤ 800 ∧ DecAt wr g D m dp tr ∧ Hid (trimN D m = trimN D n) ∧ Below g w wr)
  case atStart => exact ⟨n, rfl, hn, H.out, hide rfl, Below.refl _ _⟩
  case round =>
    obtain ⟨m, rfl, hm, hd, Ht, hb⟩ := hrel
    have c0 := hd.nd
    have c9 := hd.dp
    have f0 := hd.fr
    have Hd := hide hd
    have Hb := hide hb
    clear hd hb h H
    by_cases hz : gk = 0
    · subst hz
      go_wp2
      go_quiet (fail)
      go_wp2
      go_end0
      have e := Ht.out
      have hdn := (Hd.out.drewN nq).setDp 0
      have e0 : trimN D n = 0 := e.symm
      rw [e0]
      exact ⟨rfl, hdn, (below_drewN Hb.out nq).setCell (Nat.le_refl _) _⟩
    · have c1 := Hd.out.dig (gk - 1) (by omega)
      have hi : ((gk : Int) - 1).toNat = gk - 1 := by omega
      have hp : (0 : Int) < (gk : Int) := by omega
      have hp2 : 0 < gk := by omega
      have hp3 : decide ((0 : Int) < (gk : Int)) = true := by simp; omega
      have hp4 : decide (0 < gk) = true := by simp; omega
      have hb0 : (0 : Int) ≤ (gk : Int) - 1 := by omega
      have hb1 : (gk : Int) - 1 < 800 := by omega
      by_cases hv : D (gk - 1) = 48
      · have hvb : (D (gk - 1) == 48) = true := by rw [hv]; rfl
        have Hv := hide hv
        clear hv
        go_wp2
        go_quiet (fail)
        go_wp2
        go_roundg (gk - 1)
        case rel =>
          refine ⟨gk - 1, rfl, by omega, ?_, hide ?_, ?_⟩
          · have hdn := (Hd.out.drewN nq).setNd ((gk - 1 : Nat) : Int)
            have e : ((gk - 1 : Nat) : Int) = (gk : Int) - 1 := by omega
            rw [e] at hdn ⊢
            exact hdn
          · rw [← Ht.out]; exact (trimN_pos (by omega) Hv.out).symm
          · exact (below_drewN Hb.out nq).setCell (Nat.le_refl _) _
        case measure => omega
      · have hvb : (D (gk - 1) == 48) = false := by rw [beq_eq_false_iff_ne]; exact hv
        have Hv := hide hv
        clear hv
        go_wp2
        go_quiet (fail)
        go_wp2
        go_end0
        have e := Ht.out
        have e0 : trimN D n = gk := by rw [← e]; exact trimN_stop (by omega) Hv.out
        rw [e0]
        refine ⟨rfl, ?_, below_drewN Hb.out nq⟩
        have : trimDp gk dp = dp := by unfold trimDp; rw [if_neg hz]
        rw [this]
        exact Hd.out.drewN nq
end Go.Proofs.YtmndipnifjpdjaaGreatDoor
namespace Go.Proofs.YtmndipnifjpdjaaGreatDoor
open Go Go.RowKit
set_option linter.unusedVariables false
set_option maxHeartbeats 800000 in
theorem areDigits_any (s : ByteArray) (w : World) (hs : s.size ≤ 140737488351232) :
    Calls Tryz.prog 222 #[.string s] w fun e w' => e = .returned (.bool (allDig (bs s))) ∧ w' = w := by
  have Hl := hide (bs_length s)
  go_enter Tryz.func222, Tryz.ntmps222
  go_wp2
  go_loop [6] (fun iv => ∃ (k : Nat), k ≤ s.size ∧ iv = .int .i64 k ∧ Hid (∀ j, j < k → isDigI ((bs s).getD j 0) = true)) (fun iv => s.size - (intOf iv).toNat)
  case atStart => exact ⟨0, Nat.zero_le _, rfl, hide (fun j hj => by omega)⟩
  case round =>
    obtain ⟨k, hk, rfl, Ha⟩ := hrel
    by_cases hlt : k < s.size
    · have Hg := hide (bs_getD hlt)
      have hb0 : (0 : Int) ≤ ((s[k].toNat : Nat) : Int) := by omega
      by_cases hd : 48 ≤ ((s[k].toNat : Nat) : Int) ∧ ((s[k].toNat : Nat) : Int) ≤ 57
      · have Hd : Hid (isDigI ((s[k].toNat : Nat) : Int) = true) := hide (by simp [isDigI, hd])
        obtain ⟨hd1, hd2⟩ := hd
        go_wp2
        go_round
        case rel => exact ⟨k + 1, by omega, by go_num, hide (fun j hj => by
          by_cases e : j = k
          · subst e; rw [Hg.out]; exact Hd.out
          · exact Ha.out j (by omega))⟩
        case measure => simp [intOf]; omega
      · have Hf := hide (allDig_false (l := bs s) (k := k) (by rw [Hl.out]; exact hlt) (by rw [Hg.out]; simp [isDigI]; omega))
        go_wp2
        all_goals go_ret
        all_goals exact ⟨by rw [Hf.out]; rfl, rfl⟩
    · have HA : Hid (allDig (bs s) = true) := hide (allDig_true (fun j hj => Ha.out j (by rw [Hl.out] at hj; omega)))
      go_wp2
      go_ret
      exact ⟨by rw [HA.out]; rfl, rfl⟩
end Go.Proofs.YtmndipnifjpdjaaGreatDoor
namespace Go.Proofs.YtmndipnifjpdjaaGreatDoor
open Go Go.RowKit
set_option linter.unusedVariables false
theorem expB_some (l : List Int) : (expB l).isSome = (decide (1 ≤ l.length) && decide (l.length ≤ 3) && allDig l) := by
  unfold expB
  split
  · rename_i h; simp [h.1, h.2.1, h.2.2]
  · rename_i h
    symm
    simp only [Option.isSome_none, Bool.and_eq_false_iff, decide_eq_false_iff_not]
    by_cases h1 : 1 ≤ l.length
    · by_cases h2 : l.length ≤ 3
      · right
        cases h3 : allDig l
        · rfl
        · exact absurd ⟨h1, h2, h3⟩ h
      · left; right; exact h2
    · left; left; exact h1
theorem expB_out {d : ByteArray} (h : d.size < 1 ∨ 3 < d.size) : (expB (bs d)).isSome = false := by
  rw [expB_len (by rw [bs_length]; exact h)]; rfl
theorem expB_in {d : ByteArray} (h1 : 1 ≤ d.size) (h3 : d.size ≤ 3) : (expB (bs d)).isSome = allDig (bs d) := by
  rw [expB_some, bs_length]; simp [h1, h3]
theorem isEmpty_true {s : ByteArray} (h : s.size = 0) : s.toList.isEmpty = true := by
  have := isEmpty_size s
  rw [h] at this
  simpa using this
theorem isEmpty_false {s : ByteArray} (h : 0 < s.size) : s.toList.isEmpty = false := by
  have := isEmpty_size s
  rw [decide_eq_true h] at this
  simpa using this
set_option maxHeartbeats 800000 in
theorem isExp_0 (s : ByteArray) (w : World) (h0 : s.size = 0) :
    Calls Tryz.prog 237 #[.string s] w fun e w' => e = .returned (.bool (expS (bs s)).isSome) ∧ w' = w := by
  have he := isEmpty_true h0
  have HR : Hid ((expS (bs s)).isSome = false) := hide (by
    have : bs s = [] := List.eq_nil_of_length_eq_zero (by rw [bs_length]; exact h0)
    rw [this]; rfl)
  have hle : s.size < 1 := by omega
  clear h0
  go_enter Tryz.func237, Tryz.ntmps237
  go_wp2
  all_goals go_ret
  all_goals exact ⟨by rw [HR.out]; rfl, rfl⟩
set_option maxHeartbeats 1600000 in
theorem isExp_sign (s : ByteArray) (w : World) (hs : s.size ≤ 100) (h0 : 0 < s.size)
    (hc : (((s[0].toNat : Nat) : Int) == 43) = true ∨ ((((s[0].toNat : Nat) : Int) == 43) = false ∧ (((s[0].toNat : Nat) : Int) == 45) = true))
    (HR : Hid ((expS (bs s)).isSome = (expB (bs (s.extract 1 s.size))).isSome)) :
    Calls Tryz.prog 237 #[.string s] w fun e w' => e = .returned (.bool (expS (bs s)).isSome) ∧ w' = w := by
  have he := isEmpty_false h0
  have hsz := size_tail s
  have Hsz := hide hsz
  by_cases hg : 2 ≤ s.size ∧ s.size ≤ 4
  · obtain ⟨hg1, hg2⟩ := hg
    have HB : Hid ((expB (bs (s.extract 1 s.size))).isSome = allDig (bs (s.extract 1 s.size))) := hide (expB_in (by rw [hsz]; omega) (by rw [hsz]; omega))
    have hle : (s.extract 1 s.size).size ≤ 140737488351232 := by rw [hsz]; omega
    clear hsz
    rcases hc with hc | ⟨hc1, hc2⟩
    all_goals go_enter Tryz.func237, Tryz.ntmps237
    all_goals go_wp2_with (go_at_call 222; refine (areDigits_any (s.extract 1 s.size) _ hle).mono ?_; rintro e w' ⟨rfl, rfl⟩)
    all_goals go_ret
    all_goals exact ⟨by rw [HR.out, HB.out]; rfl, rfl⟩
  · have HB : Hid ((expB (bs (s.extract 1 s.size))).isSome = false) := hide (expB_out (by rw [hsz]; omega))
    clear hsz
    by_cases hg1 : s.size < 2
    all_goals rcases hc with hc | ⟨hc1, hc2⟩
    all_goals go_enter Tryz.func237, Tryz.ntmps237
    all_goals go_wp2_with fail
    all_goals go_ret
    all_goals exact ⟨by rw [HR.out, HB.out]; rfl, rfl⟩
set_option maxHeartbeats 1600000 in
theorem isExp_plain (s : ByteArray) (w : World) (hs : s.size ≤ 100) (h0 : 0 < s.size)
    (hc1 : (((s[0].toNat : Nat) : Int) == 43) = false) (hc2 : (((s[0].toNat : Nat) : Int) == 45) = false)
    (HR : Hid ((expS (bs s)).isSome = (expB (bs s)).isSome)) :
    Calls Tryz.prog 237 #[.string s] w fun e w' => e = .returned (.bool (expS (bs s)).isSome) ∧ w' = w := by
  have he := isEmpty_false h0
  by_cases hg : s.size ≤ 3
  · have HB : Hid ((expB (bs s)).isSome = allDig (bs s)) := hide (expB_in (by omega) hg)
    have hle : s.size ≤ 140737488351232 := by omega
    go_enter Tryz.func237, Tryz.ntmps237
    go_wp2_with (go_at_call 222; refine (areDigits_any s _ hle).mono ?_; rintro e w' ⟨rfl, rfl⟩)
    go_ret
    exact ⟨by rw [HR.out, HB.out]; rfl, rfl⟩
  · have HB : Hid ((expB (bs s)).isSome = false) := hide (expB_out (by omega))
    go_enter Tryz.func237, Tryz.ntmps237
    go_wp2_with fail
    go_ret
    exact ⟨by rw [HR.out, HB.out]; rfl, rfl⟩
theorem isExp_any (s : ByteArray) (w : World) (hs : s.size ≤ 100) :
    Calls Tryz.prog 237 #[.string s] w fun e w' => e = .returned (.bool (expS (bs s)).isSome) ∧ w' = w := by
  by_cases h0 : s.size = 0
  · exact isExp_0 s w h0
  · have h1 : 0 < s.size := by omega
    have hg := bs_getD h1
    by_cases m1 : ((s[0].toNat : Nat) : Int) = 45
    · refine isExp_sign s w hs h1 (.inr ⟨by rw [m1]; rfl, by rw [m1]; rfl⟩) (hide ?_)
      unfold expS; rw [hg, if_pos m1, bs_tail]; simp
    · by_cases m2 : ((s[0].toNat : Nat) : Int) = 43
      · refine isExp_sign s w hs h1 (.inl (by rw [m2]; rfl)) (hide ?_)
        unfold expS; rw [hg, if_neg m1, if_pos m2, bs_tail]
      · refine isExp_plain s w hs h1 (by rw [beq_eq_false_iff_ne]; exact m2) (by rw [beq_eq_false_iff_ne]; exact m1) (hide ?_)
        unfold expS; rw [hg, if_neg m1, if_neg m2]
end Go.Proofs.YtmndipnifjpdjaaGreatDoor
namespace Go.Proofs.YtmndipnifjpdjaaGreatDoor
open Go Go.RowKit
set_option linter.unusedVariables false
def dgt (D : Nat → Int) (i : Nat) : Nat := (D i - 48).toNat
def OkDig (D : Nat → Int) (n : Nat) : Prop := ∀ i, i < n → 48 ≤ D i ∧ D i ≤ 57
def dv (D : Nat → Int) : Nat → Nat
  | 0 => 0
  | n + 1 => dv D n * 10 + dgt D n
def sg (D : Nat → Int) : Nat → Nat → Nat
  | _, 0 => 0
  | a, n + 1 => dgt D a * 10 ^ n + sg D (a + 1) n
theorem dgt_le {D : Nat → Int} {n i : Nat} (h : OkDig D n) (hi : i < n) : dgt D i ≤ 9 := by
  have := h i hi; unfold dgt; omega
theorem dgt_eq {D : Nat → Int} {n i : Nat} (h : OkDig D n) (hi : i < n) : D i = 48 + (dgt D i : Int) := by
  have := h i hi; unfold dgt; omega
theorem OkDig.mono {D : Nat → Int} {n m : Nat} (h : OkDig D n) (hm : m ≤ n) : OkDig D m := fun i hi => h i (by omega)
theorem p10 (n : Nat) : 0 < 10 ^ n := Nat.pow_pos (by omega)
theorem dv_lt {D : Nat → Int} : ∀ {n : Nat}, OkDig D n → dv D n < 10 ^ n
  | 0, _ => by simp [dv]
  | n + 1, h => by
    have h1 := dv_lt (h.mono (Nat.le_succ n))
    have h2 := dgt_le h (Nat.lt_succ_self n)
    have : 10 ^ (n + 1) = 10 ^ n * 10 := Nat.pow_succ 10 n
    unfold dv
    omega
theorem dv_congr {D E : Nat → Int} : ∀ {n : Nat}, (∀ i, i < n → D i = E i) → dv D n = dv E n
  | 0, _ => rfl
  | n + 1, h => by
    unfold dv
    rw [dv_congr (fun i hi => h i (by omega))]
    unfold dgt
    rw [h n (by omega)]
theorem sg_congr {D E : Nat → Int} : ∀ {n a : Nat}, (∀ i, a ≤ i → i < a + n → D i = E i) → sg D a n = sg E a n
  | 0, _, _ => rfl
  | n + 1, a, h => by
    unfold sg
    rw [sg_congr (fun i h1 h2 => h i (by omega) (by omega))]
    unfold dgt
    rw [h a (by omega) (by omega)]
theorem sg_lt {D : Nat → Int} : ∀ {n a : Nat}, OkDig D (a + n) → sg D a n < 10 ^ n
  | 0, _, _ => by simp [sg]
  | n + 1, a, h => by
    have h1 := sg_lt (D := D) (n := n) (a := a + 1) (fun i hi => h i (by omega))
    have h2 := dgt_le h (i := a) (by omega)
    have : 10 ^ (n + 1) = 10 ^ n * 10 := Nat.pow_succ 10 n
    have h3 : dgt D a * 10 ^ n ≤ 9 * 10 ^ n := Nat.mul_le_mul_right _ h2
    unfold sg
    omega
theorem dv_sg {D : Nat → Int} : ∀ (n a : Nat), dv D (a + n) = dv D a * 10 ^ n + sg D a n
  | 0, a => by simp [sg]
  | n + 1, a => by
    have h := dv_sg (D := D) n (a + 1)
    rw [show a + (n + 1) = a + 1 + n by omega, h]
    rw [show sg D a (n + 1) = dgt D a * 10 ^ n + sg D (a + 1) n from rfl, show dv D (a + 1) = dv D a * 10 + dgt D a from rfl, Nat.pow_succ, Nat.add_mul, Nat.mul_assoc, Nat.mul_comm 10, Nat.add_assoc]
theorem dv_sg0 (D : Nat → Int) (n : Nat) : sg D 0 n = dv D n := by
  have := dv_sg (D := D) n 0
  simp [dv] at this
  exact this.symm
theorem sg_front {D : Nat → Int} {w n : Nat} {x : Int} : sg (updD D w x) w (n + 1) = (x - 48).toNat * 10 ^ n + sg D (w + 1) n := by
  show dgt (updD D w x) w * 10 ^ n + sg (updD D w x) (w + 1) n = _
  have e1 : dgt (updD D w x) w = (x - 48).toNat := by unfold dgt; rw [updD_same]
  have e2 : sg (updD D w x) (w + 1) n = sg D (w + 1) n := sg_congr (fun i h1 h2 => updD_other (by omega))
  rw [e1, e2]
theorem dv_snoc {D : Nat → Int} {w : Nat} {x : Int} : dv (updD D w x) (w + 1) = dv D w * 10 + (x - 48).toNat := by
  show dv (updD D w x) w * 10 + dgt (updD D w x) w = _
  have e1 : dgt (updD D w x) w = (x - 48).toNat := by unfold dgt; rw [updD_same]
  have e2 : dv (updD D w x) w = dv D w := dv_congr (fun i h1 => updD_other (by omega))
  rw [e1, e2]
theorem trimN_le (D : Nat → Int) : ∀ n, trimN D n ≤ n
  | 0 => Nat.le_refl 0
  | n + 1 => by
    unfold trimN
    split
    · have := trimN_le D n; omega
    · exact Nat.le_refl _
theorem trimN_last (D : Nat → Int) : ∀ n, trimN D n = 0 ∨ D (trimN D n - 1) ≠ 48
  | 0 => .inl rfl
  | n + 1 => by
    unfold trimN
    split
    · exact trimN_last D n
    · rename_i h; exact .inr (by simpa using h)
theorem dv_trim {D : Nat → Int} : ∀ (n : Nat), dv D n = dv D (trimN D n) * 10 ^ (n - trimN D n)
  | 0 => rfl
  | n + 1 => by
    unfold trimN
    split
    · rename_i h
      have h0 : dgt D n = 0 := by unfold dgt; rw [h]; rfl
      rw [show dv D (n + 1) = dv D n * 10 + dgt D n from rfl, h0, Nat.add_zero]
      have := trimN_le D n
      rw [show n + 1 - trimN D n = (n - trimN D n) + 1 by omega, Nat.pow_succ, ← Nat.mul_assoc, ← dv_trim n]
    · simp
structure Norm (D : Nat → Int) (nd : Nat) : Prop where
  ok : OkDig D nd
  le : nd ≤ 800
  head : nd ≠ 0 → D 0 ≠ 48
theorem dv_ge {D : Nat → Int} {n : Nat} (h : OkDig D n) (hn : n ≠ 0) (hh : D 0 ≠ 48) : 10 ^ (n - 1) ≤ dv D n := by
  obtain ⟨m, rfl⟩ : ∃ m, n = 1 + m := ⟨n - 1, by omega⟩
  rw [dv_sg m 1]
  have h0 := h 0 (by omega)
  have : 1 ≤ dv D 1 := by simp [dv, dgt]; omega
  have := Nat.mul_le_mul_right (10 ^ m) this
  rw [show 1 + m - 1 = m by omega]
  omega
def Shf (X : Nat) (E : Int) (tr : Bool) (D : Nat → Int) (nd : Nat) (dp : Int) (tr' : Bool) : Prop :=
  Norm D nd ∧ nd ≠ 0 ∧ D (nd - 1) ≠ 48 ∧ ∃ j t r, X = dv D nd * 10 ^ t * 10 ^ j + r ∧ r < 10 ^ j ∧ dp = E + (j + t + nd : Nat) ∧ (j = 0 ∨ 800 ≤ nd + t) ∧ tr' = (tr || decide (r ≠ 0))
theorem shf_of {X : Nat} {E : Int} {tr tr' : Bool} {D : Nat → Int} {n j r : Nat} {dp : Int} (hok : OkDig D n) (hn : n ≤ 800) (hn0 : n ≠ 0) (hh : D 0 ≠ 48) (hX : X = dv D n * 10 ^ j + r) (hr : r < 10 ^ j)
    (hdp : dp = E + (j + n : Nat)) (hj : j = 0 ∨ n = 800) (ht : tr' = (tr || decide (r ≠ 0))) : Shf X E tr D (trimN D n) (trimDp (trimN D n) dp) tr' := by
  have hle := trimN_le D n
  have hpos := dv_ge hok hn0 hh
  have htr := dv_trim (D := D) n
  have hne : trimN D n ≠ 0 := by
    intro e
    rw [e] at htr
    have := p10 (n - 1)
    simp [dv] at htr
    omega
  refine ⟨⟨hok.mono hle, by omega, fun _ => hh⟩, hne, (trimN_last D n).resolve_left hne, j, n - trimN D n, r, ?_, hr, ?_, ?_, ht⟩
  · rw [← htr]; exact hX
  · unfold trimDp; rw [if_neg hne, hdp]; omega
  · omega
theorem shf_of_z {X : Nat} {E : Int} {tr tr' : Bool} {D : Nat → Int} {n j r z : Nat} {dp : Int} (hok : OkDig D n) (hn : n ≤ 800) (hn0 : n ≠ 0) (hh : D 0 ≠ 48) (hX : X = dv D n * 10 ^ z * 10 ^ j + r) (hr : r < 10 ^ j)
    (hdp : dp = E + (j + z + n : Nat)) (hj : j = 0 ∨ n = 800) (ht : tr' = (tr || decide (r ≠ 0))) : Shf X E tr D (trimN D n) (trimDp (trimN D n) dp) tr' := by
  have hle := trimN_le D n
  have hpos := dv_ge hok hn0 hh
  have htr := dv_trim (D := D) n
  have hne : trimN D n ≠ 0 := by
    intro e
    rw [e] at htr
    have := p10 (n - 1)
    simp [dv] at htr
    omega
  refine ⟨⟨hok.mono hle, by omega, fun _ => hh⟩, hne, (trimN_last D n).resolve_left hne, j, n - trimN D n + z, r, ?_, hr, ?_, ?_, ht⟩
  · rw [Nat.pow_add, ← Nat.mul_assoc, ← htr]; exact hX
  · unfold trimDp; rw [if_neg hne, hdp]; omega
  · omega
theorem lex_lt {D C : Nat → Int} {i n L : Nat} (hD : OkDig D n) (hC : OkDig C L) (hin : i < n) (hiL : i < L) (he : ∀ j, j < i → D j = C j) (hlt : D i < C i) : dv D n * 10 ^ L < dv C L * 10 ^ n := by
  obtain ⟨a, rfl⟩ : ∃ a, n = i + 1 + a := ⟨n - i - 1, by omega⟩
  obtain ⟨b, rfl⟩ : ∃ b, L = i + 1 + b := ⟨L - i - 1, by omega⟩
  have e : dv D i = dv C i := dv_congr he
  have h1 : dv D (i + 1) + 1 ≤ dv C (i + 1) := by
    have a1 := hD i (by omega)
    have a2 := hC i (by omega)
    simp only [dv, dgt, e]
    omega
  have h2 : dv D (i + 1 + a) < (dv D (i + 1) + 1) * 10 ^ a := by
    rw [dv_sg a (i + 1), Nat.add_mul, Nat.one_mul]
    have := sg_lt (D := D) (n := a) (a := i + 1) hD
    omega
  have h3 : dv C (i + 1) * 10 ^ b ≤ dv C (i + 1 + b) := by rw [dv_sg b (i + 1)]; exact Nat.le_add_right _ _
  calc dv D (i + 1 + a) * 10 ^ (i + 1 + b) < (dv D (i + 1) + 1) * 10 ^ a * 10 ^ (i + 1 + b) := Nat.mul_lt_mul_of_pos_right h2 (p10 _)
    _ = (dv D (i + 1) + 1) * 10 ^ b * 10 ^ (i + 1 + a) := by rw [Nat.mul_assoc, Nat.mul_assoc, ← Nat.pow_add, ← Nat.pow_add]; congr 2; omega
    _ ≤ dv C (i + 1) * 10 ^ b * 10 ^ (i + 1 + a) := Nat.mul_le_mul_right _ (Nat.mul_le_mul_right _ h1)
    _ ≤ dv C (i + 1 + b) * 10 ^ (i + 1 + a) := Nat.mul_le_mul_right _ h3
theorem lex_pre {D C : Nat → Int} {n L : Nat} (hC : OkDig C L) (hnL : n < L) (he : ∀ j, j < n → D j = C j) (hlast : C (L - 1) ≠ 48) : dv D n * 10 ^ L < dv C L * 10 ^ n := by
  obtain ⟨b, rfl⟩ : ∃ b, L = n + b + 1 := ⟨L - n - 1, by omega⟩
  have e : dv D n = dv C n := dv_congr he
  have h1 : dv C (n + b + 1) = dv C n * 10 ^ (b + 1) + sg C n (b + 1) := by rw [show n + b + 1 = n + (b + 1) by omega]; exact dv_sg _ _
  have h2 : 0 < sg C n (b + 1) := by
    have a1 : dv C (n + b + 1) = dv C (n + b) * 10 + dgt C (n + b) := rfl
    have a2 : 0 < dgt C (n + b) := by
      have := hC (n + b) (by omega)
      have h3 : C (n + b) ≠ 48 := by simpa using hlast
      unfold dgt; omega
    have a3 : dv C (n + b) = dv C n * 10 ^ b + sg C n b := dv_sg _ _
    have a4 : dv C n * 10 ^ (b + 1) = dv C n * 10 ^ b * 10 := by rw [Nat.pow_succ, Nat.mul_assoc]
    generalize dv C n * 10 ^ b = y at *
    omega
  rw [h1, e, Nat.add_mul, Nat.mul_assoc, ← Nat.pow_add, show b + 1 + n = n + b + 1 by omega]
  have := Nat.mul_pos h2 (p10 n)
  omega
theorem lex_ge {D C : Nat → Int} {n L : Nat} (hnL : L ≤ n) (he : ∀ j, j < L → D j = C j) : dv C L * 10 ^ n ≤ dv D n * 10 ^ L := by
  obtain ⟨b, rfl⟩ : ∃ b, n = L + b := ⟨n - L, by omega⟩
  have e : dv D L = dv C L := dv_congr he
  rw [dv_sg b L, e, Nat.add_mul, Nat.pow_add, Nat.mul_comm (10 ^ L), ← Nat.mul_assoc]
  exact Nat.le_add_right _ _
theorem cheat_digits {V nd k L : Nat} (h5 : 10 ^ (L - 1) ≤ 5 ^ k) (h5' : 5 ^ k < 10 ^ L) (hL : 1 ≤ L) (hLk : L ≤ k) (hV1 : 10 ^ (nd - 1) ≤ V) (hV2 : V < 10 ^ nd) (hnd : nd ≠ 0) :
    (V * 10 ^ L < 5 ^ k * 10 ^ nd → 10 ^ (nd + (k - L) - 1) ≤ V * 2 ^ k ∧ V * 2 ^ k < 10 ^ (nd + (k - L))) ∧ (5 ^ k * 10 ^ nd ≤ V * 10 ^ L → 10 ^ (nd + (k - L + 1) - 1) ≤ V * 2 ^ k ∧ V * 2 ^ k < 10 ^ (nd + (k - L + 1))) := by
  have e10 : 2 ^ k * 5 ^ k = 10 ^ k := by rw [← Nat.mul_pow]
  have p5 : 0 < 5 ^ k := Nat.pow_pos (by omega)
  have p2 : 0 < 2 ^ k := Nat.pow_pos (by omega)
  refine ⟨fun h => ⟨?_, ?_⟩, fun h => ⟨?_, ?_⟩⟩
  · -- 10^(nd-1+k-L) ≤ 10^(nd-1) 2^k since 5^k < 10^L
    refine Nat.le_of_mul_le_mul_right ?_ (Nat.mul_pos p5 (p10 L))
    calc 10 ^ (nd + (k - L) - 1) * (5 ^ k * 10 ^ L) ≤ 10 ^ (nd + (k - L) - 1) * (10 ^ L * 10 ^ L) := Nat.mul_le_mul_left _ (Nat.mul_le_mul_right _ (Nat.le_of_lt h5'))
      _ = 10 ^ (nd - 1) * (10 ^ k * 10 ^ L) := by rw [← Nat.pow_add, ← Nat.pow_add, ← Nat.pow_add, ← Nat.pow_add]; congr 1; omega
      _ ≤ V * (10 ^ k * 10 ^ L) := Nat.mul_le_mul_right _ hV1
      _ = V * 2 ^ k * (5 ^ k * 10 ^ L) := by rw [← e10]; simp only [Nat.mul_assoc]
  · refine Nat.lt_of_mul_lt_mul_right (a := 10 ^ L) ?_
    calc V * 2 ^ k * 10 ^ L = V * 10 ^ L * 2 ^ k := by rw [Nat.mul_assoc, Nat.mul_comm (2 ^ k), ← Nat.mul_assoc]
      _ < 5 ^ k * 10 ^ nd * 2 ^ k := Nat.mul_lt_mul_of_pos_right h p2
      _ = 10 ^ k * 10 ^ nd := by rw [← e10, Nat.mul_comm (2 ^ k), Nat.mul_assoc, Nat.mul_assoc, Nat.mul_comm (10 ^ nd)]
      _ = 10 ^ (nd + (k - L)) * 10 ^ L := by rw [← Nat.pow_add, ← Nat.pow_add]; congr 1; omega
  · refine Nat.le_of_mul_le_mul_right ?_ (p10 L)
    calc 10 ^ (nd + (k - L + 1) - 1) * 10 ^ L = 10 ^ k * 10 ^ nd := by rw [← Nat.pow_add, ← Nat.pow_add]; congr 1; omega
      _ = 5 ^ k * 10 ^ nd * 2 ^ k := by rw [← e10, Nat.mul_comm (2 ^ k), Nat.mul_assoc, Nat.mul_assoc, Nat.mul_comm (10 ^ nd)]
      _ ≤ V * 10 ^ L * 2 ^ k := Nat.mul_le_mul_right _ h
      _ = V * 2 ^ k * 10 ^ L := by rw [Nat.mul_assoc, Nat.mul_comm (10 ^ L), ← Nat.mul_assoc]
  · refine Nat.lt_of_mul_lt_mul_right (a := 5 ^ k) ?_
    calc V * 2 ^ k * 5 ^ k = V * 10 ^ k := by rw [Nat.mul_assoc, e10]
      _ < 10 ^ nd * 10 ^ k := Nat.mul_lt_mul_of_pos_right hV2 (p10 k)
      _ = 10 ^ (nd + (k - L + 1)) * 10 ^ (L - 1) := by rw [← Nat.pow_add, ← Nat.pow_add]; congr 1; omega
      _ ≤ 10 ^ (nd + (k - L + 1)) * 5 ^ k := Nat.mul_le_mul_left _ h5
end Go.Proofs.YtmndipnifjpdjaaGreatDoor
namespace Go.Proofs.YtmndipnifjpdjaaGreatDoor
open Go Go.RowKit
set_option linter.unusedVariables false
def sb (s : ByteArray) (i : Nat) : Int := (bs s).getD i 0
def PreR (D : Nat → Int) (nd : Nat) (s : ByteArray) (w : World) (e : Ending) (w' : World) : Prop :=
  ∃ b n, e = .returned (.bool b) ∧ w' = w.drewN n ∧ (b = true → dv D nd * 10 ^ s.size < dv (sb s) s.size * 10 ^ nd) ∧ (b = false → dv (sb s) s.size * 10 ^ nd ≤ dv D nd * 10 ^ s.size)
theorem preR_t {D : Nat → Int} {nd : Nat} {s : ByteArray} {w : World} {e : Ending} {w' : World} (n : Nat) (h1 : e = .returned (.bool true)) (h2 : w' = w.drewN n) (h : dv D nd * 10 ^ s.size < dv (sb s) s.size * 10 ^ nd) : PreR D nd s w e w' :=
  ⟨true, n, h1, h2, fun _ => h, fun h => by cases h⟩
theorem preR_f {D : Nat → Int} {nd : Nat} {s : ByteArray} {w : World} {e : Ending} {w' : World} (n : Nat) (h1 : e = .returned (.bool false)) (h2 : w' = w.drewN n) (h : dv (sb s) s.size * 10 ^ nd ≤ dv D nd * 10 ^ s.size) : PreR D nd s w e w' :=
  ⟨false, n, h1, h2, (fun h => Bool.noConfusion h), fun _ => h⟩
set_option maxHeartbeats 800000 in
set_option maxRecDepth 100000 in
theorem prefix_any (D : Nat → Int) (nd g : Nat) (s : ByteArray) (w : World) (hnd : nd ≤ 800) (hs : s.size ≤ 100) (hok : OkDig D nd) (hC : OkDig (sb s) s.size) (hl : sb s (s.size - 1) ≠ 48)
    (hcell : ∀ k, k < 800 → w.cell? ⟨g, k, none⟩ = some (.int .u8 (D k))) :
    Calls Tryz.prog 287 #[.slice (some ⟨g, 0, none⟩) nd 800, .string s] w fun e w' => PreR D nd s w e w' := by
  have HC := hide hcell
  have Hok := hide hok
  have HCs := hide hC
  have Hl := hide hl
  clear hcell hok hC hl
  go_enter Tryz.func287, Tryz.ntmps287
  go_wp2
  go_loopw [5] (fun iv wr => ∃ (i n : Nat), i ≤ s.size ∧ i ≤ nd ∧ iv = .int .i64 i ∧ wr = w.drewN n ∧ Hid (∀ j, j < i → D j = sb s j)) (fun iv _ => s.size - (intOf iv).toNat)
  case atStart => exact ⟨0, 0, Nat.zero_le _, Nat.zero_le _, rfl, rfl, hide (fun j hj => by omega)⟩
  case round =>
    obtain ⟨i, n, hi1, hi2, rfl, rfl, He⟩ := hrel
    by_cases hlt : i < s.size
    · by_cases hnd' : i < nd
      · have Hg := hide (bs_getD hlt)
        have c1 : w.cell? ⟨g, i, none⟩ = some (.int .u8 (D i)) := HC.out i (by omega)
        have hx := Hok.out i hnd'
        obtain ⟨hx1, hx2⟩ := hx
        have hi3 : (i : Int) < (nd : Int) := by omega
        have hi4 : (i : Int) < (s.size : Int) := by omega
        have Hx := hide (And.intro hx1 hx2)
        clear hx1 hx2
        by_cases heq : D i = ((s[i].toNat : Nat) : Int)
        · have hb : (D i != ((s[i].toNat : Nat) : Int)) = false := by rw [bne_eq_false_iff_eq]; exact heq
          have Heq := hide heq
          clear heq
          go_wp2
          go_quiet (fail)
          go_wp2
          go_roundw
          case rel => exact ⟨i + 1, n + nq, by omega, by omega, by go_num, rfl, hide (fun j hj => by
            by_cases e : j = i
            · subst e; rw [Heq.out]; exact Hg.out.symm
            · exact He.out j (by omega))⟩
          case measure => simp [intOf]; omega
        · have hb : (D i != ((s[i].toNat : Nat) : Int)) = true := by rw [bne_iff_ne]; exact heq
          by_cases hle : D i < ((s[i].toNat : Nat) : Int)
          · have Hle := hide hle
            have hd : decide (D i < ((s[i].toNat : Nat) : Int)) = true := by simp [hle]
            clear heq
            go_wp2
            go_quiet (fail)
            go_wp2
            go_quiet (fail)
            go_wp2
            go_ret
            refine preR_t _ rfl (by rw [World.drewN_drewN, World.drewN_drewN]) ?_
            exact lex_lt Hok.out HCs.out hnd' hlt He.out (by unfold sb; rw [Hg.out]; exact Hle.out)
          · have Hle := hide hle
            have Heq := hide heq
            have hd : decide (D i < ((s[i].toNat : Nat) : Int)) = false := by simp; omega
            clear heq hle
            go_wp2
            go_quiet (fail)
            go_wp2
            go_quiet (fail)
            go_wp2
            go_ret
            refine preR_f _ rfl (by rw [World.drewN_drewN, World.drewN_drewN]) ?_
            refine Nat.le_of_lt (lex_lt HCs.out Hok.out hlt hnd' (fun j hj => (He.out j hj).symm) ?_)
            unfold sb; rw [Hg.out]
            have h1 := Hle.out
            have h2 := Heq.out
            omega
      · go_wp2
        go_ret
        have hin : i = nd := by omega
        subst hin
        exact preR_t n rfl rfl (lex_pre HCs.out hlt He.out Hl.out)
    · go_wp2
      go_ret
      have hin : i = s.size := by omega
      refine preR_f n rfl rfl (lex_ge (by omega) (fun j hj => He.out j (by omega)))
end Go.Proofs.YtmndipnifjpdjaaGreatDoor
namespace Go.Proofs.YtmndipnifjpdjaaGreatDoor
open Go Go.RowKit
set_option linter.unusedVariables false
def cheatRow (k : Nat) : Nat × List UInt8 := Go.Pinned.cheatRows.getD k (0, [])
def cheatC (k i : Nat) : Int := (((cheatRow k).2.getD i 0).toNat : Int)
def cheatB (k : Nat) : Bool :=
  decide (1 ≤ k → (cheatRow k).1 + (cheatRow k).2.length = k + 1 ∧ (cheatRow k).2.length ≤ k ∧ 1 ≤ (cheatRow k).2.length ∧ (cheatRow k).2.length ≤ 100 ∧ dv (cheatC k) (cheatRow k).2.length = 5 ^ k ∧
    10 ^ ((cheatRow k).2.length - 1) ≤ 5 ^ k ∧ 5 ^ k < 10 ^ (cheatRow k).2.length ∧ (∀ i, i < (cheatRow k).2.length → 48 ≤ cheatC k i ∧ cheatC k i ≤ 57) ∧ cheatC k ((cheatRow k).2.length - 1) ≠ 48)
theorem cheat_all : ∀ k : Fin 61, cheatB k = true := by decide +kernel
structure Cheats (w : World) (G o : Nat) : Prop where
  size : 15 < w.heap.size
  hG : G < w.heap.size
  slice : w.cell? ⟨15, 0, none⟩ = some (.slice (some ⟨G, o, none⟩) 61 61)
  delta : ∀ k, k < 61 → w.cell? ⟨G, o + k * 2, none⟩ = some (.int .i64 (cheatRow k).1)
  cut : ∀ k, k < 61 → ∃ s : ByteArray, w.cell? ⟨G, o + k * 2 + 1, none⟩ = some (.string s) ∧ bs s = (cheatRow k).2.map (fun b => (b.toNat : Int))
theorem cheat_sb {k : Nat} {s : ByteArray} (h : bs s = (cheatRow k).2.map (fun b => (b.toNat : Int))) : s.size = (cheatRow k).2.length ∧ ∀ i, i < s.size → sb s i = cheatC k i := by
  have hl : s.size = (cheatRow k).2.length := by rw [← bs_length, h, List.length_map]
  refine ⟨hl, fun i hi => ?_⟩
  unfold sb cheatC
  rw [h, List.getD_eq_getElem?_getD, List.getD_eq_getElem?_getD, List.getElem?_map]
  rw [hl] at hi
  rw [List.getElem?_eq_getElem hi]
  rfl
def preL (D : Nat → Int) (nd : Nat) (s : ByteArray) : Bool := decide (dv D nd * 10 ^ s.size < dv (sb s) s.size * 10 ^ nd)
theorem prefix_ok (D : Nat → Int) (nd g : Nat) (s : ByteArray) (w : World) (hnd : nd ≤ 800) (hs : s.size ≤ 100) (hok : OkDig D nd) (hC : OkDig (sb s) s.size) (hl : sb s (s.size - 1) ≠ 48)
    (hcell : ∀ k, k < 800 → w.cell? ⟨g, k, none⟩ = some (.int .u8 (D k))) :
    Calls Tryz.prog 287 #[.slice (some ⟨g, 0, none⟩) nd 800, .string s] w fun e w' => e = .returned (.bool (preL D nd s)) ∧ ∃ m, w' = w.drewN m := by
  refine (prefix_any D nd g s w hnd hs hok hC hl hcell).mono ?_
  rintro e w' ⟨b, n, rfl, rfl, h1, h2⟩
  refine ⟨?_, n, rfl⟩
  have : b = preL D nd s := by
    unfold preL
    cases b
    · symm; rw [decide_eq_false_iff_not]; have := h2 rfl; omega
    · symm; rw [decide_eq_true_eq]; exact h1 rfl
  rw [this]
def LSt (X M A u : Nat) (D : Nat → Int) (tr tr' : Bool) : Prop :=
  ∃ R, X = A * 10 ^ u + sg D (M - u) (u - min u (M - 800)) * 10 ^ (min u (M - 800)) + R ∧ R < 10 ^ (min u (M - 800)) ∧ (∀ i, M - u ≤ i → i < M - (M - 800) → 48 ≤ D i ∧ D i ≤ 57) ∧ tr' = (tr || decide (R ≠ 0))
theorem lst_start (X M : Nat) (D : Nat → Int) (tr : Bool) : LSt X M X 0 D tr tr := by
  refine ⟨0, ?_, ?_, fun i h1 h2 => by omega, by simp⟩
  · simp [sg]
  · exact p10 _
theorem lst_put {X M A A' u rem : Nat} {D : Nat → Int} {tr tr' : Bool} (h : LSt X M A u D tr tr') (hA : A = A' * 10 + rem) (hr : rem ≤ 9) (hu : u + 1 ≤ M) (hw : M - u - 1 < 800) :
    LSt X M A' (u + 1) (updD D (M - u - 1) (rem + 48)) tr tr' := by
  obtain ⟨R, h1, h2, h3, h4⟩ := h
  have hj : M - 800 ≤ u := by omega
  have m1 : min u (M - 800) = M - 800 := Nat.min_eq_right hj
  have m2 : min (u + 1) (M - 800) = M - 800 := Nat.min_eq_right (by omega)
  rw [m1] at h1 h2
  refine ⟨R, ?_, by rw [m2]; exact h2, fun i a1 a2 => ?_, h4⟩
  · rw [m2, show M - (u + 1) = M - u - 1 by omega, show u + 1 - (M - 800) = (u - (M - 800)) + 1 by omega, sg_front, show M - u - 1 + 1 = M - u by omega, h1, hA,
      show ((rem : Int) + 48 - 48).toNat = rem by omega, Nat.pow_succ, Nat.add_mul (rem * _), Nat.mul_assoc rem, ← Nat.pow_add, show u - (M - 800) + (M - 800) = u by omega]
    generalize 10 ^ u = p
    generalize sg D (M - u) (u - (M - 800)) * 10 ^ (M - 800) = q
    rw [Nat.add_mul, Nat.mul_assoc, Nat.mul_comm 10 p]
    omega
  · by_cases e : i = M - u - 1
    · subst e; rw [updD_same]; omega
    · rw [updD_other e]; exact h3 i (by omega) a2
theorem lst_drop {X M A A' u rem : Nat} {D : Nat → Int} {tr tr' tr'' : Bool} (h : LSt X M A u D tr tr') (hA : A = A' * 10 + rem) (hr : rem ≤ 9) (hu : u + 1 ≤ M) (hw : 800 ≤ M - u - 1) (ht : tr'' = (tr' || decide (rem ≠ 0))) :
    LSt X M A' (u + 1) D tr tr'' := by
  obtain ⟨R, h1, h2, h3, h4⟩ := h
  have m1 : min u (M - 800) = u := Nat.min_eq_left (by omega)
  have m2 : min (u + 1) (M - 800) = u + 1 := Nat.min_eq_left (by omega)
  rw [m1, Nat.sub_self] at h1
  rw [m1] at h2
  refine ⟨rem * 10 ^ u + R, ?_, ?_, fun i a1 a2 => h3 i (by omega) a2, ?_⟩
  · rw [m2, Nat.sub_self, h1, hA]
    simp only [sg, Nat.zero_mul, Nat.add_zero, Nat.pow_succ]
    generalize 10 ^ u = p
    rw [Nat.add_mul, Nat.mul_assoc, Nat.mul_comm 10 p]
    omega
  · rw [m2, Nat.pow_succ]
    have := Nat.mul_le_mul_right (10 ^ u) hr
    omega
  · have hp := p10 u
    have key : (decide (R ≠ 0) || decide (rem ≠ 0)) = decide (rem * 10 ^ u + R ≠ 0) := by
      generalize hq : 10 ^ u = q at *
      by_cases hR : R = 0
      · by_cases h0 : rem = 0
        · simp [hR, h0]
        · have : rem * q ≠ 0 := Nat.mul_ne_zero h0 (by omega)
          simp [hR, h0]; omega
      · simp [hR]
    rw [ht, h4, Bool.or_assoc, key]
theorem lst_small {X M u : Nat} {D : Nat → Int} {tr tr' : Bool} (h : LSt X M 0 u D tr tr') (hu : u ≤ M) : X < 10 ^ u := by
  obtain ⟨R, h1, h2, h3, h4⟩ := h
  rw [Nat.zero_mul, Nat.zero_add] at h1
  have hs : sg D (M - u) (u - min u (M - 800)) < 10 ^ (u - min u (M - 800)) := by
    have key : ∀ (n a : Nat), (∀ i, a ≤ i → i < a + n → 48 ≤ D i ∧ D i ≤ 57) → sg D a n < 10 ^ n := by
      intro n
      induction n with
      | zero => intro a _; simp [sg]
      | succ n ih =>
        intro a h
        have i1 := ih (a + 1) (fun i b1 b2 => h i (by omega) (by omega))
        have i2 := h a (by omega) (by omega)
        have i3 : dgt D a ≤ 9 := by unfold dgt; omega
        have i4 := Nat.mul_le_mul_right (10 ^ n) i3
        show dgt D a * 10 ^ n + sg D (a + 1) n < 10 ^ (n + 1)
        rw [Nat.pow_succ]
        omega
    exact key _ _ (fun i b1 b2 => h3 i b1 (by omega))
  have e : 10 ^ u = 10 ^ (u - min u (M - 800)) * 10 ^ (min u (M - 800)) := by rw [← Nat.pow_add]; congr 1; omega
  rw [h1, e]
  have := Nat.mul_le_mul_right (10 ^ (min u (M - 800))) hs
  rw [Nat.succ_mul] at this
  omega
theorem lst_end {X M : Nat} {E : Int} {D : Nat → Int} {tr tr' : Bool} {dp : Int} {n : Nat} (h : LSt X M 0 M D tr tr') (hX : 10 ^ (M - 1) ≤ X) (hM : M ≠ 0) (hn : n = M - (M - 800)) (hdp : dp = E + (M : Nat)) :
    Shf X E tr D (trimN D n) (trimDp (trimN D n) dp) tr' := by
  obtain ⟨R, h1, h2, h3, h4⟩ := h
  have m1 : min M (M - 800) = M - 800 := Nat.min_eq_right (by omega)
  rw [m1, Nat.sub_self, dv_sg0, Nat.zero_mul, Nat.zero_add, ← hn] at h1
  rw [m1] at h2
  have hok : OkDig D n := fun i hi => h3 i (by omega) (by omega)
  have hh : D 0 ≠ 48 := by
    intro e
    obtain ⟨q, hq⟩ : ∃ q, n = 1 + q := ⟨n - 1, by omega⟩
    have e1 : dv D n < 10 ^ q := by
      rw [hq, dv_sg q 1]
      have : dv D 1 = 0 := by simp [dv, dgt, e]
      rw [this, Nat.zero_mul, Nat.zero_add]
      exact sg_lt (by rw [← hq]; exact hok)
    have e2 : 10 ^ (M - 1) = 10 ^ q * 10 ^ (M - 800) := by rw [← Nat.pow_add, show M - 1 = q + (M - 800) by omega]
    have e3 := Nat.mul_le_mul_right (10 ^ (M - 800)) e1
    rw [Nat.succ_mul] at e3
    omega
  refine shf_of hok (by omega) (by omega) hh h1 h2 ?_ (by omega) h4
  rw [hdp, hn]
  omega
end Go.Proofs.YtmndipnifjpdjaaGreatDoor
namespace Go.Proofs.YtmndipnifjpdjaaGreatDoor
open Go Go.RowKit
set_option linter.unusedVariables false
def ShR (X : Nat) (E : Int) (tr : Bool) (g : Nat) (w : World) (e : Ending) (w' : World) : Prop :=
  e = .returned (.tuple #[]) ∧ ∃ D nd dp tr', DecAt w' g D (nd : Nat) dp tr' ∧ Shf X E tr D nd dp tr' ∧ Below g w w'
theorem u64_id {x : Int} (h0 : 0 ≤ x) (h1 : x < 18446744073709551616) : IntKind.u64.wrap x = x := by
  simp [IntKind.wrap, IntKind.signed, IntKind.bits]; omega
theorem ls_nums {n d P m : Nat} {x : Int} (hP : P ≤ 1152921504606846976) (hn : n < P) (hx1 : 48 ≤ x) (hx2 : x ≤ 57) (hd : d = (x - 48).toNat) (hm : m = n + d * P) :
    IntKind.u64.wrap (n + IntKind.u64.wrap ((x - 48) * (P : Int))) = (m : Int) ∧ m < 10 * P := by
  have hd9 : d ≤ 9 := by omega
  have h1 := Nat.mul_le_mul_right P hd9
  have e1 : x - 48 = (d : Int) := by omega
  have e2 : (x - 48) * (P : Int) = ((d * P : Nat) : Int) := by rw [e1, Int.natCast_mul]
  generalize d * P = y at *
  rw [e2, u64_id (x := (y : Int)) (by omega) (by omega), u64_id (by omega) (by omega)]
  omega
theorem ls_quo {m q rem : Nat} (hm : m < 11529215046068469760) (hq : q = m / 10) (hr : rem = m % 10) :
    IntKind.u64.wrap ((m : Int).tdiv 10) = (q : Int) ∧ IntKind.u64.wrap ((m : Int) - IntKind.u64.wrap (10 * (q : Int))) = (rem : Int) ∧ IntKind.u64.wrap ((rem : Int) + 48) % 256 = (rem : Int) + 48 := by
  have e : (m : Int).tdiv 10 = (q : Int) := by
    rw [show ((10 : Int)) = ((10 : Nat) : Int) from rfl, ← Int.ofNat_tdiv, hq]
  rw [e, u64_id (by omega) (by omega), u64_id (x := 10 * (q : Int)) (by omega) (by omega), u64_id (by omega) (by omega), u64_id (by omega) (by omega)]
  omega
theorem ls_quo2 {m q rem : Nat} (hm : m < 11529215046068469760) (hq : q = m / 10) (hr : rem = m % 10) :
    IntKind.u64.wrap ((m : Int) / 10) = (q : Int) ∧ IntKind.u64.wrap ((m : Int) - IntKind.u64.wrap (10 * (q : Int))) = (rem : Int) ∧ IntKind.u64.wrap ((rem : Int) + 48) % 256 = (rem : Int) + 48 := by
  have e : (m : Int) / 10 = (q : Int) := by omega
  rw [e, u64_id (by omega) (by omega), u64_id (x := 10 * (q : Int)) (by omega) (by omega), u64_id (by omega) (by omega), u64_id (by omega) (by omega)]
  omega
theorem ls_carry {D : Nat → Int} {r n P m q rem : Nat} (hm : m = n + (D r - 48).toNat * P) (hq : q = m / 10) (hr : rem = m % 10) : dv D (r + 1) * P + n = (dv D r * P + q) * 10 + rem := by
  have e : dv D (r + 1) = dv D r * 10 + dgt D r := rfl
  rw [e, Nat.add_mul, Nat.add_mul, show dgt D r = (D r - 48).toNat from rfl, Nat.mul_assoc, Nat.mul_comm 10 P, ← Nat.mul_assoc]
  generalize (D r - 48).toNat * P = y at *
  generalize dv D r * P = z
  omega
theorem ls_less {m P q : Nat} (h : m < 10 * P) (hq : q = m / 10) : q < P := by omega
end Go.Proofs.YtmndipnifjpdjaaGreatDoor
