import Derived.WalkKit
import Derived.ProofKit
import Derived.OpenShut
import Derived.WalkSmall
import Derived.RowKit
import Derived.Deep.LoopGhost
import Derived.Maps.OwnSet
import Derived.Maps.OwnOps
import Derived.Laws.BitsAllLaws
import Derived.Lib.Strings
import GoSem.PinnedTables
import Derived.Laws.Externs
import Derived.Lib.BitFns
import Ieee.Arith
import Derived.Laws.FloatArith
import Derived.RegionTactic
import Derived.ChangeAlike
import Derived.WalkMore
import Derived.ScopeJumps
import Derived.Laws.Bits128
import Derived.Lib.IndexAny
import Derived.Lib.IndexMore
import Derived.Handy
import Derived.Lib.ParseIntBCases
import Derived.Lib.IndexBytes
import Derived.Laws.RangeAny
import Derived.Laws.RangeString
import Derived.Laws.Runes
import Derived.Laws.Strings3
import Derived.Lib.TrimByte
import Derived.BigRegion
import Derived.Deep.RegionWith
import Derived.Deep.QuietTactic
import Derived.BigQuiet
import Derived.StillTailTactics
import Derived.Test.YtmndipnifjpdjaaGreatDoorQ12
import Derived.Test.YtmndipnifjpdjaaGreatDoorQ13
import Derived.Test.YtmndipnifjpdjaaGreatDoorQ14
import Derived.Test.YtmndipnifjpdjaaGreatDoorQ21
import Derived.Deep.RegionLaw
namespace Go.Proofs.YtmndipnifjpdjaaGreatDoor
open Go Go.RowKit
set_option linter.unusedVariables false
theorem wrap_id {x : Int} (h0 : -9223372036854775808 ≤ x) (h1 : x ≤ 9223372036854775807) : IntKind.i64.wrap x = x := by
  rw [IntKind.wrap_i64]
  omega
theorem wp_tail {P : Program} {id : Nat} {Q : Exit → Act → World → Prop} {a : Act} {w : World} {l : List Oper} (n : Nat) (hm : P.follows .mixedOrders = true) (hB : Region.lexTailB .any l.toArray n = true)
    (h : ∀ ops : Array Oper, wpStill P ops w.drew (fun a' => wpList P ops Q (l.drop n) a' w.drew) (l.take n) a) : (Code.region id l.toArray true).wp P Q a w :=
  wp_region_still_tail n hm hB (h _)
theorem still_next {P : Program} {ops : Array Oper} {w : World} {Q : Act → Prop} {a : Act} {o : Oper} {rest : List Oper} (hg : o.guard = none) (h : ∀ K : Act → Prop, (∀ a, wpStill P ops w Q rest a → K a) → o.still P a w K) : wpStill P ops w Q (o :: rest) a := by
  refine wpStill_step (fun K hK => ?_)
  have : Region.wanted o (yielded ops a.tmps) = true := by unfold Region.wanted; rw [hg]
  rw [if_pos this]
  exact h K hK
def NumForm2 (r : Value) : Prop := ∃ (f : Bool) (i u : Int) (ok : Bool), r = .tuple #[numV f i u, .bool ok] ∧ (f = true → i = 0) ∧ (f = false → u = 0)
theorem zeroR_form2 : NumForm2 zeroR := ⟨false, 0, 0, false, rfl, (fun h => by cases h), fun _ => rfl⟩
theorem FloatR.form2 {N : Nat} {E : Int} {r : Value} (h : FloatR N E r) : NumForm2 r := by
  obtain ⟨W, _, rfl⟩ := h
  split
  · exact zeroR_form2
  · exact ⟨_, _, _, _, rfl, fun _ => rfl, fun h => by cases h⟩
theorem DecR.form2 {l : List Int} {r : Value} (h : DecR l r) : NumForm2 r := by
  unfold DecR at h
  split at h
  · rw [h]; exact zeroR_form2
  · split at h
    · rw [h]; exact ⟨_, _, _, _, rfl, (fun h => by cases h), fun _ => rfl⟩
    · split at h
      · rw [h]; exact zeroR_form2
      · exact h.form2
theorem PNR.form2 {s : ByteArray} {r : Value} (h : PNR s r) : NumForm2 r := by
  unfold PNR at h
  split at h
  · rw [h]; exact zeroR_form2
  · split at h
    · rw [h]; exact ⟨_, _, _, _, rfl, (fun h => by cases h), fun _ => rfl⟩
    · exact h.form2
theorem num_cells {w : World} {a b c : Value} : (w.alloc (.cells #[a, b, c] 67)).cell? ⟨w.heap.size, 0, none⟩ = some a ∧ (w.alloc (.cells #[a, b, c] 67)).cell? ⟨w.heap.size, 1, none⟩ = some b ∧ (w.alloc (.cells #[a, b, c] 67)).cell? ⟨w.heap.size, 2, none⟩ = some c := by
  simp
def AllP (P : Int → Bool) (f : Nat → Int) (i : Nat) : Prop := ∀ j, j < i → P (f j) = true
theorem AllP.next {P : Int → Bool} {f : Nat → Int} {i : Nat} (h : AllP P f i) (h' : P (f i) = true) : AllP P f (i + 1) := by
  intro j hj
  by_cases e : j = i
  · subst e; exact h'
  · exact h j (by omega)
end Go.Proofs.YtmndipnifjpdjaaGreatDoor
namespace Go.Proofs.YtmndipnifjpdjaaGreatDoor
open Go Go.RowKit
set_option linter.unusedVariables false
structure Mid (s : ByteArray) (S base D q : Nat) (L : List (Tk × Nat)) (v : Value) (fc fl fa k l a : Int) (x : ByteArray) (i b : Int) (wb w : World) : Prop where
  lx : Lx s S q v fc fl fa w
  own : OwnT s w base v L
  tb : TB D k l a x i b w
  bel : Below wb.heap.size wb w
  hS : wb.heap.size ≤ S
  hSb : S < base
  hbD : base ≤ D
  hod : ∀ g, v.ownBlock = some g → g < D
section
variable {s : ByteArray} {S base D q : Nat} {L : List (Tk × Nat)} {v : Value} {fc fl fa k l a : Int} {x : ByteArray} {i b : Int} {wb w w' : World}
theorem Mid.low (h : Mid s S base D q L v fc fl fa k l a x i b wb w) (hb : Below w.heap.size w w') : Mid s S base D q L v fc fl fa k l a x i b wb w' :=
  ⟨h.lx.low hb, h.own.low hb, h.tb.low hb, h.bel.trans (hb.mono h.bel.size), h.hS, h.hSb, h.hbD, h.hod⟩
theorem Mid.drw (h : Mid s S base D q L v fc fl fa k l a x i b wb w) (n : Nat) : Mid s S base D q L v fc fl fa k l a x i b wb (w.drewN n) :=
  ⟨h.lx, h.own, h.tb, below_dN h.bel n, h.hS, h.hSb, h.hbD, h.hod⟩
theorem Mid.onS {q' : Nat} {fc' fl' fa' : Int} (h : Mid s S base D q L v fc fl fa k l a x i b wb w) (hg : w.grownBy w' (some S)) (hx : Lx s S q' v fc' fl' fa' w') : Mid s S base D q' L v fc' fl' fa' k l a x i b wb w' :=
  ⟨hx, h.own.beside hg h.hSb, h.tb.beside hg (by have := h.hSb; have := h.hbD; omega), below_on h.bel hg h.hS h.bel.size, h.hS, h.hSb, h.hbD, h.hod⟩
theorem Mid.ne (h : Mid s S base D q L v fc fl fa k l a x i b wb w) : S ≠ D := by have := h.hSb; have := h.hbD; omega
theorem OwnT.far {hod : ∀ g, v.ownBlock = some g → g < D} (h : OwnT s w base v L) (hg : w.grownBy w' (some D)) : OwnT s w' base v L :=
  World.ownsRow.kept h hg (by
    cases e : v.ownBlock with
    | none => exact .inl rfl
    | some g => exact .inr (by have := hod g e; simp; omega))
theorem Mid.onD {k' l' a' i' b' : Int} {x' : ByteArray} (h : Mid s S base D q L v fc fl fa k l a x i b wb w) (hg : w.grownBy w' (some D)) (ht : TB D k' l' a' x' i' b' w') : Mid s S base D q L v fc fl fa k' l' a' x' i' b' wb w' :=
  ⟨by unfold Lx; rw [hg.block S h.lx.lt (by simp [h.ne])]; exact h.lx, OwnT.far (hod := h.hod) h.own hg, ht, below_on h.bel hg (by have := h.hS; have := h.hSb; have := h.hbD; omega) h.bel.size, h.hS, h.hSb, h.hbD, h.hod⟩
theorem Mid.set0 (h : Mid s S base D q L v fc fl fa k l a x i b wb w) (k' : Int) : Mid s S base D q L v fc fl fa k' l a x i b wb (w.setCell ⟨D, 0, none⟩ (.int .i64 k')) :=
  h.onD (grown_set _ _ _ _) (by have := heap_setCell_same w D 0 _ _ (.int .i64 k') h.tb; unfold TB; rw [this]; simp)
theorem Mid.set3 (h : Mid s S base D q L v fc fl fa k l a x i b wb w) (x' : ByteArray) : Mid s S base D q L v fc fl fa k l a x' i b wb (w.setCell ⟨D, 3, none⟩ (.string x')) :=
  h.onD (grown_set _ _ _ _) (by have := heap_setCell_same w D 3 _ _ (.string x') h.tb; unfold TB; rw [this]; simp)
theorem Mid.set4 (h : Mid s S base D q L v fc fl fa k l a x i b wb w) (i' : Int) : Mid s S base D q L v fc fl fa k l a x i' b wb (w.setCell ⟨D, 4, none⟩ (.int .i64 i')) :=
  h.onD (grown_set _ _ _ _) (by have := heap_setCell_same w D 4 _ _ (.int .i64 i') h.tb; unfold TB; rw [this]; simp)
theorem Mid.set5 (h : Mid s S base D q L v fc fl fa k l a x i b wb w) (b' : Int) : Mid s S base D q L v fc fl fa k l a x i b' wb (w.setCell ⟨D, 5, none⟩ (.int .u64 b')) :=
  h.onD (grown_set _ _ _ _) (by have := heap_setCell_same w D 5 _ _ (.int .u64 b') h.tb; unfold TB; rw [this]; simp)
theorem Lx.setv {v' : Value} (h : Lx s S q v fc fl fa w) : Lx s S q v' fc fl fa (w.setCell ⟨S, 3, none⟩ v') := by
  have h1 := heap_setCell_same w S 3 _ _ v' h
  unfold Lx
  rw [h1]
  simp
end
theorem OneB.mid {s : ByteArray} {S base p : Nat} {L : List (Tk × Nat)} {v : Value} {fl fa : Int} {wb w : World} (h : OneB s S base p L v fl fa wb w) :
    Mid s S base w.heap.size p L v 0 fl fa 0 ((nlc s p : Int) + 1) p ⟨#[]⟩ 0 0 wb (w.alloc (.cells (tokZ ((nlc s p : Int) + 1) p) 37)).drew :=
  ⟨h.tok.1.lx, h.tok.1.own, h.tok.2, h.tok.1.bel, h.hS, h.hSb, h.hb, fun g hg => (World.ownsRow.lt h.own g hg).2⟩
theorem mid_end {s : ByteArray} {S base D q : Nat} {L : List (Tk × Nat)} {v : Value} {fc fl fa k l a : Int} {x : ByteArray} {i b : Int} {wb w w9 : World} (h : Mid s S base D q L v fc fl fa k l a x i b wb w) (o : Obj) (hg : (w.alloc o).drew.grownBy w9 v.ownBlock) :
    Below wb.heap.size wb w9 ∧ Lx s S q v fc fl fa w9 ∧ base ≤ w9.heap.size := by
  have hb : Below w.heap.size w (w.alloc o).drew := ((Below.refl _ _).alloc (Nat.le_refl _) _).drew
  have h2 := h.low hb
  refine ⟨h2.bel.grown hg h2.bel.size (fun g e => ?_), ?_, ?_⟩
  · have := (World.ownsRow.lt h.own g e).1
    have := h.hS
    have := h.hSb
    omega
  · unfold Lx
    rw [hg.block S h2.lx.lt (fun e => by have := (World.ownsRow.lt h.own S e.symm).1; have := h.hSb; omega)]
    exact h2.lx
  · have := h2.tb.lt
    have := hg.size
    have := h.hbD
    omega
theorem mid_app {s : ByteArray} {S base D q p kk : Nat} {L : List (Tk × Nat)} {v v' : Value} {fl fa k : Int} {x : ByteArray} {i b : Int} {wb w w3 : World}
    (h : Mid s S base D q L v 0 fl fa k ((nlc s p : Int) + 1) p x i b wb w) (hg : w.grownBy w3 none ∨ True) (hq : q = p + kk) (hk : 1 ≤ kk) (hqs : q ≤ s.size) (hL : L.length ≤ p)
    (ho : OwnT s w3 base v' (L ++ [(⟨k, x, i, b⟩, p)])) (hg3 : Below wb.heap.size wb w3) (hx : Lx s S q v 0 fl fa w3) (hsz : base ≤ w3.heap.size) (hF : Fwd s L p → Fwd s (L ++ [(⟨k, x, i, b⟩, p)]) (p + kk)) :
    OneR s S base p L fl fa wb (.returned (.tuple #[])) (w3.setCell ⟨S, 3, none⟩ v') := by
  refine oneR_go (p' := q) (L' := L ++ [(⟨k, x, i, b⟩, p)]) (v' := v') (hg3.setCell (p := ⟨S, 3, none⟩) h.hS _) (by simpa [World.setCell] using hsz) (by omega) hqs (by simp; omega) hx.setv (ho.beside (grown_set _ _ _ _) h.hSb) (fun f => by rw [hq]; exact hF f)
end Go.Proofs.YtmndipnifjpdjaaGreatDoor
namespace Go.Proofs.YtmndipnifjpdjaaGreatDoor
open Go Go.RowKit
set_option linter.unusedVariables false
theorem mid_go {s : ByteArray} {S base D q p : Nat} {L : List (Tk × Nat)} {v : Value} {fl fa k l a : Int} {x : ByteArray} {i b : Int} {wb w : World}
    (h : Mid s S base D q L v 0 fl fa k l a x i b wb w) (hpq : p < q) (hq : q ≤ s.size) (hL : L.length ≤ p) (hF : Fwd s L p → Fwd s L q) :
    OneR s S base p L fl fa wb (.returned (.tuple #[])) w :=
  oneR_go h.bel (by have := h.tb.lt; have := h.hbD; omega) hpq hq (by omega) h.lx h.own hF
def posOf (S : Nat) (w : World) : Nat := match w.cell? ⟨S, 1, none⟩ with
  | some (.int _ x) => x.toNat
  | _ => 0
theorem pos_lx {s : ByteArray} {S q : Nat} {v : Value} {fc fl fa : Int} {w : World} (h : Lx s S q v fc fl fa w) : posOf S w = q := by
  unfold posOf
  rw [h.cells.c1]
  simp
theorem fr_two (s : ByteArray) (p : Nat) : (fun j => fr s p (2 + j)) = fr s (p + 2) := by
  funext j
  unfold fr
  rw [Nat.add_assoc]
set_option maxHeartbeats 3200000 in
set_option maxRecDepth 100000 in
theorem one_com (s : ByteArray) (S base p : Nat) (L : List (Tk × Nat)) (v : Value) (fl fa : Int) (wb w : World) (h : OneB s S base p L v fl fa wb w) (hcm : isCom (fr s p)) :
    Calls Tryz.prog 16 #[.pointer (some ⟨S, 0, none⟩)] w fun e w' => OneR s S base p L fl fa wb e w' := by
  have HH := hide h
  have hs := h.hs
  have hp := h.hp
  have hnl := nlc_le s p
  have hr := hb_rng s p
  clear h
  go_enter Tryz.func16, Tryz.ntmps16
  go_wp2_with fail
  refine (here_any s S p 0 v 0 fl fa _ HH.out.lx hs (by omega) (by omega)).mono ?_
  rintro e w1 ⟨rfl, m0, hw1⟩
  have HH1 : Hid (OneB s S base p L v fl fa wb w1) := hide (by rw [hw1]; exact HH.out.drw m0)
  clear hw1 HH
  rw [Nat.add_zero]
  obtain ⟨c, hc⟩ : ∃ c, hb s p = c := ⟨_, rfl⟩
  have Hc := hide hc
  rw [hc] at hr ⊢
  clear hc
  obtain ⟨c0, c1, c2, c3, c4, c5, c6, z1, z2, z3, z4, z5, z6⟩ := HH1.out.lx.cells
  have hlt := HH1.out.lx.lt
  have HT := hide HH1.out.mid
  have hLp := HH1.out.hL
  have hbw := HH1.out.hb
  have h45 : c = 45 := by rw [← Hc.out]; exact hcm.1
  have HCM := hide hcm
  have HN : Hid (hb s (p + 1) = 45) := hide hcm.2
  have hp2 : p + 1 < s.size := hb_lt (by rw [HN.out]; decide)
  clear hcm
  subst h45
  go_wp2
  go_region
  clear c0 c1 c2 c3 c4 c5 c6 z1 z2 z3 z4 z5 z6
  go_wp2_with fail
  change Calls _ _ _ (w1.alloc (.cells (tokZ ((nlc s p : Int) + 1) p) 37)).drew _
  obtain ⟨D, hD⟩ : ∃ D, w1.heap.size = D := ⟨_, rfl⟩
  rw [hD] at HT ⊢
  generalize hw2 : (w1.alloc (.cells (tokZ ((nlc s p : Int) + 1) p) 37)).drew = w2
  rw [hw2] at HT
  clear hw2 hD hlt hbw
  have hbD := HT.out.hbD
  have hSb := HT.out.hSb
  refine (here_any s S p 1 v 0 fl fa _ HT.out.lx hs (by omega) (by omega)).mono ?_
  rintro e w3 ⟨rfl, m3, hw3⟩
  have HM : Hid (Mid s S base D (p) L v 0 fl fa 0 ((nlc s p : Int) + 1) p ⟨#[]⟩ 0 0 wb w3) := hide (by rw [hw3]; exact HT.out.drw m3)
  clear hw3 HT
  rw [HN.out]
  go_wp2_with fail
  refine (step_any s S p 2 v 0 fl fa _ HM.out.lx hs (by omega)).mono ?_
  rintro e w4 ⟨rfl, hx4, hg4⟩
  have HM4 := hide (HM.out.onS hg4 hx4)
  clear hx4 hg4 HM
  go_wp2_with fail
  refine (long_any s S (p + 2) v 0 fl fa _ HM4.out.lx hs (by omega)).mono ?_
  rintro e w5 (⟨rfl, h2, hx5, hg5⟩ | ⟨n, cc, h1, h2, hpk, rfl, hx5, hg5⟩ | ⟨n, p', h1, h2, rfl, hx5, hg5⟩)
  · have HM5 := hide (HM4.out.onS hg5 hx5)
    have HNL := hide h2
    clear h2 hx5 hg5 HM4
    go_wp2
    go_loopw [] (fun wr => ∃ j : Nat, p + 2 + j ≤ s.size ∧ Hid (∀ i, 2 ≤ i → i < 2 + j → fr s p i ≠ 10) ∧ Hid (Mid s S base D (p + 2 + j) L v 0 fl fa 0 ((nlc s p : Int) + 1) p ⟨#[]⟩ 0 0 wb wr)) (fun wr => s.size - posOf S wr)
    case atStart => exact ⟨0, by omega, hide (fun i h1 h2 => by omega), hide HM5.out⟩
    case round =>
      obtain ⟨j, hpj, HA, HMJ⟩ := hrel
      go_wp2_with fail
      refine (ended_any s S (p + 2 + j) v 0 fl fa _ HMJ.out.lx hs hpj).mono ?_
      rintro e w6 ⟨rfl, m6, hw6⟩
      have HM6 : Hid (Mid s S base D (p + 2 + j) L v 0 fl fa 0 ((nlc s p : Int) + 1) p ⟨#[]⟩ 0 0 wb w6) := hide (by rw [hw6]; exact HMJ.out.drw m6)
      clear hw6
      by_cases hend : s.size ≤ p + 2 + j
      · rw [decide_eq_true hend]
        go_wp2
        refine bodyPost_ret (v := .tuple #[]) (by simp [results, Tryz.results16, go_sem]) rfl ?_
        exact mid_go HM6.out (by omega) hpj hLp (fun f => by have := f.com hp HCM.out (.line (by rw [fr_two]; exact HNL.out) (q := 2 + j) ⟨by omega, HA.out, .inl (by omega), by omega⟩); rw [← Nat.add_assoc] at this; exact this)
      · rw [decide_eq_false hend]
        go_wp2_with fail
        refine (here_any s S (p + 2 + j) 0 v 0 fl fa _ HM6.out.lx hs (by omega) (by omega)).mono ?_
        rintro e w7 ⟨rfl, m7, hw7⟩
        have HM7 : Hid (Mid s S base D (p + 2 + j) L v 0 fl fa 0 ((nlc s p : Int) + 1) p ⟨#[]⟩ 0 0 wb w7) := hide (by rw [hw7]; exact HM6.out.drw m7)
        clear hw7 HM6
        rw [Nat.add_zero]
        obtain ⟨d, hd⟩ : ∃ d, hb s (p + 2 + j) = d := ⟨_, rfl⟩
        have HD := hide hd
        rw [hd]
        clear hd
        by_cases h10 : d = 10
        · subst h10
          go_wp2
          refine bodyPost_ret (v := .tuple #[]) (by simp [results, Tryz.results16, go_sem]) rfl ?_
          exact mid_go HM7.out (by omega) hpj hLp (fun f => by have := f.com hp HCM.out (.line (by rw [fr_two]; exact HNL.out) (q := 2 + j) ⟨by omega, HA.out, .inr (by unfold fr; rw [← Nat.add_assoc]; exact HD.out), by omega⟩); rw [← Nat.add_assoc] at this; exact this)
        · have hq := bq_f h10
          have H10 := hide h10
          clear h10
          go_wp2_with fail
          refine (step_any s S (p + 2 + j) 1 v 0 fl fa _ HM7.out.lx hs (by omega)).mono ?_
          rintro e w8 ⟨rfl, hx8, hg8⟩
          have HM8 := hide (HM7.out.onS hg8 hx8)
          clear hx8 hg8 HM7
          go_wp2
          go_roundw
          case rel => exact ⟨j + 1, by omega, hide (fun i h1 h2 => by
            rcases Nat.lt_or_ge i (2 + j) with g | g
            · exact HA.out i h1 g
            · obtain rfl : i = 2 + j := by omega
              unfold fr
              rw [← Nat.add_assoc, HD.out]
              exact H10.out), hide HM8.out⟩
          case measure => rw [pos_lx HM8.out.lx, pos_lx HMJ.out.lx]; omega
  · have HM5 := hide (HM4.out.onS hg5 hx5)
    have H1 := hide h1
    have H2 := hide h2
    clear h1 h2 hx5 hg5 HM4
    go_wp2
    go_loopw [] (fun wr => wr = w5) (fun _ => 0)
    case atStart => rfl
    case round =>
      have hwr := hrel; clear hrel
      rw [hwr]
      go_wp2
      refine bodyPost_ret (v := .tuple #[]) (by simp [results, Tryz.results16, go_sem]) rfl ?_
      exact mid_go HM5.out (by omega) hpk hLp (fun f => by have := f.com hp HCM.out (.long (k := n) (c := cc) (by rw [fr_two]; exact H1.out) (by rw [fr_two]; exact H2.out)); rw [← Nat.add_assoc] at this; exact this)
  · have HM5 := hide (HM4.out.onS hg5 hx5)
    have H1 := hide h1
    have H2 := hide h2
    clear h1 h2 hx5 hg5 HM4
    go_wp2
    go_loopw [] (fun wr => wr = w5) (fun _ => 0)
    case atStart => rfl
    case round =>
      have hwr := hrel; clear hrel
      rw [hwr]
      go_wp2
      refine bodyPost_ret (v := .tuple #[]) (by simp [results, Tryz.results16, go_sem]) rfl ?_
      exact oneR_bad (o := p + 2) HM5.out.bel (by have := HM5.out.tb.lt; omega) (by decide) HM5.out.lx (fun f => f.comBad hp HCM.out (.bad (k := n) (by rw [fr_two]; exact H1.out) (by rw [fr_two]; exact H2.out)))
end Go.Proofs.YtmndipnifjpdjaaGreatDoor
