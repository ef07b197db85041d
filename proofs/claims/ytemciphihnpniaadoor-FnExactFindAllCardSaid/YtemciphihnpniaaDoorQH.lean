import Derived.Test.YtemciphihnpniaaDoorJQ1
import Derived.Deep.WholeRow
import Derived.Deep.MidRow
import Derived.Laws.ResultCell
namespace Go.Proofs.YtemciphihnpniaaDoor
open Go Go.RowKit Go.Shelf
set_option linter.unusedVariables false

/-- A class by value. -/
def clC (f : Nat → Bool) : Array Value := ((List.range 256).map (fun j => Value.bool (f j))).toArray
theorem clC_size (f : Nat → Bool) : (clC f).size = 256 := by simp [clC]
theorem clC_one (f : Nat → Bool) : (clC f).all (·.oneCell') = true := by
  refine all_oneCell_toArray (fun v hv => ?_)
  obtain ⟨j, _, rfl⟩ := List.mem_map.1 hv
  rfl
theorem clC_congr {f g : Nat → Bool} (h : ∀ j, j < 256 → f j = g j) : clC f = clC g := by
  unfold clC
  congr 1
  exact List.map_congr_left (fun j hj => by rw [h j (List.mem_range.1 hj)])
theorem clC_row {w : World} {g : Nat} {f : Nat → Bool} (h : w.heap[g]? = some (.cells (clC f) 109)) : ClF w g f := by
  refine ⟨clC f, h, by rw [clC_size]; exact Nat.le_refl _, fun j hj => ?_⟩
  simp [clC, hj]
theorem zero_cl (w : World) : (zeroValue 109).run Tryd.prog w = .ok (.agg (clC (fun _ => false))) w :=
  (zero_of_info (P := Tryd.prog) (t := 109) (v := .agg (clC (fun _ => false))) (n := 256) (by kernel_rfl)).1 w
theorem info_cl : (Tryd.prog.info? 109).map (·.size) = some 256 := by kernel_rfl
theorem row_range {w : World} {T g N : Nat} {f : Nat → Value} (h : RowF w T g N f) : w.rangeAt g 0 ((List.range N).map f) := by
  intro j v hv
  rw [List.getElem?_map] at hv
  rcases Nat.lt_or_ge j N with hj | hj
  · rw [List.getElem?_range hj] at hv
    cases hv
    rw [Nat.zero_add]
    exact h.cell hj
  · rw [List.getElem?_eq_none (by simpa using hj)] at hv
    cases hv
theorem row_there {w : World} {T g N : Nat} {f : Nat → Value} (h : RowF w T g N f) : w.there g 0 N := by
  intro j hj
  rw [Nat.zero_add]
  exact ⟨by rw [h.cell hj]; rfl, h.frz j⟩
theorem below_setCells {w : World} (b : Nat) : ∀ (vs : List Value) (o g : Nat) {w' : World}, b ≤ g → Below b w w' → Below b w (w'.setCells g o vs)
  | [], _, _, _, _, h => h
  | v :: r, o, g, w', hg, h => by
    rw [World.setCells]
    exact below_setCells b r (o + 1) g hg (h.setCell (by exact hg) v)
/-- The bytes from a to b, those below i. -/
def btw (a b : Nat) : Nat → Bool := fun j => decide (a ≤ j) && decide (j ≤ b)
def btw' (a i : Nat) : Nat → Bool := fun j => decide (a ≤ j) && decide (j < i)

set_option maxHeartbeats 3200000 in
set_option maxRecDepth 100000 in
theorem between_any (a b : Nat) (ai bi : Int) (hai : ai = a) (hbi : bi = b) (ha : a < 256) (hb : b < 256) (w : World) :
    Calls Tryd.prog 85 #[.int .u8 ai, .int .u8 bi] w fun e w' => e = .returned (.agg (clC (btw a b))) ∧ Below w.heap.size w w' := by
  subst hai hbi
  have hz := zero_cl
  go_enter Tryd.func85, Tryd.ntmps85
  go_wp2
  have hb0 := b_2 w (.cells (clC (fun _ => false)) 109) (.cells (clC (fun _ => false)) 109)
  have hA : ClF ((w.alloc (.cells (clC (fun _ => false)) 109)).alloc (.cells (clC (fun _ => false)) 109)) w.heap.size (fun _ => false) := by
    exact clC_row ((Below.heap_alloc _ _ _ (by simp)).trans (heap_alloc_new w _))
  have hB : ClF ((w.alloc (.cells (clC (fun _ => false)) 109)).alloc (.cells (clC (fun _ => false)) 109)) (w.heap.size + 1) (btw' a a) := by
    have h0 : ClF ((w.alloc (.cells (clC (fun _ => false)) 109)).alloc (.cells (clC (fun _ => false)) 109)) (w.heap.size + 1) (fun _ => false) :=
      clC_row (by have := heap_alloc_new (w.alloc (.cells (clC (fun _ => false)) 109)) (.cells (clC (fun _ => false)) 109); simpa using this)
    exact RowF.congr h0 (fun j hj => by simp [btw'])
  generalize (w.alloc (.cells (clC (fun _ => false)) 109)).alloc (.cells (clC (fun _ => false)) 109) = w0 at hA hB hb0 ⊢
  have H0 := hide (And.intro hA (And.intro hB hb0))
  clear hA hB hb0 hz
  go_loopw [6] (fun iv wr => ∃ i : Nat, a ≤ i ∧ i ≤ 256 ∧ (i ≤ b + 1 ∨ i = a) ∧ iv = .int .i64 i ∧ Hid (ClF wr w.heap.size (fun _ => false) ∧ ClF wr (w.heap.size + 1) (btw' a i) ∧ Below w.heap.size w wr)) (fun iv _ => match iv with | .int _ x => 257 - x.toNat | _ => 0)
  case atStart => exact ⟨a, by omega, by omega, .inr rfl, rfl, H0⟩
  case round =>
    obtain ⟨i, hi0, hi, hi1, rfl, HR⟩ := hrel
    by_cases hin : i ≤ b
    · have h1 : (i : Int) ≤ b := by omega
      have hcell := HR.out.2.1.cell (show i < 256 by omega)
      have hfrz := HR.out.2.1.frz i
      have hi2 : i < 256 := by omega
      go_wp2
      go_roundw
      case rel =>
        refine ⟨i + 1, by omega, by omega, by omega, by simp, HR.out.1.other (by omega), ?_, ?_⟩
        · refine (HR.out.2.1.set (show i < 256 by omega) _).congr (fun j hj => ?_)
          by_cases e : j = i
          · subst e; simp [btw', hi0]
          · rw [if_neg e]; congr 1; unfold btw'; rw [show decide (j < i + 1) = decide (j < i) by simp; omega]
        · exact HR.out.2.2.setCell (by show w.heap.size ≤ w.heap.size + 1; omega) _
      case measure => simp; omega
    · have h1 : ¬ (i : Int) ≤ b := by omega
      have hcl := RowF.congr (f' := fun j => Value.bool (btw a b j)) HR.out.2.1 (fun j hj => by congr 1; unfold btw' btw; rw [Bool.eq_iff_iff]; simp; omega)
      have HA := hide HR.out.1
      have HL := hide HR.out.2.2
      have HC := hide hcl
      clear hcl HR
      go_wp2
      rename_i K1 a1 K0 a0
      refine wp_load_mid 109 (.tmp 5) rfl (w.heap.size + 1) 0 rfl _ (.array 256 4) (row_range HC.out) (by kernel_rfl) rfl (by rw [info_cl]; simp) ?_
      refine a0 _ _ ?_
      clear a0
      have hth := row_there HA.out
      rw [show ((List.range 256).map (fun j => Value.bool (btw a b j))).toArray = clC (btw a b) from rfl]
      have hqs := clC_size (btw a b)
      have hq1 := clC_one (btw a b)
      obtain ⟨q, hqe⟩ : ∃ q, clC (btw a b) = q := ⟨_, rfl⟩
      rw [hqe] at hqs hq1 ⊢
      have HE := hide hqe
      clear hqe
      have HQ := hide hqs
      refine wpList_store_mid rfl 109 (.tmp 4) (.tmp 17) rfl w.heap.size 0 q rfl rfl (by rw [hqs]; exact hth) (by rw [info_cl, hqs]) hq1 ?_
      have HT := hide hth
      have HQ1 := hide hq1
      clear hth hqs hq1
      go_wp2
      refine bodyPost_ret (v := .agg q) ?_ rfl ⟨by rw [HE.out], ?_⟩
      · have hr := World.rangeAt_setCells_same wr w.heap.size 0 q.toList (by rw [Array.length_toList, HQ.out]; exact HT.out)
        have hld := run_loadVar_mid (P := Tryd.prog) _ _ _ 109 _ (.array 256 4) hr (by kernel_rfl) rfl (by rw [info_cl, Array.length_toList, HQ.out])
        rw [Array.toArray_toList] at hld
        simp [results, Tryd.f85, asAddr, hld]
      · exact below_setCells w.heap.size q.toList 0 _ (Nat.le_refl _) HL.out

end Go.Proofs.YtemciphihnpniaaDoor
