import Derived.Test.YtplfgfdlcfdfdaaB0
import Derived.Deep.WholeRow
import Derived.Deep.MidRow
import Derived.Laws.ResultCell
namespace Go.Proofs.Ytplfgfdlcfdfdaa
open Go Go.RowKit
set_option linter.unusedVariables false

def tabN (i j : Nat) : Value := .int .u32 (if j < i then ((csteps 8 j : Nat) : Int) else 0)
def tabC (i : Nat) : Array Value := Array.ofFn (n := 256) fun j => tabN i j.val

theorem tabC_size (i : Nat) : (tabC i).size = 256 := by simp [tabC]
theorem zero_tab (w : World) : (zeroValue 84).run Try.prog w = .ok (.agg (tabC 0)) w :=
  (zero_of_info (P := Try.prog) (t := 84) (v := .agg (tabC 0)) (n := 256) (by kernel_rfl)).1 w
theorem info_tab : (Try.prog.info? 84).map (·.size) = some 256 := by kernel_rfl

theorem bits_and_one (Y : Nat) (h : Y < 4294967296) : bits .and .u32 (Y : Int) 1 = ((Y % 2 : Nat) : Int) := by
  have h1 : (BitVec.ofInt 32 (Y : Int)).toNat = Y := by simp; omega
  show IntKind.u32.wrap (((BitVec.ofInt 32 (Y : Int)) &&& (BitVec.ofInt 32 1)).toNat) = _
  rw [BitVec.toNat_and, h1, IntKind.wrap_u32, show (BitVec.ofInt 32 1).toNat = 1 from rfl, Nat.and_one_is_mod]
  omega

theorem sw_1 {S Y : Nat} (h : S = cstep Y) (hl : Y < 4294967296) (hb : (bits .and .u32 (Y : Int) 1 == 1) = true) : Value.int .u32 (bits BinOp.xor IntKind.u32 ((Y : Int) / 2) 3988292384) = Value.int .u32 (S : Int) := by
  rw [bits_and_one Y hl] at hb
  have hb' : ((Y % 2 : Nat) : Int) = 1 := by simpa using hb
  have h2 : Y % 2 = 1 := by omega
  have e : (Y : Int) / 2 = ((Y / 2 : Nat) : Int) := by omega
  rw [h, cstep_1 h2, e]
  exact congrArg (Value.int .u32) (bits_xor_u32_nat (Y / 2) 3988292384 (by omega) (by decide))
theorem sw_0 {S Y : Nat} (h : S = cstep Y) (hl : Y < 4294967296) (hb : (bits .and .u32 (Y : Int) 1 == 1) = false) : Value.int .u32 ((Y : Int) / 2) = Value.int .u32 (S : Int) := by
  rw [bits_and_one Y hl] at hb
  have hb' : ¬ ((Y % 2 : Nat) : Int) = 1 := by simpa using hb
  have h2 : Y % 2 = 0 := by omega
  rw [h, cstep_0 h2]
  exact congrArg (Value.int .u32) (by omega)

theorem tab_list (i : Nat) : (tabC i) = ((List.range 256).map (tabN i)).toArray := by
  apply Array.ext_getElem?
  intro j
  rcases Nat.lt_or_ge j 256 with hj | hj
  · simp [tabC, hj]
  · simp [tabC, Nat.not_lt.mpr hj]
theorem tab_one (i : Nat) : (tabC i).all (·.oneCell') = true := by
  rw [tab_list]
  refine all_oneCell_toArray (fun v hv => ?_)
  obtain ⟨j, _, rfl⟩ := List.mem_map.1 hv
  rfl
theorem tabC_row (w w' : World) (g : Nat) (h : w'.heap[g]? = some (.cells (tabC 0) 84)) : RowF w' 84 g 256 (tabN 0) := by
  refine ⟨tabC 0, h, by rw [tabC_size]; exact Nat.le_refl _, fun j hj => ?_⟩
  simp [tabC, hj]
theorem tab_step (i Y : Nat) (hY : Y = csteps 8 i) (j : Nat) : (if j = i then Value.int .u32 (Y : Int) else tabN i j) = tabN (i + 1) j := by
  unfold tabN
  by_cases h : j = i
  · subst h
    simp [hY]
  · by_cases h2 : j < i
    · have h3 : j < i + 1 := by omega
      simp [h, h2, h3]
    · have h3 : ¬ j < i + 1 := by omega
      simp [h, h2, h3]

theorem row_range {w : World} {T g N : Nat} {f : Nat → Value} (h : RowF w T g N f) : w.rangeAt g 0 ((List.range N).map f) := by
  intro j v hv
  rw [List.getElem?_map] at hv
  rcases Nat.lt_or_ge j N with hj | hj
  · rw [List.getElem?_range hj] at hv
    cases hv
    rw [Nat.zero_add]
    exact h.cell hj
  · rw [List.getElem?_eq_none (by simpa using hj)] at hv
    cases hv
theorem row_there {w : World} {T g N : Nat} {f : Nat → Value} (h : RowF w T g N f) : w.there g 0 N := by
  intro j hj
  rw [Nat.zero_add]
  exact ⟨by rw [h.cell hj]; rfl, h.frz j⟩

theorem below_setCells {w : World} (b : Nat) : ∀ (vs : List Value) (o : Nat) {w' : World}, Below b w w' → Below b w (w'.setCells b o vs)
  | [], _, _, h => h
  | v :: r, o, w', h => by
    rw [World.setCells]
    exact below_setCells b r (o + 1) (h.setCell (Nat.le_refl _) v)

set_option maxHeartbeats 400000 in
set_option maxRecDepth 100000 in
theorem sumWords_any (w : World) :
    Calls Try.prog 37 #[] w fun e w' => e = .returned (.agg (tabC 256)) ∧ Below w.heap.size w w' := by
  have hz := zero_tab
  go_enter Try.func37, Try.ntmps37
  go_wp2
  have hb0 := b_2 w (.cells (tabC 0) 84) (.cells (tabC 0) 84)
  have hA : RowF ((w.alloc (.cells (tabC 0) 84)).alloc (.cells (tabC 0) 84)) 84 w.heap.size 256 (tabN 0) := by
    exact tabC_row w _ _ ((Below.heap_alloc _ _ _ (by simp)).trans (heap_alloc_new w _))
  have hB : RowF ((w.alloc (.cells (tabC 0) 84)).alloc (.cells (tabC 0) 84)) 84 (w.heap.size + 1) 256 (tabN 0) := by
    exact tabC_row w _ _ (by have := heap_alloc_new (w.alloc (.cells (tabC 0) 84)) (.cells (tabC 0) 84); simpa using this)
  generalize (w.alloc (.cells (tabC 0) 84)).alloc (.cells (tabC 0) 84) = w0 at hA hB hb0 ⊢
  have H0 := hide (And.intro hA (And.intro hB hb0))
  clear hA hB hb0
  go_loopw [5] (fun iv wr => ∃ i : Nat, i ≤ 256 ∧ iv = .int .i64 i ∧ Hid (RowF wr 84 w.heap.size 256 (tabN 0) ∧ RowF wr 84 (w.heap.size + 1) 256 (tabN i) ∧ Below w.heap.size w wr)) (fun iv _ => match iv with | .int _ x => 256 - x.toNat | _ => 0)
  case atStart => exact ⟨0, by omega, rfl, H0⟩
  case round =>
    obtain ⟨i, hi, rfl, HR⟩ := hrel
    by_cases hin : i < 256
    · have h1 : (i : Int) < 256 := by omega
      have hmod : (i : Int) % 4294967296 = (i : Int) := by omega
      go_wp2
      go_loopw [3, 10] (fun rv kv wr2 => ∃ k : Nat, k ≤ 8 ∧ rv = .int .u32 (csteps k i) ∧ kv = .int .i64 k ∧ wr2 = wr) (fun _ kv _ => match kv with | .int _ x => 8 - x.toNat | _ => 0)
      case atStart => exact ⟨0, by omega, rfl, rfl, rfl⟩
      case round =>
        obtain ⟨k, hk, rfl, rfl, rfl⟩ := hrel
        have hkl := csteps_lt k (show i < 4294967296 by omega)
        by_cases hk8 : k < 8
        · have hk8' : (k : Int) < 8 := by omega
          have hs : csteps (k + 1) i = cstep (csteps k i) := rfl
          have HS := hide hs
          clear hs
          generalize csteps k i = Y at hkl HS
          have HL := hide hkl
          clear hkl
          go_wp2
          · rename_i hbit
            go_roundw
            case rel => exact ⟨k + 1, by omega, sw_1 HS.out HL.out hbit, by simp, trivial⟩
            case measure => simp; omega
          · rename_i hbit
            go_roundw
            case rel => exact ⟨k + 1, by omega, sw_0 HS.out HL.out hbit, by simp, trivial⟩
            case measure => simp; omega
        · have hk9 : ¬ ((k : Int) < 8) := by omega
          have HX2 : Hid (csteps k i = csteps 8 i) := hide (by rw [show k = 8 by omega])
          generalize csteps k i = Y at HX2 hkl
          have HL := hide hkl
          clear hkl
          have hcell := HR.out.2.1.cell hin
          have hfrz := HR.out.2.1.frz i
          go_wp2
          go_roundw
          case rel =>
            refine ⟨i + 1, by omega, by simp, HR.out.1.other (by omega), ?_, ?_⟩
            · refine (HR.out.2.1.set hin _).congr (fun j hj => ?_)
              exact tab_step i Y HX2.out j
            · exact HR.out.2.2.setCell (by show w.heap.size ≤ w.heap.size + 1; omega) _
          case measure => simp; omega
    · obtain rfl : i = 256 := by omega
      go_wp2
      rename_i K1 a1 K0 a0
      refine wp_load_mid 84 (.tmp 1) rfl (w.heap.size + 1) 0 rfl _ (.array 256 49) (row_range HR.out.2.1) (by kernel_rfl) rfl (by rw [info_tab]; simp) ?_
      rw [← tab_list]
      refine a0 _ _ ?_
      clear a0
      have hth := row_there HR.out.1
      have hsc := run_storeCells_cells (P := Try.prog) w.heap.size 0 (tabC 256).toList 0 wr (fun j hj => by rw [Nat.add_zero]; exact (hth j (by rw [Array.length_toList, tabC_size] at hj; exact hj)).1) (fun j hj => by rw [Nat.add_zero]; exact (hth j (by rw [Array.length_toList, tabC_size] at hj; exact hj)).2) (fun v hv => (Array.all_eq_true_iff_forall_mem.1 (tab_one 256)) v (by simpa using hv))
      have HT := hide hth
      clear hth
      go_wp2
      refine bodyPost_ret (v := .agg (tabC 256)) ?_ rfl ⟨rfl, ?_⟩
      · have hr := World.rangeAt_setCells_same wr w.heap.size 0 (tabC 256).toList (by rw [Array.length_toList, tabC_size]; exact HT.out)
        have hld := run_loadVar_mid (P := Try.prog) _ _ _ 84 _ (.array 256 49) hr (by kernel_rfl) rfl (by rw [info_tab, Array.length_toList, tabC_size])
        rw [Array.toArray_toList] at hld
        simp [results, Try.f37, asAddr, hld]
      · exact below_setCells w.heap.size (tabC 256).toList 0 HR.out.2.2

end Go.Proofs.Ytplfgfdlcfdfdaa
