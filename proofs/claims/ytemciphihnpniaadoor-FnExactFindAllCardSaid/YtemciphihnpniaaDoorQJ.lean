import Derived.Test.YtemciphihnpniaaDoorQI
namespace Go.Proofs.YtemciphihnpniaaDoor
open Go Go.RowKit Go.Shelf
set_option linter.unusedVariables false

set_option maxHeartbeats 3200000 in
set_option maxRecDepth 100000 in
theorem joined_any (f g : Nat → Bool) (q r : Array Value) (hq : q = clC f) (hr : r = clC g) (w : World) :
    Calls Tryd.prog 81 #[.agg q, .agg r] w fun e w' => e = .returned (.agg (clC (fun j => (f j || g j)))) ∧ Below w.heap.size w w' := by
  have hz := zero_cl
  obtain ⟨z, hze⟩ : ∃ z, clC (fun _ => false) = z := ⟨_, rfl⟩
  rw [hze] at hz
  have HZ := hide hze
  have HQ := hide hq
  have HR0 := hide hr
  clear hze hq hr
  go_enter Tryd.func81, Tryd.ntmps81
  go_wp2
  have hb0 := b_3 w (.cells q 109) (.cells r 109) (.cells z 109)
  have hA : ClF (((w.alloc (.cells q 109)).alloc (.cells r 109)).alloc (.cells z 109)) (w.heap.size + 1 + 1) (fun _ => false) :=
    clC_row (by rw [HZ.out]; have := heap_alloc_new ((w.alloc (.cells q 109)).alloc (.cells r 109)) (.cells z 109); simpa using this)
  have hB : ClF (((w.alloc (.cells q 109)).alloc (.cells r 109)).alloc (.cells z 109)) w.heap.size (fun j => if j < 0 then (f j || g j) else f j) := by
    have h0 : ClF (((w.alloc (.cells q 109)).alloc (.cells r 109)).alloc (.cells z 109)) w.heap.size f := clC_row (by rw [← HQ.out]; exact (Below.heap_alloc _ _ _ (by simp; omega)).trans ((Below.heap_alloc _ _ _ (by simp)).trans (heap_alloc_new w _)))
    exact RowF.congr h0 (fun j hj => by simp)
  have hG : ClF (((w.alloc (.cells q 109)).alloc (.cells r 109)).alloc (.cells z 109)) (w.heap.size + 1) g := clC_row (by rw [← HR0.out]; refine (Below.heap_alloc _ _ _ (by simp)).trans ?_; have := heap_alloc_new (w.alloc (.cells q 109)) (.cells r 109); simpa using this)
  generalize ((w.alloc (.cells q 109)).alloc (.cells r 109)).alloc (.cells z 109) = w0 at hA hB hG hb0 ⊢
  have H0 := hide (And.intro hA (And.intro hB (And.intro hG hb0)))
  clear hA hB hG hb0 hz
  go_loopw [6] (fun iv wr => ∃ i : Nat, i ≤ 256 ∧ iv = .int .i64 i ∧ Hid (ClF wr (w.heap.size + 1 + 1) (fun _ => false) ∧ ClF wr w.heap.size (fun j => if j < i then (f j || g j) else f j) ∧ ClF wr (w.heap.size + 1) g ∧ Below w.heap.size w wr)) (fun iv _ => match iv with | .int _ x => 257 - x.toNat | _ => 0)
  case atStart => exact ⟨0, by omega, rfl, H0⟩
  case round =>
    obtain ⟨i, hi, rfl, HR⟩ := hrel
    by_cases hin : i < 256
    · have h1 : (i : Int) < 256 := by omega
      have hcell : wr.cell? ⟨w.heap.size, i, none⟩ = some (.bool (f i)) := by have := HR.out.2.1.cell hin; simpa using this
      have hfrz := HR.out.2.1.frz i
      have hcel2 := HR.out.2.2.1.cell hin
      have hx : (f i = true ∧ (f i || g i) = true) ∨ (f i = false ∧ (f i || g i) = g i) := by cases f i <;> simp
      obtain ⟨fi, hfi⟩ : ∃ b, f i = b := ⟨_, rfl⟩
      obtain ⟨gi, hgi⟩ : ∃ b, g i = b := ⟨_, rfl⟩
      rw [hfi] at hcell
      rw [hgi] at hcel2
      have HF := hide hfi
      have HG := hide hgi
      clear hfi hgi hx
      cases fi
      · go_wp2
        go_roundw
        case rel =>
          refine ⟨i + 1, by omega, by simp, HR.out.1.other (by omega), ?_, HR.out.2.2.1.other (by omega), HR.out.2.2.2.setCell (Nat.le_refl _) _⟩
          refine (HR.out.2.1.set hin _).congr (fun j hj => ?_)
          by_cases e : j = i
          · subst e; simp [HF.out, HG.out]
          · rw [if_neg e]; simp only [show (j < i + 1) = (j < i) from propext ⟨fun h => by omega, fun h => by omega⟩]
        case measure => simp; omega
      · go_wp2
        go_roundw
        case rel =>
          refine ⟨i + 1, by omega, by simp, HR.out.1.other (by omega), ?_, HR.out.2.2.1.other (by omega), HR.out.2.2.2.setCell (Nat.le_refl _) _⟩
          refine (HR.out.2.1.set hin _).congr (fun j hj => ?_)
          by_cases e : j = i
          · subst e; simp [HF.out, HG.out]
          · rw [if_neg e]; simp only [show (j < i + 1) = (j < i) from propext ⟨fun h => by omega, fun h => by omega⟩]
        case measure => simp; omega
    · obtain rfl : i = 256 := by omega
      have hcl := RowF.congr (f' := fun j => Value.bool ((f j || g j))) HR.out.2.1 (fun j hj => by simp [hj])
      have HA := hide HR.out.1
      have HL := hide HR.out.2.2.2
      have HC := hide hcl
      clear hcl HR
      go_wp2
      rename_i K1 a1 K0 a0
      refine wp_load_mid 109 (.tmp 2) rfl w.heap.size 0 rfl _ (.array 256 4) (row_range HC.out) (by kernel_rfl) rfl (by rw [info_cl]; simp) ?_
      refine a0 _ _ ?_
      clear a0
      have hth := row_there HA.out
      rw [show ((List.range 256).map (fun j => Value.bool ((f j || g j)))).toArray = clC (fun j => (f j || g j)) from rfl]
      have hqs := clC_size (fun j => (f j || g j))
      have hq1 := clC_one (fun j => (f j || g j))
      obtain ⟨p, hpe⟩ : ∃ p, clC (fun j => (f j || g j)) = p := ⟨_, rfl⟩
      rw [hpe] at hqs hq1 ⊢
      have HE := hide hpe
      clear hpe
      have HS := hide hqs
      refine wpList_store_mid rfl 109 (.tmp 4) (.tmp 20) rfl (w.heap.size + 1 + 1) 0 p rfl rfl (by rw [hqs]; exact hth) (by rw [info_cl, hqs]) hq1 ?_
      have HT := hide hth
      have HQ1 := hide hq1
      clear hth hqs hq1
      go_wp2
      refine bodyPost_ret (v := .agg p) ?_ rfl ⟨by rw [HE.out], ?_⟩
      · have hr := World.rangeAt_setCells_same wr (w.heap.size + 1 + 1) 0 p.toList (by rw [Array.length_toList, HS.out]; exact HT.out)
        have hld := run_loadVar_mid (P := Tryd.prog) _ _ _ 109 _ (.array 256 4) hr (by kernel_rfl) rfl (by rw [info_cl, Array.length_toList, HS.out])
        rw [Array.toArray_toList] at hld
        simp [results, Tryd.f81, asAddr, Act.put, hld]
      · exact below_setCells w.heap.size p.toList 0 _ (by omega) HL.out

end Go.Proofs.YtemciphihnpniaaDoor
