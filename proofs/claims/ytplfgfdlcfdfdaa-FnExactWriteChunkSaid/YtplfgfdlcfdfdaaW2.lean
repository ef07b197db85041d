import Derived.Test.YtplfgfdlcfdfdaaW1
namespace Go.Proofs.Ytplfgfdlcfdfdaa
open Go Go.RowKit
set_option linter.unusedVariables false

/-- A struct that was boxed: its cells. -/
abbrev BoxR (w : World) (T g : Nat) (a : Array Value) : Prop := RowF w T g a.size (fun j => a.getD j (.bool false))

set_option maxHeartbeats 1600000 in
set_option maxRecDepth 100000 in
theorem instruction_any (w0 w : World) (R : Nat) (v : Value) (L : List Int) (o a b c : Int) (hL : L.length ≤ 40000000000000) (h : WS w0 w R v L) :
    Calls Try.prog 36 #[.pointer (some ⟨R, 0, none⟩), .agg #[.int .i64 o, .int .i64 a, .int .i64 b, .int .i64 c]] w fun e w' => e = .returned (.tuple #[]) ∧ ∃ v', WS w0 w' R v' (L ++ (u64n o 1 ++ (u64n a 1 ++ (u64n b 4 ++ u64n c 4)))) ∧ WK w w' R := by
  have hR := h.row.lt
  have HW := hide (h.alloc (.cells #[.int .i64 o, .int .i64 a, .int .i64 b, .int .i64 c] 76))
  have HK := hide (WK.of (R := R) (b_1 w (.cells #[.int .i64 o, .int .i64 a, .int .i64 b, .int .i64 c] 76)) (Nat.le_refl _))
  have HX : Hid (BoxR (w.alloc (.cells #[.int .i64 o, .int .i64 a, .int .i64 b, .int .i64 c] 76)) 76 w.heap.size #[.int .i64 o, .int .i64 a, .int .i64 b, .int .i64 c]) := hide (RowF.mk' w 76 #[.int .i64 o, .int .i64 a, .int .i64 b, .int .i64 c])
  have hgR : w.heap.size ≠ R := by omega
  clear h hR
  go_enter Try.func36, Try.ntmps36
  go_wp2_with fail
  generalize w.alloc (.cells #[.int .i64 o, .int .i64 a, .int .i64 b, .int .i64 c] 76) = w1 at HW HK HX ⊢
  generalize w.heap.size = g at HX hgR ⊢
  refine (wnum_any w0 w1 R v (L) o 1 (by omega) (by (repeat rw [List.length_append]); (repeat rw [u64n_len]); (try rw [List.length_singleton]); omega) HW.out).mono ?_
  rintro e w2 ⟨rfl, v2, h1, k1⟩
  have HW := hide h1
  have HK := hide (HK.out.trans k1)
  have HX := hide (HX.out.wk k1 (by decide) hgR)
  clear h1 k1
  have y0 : w2.cell? ⟨g, 0, none⟩ = some (.int .i64 o) := HX.out.cell (j := 0) (by simp)
  have y1 : w2.cell? ⟨g, 1, none⟩ = some (.int .i64 a) := HX.out.cell (j := 1) (by simp)
  have y2 : w2.cell? ⟨g, 2, none⟩ = some (.int .i64 b) := HX.out.cell (j := 2) (by simp)
  have y3 : w2.cell? ⟨g, 3, none⟩ = some (.int .i64 c) := HX.out.cell (j := 3) (by simp)
  go_wp2_with fail
  clear y0 y1 y2 y3
  refine (wnum_any w0 w2 R v2 (L ++ u64n o 1) a 1 (by omega) (by (repeat rw [List.length_append]); (repeat rw [u64n_len]); (try rw [List.length_singleton]); omega) HW.out).mono ?_
  rintro e w3 ⟨rfl, v3, h1, k1⟩
  have HW := hide h1
  have HK := hide (HK.out.trans k1)
  have HX := hide (HX.out.wk k1 (by decide) hgR)
  clear h1 k1
  have y0 : w3.cell? ⟨g, 0, none⟩ = some (.int .i64 o) := HX.out.cell (j := 0) (by simp)
  have y1 : w3.cell? ⟨g, 1, none⟩ = some (.int .i64 a) := HX.out.cell (j := 1) (by simp)
  have y2 : w3.cell? ⟨g, 2, none⟩ = some (.int .i64 b) := HX.out.cell (j := 2) (by simp)
  have y3 : w3.cell? ⟨g, 3, none⟩ = some (.int .i64 c) := HX.out.cell (j := 3) (by simp)
  go_wp2_with fail
  clear y0 y1 y2 y3
  refine (wnum_any w0 w3 R v3 (L ++ u64n o 1 ++ u64n a 1) b 4 (by omega) (by (repeat rw [List.length_append]); (repeat rw [u64n_len]); (try rw [List.length_singleton]); omega) HW.out).mono ?_
  rintro e w4 ⟨rfl, v4, h1, k1⟩
  have HW := hide h1
  have HK := hide (HK.out.trans k1)
  have HX := hide (HX.out.wk k1 (by decide) hgR)
  clear h1 k1
  have y0 : w4.cell? ⟨g, 0, none⟩ = some (.int .i64 o) := HX.out.cell (j := 0) (by simp)
  have y1 : w4.cell? ⟨g, 1, none⟩ = some (.int .i64 a) := HX.out.cell (j := 1) (by simp)
  have y2 : w4.cell? ⟨g, 2, none⟩ = some (.int .i64 b) := HX.out.cell (j := 2) (by simp)
  have y3 : w4.cell? ⟨g, 3, none⟩ = some (.int .i64 c) := HX.out.cell (j := 3) (by simp)
  go_wp2_with fail
  clear y0 y1 y2 y3
  refine (wnum_any w0 w4 R v4 (L ++ u64n o 1 ++ u64n a 1 ++ u64n b 4) c 4 (by omega) (by (repeat rw [List.length_append]); (repeat rw [u64n_len]); (try rw [List.length_singleton]); omega) HW.out).mono ?_
  rintro e w5 ⟨rfl, v5, h1, k1⟩
  have HW := hide h1
  have HK := hide (HK.out.trans k1)
  have HX := hide (HX.out.wk k1 (by decide) hgR)
  clear h1 k1
  go_wp2
  go_end0
  exact ⟨rfl, _, by have := HW.out; simp only [List.append_assoc] at this; exact this, HK.out⟩

/-- The bytes of a constant. -/
def coV (k i b : Int) (t : ByteArray) : List Int := [IntKind.u8.wrap k] ++ (if k = 4 then u64n i 8 else if k = 5 then u64n (wrap64 b) 8 else u64n t.size 4 ++ txL t)
theorem coV_eq (p : PV) (k : Nat) : coL p k = coV (p.c0 k) (p.c1 k) (p.c2 k) (p.c3 k) := rfl
theorem coV4 (i b : Int) (t : ByteArray) : coV 4 i b t = u64n 4 1 ++ u64n i 8 := by
  rw [coV, if_pos rfl]; rfl
theorem coV5 (i b : Int) (t : ByteArray) : coV 5 i b t = u64n 5 1 ++ u64n (wrap64 b) 8 := by
  rw [coV, if_neg (by decide), if_pos rfl]; rfl
theorem coV6 (i b : Int) (t : ByteArray) : coV 6 i b t = u64n 6 1 ++ (u64n t.size 4 ++ txL t) := by
  rw [coV, if_neg (by decide), if_neg (by decide)]; rfl

set_option maxHeartbeats 1600000 in
set_option maxRecDepth 100000 in
theorem constant4_any (w0 w : World) (R : Nat) (v : Value) (L : List Int) (i b : Int) (t : ByteArray) (ht : t.size ≤ 1048576) (hL : L.length ≤ 40000000000000) (h : WS w0 w R v L) :
    Calls Try.prog 35 #[.pointer (some ⟨R, 0, none⟩), .agg #[.int .i64 4, .int .i64 i, .int .u64 b, .string t]] w fun e w' => e = .returned (.tuple #[]) ∧ ∃ v', WS w0 w' R v' (L ++ coV 4 i b t) ∧ WK w w' R := by
  rw [coV4]
  have hR := h.row.lt
  have HW := hide (h.alloc (.cells #[.int .i64 4, .int .i64 i, .int .u64 b, .string t] 73))
  have HK := hide (WK.of (R := R) (b_1 w (.cells #[.int .i64 4, .int .i64 i, .int .u64 b, .string t] 73)) (Nat.le_refl _))
  have HX : Hid (BoxR (w.alloc (.cells #[.int .i64 4, .int .i64 i, .int .u64 b, .string t] 73)) 73 w.heap.size #[.int .i64 4, .int .i64 i, .int .u64 b, .string t]) := hide (RowF.mk' w 73 #[.int .i64 4, .int .i64 i, .int .u64 b, .string t])
  have hgR : w.heap.size ≠ R := by omega
  clear h hR
  go_enter Try.func35, Try.ntmps35
  go_wp2_with fail
  generalize w.alloc (.cells #[.int .i64 4, .int .i64 i, .int .u64 b, .string t] 73) = w1 at HW HK HX ⊢
  generalize w.heap.size = g at HX hgR ⊢
  refine (wnum_any w0 w1 R v (L) 4 1 (by omega) (by (repeat rw [List.length_append]); (repeat rw [u64n_len]); (try rw [List.length_singleton]); omega) HW.out).mono ?_
  rintro e w2 ⟨rfl, v2, h1, k1⟩
  have HW := hide h1
  have HK := hide (HK.out.trans k1)
  have HX := hide (HX.out.wk k1 (by decide) hgR)
  clear h1 k1
  have y0 : w2.cell? ⟨g, 0, none⟩ = some (.int .i64 4) := HX.out.cell (j := 0) (by simp)
  have y1 : w2.cell? ⟨g, 1, none⟩ = some (.int .i64 i) := HX.out.cell (j := 1) (by simp)
  have y2 : w2.cell? ⟨g, 2, none⟩ = some (.int .u64 b) := HX.out.cell (j := 2) (by simp)
  have y3 : w2.cell? ⟨g, 3, none⟩ = some (.string t) := HX.out.cell (j := 3) (by simp)
  go_wp2_with fail
  clear y0 y1 y2 y3
  refine (wnum_any w0 w2 R v2 (L ++ u64n 4 1) i 8 (by omega) (by (repeat rw [List.length_append]); (repeat rw [u64n_len]); (try rw [List.length_singleton]); omega) HW.out).mono ?_
  rintro e w3 ⟨rfl, v3, h1, k1⟩
  have HW := hide h1
  have HK := hide (HK.out.trans k1)
  have HX := hide (HX.out.wk k1 (by decide) hgR)
  clear h1 k1
  go_wp2
  go_end0
  exact ⟨rfl, _, by have := HW.out; simp only [List.append_assoc] at this; exact this, HK.out⟩

set_option maxHeartbeats 1600000 in
set_option maxRecDepth 100000 in
theorem constant5_any (w0 w : World) (R : Nat) (v : Value) (L : List Int) (i b : Int) (t : ByteArray) (ht : t.size ≤ 1048576) (hL : L.length ≤ 40000000000000) (h : WS w0 w R v L) :
    Calls Try.prog 35 #[.pointer (some ⟨R, 0, none⟩), .agg #[.int .i64 5, .int .i64 i, .int .u64 b, .string t]] w fun e w' => e = .returned (.tuple #[]) ∧ ∃ v', WS w0 w' R v' (L ++ coV 5 i b t) ∧ WK w w' R := by
  rw [coV5]
  have hR := h.row.lt
  have HW := hide (h.alloc (.cells #[.int .i64 5, .int .i64 i, .int .u64 b, .string t] 73))
  have HK := hide (WK.of (R := R) (b_1 w (.cells #[.int .i64 5, .int .i64 i, .int .u64 b, .string t] 73)) (Nat.le_refl _))
  have HX : Hid (BoxR (w.alloc (.cells #[.int .i64 5, .int .i64 i, .int .u64 b, .string t] 73)) 73 w.heap.size #[.int .i64 5, .int .i64 i, .int .u64 b, .string t]) := hide (RowF.mk' w 73 #[.int .i64 5, .int .i64 i, .int .u64 b, .string t])
  have hgR : w.heap.size ≠ R := by omega
  clear h hR
  go_enter Try.func35, Try.ntmps35
  go_wp2_with fail
  generalize w.alloc (.cells #[.int .i64 5, .int .i64 i, .int .u64 b, .string t] 73) = w1 at HW HK HX ⊢
  generalize w.heap.size = g at HX hgR ⊢
  refine (wnum_any w0 w1 R v (L) 5 1 (by omega) (by (repeat rw [List.length_append]); (repeat rw [u64n_len]); (try rw [List.length_singleton]); omega) HW.out).mono ?_
  rintro e w2 ⟨rfl, v2, h1, k1⟩
  have HW := hide h1
  have HK := hide (HK.out.trans k1)
  have HX := hide (HX.out.wk k1 (by decide) hgR)
  clear h1 k1
  have y0 : w2.cell? ⟨g, 0, none⟩ = some (.int .i64 5) := HX.out.cell (j := 0) (by simp)
  have y1 : w2.cell? ⟨g, 1, none⟩ = some (.int .i64 i) := HX.out.cell (j := 1) (by simp)
  have y2 : w2.cell? ⟨g, 2, none⟩ = some (.int .u64 b) := HX.out.cell (j := 2) (by simp)
  have y3 : w2.cell? ⟨g, 3, none⟩ = some (.string t) := HX.out.cell (j := 3) (by simp)
  go_wp2_with fail
  clear y0 y1 y2 y3
  refine (wnum_any w0 w2 R v2 (L ++ u64n 5 1) (wrap64 b) 8 (by omega) (by (repeat rw [List.length_append]); (repeat rw [u64n_len]); (try rw [List.length_singleton]); omega) HW.out).mono ?_
  rintro e w3 ⟨rfl, v3, h1, k1⟩
  have HW := hide h1
  have HK := hide (HK.out.trans k1)
  have HX := hide (HX.out.wk k1 (by decide) hgR)
  clear h1 k1
  go_wp2
  go_end0
  exact ⟨rfl, _, by have := HW.out; simp only [List.append_assoc] at this; exact this, HK.out⟩

set_option maxHeartbeats 1600000 in
set_option maxRecDepth 100000 in
theorem constant6_any (w0 w : World) (R : Nat) (v : Value) (L : List Int) (i b : Int) (t : ByteArray) (ht : t.size ≤ 1048576) (hL : L.length ≤ 40000000000000) (h : WS w0 w R v L) :
    Calls Try.prog 35 #[.pointer (some ⟨R, 0, none⟩), .agg #[.int .i64 6, .int .i64 i, .int .u64 b, .string t]] w fun e w' => e = .returned (.tuple #[]) ∧ ∃ v', WS w0 w' R v' (L ++ coV 6 i b t) ∧ WK w w' R := by
  rw [coV6]
  have hR := h.row.lt
  have HW := hide (h.alloc (.cells #[.int .i64 6, .int .i64 i, .int .u64 b, .string t] 73))
  have HK := hide (WK.of (R := R) (b_1 w (.cells #[.int .i64 6, .int .i64 i, .int .u64 b, .string t] 73)) (Nat.le_refl _))
  have HX : Hid (BoxR (w.alloc (.cells #[.int .i64 6, .int .i64 i, .int .u64 b, .string t] 73)) 73 w.heap.size #[.int .i64 6, .int .i64 i, .int .u64 b, .string t]) := hide (RowF.mk' w 73 #[.int .i64 6, .int .i64 i, .int .u64 b, .string t])
  have hgR : w.heap.size ≠ R := by omega
  clear h hR
  go_enter Try.func35, Try.ntmps35
  go_wp2_with fail
  generalize w.alloc (.cells #[.int .i64 6, .int .i64 i, .int .u64 b, .string t] 73) = w1 at HW HK HX ⊢
  generalize w.heap.size = g at HX hgR ⊢
  refine (wnum_any w0 w1 R v (L) 6 1 (by omega) (by (repeat rw [List.length_append]); (repeat rw [u64n_len]); (try rw [List.length_singleton]); omega) HW.out).mono ?_
  rintro e w2 ⟨rfl, v2, h1, k1⟩
  have HW := hide h1
  have HK := hide (HK.out.trans k1)
  have HX := hide (HX.out.wk k1 (by decide) hgR)
  clear h1 k1
  have y0 : w2.cell? ⟨g, 0, none⟩ = some (.int .i64 6) := HX.out.cell (j := 0) (by simp)
  have y1 : w2.cell? ⟨g, 1, none⟩ = some (.int .i64 i) := HX.out.cell (j := 1) (by simp)
  have y2 : w2.cell? ⟨g, 2, none⟩ = some (.int .u64 b) := HX.out.cell (j := 2) (by simp)
  have y3 : w2.cell? ⟨g, 3, none⟩ = some (.string t) := HX.out.cell (j := 3) (by simp)
  go_wp2_with fail
  clear y0 y1 y2 y3
  refine (wnum_any w0 w2 R v2 (L ++ u64n 6 1) (t.size : Int) 4 (by omega) (by (repeat rw [List.length_append]); (repeat rw [u64n_len]); (try rw [List.length_singleton]); omega) HW.out).mono ?_
  rintro e w3 ⟨rfl, v3, h1, k1⟩
  have HW := hide h1
  have HK := hide (HK.out.trans k1)
  have HX := hide (HX.out.wk k1 (by decide) hgR)
  clear h1 k1
  have y0 : w3.cell? ⟨g, 0, none⟩ = some (.int .i64 6) := HX.out.cell (j := 0) (by simp)
  have y1 : w3.cell? ⟨g, 1, none⟩ = some (.int .i64 i) := HX.out.cell (j := 1) (by simp)
  have y2 : w3.cell? ⟨g, 2, none⟩ = some (.int .u64 b) := HX.out.cell (j := 2) (by simp)
  have y3 : w3.cell? ⟨g, 3, none⟩ = some (.string t) := HX.out.cell (j := 3) (by simp)
  go_wp2_with fail
  clear y0 y1 y2 y3
  refine (wtext_any w0 w3 R v3 (L ++ u64n 6 1 ++ u64n (t.size : Int) 4) t (by (repeat rw [List.length_append]); (repeat rw [u64n_len]); (try rw [List.length_singleton]); omega) HW.out).mono ?_
  rintro e w4 ⟨rfl, v4, h1, k1⟩
  have HW := hide h1
  have HK := hide (HK.out.trans k1)
  have HX := hide (HX.out.wk k1 (by decide) hgR)
  clear h1 k1
  go_wp2
  go_end0
  exact ⟨rfl, _, by have := HW.out; simp only [List.append_assoc] at this; exact this, HK.out⟩

theorem constant_any (w0 w : World) (R : Nat) (v : Value) (L : List Int) (k i b : Int) (t : ByteArray) (hk : constOk k i b t) (ht : t.size ≤ 1048576) (hL : L.length ≤ 40000000000000) (h : WS w0 w R v L) :
    Calls Try.prog 35 #[.pointer (some ⟨R, 0, none⟩), .agg #[.int .i64 k, .int .i64 i, .int .u64 b, .string t]] w fun e w' => e = .returned (.tuple #[]) ∧ ∃ v', WS w0 w' R v' (L ++ coV k i b t) ∧ WK w w' R := by
  rcases hk with ⟨rfl, _⟩ | ⟨rfl, _⟩ | ⟨rfl, _⟩
  · exact constant4_any w0 w R v L i b t ht hL h
  · exact constant5_any w0 w R v L i b t ht hL h
  · exact constant6_any w0 w R v L i b t ht hL h

end Go.Proofs.Ytplfgfdlcfdfdaa
