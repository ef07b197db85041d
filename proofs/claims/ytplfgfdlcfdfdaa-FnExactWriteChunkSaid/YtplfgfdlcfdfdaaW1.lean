import Derived.Test.YtplfgfdlcfdfdaaCE
import Derived.Test.YtplfgfdlcfdfdaaN4
import Derived.Lib.AppendStr
namespace Go.Proofs.Ytplfgfdlcfdfdaa
open Go Go.RowKit
set_option linter.unusedVariables false

/-- What a writer of bytes leaves: every block of another kind, but its own, is as it was. -/
def WK (w w' : World) (R : Nat) : Prop := ∀ g cur T fz, w.heap[g]? = some (.cells cur T fz) → T ≠ 5 → g ≠ R → w'.heap[g]? = some (.cells cur T fz)
theorem WK.refl (w : World) (R : Nat) : WK w w R := fun _ _ _ _ h _ _ => h
theorem WK.trans {a b c : World} {R : Nat} (h : WK a b R) (k : WK b c R) : WK a c R := fun g cur T fz h1 h2 h3 => k g cur T fz (h g cur T fz h1 h2 h3) h2 h3
theorem WK.of {w w' : World} {R B : Nat} (h : Below B w w') (hB : w.heap.size ≤ B) : WK w w' R := fun g cur T fz h1 _ _ => by
  have hg : g < w.heap.size := by
    rcases Nat.lt_or_ge g w.heap.size with c | c
    · exact c
    · rw [Array.getElem?_eq_none c] at h1; cases h1
  rw [h.block g (Nat.lt_of_lt_of_le hg hB)]
  exact h1
theorem RowF.wk {w w' : World} {T g N R : Nat} {f : Nat → Value} (h : RowF w T g N f) (k : WK w w' R) (hT : T ≠ 5) (hg : g ≠ R) : RowF w' T g N f := by
  obtain ⟨cur, h1, h2, h3⟩ := h
  exact ⟨cur, k g cur T _ h1 hT hg, h2, h3⟩

/-- The writer in block R: the bytes so far; what lay at w0 lies there. -/
structure WS (w0 w : World) (R : Nat) (v : Value) (L : List Int) : Prop where
  low : Below w0.heap.size w0 w
  r0 : w0.heap.size ≤ R
  row : RowF w 55 R 1 (fun _ => v)
  own : w.ownsRow w0.heap.size 5 1 v L.length (L.map (Value.int .u8))

theorem WS.alloc {w0 w : World} {R : Nat} {v : Value} {L : List Int} (h : WS w0 w R v L) (o : Obj) : WS w0 (w.alloc o) R v L :=
  ⟨h.low.alloc h.low.size o, h.r0, h.row.low (b_1 w o) h.row.lt, h.own.alloc o⟩
theorem WS.below {w0 w w' : World} {R : Nat} {v : Value} {L : List Int} (h : WS w0 w R v L) (hb : Below w.heap.size w w') : WS w0 w' R v L :=
  ⟨h.low.trans (hb.mono h.low.size), h.r0, h.row.low hb h.row.lt, h.own.kept (row := none) ⟨hb.os, hb.tape, hb.output, hb.size, fun k hk _ => hb.block k hk⟩ (by
    rcases hv : v.ownBlock with _ | g
    · exact .inl rfl
    · exact .inr (fun e => by cases e))⟩

theorem own_ne {w : World} {base T R : Nat} {v : Value} {L : List Int} {f : Nat → Value} {N : Nat} (h : w.ownsRow base 5 1 v L.length (L.map (Value.int .u8))) (hr : RowF w T R N f) (hT : T ≠ 5) : v.ownBlock ≠ some R := by
  intro e
  rcases h.2 with ⟨rfl, _⟩ | ⟨g, cap, cur, rfl, _, hg, _⟩
  · cases e
  · obtain ⟨cur2, h1, -⟩ := hr
    simp only [Value.ownBlock, Option.some.injEq] at e
    subst e
    rw [hg] at h1
    injection h1 with h1
    injection h1 with _ h2
    exact hT h2.symm

/-- Behind an append on the file, and its store into the writer. -/
theorem WS.put {w0 w w1 : World} {R : Nat} {v v' : Value} {L M : List Int} (h : WS w0 w R v L) (hown : w1.ownsRow w0.heap.size 5 1 v' M.length (M.map (Value.int .u8))) (hg : w.grownBy w1 v.ownBlock) :
    RowF w1 55 R 1 (fun _ => v) ∧ WS w0 (w1.setCell ⟨R, 0, none⟩ v') R v' M ∧ WK w (w1.setCell ⟨R, 0, none⟩ v') R := by
  have hne := own_ne h.own h.row (by decide)
  have hr1 : RowF w1 55 R 1 (fun _ => v) := h.row.kept hg (fun e => hne e.symm)
  have hne1 := own_ne hown hr1 (by decide)
  have hR0 := h.r0
  have hb1 : Below w0.heap.size w0 w1 := h.low.grown hg h.low.size (fun k hk => (h.own.lt k hk).1)
  refine ⟨hr1, ⟨hb1.setCell hR0 _, hR0, (hr1.set (j := 0) (by omega) v').congr (fun j hj => by rw [if_pos (by omega)]), ?_⟩, fun g cur T fz h1 h2 h3 => ?_⟩
  · refine ⟨hown.1, ?_⟩
    rcases hown.2 with h1 | ⟨g, cap, cur, hv, h2, h3, h4⟩
    · exact .inl h1
    · refine .inr ⟨g, cap, cur, hv, h2, ?_, h4⟩
      rw [heap_setCell_other w1 ⟨R, 0, none⟩ g v' (fun e => hne1 (by rw [hv]; simp [Value.ownBlock, show g = R from e]))]
      exact h3
  · rw [heap_setCell_other w1 ⟨R, 0, none⟩ g v' (fun e => h3 e)]
    have hlt : g < w.heap.size := by
      rcases Nat.lt_or_ge g w.heap.size with c | c
      · exact c
      · rw [Array.getElem?_eq_none c] at h1; cases h1
    rw [hg.block g hlt (fun e => ?_)]
    · exact h1
    · rcases h.own.2 with ⟨rfl, _⟩ | ⟨g', cap, cur', rfl, _, hg', _⟩
      · cases e
      · simp only [Value.ownBlock, Option.some.injEq] at e
        subst e
        rw [hg'] at h1
        injection h1 with h1
        injection h1 with _ h5
        exact h2 h5.symm

/-- 'out = append(out, z)' on bytes that are the call's own, or nil. -/
theorem app_byteN {wr : World} {ops : Array Oper} {rest : List Oper} {o : Oper} {a : Act} {Q : Exit → Act → World → Prop} (hgd : o.guard = none) (s x : Operand)
    (ho : o.op = .call { callee := .builtin .append, args := #[s, x], argTypes := #[26, 26] }) (base : Nat) (v : Value) (L : List Int) (z : Int) (hown : wr.ownsRow base 5 1 v L.length (L.map (Value.int .u8))) (hs : a.eval s = v) (hx : a.eval x = .slice (some ⟨wr.heap.size, 0, none⟩) 1 1)
    (hlen : L.length ≤ 100000000000000) (hbase : base ≤ wr.heap.size)
    (h : ∀ v' w', w'.ownsRow base 5 1 v' (L ++ [z]).length ((L ++ [z]).map (Value.int .u8)) → (wr.alloc (.cells #[.int .u8 z] 5)).grownBy w' v.ownBlock → (∃ g cap, v' = .slice (some ⟨g, 0, none⟩) (L.length + 1) cap) → wpList Try.prog ops Q rest (a.put o.dst v') w') :
    wpList Try.prog ops Q (o :: rest) a (wr.alloc (.cells #[.int .u8 z] 5)) := by
  obtain ⟨i0, hi, hz0, hz1, hz2⟩ := info_parts Try.info5
  refine wpList_append_own _ hgd s x 26 ho base 5 i0 (.int .u8 0) 1 1 Try.underlying26 hi hz0 hz1 hz2 rfl (by decide) v L.length (L.map (Value.int .u8)) hs (hown.alloc _) ⟨wr.heap.size, 0, none⟩ 1 1 [.int .u8 z] hx rfl (news_oneB _ _)
    (fun u hu => by simp at hu; subst hu; rfl) (by unfold maxLen; omega) (by omega) (by simp; omega) ?_
  intro v' w' h1 h2 h3
  refine h v' w' (by simpa using h1) h2 ?_
  rcases h1.2 with ⟨_, h4⟩ | ⟨g, cap, cur, hv, _⟩
  · omega
  · exact ⟨g, cap, hv⟩

/-- A number's byte, whether it is taken of the number or of its word. -/
theorem byte_of (n : Int) (i : Nat) (hi : i < 8) : IntKind.u64.wrap n / 256 ^ i % 256 = n / 256 ^ i % 256 := by
  rw [IntKind.wrap_u64]
  have : i = 0 ∨ i = 1 ∨ i = 2 ∨ i = 3 ∨ i = 4 ∨ i = 5 ∨ i = 6 ∨ i = 7 := by omega
  rcases this with rfl | rfl | rfl | rfl | rfl | rfl | rfl | rfl <;> omega
theorem leI_step' (n : Int) (i : Nat) (hi : i < 8) : leI i (IntKind.u64.wrap n) ++ [n / 256 ^ i % 256] = leI (i + 1) (IntKind.u64.wrap n) := by
  rw [← leI_step, byte_of n i hi]

set_option maxHeartbeats 1600000 in
set_option maxRecDepth 100000 in
theorem wnum_any (w0 w : World) (R : Nat) (v : Value) (L : List Int) (n : Int) (m : Nat) (hm : m ≤ 8) (hL : L.length ≤ 50000000000000) (h : WS w0 w R v L) :
    Calls Try.prog 22 #[.pointer (some ⟨R, 0, none⟩), .int .i64 n, .int .i64 m] w fun e w' => e = .returned (.tuple #[]) ∧ ∃ v', WS w0 w' R v' (L ++ u64n n m) ∧ WK w w' R := by
  have HW := hide h
  clear h
  go_enter Try.func22, Try.ntmps22
  go_wp2
  go_loopw [1, 7] (fun nv iv wr => ∃ i : Nat, i ≤ m ∧ iv = .int .i64 i ∧ nv = .int .i64 (n / 256 ^ i) ∧ ∃ v', WS w0 wr R v' (L ++ u64n n i) ∧ WK w wr R) (fun _ iv _ => match iv with | .int _ x => m - x.toNat | _ => 0)
  case atStart => exact ⟨0, by omega, rfl, by simp, v, by simpa [u64n, leI] using HW.out, WK.refl _ _⟩
  case round =>
    obtain ⟨i, hi9, rfl, rfl, v1, hw1, hk1⟩ := hrel
    by_cases hin : i < m
    · have HN := hide (le_next n i)
      have HST := hide (leI_step' n i (by omega))
      have hl : (L ++ u64n n i).length ≤ 50000000000008 := by rw [List.length_append, u64n_len]; omega
      have c0 := hw1.row.cell (j := 0) (by omega)
      have hbb := hw1.low.size
      generalize hM : L ++ u64n n i = M at *
      have HM := hide hM
      clear hM
      generalize n / 256 ^ i = T at *
      have HM2 : Hid (L ++ u64n n (i + 1) = M ++ [T % 256]) := hide (by rw [← HM.out, u64n, ← HST.out, List.append_assoc]; rfl)
      have hform : ∃ a1 n1 k1, v1 = .slice a1 n1 k1 := by
        rcases hw1.own.2 with ⟨rfl, _⟩ | ⟨g, cap, cur, rfl, _⟩
        · exact ⟨_, _, _, rfl⟩
        · exact ⟨_, _, _, rfl⟩
      obtain ⟨a1, n1, k1, rfl⟩ := hform
      have HW1 := hide hw1
      clear hw1
      go_wp2_with (first
        | (at_builtin; refine app_byteN rfl _ _ rfl w0.heap.size _ M (T % 256) HW1.out.own rfl rfl (by omega) hbb ?_; intro v' w1 hown' hgrow ⟨gq, cq, hvq⟩; have hput := (HW1.out.alloc (.cells #[.int .u8 (T % 256)] 5)).put hown' hgrow; have cR := hput.1.cell (j := 0) (by omega); have zR := hput.1.frz 0; have HPUT := hide hput.2; clear hput hown' hgrow; subst hvq)
        | go_in)
      go_roundw
      case rel => exact ⟨i + 1, by omega, by simp, by rw [← HN.out], _, by rw [HM2.out]; exact HPUT.out.1, hk1.trans ((WK.of (b_1 wr _) (Nat.le_refl _)).trans HPUT.out.2)⟩
      case measure => simp; omega
    · obtain rfl : i = m := by omega
      go_wp2
      go_end0
      exact ⟨rfl, v1, hw1, hk1⟩

set_option maxHeartbeats 1600000 in
set_option maxRecDepth 100000 in
theorem wflag_any (w0 w : World) (R : Nat) (v : Value) (L : List Int) (b : Bool) (hL : L.length ≤ 50000000000000) (h : WS w0 w R v L) :
    Calls Try.prog 34 #[.pointer (some ⟨R, 0, none⟩), .bool b] w fun e w' => e = .returned (.tuple #[]) ∧ ∃ v', WS w0 w' R v' (L ++ [flagI b]) ∧ WK w w' R := by
  have HW := hide h
  clear h
  have HF : Hid (∀ k : Int, (k = 0 ∨ k = 1) → u64n k 1 = [k]) := hide (by
    rintro k (rfl | rfl) <;> rfl)
  cases b
  · go_enter Try.func34, Try.ntmps34
    go_wp2_with fail
    refine (wnum_any w0 w R v L 0 1 (by omega) hL HW.out).mono ?_
    rintro e w1 ⟨rfl, v1, h1, k1⟩
    have H1 := hide h1
    have K1 := hide k1
    clear h1 k1
    go_wp2
    go_end0
    exact ⟨rfl, v1, by have := H1.out; rw [HF.out 0 (.inl rfl)] at this; exact this, K1.out⟩
  · go_enter Try.func34, Try.ntmps34
    go_wp2_with fail
    refine (wnum_any w0 w R v L 1 1 (by omega) hL HW.out).mono ?_
    rintro e w1 ⟨rfl, v1, h1, k1⟩
    have H1 := hide h1
    have K1 := hide k1
    clear h1 k1
    go_wp2
    go_end0
    exact ⟨rfl, v1, by have := H1.out; rw [HF.out 1 (.inr rfl)] at this; exact this, K1.out⟩

theorem txL_cells (s : ByteArray) : Lib.strCells s = (txL s).map (Value.int .u8) := by
  simp [Lib.strCells, txL]

set_option maxHeartbeats 1600000 in
set_option maxRecDepth 100000 in
theorem wtext_any (w0 w : World) (R : Nat) (v : Value) (L : List Int) (s : ByteArray) (hL : L.length + s.size ≤ 90000000000000) (h : WS w0 w R v L) :
    Calls Try.prog 21 #[.pointer (some ⟨R, 0, none⟩), .string s] w fun e w' => e = .returned (.tuple #[]) ∧ ∃ v', WS w0 w' R v' (L ++ txL s) ∧ WK w w' R := by
  have HW := hide h
  have c0 := h.row.cell (j := 0) (by omega)
  have hbb := h.low.size
  have hform : ∃ a1 n1 k1, v = .slice a1 n1 k1 := by
    rcases h.own.2 with ⟨rfl, _⟩ | ⟨g, cap, cur, rfl, _⟩
    · exact ⟨_, _, _, rfl⟩
    · exact ⟨_, _, _, rfl⟩
  obtain ⟨a1, n1, k1, rfl⟩ := hform
  clear h
  obtain ⟨i0, hi, hz0, hz1, hz2⟩ := info_parts Try.info5
  have HI := hide (And.intro hi (And.intro hz0 (And.intro hz1 hz2)))
  clear hi hz0 hz1 hz2
  go_enter Try.func21, Try.ntmps21
  go_wp2_with (first
    | (at_builtin
       refine Lib.wpList_append_own_string _ rfl _ _ 26 9 rfl w0.heap.size 5 i0 Try.underlying26 Try.underlying9 HI.out.1 HI.out.2.1 HI.out.2.2.1 HI.out.2.2.2 _ L.length (L.map (Value.int .u8)) rfl HW.out.own s rfl (by unfold maxLen; omega) (by omega) hbb ?_
       intro v' w1 h1 h2 h3
       have hv : ∃ a2 n2 k2, v' = .slice a2 n2 k2 := by
         rcases h1.2 with ⟨rfl, _⟩ | ⟨g, cap, cur, rfl, _⟩
         · exact ⟨_, _, _, rfl⟩
         · exact ⟨_, _, _, rfl⟩
       rw [txL_cells, ← List.map_append, ← txL_len, ← List.length_append] at h1
       have hput := HW.out.put h1 h2
       have cR := hput.1.cell (j := 0) (by omega)
       have zR := hput.1.frz 0
       have HPUT := hide hput.2
       clear hput h1 h2 h3
       obtain ⟨a2, n2, k2, rfl⟩ := hv)
    | go_in)
  go_end0
  exact ⟨rfl, _, HPUT.out⟩

end Go.Proofs.Ytplfgfdlcfdfdaa
