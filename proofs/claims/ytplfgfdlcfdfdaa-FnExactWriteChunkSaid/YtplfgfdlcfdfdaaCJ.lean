import Derived.Test.YtplfgfdlcfdfdaaCI
import Derived.Test.YtplfgfdlcfdfdaaBR
namespace Go.Proofs.Ytplfgfdlcfdfdaa
open Go Go.RowKit
set_option linter.unusedVariables false

set_option maxHeartbeats 400000 in
set_option maxRecDepth 100000 in
theorem eqByteS_big (v v' : Value) (n : Nat) (f : Nat → Nat) (w : World) (hn : n ≤ 1000000000) (h : ByA w v n f) (h' : ByA w v' n f) :
    Calls Try.prog 8 #[v, v'] w fun e w' => e = .returned (.bool true) ∧ Below w.heap.size w w' := by
  by_cases h0 : n = 0
  · subst h0
    have e1 : ∃ a cap, v = .slice a 0 cap := by
      rcases h with ⟨_, a, cap, rfl⟩ | ⟨b, o, cap, rfl, _⟩
      · exact ⟨a, cap, rfl⟩
      · exact ⟨_, cap, rfl⟩
    have e2 : ∃ a cap, v' = .slice a 0 cap := by
      rcases h' with ⟨_, a, cap, rfl⟩ | ⟨b, o, cap, rfl, _⟩
      · exact ⟨a, cap, rfl⟩
      · exact ⟨_, cap, rfl⟩
    obtain ⟨a, cap, rfl⟩ := e1
    obtain ⟨a', cap', rfl⟩ := e2
    clear h h'
    go_enter Try.func8, Try.ntmps8
    go_wp2
    go_loopw [5] (fun iv wr => iv = .int .i64 0 ∧ wr = w) (fun _ _ => 0)
    case atStart => exact ⟨rfl, rfl⟩
    case round =>
      obtain ⟨rfl, rfl⟩ := hrel
      go_wp2
      go_ret
      exact ⟨rfl, Below.refl _ _⟩
  · rcases h with ⟨h9, _⟩ | ⟨b, o, cap, rfl, hb, hcap, hc⟩
    · exact absurd h9 h0
    rcases h' with ⟨h9, _⟩ | ⟨b', o', cap', rfl, hb', hcap', hc'⟩
    · exact absurd h9 h0
    have HC := hide hc
    have HC' := hide hc'
    clear hc hc'
    go_enter Try.func8, Try.ntmps8
    go_wp2
    go_loopw [5] (fun iv wr => ∃ i : Nat, i ≤ n ∧ iv = .int .i64 i ∧ Below w.heap.size w wr) (fun iv _ => match iv with | .int _ x => n - x.toNat | _ => 0)
    case atStart => exact ⟨0, by omega, rfl, Below.refl _ _⟩
    case round =>
      obtain ⟨i, hi9, rfl, hbw⟩ := hrel
      by_cases hin : i < n
      · have c1 := (hbw.cell (p := ⟨b, o + i, none⟩) hb).trans (HC.out i hin).2
        have c2 := (hbw.cell (p := ⟨b', o' + i, none⟩) hb').trans (HC'.out i hin).2
        go_wp2
        go_quiet (fail)
        go_wp2
        go_roundw
        case rel => exact ⟨i + 1, by omega, by simp, below_drw hbw _⟩
        case measure => simp; omega
      · obtain rfl : i = n := by omega
        go_wp2
        go_ret
        exact ⟨rfl, hbw⟩


/-- An answer of bytes: none, or a row of its own in block g. -/
def AnsR (w : World) (v : Value) (L : List Int) (g : Nat) : Prop :=
  (v = .slice none 0 0 ∧ L = [] ∧ g = 0) ∨ (g ≠ 0 ∧ ∃ cap, v = .slice (some ⟨g, 0, none⟩) L.length cap ∧ L.length ≤ cap ∧ RowF w 5 g L.length (fun j => .int .u8 (L.getD j 0)))
theorem AnsR.keep {w w' : World} {v : Value} {L : List Int} {g : Nat} {S : Nat → Prop} (h : AnsR w v L g) (k : Keeps w w' S) (hn : g ≠ 0 → ¬ S g) : AnsR w' v L g := by
  rcases h with h | ⟨h0, cap, h1, h2, h3⟩
  · exact .inl h
  · exact .inr ⟨h0, cap, h1, h2, h3.keep k (hn h0)⟩
theorem AnsR.low {w w' : World} {v : Value} {L : List Int} {g B : Nat} (h : AnsR w v L g) (hb : Below B w w') (hB : w.heap.size ≤ B) : AnsR w' v L g := h.keep (Keeps.of hb hB (fun _ => False)) (fun _ x => x)
theorem AnsR.byA {w : World} {v : Value} {L : List Int} {g : Nat} (h : AnsR w v L g) (hB : BytesL L) : ByA w v L.length (natF L) := by
  rcases h with ⟨rfl, rfl, _⟩ | ⟨_, cap, rfl, h2, h3⟩
  · exact .inl ⟨rfl, _, _, rfl⟩
  · refine .inr ⟨g, 0, cap, rfl, h3.lt, h2, fun j hj => ?_⟩
    have hm : L.getD j 0 ∈ L := by
      rw [List.getD_eq_getElem?_getD, List.getElem?_eq_getElem hj]
      exact List.getElem_mem hj
    obtain ⟨y0, y1⟩ := hB _ hm
    refine ⟨by unfold natF; omega, ?_⟩
    rw [Nat.zero_add, h3.cell hj, natF, Int.toNat_of_nonneg y0]
/-- The bytes behind a mark. -/
def MarR (w : World) (v : Value) (N k g : Nat) : Prop :=
  (v = .slice none 0 0 ∧ N = 0 ∧ g = 0) ∨ (g ≠ 0 ∧ ∃ cap, v = .slice (some ⟨g, 0, none⟩) N cap ∧ N ≤ cap ∧ RowF w 5 g N (mkB k))
theorem MarR.low {w w' : World} {v : Value} {N k g B : Nat} (h : MarR w v N k g) (hb : Below B w w') (hB : w.heap.size ≤ B) : MarR w' v N k g := by
  rcases h with h | ⟨h0, cap, h1, h2, h3⟩
  · exact .inl h
  · exact .inr ⟨h0, cap, h1, h2, h3.low hb (Nat.lt_of_lt_of_le h3.lt hB)⟩

set_option maxHeartbeats 800000 in
set_option maxRecDepth 100000 in
theorem markB_any (v : Value) (L : List Int) (g : Nat) (w : World) (hN : L.length ≤ 1000000000) (h : AnsR w v L g) :
    Calls Try.prog 11 #[v, .int .i64 1] w fun e w' => e = .returned (.int .i64 (1 + (L.length : Int))) ∧ MarR w' v L.length 1 g ∧ Keeps w w' (fun b => b = g ∧ g ≠ 0) := by
  rcases h with ⟨rfl, rfl, rfl⟩ | ⟨h0, cap, rfl, h2, h3⟩
  · go_enter Try.func11, Try.ntmps11
    go_wp2
    go_loopw [1, 5] (fun kv iv wr => kv = .int .i64 1 ∧ iv = .int .i64 0 ∧ wr = w) (fun _ _ _ => 0)
    case atStart => exact ⟨rfl, rfl, rfl⟩
    case round =>
      obtain ⟨rfl, rfl, rfl⟩ := hrel
      go_wp2
      go_ret
      exact ⟨rfl, .inl ⟨rfl, rfl, rfl⟩, Keeps.refl _ _⟩
  · refine (markByteS_any g L.length cap 1 _ w hN (by omega) h2 h3).mono ?_
    rintro e w' ⟨rfl, h4, h5⟩
    exact ⟨rfl, .inr ⟨h0, cap, rfl, h2, h4⟩, h5.mono (fun b hb => ⟨hb, h0⟩)⟩
set_option maxHeartbeats 800000 in
set_option maxRecDepth 100000 in
theorem heldB_any (v : Value) (N g : Nat) (w : World) (hN : N ≤ 1000000000) (h : MarR w v N 1 g) :
    Calls Try.prog 12 #[v, .int .i64 1] w fun e w' => e = .returned (.int .i64 (1 + (N : Int))) ∧ w' = w := by
  rcases h with ⟨rfl, rfl, rfl⟩ | ⟨h0, cap, rfl, h2, h3⟩
  · go_enter Try.func12, Try.ntmps12
    go_wp2
    go_loopw [1, 5] (fun kv iv wr => kv = .int .i64 1 ∧ iv = .int .i64 0 ∧ wr = w) (fun _ _ _ => 0)
    case atStart => exact ⟨rfl, rfl, rfl⟩
    case round =>
      obtain ⟨rfl, rfl, rfl⟩ := hrel
      go_wp2
      go_ret
      exact ⟨rfl, rfl⟩
  · exact heldByteS_any g N cap 1 w hN (by omega) h2 h3

theorem AnsR.form {w : World} {v : Value} {L : List Int} {g : Nat} (h : AnsR w v L g) : ∃ a n c, v = .slice a n c := by
  rcases h with ⟨rfl, _⟩ | ⟨_, cap, rfl, _⟩
  · exact ⟨_, _, _, rfl⟩
  · exact ⟨_, _, _, rfl⟩

theorem ProsB.glt {w : World} {G n C : Nat} {P : Nat → PV} (h : ProsB w G n P C) : G < C := by
  obtain ⟨f, L, b4, b5, b6, b7, h, hc⟩ := h
  exact Nat.lt_of_lt_of_le (h.low n (Nat.le_refl _)) hc

/-- What WriteChunk is to answer, at function f. -/
def WriteAt (f : Nat) : Prop := ∀ (v : Value) (n : Nat) (P : Nat → PV) (w : World), n ≤ 1048576 → allFit n P 1048576 → allBits n P → wts P n ≤ 1048576 → ProsA w v n P →
  Calls Try.prog f #[.agg #[v]] w fun e w' => ∃ v' c, e = .returned (.tuple #[v', .int .i64 c]) ∧ WrR w' w.heap.size n P v' c ∧ Below w.heap.size w w'

/-- The bytes and the code that are to be answered. -/
def AnsOf (n : Nat) (P : Nat → PV) (L : List Int) (c : Int) : Prop := (allPlain n P ∧ L = fileL n P ∧ c = 0) ∨ (¬ allPlain n P ∧ L = [] ∧ c = 12)
theorem AnsOf.bytes {n : Nat} {P : Nat → PV} {L : List Int} {c : Int} (h : AnsOf n P L c) : BytesL L := by
  rcases h with ⟨_, rfl, _⟩ | ⟨_, rfl, _⟩
  · exact (BytesL.ch n P n).app (BytesL.u64n _ _)
  · intro x hx; cases hx
theorem AnsOf.len {n : Nat} {P : Nat → PV} {L : List Int} {c : Int} (h : AnsOf n P L c) (hn : n ≤ 1048576) (hw : wts P n ≤ 1048576) : L.length ≤ 100000000 := by
  rcases h with ⟨_, rfl, _⟩ | ⟨_, rfl, _⟩
  · have := chL_len n P n
    rw [fileL, List.length_append, u64n_len]
    omega
  · simp
theorem AnsOf.unique {n : Nat} {P : Nat → PV} {L L' : List Int} {c c' : Int} (h : AnsOf n P L c) (h' : AnsOf n P L' c') : L = L' ∧ c = c' := by
  rcases h with ⟨h0, rfl, rfl⟩ | ⟨h0, rfl, rfl⟩ <;> rcases h' with ⟨h1, rfl, rfl⟩ | ⟨h1, rfl, rfl⟩
  · exact ⟨rfl, rfl⟩
  · exact absurd h0 h1
  · exact absurd h1 h0
  · exact ⟨rfl, rfl⟩
theorem WrR.ans {w : World} {base n : Nat} {P : Nat → PV} {v : Value} {c : Int} (h : WrR w base n P v c) (hb : 0 < base) : ∃ L g, AnsOf n P L c ∧ AnsR w v L g ∧ (g = 0 ∨ (base ≤ g ∧ g < w.heap.size)) := by
  rcases h with ⟨h0, rfl, h1⟩ | ⟨h0, rfl, rfl⟩
  · obtain ⟨g, cap, rfl, hg, hr⟩ := h1.row
    have hcap : (fileL n P).length ≤ cap := by
      obtain ⟨⟨-, h3⟩, -⟩ := h1
      rcases h3 with ⟨h4, -⟩ | ⟨g', c, cur, h4, -, -, h5, -⟩
      · cases h4
      · cases h4; exact h5
    exact ⟨fileL n P, g, .inl ⟨h0, rfl, rfl⟩, .inr ⟨by omega, cap, rfl, hcap, hr⟩, .inr ⟨hg, hr.lt⟩⟩
  · exact ⟨[], 0, .inr ⟨h0, rfl, rfl⟩, .inl ⟨rfl, rfl, rfl⟩, .inl rfl⟩

set_option maxHeartbeats 6400000 in
set_option maxRecDepth 100000 in
theorem wrLaw_any (HI : WriteAt 7) (a : Option Addr) (n cap : Nat) (P : Nat → PV) (w : World) (hn : n ≤ 9223372036854775807) (hs : ∀ k, k < n → (P k).sane) (hbit : allBits n P) (h : ProsA w (.slice a n cap) n P) :
    Calls Try.prog 3 #[.agg #[.slice a n cap]] w fun e w' => e = .returned (.bool true) ∧ Below w.heap.size w w' := by
  have HI := hide HI
  have HS := hide hs
  have HBit := hide hbit
  have HA := hide h
  clear hs hbit h
  have HR := hide (RowF.mk' w 24 #[.slice a n cap])
  have HB := hide (b_1 w (.cells #[.slice a n cap] 24))
  go_enter Try.func3, Try.ntmps3
  go_wp2_with fail
  generalize w.alloc (.cells #[.slice a n cap] 24) = w1 at HR HB ⊢
  refine (szChunk_any _ n P 1048576 w1 (by omega) (by omega) hn HS.out (HA.out.low HB.out (Nat.le_refl _))).mono ?_
  rintro e w2 ⟨r, rfl, hr, hb2⟩
  have HR := hide (HR.out.low hb2 HR.out.lt)
  have HB := hide (HB.out.trans (hb2.mono HB.out.size))
  clear hb2
  rcases hr with rfl | ⟨h2, h3, h4, h5, h6⟩
  · go_wp2_with fail
    go_ret
    exact ⟨rfl, HB.out⟩
  have hr0 : ¬ (r < 0) := by omega
  have HF := hide (allFit_of h5 (by omega))
  have hn2 : n ≤ 1048576 := by omega
  have HW := hide (show wts P n ≤ 1048576 by omega)
  clear h5 h3 h4 h6
  have y : w2.cell? ⟨w.heap.size, 0, none⟩ = some (.slice a n cap) := HR.out.cell (j := 0) (by simp)
  go_wp2_with fail
  clear y
  refine (toChunk_any _ n P w2 hn2 HF.out (HA.out.low HB.out (Nat.le_refl _))).mono ?_
  rintro e w3 ⟨G3, rfl, hg, hoG3, hb⟩
  have HR := hide (HR.out.low hb HR.out.lt)
  have HB := hide (HB.out.trans (hb.mono HB.out.size))
  have HO3 := hide hoG3
  have HR3 := HR.out.lt
  clear hb hoG3 hg
  go_wp2_with fail
  refine (specWrite_any _ n P w3 hn2 HF.out HBit.out HW.out HO3.out.by).mono ?_
  rintro e w4 ⟨v4, c4, rfl, hv4, hb⟩
  have HR := hide (HR.out.low hb HR.out.lt)
  have HB := hide (HB.out.trans (hb.mono HB.out.size))
  obtain ⟨L, g4, hao, har, hg4⟩ := hv4.ans (Nat.lt_of_le_of_lt (Nat.zero_le _) HR3)
  have HL := hide hao.bytes
  have hlen := hao.len hn2 HW.out
  have HAO := hide hao
  have HA4 := hide har
  clear hb hv4 HO3 hao har
  have hf4 : g4 = 0 ∨ g4 < w4.heap.size := by omega
  clear hg4
  obtain ⟨a4, n4, k4, rfl⟩ : ∃ a4 n4 k4, v4 = .slice a4 n4 k4 := HA4.out.form
  have y : w4.cell? ⟨w.heap.size, 0, none⟩ = some (.slice a n cap) := HR.out.cell (j := 0) (by simp)
  go_wp2_with fail
  clear y
  have HR0 := HR.out.lt
  refine (toChunk_any _ n P w4 hn2 HF.out (HA.out.low HB.out (Nat.le_refl _))).mono ?_
  rintro e w5 ⟨G6, rfl, hg, ho6, hb⟩
  have HR := hide (HR.out.low hb HR.out.lt)
  have HB := hide (HB.out.trans (hb.mono HB.out.size))
  have HA4 := hide (HA4.out.low hb (Nat.le_refl _))
  have hf4 : g4 = 0 ∨ g4 < G6 := by omega
  have hwG : w.heap.size < G6 := Nat.lt_of_lt_of_le HR0 hg
  clear hb hg
  have hA6 := b_1 w5 (.cells #[sl G6 n] 31)
  have HX := hide (RowF.mk' w5 31 #[sl G6 n])
  have HR := hide (HR.out.low hA6 HR.out.lt)
  have HB := hide (HB.out.trans (hA6.mono HB.out.size))
  have HA4 := hide (HA4.out.low hA6 (Nat.le_refl _))
  have HO6 := hide (ho6.b.low hA6 (Nat.le_refl _))
  clear hA6 ho6
  unfold sl at *
  go_wp2_with fail
  have hG6 := HO6.out.glt
  generalize w5.heap.size = g6 at *
  generalize w5.alloc (.cells #[.slice (some ⟨G6, 0, none⟩) n n] 31) = w6 at *
  have hl6 := HX.out.lt
  refine (HI.out _ n P w6 hn2 HF.out HBit.out HW.out HO6.out.by).mono ?_
  rintro e w7 ⟨v7, c7, rfl, hv7, hb⟩
  obtain ⟨L7, g7, hao, har, hg7⟩ := hv7.ans (Nat.lt_of_le_of_lt (Nat.zero_le _) hl6)
  obtain ⟨rfl, rfl⟩ := HAO.out.unique hao
  have HR := hide (HR.out.low hb HR.out.lt)
  have HB := hide (HB.out.trans (hb.mono HB.out.size))
  have HX := hide (HX.out.low hb HX.out.lt)
  have HA4 := hide (HA4.out.low hb (Nat.le_refl _))
  have HO6 := hide (HO6.out.low hb (Nat.le_refl _))
  have HA7 := hide har
  have hf7 : g7 = 0 ∨ g6 < g7 := by omega
  clear hb hv7 har hao hg7 hl6
  obtain ⟨a7, n7, k7, rfl⟩ : ∃ a7 n7 k7, v7 = .slice a7 n7 k7 := HA7.out.form
  go_wp2_with fail
  refine (eqByteS_big _ _ L.length (natF L) w7 (by omega) (HA7.out.byA HL.out) (HA4.out.byA HL.out)).mono ?_
  rintro e wA ⟨rfl, hb⟩
  have HR := hide (HR.out.low hb HR.out.lt)
  have HB := hide (HB.out.trans (hb.mono HB.out.size))
  have HX := hide (HX.out.low hb HX.out.lt)
  have HA4 := hide (HA4.out.low hb (Nat.le_refl _))
  have HO6 := hide (HO6.out.low hb (Nat.le_refl _))
  have HA7 := hide (HA7.out.low hb (Nat.le_refl _))
  clear hb
  have y : wA.cell? ⟨w.heap.size, 0, none⟩ = some (.slice a n cap) := HR.out.cell (j := 0) (by simp)
  have x : wA.cell? ⟨g6, 0, none⟩ = some (.slice (some ⟨G6, 0, none⟩) n n) := HX.out.cell (j := 0) (by simp)
  go_wp2_with fail
  have hl1 : w.heap.size < wA.heap.size := HR.out.lt
  have hl2 : g6 < wA.heap.size := HX.out.lt
  go_region_held3 (fun w9 => w9.cell? ⟨w.heap.size, 0, none⟩ = some (.slice a n cap) ∧ w9.cell? ⟨g6, 0, none⟩ = some (.slice (some ⟨G6, 0, none⟩) n n)) (go_keep)
    (first
      | (go_at_call 6
         refine (toChunk_any _ n P _ hn2 HF.out (HA.out.low HB.out.drew (Nat.le_refl _))).mono ?_
         rintro e wB ⟨GB, rfl, hg, hoB, hb⟩
         replace hb := via_drew hb
         have q0 := (hb.cell (p := ⟨w.heap.size, 0, none⟩) hl1).trans y
         have q1 := (hb.cell (p := ⟨g6, 0, none⟩) hl2).trans x
         have HBB := hide (HB.out.trans (hb.mono HB.out.size))
         have HO7 := hide (HO6.out.low hb (Nat.le_refl _))
         have HRB := hide (HR.out.low hb HR.out.lt)
         have HA4B := hide (HA4.out.low hb (Nat.le_refl _))
         have HA7B := hide (HA7.out.low hb (Nat.le_refl _))
         have HOB := hide hoB
         have hm1 : w.heap.size < wB.heap.size := Nat.lt_of_lt_of_le hl1 hb.size
         have hm2 : g6 < wB.heap.size := Nat.lt_of_lt_of_le hl2 hb.size
         clear hb hoB hg
         unfold sl)
      | (go_at_call 9
         refine (eqChunk_any _ _ n P _ hn2 HF.out HO7.out.by HOB.out.by).mono ?_
         rintro e wC ⟨rfl, hb⟩
         have r0 := (hb.cell (p := ⟨w.heap.size, 0, none⟩) hm1).trans q0
         have r1 := (hb.cell (p := ⟨g6, 0, none⟩) hm2).trans q1
         have HBC := hide (HBB.out.trans (hb.mono HBB.out.size))
         have HO8 := hide (HO7.out.low hb (Nat.le_refl _))
         have HRC := hide (HRB.out.low hb HRB.out.lt)
         have HA4C := hide (HA4B.out.low hb (Nat.le_refl _))
         have HA7C := hide (HA7B.out.low hb (Nat.le_refl _))
         clear hb))
  clear HR HB HX HA4 HO6 HA7 HBB HO7 HRB HA4B HA7B HOB x y q0 q1
  go_wp2_with fail
  refine (markChunk_e G6 n g6 P 1 wC hn2 HW.out (by omega) (by omega) HO8.out).mono ?_
  rintro e wD ⟨k9, rfl, hk9, hkeep⟩
  have HR := hide (HRC.out.keep hkeep (by omega))
  have HB := hide (HBC.out.trans (hkeep.below (B := w.heap.size) (Nat.le_of_lt HRC.out.lt) (fun b hb => by omega)))
  have HA4 := hide (HA4C.out.keep hkeep (fun _ => by omega))
  have HA7 := hide (HA7C.out.keep hkeep (fun _ => by omega))
  clear hkeep HRC HBC HA4C HA7C HO8 r0 r1
  have hk9' : ¬ (k9 < 0) := by omega
  go_wp2_with fail
  refine (eqByteS_big _ _ L.length (natF L) wD (by omega) (HA7.out.byA HL.out) (HA4.out.byA HL.out)).mono ?_
  rintro e wE ⟨rfl, hb⟩
  have HR := hide (HR.out.low hb HR.out.lt)
  have HB := hide (HB.out.trans (hb.mono HB.out.size))
  have HA4 := hide (HA4.out.low hb (Nat.le_refl _))
  have HA7 := hide (HA7.out.low hb (Nat.le_refl _))
  clear hb
  go_wp2_with fail
  have HRe := hide HR.out.lt
  refine (markB_any _ L g7 wE (by omega) HA7.out).mono ?_
  rintro e wF ⟨rfl, hm, hkeep⟩
  have HR := hide (HR.out.keep hkeep (by omega))
  have HB := hide (HB.out.trans (hkeep.below (B := w.heap.size) (Nat.le_of_lt HRe.out) (fun b hb => by omega)))
  have HA4 := hide (HA4.out.keep hkeep (fun _ => by omega))
  have HM := hide hm
  clear hkeep hm HA7
  go_wp2_with fail
  refine (heldB_any _ L.length g7 wF (by omega) HM.out).mono ?_
  rintro e wG ⟨rfl, rfl⟩
  have hq : ¬ (1 + (L.length : Int) < 0) := by omega
  have y : wG.cell? ⟨w.heap.size, 0, none⟩ = some (.slice a n cap) := HR.out.cell (j := 0) (by simp)
  go_wp2_with fail
  clear y
  refine (toChunk_any _ n P wG hn2 HF.out (HA.out.low HB.out (Nat.le_refl _))).mono ?_
  rintro e wH ⟨GH, rfl, hg, hoH, hb⟩
  have HR := hide (HR.out.low hb HR.out.lt)
  have HB := hide (HB.out.trans (hb.mono HB.out.size))
  have HA4 := hide (HA4.out.low hb (Nat.le_refl _))
  have HM := hide (HM.out.low hb (Nat.le_refl _))
  have HOH := hide hoH
  clear hb hoH hg
  go_wp2_with fail
  refine (HI.out _ n P wH hn2 HF.out HBit.out HW.out HOH.out.by).mono ?_
  rintro e wI ⟨v9, c9, rfl, hv9, hb⟩
  obtain ⟨L9, g9, hao, har, hg9⟩ := hv9.ans (Nat.lt_of_le_of_lt (Nat.zero_le _) HR.out.lt)
  obtain ⟨rfl, rfl⟩ := HAO.out.unique hao
  have HR := hide (HR.out.low hb HR.out.lt)
  have HB := hide (HB.out.trans (hb.mono HB.out.size))
  have HA4 := hide (HA4.out.low hb (Nat.le_refl _))
  have HM := hide (HM.out.low hb (Nat.le_refl _))
  have HA9 := hide har
  clear hb hv9 har hao hg9 HOH
  obtain ⟨a9, n9, k9', rfl⟩ : ∃ a9 n9 k9', v9 = .slice a9 n9 k9' := HA9.out.form
  go_wp2_with fail
  refine (eqByteS_big _ _ L.length (natF L) wI (by omega) (HA9.out.byA HL.out) (HA4.out.byA HL.out)).mono ?_
  rintro e wJ ⟨rfl, hb⟩
  have HB := hide (HB.out.trans (hb.mono HB.out.size))
  have HM := hide (HM.out.low hb (Nat.le_refl _))
  clear hb
  go_wp2_with fail
  refine (heldB_any _ L.length g7 wJ (by omega) HM.out).mono ?_
  rintro e wK ⟨rfl, rfl⟩
  go_wp2_with fail
  go_ret
  exact ⟨rfl, HB.out⟩

end Go.Proofs.Ytplfgfdlcfdfdaa
