import Derived.Test.YtkfbkglkcfaeeaaBN
import Derived.Test.YtkfbkglkcfaeeaaBQ
namespace Go.Proofs.Ytkfbkglkcfaeeaa
open Go Go.RowKit
set_option linter.unusedVariables false

/-- What Verify is to answer, at function f. -/
def VerifyAt (f : Nat) : Prop := ∀ (v : Value) (n : Nat) (P : Nat → PV) (w : World), n ≤ 1048576 → allFit n P 1048576 → allBits n P → ProsA w v n P →
  Calls Try.prog f #[.agg #[v]] w fun e w' => ∃ a b c, e = .returned (verV a b c) ∧ VerR n P a b c ∧ Below w.heap.size w w'

theorem allFit_of {n : Nat} {P : Nat → PV} {l : Int} (h : allFit n P l.toNat) (hl : l ≤ 1048576) : allFit n P 1048576 := fun k hk => (h k hk).mono (by omega)

set_option maxHeartbeats 3200000 in
set_option maxRecDepth 100000 in
theorem verLaw_any (HI : VerifyAt 19) (a : Option Addr) (n cap : Nat) (P : Nat → PV) (w : World) (hn : n ≤ 9223372036854775807) (hs : ∀ k, k < n → (P k).sane) (hbit : allBits n P) (h : ProsA w (.slice a n cap) n P) :
    Calls Try.prog 5 #[.agg #[.slice a n cap]] w fun e w' => e = .returned (.bool true) ∧ Below w.heap.size w w' := by
  have HI := hide HI
  have HS := hide hs
  have HBit := hide hbit
  have HA := hide h
  clear hs hbit h
  have hR := RowF.mk' w 30 #[.slice a n cap]
  have HR := hide hR
  have HB := hide (b_1 w (.cells #[.slice a n cap] 30))
  clear hR
  go_enter Try.func5, Try.ntmps5
  go_wp2_with fail
  generalize w.alloc (.cells #[.slice a n cap] 30) = w1 at HR HB ⊢
  refine (szChunk_any _ n P 1048576 w1 (by omega) (by omega) hn HS.out (HA.out.low HB.out (Nat.le_refl _))).mono ?_
  rintro e w2 ⟨r, rfl, hr, hb2⟩
  have HR := hide (HR.out.low hb2 HR.out.lt)
  have HB := hide (HB.out.trans (hb2.mono HB.out.size))
  clear hb2
  rcases hr with rfl | ⟨h2, h3, h4, h5, -⟩
  · go_wp2_with fail
    go_ret
    exact ⟨rfl, HB.out⟩
  have hr0 : ¬ (r < 0) := by omega
  have HF := hide (allFit_of h5 (by omega))
  have hn2 : n ≤ 1048576 := by omega
  clear h5 h3 h4
  have y : w2.cell? ⟨w.heap.size, 0, none⟩ = some (.slice a n cap) := HR.out.cell (j := 0) (by simp)
  go_wp2_with fail
  clear y
  refine (toChunk_any _ n P w2 hn2 HF.out (HA.out.low HB.out (Nat.le_refl _))).mono ?_
  rintro e w3 ⟨G3, rfl, hg, hoG3, hb⟩
  have HR := hide (HR.out.low hb HR.out.lt)
  have HB := hide (HB.out.trans (hb.mono HB.out.size))
  have HO3 := hide hoG3
  clear hb hoG3 hg
  go_wp2_with fail
  refine (specVerify_any _ n P w3 hn2 HF.out HBit.out HO3.out.by).mono ?_
  rintro e w4 ⟨a4, b4, c4, rfl, hv4, hb⟩
  have HR := hide (HR.out.low hb HR.out.lt)
  have HB := hide (HB.out.trans (hb.mono HB.out.size))
  have HV4 := hide hv4
  clear hb hv4 HO3
  unfold verV
  have hA4 := b_1 w4 (.cells #[.int .i64 a4, .int .i64 b4, .int .i64 c4] 43)
  have HW := hide (RowF.mk' w4 43 #[.int .i64 a4, .int .i64 b4, .int .i64 c4])
  have HR := hide (HR.out.low hA4 HR.out.lt)
  have HB := hide (HB.out.trans (hA4.mono HB.out.size))
  clear hA4
  have y : (w4.alloc (.cells #[.int .i64 a4, .int .i64 b4, .int .i64 c4] 43)).cell? ⟨w.heap.size, 0, none⟩ = some (.slice a n cap) := HR.out.cell (j := 0) (by simp)
  go_wp2_with fail
  clear y
  generalize w4.heap.size = g4 at *
  generalize w4.alloc (.cells #[.int .i64 a4, .int .i64 b4, .int .i64 c4] 43) = w5 at *
  refine (toChunk_any _ n P w5 hn2 HF.out (HA.out.low HB.out (Nat.le_refl _))).mono ?_
  rintro e w6 ⟨G6, rfl, hg, ho6, hb⟩
  have HR := hide (HR.out.low hb HR.out.lt)
  have HB := hide (HB.out.trans (hb.mono HB.out.size))
  have HW := hide (HW.out.low hb HW.out.lt)
  clear hb hg
  have hA6 := b_1 w6 (.cells #[sl G6 n] 36)
  have HX := hide (RowF.mk' w6 36 #[sl G6 n])
  have HR := hide (HR.out.low hA6 HR.out.lt)
  have HB := hide (HB.out.trans (hA6.mono HB.out.size))
  have HW := hide (HW.out.low hA6 HW.out.lt)
  have HO6 := hide (ho6.low hA6 (Nat.le_refl _))
  clear hA6 ho6
  unfold sl at *
  go_wp2_with fail
  generalize w6.heap.size = g6 at *
  generalize w6.alloc (.cells #[.slice (some ⟨G6, 0, none⟩) n n] 36) = w7 at *
  refine (HI.out _ n P w7 hn2 HF.out HBit.out HO6.out.by).mono ?_
  rintro e w8 ⟨a8, b8, c8, rfl, hv8, hb⟩
  obtain ⟨rfl, rfl, rfl⟩ := HV4.out.unique hv8
  have HR := hide (HR.out.low hb HR.out.lt)
  have HB := hide (HB.out.trans (hb.mono HB.out.size))
  have HW := hide (HW.out.low hb HW.out.lt)
  have HX := hide (HX.out.low hb HX.out.lt)
  have HO6 := hide (HO6.out.low hb (Nat.le_refl _))
  clear hb hv8 HV4
  unfold verV
  have hA8 := b_1 w8 (.cells #[.int .i64 a4, .int .i64 b4, .int .i64 c4] 43)
  have HR := hide (HR.out.low hA8 HR.out.lt)
  have HB := hide (HB.out.trans (hA8.mono HB.out.size))
  have HW := hide (HW.out.low hA8 HW.out.lt)
  have HX := hide (HX.out.low hA8 HX.out.lt)
  have HO6 := hide (HO6.out.low hA8 (Nat.le_refl _))
  clear hA8
  have y0 : (w8.alloc (.cells #[.int .i64 a4, .int .i64 b4, .int .i64 c4] 43)).cell? ⟨g4, 0, none⟩ = some (.int .i64 a4) := HW.out.cell (j := 0) (by simp)
  have y1 : (w8.alloc (.cells #[.int .i64 a4, .int .i64 b4, .int .i64 c4] 43)).cell? ⟨g4, 1, none⟩ = some (.int .i64 b4) := HW.out.cell (j := 1) (by simp)
  have y2 : (w8.alloc (.cells #[.int .i64 a4, .int .i64 b4, .int .i64 c4] 43)).cell? ⟨g4, 2, none⟩ = some (.int .i64 c4) := HW.out.cell (j := 2) (by simp)
  go_wp2_with fail
  clear y0 y1 y2
  generalize w8.heap.size = g8 at *
  generalize w8.alloc (.cells #[.int .i64 a4, .int .i64 b4, .int .i64 c4] 43) = w9 at *
  refine (eqVerdict_any a4 b4 c4 w9).mono ?_
  rintro e wA ⟨rfl, hb⟩
  have HR := hide (HR.out.low hb HR.out.lt)
  have HB := hide (HB.out.trans (hb.mono HB.out.size))
  have HX := hide (HX.out.low hb HX.out.lt)
  have HO6 := hide (HO6.out.low hb (Nat.le_refl _))
  clear hb HW
  have y : wA.cell? ⟨w.heap.size, 0, none⟩ = some (.slice a n cap) := HR.out.cell (j := 0) (by simp)
  have x : wA.cell? ⟨g6, 0, none⟩ = some (.slice (some ⟨G6, 0, none⟩) n n) := HX.out.cell (j := 0) (by simp)
  go_wp2_with fail
  have hl1 : w.heap.size < wA.heap.size := HR.out.lt
  have hl2 : g6 < wA.heap.size := HX.out.lt
  go_region_held3 (fun w9 => w9.cell? ⟨w.heap.size, 0, none⟩ = some (.slice a n cap) ∧ w9.cell? ⟨g6, 0, none⟩ = some (.slice (some ⟨G6, 0, none⟩) n n)) (go_keep)
    (first
      | (go_at_call 12
         refine (toChunk_any _ n P _ hn2 HF.out (HA.out.low HB.out.drew (Nat.le_refl _))).mono ?_
         rintro e wB ⟨GB, rfl, hg, hoB, hb⟩
         have q0 := (hb.cell (p := ⟨w.heap.size, 0, none⟩) hl1).trans y
         have q1 := (hb.cell (p := ⟨g6, 0, none⟩) hl2).trans x
         have HBB := hide (HB.out.drew.trans (hb.mono HB.out.size))
         have HO7 := hide (HO6.out.low ((Below.refl wA.heap.size wA).drew.trans hb) (Nat.le_refl _))
         have HOB := hide hoB
         have hm1 : w.heap.size < wB.heap.size := Nat.lt_of_lt_of_le hl1 hb.size
         have hm2 : g6 < wB.heap.size := Nat.lt_of_lt_of_le hl2 hb.size
         clear hb hoB hg
         unfold sl)
      | (go_at_call 14
         refine (eqChunk_any _ _ n P _ hn2 HF.out HO7.out.by HOB.out.by).mono ?_
         rintro e wC ⟨rfl, hb⟩
         have r0 := (hb.cell (p := ⟨w.heap.size, 0, none⟩) hm1).trans q0
         have r1 := (hb.cell (p := ⟨g6, 0, none⟩) hm2).trans q1
         have HBC := hide (HBB.out.trans (hb.mono HBB.out.size))
         clear hb))
  go_wp2_with fail
  go_ret
  exact ⟨rfl, HBC.out⟩

end Go.Proofs.Ytkfbkglkcfaeeaa
