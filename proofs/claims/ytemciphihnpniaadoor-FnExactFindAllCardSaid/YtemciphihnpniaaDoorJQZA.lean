import Derived.Test.YtemciphihnpniaaDoorJQZ8
import Derived.Test.YtemciphihnpniaaDoorRows
import Derived.OpenShut
import Derived.ChangeSame
import Derived.LaidLaws
import Derived.LaidHandle
import Derived.ChangeVars
namespace Go.Proofs.YtemciphihnpniaaDoor
open Go Go.RowKit Go.Shelf
set_option linter.unusedVariables false

set_option maxHeartbeats 800000 in
set_option maxRecDepth 100000 in
theorem markCap_v (v : Value) (n : Nat) (w : World) (hN : n ≤ 2000000) (h : ∃ f, SlF w 64 3 v n f) :
    Calls Tryd.prog 22 #[v, .int .i64 1] w fun e w' => e = .returned (.int .i64 ((n : Int) * 3 + 1)) ∧ SlF w' 64 3 v n mkCp ∧ Keeps w w' (fun b => v.ownBlock = some b) := by
  obtain ⟨f, h⟩ := h
  obtain ⟨a, cap, rfl, h1, ⟨rfl, rfl⟩ | ⟨g, rfl, h3⟩⟩ := h
  · clear h1
    go_enter Tryd.func22, Tryd.ntmps22
    go_wp2
    go_loopw [1, 5] (fun kv iv wr => kv = .int .i64 1 ∧ iv = .int .i64 0 ∧ wr = w) (fun _ _ _ => 0)
    case atStart => exact ⟨rfl, rfl, rfl⟩
    case round =>
      obtain ⟨rfl, rfl, rfl⟩ := hrel
      go_wp2
      go_ret
      exact ⟨by simp, ⟨_, _, rfl, Nat.zero_le _, .inl ⟨rfl, rfl⟩⟩, Keeps.refl _ _⟩
  · refine (markCap_row g n cap _ w hN h1 h3).mono ?_
    rintro e w' ⟨rfl, h4, h5⟩
    exact ⟨rfl, ⟨_, cap, rfl, h1, .inr ⟨g, rfl, h4⟩⟩, h5.mono (fun b hb => by subst hb; simp [Value.ownBlock])⟩
set_option maxHeartbeats 800000 in
set_option maxRecDepth 100000 in
theorem heldCap_v (v : Value) (n : Nat) (w : World) (hN : n ≤ 2000000) (h : SlF w 64 3 v n mkCp) :
    Calls Tryd.prog 23 #[v, .int .i64 1] w fun e w' => e = .returned (.int .i64 ((n : Int) * 3 + 1)) ∧ Below w.heap.size w w' := by
  obtain ⟨a, cap, rfl, h1, ⟨rfl, rfl⟩ | ⟨g, rfl, h3⟩⟩ := h
  · clear h1
    go_enter Tryd.func23, Tryd.ntmps23
    go_wp2
    go_loopw [1, 5] (fun kv iv wr => kv = .int .i64 1 ∧ iv = .int .i64 0 ∧ wr = w) (fun _ _ _ => 0)
    case atStart => exact ⟨rfl, rfl, rfl⟩
    case round =>
      obtain ⟨rfl, rfl, rfl⟩ := hrel
      go_wp2
      go_ret
      exact ⟨by simp, Below.refl _ _⟩
  · exact heldCap_row g n cap w hN h1 h3

set_option maxHeartbeats 800000 in
set_option maxRecDepth 100000 in
theorem markFound_any (fr en : Int) (v : Value) (n : Nat) (w : World) (hN : n ≤ 2000000) (h : ∃ f, SlF w 64 3 v n f) :
    Calls Tryd.prog 8 #[.agg #[.int .i64 fr, .int .i64 en, v], .int .i64 1] w fun e w' => e = .returned (.int .i64 ((n : Int) * 3 + 1)) ∧ SlF w' 64 3 v n mkCp ∧ Keeps w w' (fun b => v.ownBlock = some b) := by
  obtain ⟨f, h⟩ := h
  obtain ⟨a, cap, rfl⟩ := h.form
  have HB := hide (Keeps.of (b_1 w (.cells #[.int .i64 fr, .int .i64 en, .slice a n cap] 24)) (Nat.le_refl _) (fun b => (Value.slice a n cap).ownBlock = some b))
  have H1 := hide (h.low (b_1 w (.cells #[.int .i64 fr, .int .i64 en, .slice a n cap] 24)) (Nat.le_refl _))
  clear h
  go_enter Tryd.func8, Tryd.ntmps8
  go_wp2_with fail
  refine (markCap_v _ n _ hN ⟨f, H1.out⟩).mono ?_
  rintro e w1 ⟨rfl, h2, h3⟩
  have H2 := hide (And.intro h2 (HB.out.trans h3))
  clear h2 h3
  go_wp2_with fail
  go_ret
  exact ⟨rfl, H2.out.1, H2.out.2⟩
set_option maxHeartbeats 800000 in
set_option maxRecDepth 100000 in
theorem heldFound_any (fr en : Int) (v : Value) (n : Nat) (w : World) (hN : n ≤ 2000000) (h : SlF w 64 3 v n mkCp) :
    Calls Tryd.prog 9 #[.agg #[.int .i64 fr, .int .i64 en, v], .int .i64 1] w fun e w' => e = .returned (.int .i64 ((n : Int) * 3 + 1)) ∧ Below w.heap.size w w' := by
  obtain ⟨a, cap, rfl⟩ := h.form
  have HB := hide (b_1 w (.cells #[.int .i64 fr, .int .i64 en, .slice a n cap] 24))
  have H1 := hide (h.low (b_1 w (.cells #[.int .i64 fr, .int .i64 en, .slice a n cap] 24)) (Nat.le_refl _))
  clear h
  go_enter Tryd.func9, Tryd.ntmps9
  go_wp2_with fail
  refine (heldCap_v _ n _ hN H1.out).mono ?_
  rintro e w1 ⟨rfl, h2⟩
  have H2 := hide (HB.out.trans (h2.mono (by simp)))
  have hk : ¬ ((n : Int) * 3 + 1 < 0) := by omega
  clear h2
  go_wp2_with fail
  go_ret
  exact ⟨rfl, H2.out⟩
theorem srM_caps {s : ByteArray} {t : Pt} : ∀ {k at_ n : Nat} {f : Fd}, (srM s t k at_ n).1 = some f → f.caps.length = t.caps
  | 0, _, _, f, h => by simp [srM] at h
  | k + 1, at_, n, f, h => by
    rw [srM] at h
    split at h
    · split at h
      · cases h; simp [capsOf]
      · split at h
        · cases h
        · exact srM_caps h
    · cases h
theorem findM_caps (s p : ByteArray) (init : Int) : ((findM s p init).1.getD fd0).caps.length ≤ 16 := by
  unfold findM
  split
  · simp [fd0]
  · cases hr : rdPat p with
    | none => simp [fd0]
    | some t =>
      simp only
      split
      · simp [fd0]
      · split
        · simp [fd0]
        · cases hs : (srM s t (s.size + 1) init.toNat 0).1 with
          | none => simp [fd0]
          | some f =>
            have := srM_caps hs
            have := (rdPat_k hr).caps
            simp only [Option.getD_some]
            omega

set_option maxHeartbeats 3200000 in
set_option maxRecDepth 100000 in
theorem findLaw_any (s p : ByteArray) (init : Int) (w : World) (hl : LtT w) (h0 : 0 < w.heap.size) :
    Calls Tryd.prog 3 #[.string s, .string p, .int .i64 init] w fun e w' => e = .returned (.bool true) ∧ Below w.heap.size w w' := by
  by_cases hs : s.size ≤ 1048576
  · by_cases hp : p.size ≤ 1048576
    · have h1 : ¬ ((1048576 : Int) < (s.size : Int)) := by omega
      have h2 : ¬ ((1048576 : Int) < (p.size : Int)) := by omega
      have HL := hide hl
      obtain ⟨r, hr⟩ : ∃ r, findM s p init = r := ⟨_, rfl⟩
      have hc16 := findM_caps s p init
      rw [hr] at hc16
      have HFs := hide (fun W => sfind_any s p init W hs hp)
      have HFp := hide (fun W hW h0 => find_any s p init W hs hp hW h0)
      rw [hr] at HFs HFp
      obtain ⟨F, hF⟩ : ∃ F, r.1.getD fd0 = F := ⟨_, rfl⟩
      obtain ⟨bs, hbs⟩ : ∃ b, r.1.isSome = b := ⟨_, rfl⟩
      obtain ⟨cd, hcd⟩ : ∃ c, r.2 = c := ⟨_, rfl⟩
      unfold FoR at HFs HFp
      rw [hF, hbs, hcd] at HFs HFp
      rw [hF] at hc16
      obtain ⟨ffr, fen, l⟩ := F
      dsimp only at HFs HFp hc16
      clear hr hF hbs hcd hl
      go_enter Tryd.func3, Tryd.ntmps3
      go_wp2_with fail
      refine (HFs.out w).mono ?_
      rintro e w1 ⟨hb1, v1, rfl, ho1⟩
      obtain ⟨a1, k1, rfl⟩ := owns_val ho1
      have kb1 : Keeps w1 (w1.alloc (.cells #[.int .i64 (ffr : Int), .int .i64 (fen : Int), (.slice a1 l.length k1)] 24)) (fun _ => False) := Keeps.of (b_1 w1 _) (Nat.le_refl _) _
      have hB1 : Below w.heap.size w (w1.alloc (.cells #[.int .i64 (ffr : Int), .int .i64 (fen : Int), (.slice a1 l.length k1)] 24)) := hb1.alloc hb1.size _
      have H1 := hide (And.intro (show RowF (w1.alloc (.cells #[.int .i64 (ffr : Int), .int .i64 (fen : Int), (.slice a1 l.length k1)] 24)) 24 w1.heap.size 3 (fun j => #[Value.int .i64 (ffr : Int), .int .i64 (fen : Int), (.slice a1 l.length k1)].getD j (.bool false)) from RowF.mk' w1 24 #[.int .i64 (ffr : Int), .int .i64 (fen : Int), (.slice a1 l.length k1)])
        (And.intro hB1 (And.intro (owns_keep ho1 kb1 (fun b hb => hb.elim)) (HL.out.low hB1 h0))))
      clear hb1 ho1 kb1 hB1 HFs
      go_upto_region 6 with fail
      generalize w1.alloc (.cells #[.int .i64 (ffr : Int), .int .i64 (fen : Int), (.slice a1 l.length k1)] 24) = x1 at H1 ⊢
      generalize w1.heap.size = A at H1 ⊢
      have hx1 : w.heap.size ≤ x1.heap.size := H1.out.2.1.size
      go_wp2_with fail
      refine (HFp.out x1 H1.out.2.2.2 (by have := H1.out.2.1.size; omega)).mono ?_
      rintro e w2 ⟨hb2, v2, rfl, ho2⟩
      obtain ⟨a2, k2, rfl⟩ := owns_val ho2
      have kb2 : Keeps w2 (w2.alloc (.cells #[.int .i64 (ffr : Int), .int .i64 (fen : Int), (.slice a2 l.length k2)] 24)) (fun _ => False) := Keeps.of (b_1 w2 _) (Nat.le_refl _) _
      have hB2 : Below x1.heap.size x1 (w2.alloc (.cells #[.int .i64 (ffr : Int), .int .i64 (fen : Int), (.slice a2 l.length k2)] 24)) := hb2.alloc hb2.size _
      have ho1' := owns_keep H1.out.2.2.1 (Keeps.of hB2 (Nat.le_refl _) (fun _ => False)) (fun b hb => hb.elim)
      have ho2' := owns_keep ho2 kb2 (fun b hb => hb.elim)
      have H2 := hide (And.intro (show RowF (w2.alloc (.cells #[.int .i64 (ffr : Int), .int .i64 (fen : Int), (.slice a2 l.length k2)] 24)) 24 w2.heap.size 3 (fun j => #[Value.int .i64 (ffr : Int), .int .i64 (fen : Int), (.slice a2 l.length k2)].getD j (.bool false)) from RowF.mk' w2 24 #[.int .i64 (ffr : Int), .int .i64 (fen : Int), (.slice a2 l.length k2)])
        (And.intro (H1.out.1.low hB2 H1.out.1.lt) (And.intro (H1.out.2.1.trans (hB2.mono H1.out.2.1.size)) (And.intro ho1' (And.intro ho2' (show ∀ g, (Value.slice a1 l.length k1).ownBlock = some g → (Value.slice a2 l.length k2).ownBlock ≠ some g from fun g e1 e2 => by
          have q1 := (H1.out.2.2.1.lt g e1).2
          have q2 := (ho2.lt g e2).1
          omega))))))
      clear hb2 ho2 kb2 hB2 ho1' ho2'
      go_upto_region 7 with fail
      generalize w2.alloc (.cells #[.int .i64 (ffr : Int), .int .i64 (fen : Int), (.slice a2 l.length k2)] 24) = x2 at H2 ⊢
      generalize w2.heap.size = B at H2 ⊢
      have ca0 : x2.cell? ⟨A, 0, none⟩ = some (.int .i64 (ffr : Int)) := H2.out.2.1.cell (j := 0) (by omega)
      have ca1 : x2.cell? ⟨A, 1, none⟩ = some (.int .i64 (fen : Int)) := H2.out.2.1.cell (j := 1) (by omega)
      have ca2 : x2.cell? ⟨A, 2, none⟩ = some (.slice a1 l.length k1) := H2.out.2.1.cell (j := 2) (by omega)
      have cb0 : x2.cell? ⟨B, 0, none⟩ = some (.int .i64 (ffr : Int)) := H2.out.1.cell (j := 0) (by omega)
      have cb1 : x2.cell? ⟨B, 1, none⟩ = some (.int .i64 (fen : Int)) := H2.out.1.cell (j := 1) (by omega)
      have cb2 : x2.cell? ⟨B, 2, none⟩ = some (.slice a2 l.length k2) := H2.out.1.cell (j := 2) (by omega)
      go_wp2_with fail
      refine (eqFound_any (ffr : Int) (fen : Int) _ _ l.length (cx0 l) (cx1 l) (cx2 l) x2 (by omega) (CpA.of H2.out.2.2.2.2.1) (CpA.of H2.out.2.2.2.1)).mono ?_
      rintro e x3 ⟨rfl, hb3⟩
      have H3 := hide (And.intro (H2.out.1.low hb3 H2.out.1.lt) (And.intro (H2.out.2.1.low hb3 H2.out.2.1.lt) (And.intro (H2.out.2.2.1.trans (hb3.mono H2.out.2.2.1.size)) (And.intro (owns_keep H2.out.2.2.2.1 (Keeps.of hb3 (Nat.le_refl _) (fun _ => False)) (fun b hb => hb.elim)) (And.intro (owns_keep H2.out.2.2.2.2.1 (Keeps.of hb3 (Nat.le_refl _) (fun _ => False)) (fun b hb => hb.elim)) H2.out.2.2.2.2.2)))))
      clear hb3 ca0 ca1 ca2 cb0 cb1 cb2 H1 H2
      go_upto_region 10 with fail
      have cb0 : x3.cell? ⟨B, 0, none⟩ = some (.int .i64 (ffr : Int)) := H3.out.1.cell (j := 0) (by omega)
      have cb1 : x3.cell? ⟨B, 1, none⟩ = some (.int .i64 (fen : Int)) := H3.out.1.cell (j := 1) (by omega)
      have cb2 : x3.cell? ⟨B, 2, none⟩ = some (.slice a2 l.length k2) := H3.out.1.cell (j := 2) (by omega)
      go_wp2_with fail
      refine (markFound_any (ffr : Int) (fen : Int) (.slice a2 l.length k2) l.length x3 (by omega) (SlF.of H3.out.2.2.2.2.1)).mono ?_
      rintro e x4 ⟨rfl, hs4, hk4⟩
      obtain ⟨f2, hs3⟩ := SlF.of H3.out.2.2.2.2.1
      have hcv1 : CpA x4 (.slice a1 l.length k1) l.length (cx0 l) (cx1 l) (cx2 l) := (CpA.of H3.out.2.2.2.1).same hk4.size (fun g e => hk4.block g (H3.out.2.2.2.1.lt g e).2 (H3.out.2.2.2.2.2 g e))
      have hb4 : Below w.heap.size w x4 := H3.out.2.2.1.trans (hk4.below H3.out.2.2.1.size (fun b e => by have := (H3.out.2.2.2.2.1.lt b e).1; have := H3.out.2.2.1.size; omega))
      have H4 := hide (And.intro (RowF.past H3.out.1 hk4 hs3 (by decide)) (And.intro (RowF.past H3.out.2.1 hk4 hs3 (by decide)) (And.intro hb4 (And.intro hcv1 hs4))))
      clear hs4 hk4 hs3 hcv1 hb4 cb0 cb1 cb2 H3
      go_upto_region 12 with fail
      have cb0 : x4.cell? ⟨B, 0, none⟩ = some (.int .i64 (ffr : Int)) := H4.out.1.cell (j := 0) (by omega)
      have cb1 : x4.cell? ⟨B, 1, none⟩ = some (.int .i64 (fen : Int)) := H4.out.1.cell (j := 1) (by omega)
      have cb2 : x4.cell? ⟨B, 2, none⟩ = some (.slice a2 l.length k2) := H4.out.1.cell (j := 2) (by omega)
      go_wp2_with fail
      refine (heldFound_any (ffr : Int) (fen : Int) (.slice a2 l.length k2) l.length x4 (by omega) H4.out.2.2.2.2).mono ?_
      rintro e x5 ⟨rfl, hb5⟩
      have H5 := hide (And.intro (H4.out.1.low hb5 H4.out.1.lt) (And.intro (H4.out.2.1.low hb5 H4.out.2.1.lt) (And.intro (H4.out.2.2.1.trans (hb5.mono H4.out.2.2.1.size)) (And.intro (H4.out.2.2.2.1.low hb5) (H4.out.2.2.2.2.low hb5 (Nat.le_refl _))))))
      have hk : ¬ ((l.length : Int) * 3 + 1 < 0) := by omega
      clear hb5 cb0 cb1 cb2 H4
      go_upto_region 17 with fail
      go_wp2_with fail
      refine (HFp.out x5 (HL.out.low H5.out.2.2.1 h0) (by have := H5.out.2.2.1.size; omega)).mono ?_
      rintro e w6 ⟨hb6, v3, rfl, ho3⟩
      obtain ⟨a3, k3, rfl⟩ := owns_val ho3
      have kb3 : Keeps w6 (w6.alloc (.cells #[.int .i64 (ffr : Int), .int .i64 (fen : Int), (.slice a3 l.length k3)] 24)) (fun _ => False) := Keeps.of (b_1 w6 _) (Nat.le_refl _) _
      have hB6 : Below x5.heap.size x5 (w6.alloc (.cells #[.int .i64 (ffr : Int), .int .i64 (fen : Int), (.slice a3 l.length k3)] 24)) := hb6.alloc hb6.size _
      have H6 := hide (And.intro (H5.out.1.low hB6 H5.out.1.lt) (And.intro (H5.out.2.1.low hB6 H5.out.2.1.lt) (And.intro (H5.out.2.2.1.trans (hB6.mono H5.out.2.2.1.size)) (And.intro (H5.out.2.2.2.1.low hB6) (And.intro (H5.out.2.2.2.2.low hB6 (Nat.le_refl _)) (And.intro (CpA.of (owns_keep ho3 kb3 (fun b hb => hb.elim)))
        (show RowF (w6.alloc (.cells #[.int .i64 (ffr : Int), .int .i64 (fen : Int), (.slice a3 l.length k3)] 24)) 24 w6.heap.size 3 (fun j => #[Value.int .i64 (ffr : Int), .int .i64 (fen : Int), (.slice a3 l.length k3)].getD j (.bool false)) from RowF.mk' w6 24 #[.int .i64 (ffr : Int), .int .i64 (fen : Int), (.slice a3 l.length k3)])))))))
      clear hb6 ho3 kb3 hB6 H5 HFp
      go_upto_region 18 with fail
      generalize w6.alloc (.cells #[.int .i64 (ffr : Int), .int .i64 (fen : Int), (.slice a3 l.length k3)] 24) = x6 at H6 ⊢
      generalize w6.heap.size = C at H6 ⊢
      have ca0 : x6.cell? ⟨A, 0, none⟩ = some (.int .i64 (ffr : Int)) := H6.out.2.1.cell (j := 0) (by omega)
      have ca1 : x6.cell? ⟨A, 1, none⟩ = some (.int .i64 (fen : Int)) := H6.out.2.1.cell (j := 1) (by omega)
      have ca2 : x6.cell? ⟨A, 2, none⟩ = some (.slice a1 l.length k1) := H6.out.2.1.cell (j := 2) (by omega)
      have cc0 : x6.cell? ⟨C, 0, none⟩ = some (.int .i64 (ffr : Int)) := H6.out.2.2.2.2.2.2.cell (j := 0) (by omega)
      have cc1 : x6.cell? ⟨C, 1, none⟩ = some (.int .i64 (fen : Int)) := H6.out.2.2.2.2.2.2.cell (j := 1) (by omega)
      have cc2 : x6.cell? ⟨C, 2, none⟩ = some (.slice a3 l.length k3) := H6.out.2.2.2.2.2.2.cell (j := 2) (by omega)
      go_wp2_with fail
      refine (eqFound_any (ffr : Int) (fen : Int) _ _ l.length (cx0 l) (cx1 l) (cx2 l) x6 (by omega) H6.out.2.2.2.2.2.1 H6.out.2.2.2.1).mono ?_
      rintro e x7 ⟨rfl, hb7⟩
      have H7 := hide (And.intro (H6.out.1.low hb7 H6.out.1.lt) (And.intro (H6.out.2.2.1.trans (hb7.mono H6.out.2.2.1.size)) (H6.out.2.2.2.2.1.low hb7 (Nat.le_refl _))))
      clear hb7 ca0 ca1 ca2 cc0 cc1 cc2 H6
      go_upto_region 21 with fail
      have cb0 : x7.cell? ⟨B, 0, none⟩ = some (.int .i64 (ffr : Int)) := H7.out.1.cell (j := 0) (by omega)
      have cb1 : x7.cell? ⟨B, 1, none⟩ = some (.int .i64 (fen : Int)) := H7.out.1.cell (j := 1) (by omega)
      have cb2 : x7.cell? ⟨B, 2, none⟩ = some (.slice a2 l.length k2) := H7.out.1.cell (j := 2) (by omega)
      go_wp2_with fail
      refine (heldFound_any (ffr : Int) (fen : Int) (.slice a2 l.length k2) l.length x7 (by omega) H7.out.2.2).mono ?_
      rintro e x8 ⟨rfl, hb8⟩
      have H8 := hide (H7.out.2.1.trans (hb8.mono H7.out.2.1.size))
      clear hb8 cb0 cb1 cb2 H7
      go_wp2_with fail
      go_ret
      exact ⟨rfl, H8.out⟩
    · have h1 : ¬ ((1048576 : Int) < (s.size : Int)) := by omega
      have h2 : ((1048576 : Int) < (p.size : Int)) := by omega
      go_enter Tryd.func3, Tryd.ntmps3
      go_wp2_with fail
      go_ret
      exact ⟨rfl, Below.refl _ _⟩
  · have h1 : ((1048576 : Int) < (s.size : Int)) := by omega
    go_enter Tryd.func3, Tryd.ntmps3
    go_wp2_with fail
    go_ret
    exact ⟨rfl, Below.refl _ _⟩

end Go.Proofs.YtemciphihnpniaaDoor
namespace Go.Proofs.YtemciphihnpniaaDoor
open Go Go.RowKit Go.Shelf Go.ChangeShapes Go.WideShapes Go.ChangeAt Go.ChangeShapes
set_option linter.unusedVariables false

theorem lt_at : Tryd.prog.globalNamed "loop.example/g00002/impl.letterRanges" = some 0 := by kernel_rfl
theorem lt_ty : (Tryd.prog.globals[0]?).map (·.type) = some 123 := by kernel_rfl
theorem lt_datum {H : Type} : (Rows.laid_loop_example_g00002_impl_letterRanges : DataW H) = .agg (ltTab.map fun r => .agg [.lit (.int .u8 r.1), .lit (.string r.2)]) := rfl
theorem lt_rows : Tryd.prog.underlying 123 = some (.array 9 122) := by kernel_rfl
theorem lt_cells : Tryd.prog.cellsOf 122 = 2 := by kernel_rfl
theorem lt_cellsA : Tryd.prog.cellsOf 123 = 18 := by kernel_rfl
theorem lt_cells5 : Tryd.prog.cellsOf 5 = 1 := by kernel_rfl
theorem lt_cells9 : Tryd.prog.cellsOf 9 = 1 := by kernel_rfl
theorem lt_struct : ∃ f0 f1 : Field, Tryd.prog.underlying 122 = some (.struct #[f0, f1]) ∧ f0.type = 5 ∧ f0.offset = 0 ∧ f1.type = 9 ∧ f1.offset = 1 := by
  refine ⟨_, _, Tryd.underlying122, rfl, rfl, rfl, rfl⟩
theorem ltL_at {i : Nat} (h : i < 9) : ltL[i * 2]? = some (.int .u8 (ltC i)) ∧ ltL[i * 2 + 1]? = some (.string (ltS i)) := by
  rcases lt_cases h with rfl | rfl | rfl | rfl | rfl | rfl | rfl | rfl | rfl <;> exact ⟨rfl, rfl⟩
theorem ltTab_at {i : Nat} (h : i < 9) : ltTab[i]? = some (ltC i, (ltS i).data.toList) := by
  rcases lt_cases h with rfl | rfl | rfl | rfl | rfl | rfl | rfl | rfl | rfl <;> rfl
/-- What the listed variable holds. -/
theorem ltT_of {W : World} (h : laidMet Tryd.prog Rows.fnExactFindRow.laid W) : LtT W := by
  obtain ⟨ps, ⟨g, t, cs, fuel, p, q, h1, h2, h3, h4, hs, e⟩, _, _⟩ := h
  obtain rfl : g = 0 := Option.some.inj (h1.symm.trans lt_at)
  obtain rfl : t = 123 := Option.some.inj (h2.symm.trans lt_ty)
  obtain ⟨xs, m, _, hx, hl, hlen, hi⟩ := DataW.trod_array lt_rows h4
  rw [lt_cells] at hi
  rw [lt_cellsA] at hl
  have hm : xs.map (·.1) = ltTab.map fun r => (DataW.agg [.lit (.int .u8 r.1), .lit (.string r.2)] : DataW Unit) := by
    have := congrArg Prod.fst hx
    rw [lt_datum] at this
    simpa using this.symm
  obtain ⟨f0, f1, hu, e0, o0, e1, o1⟩ := lt_struct
  have hrow : ∀ i, i < 9 → (cs.toList.drop (i * 2)).take 2 = [.int .u8 (ltC i), .string (ltS i)] := fun i h9 => by
    have hxi : i < xs.length := by omega
    have h5 := hi i h9
    rw [List.getElem?_eq_getElem hxi] at h5
    obtain ⟨y0, y1, n, hy, hyl, ha, hb⟩ := trod_struct2 hu h5
    rw [e0, o0, lt_cells5] at ha
    rw [e1, o1, lt_cells9] at hb
    rw [lt_cells] at hyl
    obtain ⟨k, ck, hk, _⟩ := DataW.trod_int Tryd.underlying5 ha
    obtain ⟨s, csx, hsx, _⟩ := DataW.trod_string Tryd.underlying9 hb
    have h6 : (xs.map (·.1))[i]? = some (.agg [.lit (.int .u8 k), .lit (.string s.data.toList)]) := by
      rw [List.getElem?_map, List.getElem?_eq_getElem hxi, hy, hk, hsx]
      rfl
    rw [hm, List.getElem?_map, ltTab_at h9] at h6
    simp at h6
    obtain ⟨rfl, h7⟩ := h6
    have hse : ltS i = s := ByteArray.ext h7
    generalize (cs.toList.drop (i * 2)).take 2 = row at ck csx hyl
    match row, hyl with
    | [r0, r1], _ =>
      simp at ck csx
      rw [ck, csx, hse]
  intro j v hj
  have hjl : j < 18 := by
    have := (List.getElem?_eq_some_iff.1 hj).1
    exact this
  have hc : W.cell? ⟨0, j, none⟩ = cs[j]? := by
    exact World.var?_cell lt_at h3 j
  rw [Nat.zero_add, hc]
  have hi9 : j / 2 < 9 := by omega
  have h8 := hrow (j / 2) hi9
  have h10 := ltL_at hi9
  rcases (show j = j / 2 * 2 ∨ j = j / 2 * 2 + 1 by omega) with ej | ej
  · have q0 := congrArg (fun l : List Value => l[0]?) h8
    simp only [List.getElem?_take_of_lt (show 0 < 2 by omega), List.getElem?_drop, Nat.add_zero, List.getElem?_cons_zero] at q0
    rw [← ej, Array.getElem?_toList] at q0
    rw [q0, ← hj]
    rw [ej, h10.1, ← ej]
  · have q0 := congrArg (fun l : List Value => l[1]?) h8
    simp only [List.getElem?_take_of_lt (show 1 < 2 by omega), List.getElem?_drop, List.getElem?_cons_succ, List.getElem?_cons_zero] at q0
    rw [← ej, Array.getElem?_toList] at q0
    rw [q0, ← hj]
    rw [ej, h10.2, ← ej]

end Go.Proofs.YtemciphihnpniaaDoor
