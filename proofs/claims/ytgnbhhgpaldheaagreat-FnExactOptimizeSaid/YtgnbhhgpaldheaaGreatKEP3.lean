import Derived.Test.YtgnbhhgpaldheaaGreatKEO5
import Derived.Test.YtgnbhhgpaldheaaGreatKD19
import Derived.Test.YtgnbhhgpaldheaaGreatKBS
namespace Go.Proofs.YtgnbhhgpaldheaaGreat
open Go Go.RowKit
set_option linter.unusedVariables false
def fnD (q : PV) (s4 s5 s6 s7 : Value) : List Value := [.int .i64 q.params, .int .i64 q.regs, .int .i64 q.line, .bool q.dots, s4, s5, s6, s7]
def fnG (Q : Nat → PV) (S4 S5 S6 S7 : Nat → Value) (j : Nat) : Value := (fnD (Q (j / 8)) (S4 (j / 8)) (S5 (j / 8)) (S6 (j / 8)) (S7 (j / 8))).getD (j % 8) (.bool false)
theorem fnG_at (Q : Nat → PV) (S4 S5 S6 S7 : Nat → Value) (i r : Nat) (hr : r < 8) : fnG Q S4 S5 S6 S7 (i * 8 + r) = (fnD (Q i) (S4 i) (S5 i) (S6 i) (S7 i)).getD r (.bool false) := by
  unfold fnG
  rw [show (i * 8 + r) / 8 = i by omega, show (i * 8 + r) % 8 = r by omega]
set_option maxHeartbeats 3200000 in
set_option maxRecDepth 100000 in
theorem keptP_any (g n cap b : Nat) (Q : Nat → PV) (S4 S5 S6 S7 : Nat → Value) (s : Nat → Bool) (w : World) (hn : n ≤ 65535) (h : RowF w 45 g (n * 8) (fnG Q S4 S5 S6 S7)) (hm : SetM w b n s) (h4 : ∀ i, i < n → ∃ a L c, S4 i = .slice a L c) (h5 : ∀ i, i < n → ∃ a L c, S5 i = .slice a L c) (h6 : ∀ i, i < n → ∃ a L c, S6 i = .slice a L c) (h7 : ∀ i, i < n → ∃ a L c, S7 i = .slice a L c) :
    Calls Tryz.prog 21 #[.slice (some ⟨g, 0, none⟩) n cap, .map (some b)] w fun e w' => ∃ (v : Value) (bm m : Nat), e = .returned (.tuple #[v, .map (some bm)]) ∧ w'.ownsRow w.heap.size 45 8 v (cnt s n) ((kp s n).flatMap fun i => fnD (Q i) (S4 i) (S5 i) (S6 i) (S7 i)) ∧ NowM w' bm n m s (cnt s) ∧ w.heap.size ≤ bm ∧ Below w.heap.size w w' := by
  have HA := hide h
  have HM := hide hm
  have H4 := hide h4
  have H5 := hide h5
  have H6 := hide h6
  have H7 := hide h7
  have hn2 : n ≤ 1048576 := by omega
  have HN0 := hide (NowM.new w n (cnt s))
  have HB0 := hide (k_map w)
  have HLt := hide (And.intro h.lt hm.lt)
  clear h hm h4 h5 h6 h7
  have hmk := mk_now
  go_enter Tryz.func21, Tryz.ntmps21
  go_upto_region 3 with (fail)
  clear hmk
  generalize w.alloc (.map #[] 0) = w1 at *
  obtain ⟨Z, hZ⟩ : ∃ Z, w.heap.size = Z := ⟨_, rfl⟩
  rw [hZ] at HN0 HB0 HLt ⊢
  have HZ := hide hZ
  clear hZ
  go_wp2_with fail
  go_loopw [6, 13] (fun ov iv wr => ∃ j : Nat, j ≤ n ∧ iv = .int .i64 (j : Int) ∧ Hid (wr.ownsRow Z 45 8 ov (cnt s j) ((kp s j).flatMap fun i => fnD (Q i) (S4 i) (S5 i) (S6 i) (S7 i))) ∧ Hid (∃ m, m ≤ j ∧ NowM wr Z n m (fun q => decide (q < j) && s q) (cnt s)) ∧ Hid (Below Z w wr)) (fun _ iv _ => n - ivN iv)
  case atStart => exact ⟨0, Nat.zero_le _, rfl, hide (by simpa [kp, cnt] using World.ownsRow_nil w1 Z 45 8), hide ⟨0, Nat.le_refl _, HN0.out.congr (fun q _ => by simp)⟩, HB0⟩
  case round =>
    clear HN0 HB0
    obtain ⟨j, hj, rfl, HO, HNow, HB⟩ := hrel
    obtain ⟨oa, oc, rfl⟩ := owns_val HO.out
    have hZr : Z ≤ wr.heap.size := by obtain ⟨m, _, h1⟩ := HNow.out; have := h1.lt; omega
    by_cases hjn : j < n
    · have hM := HM.out.low HB.out HLt.out.2
      have hA := HA.out.low HB.out HLt.out.1
      obtain ⟨a4, L4, c4, e4⟩ := H4.out j hjn
      obtain ⟨a5, L5, c5, e5⟩ := H5.out j hjn
      obtain ⟨a6, L6, c6, e6⟩ := H6.out j hjn
      obtain ⟨a7, L7, c7, e7⟩ := H7.out j hjn
      have hcell : ∀ r, r < 8 → wr.cell? ⟨g, j * 8 + r, none⟩ = some ((fnD (Q j) (S4 j) (S5 j) (S6 j) (S7 j)).getD r (.bool false)) := fun r hr => by
        rw [hA.cell (j := j * 8 + r) (by omega), fnG_at Q S4 S5 S6 S7 j r hr]
      have hVe : fnD (Q j) (S4 j) (S5 j) (S6 j) (S7 j) = [.int .i64 (Q j).params, .int .i64 (Q j).regs, .int .i64 (Q j).line, .bool (Q j).dots, .slice a4 L4 c4, .slice a5 L5 c5, .slice a6 L6 c6, .slice a7 L7 c7] := by unfold fnD; rw [e4, e5, e6, e7]
      rw [hVe] at hcell
      have HVe := hide hVe
      have l0 : wr.cell? ⟨g, j * 8, none⟩ = some (.int .i64 (Q j).params) := hcell 0 (by omega)
      have l1 : wr.cell? ⟨g, j * 8 + 1, none⟩ = some (.int .i64 (Q j).regs) := hcell 1 (by omega)
      have l2 : wr.cell? ⟨g, j * 8 + 2, none⟩ = some (.int .i64 (Q j).line) := hcell 2 (by omega)
      have l3 : wr.cell? ⟨g, j * 8 + 3, none⟩ = some (.bool (Q j).dots) := hcell 3 (by omega)
      have l4 : wr.cell? ⟨g, j * 8 + 4, none⟩ = some (.slice a4 L4 c4) := hcell 4 (by omega)
      have l5 : wr.cell? ⟨g, j * 8 + 5, none⟩ = some (.slice a5 L5 c5) := hcell 5 (by omega)
      have l6 : wr.cell? ⟨g, j * 8 + 6, none⟩ = some (.slice a6 L6 c6) := hcell 6 (by omega)
      have l7 : wr.cell? ⟨g, j * 8 + 7, none⟩ = some (.slice a7 L7 c7) := hcell 7 (by omega)
      have hX := RowF.mk' wr 45 #[.int .i64 (Q j).params, .int .i64 (Q j).regs, .int .i64 (Q j).line, .bool (Q j).dots, .slice a4 L4 c4, .slice a5 L5 c5, .slice a6 L6 c6, .slice a7 L7 c7]
      have hbX := b_1 wr (.cells #[.int .i64 (Q j).params, .int .i64 (Q j).regs, .int .i64 (Q j).line, .bool (Q j).dots, .slice a4 L4 c4, .slice a5 L5 c5, .slice a6 L6 c6, .slice a7 L7 c7] 45)
      have HX := hide hX
      have HMA := hide (hM.low hbX hM.lt)
      have HOA := hide (owns_past HO.out (Keeps.of hbX (Nat.le_refl _) (fun _ => False)) (fun _ _ x => x))
      have HNA := hide (show ∃ m, m ≤ j ∧ NowM _ Z n m (fun q => decide (q < j) && s q) (cnt s) from by obtain ⟨m, h1, h2⟩ := HNow.out; exact ⟨m, h1, h2.low hbX h2.lt⟩)
      have HBA := hide (HB.out.trans (hbX.mono hZr))
      have hcl : cnt s j ≤ 65535 := by have := cnt_le s j; omega
      clear hX hbX hM hA hcell hVe e4 e5 e6 e7
      go_upto_region 6 with (fail)
      clear l0 l1 l2 l3 l4 l5 l6 l7
      generalize wr.alloc (.cells #[.int .i64 (Q j).params, .int .i64 (Q j).regs, .int .i64 (Q j).line, .bool (Q j).dots, .slice a4 L4 c4, .slice a5 L5 c5, .slice a6 L6 c6, .slice a7 L7 c7] 45) = wA at *
      have hXl := HX.out.lt
      generalize wr.heap.size = X at *
      have HP := hide (phas_any HMA.out hn2 hjn)
      cases hs : s j with
      | false =>
        rw [hs] at HP
        have HS := hide hs
        clear hs
        go_wp2_with (first
          | (go_at_call 18
             refine HP.out.mono ?_
             rintro e w2 ⟨rfl, hb2⟩
             have HO2 := hide (owns_past HOA.out (Keeps.of hb2 (Nat.le_refl _) (fun _ => False)) (fun _ _ x => x))
             have HN2 := hide (show ∃ m, m ≤ j ∧ NowM w2 Z n m (fun q => decide (q < j) && s q) (cnt s) from by obtain ⟨m, h1, h2⟩ := HNA.out; exact ⟨m, h1, h2.low hb2 h2.lt⟩)
             have HB2 := hide (HBA.out.trans (hb2.mono (by omega)))
             clear hb2)
          | fail)
        go_roundw
        case rel => exact ⟨j + 1, by omega, by simp, hide (by rw [cnt_1, kp_1, HS.out]; simpa using HO2.out), hide (by
          obtain ⟨m, h1, h2⟩ := HN2.out
          refine ⟨m, by omega, h2.congr (fun q _ => ?_)⟩
          by_cases e : q = j
          · subst e; simp [HS.out]
          · have : (q < j + 1) = (q < j) := propext ⟨fun h => by omega, fun h => by omega⟩
            simp [this]), HB2⟩
        case measure => simp [ivN]; omega
      | true =>
        rw [hs] at HP
        have HS := hide hs
        clear hs
        go_upto_region 7 with (first
          | (go_at_call 18
             refine HP.out.mono ?_
             rintro e w2 ⟨rfl, hb2⟩
             have HO2 := hide (owns_past HOA.out (Keeps.of hb2 (Nat.le_refl _) (fun _ => False)) (fun _ _ x => x))
             have HN2 := hide (show ∃ m, m ≤ j ∧ NowM w2 Z n m (fun q => decide (q < j) && s q) (cnt s) from by obtain ⟨m, h1, h2⟩ := HNA.out; exact ⟨m, h1, h2.low hb2 h2.lt⟩)
             have HB2 := hide (HBA.out.trans (hb2.mono (by omega)))
             have HX2 := hide (HX.out.low hb2 hXl)
             have hs2 := hb2.size
             clear hb2)
          | fail)
        obtain ⟨m, hm1, hm2⟩ := HN2.out
        obtain ⟨w3, hput, hn3, hk3⟩ := hm2.put hn2 (by omega) hjn (v := cnt s j) rfl (by omega)
        have hnX : Z ≠ X := hm2.row HX2.out
        have HX3 := hide (HX2.out.keep hk3 (fun e => hnX e.symm))
        have HO3 := hide (owns_past HO2.out hk3 (fun g e q => hm2.row (owns_rowF HO2.out e) q.symm))
        have HN3 := hide (show ∃ m, m ≤ j + 1 ∧ NowM w3 Z n m (fun q => decide (q < j + 1) && s q) (cnt s) from ⟨m + 1, by omega, hn3.congr (fun q _ => by
          by_cases e : q = j
          · subst e; simp [HS.out]
          · have : (q < j + 1) = (q < j) := propext ⟨fun h => by omega, fun h => by omega⟩
            simp [e, this])⟩)
        have HB3 := hide (HB2.out.trans (hk3.below (B := Z) (by omega) (fun b e => by omega)))
        have hs3 := hk3.size
        clear hn3 hk3 hm1 hm2 hnX
        go_upto_region 8 with (fail)
        clear hput
        have y0 : w3.cell? ⟨X, 0, none⟩ = some (.int .i64 (Q j).params) := HX3.out.cell (j := 0) (by simp)
        have y1 : w3.cell? ⟨X, 1, none⟩ = some (.int .i64 (Q j).regs) := HX3.out.cell (j := 1) (by simp)
        have y2 : w3.cell? ⟨X, 2, none⟩ = some (.int .i64 (Q j).line) := HX3.out.cell (j := 2) (by simp)
        have y3 : w3.cell? ⟨X, 3, none⟩ = some (.bool (Q j).dots) := HX3.out.cell (j := 3) (by simp)
        have y4 : w3.cell? ⟨X, 4, none⟩ = some (.slice a4 L4 c4) := HX3.out.cell (j := 4) (by simp)
        have y5 : w3.cell? ⟨X, 5, none⟩ = some (.slice a5 L5 c5) := HX3.out.cell (j := 5) (by simp)
        have y6 : w3.cell? ⟨X, 6, none⟩ = some (.slice a6 L6 c6) := HX3.out.cell (j := 6) (by simp)
        have y7 : w3.cell? ⟨X, 7, none⟩ = some (.slice a7 L7 c7) := HX3.out.cell (j := 7) (by simp)
        have hZ3 : Z ≤ w3.heap.size := by omega
        obtain ⟨LL, hLL⟩ : ∃ LL, ((kp s j).flatMap fun i => fnD (Q i) (S4 i) (S5 i) (S6 i) (S7 i)) = LL := ⟨_, rfl⟩
        rw [hLL] at HO3
        have HLL := hide hLL
        obtain ⟨C, hC⟩ : ∃ C, cnt s j = C := ⟨_, rfl⟩
        rw [hC] at HO3 hcl
        rw [hC]
        have HC := hide hC
        clear hLL hC
        go_upto_region 9 with (first
          | (at_builtin
             refine app_k rfl (.tmp 25) (.tmp 27) 26 45 8 128 _ rfl Tryz.underlying26 Tryz.info45 rfl (by decide) Z (.slice oa C oc) C LL [.int .i64 (Q j).params, .int .i64 (Q j).regs, .int .i64 (Q j).line, .bool (Q j).dots, .slice a4 L4 c4, .slice a5 L5 c5, .slice a6 L6 c6, .slice a7 L7 c7] HO3.out rfl rfl rfl (by simp [Value.oneCell']) (by omega) (by decide) hZ3 ?_
             intro v5 w5 hv5 hk5 hw5)
          | fail)
        have HO5 := hide hv5
        have HN5 := hide (show ∃ m, m ≤ j + 1 ∧ NowM w5 Z n m (fun q => decide (q < j + 1) && s q) (cnt s) from by
          obtain ⟨m, h1, h2⟩ := HN3.out
          exact ⟨m, h1, h2.keep hk5 (fun e => h2.row (owns_rowF HO3.out e) rfl)⟩)
        have HB5 := hide (HB3.out.trans (hk5.below (B := Z) hZ3 (fun b e => (owns_blk HO3.out e).1)))
        clear hv5 hk5 hw5 y0 y1 y2 y3 y4 y5 y6 y7
        go_wp2_with fail
        go_roundw
        case rel => exact ⟨j + 1, by omega, by simp, hide (by
          rw [cnt_1, kp_1, HS.out, HC.out]
          simp only [if_true, List.flatMap_append, List.flatMap_cons, List.flatMap_nil, List.append_nil]
          rw [HLL.out, HVe.out]
          exact HO5.out), HN5, HB5⟩
        case measure => simp [ivN]; omega
    · obtain rfl : j = n := by omega
      go_wp2_with fail
      go_ret2
      have hz := HZ.out
      obtain ⟨m, _, h2⟩ := HNow.out
      exact ⟨_, Z, m, rfl, by rw [hz]; exact HO.out, h2.congr (fun q hq => by simp [hq]), by omega, by rw [hz]; exact HB.out⟩
theorem bsV_nil {b : Nat} : ¬ BsV nilS nilS nilS nilS b := by
  rintro (h | h | h | h) <;> cases h
theorem put8_keepsQ (w : World) (G q : Nat) (v0 v1 v2 v3 v4 v5 v6 v7 : Value) : Keeps w (put8 w G q v0 v1 v2 v3 v4 v5 v6 v7) (fun b => b = G) :=
  ((((((((Keeps.refl w (fun b => b = G)).setCell (j := q) rfl v0).setCell (j := q + 1) rfl v1).setCell (j := q + 2) rfl v2).setCell (j := q + 3) rfl v3).setCell (j := q + 4) rfl v4).setCell (j := q + 5) rfl v5).setCell (j := q + 6) rfl v6).setCell (j := q + 7) rfl v7
theorem FM.rows {w : World} {q : PV} {s4 s5 s7 : Value} {g6 c6 m : Nat} (h : FM w q s4 s5 g6 c6 s7) {b : Nat} (hb : BsV s4 s5 (.slice (some ⟨g6, 0, none⟩) m c6) s7 b) : ∃ T N f, RowF w T b N f ∧ T ≠ 45 := by
  rcases hb with hb | hb | hb | hb
  · exact ⟨_, _, _, h.u.own hb, by decide⟩
  · exact ⟨_, _, _, h.c.own hb, by decide⟩
  · obtain rfl : g6 = b := by simpa [Value.ownBlock] using hb
    obtain ⟨f, hr, _⟩ := h.i
    exact ⟨_, _, f, hr, by decide⟩
  · exact ⟨_, _, _, SlF.own h.l hb, by decide⟩
theorem FM.keepN {w w' : World} {q : PV} {s4 s5 s7 : Value} {g6 c6 m : Nat} {S : Nat → Prop} (h : FM w q s4 s5 g6 c6 s7) (k : Keeps w w' S) (hn : ∀ b, BsV s4 s5 (.slice (some ⟨g6, 0, none⟩) m c6) s7 b → ¬ S b) : FM w' q s4 s5 g6 c6 s7 :=
  ⟨h.u.keep k (fun b e => hn b (.inl e)), h.c.keep k (fun b e => hn b (.inr (.inl e))), h.i.keep k (hn g6 (.inr (.inr (.inl (by simp [Value.ownBlock]))))), h.cap, SlF.keep h.l k (fun b e => hn b (.inr (.inr (.inr e))))⟩
def FnX (w : World) (base : Nat) (p q x : PV) (s4 s5 s6 s7 : Value) : Prop :=
  ∃ (c : Cf) (K g6 c6 : Nat), FinI K p.cf c ∧ q = (p.lft c).cst ∧ s6 = .slice (some ⟨g6, 0, none⟩) q.ni c6 ∧ FM w x s4 s5 g6 c6 s7 ∧ x.ni = q.ni ∧ ∀ b, BsV s4 s5 s6 s7 b → base ≤ b
theorem FnX.rows {w : World} {base : Nat} {p q x : PV} {s4 s5 s6 s7 : Value} (h : FnX w base p q x s4 s5 s6 s7) {b : Nat} (hb : BsV s4 s5 s6 s7 b) : ∃ T N f, RowF w T b N f ∧ T ≠ 45 := by
  obtain ⟨c, K, g6, c6, _, _, rfl, hf, _, _⟩ := h
  exact hf.rows hb
theorem FnX.keep {w w' : World} {base : Nat} {p q x : PV} {s4 s5 s6 s7 : Value} {S : Nat → Prop} (h : FnX w base p q x s4 s5 s6 s7) (k : Keeps w w' S) (hn : ∀ b, BsV s4 s5 s6 s7 b → ¬ S b) : FnX w' base p q x s4 s5 s6 s7 := by
  obtain ⟨c, K, g6, c6, h1, h2, rfl, hf, h3, h4⟩ := h
  exact ⟨c, K, g6, c6, h1, h2, rfl, hf.keepN k hn, h3, h4⟩
theorem FnX.low {w w' : World} {base : Nat} {p q x : PV} {s4 s5 s6 s7 : Value} {B : Nat} (h : FnX w base p q x s4 s5 s6 s7) (hb : Below B w w') (hB : w.heap.size ≤ B) : FnX w' base p q x s4 s5 s6 s7 :=
  h.keep (Keeps.of hb hB (fun _ => False)) (fun _ _ e => e)
theorem FnX.form {w : World} {base : Nat} {p q x : PV} {s4 s5 s6 s7 : Value} (h : FnX w base p q x s4 s5 s6 s7) : (∃ a L c, s4 = .slice a L c) ∧ (∃ a L c, s5 = .slice a L c) ∧ (∃ a L c, s6 = .slice a L c) ∧ (∃ a L c, s7 = .slice a L c) := by
  obtain ⟨c, K, g6, c6, h1, h2, rfl, hf, h3, h4⟩ := h
  obtain ⟨a4, k4, e4, _⟩ := hf.u
  obtain ⟨a5, k5, e5, _⟩ := hf.c
  obtain ⟨a7, k7, e7, _⟩ := hf.l
  exact ⟨⟨a4, _, k4, e4⟩, ⟨a5, _, k5, e5⟩, ⟨_, _, _, rfl⟩, ⟨a7, _, k7, e7⟩⟩
def pv0 : PV := ⟨0, 0, 0, false, 0, fun _ => false, fun _ => 0, 0, fun _ => 0, fun _ => 0, fun _ => 0, fun _ => ByteArray.empty, 0, fun _ => 0, fun _ => 0, fun _ => 0, fun _ => 0, 0, fun _ => 0⟩
structure LP (w : World) (base gP b n m t : Nat) (P Q : Nat → PV) (S4 S5 S6 S7 : Nat → Value) : Prop where
  row : RowF w 45 gP (n * 8) (fnG Q S4 S5 S6 S7)
  set : SetM w b n (uP n Q t)
  fn : ∀ c, m ≤ c → c < n → uP n Q (n - 1 - c) c = true → FnX w base (P c) (Q c) (Q c) (S4 c) (S5 c) (S6 c) (S7 c)
  no : ∀ c, c < n → (c < m ∨ uP n Q (n - 1 - c) c = false) → S4 c = nilS ∧ S5 c = nilS ∧ S6 c = nilS ∧ S7 c = nilS
  ap : ∀ c d, c < d → d < n → ∀ x y, BsV (S4 c) (S5 c) (S6 c) (S7 c) x → BsV (S4 d) (S5 d) (S6 d) (S7 d) y → y < x
theorem LP.bs {w : World} {base gP b n m t : Nat} {P Q : Nat → PV} {S4 S5 S6 S7 : Nat → Value} (h : LP w base gP b n m t P Q S4 S5 S6 S7) {c x : Nat} (hc : c < n) (hx : BsV (S4 c) (S5 c) (S6 c) (S7 c) x) : ∃ T N f, RowF w T x N f ∧ T ≠ 45 := by
  by_cases e : c < m ∨ uP n Q (n - 1 - c) c = false
  · obtain ⟨e4, e5, e6, e7⟩ := h.no c hc e
    rw [e4, e5, e6, e7] at hx
    exact absurd hx bsV_nil
  · have e1 : m ≤ c := by omega
    have e2 : uP n Q (n - 1 - c) c = true := by
      cases hu : uP n Q (n - 1 - c) c with
      | true => rfl
      | false => exact absurd (.inr hu) e
    exact (h.fn c e1 hc e2).rows hx
theorem LP.form {w : World} {base gP b n m t : Nat} {P Q : Nat → PV} {S4 S5 S6 S7 : Nat → Value} (h : LP w base gP b n m t P Q S4 S5 S6 S7) {c : Nat} (hc : c < n) : (∃ a L k, S4 c = .slice a L k) ∧ (∃ a L k, S5 c = .slice a L k) ∧ (∃ a L k, S6 c = .slice a L k) ∧ (∃ a L k, S7 c = .slice a L k) := by
  by_cases e : c < m ∨ uP n Q (n - 1 - c) c = false
  · obtain ⟨e4, e5, e6, e7⟩ := h.no c hc e
    exact ⟨⟨_, _, _, e4⟩, ⟨_, _, _, e5⟩, ⟨_, _, _, e6⟩, ⟨_, _, _, e7⟩⟩
  · have e1 : m ≤ c := by omega
    have e2 : uP n Q (n - 1 - c) c = true := by
      cases hu : uP n Q (n - 1 - c) c with
      | true => rfl
      | false => exact absurd (.inr hu) e
    exact (h.fn c e1 hc e2).form
theorem LP.low {w w' : World} {base gP b n m t : Nat} {P Q : Nat → PV} {S4 S5 S6 S7 : Nat → Value} (h : LP w base gP b n m t P Q S4 S5 S6 S7) (hb : Below w.heap.size w w') : LP w' base gP b n m t P Q S4 S5 S6 S7 :=
  ⟨h.row.low hb h.row.lt, h.set.low hb h.set.lt, fun c h1 h2 h3 => (h.fn c h1 h2 h3).low hb (Nat.le_refl _), h.no, h.ap⟩
theorem uP_next {n k : Nat} {Q : Nat → PV} (hk : k < n) (x : Nat) : uP n Q (n - k) x = (uP n Q (n - 1 - k) x || (uP n Q (n - 1 - k) k && clN (Q k) (Q k).ni x)) := by
  have e : n - k = n - 1 - k + 1 := by omega
  rw [e]
  show (uP n Q (n - 1 - k) x || (uP n Q (n - 1 - k) (n - 1 - (n - 1 - k)) && clN (Q (n - 1 - (n - 1 - k))) (Q (n - 1 - (n - 1 - k))).ni x)) = _
  rw [show n - 1 - (n - 1 - k) = k by omega]
theorem LP.skip {w : World} {base gP b n k : Nat} {P Q : Nat → PV} {S4 S5 S6 S7 : Nat → Value} (h : LP w base gP b n (k + 1) (n - 1 - k) P Q S4 S5 S6 S7) (hk : k < n) (hu : uP n Q (n - 1 - k) k = false) : LP w base gP b n k (n - k) P Q S4 S5 S6 S7 := by
  refine ⟨h.row, h.set.congr (fun x _ => by rw [uP_next hk, hu]; simp), fun c h1 h2 h3 => ?_, fun c h1 h2 => ?_, h.ap⟩
  · by_cases e : c = k
    · subst e; rw [hu] at h3; cases h3
    · exact h.fn c (by omega) h2 h3
  · exact h.no c h1 (by rcases h2 with h2 | h2; exact .inl (by omega); exact .inr h2)
theorem LP.named {w w' : World} {base gP b n k : Nat} {P Q : Nat → PV} {S4 S5 S6 S7 : Nat → Value} (h : LP w base gP b n k (n - 1 - k) P Q S4 S5 S6 S7) (hk : k < n) (hu : uP n Q (n - 1 - k) k = true)
    (hs : SetM w' b n (fun x => uP n Q (n - 1 - k) x || adQ [5] (Q k).i0 (Q k).i2 (Q k).i3 (Q k).ni x)) (hkp : Keeps w w' (fun c => c = b)) : LP w' base gP b n k (n - k) P Q S4 S5 S6 S7 := by
  refine ⟨h.row.keep hkp (fun e => h.set.row h.row e.symm), hs.congr (fun x _ => by rw [uP_next hk, hu, adQ_cl]; simp), fun c h1 h2 h3 => (h.fn c h1 h2 h3).keep hkp (fun x hx e => ?_), h.no, h.ap⟩
  obtain ⟨T, N, f, hr, _⟩ := (h.fn c h1 h2 h3).rows hx
  exact h.set.row hr e.symm
theorem LP.put {w w2 : World} {base gP b n k : Nat} {P Q : Nat → PV} {S4 S5 S6 S7 : Nat → Value} {q : PV} {s4 s5 s6 s7 : Value} (h : LP w base gP b n (k + 1) (n - 1 - k) P Q S4 S5 S6 S7) (hk : k < n) (hu : uP n Q (n - 1 - k) k = true)
    (hb2 : Below w.heap.size w w2) (hf : FnX w2 base (P k) q q s4 s5 s6 s7) (hnew : ∀ x, BsV s4 s5 s6 s7 x → w.heap.size ≤ x) :
    LP (put8 w2 gP (k * 8) (.int .i64 q.params) (.int .i64 q.regs) (.int .i64 q.line) (.bool q.dots) s4 s5 s6 s7) base gP b n k (n - 1 - k) P (fun c => if c = k then q else Q c) (fun c => if c = k then s4 else S4 c) (fun c => if c = k then s5 else S5 c) (fun c => if c = k then s6 else S6 c) (fun c => if c = k then s7 else S7 c) := by
  have hkp := put8_keepsQ w2 gP (k * 8) (.int .i64 q.params) (.int .i64 q.regs) (.int .i64 q.line) (.bool q.dots) s4 s5 s6 s7
  have h2 := h.low hb2
  have hup : ∀ t, t ≤ n - 1 - k → uP n (fun c => if c = k then q else Q c) t = uP n Q t := fun t ht => uP_congr (by omega) (fun c h1 h2 => by simp only [if_neg (show c ≠ k by omega)])
  have hoff : ∀ {T N : Nat} {f : Nat → Value} {x : Nat}, RowF w2 T x N f → T ≠ 45 → ¬ (x = gP) := fun hr hT e => hr.apart h2.row hT e
  refine ⟨(h2.row.put8 (q := k * 8) (by omega) _ _ _ _ _ _ _ _).congr (fun j hj => ?_), ?_, fun c h3 h4 h5 => ?_, fun c h3 h4 => ?_, fun c d h3 h4 x y hx hy => ?_⟩
  · have hd : j = j / 8 * 8 + j % 8 := by omega
    have hr : j % 8 < 8 := Nat.mod_lt _ (by omega)
    by_cases e : j / 8 = k
    · unfold fnG
      rw [e]
      simp only [if_true]
      generalize j % 8 = r at hd hr ⊢
      rw [hd, e]
      have : r = 0 ∨ r = 1 ∨ r = 2 ∨ r = 3 ∨ r = 4 ∨ r = 5 ∨ r = 6 ∨ r = 7 := by omega
      rcases this with rfl | rfl | rfl | rfl | rfl | rfl | rfl | rfl <;> simp [fnD]
    · unfold fnG
      simp only [if_neg e]
      simp only [if_neg (show ¬ j = k * 8 + 7 by omega), if_neg (show ¬ j = k * 8 + 6 by omega), if_neg (show ¬ j = k * 8 + 5 by omega), if_neg (show ¬ j = k * 8 + 4 by omega), if_neg (show ¬ j = k * 8 + 3 by omega), if_neg (show ¬ j = k * 8 + 2 by omega), if_neg (show ¬ j = k * 8 + 1 by omega), if_neg (show ¬ j = k * 8 by omega)]
  · rw [hup _ (Nat.le_refl _)]
    exact h2.set.keep hkp (h2.set.row h2.row)
  · rw [hup _ (by omega)] at h5
    by_cases e : c = k
    · subst e
      simp only [if_true]
      refine hf.keep hkp (fun x hx => ?_)
      obtain ⟨T, N, f, hr, hT⟩ := hf.rows hx
      exact hoff hr hT
    · simp only [if_neg e]
      have hc := h2.fn c (by omega) h4 h5
      refine hc.keep hkp (fun x hx => ?_)
      obtain ⟨T, N, f, hr, hT⟩ := hc.rows hx
      exact hoff hr hT
  · by_cases e : c = k
    · subst e
      rw [hup _ (Nat.le_refl _), hu] at h4
      rcases h4 with h4 | h4
      · exact absurd h4 (Nat.lt_irrefl _)
      · cases h4
    · simp only [if_neg e]
      refine h.no c h3 ?_
      rcases h4 with h4 | h4
      · exact .inl (by omega)
      · by_cases e2 : c < k
        · exact .inl (by omega)
        · rw [hup _ (by omega)] at h4
          exact .inr h4
  · by_cases e1 : c = k
    · subst e1
      simp only [if_true] at hx
      simp only [if_neg (show d ≠ c by omega)] at hy
      obtain ⟨T, N, f, hr, _⟩ := h.bs h4 hy
      exact Nat.lt_of_lt_of_le hr.lt (hnew x hx)
    · simp only [if_neg e1] at hx
      by_cases e2 : d = k
      · obtain ⟨z4, z5, z6, z7⟩ := h.no c (by omega) (.inl (by omega))
        rw [z4, z5, z6, z7] at hx
        exact absurd hx bsV_nil
      · simp only [if_neg e2] at hy
        exact h.ap c d h3 h4 x y hx hy
structure LQ (w : World) (base bm mm n lo : Nat) (U : Nat → Bool) (v : Value) (P Q : Nat → PV) (S4 S5 S6 S7 : Nat → Value) (i : Nat) : Prop where
  row : w.ownsRow lo 45 8 v (cnt U n) ((kp U n).flatMap fun c => fnD (Q c) (S4 c) (S5 c) (S6 c) (S7 c))
  now : NowM w bm n mm U (cnt U)
  fn : ∀ c, c < n → U c = true → FnX w base (P c) (Q c) (if cnt U c < i then (Q c).ren U else Q c) (S4 c) (S5 c) (S6 c) (S7 c)
  ap : ∀ c d, c < d → d < n → ∀ x y, BsV (S4 c) (S5 c) (S6 c) (S7 c) x → BsV (S4 d) (S5 d) (S6 d) (S7 d) y → y < x
theorem LQ.low {w w' : World} {base bm mm n lo : Nat} {U : Nat → Bool} {v : Value} {P Q : Nat → PV} {S4 S5 S6 S7 : Nat → Value} {i : Nat} (h : LQ w base bm mm n lo U v P Q S4 S5 S6 S7 i) (hb : Below w.heap.size w w') : LQ w' base bm mm n lo U v P Q S4 S5 S6 S7 i :=
  ⟨owns_low h.row hb, h.now.low hb h.now.lt, fun c h1 h2 => (h.fn c h1 h2).low hb (Nat.le_refl _), h.ap⟩
theorem LQ.turn {w w' : World} {base bm mm n lo : Nat} {U : Nat → Bool} {v : Value} {P Q : Nat → PV} {S4 S5 S6 S7 : Nat → Value} {i g6 c6 : Nat} (h : LQ w base bm mm n lo U v P Q S4 S5 S6 S7 i) (hi : i < cnt U n)
    (h6 : S6 (kpAt U n i) = .slice (some ⟨g6, 0, none⟩) (Q (kpAt U n i)).ni c6)
    (hI : InsO w' g6 (Q (kpAt U n i)).ni (Q (kpAt U n i)).i0 (Q (kpAt U n i)).i1 ((Q (kpAt U n i)).ren U).i2 (Q (kpAt U n i)).i3) (hk : Keeps w w' (fun b => b = g6)) : LQ w' base bm mm n lo U v P Q S4 S5 S6 S7 (i + 1) := by
  obtain ⟨hu, hc⟩ := kpAt_mem hi
  have hci := cnt_kpAt hi
  obtain ⟨k, hkk⟩ : ∃ k, kpAt U n i = k := ⟨_, rfl⟩
  rw [hkk] at hu hc hci h6 hI
  have hf := h.fn k hc hu
  rw [hci, if_neg (Nat.lt_irrefl _)] at hf
  obtain ⟨cc, K, g6', c6', f1, f2, f3, f4, f5, f6⟩ := hf
  rw [h6] at f3
  obtain ⟨rfl, rfl⟩ : g6 = g6' ∧ c6 = c6' := by simpa using f3
  obtain ⟨fI, hrI, _⟩ := f4.i
  have hap : ∀ {T N : Nat} {f : Nat → Value} {b : Nat}, RowF w T b N f → T ≠ 51 → b ≠ g6 := fun hr hT e => hr.apart hrI hT e
  have b6 : BsV (S4 k) (S5 k) (S6 k) (S7 k) g6 := .inr (.inr (.inl (by rw [h6]; simp [Value.ownBlock])))
  refine ⟨owns_past h.row hk (fun b e => hap (owns_rowF h.row e) (by decide)), h.now.keep hk (h.now.row hrI), fun c h1 h2 => ?_, h.ap⟩
  by_cases e : c = k
  · subst e
    rw [hci, if_pos (Nat.lt_succ_self _)]
    exact ⟨cc, K, g6, c6, f1, f2, h6, f4.code hk hrI hI, rfl, f6⟩
  · have hne : (cnt U c < i + 1) = (cnt U c < i) := by
      refine propext ⟨fun hlt => ?_, fun hlt => by omega⟩
      rcases Nat.lt_or_ge (cnt U c) i with x | x
      · exact x
      · have hx : cnt U c = i := by omega
        have := kpAt_cnt h2 h1
        rw [hx, hkk] at this
        exact absurd this.symm e
    simp only [hne]
    refine (h.fn c h1 h2).keep hk (fun x hx hxe => ?_)
    subst hxe
    rcases Nat.lt_or_gt_of_ne e with hl | hl
    · have := h.ap c k hl hc x x hx b6; omega
    · have := h.ap k c hl h1 x x b6 hx; omega
structure ChW (w : World) (lo : Nat) (v : Value) (N : Nat) (X : Nat → PV) (V4 V5 V6 V7 : Nat → Value) : Prop where
  row : w.ownsRow lo 45 8 v N ((List.range N).flatMap fun j => fnD (X j) (V4 j) (V5 j) (V6 j) (V7 j))
  fn : ∀ j, j < N → SlF w 104 2 (V4 j) (X j).nu (upF (X j)) ∧ SlF w 81 4 (V5 j) (X j).nc (conF (X j)) ∧ InsF w (V6 j) (X j).ni (X j).i0 (X j).i1 (X j).i2 (X j).i3 ∧ LinF w (V7 j) (X j).nl (X j).l0
  off : ∀ i j, i < N → j < N → i ≠ j → ∀ b, BsV (V4 i) (V5 i) (V6 i) (V7 i) b → ¬ BsV (V4 j) (V5 j) (V6 j) (V7 j) b
  ge : ∀ j, j < N → ∀ b, BsV (V4 j) (V5 j) (V6 j) (V7 j) b → lo ≤ b
theorem ChW.nil (w : World) (lo : Nat) (X : Nat → PV) (V4 V5 V6 V7 : Nat → Value) : ChW w lo nilS 0 X V4 V5 V6 V7 :=
  ⟨World.ownsRow_nil w lo 45 8, fun j hj => absurd hj (Nat.not_lt_zero _), fun i j hi => absurd hi (Nat.not_lt_zero _), fun j hj => absurd hj (Nat.not_lt_zero _)⟩
theorem flat_kp {α : Type} (U : Nat → Bool) (n : Nat) (f : Nat → List α) : (kp U n).flatMap f = (List.range (cnt U n)).flatMap (fun j => f (kpAt U n j)) := by
  have e : kp U n = (List.range (cnt U n)).map (fun j => kpAt U n j) := by
    refine List.ext_getElem (by rw [List.length_map, List.length_range]; rfl) (fun i h1 h2 => ?_)
    rw [List.getElem_map, List.getElem_range]
    unfold kpAt
    rw [List.getD_eq_getElem?_getD, List.getElem?_eq_getElem h1]
    rfl
  conv => lhs; rw [e]
  rw [List.flatMap_map]
theorem insF_O {w : World} {g n cap : Nat} {i0 i1 i2 i3 : Nat → Int} (h : InsO w g n i0 i1 i2 i3) (hc : n ≤ cap) : InsF w (.slice (some ⟨g, 0, none⟩) n cap) n i0 i1 i2 i3 := by
  obtain ⟨f, hr, hf⟩ := h
  refine ⟨_, cap, rfl, hc, .inr ⟨g, rfl, hr.congr (fun j hj => ?_)⟩⟩
  obtain ⟨a, b, c, d⟩ := hf (j / 4) (by omega)
  have hd : j = j / 4 * 4 + j % 4 := by omega
  unfold insC
  rcases (show j % 4 = 0 ∨ j % 4 = 1 ∨ j % 4 = 2 ∨ j % 4 = 3 by omega) with e | e | e | e
  · rw [if_pos e]; conv => lhs; rw [hd, e, Nat.add_zero]
    exact a
  · rw [if_neg (by omega), if_pos e]; conv => lhs; rw [hd, e]
    exact b
  · rw [if_neg (by omega), if_neg (by omega), if_pos e]; conv => lhs; rw [hd, e]
    exact c
  · rw [if_neg (by omega), if_neg (by omega), if_neg (by omega)]; conv => lhs; rw [hd, e]
    exact d
theorem owns_more {w : World} {lo lo' T s n : Nat} {v : Value} {xs : List Value} (h : w.ownsRow lo' T s v n xs) (hl : lo ≤ lo') : w.ownsRow lo T s v n xs := by
  obtain ⟨h1, h2 | ⟨g, cap, cur, rfl, hb, hg, hr⟩⟩ := h
  · exact ⟨h1, .inl h2⟩
  · exact ⟨h1, .inr ⟨g, cap, cur, rfl, Nat.le_trans hl hb, hg, hr⟩⟩
theorem LQ.done {w : World} {base bm mm n lo : Nat} {U : Nat → Bool} {v : Value} {P Q : Nat → PV} {S4 S5 S6 S7 : Nat → Value} (h : LQ w base bm mm n lo U v P Q S4 S5 S6 S7 (cnt U n)) (hlo : base ≤ lo) :
    ChW w base v (cnt U n) (fun j => (Q (kpAt U n j)).ren U) (fun j => S4 (kpAt U n j)) (fun j => S5 (kpAt U n j)) (fun j => S6 (kpAt U n j)) (fun j => S7 (kpAt U n j)) := by
  have hrow := h.row
  rw [flat_kp] at hrow
  have at_ : ∀ j, j < cnt U n → FnX w base (P (kpAt U n j)) (Q (kpAt U n j)) ((Q (kpAt U n j)).ren U) (S4 (kpAt U n j)) (S5 (kpAt U n j)) (S6 (kpAt U n j)) (S7 (kpAt U n j)) := fun j hj => by
    obtain ⟨hu, hc⟩ := kpAt_mem hj
    have := h.fn _ hc hu
    rw [cnt_kpAt hj, if_pos hj] at this
    exact this
  refine ⟨owns_more hrow hlo, fun j hj => ?_, fun i j hi hj hne b hb hb2 => ?_, fun j hj b hb => ?_⟩
  · obtain ⟨c, K, g6, c6, _, _, e6, hf, en, _⟩ := at_ j hj
    refine ⟨hf.u, hf.c, ?_, hf.l⟩
    show InsF w (S6 (kpAt U n j)) ((Q (kpAt U n j)).ren U).ni _ _ _ _
    rw [e6]
    exact insF_O hf.i hf.cap
  · rcases Nat.lt_or_gt_of_ne hne with hl | hl
    · have := h.ap _ _ (kpAt_up hl hj) (kpAt_mem hj).2 b b hb hb2; omega
    · have := h.ap _ _ (kpAt_up hl hi) (kpAt_mem hi).2 b b hb2 hb; omega
  · obtain ⟨c, K, g6, c6, _, _, _, _, _, hge⟩ := at_ j hj
    exact hge b hb
theorem ChW.keep {w w' : World} {lo N : Nat} {v : Value} {X : Nat → PV} {V4 V5 V6 V7 : Nat → Value} {S : Nat → Prop} (h : ChW w lo v N X V4 V5 V6 V7) (k : Keeps w w' S) (hS : ∀ b, lo ≤ b → ¬ S b) : ChW w' lo v N X V4 V5 V6 V7 := by
  refine ⟨owns_past h.row k (fun b e => hS b (owns_blk h.row e).1), fun j hj => ?_, h.off, h.ge⟩
  obtain ⟨a, b, c, d⟩ := h.fn j hj
  exact ⟨a.keep k (fun x e => hS x (h.ge j hj x (.inl e))), b.keep k (fun x e => hS x (h.ge j hj x (.inr (.inl e)))), SlF.keep c k (fun x e => hS x (h.ge j hj x (.inr (.inr (.inl e))))), SlF.keep d k (fun x e => hS x (h.ge j hj x (.inr (.inr (.inr e)))))⟩
theorem ChW.low {w w' : World} {lo N : Nat} {v : Value} {X : Nat → PV} {V4 V5 V6 V7 : Nat → Value} {B : Nat} (h : ChW w lo v N X V4 V5 V6 V7) (hb : Below B w w') (hB : w.heap.size ≤ B) : ChW w' lo v N X V4 V5 V6 V7 :=
  h.keep (Keeps.of hb hB (fun _ => False)) (fun _ _ e => e)
theorem ChW.more {w : World} {lo lo' N : Nat} {v : Value} {X : Nat → PV} {V4 V5 V6 V7 : Nat → Value} (h : ChW w lo' v N X V4 V5 V6 V7) (hl : lo ≤ lo') : ChW w lo v N X V4 V5 V6 V7 :=
  ⟨owns_more h.row hl, h.fn, h.off, fun j hj b hb => Nat.le_trans hl (h.ge j hj b hb)⟩
theorem LP.start {w : World} {base gP b n : Nat} {P : Nat → PV} (hr : RowF w 45 gP (n * 8) (fnG (fun _ => pv0) (fun _ => nilS) (fun _ => nilS) (fun _ => nilS) (fun _ => nilS))) (hs : SetM w b n (uP n (fun _ => pv0) 0)) :
    LP w base gP b n n 0 P (fun _ => pv0) (fun _ => nilS) (fun _ => nilS) (fun _ => nilS) (fun _ => nilS) :=
  ⟨hr, hs, fun c h1 h2 => absurd h1 (by omega), fun _ _ _ => ⟨rfl, rfl, rfl, rfl⟩, fun c d _ _ x y hx => absurd hx bsV_nil⟩
theorem LQ.start {w w' : World} {base gP b bm mm n lo : Nat} {v : Value} {P Q : Nat → PV} {S4 S5 S6 S7 : Nat → Value} (h : LP w base gP b n 0 n P Q S4 S5 S6 S7) (hb : Below w.heap.size w w') (hcl : ∀ c, c < n → uP n Q (n - 1 - c) c = true → (Q c).clOk c)
    (hr : w'.ownsRow lo 45 8 v (cnt (uP n Q n) n) ((kp (uP n Q n) n).flatMap fun c => fnD (Q c) (S4 c) (S5 c) (S6 c) (S7 c))) (hm : NowM w' bm n mm (uP n Q n) (cnt (uP n Q n))) :
    LQ w' base bm mm n lo (uP n Q n) v P Q S4 S5 S6 S7 0 := by
  refine ⟨hr, hm, fun c hc hu => ?_, h.ap⟩
  rw [if_neg (Nat.not_lt_zero _)]
  rw [uP_stay hcl hc (by omega) (Nat.le_refl n)] at hu
  exact (h.fn c (Nat.zero_le _) hc hu).low hb (Nat.le_refl _)
end Go.Proofs.YtgnbhhgpaldheaaGreat
