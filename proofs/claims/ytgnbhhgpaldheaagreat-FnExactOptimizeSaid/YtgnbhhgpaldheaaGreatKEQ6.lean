import Derived.Test.YtgnbhhgpaldheaaGreatKEQ2
import Derived.Test.YtgnbhhgpaldheaaGreatKEQ3
import Derived.Test.YtgnbhhgpaldheaaGreatKD17
import Derived.Test.YtgnbhhgpaldheaaGreatKBS
namespace Go.Proofs.YtgnbhhgpaldheaaGreat
open Go Go.RowKit
set_option linter.unusedVariables false
def fwY (X : Nat → PV) (V4 V5 V6 V7 : Nat → Value) (j : Nat) : FW := ⟨V4 j, V5 j, V6 j, V7 j, (X j).nu, (X j).nc, (X j).ni⟩
def ChS (v : Value) (N : Nat) (V4 V5 V6 V7 : Nat → Value) (b : Nat) : Prop := v.ownBlock = some b ∨ ∃ j, j < N ∧ BsV (V4 j) (V5 j) (V6 j) (V7 j) b
theorem ChW.in {w : World} {lo N : Nat} {v : Value} {X : Nat → PV} {V4 V5 V6 V7 : Nat → Value} (h : ChW w lo v N X V4 V5 V6 V7) {b : Nat} (hb : ChS v N V4 V5 V6 V7 b) : lo ≤ b ∧ b < w.heap.size := by
  rcases hb with hb | ⟨j, hj, hb⟩
  · exact owns_blk h.row hb
  · refine ⟨h.ge j hj b hb, ?_⟩
    obtain ⟨a, c, d, e⟩ := h.fn j hj
    rcases hb with hb | hb | hb | hb
    · exact (a.own hb).lt
    · exact (c.own hb).lt
    · exact (SlF.own d hb).lt
    · exact (SlF.own e hb).lt
theorem ChW.keepS {w w' : World} {lo N : Nat} {v : Value} {X : Nat → PV} {V4 V5 V6 V7 : Nat → Value} {S : Nat → Prop} (h : ChW w lo v N X V4 V5 V6 V7) (k : Keeps w w' S) (hS : ∀ b, ChS v N V4 V5 V6 V7 b → ¬ S b) : ChW w' lo v N X V4 V5 V6 V7 := by
  refine ⟨owns_past h.row k (fun b e => hS b (.inl e)), fun j hj => ?_, h.off, h.ge⟩
  obtain ⟨a, b, c, d⟩ := h.fn j hj
  exact ⟨a.keep k (fun x e => hS x (.inr ⟨j, hj, .inl e⟩)), b.keep k (fun x e => hS x (.inr ⟨j, hj, .inr (.inl e)⟩)), SlF.keep c k (fun x e => hS x (.inr ⟨j, hj, .inr (.inr (.inl e))⟩)), SlF.keep d k (fun x e => hS x (.inr ⟨j, hj, .inr (.inr (.inr e))⟩))⟩
theorem range_at (N j : Nat) (hj : j < N) : (List.range N).getD j 0 = j := by
  rw [List.getD_eq_getElem?_getD, List.getElem?_range hj]
  rfl
theorem ChW.cell {w : World} {lo N G cap : Nat} {X : Nat → PV} {V4 V5 V6 V7 : Nat → Value} (h : ChW w lo (.slice (some ⟨G, 0, none⟩) N cap) N X V4 V5 V6 V7) : RowF w 45 G (N * 8) (fnG X V4 V5 V6 V7) := by
  refine (rowF_owns h.row).congr (fun j hj => ?_)
  have hd : j = j / 8 * 8 + j % 8 := by omega
  conv => lhs; rw [hd]
  rw [flat8_at (fun i => rfl) (by omega) (List.range N) (j / 8) (by rw [List.length_range]; omega), range_at N _ (by omega)]
  rfl
theorem ChW.pros {w : World} {lo N : Nat} {v : Value} {X : Nat → PV} {V4 V5 V6 V7 : Nat → Value} (h : ChW w lo v N X V4 V5 V6 V7) : ProsA w v N X := by
  have hr := h.row
  obtain ⟨h1, ⟨rfl, h2⟩ | ⟨g, cap, cur, rfl, hb, hg, hr9⟩⟩ := hr
  · exact .inl ⟨h2, none, 0, rfl⟩
  · have hrow := h.cell
    refine .inr ⟨g, 0, cap, rfl, hrow.lt, hr9.1, fun j hj => ?_⟩
    obtain ⟨a, b, c, d⟩ := h.fn j hj
    have e : ∀ r, r < 8 → w.cell? ⟨g, 0 + j * 8 + r, none⟩ = some ((fnD (X j) (V4 j) (V5 j) (V6 j) (V7 j)).getD r (.bool false)) := fun r hr => by
      rw [Nat.zero_add, hrow.cell (j := j * 8 + r) (by omega), fnG_at X V4 V5 V6 V7 j r hr]
    exact ⟨V4 j, V5 j, V6 j, V7 j, ⟨e 0 (by omega), e 1 (by omega), e 2 (by omega), e 3 (by omega), e 4 (by omega), e 5 (by omega), e 6 (by omega), e 7 (by omega)⟩, ⟨ups_F a, cons_F b, InsF.a c, LinF.a d⟩⟩
def ChM (w : World) (v : Value) (N : Nat) (Y : Nat → FW) : Prop := ∃ a cap, v = .slice a N cap ∧ N ≤ cap ∧ ((a = none ∧ N = 0) ∨ ∃ G, a = some ⟨G, 0, none⟩ ∧ MkS w G N Y 1 N)
theorem ChM.low {w w' : World} {v : Value} {N : Nat} {Y : Nat → FW} {B : Nat} (h : ChM w v N Y) (hb : Below B w w') (hB : w.heap.size ≤ B) : ChM w' v N Y := by
  obtain ⟨a, cap, rfl, h1, h2 | ⟨G, rfl, h2⟩⟩ := h
  · exact ⟨a, cap, rfl, h1, .inl h2⟩
  · exact ⟨_, cap, rfl, h1, .inr ⟨G, rfl, h2.low hb hB⟩⟩
theorem ChW.form {w : World} {lo N : Nat} {v : Value} {X : Nat → PV} {V4 V5 V6 V7 : Nat → Value} (h : ChW w lo v N X V4 V5 V6 V7) : ∃ a cap, v = .slice a N cap := owns_val h.row
theorem ChW.start {w : World} {lo N : Nat} {v : Value} {X : Nat → PV} {V4 V5 V6 V7 : Nat → Value} (h : ChW w lo v N X V4 V5 V6 V7) (hnl : ∀ j, j < N → (X j).nl = (X j).ni) :
    ∃ a cap, v = .slice a N cap ∧ N ≤ cap ∧ ((a = none ∧ N = 0) ∨ ∃ G, a = some ⟨G, 0, none⟩ ∧ LayP N (fwY X V4 V5 V6 V7) ∧ MkS w G N (fwY X V4 V5 V6 V7) 1 0) := by
  have hr := h.row
  obtain ⟨h1, ⟨rfl, h2⟩ | ⟨G, cap, cur, rfl, hb, hg, hr9⟩⟩ := hr
  · exact ⟨none, 0, by rw [h2], by omega, .inl ⟨rfl, h2⟩⟩
  · refine ⟨_, cap, rfl, hr9.1, .inr ⟨G, rfl, h.off, ⟨⟨_, h.cell, fun j hj => ?_, fun j hj => by omega⟩, fun j hj => by omega, fun j _ hj => ?_⟩⟩⟩
    · exact ⟨fnG_at X V4 V5 V6 V7 j 4 (by omega), fnG_at X V4 V5 V6 V7 j 5 (by omega), fnG_at X V4 V5 V6 V7 j 6 (by omega), fnG_at X V4 V5 V6 V7 j 7 (by omega)⟩
    · obtain ⟨a, b, c, d⟩ := h.fn j hj
      exact ⟨⟨_, a⟩, ⟨_, b⟩, ⟨_, c⟩, ⟨_, by
        have e := hnl j hj
        have d' : SlF w 3 1 (V7 j) (X j).nl _ := d
        rw [e] at d'
        exact d'⟩⟩
set_option maxRecDepth 100000 in
theorem markProtoS_0 (a : Option Addr) (cap : Nat) (w : World) : Calls Tryz.prog 24 #[.slice a 0 cap, .int .i64 1] w fun e w' => e = .returned (.int .i64 1) ∧ w' = w := by
  go_enter Tryz.func24, Tryz.ntmps24
  go_wp2
  go_loopw [1, 5] (fun kv iv wr => kv = .int .i64 1 ∧ iv = .int .i64 0 ∧ wr = w) (fun _ _ _ => 0)
  case atStart => exact ⟨rfl, rfl, rfl⟩
  case round =>
    obtain ⟨rfl, rfl, rfl⟩ := hrel
    go_wp2
    go_ret
    exact ⟨rfl, rfl⟩
set_option maxRecDepth 100000 in
theorem heldProtoS_0 (a : Option Addr) (cap : Nat) (w : World) : Calls Tryz.prog 25 #[.slice a 0 cap, .int .i64 1] w fun e w' => e = .returned (.int .i64 1) ∧ w' = w := by
  go_enter Tryz.func25, Tryz.ntmps25
  go_wp2
  go_loopw [1, 5] (fun kv iv wr => kv = .int .i64 1 ∧ iv = .int .i64 0 ∧ wr = w) (fun _ _ _ => 0)
  case atStart => exact ⟨rfl, rfl, rfl⟩
  case round =>
    obtain ⟨rfl, rfl, rfl⟩ := hrel
    go_wp2
    go_ret
    exact ⟨rfl, rfl⟩
set_option maxHeartbeats 800000 in
set_option maxRecDepth 100000 in
theorem markChunk_w (lo N : Nat) (v : Value) (X : Nat → PV) (V4 V5 V6 V7 : Nat → Value) (w : World) (hn : N ≤ 1048576) (hwt : wtY (fwY X V4 V5 V6 V7) N ≤ 1048576) (hnl : ∀ j, j < N → (X j).nl = (X j).ni) (h : ChW w lo v N X V4 V5 V6 V7) :
    Calls Tryz.prog 10 #[.agg #[v], .int .i64 1] w fun e w' => e = .returned (.int .i64 (kF (fwY X V4 V5 V6 V7) 1 N)) ∧ ChM w' v N (fwY X V4 V5 V6 V7) ∧ Keeps w w' (ChS v N V4 V5 V6 V7) := by
  obtain ⟨a, cap, rfl⟩ := h.form
  have HB := hide (b_1 w (.cells #[.slice a N cap] 28))
  have HE := hide (h.low HB.out (Nat.le_refl _))
  have HW := hide hwt
  have HNl := hide hnl
  clear h hwt hnl
  go_enter Tryz.func10, Tryz.ntmps10
  go_wp2_with fail
  generalize w.alloc (.cells #[.slice a N cap] 28) = w1 at *
  obtain ⟨a1, c1, e1, hc, ⟨rfl, h0⟩ | ⟨G, rfl, hL, hM⟩⟩ := HE.out.start HNl.out
  · obtain ⟨rfl, rfl⟩ : a = none ∧ cap = c1 := by simpa using e1
    rw [h0]
    refine (markProtoS_0 none cap w1).mono ?_
    rintro e w2 ⟨rfl, rfl⟩
    go_wp2_with fail
    go_ret
    refine ⟨by rw [h0]; rfl, ⟨none, cap, rfl, hc, .inl ⟨rfl, h0⟩⟩, Keeps.of HB.out (Nat.le_refl _) _⟩
  · obtain ⟨rfl, rfl⟩ : a = some ⟨G, 0, none⟩ ∧ cap = c1 := by simpa using e1
    refine (markProtoS_f G N cap (fwY X V4 V5 V6 V7) w1 hn hc HW.out hL hM).mono ?_
    rintro e w2 ⟨rfl, hm, hk⟩
    have HM := hide hm
    have HK := hide ((Keeps.of HB.out (Nat.le_refl _) (ChS (.slice (some ⟨G, 0, none⟩) N cap) N V4 V5 V6 V7)).trans (hk.mono (fun b hb => by
      rcases hb with rfl | ⟨j, hj, hb⟩
      · exact .inl (by simp [Value.ownBlock])
      · exact .inr ⟨j, hj, hb⟩)))
    clear hm hk hM hL
    go_wp2_with fail
    go_ret
    exact ⟨rfl, ⟨_, cap, rfl, hc, .inr ⟨G, rfl, HM.out⟩⟩, HK.out⟩
set_option maxHeartbeats 800000 in
set_option maxRecDepth 100000 in
theorem heldChunk_w (v : Value) (N : Nat) (Y : Nat → FW) (w : World) (hn : N ≤ 1048576) (hwt : wtY Y N ≤ 1048576) (h : ChM w v N Y) :
    Calls Tryz.prog 11 #[.agg #[v], .int .i64 1] w fun e w' => e = .returned (.int .i64 (kF Y 1 N)) ∧ Below w.heap.size w w' := by
  obtain ⟨a, cap, rfl, hc, h2⟩ := h
  have HB := hide (b_1 w (.cells #[.slice a N cap] 28))
  have HE := hide h2
  have HW := hide hwt
  have hK : ¬ ((kF Y 1 N : Int) < 0) := by omega
  clear h2 hwt
  go_enter Tryz.func11, Tryz.ntmps11
  go_wp2_with fail
  generalize w.alloc (.cells #[.slice a N cap] 28) = w1 at *
  rcases HE.out with ⟨rfl, h0⟩ | ⟨G, rfl, hM⟩
  · rw [h0]
    refine (heldProtoS_0 none cap w1).mono ?_
    rintro e w2 ⟨rfl, rfl⟩
    go_wp2_with fail
    go_ret
    exact ⟨by rw [h0]; rfl, HB.out⟩
  · refine (heldProtoS_f G N cap Y w1 hn hc HW.out (hM.low HB.out (Nat.le_refl _))).mono ?_
    rintro e w2 ⟨rfl, hb⟩
    have HB2 := hide (HB.out.trans (hb.mono HB.out.size))
    clear hb hM
    go_wp2_with fail
    go_ret
    exact ⟨rfl, HB2.out⟩
theorem PV.same.symm' {p q : PV} (h : p.same q) : q.same p := by
  obtain ⟨⟨a1, a2, a3, a4⟩, ⟨b1, b2, b3, b4⟩, hu, hc, hi, hl⟩ := h
  refine ⟨⟨a1.symm, a2.symm, a3.symm, a4.symm⟩, ⟨b1.symm, b2.symm, b3.symm, b4.symm⟩, fun k hk => ?_, fun k hk => ?_, fun k hk => ?_, fun k hk => (hl k (by omega)).symm⟩
  · have x := hu k (by omega); exact ⟨x.1.symm, x.2.symm⟩
  · have x := hc k (by omega); exact ⟨x.1.symm, x.2.1.symm, x.2.2.1.symm, x.2.2.2.symm⟩
  · have x := hi k (by omega); exact ⟨x.1.symm, x.2.1.symm, x.2.2.1.symm, x.2.2.2.symm⟩
def DocM (n : Nat) (P : Nat → PV) (a b c : Int) (N : Nat) (X : Nat → PV) : Prop := VerR n P a b c ∧
  ((a ≠ 0 ∧ N = 0) ∨ (a = 0 ∧ ∃ F : Nat → PV, (∀ k, k < n → FinD (P k) (F k)) ∧ N = cnt (uP n (fun k => (F k).cst) n) n ∧ X = outF n (fun k => (F k).cst)))
def PrgM (n : Nat) (P : Nat → PV) (a b c : Int) (N : Nat) (X : Nat → PV) : Prop := VerR n P a b c ∧
  ((a ≠ 0 ∧ N = 0) ∨ (a = 0 ∧ ∃ Q : Nat → PV, (∀ k, k < n → uP n Q (n - 1 - k) k = true → ∃ (c : Cf) (K : Nat), FinI K (P k).cf c ∧ Q k = ((P k).lft c).cst) ∧ N = cnt (uP n Q n) n ∧ X = outF n Q))
theorem prg_cl {n : Nat} {P Q : Nat → PV} (hok : ∀ k, k < n → fnOk n P k) (hQ : ∀ k, k < n → uP n Q (n - 1 - k) k = true → ∃ (c : Cf) (K : Nat), FinI K (P k).cf c ∧ Q k = ((P k).lft c).cst) :
    ∀ c, c < n → uP n Q (n - 1 - c) c = true → (Q c).clOk c := fun k hk hu => by
  obtain ⟨c, K, _, hq⟩ := hQ k hk hu
  have hp := (good_of (hok k hk)).2.2.1
  rw [hq]
  refine cst_cl (fun j hj hz => ?_)
  have hz' : (P k).i0 (kpAt c.lf (P k).ni j) = 32 := hz
  show 0 ≤ (if jmp ((P k).i0 (kpAt c.lf (P k).ni j)) = true then _ else goals (P k).i0 (P k).i2 c (kpAt c.lf (P k).ni j)) ∧ (if jmp ((P k).i0 (kpAt c.lf (P k).ni j)) = true then _ else goals (P k).i0 (P k).i2 c (kpAt c.lf (P k).ni j)) < (k : Int)
  unfold goals
  rw [hz']
  simp only [show jmp 32 = false from rfl, Bool.false_eq_true, if_false]
  exact hp _ (kpAt_mem (s := c.lf) (m := (P k).ni) hj).2 hz'
theorem doc_prg {n : Nat} {P : Nat → PV} {a b c a' b' c' : Int} {N N' : Nat} {X X' : Nat → PV} (h : DocM n P a b c N X) (h' : PrgM n P a' b' c' N' X') : (a = a' ∧ b = b' ∧ c = c') ∧ N = N' ∧ ∀ k, k < N → (X' k).same (X k) := by
  obtain ⟨hv, h⟩ := h
  obtain ⟨hv', h'⟩ := h'
  obtain ⟨rfl, rfl, rfl⟩ := hv.unique hv'
  refine ⟨⟨rfl, rfl, rfl⟩, ?_⟩
  rcases h with ⟨h0, rfl⟩ | ⟨h0, F, hF, rfl, rfl⟩ <;> rcases h' with ⟨k0, rfl⟩ | ⟨k0, Q, hQ, rfl, rfl⟩
  · exact ⟨rfl, fun k hk => absurd hk (Nat.not_lt_zero _)⟩
  · exact absurd k0 h0
  · exact absurd h0 k0
  · subst h0
    have hok := (verR_ok hv).2.2
    have hcl := prg_cl hok hQ
    have hs : ∀ c, c < n → uP n Q (n - 1 - c) c = true → (Q c).same ((F c).cst) := fun k hk hu => by
      obtain ⟨c, K, hf, hq⟩ := hQ k hk hu
      rw [hq]
      exact cst_same (lft_same (good_of (hok k hk)).1 hf (hF k hk))
    have hU : uP n Q n = uP n (fun k => (F k).cst) n := uP_eq hs (Nat.le_refl n)
    refine ⟨by rw [hU], fun j hj => ?_⟩
    unfold outF
    rw [← hU] at hj ⊢
    obtain ⟨hu, hk⟩ := kpAt_mem hj
    rw [uP_stay hcl hk (by omega) (Nat.le_refl n)] at hu
    exact ren_same _ (hs _ hk hu)
theorem OptR.m {n : Nat} {P : Nat → PV} {w w' : World} {e : Ending} (h : OptR n P w e w') : ∃ (a b c : Int) (v : Value) (N : Nat) (X : Nat → PV), e = .returned (.tuple #[.agg #[v], verV a b c]) ∧ DocM n P a b c N X ∧ ProsA w' v N X ∧ Below w.heap.size w w' := by
  obtain ⟨a, b, c, v, he, hv, hb, ⟨ha, rfl⟩ | ⟨ha, F, hF, hp⟩⟩ := h
  · exact ⟨a, b, c, _, 0, fun _ => pv0, he, ⟨hv, .inl ⟨ha, rfl⟩⟩, .inl ⟨rfl, none, 0, rfl⟩, hb⟩
  · exact ⟨a, b, c, v, _, _, he, ⟨hv, .inr ⟨ha, F, hF, rfl, rfl⟩⟩, hp, hb⟩
theorem OptP.m {n : Nat} {P : Nat → PV} {w w' : World} {e : Ending} (h : OptP n P w e w') : ∃ (a b c : Int) (v : Value) (N : Nat) (X : Nat → PV) (V4 V5 V6 V7 : Nat → Value), e = .returned (.tuple #[.agg #[v], verV a b c]) ∧ PrgM n P a b c N X ∧ ChW w' w.heap.size v N X V4 V5 V6 V7 ∧ Below w.heap.size w w' := by
  obtain ⟨a, b, c, v, he, hv, hb, ⟨ha, rfl⟩ | ⟨ha, Q, V4, V5, V6, V7, hQ, hp⟩⟩ := h
  · exact ⟨a, b, c, _, 0, fun _ => pv0, fun _ => nilS, fun _ => nilS, fun _ => nilS, fun _ => nilS, he, ⟨hv, .inl ⟨ha, rfl⟩⟩, ChW.nil _ _ _ _ _ _ _, hb⟩
  · exact ⟨a, b, c, v, _, _, V4, V5, V6, V7, he, ⟨hv, .inr ⟨ha, Q, hQ, rfl, rfl⟩⟩, hp, hb⟩
theorem wt_kp (Y : Nat → FW) (P : Nat → PV) (s : Nat → Bool) : ∀ n, (∀ j, j < cnt s n → (Y j).wt ≤ (P (kpAt s n j)).weight) → wtY Y (cnt s n) ≤ wts P n
  | 0, _ => Nat.le_refl _
  | n + 1, h => by
    have hat : ∀ j, j < cnt s n → kpAt s (n + 1) j = kpAt s n j := fun j hj => by
      unfold kpAt
      rw [kp_1, List.getD_eq_getElem?_getD, List.getElem?_append_left (by exact hj), ← List.getD_eq_getElem?_getD]
    have ih := wt_kp Y P s n (fun j hj => by
      have := h j (by rw [cnt_1]; omega)
      rw [hat j hj] at this
      exact this)
    rw [wts_1]
    cases hs : s n with
    | false =>
      rw [cnt_1, hs]
      simp only [Bool.false_eq_true, if_false, Nat.add_zero]
      omega
    | true =>
      have e : cnt s (n + 1) = cnt s n + 1 := by rw [cnt_1, hs]; rfl
      have h1 := h (cnt s n) (by omega)
      rw [kpAt_cnt hs (by omega)] at h1
      rw [e, wtY_1]
      omega
theorem PrgM.small {n : Nat} {P : Nat → PV} {a b c : Int} {N : Nat} {X : Nat → PV} (h : PrgM n P a b c N X) (hf : allFit n P 1048576) (hn : n ≤ 1048576) (hw : wts P n ≤ 1048576) (V4 V5 V6 V7 : Nat → Value) :
    N ≤ 1048576 ∧ allFit N X 1048576 ∧ wtY (fwY X V4 V5 V6 V7) N ≤ 1048576 ∧ ∀ j, j < N → (X j).nl = (X j).ni := by
  obtain ⟨hv, ⟨h0, rfl⟩ | ⟨h0, Q, hQ, rfl, rfl⟩⟩ := h
  · exact ⟨by omega, fun k hk => absurd hk (Nat.not_lt_zero _), by unfold wtY; omega, fun k hk => absurd hk (Nat.not_lt_zero _)⟩
  · subst h0
    have hok := (verR_ok hv).2.2
    have hcl := prg_cl hok hQ
    have at_ : ∀ j, j < cnt (uP n Q n) n → ∃ c : Cf, outF n Q j = (((P (kpAt (uP n Q n) n j)).lft c).cst).ren (uP n Q n) ∧ kpAt (uP n Q n) n j < n := fun j hj => by
      obtain ⟨hu, hk⟩ := kpAt_mem hj
      rw [uP_stay hcl hk (by omega) (Nat.le_refl n)] at hu
      obtain ⟨c, K, _, hq⟩ := hQ _ hk hu
      exact ⟨c, by unfold outF; rw [hq], hk⟩
    have hcn : cnt (uP n Q n) n ≤ n := cnt_le _ _
    refine ⟨by omega, fun j hj => ?_, Nat.le_trans (wt_kp _ P _ n (fun j hj => ?_)) hw, fun j hj => ?_⟩
    · obtain ⟨c, he, hk⟩ := at_ j hj
      obtain ⟨f1, f2, f3, f4, f5⟩ := hf _ hk
      rw [he]
      refine ⟨f1, Nat.le_trans (cnt_le _ _) f2, Nat.le_trans (cnt_le _ _) f3, Nat.le_trans (cnt_le _ _) f3, fun i hi => ?_⟩
      exact f5 _ (kpAt_mem (s := usd ((P (kpAt (uP n Q n) n j)).lft c) ((P (kpAt (uP n Q n) n j)).lft c).ni) (m := (P (kpAt (uP n Q n) n j)).nc) hi).2
    · obtain ⟨c, he, hk⟩ := at_ j hj
      have hg := (good_of (hok _ hk)).1.nl
      show (outF n Q j).nu + (outF n Q j).nc + (outF n Q j).ni + (outF n Q j).ni ≤ _
      rw [he]
      generalize P (kpAt (uP n Q n) n j) = p at hg ⊢
      have h1 : ((p.lft c).cst.ren (uP n Q n)).nu = p.nu := rfl
      have h2 : ((p.lft c).cst.ren (uP n Q n)).nc ≤ p.nc := cnt_le _ _
      have h3 : ((p.lft c).cst.ren (uP n Q n)).ni ≤ p.ni := cnt_le _ _
      unfold PV.weight
      omega
    · obtain ⟨c, he, hk⟩ := at_ j hj
      rw [he]
      rfl
set_option maxHeartbeats 6400000 in
set_option maxRecDepth 100000 in
theorem optLaw_any (a : Option Addr) (n cap : Nat) (P : Nat → PV) (w : World) (hn : n ≤ 9223372036854775807) (hs : ∀ k, k < n → (P k).sane) (hbit : allBits n P) (h : ProsA w (.slice a n cap) n P) :
    Calls Tryz.prog 3 #[.agg #[.slice a n cap]] w fun e w' => e = .returned (.bool true) ∧ Below w.heap.size w w' := by
  have HS := hide hs
  have HBit := hide hbit
  have HA := hide h
  clear hs hbit h
  have HR := hide (RowF.mk' w 24 #[.slice a n cap])
  have HB := hide (b_1 w (.cells #[.slice a n cap] 24))
  go_enter Tryz.func3, Tryz.ntmps3
  go_wp2_with fail
  generalize w.alloc (.cells #[.slice a n cap] 24) = w1 at HR HB ⊢
  refine (szChunk_any _ n P 1048576 w1 (by omega) (by omega) hn HS.out (HA.out.low HB.out (Nat.le_refl _))).mono ?_
  rintro e w2 ⟨r, rfl, hr, hb2⟩
  have HR := hide (HR.out.low hb2 HR.out.lt)
  have HB := hide (HB.out.trans (hb2.mono HB.out.size))
  clear hb2
  rcases hr with rfl | ⟨h2, h3, h4, h5, h6⟩
  · go_wp2_with fail
    go_ret
    exact ⟨rfl, HB.out⟩
  have hr0 : ¬ (r < 0) := by omega
  have HF := hide (allFit_of h5 (by omega))
  have hn2 : n ≤ 1048576 := by omega
  have HW := hide (show wts P n ≤ 1048576 by omega)
  clear h5 h3 h4 h6
  have y : w2.cell? ⟨w.heap.size, 0, none⟩ = some (.slice a n cap) := HR.out.cell (j := 0) (by simp)
  go_wp2_with fail
  clear y
  refine (toChunk_any _ n P w2 hn2 HF.out (HA.out.low HB.out (Nat.le_refl _))).mono ?_
  rintro e w3 ⟨G3, rfl, hg, hoG3, hb⟩
  have HR := hide (HR.out.low hb HR.out.lt)
  have HB := hide (HB.out.trans (hb.mono HB.out.size))
  have HO3 := hide hoG3
  clear hb hoG3 hg
  go_wp2_with fail
  refine ((soptimize_any _ n P w3 hn2 HF.out HBit.out HO3.out.by).mono fun _ _ h => h.m).mono ?_
  rintro e w4 ⟨va, vb, vc, vS, N, X, rfl, hD, hpS, hb⟩
  obtain ⟨aS, kS, rfl⟩ := hpS.val
  unfold verV
  have HR := hide (HR.out.low hb HR.out.lt)
  have HB := hide (HB.out.trans (hb.mono HB.out.size))
  have HD := hide hD
  have HPS := hide hpS
  have hA5 := b_2 w4 (.cells #[.slice aS N kS] 28) (.cells #[.int .i64 va, .int .i64 vb, .int .i64 vc] 30)
  have hx0 := RowF.mk' w4 28 #[.slice aS N kS]
  have HXA := hide (hx0.low (b_1 _ (.cells #[.int .i64 va, .int .i64 vb, .int .i64 vc] 30)) hx0.lt)
  have HXV := hide (RowF.mk' (w4.alloc (.cells #[.slice aS N kS] 28)) 30 #[.int .i64 va, .int .i64 vb, .int .i64 vc])
  rw [show (w4.alloc (.cells #[.slice aS N kS] 28)).heap.size = w4.heap.size + 1 by simp] at HXV
  have HR5 := hide (HR.out.low hA5 HR.out.lt)
  have HB4 := hide hA5
  have hRl := HR.out.lt
  clear hb hD hpS HO3 hA5 hx0
  have y : ((w4.alloc (.cells #[.slice aS N kS] 28)).alloc (.cells #[.int .i64 va, .int .i64 vb, .int .i64 vc] 30)).cell? ⟨w.heap.size, 0, none⟩ = some (.slice a n cap) := HR5.out.cell (j := 0) (by simp)
  go_wp2_with fail
  clear y HR5
  obtain ⟨gA, hgA⟩ : ∃ gA, w4.heap.size = gA := ⟨_, rfl⟩
  rw [hgA] at HXA HXV HB4 hRl ⊢
  have HgA := hide hgA
  clear hgA
  generalize (w4.alloc (.cells #[.slice aS N kS] 28)).alloc (.cells #[.int .i64 va, .int .i64 vb, .int .i64 vc] 30) = w5 at *
  have HBw : Hid (∀ w' : World, Below gA w4 w' → Below w.heap.size w w') := hide (fun w' h => HB.out.trans (h.mono (by have := HB.out.size; have := HgA.out; omega)))
  have HAV : gA + 1 < w5.heap.size := HXV.out.lt
  have HAV := hide HAV
  refine (toChunk_any _ n P w5 hn2 HF.out (HA.out.low (HBw.out _ HB4.out) (Nat.le_refl _))).mono ?_
  rintro e w6 ⟨G6, rfl, hg6, ho6, hb⟩
  have HB4s : gA ≤ w5.heap.size := Nat.le_of_lt HXA.out.lt
  have HB4 := hide (HB4.out.trans (hb.mono HB4s))
  have HXA := hide (HXA.out.low hb HXA.out.lt)
  have HXV := hide (HXV.out.low hb HXV.out.lt)
  clear HB4s
  have HO6 := hide (ho6.b.low (b_1 w6 (.cells #[sl G6 n] 28)) (Nat.le_refl _))
  have HX6 := hide (RowF.mk' w6 28 #[sl G6 n])
  have HN6 := hide (show gA + 1 < G6 from by have := HAV.out; omega)
  have hb := b_1 w6 (.cells #[sl G6 n] 28)
  clear ho6 hg6
  have HB4s : gA ≤ w6.heap.size := Nat.le_of_lt HXA.out.lt
  have HB4 := hide (HB4.out.trans (hb.mono HB4s))
  have HXA := hide (HXA.out.low hb HXA.out.lt)
  have HXV := hide (HXV.out.low hb HXV.out.lt)
  clear HB4s
  clear hb
  have x6 : (w6.alloc (.cells #[sl G6 n] 28)).cell? ⟨w6.heap.size, 0, none⟩ = some (sl G6 n) := HX6.out.cell (j := 0) (by simp)
  unfold sl at x6 HXA HXV HX6 HO6 HB4
  unfold sl
  go_wp2_with fail
  clear x6
  generalize w6.heap.size = C6 at *
  generalize w6.alloc (.cells #[.slice (some ⟨G6, 0, none⟩) n n] 28) = w7 at *
  refine ((optimize_any _ n P w7 hn2 HF.out HBit.out HO6.out.by).mono fun _ _ h => h.m).mono ?_
  rintro e w8 ⟨ua, ub, uc, vI, N', X', V4, V5, V6, V7, rfl, hM, hC, hb⟩
  obtain ⟨⟨rfl, rfl, rfl⟩, rfl, hsm⟩ := doc_prg HD.out hM
  have HPX := hide (HPS.out.same (fun k hk => (hsm k hk).symm'))
  obtain ⟨hN1, hN2, hN3, hN4⟩ := hM.small HF.out hn2 HW.out V4 V5 V6 V7
  have HFX := hide hN2
  have HWX := hide hN3
  have HNL := hide hN4
  have HCS := hide (show ∀ b, ChS vI N V4 V5 V6 V7 b → w7.heap.size ≤ b ∧ b < w8.heap.size from fun b h => hC.in h)
  obtain ⟨aI, kI, rfl⟩ := hC.form
  have HC := hide hC
  have HS7 := hide (show C6 < w7.heap.size from HX6.out.lt)
  have HS8 := hide (show w7.heap.size ≤ w8.heap.size from hb.size)
  have HC6A := hide (show gA + 1 < w7.heap.size from HXV.out.lt)
  clear hM hC hsm hN2 hN3 hN4
  unfold verV
  have HB4s : gA ≤ w7.heap.size := Nat.le_of_lt HXA.out.lt
  have HB4 := hide (HB4.out.trans (hb.mono HB4s))
  have HXA := hide (HXA.out.low hb HXA.out.lt)
  have HXV := hide (HXV.out.low hb HXV.out.lt)
  have HX6 := hide (HX6.out.low hb HX6.out.lt)
  have HO6 := hide (HO6.out.low hb (Nat.le_refl _))
  clear HB4s
  clear hb
  have hb := b_2 w8 (.cells #[.slice aI N kI] 28) (.cells #[.int .i64 va, .int .i64 vb, .int .i64 vc] 30)
  have hx0 := RowF.mk' w8 28 #[.slice aI N kI]
  have HXI := hide (hx0.low (b_1 _ (.cells #[.int .i64 va, .int .i64 vb, .int .i64 vc] 30)) hx0.lt)
  have HXW := hide (RowF.mk' (w8.alloc (.cells #[.slice aI N kI] 28)) 30 #[.int .i64 va, .int .i64 vb, .int .i64 vc])
  rw [show (w8.alloc (.cells #[.slice aI N kI] 28)).heap.size = w8.heap.size + 1 by simp] at HXW
  clear hx0
  have HB4s : gA ≤ w8.heap.size := Nat.le_of_lt HXA.out.lt
  have HB4 := hide (HB4.out.trans (hb.mono HB4s))
  have HXA := hide (HXA.out.low hb HXA.out.lt)
  have HXV := hide (HXV.out.low hb HXV.out.lt)
  have HX6 := hide (HX6.out.low hb HX6.out.lt)
  have HO6 := hide (HO6.out.low hb (Nat.le_refl _))
  have HC := hide (HC.out.low hb (Nat.le_refl _))
  clear HB4s
  clear hb
  have xA : ((w8.alloc (.cells #[.slice aI N kI] 28)).alloc (.cells #[.int .i64 va, .int .i64 vb, .int .i64 vc] 30)).cell? ⟨gA, 0, none⟩ = some (.slice aS N kS) := HXA.out.cell (j := 0) (by simp)
  have xI : ((w8.alloc (.cells #[.slice aI N kI] 28)).alloc (.cells #[.int .i64 va, .int .i64 vb, .int .i64 vc] 30)).cell? ⟨w8.heap.size, 0, none⟩ = some (.slice aI N kI) := HXI.out.cell (j := 0) (by simp)
  go_wp2_with fail
  clear xA xI
  generalize w8.heap.size = g8 at *
  generalize (w8.alloc (.cells #[.slice aI N kI] 28)).alloc (.cells #[.int .i64 va, .int .i64 vb, .int .i64 vc] 30) = w9 at *
  have HG8 := hide (show g8 + 1 < w9.heap.size from HXW.out.lt)
  refine (eqChunk_any _ _ N X' w9 hN1 HFX.out HC.out.pros (HPX.out.low HB4.out (Nat.le_of_eq HgA.out))).mono ?_
  rintro e wA ⟨rfl, hb⟩
  have HB4s : gA ≤ w9.heap.size := Nat.le_of_lt HXA.out.lt
  have HB4 := hide (HB4.out.trans (hb.mono HB4s))
  have HXA := hide (HXA.out.low hb HXA.out.lt)
  have HXV := hide (HXV.out.low hb HXV.out.lt)
  have HX6 := hide (HX6.out.low hb HX6.out.lt)
  have HO6 := hide (HO6.out.low hb (Nat.le_refl _))
  have HC := hide (HC.out.low hb (Nat.le_refl _))
  have HXI := hide (HXI.out.low hb HXI.out.lt)
  have HXW := hide (HXW.out.low hb HXW.out.lt)
  clear HB4s
  clear hb
  have xV0 : wA.cell? ⟨gA + 1, 0, none⟩ = some (.int .i64 va) := HXV.out.cell (j := 0) (by simp)
  have xV1 : wA.cell? ⟨gA + 1, 1, none⟩ = some (.int .i64 vb) := HXV.out.cell (j := 1) (by simp)
  have xV2 : wA.cell? ⟨gA + 1, 2, none⟩ = some (.int .i64 vc) := HXV.out.cell (j := 2) (by simp)
  have xW0 : wA.cell? ⟨g8 + 1, 0, none⟩ = some (.int .i64 va) := HXW.out.cell (j := 0) (by simp)
  have xW1 : wA.cell? ⟨g8 + 1, 1, none⟩ = some (.int .i64 vb) := HXW.out.cell (j := 1) (by simp)
  have xW2 : wA.cell? ⟨g8 + 1, 2, none⟩ = some (.int .i64 vc) := HXW.out.cell (j := 2) (by simp)
  go_wp2_with fail
  clear xV0 xV1 xV2 xW0 xW1 xW2
  refine (eqVerdict_any va vb vc wA).mono ?_
  rintro e wB ⟨rfl, hb⟩
  have HB4s : gA ≤ wA.heap.size := Nat.le_of_lt HXA.out.lt
  have HB4 := hide (HB4.out.trans (hb.mono HB4s))
  have HXA := hide (HXA.out.low hb HXA.out.lt)
  have HXV := hide (HXV.out.low hb HXV.out.lt)
  have HX6 := hide (HX6.out.low hb HX6.out.lt)
  have HO6 := hide (HO6.out.low hb (Nat.le_refl _))
  have HC := hide (HC.out.low hb (Nat.le_refl _))
  have HXI := hide (HXI.out.low hb HXI.out.lt)
  have HXW := hide (HXW.out.low hb HXW.out.lt)
  clear HB4s
  clear hb
  have y : wB.cell? ⟨w.heap.size, 0, none⟩ = some (.slice a n cap) := (HR.out.low HB4.out hRl).cell (j := 0) (by simp)
  have x6 : wB.cell? ⟨C6, 0, none⟩ = some (.slice (some ⟨G6, 0, none⟩) n n) := HX6.out.cell (j := 0) (by simp)
  go_wp2_with fail
  have hl1 : w.heap.size < wB.heap.size := Nat.lt_of_lt_of_le hRl (Nat.le_of_lt HXA.out.lt)
  have hl2 : C6 < wB.heap.size := HX6.out.lt
  go_region_held3 (fun w9 => w9.cell? ⟨w.heap.size, 0, none⟩ = some (.slice a n cap) ∧ w9.cell? ⟨C6, 0, none⟩ = some (.slice (some ⟨G6, 0, none⟩) n n)) (go_keep)
    (first
      | (go_at_call 6
         refine (toChunk_any _ n P _ hn2 HF.out (HA.out.low (HBw.out _ HB4.out).drew (Nat.le_refl _))).mono ?_
         rintro e wC ⟨GC, rfl, hg, hoC, hb⟩
         have q0 := (hb.cell (p := ⟨w.heap.size, 0, none⟩) hl1).trans y
         have q1 := (hb.cell (p := ⟨C6, 0, none⟩) hl2).trans x6
         have HXS := hide (show Below wB.heap.size wB wC from (Below.refl wB.heap.size wB).drew.trans hb)
         have HO7 := hide (HO6.out.low HXS.out (Nat.le_refl _))
         have HOC := hide hoC
         have hm1 : w.heap.size < wC.heap.size := Nat.lt_of_lt_of_le hl1 hb.size
         have hm2 : C6 < wC.heap.size := Nat.lt_of_lt_of_le hl2 hb.size
         clear hb hoC hg
         unfold sl)
      | (go_at_call 8
         refine (eqChunk_any _ _ n P _ hn2 HF.out HO7.out.by HOC.out.by).mono ?_
         rintro e wD ⟨rfl, hb⟩
         have r0 := (hb.cell (p := ⟨w.heap.size, 0, none⟩) hm1).trans q0
         have r1 := (hb.cell (p := ⟨C6, 0, none⟩) hm2).trans q1
         have HXT := hide (HXS.out.trans (hb.mono HXS.out.size))
         clear hb))
  have hb := HXT.out
  have HB4s : gA ≤ wB.heap.size := Nat.le_of_lt HXA.out.lt
  have HB4 := hide (HB4.out.trans (hb.mono HB4s))
  have HXA := hide (HXA.out.low hb HXA.out.lt)
  have HXV := hide (HXV.out.low hb HXV.out.lt)
  have HX6 := hide (HX6.out.low hb HX6.out.lt)
  have HO6 := hide (HO6.out.low hb (Nat.le_refl _))
  have HC := hide (HC.out.low hb (Nat.le_refl _))
  have HXI := hide (HXI.out.low hb HXI.out.lt)
  have HXW := hide (HXW.out.low hb HXW.out.lt)
  clear HB4s
  clear hb q0 q1 r0 r1 hm1 hm2 hl1 hl2 HXS HXT HO7 HOC y x6
  have x6 : wD.cell? ⟨C6, 0, none⟩ = some (.slice (some ⟨G6, 0, none⟩) n n) := HX6.out.cell (j := 0) (by simp)
  go_wp2_with fail
  refine (markChunk_e G6 n C6 P 1 wD hn2 HW.out (by omega) (by omega) HO6.out).mono ?_
  rintro e wE ⟨k9, rfl, hk0, hk⟩
  clear x6
  have hN6 := HN6.out
  have HKb := hide (hk.below (B := gA) (Nat.le_of_lt HXA.out.lt) (fun b hb => by omega))
  have hS7 := HS7.out
  have hS8 := HS8.out
  have hG8 := HG8.out
  have HXA := hide (HXA.out.keep hk (by omega))
  have HXV := hide (HXV.out.keep hk (by omega))
  have HXI := hide (HXI.out.keep hk (by omega))
  have HXW := hide (HXW.out.keep hk (by omega))
  have HC := hide (HC.out.keepS hk (fun b hb h => by have := HCS.out b hb; omega))
  have HB4 := hide (HB4.out.trans HKb.out)
  have hk9 : ¬ (k9 < 0) := by omega
  clear hk hk0 HKb hN6 HX6 HO6
  have xA : wE.cell? ⟨gA, 0, none⟩ = some (.slice aS N kS) := HXA.out.cell (j := 0) (by simp)
  have xI : wE.cell? ⟨g8, 0, none⟩ = some (.slice aI N kI) := HXI.out.cell (j := 0) (by simp)
  go_wp2_with fail
  clear xA xI
  refine (eqChunk_any _ _ N X' wE hN1 HFX.out HC.out.pros (HPX.out.low HB4.out (Nat.le_of_eq HgA.out))).mono ?_
  rintro e wF ⟨rfl, hb⟩
  have HB4s : gA ≤ wE.heap.size := Nat.le_of_lt HXA.out.lt
  have HB4 := hide (HB4.out.trans (hb.mono HB4s))
  have HXA := hide (HXA.out.low hb HXA.out.lt)
  have HXV := hide (HXV.out.low hb HXV.out.lt)
  have HC := hide (HC.out.low hb (Nat.le_refl _))
  have HXI := hide (HXI.out.low hb HXI.out.lt)
  have HXW := hide (HXW.out.low hb HXW.out.lt)
  clear HB4s
  clear hb
  have xV0 : wF.cell? ⟨gA + 1, 0, none⟩ = some (.int .i64 va) := HXV.out.cell (j := 0) (by simp)
  have xV1 : wF.cell? ⟨gA + 1, 1, none⟩ = some (.int .i64 vb) := HXV.out.cell (j := 1) (by simp)
  have xV2 : wF.cell? ⟨gA + 1, 2, none⟩ = some (.int .i64 vc) := HXV.out.cell (j := 2) (by simp)
  have xW0 : wF.cell? ⟨g8 + 1, 0, none⟩ = some (.int .i64 va) := HXW.out.cell (j := 0) (by simp)
  have xW1 : wF.cell? ⟨g8 + 1, 1, none⟩ = some (.int .i64 vb) := HXW.out.cell (j := 1) (by simp)
  have xW2 : wF.cell? ⟨g8 + 1, 2, none⟩ = some (.int .i64 vc) := HXW.out.cell (j := 2) (by simp)
  go_wp2_with fail
  clear xV0 xV1 xV2 xW0 xW1 xW2
  refine (eqVerdict_any va vb vc wF).mono ?_
  rintro e wG ⟨rfl, hb⟩
  have HB4s : gA ≤ wF.heap.size := Nat.le_of_lt HXA.out.lt
  have HB4 := hide (HB4.out.trans (hb.mono HB4s))
  have HXA := hide (HXA.out.low hb HXA.out.lt)
  have HXV := hide (HXV.out.low hb HXV.out.lt)
  have HC := hide (HC.out.low hb (Nat.le_refl _))
  have HXI := hide (HXI.out.low hb HXI.out.lt)
  have HXW := hide (HXW.out.low hb HXW.out.lt)
  clear HB4s
  clear hb
  have xI : wG.cell? ⟨g8, 0, none⟩ = some (.slice aI N kI) := HXI.out.cell (j := 0) (by simp)
  go_wp2_with fail
  refine (markChunk_w w7.heap.size N _ X' V4 V5 V6 V7 wG hN1 HWX.out HNL.out HC.out).mono ?_
  rintro e wH ⟨rfl, hm, hk⟩
  have hx7 := HC6A.out
  have HB4 := hide (HB4.out.trans (hk.below (B := gA) (Nat.le_of_lt HXA.out.lt) (fun b hb => by have := HCS.out b hb; omega)))
  have HXA := hide (HXA.out.keep hk (fun h => by have := HCS.out _ h; omega))
  have HXV := hide (HXV.out.keep hk (fun h => by have := HCS.out _ h; omega))
  have HXI := hide (HXI.out.keep hk (fun h => by have := HCS.out _ h; omega))
  have HXW := hide (HXW.out.keep hk (fun h => by have := HCS.out _ h; omega))
  have HM := hide hm
  clear hm hk HC xI hx7
  have xI : wH.cell? ⟨g8, 0, none⟩ = some (.slice aI N kI) := HXI.out.cell (j := 0) (by simp)
  go_wp2_with fail
  refine (heldChunk_w _ N _ wH hN1 HWX.out HM.out).mono ?_
  rintro e wI ⟨rfl, hb⟩
  have HB4s : gA ≤ wH.heap.size := Nat.le_of_lt HXA.out.lt
  have HB4 := hide (HB4.out.trans (hb.mono HB4s))
  have HXA := hide (HXA.out.low hb HXA.out.lt)
  have HXV := hide (HXV.out.low hb HXV.out.lt)
  have HXI := hide (HXI.out.low hb HXI.out.lt)
  have HM := hide (HM.out.low hb (Nat.le_refl _))
  clear HB4s
  clear hb xI
  have hK : ¬ ((kF (fwY X' V4 V5 V6 V7) 1 N : Int) < 0) := by omega
  have y : wI.cell? ⟨w.heap.size, 0, none⟩ = some (.slice a n cap) := (HR.out.low HB4.out hRl).cell (j := 0) (by simp)
  go_wp2_with fail
  clear y
  refine (toChunk_any _ n P wI hn2 HF.out (HA.out.low (HBw.out _ HB4.out) (Nat.le_refl _))).mono ?_
  rintro e wJ ⟨GJ, rfl, hgJ, hoJ, hb⟩
  have HB4s : gA ≤ wI.heap.size := Nat.le_of_lt HXA.out.lt
  have HB4 := hide (HB4.out.trans (hb.mono HB4s))
  have HXA := hide (HXA.out.low hb HXA.out.lt)
  have HXV := hide (HXV.out.low hb HXV.out.lt)
  have HXI := hide (HXI.out.low hb HXI.out.lt)
  have HM := hide (HM.out.low hb (Nat.le_refl _))
  clear HB4s
  have HOJ := hide hoJ
  clear hb hgJ hoJ
  go_wp2_with fail
  refine ((optimize_any _ n P wJ hn2 HF.out HBit.out HOJ.out.by).mono fun _ _ h => h.m).mono ?_
  rintro e wK ⟨ta, tb, tc, vJ, N2, X2, U4, U5, U6, U7, rfl, hM, hC, hb⟩
  obtain ⟨⟨rfl, rfl, rfl⟩, rfl, hsm⟩ := doc_prg HD.out hM
  have HPY := hide (HPS.out.same (fun k hk => (hsm k hk).symm'))
  have HFY := hide (hM.small HF.out hn2 HW.out U4 U5 U6 U7).2.1
  obtain ⟨aJ, kJ, rfl⟩ := hC.form
  have HC := hide hC
  clear hM hC hsm HOJ
  unfold verV
  have HB4s : gA ≤ wJ.heap.size := Nat.le_of_lt HXA.out.lt
  have HB4 := hide (HB4.out.trans (hb.mono HB4s))
  have HXA := hide (HXA.out.low hb HXA.out.lt)
  have HXV := hide (HXV.out.low hb HXV.out.lt)
  have HXI := hide (HXI.out.low hb HXI.out.lt)
  have HM := hide (HM.out.low hb (Nat.le_refl _))
  clear HB4s
  clear hb
  have hb := b_2 wK (.cells #[.slice aJ N kJ] 28) (.cells #[.int .i64 va, .int .i64 vb, .int .i64 vc] 30)
  have hx0 := RowF.mk' wK 28 #[.slice aJ N kJ]
  have HXJ := hide (hx0.low (b_1 _ (.cells #[.int .i64 va, .int .i64 vb, .int .i64 vc] 30)) hx0.lt)
  have HXU := hide (RowF.mk' (wK.alloc (.cells #[.slice aJ N kJ] 28)) 30 #[.int .i64 va, .int .i64 vb, .int .i64 vc])
  rw [show (wK.alloc (.cells #[.slice aJ N kJ] 28)).heap.size = wK.heap.size + 1 by simp] at HXU
  clear hx0
  have HB4s : gA ≤ wK.heap.size := Nat.le_of_lt HXA.out.lt
  have HB4 := hide (HB4.out.trans (hb.mono HB4s))
  have HXA := hide (HXA.out.low hb HXA.out.lt)
  have HXV := hide (HXV.out.low hb HXV.out.lt)
  have HXI := hide (HXI.out.low hb HXI.out.lt)
  have HM := hide (HM.out.low hb (Nat.le_refl _))
  have HC := hide (HC.out.low hb (Nat.le_refl _))
  clear HB4s
  clear hb
  have xA : ((wK.alloc (.cells #[.slice aJ N kJ] 28)).alloc (.cells #[.int .i64 va, .int .i64 vb, .int .i64 vc] 30)).cell? ⟨gA, 0, none⟩ = some (.slice aS N kS) := HXA.out.cell (j := 0) (by simp)
  have xJ : ((wK.alloc (.cells #[.slice aJ N kJ] 28)).alloc (.cells #[.int .i64 va, .int .i64 vb, .int .i64 vc] 30)).cell? ⟨wK.heap.size, 0, none⟩ = some (.slice aJ N kJ) := HXJ.out.cell (j := 0) (by simp)
  go_wp2_with fail
  clear xA xJ
  generalize wK.heap.size = gJ at *
  generalize (wK.alloc (.cells #[.slice aJ N kJ] 28)).alloc (.cells #[.int .i64 va, .int .i64 vb, .int .i64 vc] 30) = wL at *
  refine (eqChunk_any _ _ N X2 wL hN1 HFY.out HC.out.pros (HPY.out.low HB4.out (Nat.le_of_eq HgA.out))).mono ?_
  rintro e wM ⟨rfl, hb⟩
  have HB4s : gA ≤ wL.heap.size := Nat.le_of_lt HXA.out.lt
  have HB4 := hide (HB4.out.trans (hb.mono HB4s))
  have HXA := hide (HXA.out.low hb HXA.out.lt)
  have HXV := hide (HXV.out.low hb HXV.out.lt)
  have HXI := hide (HXI.out.low hb HXI.out.lt)
  have HM := hide (HM.out.low hb (Nat.le_refl _))
  have HC := hide (HC.out.low hb (Nat.le_refl _))
  have HXJ := hide (HXJ.out.low hb HXJ.out.lt)
  have HXU := hide (HXU.out.low hb HXU.out.lt)
  clear HB4s
  clear hb
  have xV0 : wM.cell? ⟨gA + 1, 0, none⟩ = some (.int .i64 va) := HXV.out.cell (j := 0) (by simp)
  have xV1 : wM.cell? ⟨gA + 1, 1, none⟩ = some (.int .i64 vb) := HXV.out.cell (j := 1) (by simp)
  have xV2 : wM.cell? ⟨gA + 1, 2, none⟩ = some (.int .i64 vc) := HXV.out.cell (j := 2) (by simp)
  have xU0 : wM.cell? ⟨gJ + 1, 0, none⟩ = some (.int .i64 va) := HXU.out.cell (j := 0) (by simp)
  have xU1 : wM.cell? ⟨gJ + 1, 1, none⟩ = some (.int .i64 vb) := HXU.out.cell (j := 1) (by simp)
  have xU2 : wM.cell? ⟨gJ + 1, 2, none⟩ = some (.int .i64 vc) := HXU.out.cell (j := 2) (by simp)
  go_wp2_with fail
  clear xV0 xV1 xV2 xU0 xU1 xU2
  refine (eqVerdict_any va vb vc wM).mono ?_
  rintro e wN ⟨rfl, hb⟩
  have HB4s : gA ≤ wM.heap.size := Nat.le_of_lt HXA.out.lt
  have HB4 := hide (HB4.out.trans (hb.mono HB4s))
  have HXA := hide (HXA.out.low hb HXA.out.lt)
  have HXV := hide (HXV.out.low hb HXV.out.lt)
  have HXI := hide (HXI.out.low hb HXI.out.lt)
  have HM := hide (HM.out.low hb (Nat.le_refl _))
  have HC := hide (HC.out.low hb (Nat.le_refl _))
  have HXJ := hide (HXJ.out.low hb HXJ.out.lt)
  have HXU := hide (HXU.out.low hb HXU.out.lt)
  clear HB4s
  clear hb
  have xI : wN.cell? ⟨g8, 0, none⟩ = some (.slice aI N kI) := HXI.out.cell (j := 0) (by simp)
  go_wp2_with fail
  refine (heldChunk_w _ N _ wN hN1 HWX.out HM.out).mono ?_
  rintro e wO ⟨rfl, hb⟩
  have HB4s : gA ≤ wN.heap.size := Nat.le_of_lt HXA.out.lt
  have HB4 := hide (HB4.out.trans (hb.mono HB4s))
  have HXA := hide (HXA.out.low hb HXA.out.lt)
  have HXV := hide (HXV.out.low hb HXV.out.lt)
  have HXI := hide (HXI.out.low hb HXI.out.lt)
  have HM := hide (HM.out.low hb (Nat.le_refl _))
  have HC := hide (HC.out.low hb (Nat.le_refl _))
  have HXJ := hide (HXJ.out.low hb HXJ.out.lt)
  have HXU := hide (HXU.out.low hb HXU.out.lt)
  clear HB4s
  clear hb xI
  go_wp2_with fail
  go_ret
  exact ⟨rfl, HBw.out _ HB4.out⟩
end Go.Proofs.YtgnbhhgpaldheaaGreat
