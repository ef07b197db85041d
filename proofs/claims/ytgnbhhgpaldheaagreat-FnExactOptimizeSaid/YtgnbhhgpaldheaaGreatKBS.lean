import Derived.Test.YtgnbhhgpaldheaaGreatKEO6
import Derived.Test.YtgnbhhgpaldheaaGreatKD19
import Derived.Test.YtgnbhhgpaldheaaGreatKBQ
import Derived.Test.YtgnbhhgpaldheaaGreatKD4
import Derived.Test.YtgnbhhgpaldheaaGreatKV3
namespace Go.Proofs.YtgnbhhgpaldheaaGreat
open Go Go.RowKit
set_option linter.unusedVariables false
theorem cnt_rk (c : Cf) : ∀ m, cnt c.lf m = c.rk m
  | 0 => rfl
  | m + 1 => by
    rw [cnt_1, rk_on, cnt_rk c m]
theorem cnt_kpAt {s : Nat → Bool} : ∀ {m j : Nat}, j < cnt s m → cnt s (kpAt s m j) = j
  | 0, j, h => absurd h (Nat.not_lt_zero _)
  | m + 1, j, h => by
    by_cases e : j < cnt s m
    · have : kpAt s (m + 1) j = kpAt s m j := by
        unfold kpAt
        rw [kp_1, List.getD_eq_getElem?_getD, List.getElem?_append_left (by exact e), ← List.getD_eq_getElem?_getD]
      rw [this]
      exact cnt_kpAt e
    · rw [cnt_1] at h
      have hs : s m = true := by
        cases hq : s m with
        | true => rfl
        | false => rw [hq] at h; simp at h; omega
      have hj : j = cnt s m := by rw [hs] at h; simp at h; omega
      subst hj
      rw [kpAt_cnt hs (by omega)]
theorem cnt_mono (s : Nat → Bool) {a b : Nat} (h : a ≤ b) : cnt s a ≤ cnt s b := by
  induction h with
  | refl => exact Nat.le_refl _
  | step _ ih => rw [cnt_1]; omega
theorem kpAt_up {s : Nat → Bool} {m i j : Nat} (hij : i < j) (hj : j < cnt s m) : kpAt s m i < kpAt s m j := by
  rcases Nat.lt_or_ge (kpAt s m i) (kpAt s m j) with c | c
  · exact c
  · have h1 := cnt_kpAt (s := s) (m := m) (j := i) (by omega)
    have h2 := cnt_kpAt hj
    have := cnt_mono s c
    omega
theorem cmp_refl {p : PV} (h : p.Good) : Cmp p.cf p.cf := by
  have idn : ∀ m, p.cf.rk m = m := by
    intro m
    induction m with
    | zero => rfl
    | succ m ih => rw [rk_on, ih]; rfl
  refine ⟨(idn _).symm, fun k _ => rfl, fun k _ => by rw [idn], fun k _ => by rw [idn], fun k _ => by rw [idn], fun k _ _ => by rw [idn, idn], fun k hk => h.ok.m k hk⟩
theorem lft_same {p q : PV} {K : Nat} {c : Cf} (hg : p.Good) (hf : FinI K p.cf c) (hd : FinD p q) : (p.lft c).same q := by
  obtain ⟨⟨M, fs⟩, hh, hgq⟩ := hd
  obtain ⟨e1, e2, e3, e4, hsub, hok⟩ := hf.n
  have en : c.n = p.ni := e1
  obtain ⟨x, pay⟩ := fin_join K M p.cf p.cf p.pay (cmp_refl hg) hg.ok (fun k _ => by
    have idn : ∀ m, p.cf.rk m = m := by
      intro m
      induction m with
      | zero => rfl
      | succ m ih => rw [rk_on, ih]; rfl
    rw [idn]) hf fs
  obtain ⟨h1, h2, h3, h4, h5, h6, h7, h8, h9, h10, h11, h12⟩ := hh
  have hn : cnt c.lf p.ni = q.ni := by
    have := x.n
    rw [en, ← cnt_rk] at this
    exact this.symm
  have at_ : ∀ j, j < q.ni → c.L (kpAt c.lf p.ni j) ∧ c.rk (kpAt c.lf p.ni j) = j := fun j hj => by
    obtain ⟨a, b⟩ := kpAt_mem (s := c.lf) (m := p.ni) (j := j) (by rw [hn]; exact hj)
    have hL : c.L (kpAt c.lf p.ni j) := ⟨by rw [en]; exact b, a⟩
    refine ⟨hL, ?_⟩
    rw [← cnt_rk]
    exact cnt_kpAt (by rw [hn]; exact hj)
  refine ⟨⟨h1.symm, h2.symm, h3.symm, h4.symm⟩, ⟨h5.symm, h8.symm, hn, ?_⟩, fun k hk => ⟨by rw [h6]; rfl, by rw [h7]; rfl⟩, fun k hk => ⟨by rw [h9]; rfl, by rw [h10]; rfl, by rw [h11]; rfl, by rw [h12]; rfl⟩, fun k hk => ?_, fun k hk => ?_⟩
  · show cnt c.lf p.ni = q.nl
    rw [hgq.nl, hn]
  · have hk' : k < q.ni := by rw [← hn]; exact hk
    obtain ⟨hL, hr⟩ := at_ k hk'
    have hop := x.op _ hL
    rw [hr, e2] at hop
    have hop' : q.i0 k = p.i0 (kpAt c.lf p.ni k) := hop
    have hpay := pay _ hL
    rw [hr] at hpay
    unfold PV.pay at hpay
    simp only [Prod.mk.injEq] at hpay
    obtain ⟨y1, y2, y3, y4⟩ := hpay
    refine ⟨hop'.symm, y1.symm, ?_, y3.symm⟩
    show (if jmp (p.i0 (kpAt c.lf p.ni k)) = true then (cnt c.lf (goals p.i0 p.i2 c (kpAt c.lf p.ni k)).toNat : Int) else goals p.i0 p.i2 c (kpAt c.lf p.ni k)) = q.i2 k
    unfold goals
    cases hj : jmp (p.i0 (kpAt c.lf p.ni k)) with
    | false =>
      rw [hop', hj] at y2
      simpa using y2.symm
    | true =>
      have hb := x.b _ hL (by rw [e2]; exact hj)
      rw [hr, ← cnt_rk] at hb
      have hb' : (q.i2 k).toNat = cnt c.lf (c.b (kpAt c.lf p.ni k)) := hb
      have hp := hgq.pos k hk' (by rw [hop']; exact hj)
      simp only [if_true, Int.toNat_natCast]
      omega
  · have hk' : k < q.ni := by rw [← hn]; exact hk
    obtain ⟨hL, hr⟩ := at_ k hk'
    have hpay := pay _ hL
    rw [hr] at hpay
    unfold PV.pay at hpay
    simp only [Prod.mk.injEq] at hpay
    exact hpay.2.2.2.symm
theorem usd_same {p q : PV} (h : p.same q) : usd p p.ni = usd q q.ni := by
  funext x
  unfold usd
  rw [← h.n.2.2.1]
  have : ∀ j, j < p.ni → nmd p j = nmd q j := fun j hj => by
    obtain ⟨a, b, c, d⟩ := h.i j hj
    unfold nmd
    rw [a, c, d]
  have hb : ∀ l : List Nat, (∀ j, j ∈ l → j < p.ni) → l.any (fun j => nmd p j == some x) = l.any (fun j => nmd q j == some x) := by
    intro l
    induction l with
    | nil => intro _; rfl
    | cons y l ih =>
      intro hl
      rw [List.any_cons, List.any_cons, this y (hl y (by simp)), ih (fun j hj => hl j (by simp [hj]))]
  exact hb _ (fun j hj => List.mem_range.1 hj)
theorem cst_same {p q : PV} (h : p.same q) : p.cst.same q.cst := by
  have hu := usd_same h
  have hnc : p.nc = q.nc := h.n.2.1
  refine ⟨h.h0, ⟨h.n.1, ?_, h.n.2.2⟩, h.u, fun k hk => ?_, fun k hk => ?_, h.l⟩
  · show cnt (usd p p.ni) p.nc = cnt (usd q q.ni) q.nc
    rw [hu, hnc]
  · have hm := (kpAt_mem (s := usd p p.ni) (m := p.nc) (j := k) hk).2
    have := h.c _ hm
    show p.c0 (kpAt (usd p p.ni) p.nc k) = q.c0 (kpAt (usd q q.ni) q.nc k) ∧ p.c1 (kpAt (usd p p.ni) p.nc k) = q.c1 (kpAt (usd q q.ni) q.nc k) ∧ p.c2 (kpAt (usd p p.ni) p.nc k) = q.c2 (kpAt (usd q q.ni) q.nc k) ∧ p.c3 (kpAt (usd p p.ni) p.nc k) = q.c3 (kpAt (usd q q.ni) q.nc k)
    rw [← hu, ← hnc]
    exact this
  · obtain ⟨a, b, c, d⟩ := h.i k hk
    refine ⟨a, b, ?_, ?_⟩
    · show (if nmK (p.i0 k) = 1 then (cnt (usd p p.ni) (p.i2 k).toNat : Int) else p.i2 k) = if nmK (q.i0 k) = 1 then (cnt (usd q q.ni) (q.i2 k).toNat : Int) else q.i2 k
      rw [hu, a, c]
    · show (if nmK (p.i0 k) = 2 then (cnt (usd p p.ni) (p.i3 k).toNat : Int) else p.i3 k) = if nmK (q.i0 k) = 2 then (cnt (usd q q.ni) (q.i3 k).toNat : Int) else q.i3 k
      rw [hu, a, d]
theorem ren_same {p q : PV} (s : Nat → Bool) (h : p.same q) : (p.ren s).same (q.ren s) := by
  refine ⟨h.h0, h.n, h.u, h.c, fun k hk => ?_, h.l⟩
  obtain ⟨a, b, c, d⟩ := h.i k hk
  refine ⟨a, b, ?_, d⟩
  show (if p.i0 k = 32 then (cnt s (p.i2 k).toNat : Int) else p.i2 k) = if q.i0 k = 32 then (cnt s (q.i2 k).toNat : Int) else q.i2 k
  rw [a, c]
theorem clN_same {p q : PV} (h : p.same q) (x : Nat) : clN p p.ni x = clN q q.ni x := by
  unfold clN
  rw [← h.n.2.2.1]
  have hb : ∀ l : List Nat, (∀ j, j ∈ l → j < p.ni) → l.any (fun j => p.i0 j == 32 && (p.i2 j).toNat == x) = l.any (fun j => q.i0 j == 32 && (q.i2 j).toNat == x) := by
    intro l
    induction l with
    | nil => intro _; rfl
    | cons y l ih =>
      intro hl
      obtain ⟨a, b, c, d⟩ := h.i y (hl y (by simp))
      rw [List.any_cons, List.any_cons, a, c, ih (fun j hj => hl j (by simp [hj]))]
  exact hb _ (fun j hj => List.mem_range.1 hj)
theorem uP_mono {n : Nat} {Q : Nat → PV} {c t : Nat} (h : uP n Q t c = true) : ∀ {t' : Nat}, t ≤ t' → uP n Q t' c = true := by
  intro t' ht
  induction ht with
  | refl => exact h
  | step _ ih => show (uP n Q _ c || _) = true; rw [ih]; rfl
theorem uP_congr {n : Nat} {Q Q' : Nat → PV} : ∀ {t : Nat}, t ≤ n → (∀ c, n - t ≤ c → c < n → Q c = Q' c) → uP n Q t = uP n Q' t
  | 0, _, _ => rfl
  | t + 1, ht, h => by
    have ih := uP_congr (Q := Q) (Q' := Q') (t := t) (by omega) (fun c h1 h2 => h c (by omega) h2)
    funext c
    show (uP n Q t c || (uP n Q t (n - 1 - t) && clN (Q (n - 1 - t)) (Q (n - 1 - t)).ni c)) = (uP n Q' t c || (uP n Q' t (n - 1 - t) && clN (Q' (n - 1 - t)) (Q' (n - 1 - t)).ni c))
    rw [ih, h (n - 1 - t) (by omega) (by omega)]
theorem uP_eq {n : Nat} {Q Q' : Nat → PV} (h : ∀ c, c < n → uP n Q (n - 1 - c) c = true → (Q c).same (Q' c)) : ∀ {t : Nat}, t ≤ n → uP n Q t = uP n Q' t
  | 0, _ => rfl
  | t + 1, ht => by
    have ih := uP_eq h (t := t) (by omega)
    funext c
    show (uP n Q t c || (uP n Q t (n - 1 - t) && clN (Q (n - 1 - t)) (Q (n - 1 - t)).ni c)) = (uP n Q' t c || (uP n Q' t (n - 1 - t) && clN (Q' (n - 1 - t)) (Q' (n - 1 - t)).ni c))
    rw [← ih]
    cases hu : uP n Q t (n - 1 - t) with
    | false => simp
    | true => rw [clN_same (h (n - 1 - t) (by omega) (by rw [show n - 1 - (n - 1 - t) = t by omega]; exact hu)) c]
theorem uP_stay {n : Nat} {Q : Nat → PV} (h : ∀ c, c < n → uP n Q (n - 1 - c) c = true → (Q c).clOk c) {c : Nat} (hc : c < n) : ∀ {t : Nat}, n - 1 - c ≤ t → t ≤ n → uP n Q t c = uP n Q (n - 1 - c) c := by
  intro t ht
  induction ht with
  | refl => intro _; rfl
  | @step t ht ih =>
    intro htn
    rw [← ih (by omega)]
    show (uP n Q t c || (uP n Q t (n - 1 - t) && clN (Q (n - 1 - t)) (Q (n - 1 - t)).ni c)) = uP n Q t c
    cases hu : uP n Q t (n - 1 - t) with
    | false => simp
    | true =>
      have hle : n - 1 - c ≤ t := ht
      have hk := h (n - 1 - t) (by omega) (by rw [show n - 1 - (n - 1 - t) = t by omega]; exact hu)
      rw [clN_not hk _ (Nat.le_refl _) c (by omega)]
      simp
theorem clN_in {q : PV} {m j : Nat} (hj : j < m) (h : q.i0 j = 32) : clN q m (q.i2 j).toNat = true := by
  unfold clN
  rw [List.any_eq_true]
  exact ⟨j, List.mem_range.2 hj, by simp [h]⟩
theorem uP_closed {n : Nat} {Q : Nat → PV} {c j : Nat} (hc : c < n) (hu : uP n Q (n - 1 - c) c = true) (hj : j < (Q c).ni) (h : (Q c).i0 j = 32) : uP n Q n ((Q c).i2 j).toNat = true := by
  refine uP_mono (t := n - 1 - c + 1) ?_ (by omega)
  show (uP n Q (n - 1 - c) _ || (uP n Q (n - 1 - c) (n - 1 - (n - 1 - c)) && clN (Q (n - 1 - (n - 1 - c))) (Q (n - 1 - (n - 1 - c))).ni _)) = true
  rw [show n - 1 - (n - 1 - c) = c by omega, hu, clN_in hj h]
  simp
theorem whO_5 (o : Int) : whO [5] o = if o = 32 then some 2 else none := by
  unfold whO isIn nmB nmC
  by_cases e32 : o = 32
  · subst e32; rfl
  simp only [List.any_cons, List.any_nil, Bool.or_false]
  simp only [e32, if_false, beq_iff_eq]
  repeat' split
  all_goals first | rfl | omega | simp_all
theorem adQ_cl (q : PV) (m x : Nat) : adQ [5] q.i0 q.i2 q.i3 m x = clN q m x := by
  unfold adQ clN
  congr 1
  funext j
  unfold nmQ
  rw [whO_5]
  by_cases e : q.i0 j = 32
  · simp [e]
  · simp [e]
theorem inN_cl {q : PV} {m : Nat} {s : Nat → Prop} (h : q.clOk m) (hs : ∀ j, j < q.ni → q.i0 j = 32 → s (q.i2 j).toNat) : InN [5] q.i0 q.i2 q.i3 q.ni s := by
  intro j hj r hr
  rw [whO_5] at hr
  split at hr
  · rename_i e
    cases hr
    exact ⟨(h j hj e).1, hs j hj e⟩
  · cases hr
theorem ren_2 (s : Nat → Bool) (q : PV) : rn2 [5] (cnt s) q.i0 q.i2 = (q.ren s).i2 := by
  funext j
  unfold rn2
  rw [whO_5]
  show _ = if q.i0 j = 32 then (cnt s (q.i2 j).toNat : Int) else q.i2 j
  by_cases e : q.i0 j = 32 <;> simp [e]
theorem ren_3 (s : Nat → Bool) (q : PV) : rn3 [5] (cnt s) q.i0 q.i3 = q.i3 := by
  funext j
  unfold rn3
  rw [whO_5]
  by_cases e : q.i0 j = 32 <;> simp [e]
theorem verd_neq1 {a : Int} (ha : a ≠ 0) (b c : Int) (w : World) : (binOp .neq 30 (.agg #[.int .i64 a, .int .i64 b, .int .i64 c]) (.agg #[.int .i64 0, .int .i64 0, .int .i64 0])).run Tryz.prog w = .ok (.bool true) w := by
  cases a with
  | ofNat n =>
    cases n with
    | zero => exact absurd rfl ha
    | succ n => kernel_rfl
  | negSucc n => kernel_rfl
theorem verd_neq0 (w : World) : (binOp .neq 30 (.agg #[.int .i64 0, .int .i64 0, .int .i64 0]) (.agg #[.int .i64 0, .int .i64 0, .int .i64 0])).run Tryz.prog w = .ok (.bool false) w := by kernel_rfl
theorem made_pro (n : Nat) {j : Nat} (hj : j < n * 8) : (madeCells (Value.agg #[.int .i64 0, .int .i64 0, .int .i64 0, .bool false, .slice none 0 0, .slice none 0 0, .slice none 0 0, .slice none 0 0]).cells (n * 8)).toList.getD j (.bool false) = ([.int .i64 0, .int .i64 0, .int .i64 0, .bool false, .slice none 0 0, .slice none 0 0, .slice none 0 0, .slice none 0 0] : List Value).getD (j % 8) (.bool false) := by
  have : (madeCells (Value.agg #[.int .i64 0, .int .i64 0, .int .i64 0, .bool false, .slice none 0 0, .slice none 0 0, .slice none 0 0, .slice none 0 0]).cells (n * 8)).toList.getD j (.bool false) = (#[Value.int .i64 0, .int .i64 0, .int .i64 0, .bool false, .slice none 0 0, .slice none 0 0, .slice none 0 0, .slice none 0 0] : Array Value)[j % 8]! := by
    rw [show (Value.agg #[.int .i64 0, .int .i64 0, .int .i64 0, .bool false, .slice none 0 0, .slice none 0 0, .slice none 0 0, .slice none 0 0]).cells = #[Value.int .i64 0, .int .i64 0, .int .i64 0, .bool false, .slice none 0 0, .slice none 0 0, .slice none 0 0, .slice none 0 0] from rfl]
    unfold madeCells
    simp [List.getD_eq_getElem?_getD, hj]
  rw [this]
  have hr : j % 8 < 8 := Nat.mod_lt _ (by omega)
  generalize j % 8 = r at hr ⊢
  have : r = 0 ∨ r = 1 ∨ r = 2 ∨ r = 3 ∨ r = 4 ∨ r = 5 ∨ r = 6 ∨ r = 7 := by omega
  rcases this with rfl | rfl | rfl | rfl | rfl | rfl | rfl | rfl <;> rfl
def VerifyAt (f : Nat) : Prop := ∀ (v : Value) (n : Nat) (P : Nat → PV) (w : World), n ≤ 1048576 → allFit n P 1048576 → allBits n P → ProsA w v n P →
  Calls Tryz.prog f #[.agg #[v]] w fun e w' => ∃ a b c, e = .returned (verV a b c) ∧ VerR n P a b c ∧ Below w.heap.size w w'
theorem allFit_of {n : Nat} {P : Nat → PV} {l : Int} (h : allFit n P l.toNat) (hl : l ≤ 1048576) : allFit n P 1048576 := fun k hk => (h k hk).mono (by omega)
end Go.Proofs.YtgnbhhgpaldheaaGreat
namespace Go.Proofs.YtgnbhhgpaldheaaGreat
open Go.ChangeShapes Go.WideShapes Go.ChangeAt Go Go.RowKit Go.ChangeMaps Go.WideElems Go.Joins Go.Deep
set_option linter.unusedVariables false
end Go.Proofs.YtgnbhhgpaldheaaGreat
