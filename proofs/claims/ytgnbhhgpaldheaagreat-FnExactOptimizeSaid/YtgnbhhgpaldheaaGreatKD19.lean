import Derived.Test.YtgnbhhgpaldheaaGreatKD12
import Derived.Test.YtgnbhhgpaldheaaGreatKV3
import Derived.Maps.AppendAt
namespace Go.Proofs.YtgnbhhgpaldheaaGreat
open Go Go.RowKit
set_option linter.unusedVariables false
def FinD (p q : PV) : Prop := (∃ K, FinS K p.cf p.pay q.cf q.pay) ∧ p.hd q ∧ q.Good
theorem spP_from {α : Type} {d e : Cf} {Y Z : Nat → α} (h : SpP d Y e Z) {k : Nat} (hk : k < e.n) : ∃ q, d.L q ∧ e.op k = d.op q ∧ Z k = Y q := by
  obtain ⟨e1, Y1, h1, p1, h2, p2⟩ := h
  obtain ⟨q, hq, rfl⟩ := h2.at hk
  have l1 := (cut_L.1 hq).1
  obtain ⟨q', hq', e2⟩ := h1.at l1.1
  refine ⟨q', ((all_Sb d).L q').1 (cut_L.1 hq').1, ?_, ?_⟩
  · rw [h2.op q hq]
    show e1.op q = _
    rw [← e2, h1.op q' hq']
    show d.all.op q' = _
    rw [(all_Sb d).op]
  · rw [p2 q hq, ← e2, p1 q' hq']
theorem finS_from {α : Type} {e : Cf} {Z : Nat → α} : ∀ {K : Nat} {d : Cf} {Y : Nat → α}, FinS K d Y e Z → ∀ {k : Nat}, k < e.n → ∃ q, d.L q ∧ e.op k = d.op q ∧ Z k = Y q
  | 0, d, Y, ⟨s, _⟩, k, hk => spP_from s hk
  | K + 1, d, Y, ⟨e1, Y1, s, _, f⟩, k, hk => by
    obtain ⟨q, h1, h2, h3⟩ := finS_from f hk
    obtain ⟨q', g1, g2, g3⟩ := spP_from s h1.1
    exact ⟨q', g1, h2.trans g2, h3.trans g3⟩
theorem FinD.from {p q : PV} (h : FinD p q) {k : Nat} (hk : k < q.ni) : ∃ j, j < p.ni ∧ q.i0 k = p.i0 j ∧ q.i1 k = p.i1 j ∧ q.i3 k = p.i3 j ∧ q.l0 k = p.l0 j ∧ (jmp (p.i0 j) = false → q.i2 k = p.i2 j) := by
  obtain ⟨⟨K, f⟩, _, _⟩ := h
  obtain ⟨j, h1, h2, h3⟩ := finS_from f (show k < q.cf.n from hk)
  have h2' : q.i0 k = p.i0 j := h2
  have e := h3
  unfold PV.pay at e
  simp only [Prod.mk.injEq] at e
  obtain ⟨e1, e2, e3, e4⟩ := e
  refine ⟨j, cf_L.1 h1, h2', e1, e3, e4, fun hj => ?_⟩
  rw [h2', hj] at e2
  simpa using e2
def PV.clOk (p : PV) (m : Nat) : Prop := ∀ j, j < p.ni → p.i0 j = 32 → 0 ≤ p.i2 j ∧ p.i2 j < m
theorem nmK_jmp {o : Int} (h : nmK o ≠ 0) : jmp o = false := by
  unfold nmK at h
  split at h
  · rename_i z; rcases z with rfl | rfl | rfl | rfl <;> rfl
  · split at h
    · rename_i z; rcases z with rfl | rfl <;> rfl
    · exact (h rfl).elim
theorem FinD.nm {p q : PV} (h : FinD p q) (hp : p.nmOk) : q.nmOk := by
  intro k hk
  obtain ⟨j, hj, e0, e1, e3, _, e2⟩ := h.from hk
  have hc : q.nc = p.nc := h.2.1.2.2.2.2.2.2.2.1
  obtain ⟨h1, h2⟩ := hp j hj
  rw [e0, hc, e3]
  refine ⟨fun z => ?_, h2⟩
  rw [e2 (nmK_jmp (by rw [z]; decide))]
  exact h1 z
theorem FinD.cl {p q : PV} (h : FinD p q) {m : Nat} (hp : p.clOk m) : q.clOk m := by
  intro k hk hz
  obtain ⟨j, hj, e0, _, _, _, e2⟩ := h.from hk
  rw [e0] at hz
  rw [e2 (by rw [hz]; rfl)]
  exact hp j hj hz
theorem cst_cl {q : PV} {m : Nat} (h : q.clOk m) : q.cst.clOk m := by
  intro k hk hz
  have hz' : q.i0 k = 32 := hz
  show 0 ≤ (if nmK (q.i0 k) = 1 then _ else q.i2 k) ∧ (if nmK (q.i0 k) = 1 then _ else q.i2 k) < _
  rw [if_neg (by rw [hz']; decide)]
  exact h k hk hz'
def clN (q : PV) (m c : Nat) : Bool := (List.range m).any (fun j => q.i0 j == 32 && (q.i2 j).toNat == c)
theorem clN_1 (q : PV) (m c : Nat) : clN q (m + 1) c = (clN q m c || (q.i0 m == 32 && (q.i2 m).toNat == c)) := by
  unfold clN
  rw [List.range_succ, List.any_append]
  simp
def uP (n : Nat) (Q : Nat → PV) : Nat → Nat → Bool
  | 0, c => c == n - 1
  | t + 1, c => uP n Q t c || (uP n Q t (n - 1 - t) && clN (Q (n - 1 - t)) (Q (n - 1 - t)).ni c)
def PV.ren (s : Nat → Bool) (q : PV) : PV := { q with i2 := fun j => if q.i0 j = 32 then (cnt s (q.i2 j).toNat : Int) else q.i2 j }
def outF (n : Nat) (Q : Nat → PV) (j : Nat) : PV := (Q (kpAt (uP n Q n) n j)).ren (uP n Q n)
def OptR (n : Nat) (P : Nat → PV) (w : World) (e : Ending) (w' : World) : Prop :=
  ∃ (a b c : Int) (v : Value), e = .returned (.tuple #[.agg #[v], verV a b c]) ∧ VerR n P a b c ∧ Below w.heap.size w w' ∧
    ((a ≠ 0 ∧ v = nilS) ∨ (a = 0 ∧ ∃ F : Nat → PV, (∀ k, k < n → FinD (P k) (F k)) ∧ ProsA w' v (cnt (uP n (fun k => (F k).cst) n) n) (outF n (fun k => (F k).cst))))
theorem FB.hd {Q : Prop} {c : Int} {l : List (Prop × Int)} (h : FB ((Q, c) :: l) 0) (hc : c ≠ 0) : Q ∧ FB l 0 := by
  rcases h with h | ⟨_, h⟩
  · exact h
  · exact (hc h.symm).elim
theorem jumpsI_jmp {o : Int} (h : jmp o = true) : jumpsI o := by
  unfold jumpsI
  simpa [jmp, or_assoc] using h
theorem asks_all {P : Nat → PV} {k : Nat} {p : PV} {j : Nat} (h : FB (asks P k p j) 0) : constsI p (p.i0 j) (p.i1 j) (p.i2 j) (p.i3 j) ∧ protoOk P k p j ∧ jumpI p j ∧ endOk p j := by
  unfold asks at h
  obtain ⟨_, h⟩ := h.hd (by decide)
  obtain ⟨_, h⟩ := h.hd (by decide)
  obtain ⟨h4, h⟩ := h.hd (by decide)
  obtain ⟨_, h⟩ := h.hd (by decide)
  obtain ⟨h6, h⟩ := h.hd (by decide)
  obtain ⟨h7, h⟩ := h.hd (by decide)
  obtain ⟨_, h⟩ := h.hd (by decide)
  obtain ⟨h9, h⟩ := h.hd (by decide)
  exact ⟨h4, h6, h7, h9⟩
theorem good_of {n : Nat} {P : Nat → PV} {k : Nat} (h : fnOk n P k) : (P k).Good ∧ (P k).nmOk ∧ (P k).clOk k ∧ 0 < (P k).ni ∧ (P k).ni ≤ 65535 ∧ (P k).nc ≤ 65535 := by
  obtain ⟨hs, ha⟩ := h
  obtain ⟨⟨⟨_, _, _, _, hnc, hni, hnl⟩, _⟩, hsh, _⟩ := hs
  have h1 : 0 < (P k).ni := by
    obtain ⟨_, _, _, _, _, q⟩ := hsh
    simp only [inI, decide_eq_true_eq] at q
    omega
  refine ⟨⟨⟨fun p hp hj => ?_, fun p hp hw => ?_, ?_, fun p hp => ?_⟩, fun j hj hjm => ?_, hnl, by omega⟩, fun j hj => ?_, fun j hj hz => ?_, h1, hni, hnc⟩
  · have hp' := cf_L.1 hp
    obtain ⟨_, _, h7, _⟩ := asks_all (ha p hp')
    obtain ⟨q1, q2, _, q4⟩ := h7 (jumpsI_jmp hj)
    refine ⟨cf_L.2 (show ((P k).i2 p).toNat < (P k).ni by omega), fun hle => ?_⟩
    have hle' : ((P k).i2 p).toNat ≤ p := hle
    rcases q4 with q | q
    · omega
    · exact q
  · have hp' := cf_L.1 hp
    obtain ⟨_, _, _, h9⟩ := asks_all (ha p hp')
    rw [nx_one (c := (P k).cf) (fun _ _ => rfl) hp']
    show p + 1 < (P k).ni
    rcases Nat.lt_or_ge (p + 1) (P k).ni with q | q
    · exact q
    · exfalso
      have := h9 (by omega)
      have hw' : awy ((P k).i0 p) = false := hw
      rcases this with z | z | z <;> rw [z] at hw' <;> cases hw'
  · have : (P k).cf.nf 0 = 0 := Cf.nf_self (cf_L.2 h1)
    rw [this]
    exact h1
  · have : ((P k).i0 p == 2 && (P k).i1 p == (P k).i2 p) = true := hp
    rw [Bool.and_eq_true] at this
    show (P k).i0 p = 2
    simpa using this.1
  · obtain ⟨_, _, h7, _⟩ := asks_all (ha j hj)
    exact (h7 (jumpsI_jmp hjm)).1
  · obtain ⟨⟨c1, c2, c3⟩, _, _, _⟩ := asks_all (ha j hj)
    refine ⟨fun z => ?_, fun z => ?_⟩
    · unfold nmK at z
      split at z
      · rename_i y
        rcases y with y | y
        · exact c1 y
        · have := c2 (by rcases y with y | y | y; exact .inl y; exact .inr (.inl y); exact .inr (.inr y))
          exact ⟨this.1, this.2.1⟩
      · split at z <;> cases z
    · unfold nmK at z
      split at z
      · cases z
      · split at z
        · rename_i y
          have := c3 y
          exact ⟨this.1, this.2.1⟩
        · cases z
  · obtain ⟨_, h6, _, _⟩ := asks_all (ha j hj)
    have := (h6 hz).1
    simp only [inI, decide_eq_true_eq] at this
    omega
def upF (q : PV) (j : Nat) : Value := if j % 2 = 0 then .bool (q.u0 (j / 2)) else .int .i64 (q.u1 (j / 2))
def conF (q : PV) (j : Nat) : Value := if j % 4 = 0 then .int .i64 (q.c0 (j / 4)) else if j % 4 = 1 then .int .i64 (q.c1 (j / 4)) else if j % 4 = 2 then .int .u64 (q.c2 (j / 4)) else .string (q.c3 (j / 4))
theorem upF_one (q : PV) (j : Nat) : (upF q j).oneCell' = true := by unfold upF; split <;> rfl
theorem ups_F {w : World} {v : Value} {q : PV} (h : SlF w 104 2 v q.nu (upF q)) : UpsA w v q.nu q.u0 q.u1 := by
  obtain ⟨a, cap, rfl, hc, ⟨rfl, h0⟩ | ⟨g, rfl, hr⟩⟩ := h
  · exact .inl ⟨h0, none, cap, by rw [h0]⟩
  · refine .inr ⟨g, 0, cap, rfl, hr.lt, hc, fun i hi => ?_⟩
    rw [Nat.zero_add, hr.cell (j := i * 2) (by omega), hr.cell (j := i * 2 + 1) (by omega)]
    unfold upF
    rw [if_pos (by omega), if_neg (by omega), show i * 2 / 2 = i by omega, show (i * 2 + 1) / 2 = i by omega]
    exact ⟨rfl, rfl⟩
theorem cons_F {w : World} {v : Value} {q : PV} (h : SlF w 81 4 v q.nc (conF q)) : ConsA w v q.nc q.c0 q.c1 q.c2 q.c3 := by
  obtain ⟨a, cap, rfl, hc, ⟨rfl, h0⟩ | ⟨g, rfl, hr⟩⟩ := h
  · exact .inl ⟨h0, none, cap, by rw [h0]⟩
  · refine .inr ⟨g, 0, cap, rfl, hr.lt, hc, fun i hi => ?_⟩
    rw [Nat.zero_add, hr.cell (j := i * 4) (by omega), hr.cell (j := i * 4 + 1) (by omega), hr.cell (j := i * 4 + 2) (by omega), hr.cell (j := i * 4 + 3) (by omega)]
    unfold conF
    rw [if_pos (by omega), show i * 4 / 4 = i by omega, if_neg (by omega), if_pos (by omega), show (i * 4 + 1) / 4 = i by omega, if_neg (by omega), if_neg (by omega), if_pos (by omega), show (i * 4 + 2) / 4 = i by omega, if_neg (by omega), if_neg (by omega), if_neg (by omega), show (i * 4 + 3) / 4 = i by omega]
    exact ⟨rfl, rfl, rfl, rfl⟩
structure FM (w : World) (q : PV) (s4 s5 : Value) (g6 c6 : Nat) (s7 : Value) : Prop where
  u : SlF w 104 2 s4 q.nu (upF q)
  c : SlF w 81 4 s5 q.nc (conF q)
  i : InsO w g6 q.ni q.i0 q.i1 q.i2 q.i3
  cap : q.ni ≤ c6
  l : LinF w s7 q.nl q.l0
theorem FM.pva {w : World} {q : PV} {s4 s5 : Value} {g6 c6 : Nat} {s7 : Value} (h : FM w q s4 s5 g6 c6 s7) : PVA w q s4 s5 (.slice (some ⟨g6, 0, none⟩) q.ni c6) s7 :=
  ⟨ups_F h.u, cons_F h.c, h.i.a h.cap, h.l.a⟩
theorem FM.low {w w' : World} {q : PV} {s4 s5 : Value} {g6 c6 : Nat} {s7 : Value} {B : Nat} (h : FM w q s4 s5 g6 c6 s7) (hb : Below B w w') (hB : w.heap.size ≤ B) : FM w' q s4 s5 g6 c6 s7 :=
  ⟨h.u.low hb hB, h.c.low hb hB, h.i.low hb (Nat.lt_of_lt_of_le h.i.lt hB), h.cap, SlF.low h.l hb hB⟩
theorem FM.keep {w w' : World} {q : PV} {s4 s5 : Value} {g6 c6 : Nat} {s7 : Value} {S : Nat → Prop} (h : FM w q s4 s5 g6 c6 s7) (k : Keeps w w' S) (hS : ∀ b, S b → ∃ N f, RowF w 45 b N f) : FM w' q s4 s5 g6 c6 s7 := by
  refine ⟨h.u.keep k (fun b e hb => ?_), h.c.keep k (fun b e hb => ?_), h.i.keep k (fun hb => ?_), h.cap, SlF.keep h.l k (fun b e hb => ?_)⟩
  · obtain ⟨N, f, hr⟩ := hS b hb; exact (h.u.own e).apart hr (by decide) rfl
  · obtain ⟨N, f, hr⟩ := hS b hb; exact (h.c.own e).apart hr (by decide) rfl
  · obtain ⟨N, f, hr⟩ := hS _ hb
    obtain ⟨f', hi, _⟩ := h.i
    exact hi.apart hr (by decide) rfl
  · obtain ⟨N, f, hr⟩ := hS b hb; exact (SlF.own h.l e).apart hr (by decide) rfl
def fnC (q : PV) (s4 s5 : Value) (g6 c6 : Nat) (s7 : Value) : List Value :=
  [.int .i64 q.params, .int .i64 q.regs, .int .i64 q.line, .bool q.dots, s4, s5, .slice (some ⟨g6, 0, none⟩) q.ni c6, s7]
structure FMs (w : World) (base : Nat) (v : Value) (k : Nat) (Q : Nat → PV) (S4 S5 : Nat → Value) (G6 C6 : Nat → Nat) (S7 : Nat → Value) : Prop where
  row : w.ownsRow base 45 8 v k ((List.range k).flatMap fun i => fnC (Q i) (S4 i) (S5 i) (G6 i) (C6 i) (S7 i))
  fn : ∀ i, i < k → FM w (Q i) (S4 i) (S5 i) (G6 i) (C6 i) (S7 i)
  up : ∀ i j, i < j → j < k → G6 i < G6 j
  ge : ∀ i, i < k → base ≤ G6 i
theorem FMs.low {w w' : World} {base k : Nat} {v : Value} {Q : Nat → PV} {S4 S5 : Nat → Value} {G6 C6 : Nat → Nat} {S7 : Nat → Value} (h : FMs w base v k Q S4 S5 G6 C6 S7) (hb : Below w.heap.size w w') : FMs w' base v k Q S4 S5 G6 C6 S7 :=
  ⟨owns_low h.row hb, fun i hi => (h.fn i hi).low hb (Nat.le_refl _), h.up, h.ge⟩
theorem FMs.push {w w' : World} {base k : Nat} {v v' : Value} {Q : Nat → PV} {S4 S5 : Nat → Value} {G6 C6 : Nat → Nat} {S7 : Nat → Value} {q : PV} {s4 s5 : Value} {g6 c6 : Nat} {s7 : Value}
    (h : FMs w base v k Q S4 S5 G6 C6 S7) (hf : FM w q s4 s5 g6 c6 s7) (hg : ∀ i, i < k → G6 i < g6) (hB : base ≤ g6) (hr : w'.ownsRow base 45 8 v' (k + 1) (((List.range k).flatMap fun i => fnC (Q i) (S4 i) (S5 i) (G6 i) (C6 i) (S7 i)) ++ fnC q s4 s5 g6 c6 s7)) (hk : Keeps w w' (fun b => v.ownBlock = some b)) :
    FMs w' base v' (k + 1) (fun i => if i = k then q else Q i) (fun i => if i = k then s4 else S4 i) (fun i => if i = k then s5 else S5 i) (fun i => if i = k then g6 else G6 i) (fun i => if i = k then c6 else C6 i) (fun i => if i = k then s7 else S7 i) := by
  have hS : ∀ b, v.ownBlock = some b → ∃ N f, RowF w 45 b N f := fun b e => ⟨_, _, owns_rowF h.row e⟩
  refine ⟨?_, fun i hi => ?_, fun i j hij hj => ?_, fun i hi => ?_⟩
  · have e : ((List.range (k + 1)).flatMap fun i => fnC (if i = k then q else Q i) (if i = k then s4 else S4 i) (if i = k then s5 else S5 i) (if i = k then g6 else G6 i) (if i = k then c6 else C6 i) (if i = k then s7 else S7 i)) = ((List.range k).flatMap fun i => fnC (Q i) (S4 i) (S5 i) (G6 i) (C6 i) (S7 i)) ++ fnC q s4 s5 g6 c6 s7 := by
      rw [List.range_succ, List.flatMap_append]
      congr 1
      · rw [List.flatMap_def, List.flatMap_def]
        refine congrArg List.flatten (List.map_congr_left (fun i hi => ?_))
        rw [List.mem_range] at hi
        have : i ≠ k := by omega
        simp only [if_neg this]
      · simp
    rw [e]
    exact hr
  · by_cases e : i = k
    · subst e; simp only [if_true]; exact hf.keep hk hS
    · simp only [if_neg e]; exact (h.fn i (by omega)).keep hk hS
  · by_cases e : j = k
    · subst e; simp only [if_true, if_neg (show i ≠ j by omega)]; exact hg i hij
    · simp only [if_neg e, if_neg (show i ≠ k by omega)]; exact h.up i j hij (by omega)
  · by_cases e : i = k
    · simp only [if_pos e]; exact hB
    · simp only [if_neg e]; exact h.ge i (by omega)
theorem con_F {w : World} {base : Nat} {v : Value} {q : PV} (h : w.ownsRow base 81 4 v (cnt (usd q q.ni) q.nc) (conK q (usd q q.ni) q.nc)) : SlF w 81 4 v q.cst.nc (conF q.cst) := by
  obtain ⟨h1, ⟨rfl, h2⟩ | ⟨g, cap, cur, rfl, hb, hg, hr⟩⟩ := h
  · exact ⟨none, 0, by show _ = Value.slice none (cnt (usd q q.ni) q.nc) 0; rw [h2], by show cnt _ _ ≤ 0; omega, .inl ⟨rfl, h2⟩⟩
  · have hrow := rowF_owns (⟨h1, .inr ⟨g, cap, cur, rfl, hb, hg, hr⟩⟩ : w.ownsRow base 81 4 (.slice (some ⟨g, 0, none⟩) (cnt (usd q q.ni) q.nc) cap) (cnt (usd q q.ni) q.nc) (conK q (usd q q.ni) q.nc))
    refine ⟨_, cap, rfl, hr.1, .inr ⟨g, rfl, hrow.congr (fun j hj => ?_)⟩⟩
    have hd : j = j / 4 * 4 + j % 4 := by omega
    have hlt : j / 4 < cnt (usd q q.ni) q.nc := by omega
    conv => lhs; rw [hd]
    rw [conK_at hlt (by omega)]
    unfold conF
    rcases (show j % 4 = 0 ∨ j % 4 = 1 ∨ j % 4 = 2 ∨ j % 4 = 3 by omega) with e | e | e | e <;> rw [e] <;> rfl
theorem app_empty {t ty : TypeId} {e : TypeId} {i : TypeInfo} (ht : Tryz.prog.underlying t = some (.slice e)) (hi : Tryz.prog.info? e = some i) (g cap c : Nat) (w : World) : (Builtin.append_ #[t, t] ty #[.slice (some ⟨g, 0, none⟩) 0 cap, .slice none 0 c]).run Tryz.prog w = .ok (.slice (some ⟨g, 0, none⟩) 0 cap) w := by
  simp [Builtin.append_, run_underlying ht, sizeOf, typeInfo, hi, Builtin.lenOf, Builtin.firstCells, loadCells, loadCellsFrom, storeCells]
theorem slF_owns {w : World} {base T s n : Nat} {v : Value} {xs : List Value} {f : Nat → Value} (h : w.ownsRow base T s v n xs) (hf : ∀ j, j < n * s → xs.getD j (.bool false) = f j) : SlF w T s v n f := by
  obtain ⟨h1, ⟨rfl, h2⟩ | ⟨g, cap, cur, rfl, hb, hg, hr⟩⟩ := h
  · exact ⟨none, 0, by rw [h2], by omega, .inl ⟨rfl, h2⟩⟩
  · exact ⟨_, cap, rfl, hr.1, .inr ⟨g, rfl, (owns_rowF ⟨h1, .inr ⟨g, cap, cur, rfl, hb, hg, hr⟩⟩ rfl).congr hf⟩⟩
theorem app_ups2 {wr : World} {ops : Array Oper} {rest : List Oper} {o : Oper} {a : Act} {Q : Exit → Act → World → Prop} (hgd : o.guard = none) (s x : Operand)
    (ho : o.op = .call { callee := .builtin .append, args := #[s, x], argTypes := #[40, 40] })
    (q : PV) (v : Value) (hu : UpsA wr v q.nu q.u0 q.u1) (hs : a.eval s = .slice (some ⟨wr.heap.size, 0, none⟩) 0 0) (hx : a.eval x = v) (hlen : q.nu ≤ 1048576)
    (h : ∀ v' w', SlF w' 104 2 v' q.nu (upF q) → Below wr.heap.size wr w' → (∀ b, v'.ownBlock = some b → wr.heap.size ≤ b) → wpList Tryz.prog ops Q rest (a.put o.dst v') w') :
    wpList Tryz.prog ops Q (o :: rest) a (wr.alloc (.cells #[] 104)) := by
  obtain ⟨i0, hi, hz0, hz1, hz2⟩ := info_parts Tryz.info104
  have hown : (wr.alloc (.cells #[] 104)).ownsRow wr.heap.size 104 2 (.slice (some ⟨wr.heap.size, 0, none⟩) 0 0) 0 [] := ⟨by simp, .inr ⟨wr.heap.size, 0, #[], rfl, Nat.le_refl _, heap_alloc_new wr _, by omega, by unfold maxLen; omega, by simp, by simp⟩⟩
  have hb := b_1 wr (.cells #[] 104)
  have key : ∀ (ad : Addr) (cap : Nat), v = .slice (some ad) q.nu cap → (∀ j u, ((List.range (q.nu * 2)).map (upF q))[j]? = some u → (wr.alloc (.cells #[] 104)).cell? (ad.add j) = some u) → wpList Tryz.prog ops Q (o :: rest) a (wr.alloc (.cells #[] 104)) := by
    rintro ad cap rfl hcl
    refine wpList_append_own_at _ hgd s x 40 ho wr.heap.size 104 i0 _ 2 16 Tryz.underlying40 hi hz0 hz1 hz2 rfl (by decide) (.slice (some ⟨wr.heap.size, 0, none⟩) 0 0) 0 [] hs hown ad q.nu cap ((List.range (q.nu * 2)).map (upF q)) hx (by simp) hcl (fun u hu => ?_) (by unfold maxLen; omega) (by omega) (by simp) ?_
    · obtain ⟨j, _, rfl⟩ := List.mem_map.1 hu
      exact upF_one q j
    · intro v' w' h1 h2 _ h4
      rw [Nat.zero_add, List.nil_append] at h1
      refine h v' w' (slF_owns h1 (fun j hj => ?_)) (hb.trans ((Below.refl _ _).grown h2 (by simp) (fun g hg => by simp [Value.ownBlock] at hg; omega))) (fun b e => (owns_blk h1 e).1)
      simp [List.getD, hj]
  rcases hu with ⟨h0, a4, cap, rfl⟩ | ⟨b, o4, cap, rfl, hbl, hcap, hc⟩
  · cases a4 with
    | none =>
      have hr := app_empty Tryz.underlying40 hi wr.heap.size 0 cap (ty := o.type) (wr.alloc (.cells #[] 104))
      refine wpList_plain hgd fun K hK => ?_
      unfold Oper.wp execOp
      simp only [ho, resolve, invoke, builtin, Sem.run_bind, Sem.run_pure, Result.andThen_ok, List.map_toArray, List.map_cons, List.map_nil, hs, hx, hr]
      refine hK _ _ (h _ _ ?_ hb (fun b e => by simp [Value.ownBlock] at e; omega))
      rw [h0]
      exact ⟨_, 0, rfl, by omega, .inr ⟨_, rfl, (RowF.mk' wr 104 #[]).congr (fun j hj => by simp at hj)⟩⟩
    | some ad => exact key ad cap (by rw [h0]) (fun j u hj => by rw [h0] at hj; simp at hj)
  · refine key ⟨b, o4, none⟩ cap rfl (fun j u hj => ?_)
    rw [List.getElem?_map] at hj
    have hjn : j < q.nu * 2 := by
      rcases Nat.lt_or_ge j (q.nu * 2) with c | c
      · exact c
      · rw [List.getElem?_eq_none (by simpa using c)] at hj; cases hj
    rw [List.getElem?_range hjn] at hj
    simp only [Option.map_some, Option.some.injEq] at hj
    subst hj
    rw [show (⟨b, o4, none⟩ : Addr).add j = ⟨b, o4 + j, none⟩ by simp [Addr.add]]
    refine (hb.cell (p := ⟨b, o4 + j, none⟩) hbl).trans ?_
    obtain ⟨c0, c1⟩ := hc (j / 2) (by omega)
    unfold upF
    split
    · rename_i z
      rw [show o4 + j = o4 + j / 2 * 2 by omega]
      exact c0
    · rename_i z
      rw [show o4 + j = o4 + j / 2 * 2 + 1 by omega]
      exact c1
theorem app_ups {wr : World} {ops : Array Oper} {rest : List Oper} {o : Oper} {a : Act} {Q : Exit → Act → World → Prop} (hgd : o.guard = none) (s x : Operand)
    (ho : o.op = .call { callee := .builtin .append, args := #[s, x], argTypes := #[40, 40] })
    (q : PV) (v : Value) (hu : UpsA wr v q.nu q.u0 q.u1) (hs : a.eval s = .slice (some ⟨wr.heap.size, 0, none⟩) 0 0) (hx : a.eval x = v) (hlen : q.nu ≤ 1048576)
    (h : ∀ v' w', SlF w' 104 2 v' q.nu (upF q) → Below wr.heap.size wr w' → wpList Tryz.prog ops Q rest (a.put o.dst v') w') :
    wpList Tryz.prog ops Q (o :: rest) a (wr.alloc (.cells #[] 104)) :=
  app_ups2 hgd s x ho q v hu hs hx hlen (fun v' w' h1 h2 _ => h v' w' h1 h2)
def RunS (p q : PV) : Prop := p.hd q ∧ q.Good ∧ ∀ r : PV, (∃ K, FinS K q.cf q.pay r.cf r.pay) → ∃ K, FinS K p.cf p.pay r.cf r.pay
theorem hd_refl (p : PV) : p.hd p := ⟨rfl, rfl, rfl, rfl, rfl, rfl, rfl, rfl, rfl, rfl, rfl, rfl⟩
theorem hd_trans {p q r : PV} (h : p.hd q) (h' : q.hd r) : p.hd r := by
  obtain ⟨a1, a2, a3, a4, a5, a6, a7, a8, a9, a10, a11, a12⟩ := h
  obtain ⟨b1, b2, b3, b4, b5, b6, b7, b8, b9, b10, b11, b12⟩ := h'
  exact ⟨b1.trans a1, b2.trans a2, b3.trans a3, b4.trans a4, b5.trans a5, b6.trans a6, b7.trans a7, b8.trans a8, b9.trans a9, b10.trans a10, b11.trans a11, b12.trans a12⟩
theorem RunS.refl {p : PV} (h : p.Good) : RunS p p := ⟨hd_refl p, h, fun _ x => x⟩
theorem RunS.step {p q r : PV} (h : RunS p q) (hd : q.hd r) (s : SpP q.cf q.pay r.cf r.pay) (t : SpT q.cf r.cf) (g : r.Good) : RunS p r ∧ r.cf.mI < q.cf.mI := by
  refine ⟨⟨hd_trans h.1 hd, g, fun x ⟨K, hx⟩ => h.2.2 x ⟨K + 1, r.cf, r.pay, s, t, hx⟩⟩, (s.r.less h.2.1.ok (fun k _ => rfl) t).1⟩
theorem RunS.fin {p q r : PV} (h : RunS p q) (hd : q.hd r) (s : SpP q.cf q.pay r.cf r.pay) (t : ¬ SpT q.cf r.cf) (g : r.Good) : FinD p r :=
  ⟨h.2.2 r ⟨0, s, t⟩, hd_trans h.1 hd, g⟩
theorem upF_hd {p q : PV} (h : p.hd q) : q.nu = p.nu ∧ upF q = upF p := by
  obtain ⟨_, _, _, _, h5, h6, h7, _⟩ := h
  refine ⟨h5, ?_⟩
  funext j
  unfold upF
  rw [h6, h7]
structure InnR (w0 : World) (p : PV) (Z : Nat) (wr : World) (q : PV) (b : Bool) (s4 s5 s6 s7 : Value) (ws : World) : Prop where
  row : RowF ws 45 Z 8 (fun j => (q.arr s4 s5 s6 s7).getD j (.bool false))
  up : SlF ws 104 2 s4 p.nu (upF p)
  con : ConsA w0 s5 p.nc p.c0 p.c1 p.c2 p.c3
  code : InsA w0 s6 q.ni q.i0 q.i1 q.i2 q.i3 ∨ InsF ws s6 q.ni q.i0 q.i1 q.i2 q.i3
  line : IntsA w0 s7 q.nl q.l0 ∨ LinF ws s7 q.nl q.l0
  run : b = true → RunS p q
  fin : b = false → FinD p q ∧ LinF ws s7 q.nl q.l0
  old : Below w0.heap.size w0 ws
  low : Below Z wr ws
theorem InnR.hd {w0 wr ws : World} {p q : PV} {Z : Nat} {b : Bool} {s4 s5 s6 s7 : Value} (h : InnR w0 p Z wr q b s4 s5 s6 s7 ws) : p.hd q := by
  cases b with
  | true => exact (h.run rfl).1
  | false => exact (h.fin rfl).1.2.1
theorem InnR.pva {w0 wr ws : World} {p q : PV} {Z : Nat} {b : Bool} {s4 s5 s6 s7 : Value} (h : InnR w0 p Z wr q b s4 s5 s6 s7 ws) : PVA ws q s4 s5 s6 s7 := by
  obtain ⟨_, _, _, _, e5, e6, e7, e8, e9, e10, e11, e12⟩ := h.hd
  refine ⟨?_, ?_, ?_, ?_⟩
  · rw [e5, e6, e7]; exact ups_F h.up
  · rw [e8, e9, e10, e11, e12]; exact h.con.low h.old (Nat.le_refl _)
  · rcases h.code with x | x
    · exact x.low h.old (Nat.le_refl _)
    · exact x.a
  · rcases h.line with x | x
    · exact x.low h.old (Nat.le_refl _)
    · exact x.a
noncomputable def meI (q : PV) (b : Bool) : Nat := if b then q.cf.mI + 1 else 0
theorem InnR.start {w0 wr w4 : World} {p : PV} {Z : Nat} {a4 s4 s5 s6 s7 : Value} (hr : RowF w4 45 Z 8 (fun j => (p.arr a4 s5 s6 s7).getD j (.bool false))) (hu : SlF w4 104 2 s4 p.nu (upF p)) (hp : PVA w0 p a4 s5 s6 s7) (hg : p.Good)
    (hZ : w0.heap.size ≤ Z) (h0 : Below w0.heap.size w0 w4) (h1 : Below Z wr w4) : InnR w0 p Z wr p true s4 s5 s6 s7 (w4.setCell ⟨Z, 4, none⟩ s4) := by
  have hk : Keeps w4 (w4.setCell ⟨Z, 4, none⟩ s4) (fun b => b = Z) := (Keeps.refl w4 (fun b => b = Z)).setCell (j := 4) rfl s4
  refine ⟨(hr.set (j := 4) (by omega) s4).congr (fun j hj => ?_), hu.keep hk (fun b e x => ?_), hp.c, .inl hp.i, .inl hp.l, fun _ => .refl hg, fun x => (by cases x), h0.setCell hZ _, h1.setCell (Nat.le_refl _) _⟩
  · rcases (show j = 0 ∨ j = 1 ∨ j = 2 ∨ j = 3 ∨ j = 4 ∨ j = 5 ∨ j = 6 ∨ j = 7 by omega) with rfl | rfl | rfl | rfl | rfl | rfl | rfl | rfl <;> rfl
  · subst x
    exact (hu.own e).apart hr (by decide) rfl
theorem InnR.round {w0 wr ws w6 : World} {p q r : PV} {Z : Nat} {s4 s5 s6 s7 v6 v7 : Value} {bb : Bool} (h : InnR w0 p Z wr q true s4 s5 s6 s7 ws) (hZ : w0.heap.size ≤ Z)
    (hr : q.hd r ∧ SpP q.cf q.pay r.cf r.pay ∧ (bb = true ↔ SpT q.cf r.cf) ∧ r.Good ∧ InsF w6 v6 r.ni r.i0 r.i1 r.i2 r.i3 ∧ LinF w6 v7 r.nl r.l0 ∧ Below ws.heap.size ws w6) :
    InnR w0 p Z wr r bb s4 s5 v6 v7 (put8 w6 Z 0 (.int .i64 r.params) (.int .i64 r.regs) (.int .i64 r.line) (.bool r.dots) s4 s5 v6 v7) ∧ meI r bb < meI q true := by
  obtain ⟨hd, sp, hb, hg, hi, hl, h6⟩ := hr
  have hrow := h.row.low h6 h.row.lt
  have hup := h.up.low h6 (Nat.le_refl _)
  have hk := put8_keeps w6 Z (.int .i64 r.params) (.int .i64 r.regs) (.int .i64 r.line) (.bool r.dots) s4 s5 v6 v7
  have hl2 : LinF (put8 w6 Z 0 (.int .i64 r.params) (.int .i64 r.regs) (.int .i64 r.line) (.bool r.dots) s4 s5 v6 v7) v7 r.nl r.l0 := SlF.keep hl hk (fun b e x => by subst x; exact (SlF.own hl e).apart hrow (by decide) rfl)
  refine ⟨⟨?_, hup.keep hk (fun b e x => by subst x; exact (hup.own e).apart hrow (by decide) rfl), h.con, .inr (SlF.keep hi hk (fun b e x => by subst x; exact (SlF.own hi e).apart hrow (by decide) rfl)), .inr hl2, fun e => ((h.run rfl).step hd sp (hb.1 e) hg).1, fun e => ⟨(h.run rfl).fin hd sp (fun t => by have := hb.2 t; rw [e] at this; cases this) hg, hl2⟩, ?_, ?_⟩, ?_⟩
  · refine (hrow.put8 (q := 0) (by omega) _ _ _ _ _ _ _ _).congr (fun j hj => ?_)
    rcases (show j = 0 ∨ j = 1 ∨ j = 2 ∨ j = 3 ∨ j = 4 ∨ j = 5 ∨ j = 6 ∨ j = 7 by omega) with rfl | rfl | rfl | rfl | rfl | rfl | rfl | rfl <;> rfl
  · exact put8_below (h.old.trans (h6.mono h.old.size)) hZ _ _ _ _ _ _ _ _ _
  · exact put8_below (h.low.trans (h6.mono (Nat.le_of_lt h.row.lt))) (Nat.le_refl _) _ _ _ _ _ _ _ _ _
  · unfold meI
    cases bb with
    | true =>
      have := ((h.run rfl).step hd sp (hb.1 rfl) hg).2
      simp only [if_true]
      omega
    | false => simp
theorem verR_ok {n : Nat} {P : Nat → PV} {b c : Int} (h : VerR n P 0 b c) : 1 ≤ n ∧ n ≤ 1000 ∧ (∀ k, k < n → fnOk n P k) := by
  rcases h with ⟨_, h, _⟩ | ⟨h, h2 | ⟨h2, _⟩⟩
  · cases h
  · obtain ⟨k, _, _, hb, _⟩ := h2
    rcases hb with ⟨_, h, _⟩ | ⟨_, j, _, _, h, _⟩
    · cases h
    · exact (h rfl).elim
  · exact ⟨h.1, h.2, h2⟩
def L1 (P : Nat → PV) (base : Nat) (v : Value) (k : Nat) (w : World) : Prop :=
  ∃ (F : Nat → PV) (S4 S5 : Nat → Value) (G6 C6 : Nat → Nat) (S7 : Nat → Value), (∀ i, i < k → FinD (P i) (F i)) ∧ FMs w base v k (fun i => (F i).cst) S4 S5 G6 C6 S7
theorem L1.push {P : Nat → PV} {base k : Nat} {v v' : Value} {wr w6 w' : World} {F : Nat → PV} {S4 S5 : Nat → Value} {G6 C6 : Nat → Nat} {S7 : Nat → Value} {q : PV} {s4 s5 : Value} {g6 c6 : Nat} {s7 : Value}
    (hF : ∀ i, i < k → FinD (P i) (F i)) (h : FMs wr base v k (fun i => (F i).cst) S4 S5 G6 C6 S7) (hb : Below wr.heap.size wr w6) (hq : FinD (P k) q) (hf : FM w6 q.cst s4 s5 g6 c6 s7) (hg : wr.heap.size ≤ g6) (hB : base ≤ wr.heap.size)
    (hr : w'.ownsRow base 45 8 v' (k + 1) (((List.range k).flatMap fun i => fnC ((F i).cst) (S4 i) (S5 i) (G6 i) (C6 i) (S7 i)) ++ fnC q.cst s4 s5 g6 c6 s7)) (hk : Keeps w6 w' (fun b => v.ownBlock = some b)) : L1 P base v' (k + 1) w' := by
  have hp := (h.low hb).push hf (fun i hi => Nat.lt_of_lt_of_le (h.fn i hi).i.lt hg) (Nat.le_trans hB hg) hr hk
  refine ⟨fun i => if i = k then q else F i, fun i => if i = k then s4 else S4 i, fun i => if i = k then s5 else S5 i, fun i => if i = k then g6 else G6 i, fun i => if i = k then c6 else C6 i, fun i => if i = k then s7 else S7 i, fun i hi => ?_, ?_⟩
  · by_cases e : i = k
    · subst e; simp only [if_true]; exact hq
    · simp only [if_neg e]; exact hF i (by omega)
  · have e : (fun i => PV.cst (if i = k then q else F i)) = fun i => if i = k then q.cst else (F i).cst := by
      funext i
      split <;> rfl
    rw [e]
    exact hp
theorem flat8_at {f : Nat → List Value} (hf : ∀ i, (f i).length = 8) {r : Nat} (hr : r < 8) : ∀ (l : List Nat) (j : Nat), j < l.length → (l.flatMap f).getD (j * 8 + r) (.bool false) = (f (l.getD j 0)).getD r (.bool false) := by
  intro l
  induction l with
  | nil => intro j hj; simp at hj
  | cons x l ih =>
    intro j hj
    rw [List.flatMap_cons]
    have hx := hf x
    cases j with
    | zero =>
      rw [List.getD_eq_getElem?_getD, List.getElem?_append_left (by omega), Nat.zero_mul, Nat.zero_add, ← List.getD_eq_getElem?_getD]
      rfl
    | succ j =>
      rw [List.getD_eq_getElem?_getD, List.getElem?_append_right (by omega), show (j + 1) * 8 + r - (f x).length = j * 8 + r by omega, ← List.getD_eq_getElem?_getD, ih j (by simpa using hj)]
      rfl
def fnF (Q : Nat → PV) (S4 S5 : Nat → Value) (G6 C6 : Nat → Nat) (S7 : Nat → Value) (j : Nat) : Value := (fnC (Q (j / 8)) (S4 (j / 8)) (S5 (j / 8)) (G6 (j / 8)) (C6 (j / 8)) (S7 (j / 8))).getD (j % 8) (.bool false)
structure FMr (w : World) (g n : Nat) (Q : Nat → PV) (S4 S5 : Nat → Value) (G6 C6 : Nat → Nat) (S7 : Nat → Value) : Prop where
  row : RowF w 45 g (n * 8) (fnF Q S4 S5 G6 C6 S7)
  fn : ∀ i, i < n → FM w (Q i) (S4 i) (S5 i) (G6 i) (C6 i) (S7 i)
  up : ∀ i j, i < j → j < n → G6 i < G6 j
theorem FMr.low {w w' : World} {g n : Nat} {Q : Nat → PV} {S4 S5 : Nat → Value} {G6 C6 : Nat → Nat} {S7 : Nat → Value} (h : FMr w g n Q S4 S5 G6 C6 S7) {B : Nat} (hb : Below B w w') (hB : w.heap.size ≤ B) : FMr w' g n Q S4 S5 G6 C6 S7 :=
  ⟨h.row.low hb (Nat.lt_of_lt_of_le h.row.lt hB), fun i hi => (h.fn i hi).low hb hB, h.up⟩
theorem fnF_at (Q : Nat → PV) (S4 S5 : Nat → Value) (G6 C6 : Nat → Nat) (S7 : Nat → Value) (i r : Nat) (hr : r < 8) : fnF Q S4 S5 G6 C6 S7 (i * 8 + r) = (fnC (Q i) (S4 i) (S5 i) (G6 i) (C6 i) (S7 i)).getD r (.bool false) := by
  unfold fnF
  rw [show (i * 8 + r) / 8 = i by omega, show (i * 8 + r) % 8 = r by omega]
theorem FMr.cell {w : World} {g n : Nat} {Q : Nat → PV} {S4 S5 : Nat → Value} {G6 C6 : Nat → Nat} {S7 : Nat → Value} (h : FMr w g n Q S4 S5 G6 C6 S7) {i r : Nat} (hi : i < n) (hr : r < 8) : w.cell? ⟨g, i * 8 + r, none⟩ = some ((fnC (Q i) (S4 i) (S5 i) (G6 i) (C6 i) (S7 i)).getD r (.bool false)) := by
  rw [h.row.cell (j := i * 8 + r) (by omega), fnF_at _ _ _ _ _ _ _ _ hr]
theorem FMs.to_r {w : World} {base n : Nat} {v : Value} {Q : Nat → PV} {S4 S5 : Nat → Value} {G6 C6 : Nat → Nat} {S7 : Nat → Value} (h : FMs w base v n Q S4 S5 G6 C6 S7) (hn : 1 ≤ n) : ∃ g cap, v = .slice (some ⟨g, 0, none⟩) n cap ∧ base ≤ g ∧ n ≤ cap ∧ FMr w g n Q S4 S5 G6 C6 S7 := by
  have hrow := h.row
  obtain ⟨h1, ⟨rfl, h2⟩ | ⟨g, cap, cur, rfl, hb, hg, hr⟩⟩ := hrow
  · omega
  · refine ⟨g, cap, rfl, hb, hr.1, (owns_rowF h.row rfl).congr (fun j hj => ?_), h.fn, h.up⟩
    have hd : j = j / 8 * 8 + j % 8 := by omega
    conv => lhs; rw [hd]
    rw [flat8_at (fun i => rfl) (by omega) _ _ (by rw [List.length_range]; omega)]
    unfold fnF
    have e : (List.range n).getD (j / 8) 0 = j / 8 := by
      rw [List.getD_eq_getElem?_getD, List.getElem?_range (by omega)]
      rfl
    rw [e]
theorem clN_0 (q : PV) (c : Nat) : clN q 0 c = false := rfl
theorem clN_not {q : PV} {m : Nat} (h : q.clOk m) : ∀ k, k ≤ q.ni → ∀ c, m ≤ c → clN q k c = false := by
  intro k
  induction k with
  | zero => intros; rfl
  | succ k ih =>
    intro hk c hc
    rw [clN_1, ih (by omega) c hc]
    by_cases e : q.i0 k = 32
    · have := h k (by omega) e
      simp [e]
      omega
    · simp [e]
theorem FM.keepI {w w' : World} {q : PV} {s4 s5 : Value} {g6 c6 : Nat} {s7 : Value} {gX N : Nat} {f : Nat → Value} (h : FM w q s4 s5 g6 c6 s7) (k : Keeps w w' (fun b => b = gX)) (hX : RowF w 51 gX N f) (hne : g6 ≠ gX) : FM w' q s4 s5 g6 c6 s7 := by
  refine ⟨h.u.keep k (fun b e hb => ?_), h.c.keep k (fun b e hb => ?_), h.i.keep k hne, h.cap, SlF.keep h.l k (fun b e hb => ?_)⟩
  · subst hb; exact (h.u.own e).apart hX (by decide) rfl
  · subst hb; exact (h.c.own e).apart hX (by decide) rfl
  · subst hb; exact (SlF.own h.l e).apart hX (by decide) rfl
theorem FM.code {w w' : World} {q : PV} {s4 s5 : Value} {g6 c6 : Nat} {s7 : Value} {N : Nat} {f : Nat → Value} (h : FM w q s4 s5 g6 c6 s7) (k : Keeps w w' (fun b => b = g6)) (hX : RowF w 51 g6 N f) {i2 : Nat → Int} (hi : InsO w' g6 q.ni q.i0 q.i1 i2 q.i3) : FM w' { q with i2 := i2 } s4 s5 g6 c6 s7 := by
  refine ⟨h.u.keep k (fun b e hb => ?_), h.c.keep k (fun b e hb => ?_), hi, h.cap, SlF.keep h.l k (fun b e hb => ?_)⟩
  · subst hb; exact (h.u.own e).apart hX (by decide) rfl
  · subst hb; exact (h.c.own e).apart hX (by decide) rfl
  · subst hb; exact (SlF.own h.l e).apart hX (by decide) rfl
def PV.renJ (s : Nat → Bool) (j : Nat) (q : PV) : PV := { q with i2 := fun x => if x < j ∧ q.i0 x = 32 then (cnt s (q.i2 x).toNat : Int) else q.i2 x }
theorem renJ_0 (s : Nat → Bool) (q : PV) : q.renJ s 0 = q := by
  unfold PV.renJ
  simp
theorem renJ_end {w : World} {s : Nat → Bool} {q : PV} {s4 s5 : Value} {g6 c6 : Nat} {s7 : Value} (h : FM w (q.renJ s q.ni) s4 s5 g6 c6 s7) : FM w (q.ren s) s4 s5 g6 c6 s7 :=
  ⟨h.u, h.c, h.i.congr (fun _ _ => rfl) (fun _ _ => rfl) (fun z hz => by
    have hz' : z < q.ni := hz
    refine Eq.symm ?_
    show (if z < q.ni ∧ q.i0 z = 32 then _ else _) = if q.i0 z = 32 then _ else _
    by_cases e : q.i0 z = 32
    · rw [if_pos ⟨hz', e⟩, if_pos e]
    · rw [if_neg (fun x => e x.2), if_neg e]) (fun _ _ => rfl), h.cap, h.l⟩
structure OO (w : World) (g5 gU gP gO base n : Nat) (Q : Nat → PV) (U : Nat → Bool) (S4 S5 : Nat → Value) (G6 C6 : Nat → Nat) (S7 : Nat → Value) (X : Nat → PV) (k i : Nat) (v : Value) : Prop where
  row : RowF w 45 g5 (n * 8) (fnF Q S4 S5 G6 C6 S7)
  fn : ∀ c, c < n → FM w (X c) (S4 c) (S5 c) (G6 c) (C6 c) (S7 c)
  up : ∀ a b, a < b → b < n → G6 a < G6 b
  pl : RowF w 3 gP (n * 1) (fun c => .int .i64 (if c < k then (cnt U c : Int) else 0))
  us : BoolO w gU n U
  cell : RowF w 28 gO 1 (fun _ => v)
  out : w.ownsRow base 45 8 v (cnt U i) ((List.range (cnt U i)).flatMap fun j => fnC (Q (kpAt U n j)) (S4 (kpAt U n j)) (S5 (kpAt U n j)) (G6 (kpAt U n j)) (C6 (kpAt U n j)) (S7 (kpAt U n j)))
  bas : g5 < base
  ln : ∀ c, c < n → ∀ b, (S7 c).ownBlock = some b → b < gP
theorem OO.low {w w' : World} {g5 gU gP gO base n : Nat} {Q : Nat → PV} {U : Nat → Bool} {S4 S5 : Nat → Value} {G6 C6 : Nat → Nat} {S7 : Nat → Value} {X : Nat → PV} {k i : Nat} {v : Value} (h : OO w g5 gU gP gO base n Q U S4 S5 G6 C6 S7 X k i v) (hb : Below w.heap.size w w') : OO w' g5 gU gP gO base n Q U S4 S5 G6 C6 S7 X k i v :=
  ⟨h.row.low hb h.row.lt, fun c hc => (h.fn c hc).low hb (Nat.le_refl _), h.up, h.pl.low hb h.pl.lt, RowF.low h.us hb (RowF.lt h.us), h.cell.low hb h.cell.lt, owns_low h.out hb, h.bas, h.ln⟩
theorem up_ne {n : Nat} {G6 : Nat → Nat} (h : ∀ a b, a < b → b < n → G6 a < G6 b) {a b : Nat} (ha : a < n) (hb : b < n) (hne : a ≠ b) : G6 a ≠ G6 b := by
  rcases Nat.lt_or_gt_of_ne hne with c | c
  · have := h a b c hb; omega
  · have := h b a c ha; omega
theorem OO.turn {w : World} {g5 gU gP gO base n : Nat} {Q : Nat → PV} {U : Nat → Bool} {S4 S5 : Nat → Value} {G6 C6 : Nat → Nat} {S7 : Nat → Value} {X : Nat → PV} {k i : Nat} {v : Value} {q : PV} {c j : Nat} (h : OO w g5 gU gP gO base n Q U S4 S5 G6 C6 S7 (fun a => if a = c then q.renJ U j else X a) k i v) (hc : c < n) (hj : j < q.ni) (h32 : q.i0 j = 32) {z : Nat} (hz : q.i2 j = (z : Int)) :
    OO (w.setCell ⟨G6 c, j * 4 + 2, none⟩ (.int .i64 (cnt U z : Int))) g5 gU gP gO base n Q U S4 S5 G6 C6 S7 (fun a => if a = c then q.renJ U (j + 1) else X a) k i v := by
  have hk : Keeps w (w.setCell ⟨G6 c, j * 4 + 2, none⟩ (.int .i64 (cnt U z : Int))) (fun b => b = G6 c) := (Keeps.refl w (fun b => b = G6 c)).setCell (j := j * 4 + 2) rfl _
  have hfc := h.fn c hc
  simp only [if_true] at hfc
  have hrow := hfc.i
  obtain ⟨f, hr, hr2⟩ := hfc.i
  have hset : InsO (w.setCell ⟨G6 c, j * 4 + 2, none⟩ (.int .i64 (cnt U z : Int))) (G6 c) q.ni q.i0 q.i1 (q.renJ U (j + 1)).i2 q.i3 := (hrow.set2 hj (cnt U z : Int)).congr (fun _ _ => rfl) (fun _ _ => rfl) (fun x hx => by
    refine Eq.symm ?_
    show (if x = j then _ else (if x < j ∧ q.i0 x = 32 then _ else _)) = if x < j + 1 ∧ q.i0 x = 32 then _ else _
    by_cases e : x = j
    · subst e
      rw [if_pos rfl, if_pos ⟨by omega, h32⟩, hz]
      rfl
    · rw [if_neg e]
      by_cases e2 : x < j ∧ q.i0 x = 32
      · rw [if_pos e2, if_pos ⟨by omega, e2.2⟩]
      · rw [if_neg e2, if_neg (fun x => e2 ⟨by omega, x.2⟩)]) (fun _ _ => rfl)
  refine ⟨h.row.keep hk (fun e => ?_), fun a ha => ?_, h.up, h.pl.keep hk (fun e => ?_), RowF.keep h.us hk (fun e => ?_), h.cell.keep hk (fun e => ?_), owns_past h.out hk (fun g e hg => ?_), h.bas, h.ln⟩
  · exact h.row.apart hr (by decide) e
  · by_cases e : a = c
    · subst e
      simp only [if_true]
      exact hfc.code hk hr hset
    · have := h.fn a ha
      simp only [if_neg e] at this ⊢
      exact this.keepI hk hr (up_ne h.up ha hc e)
  · exact h.pl.apart hr (by decide) e
  · exact RowF.apart h.us hr (by decide) e
  · exact h.cell.apart hr (by decide) e
  · exact owns_apart h.out hr (by decide) (by rw [e, hg])
theorem OO.place {w : World} {g5 gU gP gO base n : Nat} {Q : Nat → PV} {U : Nat → Bool} {S4 S5 : Nat → Value} {G6 C6 : Nat → Nat} {S7 : Nat → Value} {X : Nat → PV} {k : Nat} {v : Value} (h : OO w g5 gU gP gO base n Q U S4 S5 G6 C6 S7 X k k v) (hk : k < n) :
    OO (w.setCell ⟨gP, k, none⟩ (.int .i64 (cnt U k : Int))) g5 gU gP gO base n Q U S4 S5 G6 C6 S7 X (k + 1) k v := by
  have hkk : Keeps w (w.setCell ⟨gP, k, none⟩ (.int .i64 (cnt U k : Int))) (fun b => b = gP) := (Keeps.refl w (fun b => b = gP)).setCell (j := k) rfl _
  refine ⟨h.row.keep hkk (fun e => ?_), fun a ha => ?_, h.up, (h.pl.set (j := k) (by omega) _).congr (fun c hc => ?_), RowF.keep h.us hkk (fun e => ?_), h.cell.keep hkk (fun e => ?_), owns_past h.out hkk (fun g e hg => ?_), h.bas, h.ln⟩
  · exact h.row.apart h.pl (by decide) e
  · have hf := h.fn a ha
    obtain ⟨f, hr, _⟩ := hf.i
    refine ⟨hf.u.keep hkk (fun b e hb => ?_), hf.c.keep hkk (fun b e hb => ?_), hf.i.keep hkk (fun e => ?_), hf.cap, SlF.keep hf.l hkk (fun b e hb => ?_)⟩
    · subst hb; exact (hf.u.own e).apart h.pl (by decide) rfl
    · subst hb; exact (hf.c.own e).apart h.pl (by decide) rfl
    · exact hr.apart h.pl (by decide) e
    · subst hb; exact absurd (h.ln a ha b e) (Nat.lt_irrefl _)
  · by_cases e : c = k
    · subst e; simp
    · rw [if_neg e]
      by_cases e2 : c < k
      · rw [if_pos e2, if_pos (by omega)]
      · rw [if_neg e2, if_neg (by omega)]
  · exact RowF.apart h.us h.pl (by decide) e
  · exact h.cell.apart h.pl (by decide) e
  · exact owns_apart h.out h.pl (by decide) (by rw [e, hg])
theorem cnt_on {U : Nat → Bool} {i : Nat} (h : U i = true) : cnt U (i + 1) = cnt U i + 1 := by rw [cnt_1, h]; rfl
theorem cnt_off {U : Nat → Bool} {i : Nat} (h : U i = false) : cnt U (i + 1) = cnt U i := by rw [cnt_1, h]; rfl
theorem OO.skip {w : World} {g5 gU gP gO base n : Nat} {Q : Nat → PV} {U : Nat → Bool} {S4 S5 : Nat → Value} {G6 C6 : Nat → Nat} {S7 : Nat → Value} {X : Nat → PV} {k i : Nat} {v : Value} (h : OO w g5 gU gP gO base n Q U S4 S5 G6 C6 S7 X k i v) (hu : U i = false) :
    OO w g5 gU gP gO base n Q U S4 S5 G6 C6 S7 X k (i + 1) v :=
  ⟨h.row, h.fn, h.up, h.pl, h.us, h.cell, by rw [cnt_off hu]; exact h.out, h.bas, h.ln⟩
theorem OO.give {w w' : World} {g5 gU gP gO base n : Nat} {Q : Nat → PV} {U : Nat → Bool} {S4 S5 : Nat → Value} {G6 C6 : Nat → Nat} {S7 : Nat → Value} {X : Nat → PV} {k i : Nat} {v v' : Value} (h : OO w g5 gU gP gO base n Q U S4 S5 G6 C6 S7 X k i v) (hi : i < n) (hu : U i = true)
    (hr : w'.ownsRow base 45 8 v' (cnt U i + 1) (((List.range (cnt U i)).flatMap fun j => fnC (Q (kpAt U n j)) (S4 (kpAt U n j)) (S5 (kpAt U n j)) (G6 (kpAt U n j)) (C6 (kpAt U n j)) (S7 (kpAt U n j))) ++ fnC (Q i) (S4 i) (S5 i) (G6 i) (C6 i) (S7 i)))
    (hk : Keeps w w' (fun b => v.ownBlock = some b)) :
    OO (w'.setCell ⟨gO, 0, none⟩ v') g5 gU gP gO base n Q U S4 S5 G6 C6 S7 X k (i + 1) v' := by
  have hne : ∀ b, v.ownBlock = some b → base ≤ b := fun b e => (owns_blk h.out e).1
  have hS : ∀ b, v.ownBlock = some b → ∃ N f, RowF w 45 b N f := fun b e => ⟨_, _, owns_rowF h.out e⟩
  have hcell : RowF w' 28 gO 1 (fun _ => v) := h.cell.keep hk (fun e => by obtain ⟨N, f, hr⟩ := hS _ e; exact h.cell.apart hr (by decide) rfl)
  have hk2 : Keeps w' (w'.setCell ⟨gO, 0, none⟩ v') (fun b => b = gO) := (Keeps.refl w' (fun b => b = gO)).setCell (j := 0) rfl _
  have hrow : RowF w' 45 g5 (n * 8) (fnF Q S4 S5 G6 C6 S7) := h.row.keep hk (fun e => by have := hne _ e; have := h.bas; omega)
  have hpl := h.pl.keep hk (fun e => by obtain ⟨N, f, hr⟩ := hS _ e; exact h.pl.apart hr (by decide) rfl)
  have hus := RowF.keep h.us hk (fun e => by obtain ⟨N, f, hr⟩ := hS _ e; exact RowF.apart h.us hr (by decide) rfl)
  refine ⟨hrow.keep hk2 (fun e => hrow.apart hcell (by decide) e), fun a ha => ?_, h.up, hpl.keep hk2 (fun e => hpl.apart hcell (by decide) e), RowF.keep hus hk2 (fun e => RowF.apart hus hcell (by decide) e), (hcell.set (j := 0) (by omega) v').congr (fun j hj => by rw [if_pos (by omega)]), ?_, h.bas, h.ln⟩
  · have hf := (h.fn a ha).keep hk hS
    obtain ⟨f, hr, _⟩ := hf.i
    refine ⟨hf.u.keep hk2 (fun b e hb => ?_), hf.c.keep hk2 (fun b e hb => ?_), hf.i.keep hk2 (fun e => ?_), hf.cap, SlF.keep hf.l hk2 (fun b e hb => ?_)⟩
    · subst hb; exact (hf.u.own e).apart hcell (by decide) rfl
    · subst hb; exact (hf.c.own e).apart hcell (by decide) rfl
    · exact hr.apart hcell (by decide) e
    · subst hb; exact (SlF.own hf.l e).apart hcell (by decide) rfl
  · rw [cnt_on hu]
    have e : ((List.range (cnt U i + 1)).flatMap fun j => fnC (Q (kpAt U n j)) (S4 (kpAt U n j)) (S5 (kpAt U n j)) (G6 (kpAt U n j)) (C6 (kpAt U n j)) (S7 (kpAt U n j))) = ((List.range (cnt U i)).flatMap fun j => fnC (Q (kpAt U n j)) (S4 (kpAt U n j)) (S5 (kpAt U n j)) (G6 (kpAt U n j)) (C6 (kpAt U n j)) (S7 (kpAt U n j))) ++ fnC (Q i) (S4 i) (S5 i) (G6 i) (C6 i) (S7 i) := by
      rw [List.range_succ, List.flatMap_append]
      congr 1
      simp [kpAt_cnt hu hi]
    rw [e]
    exact owns_past hr hk2 (fun g e hg => owns_apart hr hcell (by decide) (by rw [e, hg]))
theorem OO.pros {w : World} {g5 gU gP gO base n : Nat} {Q : Nat → PV} {U : Nat → Bool} {S4 S5 : Nat → Value} {G6 C6 : Nat → Nat} {S7 : Nat → Value} {X : Nat → PV} {k : Nat} {v : Value} (h : OO w g5 gU gP gO base n Q U S4 S5 G6 C6 S7 X k n v) (hX : ∀ c, c < n → U c = true → X c = (Q c).ren U) :
    ProsA w v (cnt U n) (fun j => (Q (kpAt U n j)).ren U) := by
  have ho := h.out
  obtain ⟨h1, ⟨rfl, h2⟩ | ⟨g, cap, cur, rfl, hb, hg, hr⟩⟩ := ho
  · exact .inl ⟨h2, none, 0, rfl⟩
  · have hrow := owns_rowF h.out rfl
    refine .inr ⟨g, 0, cap, rfl, hrow.lt, hr.1, fun j hj => ?_⟩
    obtain ⟨hu, hkn⟩ := kpAt_mem hj
    have hf := h.fn _ hkn
    rw [hX _ hkn hu] at hf
    have e : ∀ r, r < 8 → w.cell? ⟨g, 0 + j * 8 + r, none⟩ = some ((fnC (Q (kpAt U n j)) (S4 (kpAt U n j)) (S5 (kpAt U n j)) (G6 (kpAt U n j)) (C6 (kpAt U n j)) (S7 (kpAt U n j))).getD r (.bool false)) := fun r hr => by
      rw [Nat.zero_add, hrow.cell (j := j * 8 + r) (by omega), flat8_at (fun i => rfl) hr _ _ (by rw [List.length_range]; omega)]
      have e : (List.range (cnt U n)).getD j 0 = j := by
        rw [List.getD_eq_getElem?_getD, List.getElem?_range hj]
        rfl
      rw [e]
    exact ⟨_, _, _, _, ⟨e 0 (by omega), e 1 (by omega), e 2 (by omega), e 3 (by omega), e 4 (by omega), e 5 (by omega), e 6 (by omega), e 7 (by omega)⟩, hf.pva⟩
theorem OO.map {w : World} {g5 gU gP gO base n : Nat} {Q : Nat → PV} {U : Nat → Bool} {S4 S5 : Nat → Value} {G6 C6 : Nat → Nat} {S7 : Nat → Value} {X Y : Nat → PV} {k i : Nat} {v : Value} (h : OO w g5 gU gP gO base n Q U S4 S5 G6 C6 S7 X k i v) (hY : ∀ c, c < n → FM w (Y c) (S4 c) (S5 c) (G6 c) (C6 c) (S7 c)) : OO w g5 gU gP gO base n Q U S4 S5 G6 C6 S7 Y k i v :=
  ⟨h.row, hY, h.up, h.pl, h.us, h.cell, h.out, h.bas, h.ln⟩
theorem OO.pros2 {w w' : World} {g5 gU gP gO base n : Nat} {Q : Nat → PV} {U : Nat → Bool} {S4 S5 : Nat → Value} {G6 C6 : Nat → Nat} {S7 : Nat → Value} {X : Nat → PV} {k : Nat} {v : Value} {S : Nat → Prop} (h : OO w g5 gU gP gO base n Q U S4 S5 G6 C6 S7 X k n v) (hX : ∀ c, c < n → U c = true → X c = (Q c).ren U)
    (hk : Keeps w w' S) (hS : ∀ b, S b → ∃ T N f, RowF w T b N f ∧ 104 ≠ T ∧ 81 ≠ T ∧ 51 ≠ T ∧ 3 ≠ T ∧ 45 ≠ T ∧ 4 ≠ T) (hc : ¬ S gO) : ProsA w' v (cnt U n) (fun j => (Q (kpAt U n j)).ren U) := by
  refine OO.pros (w := w') (g5 := g5) (gU := gU) (gP := gP) (gO := gO) (base := base) (S4 := S4) (S5 := S5) (G6 := G6) (C6 := C6) (S7 := S7) (X := X) (k := k) ⟨h.row.keep hk (fun e => ?_), fun a ha => ?_, h.up, h.pl.keep hk (fun e => ?_), RowF.keep h.us hk (fun e => ?_), h.cell.keep hk hc, owns_past h.out hk (fun g e hg => ?_), h.bas, h.ln⟩ hX
  · obtain ⟨T, N, f, hr, _, _, _, _, t, _⟩ := hS _ e; exact h.row.apart hr t rfl
  · have hf := h.fn a ha
    obtain ⟨f0, hr0, _⟩ := hf.i
    refine ⟨hf.u.keep hk (fun b e hb => ?_), hf.c.keep hk (fun b e hb => ?_), hf.i.keep hk (fun e => ?_), hf.cap, SlF.keep hf.l hk (fun b e hb => ?_)⟩
    · obtain ⟨T, N, f, hr, t, _⟩ := hS _ hb; exact (hf.u.own e).apart hr t rfl
    · obtain ⟨T, N, f, hr, _, t, _⟩ := hS _ hb; exact (hf.c.own e).apart hr t rfl
    · obtain ⟨T, N, f, hr, _, _, t, _⟩ := hS _ e; exact hr0.apart hr t rfl
    · obtain ⟨T, N, f, hr, _, _, _, t, _⟩ := hS _ hb; exact (SlF.own hf.l e).apart hr t rfl
  · obtain ⟨T, N, f, hr, _, _, _, t, _⟩ := hS _ e; exact h.pl.apart hr t rfl
  · obtain ⟨T, N, f, hr, _, _, _, _, _, t⟩ := hS _ e; exact RowF.apart h.us hr t rfl
  · obtain ⟨T, N, f, hr, _, _, _, _, t, _⟩ := hS _ hg; exact owns_apart h.out hr t e
end Go.Proofs.YtgnbhhgpaldheaaGreat
