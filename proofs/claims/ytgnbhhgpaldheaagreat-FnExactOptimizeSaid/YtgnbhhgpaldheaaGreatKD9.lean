import Derived.Test.YtgnbhhgpaldheaaGreatKD8
namespace Go.Proofs.YtgnbhhgpaldheaaGreat
open Go Go.RowKit
set_option linter.unusedVariables false
def PV.cf (p : PV) : Cf := cfI p.ni p.i0 p.i1 p.i2
def PV.pay (p : PV) (k : Nat) : Int × Int × Int × Int := (p.i1 k, if jmp (p.i0 k) = true then 0 else p.i2 k, p.i3 k, p.l0 k)
structure PV.Good (p : PV) : Prop where
  ok : p.cf.Ok
  pos : ∀ k, k < p.ni → jmp (p.i0 k) = true → 0 ≤ p.i2 k
  nl : p.nl = p.ni
  le : p.ni ≤ 1048576
def PV.thr (p : PV) : PV := { p with i2 := goals p.i0 p.i2 p.cf.all }
theorem thr_b0 : ∀ (l : List Nat) (c : Cf) (k : Nat), jmp (c.op k) = false → (c.thr l).b k = c.b k
  | [], c, k, _ => rfl
  | q :: l, c, k, h => by
    show ((c.thr1 q).thr l).b k = _
    have sb := Sb.thr1 c q
    rw [thr_b0 l (c.thr1 q) k (by rw [sb.op]; exact h)]
    unfold Cf.thr1
    split
    · rename_i z
      show (if k = q then _ else c.b k) = _
      rw [if_neg (fun e => by
        subst e
        unfold Cf.jl at z
        rw [Bool.and_eq_true] at z
        rw [h] at z
        cases z.2)]
    · rfl
theorem thr_cf (p : PV) : p.thr.cf = p.cf.all := by
  have sb := all_Sb p.cf
  have hb : p.cf.all.b = fun k => (goals p.i0 p.i2 p.cf.all k).toNat := by
    funext k
    unfold goals
    cases h : jmp (p.i0 k) with
    | true => simp
    | false => simp only [if_neg (show ¬ false = true by decide)]; exact thr_b0 _ p.cf k h
  have hm : p.cf.mv = fun k => p.i0 k == 2 && p.i1 k == goals p.i0 p.i2 p.cf.all k := by
    funext k
    show (p.i0 k == 2 && p.i1 k == p.i2 k) = _
    unfold goals
    cases h : jmp (p.i0 k) with
    | false => rfl
    | true =>
      have : (p.i0 k == 2) = false := by
        rw [beq_eq_false_iff_ne]
        intro e
        rw [e] at h
        cases h
      rw [this, Bool.false_and, Bool.false_and]
  have e : p.cf.all = ⟨p.cf.all.n, p.cf.all.op, p.cf.all.a, p.cf.all.b, p.cf.all.lf, p.cf.all.mv⟩ := rfl
  rw [e, sb.n, sb.op, sb.a, sb.lf, sb.mv, hb, hm]
  rfl
theorem thr_pay (p : PV) : p.thr.pay = p.pay := by
  funext k
  unfold PV.pay
  show (p.i1 k, if jmp (p.i0 k) = true then 0 else goals p.i0 p.i2 p.cf.all k, p.i3 k, p.l0 k) = _
  unfold goals
  cases h : jmp (p.i0 k) <;> simp
theorem cf_L {p : PV} {k : Nat} : p.cf.L k ↔ k < p.ni := cfI_L
theorem PV.Good.thr {p : PV} (h : p.Good) : p.thr.Good := by
  refine ⟨by rw [thr_cf]; exact (all_St h.ok).1, fun k hk hj => ?_, h.nl, h.le⟩
  show 0 ≤ goals p.i0 p.i2 p.cf.all k
  unfold goals
  rw [if_pos (show jmp (p.i0 k) = true from hj)]
  omega
def kpAt (s : Nat → Bool) (m j : Nat) : Nat := (kp s m).getD j 0
theorem kp_at {s : Nat → Bool} {p : Nat} (hs : s p = true) : ∀ {m : Nat}, p < m → (kp s m)[cnt s p]? = some p ∧ cnt s p < cnt s m
  | 0, h => by omega
  | m + 1, h => by
    rw [kp_1, cnt_1]
    by_cases e : p = m
    · subst e
      rw [hs]
      refine ⟨?_, by simp⟩
      show (kp s p ++ [p])[(kp s p).length]? = some p
      simp
    · obtain ⟨h1, h2⟩ := kp_at hs (m := m) (by omega)
      refine ⟨?_, by omega⟩
      rw [List.getElem?_append_left h2]
      exact h1
theorem kpAt_cnt {s : Nat → Bool} {p m : Nat} (hs : s p = true) (h : p < m) : kpAt s m (cnt s p) = p := by
  unfold kpAt
  rw [List.getD_eq_getElem?_getD, (kp_at hs h).1]
  rfl
theorem kpAt_mem {s : Nat → Bool} {m j : Nat} (h : j < cnt s m) : s (kpAt s m j) = true ∧ kpAt s m j < m := by
  have : kpAt s m j ∈ kp s m := by
    unfold kpAt
    rw [List.getD_eq_getElem?_getD, List.getElem?_eq_getElem h]
    exact List.getElem_mem h
  unfold kp at this
  rw [List.mem_filter, List.mem_range] at this
  exact ⟨this.2, this.1⟩
def PV.kep (p : PV) (s : Nat → Bool) : PV := { p with
  ni := cnt s p.ni
  nl := cnt s p.ni
  i0 := fun j => p.i0 (kpAt s p.ni j)
  i1 := fun j => p.i1 (kpAt s p.ni j)
  i2 := fun j => if jmp (p.i0 (kpAt s p.ni j)) = true then (cnt s (p.i2 (kpAt s p.ni j)).toNat : Int) else p.i2 (kpAt s p.ni j)
  i3 := fun j => p.i3 (kpAt s p.ni j)
  l0 := fun j => p.l0 (kpAt s p.ni j) }
theorem rk_cnt {p : PV} {D s : Nat → Bool} (hd : ∀ k, k < p.ni → s k = !D k) : ∀ m, m ≤ p.ni → (p.cf.cut D).rk m = cnt s m
  | 0, _ => rfl
  | m + 1, h => by
    rw [rk_on, cnt_1, rk_cnt hd m (by omega), hd m (by omega)]
    show _ + (if (true && !D m) = true then 1 else 0) = _
    rw [Bool.true_and]
theorem kep_cmp {p : PV} {D s : Nat → Bool} (h : p.Good) (hd : ∀ k, k < p.ni → s k = !D k) : Cmp (p.cf.cut D) (p.kep s).cf ∧ ∀ q, (p.cf.cut D).L q → (p.kep s).pay ((p.cf.cut D).rk q) = p.pay q := by
  have at_ : ∀ q, (p.cf.cut D).L q → kpAt s p.ni ((p.cf.cut D).rk q) = q ∧ q < p.ni ∧ s q = true := fun q hq => by
    obtain ⟨h1, h2⟩ := cut_L.1 hq
    have hqn := cf_L.1 h1
    have hs : s q = true := by rw [hd q hqn, h2]; rfl
    rw [rk_cnt hd q (Nat.le_of_lt hqn)]
    exact ⟨kpAt_cnt hs hqn, hqn, hs⟩
  refine ⟨⟨(rk_cnt hd p.ni (Nat.le_refl _)).symm, fun _ _ => rfl, fun q hq => ?_, fun q hq => ?_, fun q hq => ?_, fun q hq hj => ?_, fun k hk => ?_⟩, fun q hq => ?_⟩
  · show p.i0 (kpAt s p.ni _) = p.i0 q
    rw [(at_ q hq).1]
  · show p.i1 (kpAt s p.ni _) = p.i1 q
    rw [(at_ q hq).1]
  · show (p.i0 (kpAt s p.ni _) == 2 && p.i1 (kpAt s p.ni _) == (if jmp (p.i0 (kpAt s p.ni _)) = true then _ else _)) = (p.i0 q == 2 && p.i1 q == p.i2 q)
    rw [(at_ q hq).1]
    cases hj : jmp (p.i0 q) with
    | false => simp
    | true =>
      have : (p.i0 q == 2) = false := by
        rw [beq_eq_false_iff_ne]
        intro e
        rw [e] at hj
        cases hj
      rw [this, Bool.false_and, Bool.false_and]
  · have hj' : jmp (p.i0 q) = true := hj
    obtain ⟨e, hqn, hs⟩ := at_ q hq
    show ((if jmp (p.i0 (kpAt s p.ni _)) = true then (cnt s (p.i2 (kpAt s p.ni _)).toNat : Int) else _)).toNat = (p.cf.cut D).rk ((p.cf.drp D).nf (p.cf.b q))
    rw [e, if_pos hj']
    have hb := (h.ok.j q (cut_L.1 hq).1 hj).1.1
    have e2 : (p.cf.cut D).rk ((p.cf.drp D).nf (p.cf.b q)) = (p.cf.cut D).rk (p.cf.b q) := by
      have := rk_nf (c := p.cf.drp D) (p := p.cf.b q) (Nat.le_of_lt hb)
      exact this
    rw [e2, rk_cnt hd _ (Nat.le_of_lt hb)]
    exact Int.toNat_natCast _
  · have : (p.kep s).cf.mv k = ((p.kep s).i0 k == 2 && (p.kep s).i1 k == (p.kep s).i2 k) := rfl
    rw [this, Bool.and_eq_true] at hk
    show (p.kep s).i0 k = 2
    simpa using hk.1
  · unfold PV.pay
    show (p.i1 (kpAt s p.ni _), (if jmp (p.i0 (kpAt s p.ni _)) = true then 0 else (if jmp (p.i0 (kpAt s p.ni _)) = true then (cnt s (p.i2 (kpAt s p.ni _)).toNat : Int) else p.i2 (kpAt s p.ni _))), p.i3 (kpAt s p.ni _), p.l0 (kpAt s p.ni _)) = _
    rw [(at_ q hq).1]
    cases hj : jmp (p.i0 q) <;> simp
theorem PV.Good.kep {p : PV} {s : Nat → Bool} (h : p.Good) (ok : (p.kep s).cf.Ok) : (p.kep s).Good := by
  refine ⟨ok, fun k hk hj => ?_, rfl, Nat.le_trans (cnt_le s p.ni) h.le⟩
  show 0 ≤ (if jmp (p.i0 (kpAt s p.ni k)) = true then (cnt s (p.i2 (kpAt s p.ni k)).toNat : Int) else p.i2 (kpAt s p.ni k))
  rw [if_pos (show jmp (p.i0 (kpAt s p.ni k)) = true from hj)]
  omega
theorem codeK_at {s : Nat → Bool} {i0 i1 i2 i3 : Nat → Int} {m j : Nat} (h : j < cnt s m) {r : Nat} (hr : r < 4) : (codeK s i0 i1 i2 i3 m).getD (j * 4 + r) (.bool false) = (insK s i0 i1 i2 i3 (kpAt s m j)).getD r (.bool false) := by
  unfold codeK kpAt
  have key : ∀ (l : List Nat) (j : Nat), j < l.length → (l.flatMap (insK s i0 i1 i2 i3)).getD (j * 4 + r) (.bool false) = (insK s i0 i1 i2 i3 (l.getD j 0)).getD r (.bool false) := by
    intro l
    induction l with
    | nil => intro j hj; simp at hj
    | cons x l ih =>
      intro j hj
      rw [List.flatMap_cons]
      have hx : (insK s i0 i1 i2 i3 x).length = 4 := rfl
      cases j with
      | zero =>
        rw [List.getD_eq_getElem?_getD, List.getElem?_append_left (by omega)]
        rw [Nat.zero_mul, Nat.zero_add]
        rfl
      | succ j =>
        rw [List.getD_eq_getElem?_getD, List.getElem?_append_right (by omega), hx, show (j + 1) * 4 + r - 4 = j * 4 + r by omega, ← List.getD_eq_getElem?_getD]
        rw [ih j (by simpa using hj)]
        rfl
  exact key _ j h
theorem lineK_at {s : Nat → Bool} {l0 : Nat → Int} {m j : Nat} (h : j < cnt s m) : (lineK s l0 m).getD j (.bool false) = .int .i64 (l0 (kpAt s m j)) := by
  have h' : j < (kp s m).length := h
  unfold lineK kpAt
  simp [List.getD_eq_getElem?_getD, h']
theorem kep_ins {w : World} {base : Nat} {v : Value} {p : PV} {s : Nat → Bool} (h : w.ownsRow base 51 4 v (cnt s p.ni) (codeK s p.i0 p.i1 p.i2 p.i3 p.ni)) : InsA w v (p.kep s).ni (p.kep s).i0 (p.kep s).i1 (p.kep s).i2 (p.kep s).i3 := by
  obtain ⟨h1, ⟨rfl, h2⟩ | ⟨g, cap, cur, rfl, hb, hg, hr⟩⟩ := h
  · exact .inl ⟨h2, none, 0, rfl⟩
  · have hrow := rowF_owns (⟨h1, .inr ⟨g, cap, cur, rfl, hb, hg, hr⟩⟩ : w.ownsRow base 51 4 (.slice (some ⟨g, 0, none⟩) (cnt s p.ni) cap) (cnt s p.ni) (codeK s p.i0 p.i1 p.i2 p.i3 p.ni))
    refine .inr ⟨g, 0, cap, rfl, hrow.lt, hr.1, fun j hj => ?_⟩
    have hj' : j < cnt s p.ni := hj
    have e : ∀ r, r < 4 → w.cell? ⟨g, 0 + j * 4 + r, none⟩ = some ((insK s p.i0 p.i1 p.i2 p.i3 (kpAt s p.ni j)).getD r (.bool false)) := fun r hr => by
      rw [Nat.zero_add, hrow.cell (j := j * 4 + r) (by omega), codeK_at hj' hr]
    exact ⟨e 0 (by omega), e 1 (by omega), e 2 (by omega), e 3 (by omega)⟩
theorem kep_lines {w : World} {base : Nat} {v : Value} {p : PV} {s : Nat → Bool} (h : w.ownsRow base 3 1 v (cnt s p.ni) (lineK s p.l0 p.ni)) : IntsA w v (p.kep s).nl (p.kep s).l0 := by
  obtain ⟨h1, ⟨rfl, h2⟩ | ⟨g, cap, cur, rfl, hb, hg, hr⟩⟩ := h
  · exact .inl ⟨h2, none, 0, rfl⟩
  · have hrow := rowF_owns (⟨h1, .inr ⟨g, cap, cur, rfl, hb, hg, hr⟩⟩ : w.ownsRow base 3 1 (.slice (some ⟨g, 0, none⟩) (cnt s p.ni) cap) (cnt s p.ni) (lineK s p.l0 p.ni))
    refine .inr ⟨g, 0, cap, rfl, hrow.lt, hr.1, fun j hj => ?_⟩
    have hj' : j < cnt s p.ni := hj
    rw [Nat.zero_add, hrow.cell (j := j) (by omega), lineK_at hj']
    rfl
def LinF (w : World) (v : Value) (n : Nat) (l0 : Nat → Int) : Prop := SlF w 3 1 v n (fun j => .int .i64 (l0 j))
theorem LinF.a {w : World} {v : Value} {n : Nat} {l0 : Nat → Int} (h : LinF w v n l0) : IntsA w v n l0 := by
  obtain ⟨a, cap, rfl, hc, ⟨rfl, rfl⟩ | ⟨g, rfl, hr⟩⟩ := h
  · exact .inl ⟨rfl, none, cap, rfl⟩
  · exact .inr ⟨g, 0, cap, rfl, hr.lt, hc, fun j hj => by rw [Nat.zero_add]; exact hr.cell (j := j) (by omega)⟩
theorem kep_linesF {w : World} {base M : Nat} {v : Value} {p : PV} {s : Nat → Bool} (hM : cnt s p.ni = M) (h : w.ownsRow base 3 1 v M (lineK s p.l0 p.ni)) : LinF w v (p.kep s).nl (p.kep s).l0 := by
  subst hM
  obtain ⟨h1, ⟨rfl, h2⟩ | ⟨g, cap, cur, rfl, hb, hg, hr⟩⟩ := h
  · exact ⟨none, 0, by show _ = Value.slice none (cnt s p.ni) 0; rw [h2], by show cnt s p.ni ≤ 0; omega, .inl ⟨rfl, h2⟩⟩
  · have hrow := rowF_owns (⟨h1, .inr ⟨g, cap, cur, rfl, hb, hg, hr⟩⟩ : w.ownsRow base 3 1 (.slice (some ⟨g, 0, none⟩) (cnt s p.ni) cap) (cnt s p.ni) (lineK s p.l0 p.ni))
    exact ⟨_, cap, rfl, hr.1, .inr ⟨g, rfl, hrow.congr (fun j hj => by rw [Nat.mul_one] at hj; rw [lineK_at hj]; rfl)⟩⟩
def InsF (w : World) (v : Value) (n : Nat) (i0 i1 i2 i3 : Nat → Int) : Prop := SlF w 51 4 v n (insC i0 i1 i2 i3)
theorem InsF.a {w : World} {v : Value} {n : Nat} {i0 i1 i2 i3 : Nat → Int} (h : InsF w v n i0 i1 i2 i3) : InsA w v n i0 i1 i2 i3 := by
  obtain ⟨a, cap, rfl, hc, ⟨rfl, rfl⟩ | ⟨g, rfl, hr⟩⟩ := h
  · exact .inl ⟨rfl, none, cap, rfl⟩
  · refine .inr ⟨g, 0, cap, rfl, hr.lt, hc, fun j hj => ?_⟩
    rw [Nat.zero_add, hr.cell (j := j * 4) (by omega), hr.cell (j := j * 4 + 1) (by omega), hr.cell (j := j * 4 + 2) (by omega), hr.cell (j := j * 4 + 3) (by omega), insC_0, insC_1, insC_2, insC_3]
    exact ⟨rfl, rfl, rfl, rfl⟩
theorem kep_insF {w : World} {base M : Nat} {v : Value} {p : PV} {s : Nat → Bool} (hM : cnt s p.ni = M) (h : w.ownsRow base 51 4 v M (codeK s p.i0 p.i1 p.i2 p.i3 p.ni)) : InsF w v (p.kep s).ni (p.kep s).i0 (p.kep s).i1 (p.kep s).i2 (p.kep s).i3 := by
  subst hM
  obtain ⟨h1, ⟨rfl, h2⟩ | ⟨g, cap, cur, rfl, hb, hg, hr⟩⟩ := h
  · exact ⟨none, 0, by show _ = Value.slice none (cnt s p.ni) 0; rw [h2], by show cnt s p.ni ≤ 0; omega, .inl ⟨rfl, h2⟩⟩
  · have hrow := rowF_owns (⟨h1, .inr ⟨g, cap, cur, rfl, hb, hg, hr⟩⟩ : w.ownsRow base 51 4 (.slice (some ⟨g, 0, none⟩) (cnt s p.ni) cap) (cnt s p.ni) (codeK s p.i0 p.i1 p.i2 p.i3 p.ni))
    refine ⟨_, cap, rfl, hr.1, .inr ⟨g, rfl, hrow.congr (fun j hj => ?_)⟩⟩
    have hd : j = j / 4 * 4 + j % 4 := by omega
    have hj2 : j < cnt s p.ni * 4 := hj
    have hlt : j / 4 < cnt s p.ni := by omega
    conv => lhs; rw [hd]
    rw [codeK_at hlt (by omega)]
    unfold insC
    rcases (show j % 4 = 0 ∨ j % 4 = 1 ∨ j % 4 = 2 ∨ j % 4 = 3 by omega) with e | e | e | e <;> rw [e] <;> rfl
end Go.Proofs.YtgnbhhgpaldheaaGreat
