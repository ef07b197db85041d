import Derived.Test.YtgnbhhgpaldheaaGreatKOB
import Derived.RangeFuncNested
import Derived.RangeFuncBound
namespace Go.Proofs.YtgnbhhgpaldheaaGreat
open Go Go.RowKit
set_option linter.unusedVariables false
def IntsA (w : World) (v : Value) (n : Nat) (x0 : Nat → Int) : Prop :=
  (n = 0 ∧ ∃ a cap, v = .slice a 0 cap) ∨ ∃ b o cap, v = .slice (some ⟨b, o, none⟩) n cap ∧ b < w.heap.size ∧ n ≤ cap ∧ ∀ i, i < n → w.cell? ⟨b, o + i, none⟩ = some (.int .i64 (x0 i))
theorem IntsA.low {w w' : World} {v : Value} {n B : Nat} {x0 : Nat → Int} (h : IntsA w v n x0) (hb : Below B w w') (hB : w.heap.size ≤ B) : IntsA w' v n x0 := by
  rcases h with h | ⟨b, o, cap, rfl, hbB, hcap, hc⟩
  · exact .inl h
  · refine .inr ⟨b, o, cap, rfl, Nat.lt_of_lt_of_le hbB hb.size, hcap, fun i hi => ?_⟩
    have hc := hc i hi
    exact (hb.cell (p := ⟨b, o + i, none⟩) (Nat.lt_of_lt_of_le hbB hB)).trans hc
theorem IntsA.val {w : World} {v : Value} {n : Nat} {x0 : Nat → Int} (h : IntsA w v n x0) : ∃ a cap, v = .slice a n cap := by
  rcases h with ⟨rfl, a, cap, rfl⟩ | ⟨b, o, cap, rfl, _⟩
  · exact ⟨a, cap, rfl⟩
  · exact ⟨_, cap, rfl⟩
def IntsO (w : World) (g n : Nat) (x0 : Nat → Int) : Prop := ∃ f, RowF w 3 g (n * 1) f ∧ ∀ i, i < n → f (i) = (.int .i64 (x0 i))
theorem IntsO.by {w : World} {g n : Nat} {x0 : Nat → Int} (h : IntsO w g n x0) : IntsA w (.slice (some ⟨g, 0, none⟩) n n) n x0 := by
  obtain ⟨f, h1, h2⟩ := h
  refine .inr ⟨g, 0, n, rfl, h1.lt, Nat.le_refl _, fun i hi => ?_⟩
  have h2 := h2 i hi
  rw [Nat.zero_add, h1.cell (j := i) (by omega), h2]
theorem IntsO.low {w w' : World} {g n B : Nat} {x0 : Nat → Int} (h : IntsO w g n x0) (hb : Below B w w') (hg : g < B) : IntsO w' g n x0 := by
  obtain ⟨f, h1, h2⟩ := h
  exact ⟨f, h1.low hb hg, h2⟩
theorem IntsO.other {w : World} {g g' j n : Nat} {x0 : Nat → Int} {x : Value} (h : IntsO w g n x0) (hn : g ≠ g') : IntsO (w.setCell ⟨g', j, none⟩ x) g n x0 := by
  obtain ⟨f, h1, h2⟩ := h
  exact ⟨f, h1.other hn, h2⟩
theorem IntsO.lt {w : World} {g n : Nat} {x0 : Nat → Int} (h : IntsO w g n x0) : g < w.heap.size := by
  obtain ⟨f, h1, h2⟩ := h
  exact h1.lt
theorem Tryz.info3 : (Tryz.prog.info? 3).map (fun i => (i.zero, i.size, i.bytes)) = some (some (.int .i64 0), 1, 8) := by kernel_rfl
theorem Ints_step {n i : Nat} {f : Nat → Value} {x0 : Nat → Int} (h : ∀ k, k < i → f (k) = (.int .i64 (x0 k))) : ∀ k, k < i + 1 → (fun j => if j = i then (.int .i64 (x0 i)) else f j) (k) = (.int .i64 (x0 k)) := by
  intro k hk
  by_cases e : k = i
  · subst e
    simp
  · have := h k (by omega)
    exact (if_neg (by omega)).trans this
set_option maxHeartbeats 800000 in
set_option maxRecDepth 100000 in
theorem toIntS_any (v : Value) (n : Nat) (x0 : Nat → Int) (w : World) (hn : n ≤ 1048576) (h : IntsA w v n x0) :
    Calls Tryz.prog 80 #[v] w fun e w' => e = .returned (.slice (some ⟨w.heap.size, 0, none⟩) n n) ∧ IntsO w' w.heap.size n x0 ∧ Below w.heap.size w w' := by
  obtain ⟨i0, hi, hz0, hz1, hz2⟩ := info_parts Tryz.info3
  rcases h with ⟨rfl, a, cap, rfl⟩ | ⟨b, o, cap, rfl, hb, hcap, hc⟩
  · go_enter Tryz.func80, Tryz.ntmps80
    go_wp2_with (first
      | (at_make; refine wpList_make_full _ rfl _ _ 43 rfl w.heap.size 3 i0 (.int .i64 0) 1 Tryz.underlying43 hi hz0 hz1 _ _ _ _ 0 rfl rfl rfl rfl (by rw [hz2]; omega) (by unfold maxLen; omega) (Nat.le_refl _) ?_; intro w1 hown hgrow)
      | go_in)
    have hb1 : Below w.heap.size w w1 := (Below.refl _ _).grown hgrow (Nat.le_refl _) (fun _ h => by cases h)
    have HO := hide (rowF_owns hown)
    clear hgrow hown
    go_wp2
    go_loopw [4] (fun iv wr => iv = .int .i64 0 ∧ wr = w1) (fun _ _ => 0)
    case atStart => exact ⟨rfl, rfl⟩
    case round =>
      obtain ⟨rfl, rfl⟩ := hrel
      go_wp2
      go_ret
      exact ⟨rfl, ⟨_, HO.out, fun i hi => by omega⟩, hb1⟩
  · have HC := hide hc
    clear hc
    go_enter Tryz.func80, Tryz.ntmps80
    go_wp2_with (first
      | (at_make; refine wpList_make_full _ rfl _ _ 43 rfl w.heap.size 3 i0 (.int .i64 0) 1 Tryz.underlying43 hi hz0 hz1 _ _ _ _ n rfl rfl rfl rfl (by rw [hz2]; omega) (by unfold maxLen; omega) (Nat.le_refl _) ?_; intro w1 hown hgrow)
      | go_in)
    have hb1 : Below w.heap.size w w1 := (Below.refl _ _).grown hgrow (Nat.le_refl _) (fun _ h => by cases h)
    have HO := hide (rowF_owns hown)
    clear hgrow hown
    go_wp2
    go_loopw [4] (fun iv wr => ∃ i : Nat, i ≤ n ∧ iv = .int .i64 i ∧ (∃ f, RowF wr 3 w.heap.size (n * 1) f ∧ ∀ k, k < i → f (k) = (.int .i64 (x0 k))) ∧ Below w.heap.size w wr) (fun iv _ => match iv with | .int _ x => n - x.toNat | _ => 0)
    case atStart => exact ⟨0, by omega, rfl, ⟨_, HO.out, fun k hk => by omega⟩, hb1⟩
    case round =>
      clear HO hb1
      obtain ⟨i, hi9, rfl, ⟨f, hF, hf⟩, hbw⟩ := hrel
      by_cases hin : i < n
      · have c0 := (hbw.cell (p := ⟨b, o + i, none⟩) (by assumption)).trans (HC.out i hin)
        have hbw2 := hbw
        have hF2 := hF
        clear hF hbw
        have d0 := hF2.cell (j := i) (by omega)
        have z0 := hF2.frz (i)
        have HF := hide hf
        have HR := hide (hF2.set (j := i) (by omega) (.int .i64 (x0 i)))
        have HB := hide (hbw2.setCell (p := ⟨w.heap.size, i, none⟩) (Nat.le_refl _) (.int .i64 (x0 i)))
        clear hf hF2 hbw2
        go_wp2
        go_roundw
        case rel => exact ⟨i + 1, by omega, by simp, ⟨_, HR.out, Ints_step (n := n) HF.out⟩, HB.out⟩
        case measure => simp; omega
      · obtain rfl : i = n := by omega
        have HO := hide hF
        have HF := hide hf
        clear hF hf
        go_wp2
        go_ret
        exact ⟨rfl, ⟨f, HO.out, HF.out⟩, hbw⟩
set_option maxHeartbeats 800000 in
set_option maxRecDepth 100000 in
theorem eqIntS_any (v v' : Value) (n : Nat) (x0 : Nat → Int) (w : World) (hn : n ≤ 1048576) (h : IntsA w v n x0) (h' : IntsA w v' n x0) :
    Calls Tryz.prog 100 #[v, v'] w fun e w' => e = .returned (.bool true) ∧ Below w.heap.size w w' := by
  by_cases h0 : n = 0
  · subst h0
    obtain ⟨a, cap, rfl⟩ := h.val
    obtain ⟨a', cap', rfl⟩ := h'.val
    clear h h'
    go_enter Tryz.func100, Tryz.ntmps100
    go_wp2
    go_loopw [5] (fun iv wr => iv = .int .i64 0 ∧ wr = w) (fun _ _ => 0)
    case atStart => exact ⟨rfl, rfl⟩
    case round =>
      obtain ⟨rfl, rfl⟩ := hrel
      go_wp2
      go_ret
      exact ⟨rfl, Below.refl _ _⟩
  · rcases h with ⟨h9, _⟩ | ⟨b, o, cap, rfl, hb, hcap, hc⟩
    · exact absurd h9 h0
    rcases h' with ⟨h9, _⟩ | ⟨b', o', cap', rfl, hb', hcap', hc'⟩
    · exact absurd h9 h0
    have HC := hide hc
    have HC' := hide hc'
    clear hc hc'
    go_enter Tryz.func100, Tryz.ntmps100
    go_wp2
    go_loopw [5] (fun iv wr => ∃ i : Nat, i ≤ n ∧ iv = .int .i64 i ∧ Below w.heap.size w wr) (fun iv _ => match iv with | .int _ x => n - x.toNat | _ => 0)
    case atStart => exact ⟨0, by omega, rfl, Below.refl _ _⟩
    case round =>
      obtain ⟨i, hi9, rfl, hbw⟩ := hrel
      by_cases hin : i < n
      · have c0 := (hbw.cell (p := ⟨b, o + i, none⟩) (by assumption)).trans (HC.out i hin)
        have e0 := (hbw.cell (p := ⟨b', o' + i, none⟩) (by assumption)).trans (HC'.out i hin)
        go_wp2
        go_quiet (fail)
        go_wp2
        go_roundw
        case rel => exact ⟨i + 1, by omega, by simp, below_drw hbw _⟩
        case measure => simp; omega
      · obtain rfl : i = n := by omega
        go_wp2
        go_ret
        exact ⟨rfl, hbw⟩
end Go.Proofs.YtgnbhhgpaldheaaGreat
namespace Go.Proofs.YtgnbhhgpaldheaaGreat
set_option linter.unusedVariables false
def Cf.Cl (c : Cf) (S : Nat → Prop) : Prop := S (c.nf 0) ∧ ∀ p, c.L p → S p → (jmp (c.op p) = true → S (c.b p)) ∧ (awy (c.op p) = false → S (c.nx p))
def Cf.R (c : Cf) (p : Nat) : Prop := ∀ S, c.Cl S → S p
theorem R_first (c : Cf) : c.R (c.nf 0) := fun S h => h.1
theorem R_jump {c : Cf} {p : Nat} (hp : c.L p) (h : c.R p) (hj : jmp (c.op p) = true) : c.R (c.b p) := fun S k => (k.2 p hp (h S k)).1 hj
theorem R_next {c : Cf} {p : Nat} (hp : c.L p) (h : c.R p) (ha : awy (c.op p) = false) : c.R (c.nx p) := fun S k => (k.2 p hp (h S k)).2 ha
theorem Cf.Ok.RL {c : Cf} (h : c.Ok) {p : Nat} (hr : c.R p) : c.L p := hr c.L ⟨(Cf.nf_L h.e).1, fun p hp _ => ⟨fun hj => (h.j p hp hj).1, fun ha => (h.nx hp ha).1⟩⟩
def Cf.drp (c : Cf) (D : Nat → Bool) : Cf := { c with lf := fun p => c.lf p && !D p }
def Cf.cut (c : Cf) (D : Nat → Bool) : Cf := { c.drp D with b := fun p => (c.drp D).nf (c.b p) }
theorem cut_nf (c : Cf) (D : Nat → Bool) (p : Nat) : (c.cut D).nf p = (c.drp D).nf p := Cf.nf_congr (c := c.drp D) (d := c.cut D) rfl (fun _ _ => rfl) p
theorem drp_L {c : Cf} {D : Nat → Bool} {p : Nat} : (c.drp D).L p ↔ c.L p ∧ D p = false := by
  unfold Cf.L Cf.drp
  simp [and_assoc]
theorem cut_L {c : Cf} {D : Nat → Bool} {p : Nat} : (c.cut D).L p ↔ c.L p ∧ D p = false := drp_L (c := c) (D := D) (p := p)
theorem drp_nf {c : Cf} {D : Nat → Bool} {p : Nat} (hp : p ≤ c.n) : (c.drp D).nf (c.nf p) = (c.drp D).nf p := by
  have hle := Cf.nf_ge hp
  obtain ⟨k1, k2⟩ := (c.drp D).nf_out (c.nf p)
  symm
  refine Cf.nf_eq ?_ (fun r h1 h2 h3 => ?_) hp
  · rcases k1 with ⟨k1, k3⟩ | k1
    · exact .inl ⟨k1, by omega⟩
    · exact .inr k1
  · rcases Nat.lt_or_ge r (c.nf p) with d | d
    · exact (c.nf_out p).2 r h1 d (drp_L.1 h3).1
    · exact k2 r d h2 h3
theorem drp_self {c : Cf} {D : Nat → Bool} {p : Nat} (hp : c.L p) (hd : D p = false) : (c.drp D).nf p = p := Cf.nf_self (drp_L.2 ⟨hp, hd⟩)
theorem drp_gone {c : Cf} {D : Nat → Bool} {p : Nat} (hp : c.L p) (hd : D p = true) : (c.drp D).nf p = (c.drp D).nf (p + 1) := by
  obtain ⟨k1, k2⟩ := (c.drp D).nf_out (p + 1)
  refine Cf.nf_eq ?_ (fun r h1 h2 h3 => ?_) (Nat.le_of_lt hp.1)
  · rcases k1 with ⟨k1, k3⟩ | k1
    · exact .inl ⟨k1, by omega⟩
    · exact .inr k1
  · by_cases e : r = p
    · subst e; rw [(drp_L.1 h3).2] at hd; cases hd
    · exact k2 r (by omega) h2 h3
theorem Cf.Ok.cutR {c : Cf} (h : c.Ok) {D : Nat → Bool} (hD : ∀ p, c.L p → (D p = true ↔ ¬ c.R p)) : (c.cut D).Ok ∧ ∀ p, (c.cut D).L p → (c.cut D).R p := by
  have keep : ∀ p, c.R p → (c.cut D).L p ∧ (c.drp D).nf p = p := fun p hr => by
    have hl := h.RL hr
    have hd : D p = false := by
      cases e : D p with
      | false => rfl
      | true => exact (((hD p hl).1 e) hr).elim
    exact ⟨cut_L.2 ⟨hl, hd⟩, drp_self hl hd⟩
  have back : ∀ p, (c.cut D).L p → c.L p ∧ c.R p := fun p hp => by
    obtain ⟨h1, h2⟩ := cut_L.1 hp
    refine ⟨h1, Classical.byContradiction fun k => ?_⟩
    rw [(hD p h1).2 k] at h2
    cases h2
  have nxt : ∀ p, c.L p → c.R p → awy (c.op p) = false → (c.cut D).nx p = c.nx p := fun p hl hr ha => by
    show (c.cut D).nf (p + 1) = _
    rw [cut_nf, ← drp_nf (p := p + 1) hl.1]
    exact (keep _ (R_next hl hr ha)).2
  have fst : (c.cut D).nf 0 = c.nf 0 := by
    rw [cut_nf, ← drp_nf (Nat.zero_le _)]
    exact (keep _ (R_first c)).2
  have jp : ∀ p, c.L p → c.R p → jmp (c.op p) = true → (c.cut D).b p = c.b p := fun p hl hr hj => (keep _ (R_jump hl hr hj)).2
  have ok : (c.cut D).Ok := by
    refine ⟨fun p hp hj => ?_, fun p hp ha => ?_, ?_, h.m⟩
    · obtain ⟨h1, h2⟩ := back p hp
      rw [jp p h1 h2 hj]
      exact ⟨(keep _ (R_jump h1 h2 hj)).1, (h.j p h1 hj).2⟩
    · obtain ⟨h1, h2⟩ := back p hp
      rw [nxt p h1 h2 ha]
      exact h.f p h1 ha
    · rw [fst]; exact h.e
  refine ⟨ok, fun p hp => (back p hp).2 (c.cut D).R ⟨by rw [← fst]; exact R_first _, fun q hq hr => ?_⟩⟩
  have hl' := ok.RL hr
  obtain ⟨h1, h2⟩ := back q hl'
  exact ⟨fun hj => by rw [← jp q h1 h2 hj]; exact R_jump hl' hr hj, fun ha => by rw [← nxt q h1 h2 ha]; exact R_next hl' hr ha⟩
def Cf.idl (c : Cf) (p : Nat) : Bool := c.mv p || ((c.op p == 25 || chs (c.op p)) && c.b p == c.nx p)
theorem Cf.Ok.idl {c : Cf} (h : c.Ok) {p : Nat} (hp : c.L p) (hi : c.idl p = true) : c.L (c.nx p) ∧ p < c.nx p ∧ (jmp (c.op p) = true → c.b p = c.nx p) := by
  simp only [Cf.idl, Bool.or_eq_true, Bool.and_eq_true, beq_iff_eq] at hi
  rcases hi with k | ⟨k1, k2⟩
  · have ho := h.m p k
    have := h.nx hp (by rw [ho]; rfl)
    exact ⟨this.1, this.2, fun hj => by rw [ho] at hj; cases hj⟩
  · have hj : jmp (c.op p) = true := by
      rcases k1 with k | k
      · rw [k]; rfl
      · exact chs_jmp k
    have := (h.j p hp hj).1
    rw [k2] at this
    exact ⟨this, (Cf.nf_L this.1).2, fun _ => k2⟩
theorem Cf.Ok.cutI {c : Cf} (h : c.Ok) : (c.cut c.idl).Ok ∧ ((∀ p, c.L p → c.R p) → ∀ p, (c.cut c.idl).L p → (c.cut c.idl).R p) ∧ ∀ t, c.L t → (c.drp c.idl).L ((c.drp c.idl).nf t) ∧ t ≤ (c.drp c.idl).nf t := by
  have go : ∀ (k t : Nat), c.n - t ≤ k → c.L t → (c.drp c.idl).nf t < c.n := by
    intro k
    induction k with
    | zero => intro t hk ht; have := ht.1; omega
    | succ k ih =>
      intro t hk ht
      cases e : c.idl t with
      | false => rw [drp_self ht e]; exact ht.1
      | true =>
        obtain ⟨h1, h2, _⟩ := h.idl ht e
        rw [drp_gone ht e, ← drp_nf (p := t + 1) ht.1]
        exact ih (c.nx t) (by omega) h1
  have lft : ∀ t, c.L t → (c.drp c.idl).L ((c.drp c.idl).nf t) ∧ t ≤ (c.drp c.idl).nf t := fun t ht => Cf.nf_L (go _ t (Nat.le_refl _) ht)
  have ok : (c.cut c.idl).Ok := by
    refine ⟨fun p hp hj => ?_, fun p hp ha => ?_, ?_, h.m⟩
    · obtain ⟨h1, h2⟩ := cut_L.1 hp
      obtain ⟨j1, j2⟩ := h.j p h1 hj
      obtain ⟨l1, l2⟩ := lft _ j1
      refine ⟨l1, fun hle => ?_⟩
      have hb : c.b p ≤ p := Nat.le_trans l2 hle
      have ho := j2 hb
      have hid : c.idl (c.b p) = false := by
        cases e : c.idl (c.b p) with
        | false => rfl
        | true =>
          simp only [Cf.idl, Bool.or_eq_true, Bool.and_eq_true, beq_iff_eq] at e
          rcases e with k | ⟨k | k, _⟩
          · rw [h.m _ k] at ho; cases ho
          · rw [ho] at k; cases k
          · rw [ho] at k; cases k
      show c.op ((c.drp c.idl).nf (c.b p)) = 1
      rw [drp_self j1 hid]
      exact ho
    · obtain ⟨h1, h2⟩ := cut_L.1 hp
      show (c.cut c.idl).nf (p + 1) < c.n
      rw [cut_nf, ← drp_nf (p := p + 1) h1.1]
      exact (lft _ (h.nx h1 ha).1).1.1
    · show (c.cut c.idl).nf 0 < c.n
      rw [cut_nf, ← drp_nf (Nat.zero_le _)]
      exact (lft _ (Cf.nf_L h.e).1).1.1
  refine ⟨ok, fun hall p hp => ?_, lft⟩
  have key : c.R p := hall p (cut_L.1 hp).1
  have cl : c.Cl (fun q => (c.cut c.idl).R ((c.drp c.idl).nf q)) := by
    refine ⟨?_, fun q hq hr => ?_⟩
    · show (c.cut c.idl).R ((c.drp c.idl).nf (c.nf 0))
      rw [drp_nf (Nat.zero_le _), ← cut_nf]
      exact R_first _
    · have hr' : (c.cut c.idl).R ((c.drp c.idl).nf q) := hr
      cases e : c.idl q with
      | false =>
        rw [drp_self hq e] at hr'
        have hl : (c.cut c.idl).L q := cut_L.2 ⟨hq, e⟩
        refine ⟨fun hj => R_jump hl hr' hj, fun ha => ?_⟩
        have := R_next hl hr' ha
        show (c.cut c.idl).R ((c.drp c.idl).nf (c.nf (q + 1)))
        rw [drp_nf (p := q + 1) hq.1, ← cut_nf]
        exact this
      | true =>
        obtain ⟨_, _, i3⟩ := h.idl hq e
        have hn : (c.cut c.idl).R ((c.drp c.idl).nf (c.nx q)) := by
          rw [drp_gone hq e, ← drp_nf (p := q + 1) hq.1] at hr'
          exact hr'
        exact ⟨fun hj => by show (c.cut c.idl).R ((c.drp c.idl).nf (c.b q)); rw [i3 hj]; exact hn, fun _ => hn⟩
  have := key _ cl
  rw [drp_self (cut_L.1 hp).1 (cut_L.1 hp).2] at this
  exact this
def Cf.rk (c : Cf) (p : Nat) : Nat := (List.range p).countP c.lf
theorem rk_on (c : Cf) (p : Nat) : c.rk (p + 1) = c.rk p + (if c.lf p then 1 else 0) := by
  unfold Cf.rk
  rw [List.range_succ, List.countP_append]
  congr 1
  cases h : c.lf p <;> simp [h]
theorem rk_mono (c : Cf) {p q : Nat} (h : p ≤ q) : c.rk p ≤ c.rk q := by
  induction h with
  | refl => exact Nat.le_refl _
  | step _ ih => rw [rk_on]; exact Nat.le_trans ih (Nat.le_add_right _ _)
theorem rk_lt {c : Cf} {p q : Nat} (hp : c.L p) (h : p < q) : c.rk p < c.rk q := by
  have h1 := rk_mono c (show p + 1 ≤ q from h)
  rw [rk_on, if_pos hp.2] at h1
  omega
theorem rk_inj {c : Cf} {p q : Nat} (hp : c.L p) (hq : c.L q) (h : c.rk p = c.rk q) : p = q := by
  rcases Nat.lt_trichotomy p q with d | d | d
  · have := rk_lt hp d; omega
  · exact d
  · have := rk_lt hq d; omega
theorem rk_same {c : Cf} {p q : Nat} (h : p ≤ q) (hn : ∀ r, p ≤ r → r < q → ¬ c.L r) (hq : q ≤ c.n) : c.rk q = c.rk p := by
  induction h with
  | refl => rfl
  | @step m hm ih =>
    rw [rk_on, ih (fun r h1 h2 => hn r h1 (by omega)) (by omega), if_neg]
    · rfl
    · exact fun e => hn m hm (by omega) ⟨by omega, e⟩
theorem rk_nf {c : Cf} {p : Nat} (h : p ≤ c.n) : c.rk (c.nf p) = c.rk p := rk_same (Cf.nf_ge h) (c.nf_out p).2 (c.nf_le p)
theorem rk_nx {c : Cf} {p : Nat} (h : c.L p) : c.rk (c.nx p) = c.rk p + 1 := by
  show c.rk (c.nf (p + 1)) = _
  rw [rk_nf h.1, rk_on, if_pos h.2]
theorem rk_at {c : Cf} : ∀ (m : Nat), m ≤ c.n → ∀ k, k < c.rk m → ∃ p, c.L p ∧ p < m ∧ c.rk p = k
  | 0, _, k, h => by simp [Cf.rk] at h
  | m + 1, hm, k, h => by
    rw [rk_on] at h
    by_cases d : k < c.rk m
    · obtain ⟨p, h1, h2, h3⟩ := rk_at m (by omega) k d
      exact ⟨p, h1, by omega, h3⟩
    · split at h
      · rename_i e
        exact ⟨m, ⟨by omega, e⟩, by omega, by omega⟩
      · omega
structure Cmp (c d : Cf) : Prop where
  n : d.n = c.rk c.n
  lf : ∀ k, k < d.n → d.lf k = true
  op : ∀ p, c.L p → d.op (c.rk p) = c.op p
  a : ∀ p, c.L p → d.a (c.rk p) = c.a p
  mv : ∀ p, c.L p → d.mv (c.rk p) = c.mv p
  b : ∀ p, c.L p → jmp (c.op p) = true → d.b (c.rk p) = c.rk (c.b p)
  dm : ∀ k, d.mv k = true → d.op k = 2
theorem Cmp.L {c d : Cf} (x : Cmp c d) {p : Nat} (h : c.L p) : d.L (c.rk p) := by
  have h1 : c.rk p < d.n := by rw [x.n]; exact rk_lt h h.1
  exact ⟨h1, x.lf _ h1⟩
theorem Cmp.at {c d : Cf} (x : Cmp c d) {k : Nat} (h : k < d.n) : ∃ p, c.L p ∧ c.rk p = k := by
  obtain ⟨p, h1, _, h3⟩ := rk_at c.n (Nat.le_refl _) k (by rw [← x.n]; exact h)
  exact ⟨p, h1, h3⟩
theorem Cmp.nf {c d : Cf} (x : Cmp c d) {k : Nat} (h : k ≤ d.n) : d.nf k = k := by
  rcases Nat.lt_or_ge k d.n with e | e
  · exact Cf.nf_self ⟨e, x.lf k e⟩
  · rw [Cf.nf_past e]; omega
theorem Cmp.nx {c d : Cf} (x : Cmp c d) {p : Nat} (h : c.L p) : d.nx (c.rk p) = c.rk (c.nx p) := by
  rw [rk_nx h]
  exact x.nf (x.L h).1
theorem Cmp.snd {c d : Cf} (x : Cmp c d) {o y : Int} {t : Nat} (h : c.L t) : d.snd o y (c.rk t) = (c.snd o y t).map c.rk := by
  unfold Cf.snd
  rw [x.op t h, x.a t h]
  split
  · rename_i e
    rw [x.b t h (by rw [e]; rfl)]
    rfl
  · split
    · rename_i e
      split
      · rw [x.b t h (chs_jmp e.2.1)]; rfl
      · rw [x.nx h]; rfl
    · rfl
theorem Cmp.ok {c d : Cf} (x : Cmp c d) (h : c.Ok) : d.Ok := by
  refine ⟨fun k hk hj => ?_, fun k hk ha => ?_, ?_, x.dm⟩
  · obtain ⟨p, hp, rfl⟩ := x.at hk.1
    rw [x.op p hp] at hj
    obtain ⟨j1, j2⟩ := h.j p hp hj
    rw [x.b p hp hj]
    refine ⟨x.L j1, fun hle => ?_⟩
    rw [x.op _ j1]
    refine j2 ?_
    rcases Nat.lt_or_ge p (c.b p) with e | e
    · have := rk_lt hp e; omega
    · exact e
  · obtain ⟨p, hp, rfl⟩ := x.at hk.1
    rw [x.op p hp] at ha
    rw [x.nx hp]
    exact (x.L (h.nx hp ha).1).1
  · rw [x.nf (Nat.zero_le _)]
    have := x.L (Cf.nf_L h.e).1
    rw [rk_nf (Nat.zero_le _)] at this
    exact this.1
theorem Cmp.fol {c d : Cf} (x : Cmp c d) (h : c.Ok) {o y : Int} : ∀ (f t : Nat), c.L t → d.fol o y f (c.rk t) = c.rk (c.fol o y f t)
  | 0, t, _ => rfl
  | f + 1, t, ht => by
    unfold Cf.fol
    rw [x.snd ht]
    cases e : c.snd o y t with
    | none => rfl
    | some t' => exact x.fol h f t' (h.snd ht e).1
theorem Cmp.last {c d : Cf} (x : Cmp c d) (h : c.Ok) {p : Nat} (hp : c.L p) (hj : jmp (c.op p) = true) : d.last (c.rk p) = c.rk (c.last p) := by
  have j1 := (h.j p hp hj).1
  unfold Cf.last
  rw [x.op p hp, x.a p hp, x.b p hp hj, ← fol_more (x.ok h) (x.L j1) (f := c.n + d.n + 1) (by omega), x.fol h _ _ j1, fol_more h j1 (by omega)]
theorem Cmp.aim {c d : Cf} (x : Cmp c d) (h : c.Ok) {p : Nat} (hp : c.L p) (hj : jmp (c.op p) = true) : Cmp (c.aim p) (d.aim (c.rk p)) := by
  refine ⟨x.n, x.lf, x.op, x.a, x.mv, fun q hq hjq => ?_, x.dm⟩
  show (if c.rk q = c.rk p then d.last (c.rk p) else d.b (c.rk q)) = c.rk (if q = p then c.last p else c.b q)
  by_cases e : q = p
  · subst e
    rw [if_pos rfl, if_pos rfl]
    exact x.last h hp hj
  · have hne : c.rk q ≠ c.rk p := fun k => e (rk_inj (show c.L q from hq) hp k)
    rw [if_neg hne, if_neg e]
    exact x.b q hq hjq
theorem Cmp.thr1 {c d : Cf} (x : Cmp c d) (h : c.Ok) {p : Nat} (hp : c.L p) : Cmp (c.thr1 p) (d.thr1 (c.rk p)) := by
  have hjl : d.jl (c.rk p) = c.jl p := by unfold Cf.jl; rw [x.op p hp, (x.L hp).2, hp.2]
  unfold Cf.thr1
  rw [hjl]
  split
  · rename_i e
    exact x.aim h hp (Cf.jl_L hp.1 e).2
  · exact x
theorem rk_thr1 (c : Cf) (p : Nat) : (c.thr1 p).rk = c.rk := by
  funext q
  unfold Cf.rk
  rw [(Sb.thr1 c p).lf]
theorem Sb.L {c d : Cf} (x : Sb c d) (p : Nat) : d.L p ↔ c.L p := by unfold Cf.L; rw [x.n, x.lf]
theorem Cmp.thrL : ∀ (l : List Nat) {c d : Cf}, Cmp c d → c.Ok → (∀ p ∈ l, c.L p) → Cmp (c.thr l) (d.thr (l.map c.rk))
  | [], c, d, x, _, _ => x
  | p :: l, c, d, x, h, hl => by
    have hp := hl p (List.mem_cons_self)
    have := Cmp.thrL l (x.thr1 h hp) (h.thr1 hp.1) (fun q hq => ((Sb.thr1 c p).L q).2 (hl q (List.mem_cons_of_mem _ hq)))
    rw [rk_thr1] at this
    exact this
theorem thr_left : ∀ (l : List Nat) (c : Cf), c.thr l = c.thr (l.filter c.lf)
  | [], c => rfl
  | p :: l, c => by
    show (c.thr1 p).thr l = _
    rw [thr_left l (c.thr1 p), (Sb.thr1 c p).lf]
    cases e : c.lf p with
    | true => rw [List.filter_cons_of_pos e]; rfl
    | false =>
      rw [List.filter_cons_of_neg (by rw [e]; decide)]
      have : c.thr1 p = c := by unfold Cf.thr1 Cf.jl; rw [e]; rfl
      rw [this]
theorem map_rk (c : Cf) : ∀ m, ((List.range m).filter c.lf).map c.rk = List.range (c.rk m)
  | 0 => rfl
  | m + 1 => by
    rw [List.range_succ, List.filter_append, List.map_append, map_rk c m, rk_on]
    cases e : c.lf m with
    | true => simp [e, List.range_succ]
    | false => simp [e]
def Cf.all (c : Cf) : Cf := c.thr (List.range c.n).reverse
theorem Cmp.all {c d : Cf} (x : Cmp c d) (h : c.Ok) : Cmp c.all d.all := by
  unfold Cf.all
  rw [thr_left, List.filter_reverse]
  have := Cmp.thrL ((List.range c.n).filter c.lf).reverse x h (fun p hp => by
    rw [List.mem_reverse, List.mem_filter, List.mem_range] at hp
    exact hp)
  rw [List.map_reverse, map_rk, ← x.n] at this
  exact this
end Go.Proofs.YtgnbhhgpaldheaaGreat
namespace Go.Proofs.YtgnbhhgpaldheaaGreat
open Go Go.RowKit
set_option linter.unusedVariables false
theorem range_st {α : Type} {F : Fence} {n : Nat} {P : Program} {g : Operand} {ps : Array Tmp} {assign body : Code} {Q : Exit → Act → World → Prop} {a : Act} {w : World}
    (hro : F.round = none) (h1 : 1 ≤ n) {gf : Nat} {bd lb : Array Value} (hg : a.eval g = .func (.func gf) bd lb) (hFg : F.fn gf) (eg : ∀ args w, (callFunc gf args).run P w = .ok (.enter gf args) w)
    {encs : α → Array Value} (hps : ∀ x, (encs x).size = ps.size) {Kp : World → World → Prop} {S : List α → World → Prop} {Sp : List α → Prop} {N : Nat} (hS : OwnFrom w.heap.size S)
    (hKt : ∀ {A B C : World}, Kp A B → Kp B C → Kp A C) (hKb : ∀ (W : World) (l : Nat) (o o' : Obj), w.heap.size ≤ l → W.heap[l]? = some o → o.isCells = false → Kp W (W.putObj l o'))
    (I : List α → World → Prop) (Ix : Code → List α → World → Prop) (hI : OwnFrom w.heap.size I) (hIx : ∀ c, OwnFrom w.heap.size (Ix c)) (h0 : I [] w) (V : List α → α → World → Prop) (Ax : List α → α → Act → World → Prop) (hAx : ∀ pre x a', OwnFrom w.heap.size (fun (_ : Unit) W => Ax pre x a' W))
    (hseq : ∀ (l : Nat) (J Jx : List α → World → Prop) (W : World), (∀ pre A, J pre A → I pre A ∧ w.heap.size + 2 ≤ A.heap.size) →
      (∀ pre A B, J pre A → I pre B → (∀ b, w.heap.size ≤ b → b < w.heap.size + 2 → B.heap[b]? = A.heap[b]?) → J pre B) →
      (∀ pre x W1, J pre W1 → V pre x W1 → pre.length < N → YieldAt F (n - 1 - 1) P l (encs x) W1 fun e W' => (e = .returned (.bool true) ∧ J (pre ++ [x]) W' ∧ Kp W1 W') ∨ (e = .returned (.bool false) ∧ Jx (pre ++ [x]) W')) →
      J [] W → (∀ b, b < w.heap.size → W.heap[b]? = w.heap[b]?) → CallsIn F (n - 1) P gf (bd ++ #[.func (.yield l) #[] #[]] ++ lb) W fun e W' => (∃ v, e = .returned v) ∧ ((∃ xs, S xs W' ∧ J xs W') ∨ (∃ pre, Sp pre ∧ Jx pre W')))
    (hassign : ∀ (l : Nat) (pre : List α) (x : α) (W : World) (K : Act → World → Prop), I pre W → V pre x W → (∀ a' W', KeepsFrom w.heap.size W W' → Kp W W' → I pre W' → Ax pre x a' W' → K a' W') →
      assign.wpIn (F.inRound l) (n - 1 - 1) P (Exit.then K (fun _ _ _ => False)) { tmps := (ps.zip (encs x)).foldl (fun t (p, v) => t.setIfInBounds p v) a.tmps, defers := [] } W)
    (hbody : ∀ (l : Nat) (pre : List α) (x : α) (a' : Act) (W : World), I pre W → Ax pre x a' W → pre.length < N → body.wpIn (F.inRound l) (n - 1 - 1) P (ownPostG w.heap.size Kp I Ix (pre ++ [x]) W) a' W)
    (hdone : ∀ (D : Nat) (xs : List α) (W : World), w.heap.size ≤ D → S xs W → I xs W → W.heap[D]? = some (.deferred (some [])) → Q .normal { a with defers := { target := .collected D, args := #[] } :: a.defers } W)
    (hstop : ∀ (D : Nat) (c : Code) (pre : List α) (W : World), w.heap.size ≤ D → Sp pre → Ix c pre W → W.heap[D]? = some (.deferred (some [])) → c.wpIn F n P Q { a with defers := { target := .collected D, args := #[] } :: a.defers } W) :
    (Code.rangeFunc g ps assign body).wpIn F n P Q a w := by
  refine wpIn_rangeFunc ?_
  intro fn hfn
  rw [hro]
  obtain ⟨rec, hrec⟩ : ∃ rec : LoopState → Option Code → Loop, rec = fun st pe => { state := st, pending := pe, fn, tmps := a.tmps, params := ps, assign, body, defers := w.heap.size } := ⟨_, rfl⟩
  obtain ⟨W1, hW1⟩ : ∃ W1, (w.alloc (.deferred (some []))).alloc (.loop (rec .ready none)) = W1 := ⟨_, rfl⟩
  have hL1 : W1.heap[w.heap.size + 1]? = some (.loop (rec .ready none)) := by
    rw [← hW1]; have := World.alloc_heap_new (w.alloc (.deferred (some []))) (.loop (rec .ready none)); rwa [World.size_alloc] at this
  have hK1 : W1.heap[w.heap.size]? = some (.deferred (some [])) := by
    rw [← hW1]; exact (Below.heap_alloc _ _ _ (by simp)).trans (World.alloc_heap_new w _)
  have hI1 : I [] W1 := by rw [← hW1]; exact hI.alloc _ (hI.alloc _ h0)
  have hOld : ∀ b, b < w.heap.size → W1.heap[b]? = w.heap[b]? := fun b hb => by
    rw [← hW1]; exact (Below.heap_alloc _ _ b (by simp; omega)).trans (Below.heap_alloc _ _ b hb)
  refine ⟨w.heap.size + 1, [{ target := .collected w.heap.size, args := #[] }], W1, { target := .fn (.func gf) lb, args := bd ++ #[.func (.yield (w.heap.size + 1)) #[] #[]] }, W1, gf,
    bd ++ #[.func (.yield (w.heap.size + 1)) #[] #[]] ++ lb, W1, ?_, ?_, ?_, ?_, fun _ => h1, ?_⟩
  · rw [← hW1, hrec]; exact run_enterLoop_outer _ _ _ _ _
  · simp only [resolve, hg]
    simp [go_sem]
  · intro f' hf'; simp [Target.leads] at hf'; subst hf'; exact hFg
  · simp [invoke, go_sem, eg]
  · refine (hseq (w.heap.size + 1)
      (fun pre W => I pre W ∧ W.heap[w.heap.size + 1]? = some (.loop (rec .ready none)) ∧ W.heap[w.heap.size]? = some (.deferred (some [])))
      (fun pre W => ∃ c, Ix c pre W ∧ W.heap[w.heap.size + 1]? = some (.loop (rec .done (some c))) ∧ W.heap[w.heap.size]? = some (.deferred (some [])))
      W1 (fun pre A h => ⟨h.1, (Array.getElem?_eq_some_iff.1 h.2.1).1⟩)
      (fun pre A B h hi hb => ⟨hi, (hb _ (by omega) (by omega)).trans h.2.1, (hb _ (Nat.le_refl _) (by omega)).trans h.2.2⟩)
      ?_ ⟨hI1, hL1, hK1⟩ hOld).mono ?_
    · rintro pre x W ⟨hi, hl, hk⟩ hv hlen
      have hy := run_yield (P := P) (args := encs x) hl (by rw [hrec]; exact hps x)
      rw [hrec] at hy
      refine ⟨fn, _, assign, body, hy, roundIn_of_wpIn hfn (hassign _ pre x W _ hi hv ?_)⟩
      clear hy
      intro a' Wa hkf hkpa hia hax
      have hla := hkf.same _ _ (by omega) hl rfl
      have hka := hkf.same _ _ (Nat.le_refl _) hk rfl
      have hlt : w.heap.size + 1 < Wa.heap.size := (Array.getElem?_eq_some_iff.1 hla).1
      refine ⟨_, run_beginRound hla (by rw [hrec]), ?_⟩
      have hl2 : (Wa.putObj (w.heap.size + 1) (.loop { rec .ready none with state := .busy })).heap[w.heap.size + 1]? = some (.loop { rec .ready none with state := .busy }) := World.putObj_heap_same hlt
      have hk2 : (Wa.putObj (w.heap.size + 1) (.loop { rec .ready none with state := .busy })).heap[w.heap.size]? = some (.deferred (some [])) := (World.putObj_heap_other (by omega)).trans hka
      refine wpIn_mono (hbody _ pre x a' _ (hI.putObj _ hia (by omega) hla rfl) ((hAx pre x a').putObj (s := ()) _ hax (by omega) hla rfl) hlen) ?_
      have fin : ∀ (jump : Option Code) (W3 : World), KeepsFrom w.heap.size (Wa.putObj (w.heap.size + 1) (.loop { rec .ready none with state := .busy })) W3 →
          (Instr.endRound (w.heap.size + 1) jump).run P W3 = .ok (.bool jump.isNone) (W3.putObj (w.heap.size + 1) (.loop (rec (if jump.isNone then .ready else .done) jump))) ∧
          W3.heap[w.heap.size + 1]? = some (.loop { rec .ready none with state := .busy }) ∧
          (W3.putObj (w.heap.size + 1) (.loop (rec (if jump.isNone then .ready else .done) jump))).heap[w.heap.size + 1]? = some (.loop (rec (if jump.isNone then .ready else .done) jump)) ∧
          (W3.putObj (w.heap.size + 1) (.loop (rec (if jump.isNone then .ready else .done) jump))).heap[w.heap.size]? = some (.deferred (some [])) := fun jump W3 hk3 => by
        have hl3 := hk3.same _ _ (by omega) hl2 rfl
        have := run_endRound (P := P) jump hl3
        rw [hrec] at this ⊢
        exact ⟨this, by rw [hrec] at hl3; exact hl3, World.putObj_heap_same (Array.getElem?_eq_some_iff.1 hl3).1, (World.putObj_heap_other (by omega)).trans (hk3.same _ _ (Nat.le_refl _) hk2 rfl)⟩
      rintro e a3 W3 hp
      cases e with
      | normal =>
        obtain ⟨hk3, hkp3, hi3⟩ := hp
        obtain ⟨hr, hl3, hl4, hk4⟩ := fin none W3 hk3
        exact ⟨_, _, hr, .inl ⟨rfl, ⟨hI.putObj _ hi3 (by omega) hl3 rfl, hl4, hk4⟩, hKt hkpa (hKt (hKt (hKb _ _ _ _ (by omega) hla rfl) hkp3) (hKb _ _ _ _ (by omega) hl3 rfl))⟩⟩
      | ret =>
        obtain ⟨hk3, hi3⟩ := hp
        obtain ⟨hr, hl3, hl4, hk4⟩ := fin (some .ret) W3 hk3
        exact ⟨_, _, hr, .inr ⟨rfl, .ret, (hIx _).putObj _ hi3 (by omega) hl3 rfl, hl4, hk4⟩⟩
      | exit id =>
        obtain ⟨hk3, hi3⟩ := hp
        obtain ⟨hr, hl3, hl4, hk4⟩ := fin (some (.exit id)) W3 hk3
        exact ⟨_, _, hr, .inr ⟨rfl, .exit id, (hIx _).putObj _ hi3 (by omega) hl3 rfl, hl4, hk4⟩⟩
      | goto t =>
        obtain ⟨hk3, hi3⟩ := hp
        obtain ⟨hr, hl3, hl4, hk4⟩ := fin (some (.goto t)) W3 hk3
        exact ⟨_, _, hr, .inr ⟨rfl, .goto t, (hIx _).putObj _ hi3 (by omega) hl3 rfl, hl4, hk4⟩⟩
      | panic ch => exact hp.elim
      | outgrown => exact hp.elim
    · rintro e W2 ⟨⟨v, rfl⟩, (⟨xs, hSx, hi, hl, hk⟩ | ⟨pre, hSp, c, hi, hl, hk⟩)⟩
      · exact ⟨none, _, by have := run_endLoop (P := P) hl (by rw [hrec]; simp); rw [hrec] at this; exact this, hdone _ xs _ (Nat.le_refl _) (hS.putObj _ hSx (by omega) hl rfl) (hI.putObj _ hi (by omega) hl rfl) ((World.putObj_heap_other (by omega)).trans hk)⟩
      · exact ⟨some c, _, by have := run_endLoop (P := P) hl (by rw [hrec]; simp); rw [hrec] at this; exact this, hstop _ c pre _ (Nat.le_refl _) hSp ((hIx c).putObj _ hi (by omega) hl rfl) ((World.putObj_heap_other (by omega)).trans hk)⟩
end Go.Proofs.YtgnbhhgpaldheaaGreat
