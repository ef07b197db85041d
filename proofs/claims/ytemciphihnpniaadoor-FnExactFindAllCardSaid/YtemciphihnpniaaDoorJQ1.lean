import Derived.Test.YtemciphihnpniaaDoorPO
import Derived.Shelf.Abstract
namespace Go.Proofs.YtemciphihnpniaaDoor
open Go Go.RowKit
set_option linter.unusedVariables false

/-- What matched was not too much. -/
def HitN (nx : Nx) : Prop := ∀ at_ σ e, σ.steps ≤ 50000 → (nx at_ σ).1 = some e → (nx at_ σ).2.steps ≤ 50000
theorem lazyM_hn {s : ByteArray} {f : Nat → Bool} {nx : Nx} (h : HitN nx) : ∀ k n σ e, (lazyM s f nx k n σ).1 = some e → (lazyM s f nx k n σ).2.steps ≤ 50000
  | 0, n, σ, e => fun hn => by simp [lazyM] at hn
  | k + 1, n, σ, e => by
    intro hn
    rw [lazyM] at hn ⊢
    split at hn
    · simp at hn
    · rename_i hs
      rw [if_neg hs]
      have hr := h n σ
      generalize nx n σ = r at *
      obtain ⟨o, σ'⟩ := r
      cases o with
      | some e' => exact hr e' (not_spent hs) rfl
      | none =>
        simp only at hn ⊢
        split at hn
        · rename_i hh
          rw [if_pos hh]
          exact lazyM_hn h k (n + 1) (σ'.more 1) e hn
        · simp at hn
theorem downM_hn {nx : Nx} (h : HitN nx) (at_ least : Nat) : ∀ n σ e, (downM nx at_ least n σ).1 = some e → (downM nx at_ least n σ).2.steps ≤ 50000
  | 0, σ, e => by
    intro hn
    rw [downM] at hn ⊢
    split at hn
    · simp at hn
    · rename_i hs
      rw [if_neg hs]
      exact h at_ σ e (not_spent (fun x => hs (.inr x))) hn
  | n + 1, σ, e => by
    intro hn
    rw [downM] at hn ⊢
    split at hn
    · simp at hn
    · rename_i hs
      rw [if_neg hs]
      have hr := h (at_ + (n + 1)) σ
      generalize nx (at_ + (n + 1)) σ = r at *
      obtain ⟨o, σ'⟩ := r
      cases o with
      | some e' => exact hr e' (not_spent (fun x => hs (.inr x))) rfl
      | none => exact downM_hn h at_ least n σ' e hn
theorem pairM_hn {s : ByteArray} {x y : Int} {nx : Nx} (h : HitN nx) : ∀ k i n σ e, (pairM s x y nx k i n σ).1 = some e → (pairM s x y nx k i n σ).2.steps ≤ 50000
  | 0, i, n, σ, e => fun hn => by simp [pairM] at hn
  | k + 1, i, n, σ, e => by
    intro hn
    rw [pairM] at hn ⊢
    split at hn
    · simp at hn
    · rename_i h1
      rw [if_neg h1]
      split at hn
      · rename_i h2
        rw [if_pos h2]
        split at hn
        · rename_i h3
          rw [if_pos h3]
          split at hn
          · simp at hn
          · rename_i h4
            rw [if_neg h4]
            exact h _ _ e (not_spent h4) hn
        · rename_i h3
          rw [if_neg h3]
          exact pairM_hn h k _ _ _ e hn
      · rename_i h2
        rw [if_neg h2]
        split at hn
        · rename_i h3
          rw [if_pos h3]
          exact pairM_hn h k _ _ _ e hn
        · rename_i h3
          rw [if_neg h3]
          exact pairM_hn h k _ _ _ e hn
theorem oneM_hn {s : ByteArray} {it : It} {nx : Nx} (h : HitN nx) (at_ : Nat) (σ : Ms) (e : Nat) (hσ : σ.steps ≤ 50000) (hn : (oneM s it nx at_ σ).1 = some e) : (oneM s it nx at_ σ).2.steps ≤ 50000 := by
  rw [oneM] at hn ⊢
  split at hn
  · rename_i h1
    rw [if_pos h1]
    split at hn
    · rename_i h2
      rw [if_pos h2]
      exact h _ _ e hσ hn
    · simp at hn
  · rename_i h1
    rw [if_neg h1]
    split at hn
    · rename_i h2
      rw [if_pos h2]
      exact downM_hn h _ _ _ _ e hn
    · rename_i h2
      rw [if_neg h2]
      split at hn
      · rename_i h3
        rw [if_pos h3]
        exact lazyM_hn h _ _ _ e hn
      · rename_i h3
        rw [if_neg h3]
        exact downM_hn h _ _ _ _ e hn
theorem tryM_hn (s : ByteArray) (pl : Nat → Bool) : ∀ its, HitN (tryM s pl its)
  | [] => fun at_ σ e h _ => h
  | it :: rest => fun at_ σ0 e h hn => by
    have ih := tryM_hn s pl rest
    rw [tryM] at hn ⊢
    simp only at hn ⊢
    split at hn
    · simp at hn
    rename_i hs
    have hs' := not_spent hs
    rw [if_neg hs]
    split at hn
    · rename_i h1
      rw [if_pos h1]
      exact oneM_hn ih _ _ e hs' hn
    rename_i h1
    rw [if_neg h1]
    split at hn
    · rename_i h2
      rw [if_pos h2]
      have hr := ih at_ { σ0.more 1 with fr := upd σ0.fr it.n at_ }
      generalize tryM s pl rest at_ { σ0.more 1 with fr := upd σ0.fr it.n at_ } = r at *
      obtain ⟨o, σ'⟩ := r
      cases o with
      | some e' => exact hr e' hs' rfl
      | none => simp at hn
    rename_i h2
    rw [if_neg h2]
    split at hn
    · rename_i h3
      rw [if_pos h3]
      have hr := ih at_ { σ0.more 1 with tt := upd σ0.tt it.n at_ }
      generalize tryM s pl rest at_ { σ0.more 1 with tt := upd σ0.tt it.n at_ } = r at *
      obtain ⟨o, σ'⟩ := r
      cases o with
      | some e' => exact hr e' hs' rfl
      | none => simp at hn
    rename_i h3
    rw [if_neg h3]
    split at hn
    · rename_i h4
      rw [if_pos h4]
      split at hn
      · simp at hn
      · rename_i h5
        rw [if_neg h5]
        split at hn
        · simp at hn
        · rename_i h6
          rw [if_neg h6]
          exact ih _ _ e hs' hn
    rename_i h4
    rw [if_neg h4]
    split at hn
    · rename_i h5
      rw [if_pos h5]
      split at hn
      · simp at hn
      · rename_i h6
        rw [if_neg h6]
        exact pairM_hn ih _ _ _ _ e hn
    rename_i h5
    rw [if_neg h5]
    split at hn
    · rename_i h6
      rw [if_pos h6]
      split at hn
      · simp at hn
      · rename_i h7
        rw [if_neg h7]
        exact ih _ _ e hs' hn
    rename_i h6
    rw [if_neg h6]
    split at hn
    · simp at hn
    · rename_i h7
      rw [if_neg h7]
      exact ih _ _ e hs' hn

/-! Looking for matches. -/
structure Fd where
  fr : Nat
  en : Nat
  caps : List (Bool × Nat × Nat)
def capAt (t : Pt) (σ : Ms) (n : Nat) : Bool × Nat × Nat := (t.place n, σ.fr n, if t.place n = true then σ.fr n else σ.tt n)
def capsOf (t : Pt) (σ : Ms) : List (Bool × Nat × Nat) := (List.range t.caps).map (capAt t σ)
def s0 (n : Nat) : Ms := ⟨n, fun _ => 0, fun _ => 0⟩
/-- The first match from a place on, and the steps. -/
def srM (s : ByteArray) (t : Pt) : Nat → Nat → Nat → Option Fd × Nat
  | 0, _, n => (none, n)
  | k + 1, at_, n =>
    if at_ ≤ s.size ∧ n ≤ 50000 then
      match tryM s t.place t.items at_ (s0 n) with
      | (some e, σ) => (some ⟨at_, e, capsOf t σ⟩, σ.steps)
      | (none, σ) => if t.start = true then (none, σ.steps) else srM s t k (at_ + 1) σ.steps
    else (none, n)
theorem srM_out {s : ByteArray} {t : Pt} {k at_ n : Nat} (h : ¬ (at_ ≤ s.size ∧ n ≤ 50000)) : srM s t k at_ n = (none, n) := by
  cases k with
  | zero => rfl
  | succ k => rw [srM, if_neg h]
theorem srM_hit {s : ByteArray} {t : Pt} {k at_ n e : Nat} {σ : Ms} (h : at_ ≤ s.size ∧ n ≤ 50000) (h1 : tryM s t.place t.items at_ (s0 n) = (some e, σ)) : srM s t (k + 1) at_ n = (some ⟨at_, e, capsOf t σ⟩, σ.steps) := by rw [srM, if_pos h, h1]
theorem srM_fix {s : ByteArray} {t : Pt} {k at_ n : Nat} {σ : Ms} (h : at_ ≤ s.size ∧ n ≤ 50000) (h1 : tryM s t.place t.items at_ (s0 n) = (none, σ)) (h2 : t.start = true) : srM s t (k + 1) at_ n = (none, σ.steps) := by rw [srM, if_pos h, h1]; simp only; rw [if_pos h2]
theorem srM_on {s : ByteArray} {t : Pt} {k at_ n : Nat} {σ : Ms} (h : at_ ≤ s.size ∧ n ≤ 50000) (h1 : tryM s t.place t.items at_ (s0 n) = (none, σ)) (h2 : t.start = false) : srM s t (k + 1) at_ n = srM s t k (at_ + 1) σ.steps := by rw [srM, if_pos h, h1]; simp only; rw [if_neg (by rw [h2]; simp)]

/-- A matching between two looks. -/
structure MB (w : World) (M : Nat) (s : ByteArray) (t : Pt) (us : List (It × Value)) (vi vp : Value) (n : Nat) : Prop where
  m : ∃ a1 n1 c1 a2 n2 c2, RowF w 61 M 7 (mcells s vi vp t.start (.slice a1 n1 c1) (.slice a2 n2 c2) n)
  i : SlF w 83 6 vi us.length (itF us)
  p : SlF w 4 1 vp t.caps (fun j => .bool (t.place j))
  s : ∀ u ∈ us, SetV w u
theorem MS.mb {w : World} {M : Nat} {s : ByteArray} {t : Pt} {us : List (It × Value)} {vi vp vf vt : Value} {σ : Ms} (h : MS w M s t us vi vp vf vt σ) : MB w M s t us vi vp σ.steps := by
  obtain ⟨a1, c1, rfl⟩ := h.f.form
  obtain ⟨a2, c2, rfl⟩ := h.t.form
  exact ⟨⟨_, _, _, _, _, _, h.m⟩, h.i, h.p, h.s⟩
theorem MB.stat {w w' : World} {M : Nat} {s : ByteArray} {t : Pt} {us : List (It × Value)} {vi vp : Value} {n : Nat} (h : MB w M s t us vi vp n) (k : Keeps w w' (fun b => b = M)) : SlF w' 83 6 vi us.length (itF us) ∧ SlF w' 4 1 vp t.caps (fun j => .bool (t.place j)) ∧ ∀ u ∈ us, SetV w' u := by
  obtain ⟨a1, n1, c1, a2, n2, c2, hm⟩ := h.m
  refine ⟨h.i.pastG k hm (by decide), h.p.pastG k hm (by decide), fun u hu => (h.s u hu).keep k ?_⟩
  rintro g hg rfl
  exact RowF.apart hg hm (by decide) rfl
theorem MB.low {w w' : World} {M : Nat} {s : ByteArray} {t : Pt} {us : List (It × Value)} {vi vp : Value} {n : Nat} (h : MB w M s t us vi vp n) (k : Keeps w w' (fun _ => False)) : MB w' M s t us vi vp n := by
  obtain ⟨a1, n1, c1, a2, n2, c2, hm⟩ := h.m
  exact ⟨⟨_, _, _, _, _, _, hm.keep k (fun x => x)⟩, h.i.keep k (fun _ _ x => x), h.p.keep k (fun _ _ x => x), fun u hu => (h.s u hu).keep k (fun _ _ x => x)⟩
/-- Both lists are made anew. -/
theorem MB.start {w w1 w2 : World} {M g1 g2 : Nat} {s : ByteArray} {t : Pt} {us : List (It × Value)} {vi vp : Value} {n : Nat} (h : MB w M s t us vi vp n) (k1 : Keeps w w1 (fun _ => False)) (r1 : RowF w1 3 g1 t.caps (fun _ => .int .i64 0))
    (k2 : Keeps (w1.setCell ⟨M, 4, none⟩ (.slice (some ⟨g1, 0, none⟩) t.caps t.caps)) w2 (fun _ => False)) (r2 : RowF w2 3 g2 t.caps (fun _ => .int .i64 0)) (hg : g1 ≠ g2) :
    MS (w2.setCell ⟨M, 5, none⟩ (.slice (some ⟨g2, 0, none⟩) t.caps t.caps)) M s t us vi vp (.slice (some ⟨g1, 0, none⟩) t.caps t.caps) (.slice (some ⟨g2, 0, none⟩) t.caps t.caps) (s0 n) := by
  have h1 := h.low k1
  have ka : Keeps w1 (w1.setCell ⟨M, 4, none⟩ (.slice (some ⟨g1, 0, none⟩) t.caps t.caps)) (fun b => b = M) := (Keeps.refl w1 (fun b => b = M)).setCell (S := fun b => b = M) (j := 4) rfl _
  have kb : Keeps w2 (w2.setCell ⟨M, 5, none⟩ (.slice (some ⟨g2, 0, none⟩) t.caps t.caps)) (fun b => b = M) := (Keeps.refl w2 (fun b => b = M)).setCell (S := fun b => b = M) (j := 5) rfl _
  have kk : Keeps w1 (w2.setCell ⟨M, 5, none⟩ (.slice (some ⟨g2, 0, none⟩) t.caps t.caps)) (fun b => b = M) := (ka.trans (k2.mono (fun b hb => hb.elim))).trans kb
  obtain ⟨s1, s2, s3⟩ := h1.stat kk
  obtain ⟨a1, n1, c1, a2, n2, c2, hm⟩ := h1.m
  have hm2 := ((hm.set (j := 4) (by omega) (.slice (some ⟨g1, 0, none⟩) t.caps t.caps)).keep k2 (fun x => x)).set (j := 5) (by omega) (.slice (some ⟨g2, 0, none⟩) t.caps t.caps)
  refine ⟨hm2.congr fun j hj => ?_, s1, s2, ⟨_, _, rfl, Nat.le_refl _, .inr ⟨g1, rfl, ?_⟩⟩, ⟨_, _, rfl, Nat.le_refl _, .inr ⟨g2, rfl, ?_⟩⟩, fun g hg1 hg2 => ?_, s3⟩
  · rcases j with _ | _ | _ | _ | _ | _ | _ | j
    all_goals simp [mcells, s0]
    all_goals omega
  · rw [Nat.mul_one]
    exact r1.keep kk (fun e => RowF.apart r1 hm (by decide) e)
  · rw [Nat.mul_one]
    exact r2.keep kb (fun e => RowF.apart r2 ((hm.set (j := 4) (by omega) (.slice (some ⟨g1, 0, none⟩) t.caps t.caps)).keep k2 (fun x => x)) (by decide) e)
  · simp [Value.ownBlock] at hg1 hg2
    omega
/-- The cells of captures. -/
def capC (l : List (Bool × Nat × Nat)) : List Value := l.flatMap fun c => [.bool c.1, .int .i64 c.2.1, .int .i64 c.2.2]
theorem capC_1 (l : List (Bool × Nat × Nat)) (c : Bool × Nat × Nat) : capC (l ++ [c]) = capC l ++ [.bool c.1, .int .i64 c.2.1, .int .i64 c.2.2] := by simp [capC]
theorem one_cap (c : Bool × Nat × Nat) : ∀ v ∈ [Value.bool c.1, .int .i64 c.2.1, .int .i64 c.2.2], v.oneCell' = true := by
  intro v hv
  simp only [List.mem_cons, List.not_mem_nil, or_false] at hv
  rcases hv with rfl | rfl | rfl <;> rfl
theorem range_take_1 (t : Pt) (σ : Ms) (j : Nat) : (List.range (j + 1)).map (capAt t σ) = (List.range j).map (capAt t σ) ++ [capAt t σ j] := by rw [List.range_succ, List.map_append]; rfl
theorem Tryd.info3 : (Tryd.prog.info? 3).map (fun i => (i.zero, i.size, i.bytes)) = some (some (.int .i64 0), 1, 8) := by kernel_rfl
theorem Tryd.info64 : (Tryd.prog.info? 64).map (fun i => (i.zero, i.size, i.bytes)) = some (some (.agg #[.bool false, .int .i64 0, .int .i64 0]), 3, 24) := by kernel_rfl
/-- What a look comes to. -/
def SrR (M : Nat) (s : ByteArray) (t : Pt) (us : List (It × Value)) (vi vp : Value) (w : World) (r : Option Fd × Nat) (e : Ending) (w' : World) : Prop :=
  Keeps w w' (fun b => b = M) ∧ MB w' M s t us vi vp r.2 ∧ r.2 ≤ 200000 ∧ ((r.1 = none ∧ e = .returned (.tuple #[.agg #[.int .i64 0, .int .i64 0, nilS], .bool false])) ∨
    ∃ f v, r.1 = some f ∧ e = .returned (.tuple #[.agg #[.int .i64 f.fr, .int .i64 f.en, v], .bool true]) ∧ w'.ownsRow w.heap.size 64 3 v f.caps.length (capC f.caps))

end Go.Proofs.YtemciphihnpniaaDoor
namespace Go.Proofs.YtemciphihnpniaaDoor
open Go Go.RowKit Go.Shelf
set_option linter.unusedVariables false

/-! The program's search. -/
abbrev Nt := Nat → Bool × Nat × Nat
/-- The cells of a search. -/
def scells (s : ByteArray) (fx : Bool) (cn : Nat) (wh : Value) (n : Nat) (nt : Nt) (to_ : Nat) (j : Nat) : Value :=
  if j = 0 then .string s else if j = 1 then .bool fx else if j = 2 then .int .i64 cn else if j = 3 then wh else if j = 4 then .int .i64 n
  else if j = 53 then .int .i64 to_
  else if (j - 5) % 3 = 0 then .bool (nt ((j - 5) / 3)).1 else if (j - 5) % 3 = 1 then .int .i64 (nt ((j - 5) / 3)).2.1 else .int .i64 (nt ((j - 5) / 3)).2.2
def SB (w : World) (S : Nat) (s : ByteArray) (fx : Bool) (cn : Nat) (wh : Value) (n : Nat) (nt : Nt) (to_ : Nat) : Prop := RowF w 75 S 54 (scells s fx cn wh n nt to_)
section
variable {w w' : World} {S : Nat} {s : ByteArray} {fx : Bool} {cn : Nat} {wh : Value} {n : Nat} {nt : Nt} {to_ : Nat}
theorem SB.keep {T : Nat → Prop} (h : SB w S s fx cn wh n nt to_) (k : Keeps w w' T) (hn : ¬ T S) : SB w' S s fx cn wh n nt to_ := RowF.keep h k hn
theorem SB.subj (h : SB w S s fx cn wh n nt to_) : w.cell? ⟨S, 0, none⟩ = some (.string s) := RowF.cell h (j := 0) (by omega)
theorem SB.fix (h : SB w S s fx cn wh n nt to_) : w.cell? ⟨S, 1, none⟩ = some (.bool fx) := RowF.cell h (j := 1) (by omega)
theorem SB.cnt (h : SB w S s fx cn wh n nt to_) : w.cell? ⟨S, 2, none⟩ = some (.int .i64 cn) := RowF.cell h (j := 2) (by omega)
theorem SB.who (h : SB w S s fx cn wh n nt to_) : w.cell? ⟨S, 3, none⟩ = some wh := RowF.cell h (j := 3) (by omega)
theorem SB.stp (h : SB w S s fx cn wh n nt to_) : w.cell? ⟨S, 4, none⟩ = some (.int .i64 n) := RowF.cell h (j := 4) (by omega)
theorem SB.end_ (h : SB w S s fx cn wh n nt to_) : w.cell? ⟨S, 53, none⟩ = some (.int .i64 to_) := RowF.cell h (j := 53) (by omega)
theorem SB.n0 (h : SB w S s fx cn wh n nt to_) {k : Nat} (hk : k < 16) : w.cell? ⟨S, 5 + k * 3, none⟩ = some (.bool (nt k).1) := by
  rw [RowF.cell h (j := 5 + k * 3) (by omega), scells, if_neg (by omega), if_neg (by omega), if_neg (by omega), if_neg (by omega), if_neg (by omega), if_neg (by omega), if_pos (by omega), show (5 + k * 3 - 5) / 3 = k by omega]
theorem SB.n1 (h : SB w S s fx cn wh n nt to_) {k : Nat} (hk : k < 16) : w.cell? ⟨S, 5 + k * 3 + 1, none⟩ = some (.int .i64 (nt k).2.1) := by
  rw [RowF.cell h (j := 5 + k * 3 + 1) (by omega), scells, if_neg (by omega), if_neg (by omega), if_neg (by omega), if_neg (by omega), if_neg (by omega), if_neg (by omega), if_neg (by omega), if_pos (by omega), show (5 + k * 3 + 1 - 5) / 3 = k by omega]
theorem SB.n2 (h : SB w S s fx cn wh n nt to_) {k : Nat} (hk : k < 16) : w.cell? ⟨S, 5 + k * 3 + 2, none⟩ = some (.int .i64 (nt k).2.2) := by
  rw [RowF.cell h (j := 5 + k * 3 + 2) (by omega), scells, if_neg (by omega), if_neg (by omega), if_neg (by omega), if_neg (by omega), if_neg (by omega), if_neg (by omega), if_neg (by omega), if_neg (by omega), show (5 + k * 3 + 2 - 5) / 3 = k by omega]
theorem SB.setS (h : SB w S s fx cn wh n nt to_) (m : Nat) : SB (w.setCell ⟨S, 4, none⟩ (.int .i64 m)) S s fx cn wh m nt to_ :=
  (RowF.set h (j := 4) (by omega) _).congr fun j hj => by
    by_cases e : j = 4
    · subst e; rfl
    · rw [if_neg e]; simp only [scells, e, if_false]
theorem SB.setE (h : SB w S s fx cn wh n nt to_) (m : Nat) : SB (w.setCell ⟨S, 53, none⟩ (.int .i64 m)) S s fx cn wh n nt m :=
  (RowF.set h (j := 53) (by omega) _).congr fun j hj => by
    by_cases e : j = 53
    · subst e; rfl
    · rw [if_neg e]; simp only [scells, e, if_false]
theorem SB.kS (x : Value) (j : Nat) : Keeps w (w.setCell ⟨S, j, none⟩ x) (fun b => b = S) := (Keeps.refl w _).setCell (S := fun b => b = S) (j := j) rfl _
end
def updN (nt : Nt) (k : Nat) (v : Bool × Nat × Nat) : Nt := fun j => if j = k then v else nt j
theorem updN_same (nt : Nt) (k : Nat) (v : Bool × Nat × Nat) : updN nt k v k = v := by simp [updN]
theorem updN_other (nt : Nt) {k j : Nat} (v : Bool × Nat × Nat) (h : j ≠ k) : updN nt k v j = nt j := by simp [updN, h]
theorem SB.setN {w : World} {S : Nat} {s : ByteArray} {fx : Bool} {cn : Nat} {wh : Value} {n : Nat} {nt : Nt} {to_ : Nat} (h : SB w S s fx cn wh n nt to_) {k : Nat} (hk : k < 16) (b : Bool) (x y : Nat) :
    SB (((w.setCell ⟨S, 5 + k * 3, none⟩ (.bool b)).setCell ⟨S, 5 + k * 3 + 1, none⟩ (.int .i64 x)).setCell ⟨S, 5 + k * 3 + 2, none⟩ (.int .i64 y)) S s fx cn wh n (updN nt k (b, x, y)) to_ :=
  (((RowF.set h (j := 5 + k * 3) (by omega) _).set (j := 5 + k * 3 + 1) (by omega) _).set (j := 5 + k * 3 + 2) (by omega) _).congr fun j hj => by
    by_cases e2 : j = 5 + k * 3 + 2
    · rw [if_pos e2]; subst e2
      simp only [scells]
      rw [if_neg (by omega), if_neg (by omega), if_neg (by omega), if_neg (by omega), if_neg (by omega), if_neg (by omega), if_neg (by omega), if_neg (by omega), show (5 + k * 3 + 2 - 5) / 3 = k by omega, updN_same]
    rw [if_neg e2]
    by_cases e1 : j = 5 + k * 3 + 1
    · rw [if_pos e1]; subst e1
      simp only [scells]
      rw [if_neg (by omega), if_neg (by omega), if_neg (by omega), if_neg (by omega), if_neg (by omega), if_neg (by omega), if_neg (by omega), if_pos (by omega), show (5 + k * 3 + 1 - 5) / 3 = k by omega, updN_same]
    rw [if_neg e1]
    by_cases e0 : j = 5 + k * 3
    · rw [if_pos e0]; subst e0
      simp only [scells]
      rw [if_neg (by omega), if_neg (by omega), if_neg (by omega), if_neg (by omega), if_neg (by omega), if_neg (by omega), if_pos (by omega), show (5 + k * 3 - 5) / 3 = k by omega, updN_same]
    rw [if_neg e0]
    simp only [scells]
    by_cases h5 : j < 5
    · have : j = 0 ∨ j = 1 ∨ j = 2 ∨ j = 3 ∨ j = 4 := by omega
      rcases this with rfl | rfl | rfl | rfl | rfl <;> rfl
    · by_cases h53 : j = 53
      · subst h53; rfl
      · rw [updN_other nt _ (show (j - 5) / 3 ≠ k by omega)]

set_option maxHeartbeats 800000 in
set_option maxRecDepth 100000 in
theorem ispent_any {S : Nat} {s : ByteArray} {fx : Bool} {cn : Nat} {wh : Value} {n : Nat} {nt : Nt} {to_ : Nat} (w : World) (h : SB w S s fx cn wh n nt to_) :
    Calls Tryd.prog 26 #[.pointer (some ⟨S, 0, none⟩)] w fun e w' => e = .returned (.bool (decide (50000 < n))) ∧ w' = w := by
  have c := h.stp
  clear h
  go_enter Tryd.func26, Tryd.ntmps26
  go_wp2_with fail
  go_ret
  exact ⟨ret_b (decide_eq_decide.2 (by omega)), rfl⟩
set_option maxHeartbeats 800000 in
set_option maxRecDepth 100000 in
theorem step_any {S : Nat} {s : ByteArray} {fx : Bool} {cn : Nat} {wh : Value} {n : Nat} {nt : Nt} {to_ : Nat} (w : World) (hn : n ≤ 1000000) (h : SB w S s fx cn wh n nt to_) :
    Calls Tryd.prog 42 #[.pointer (some ⟨S, 0, none⟩)] w fun e w' => e = .returned (.bool (decide (n + 1 ≤ 50000))) ∧ SB w' S s fx cn wh (n + 1) nt to_ ∧ Keeps w w' (fun b => b = S) := by
  have c := h.stp
  have z : w.frozen? ⟨S, 4, none⟩ = false := RowF.frz h 4
  have H := hide (h.setS (n + 1))
  have HK := hide (SB.kS (w := w) (S := S) (.int .i64 ((n + 1 : Nat) : Int)) 4)
  rw [show ((n + 1 : Nat) : Int) = (n : Int) + 1 by omega] at H HK
  clear h
  go_enter Tryd.func42, Tryd.ntmps42
  go_wp2_with fail
  refine (ispent_any _ H.out).mono ?_
  rintro e w1 ⟨rfl, hw⟩
  obtain rfl := hw.symm
  by_cases hs : 50000 < n + 1
  · have hb : decide (50000 < n + 1) = true := decide_eq_true hs
    have HD := hide (show decide (n + 1 ≤ 50000) = false from decide_eq_false (by omega))
    go_wp2_with fail
    go_ret
    exact ⟨ret_b HD.out.symm, H.out, HK.out⟩
  · have hb : decide (50000 < n + 1) = false := decide_eq_false hs
    have HD := hide (show decide (n + 1 ≤ 50000) = true from decide_eq_true (by omega))
    go_wp2_with fail
    go_ret
    exact ⟨ret_b HD.out.symm, H.out, HK.out⟩
/-- A class in a box. -/
def ClF (w : World) (C : Nat) (f : Nat → Bool) : Prop := RowF w 109 C 256 (fun j => .bool (f j))
set_option maxHeartbeats 800000 in
set_option maxRecDepth 100000 in
theorem stands_any (C : Nat) (f : Nat → Bool) (s : ByteArray) (at_ : Nat) (w : World) (ha : at_ ≤ 1000000) (hs : s.size ≤ 65536) (h : ClF w C f) :
    Calls Tryd.prog 87 #[.pointer (some ⟨C, 0, none⟩), .string s, .int .i64 at_] w fun e w' => e = .returned (.bool (has s f at_)) ∧ Keeps w w' (fun _ => False) := by
  by_cases hin : at_ < s.size
  · have hx : ∀ w' : World, (Instr.index 9 (.string s) (.int .i64 (at_ : Int))).run Tryd.prog w' = .ok (.int .u8 (hb s at_)) w' := fun w' => by
      rw [idx_str s (i := (at_ : Int)) w' (by omega) (by omega), Int.toNat_natCast]
    have hlt : (at_ : Int) < (s.size : Int) := by omega
    have b0 := (hb_rng s at_).1
    have b1 := (hb_rng s at_).2
    have c1 := RowF.cell h (j := (hb s at_).toNat) (by omega)
    have HH := hide (show has s f at_ = f (hb s at_).toNat by rw [has, decide_eq_true hin]; rfl)
    clear h
    go_enter Tryd.func87, Tryd.ntmps87
    go_wp2_with fail
    go_quiet (fail)
    go_wp2_with fail
    go_ret
    exact ⟨ret_b HH.out.symm, (Keeps.refl w _).drewN nq⟩
  · have hlt : ¬ ((at_ : Int) < (s.size : Int)) := by omega
    have HH := hide (show has s f at_ = false by rw [has, decide_eq_false hin]; rfl)
    clear h
    go_enter Tryd.func87, Tryd.ntmps87
    go_wp2_with fail
    go_quiet (fail)
    go_wp2_with fail
    go_ret
    exact ⟨ret_b HH.out.symm, (Keeps.refl w _).drewN nq⟩


end Go.Proofs.YtemciphihnpniaaDoor
