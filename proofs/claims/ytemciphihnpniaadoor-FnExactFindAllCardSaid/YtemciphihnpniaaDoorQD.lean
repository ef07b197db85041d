import Derived.Test.YtemciphihnpniaaDoorQC
namespace Go.Proofs.YtemciphihnpniaaDoor
open Go Go.RowKit Go.Shelf
set_option linter.unusedVariables false

theorem mem_snoc {α : Type} {l : List α} {a x : α} (h : x ∈ l ++ [a]) : x ∈ l ∨ x = a := by
  rcases List.mem_append.1 h with h | h
  · exact .inl h
  · exact .inr (List.mem_singleton.1 h)
/-- What a reader's lists keep, and that every capture is open or done. -/
structure RdL (R : Rd) : Prop extends RdK R where
  all : ∀ n, n < R.done.length → n ∈ R.opn ∨ R.done.getD n false = true
theorem rdK_pre {its : List It} {it : It} (h : ∀ k (hk : k < its.length), its[k].kind = 3 → ∀ j ∈ its.take k, j.kind = 1 ∨ j.kind = 3 → j.n ≠ its[k].n) (hi : it.kind = 3 → ∀ j ∈ its, j.kind = 1 ∨ j.kind = 3 → j.n ≠ it.n) :
    ∀ k (hk : k < (its ++ [it]).length), (its ++ [it])[k].kind = 3 → ∀ j ∈ (its ++ [it]).take k, j.kind = 1 ∨ j.kind = 3 → j.n ≠ (its ++ [it])[k].n := fun k hk => by
  have hk' := hk
  rw [List.length_append, List.length_singleton] at hk'
  rcases Nat.lt_or_ge k its.length with c | c
  · rw [List.take_append_of_le_length (Nat.le_of_lt c), List.getElem_append_left c]
    exact h k c
  · obtain rfl : k = its.length := by omega
    rw [List.take_append_of_le_length (Nat.le_refl _), List.take_length, List.getElem_append_right (Nat.le_refl _)]
    simpa using hi
theorem RdL.more {R : Rd} {it : It} (h : RdL R) (q : Nat) (hk : it.kind ≠ 1 ∧ it.kind ≠ 3) : RdL ⟨q, R.items ++ [it], R.opn, R.done⟩ :=
  ⟨⟨h.nod, h.lt, h.opn, fun j hj hk2 => by
    rcases mem_snoc hj with hj | rfl
    · exact h.don j hj hk2
    · omega, rdK_pre h.pre (fun x => absurd x hk.2)⟩, h.all⟩
theorem getD_left {l : List Bool} {b : Bool} {n : Nat} (h : n < l.length) : (l ++ [b]).getD n false = l.getD n false := by
  rw [List.getD_eq_getElem?_getD, List.getD_eq_getElem?_getD, List.getElem?_append_left h]
theorem getD_last (l : List Bool) (b : Bool) : (l ++ [b]).getD l.length false = b := by
  rw [List.getD_eq_getElem?_getD, List.getElem?_append_right (Nat.le_refl _)]
  simp
theorem getD_set_ne {l : List Bool} {b : Bool} {n m : Nat} (h : m ≠ n) : (l.set n b).getD m false = l.getD m false := by
  rw [List.getD_eq_getElem?_getD, List.getD_eq_getElem?_getD, List.getElem?_set_ne (fun e => h e.symm)]
theorem getD_set_eq {l : List Bool} {b : Bool} {n : Nat} (h : n < l.length) : (l.set n b).getD n false = b := by
  rw [List.getD_eq_getElem?_getD, List.getElem?_set_self h]
  rfl
theorem getLast_split {l : List Nat} {n : Nat} (h : l.getLast? = some n) : l = l.dropLast ++ [n] := by
  have hne : l ≠ [] := fun e => by rw [e] at h; cases h
  rw [List.getLast?_eq_some_getLast hne, Option.some.injEq] at h
  rw [← h, List.dropLast_concat_getLast]
theorem rdItem_l {p : ByteArray} {R R' : Rd} (hj : RdJ R) (h : RdL R) (e : rdItem p R = some R') : RdL R' := by
  unfold rdItem at e
  split at e
  · split at e
    · cases e
      refine ⟨⟨h.nod, fun n hn => ?_, fun n hn => ?_, fun j hj1 hk => ?_, rdK_pre h.pre (fun x => by simp [itPlace] at x)⟩, fun n hn => ?_⟩
      · have := h.lt n hn
        simp only [List.length_append, List.length_singleton]; omega
      · rw [getD_left (h.lt n hn)]; exact h.opn n hn
      · rcases mem_snoc hj1 with hj1 | rfl
        · rw [getD_left (hj.lt j hj1 (by omega) (by omega))]; exact h.don j hj1 hk
        · exact getD_last _ _
      · simp only [List.length_append, List.length_singleton] at hn
        rcases Nat.lt_or_ge n R.done.length with c | c
        · rw [getD_left c]; exact h.all n c
        · obtain rfl : n = R.done.length := by omega
          exact .inr (getD_last _ _)
    · cases e
      refine ⟨⟨?_, fun n hn => ?_, fun n hn => ?_, fun j hj1 hk => ?_, rdK_pre h.pre (fun x => by simp [itOpen] at x)⟩, fun n hn => ?_⟩
      · show (R.opn ++ [R.done.length]).Nodup
        rw [List.nodup_append]
        refine ⟨h.nod, by simp, fun a ha b hb => ?_⟩
        have h1 := h.lt a ha
        have h2 := List.mem_singleton.1 hb
        omega
      · rcases mem_snoc hn with hn | rfl
        · have := h.lt n hn
          simp only [List.length_append, List.length_singleton]; omega
        · simp
      · rcases mem_snoc hn with hn | rfl
        · rw [getD_left (h.lt n hn)]; exact h.opn n hn
        · exact getD_last _ _
      · rcases mem_snoc hj1 with hj1 | rfl
        · rw [getD_left (hj.lt j hj1 (by omega) (by omega))]; exact h.don j hj1 hk
        · simp [itOpen] at hk
      · simp only [List.length_append, List.length_singleton] at hn
        rcases Nat.lt_or_ge n R.done.length with c | c
        · rw [getD_left c]
          rcases h.all n c with d | d
          · exact .inl (List.mem_append_left _ d)
          · exact .inr d
        · obtain rfl : n = R.done.length := by omega
          exact .inl (List.mem_append_right _ (List.mem_singleton.2 rfl))
  split at e
  · split at e
    · cases e
    · rename_i n hn
      cases e
      have hm : n ∈ R.opn := List.mem_of_getLast? hn
      have hlt := h.lt n hm
      have hsp := getLast_split hn
      have hnod := h.nod
      rw [hsp, List.nodup_append] at hnod
      obtain ⟨hn1, _, hn2⟩ := hnod
      have hnot : ∀ m ∈ R.opn.dropLast, m ≠ n := fun m hm2 => hn2 m hm2 n (List.mem_singleton.2 rfl)
      have hof := h.opn n hm
      have hsh : ∀ j ∈ R.items, j.kind = 1 ∨ j.kind = 3 → j.n ≠ n := fun j hj1 hk c => by
        have := h.don j hj1 hk
        rw [c, hof] at this
        cases this
      refine ⟨⟨hn1, fun m hm2 => ?_, fun m hm2 => ?_, fun j hj1 hk => ?_, rdK_pre h.pre (fun _ => hsh)⟩, fun m hm2 => ?_⟩
      · show m < (R.done.set n true).length
        rw [List.length_set]
        exact h.lt m ((List.dropLast_sublist _).subset hm2)
      · show (R.done.set n true).getD m false = false
        rw [getD_set_ne (hnot m hm2)]
        exact h.opn m ((List.dropLast_sublist _).subset hm2)
      · show (R.done.set n true).getD j.n false = true
        rcases mem_snoc hj1 with hj1 | rfl
        · rw [getD_set_ne (hsh j hj1 hk)]
          exact h.don j hj1 hk
        · exact getD_set_eq hlt
      · show m ∈ R.opn.dropLast ∨ (R.done.set n true).getD m false = true
        have hm3 : m < R.done.length := by
          have : m < (R.done.set n true).length := hm2
          rwa [List.length_set] at this
        by_cases c : m = n
        · subst c; exact .inr (getD_set_eq hlt)
        · rw [getD_set_ne c]
          rcases h.all m hm3 with d | d
          · rw [hsp] at d
            rcases mem_snoc d with d | d
            · exact .inl d
            · exact absurd d c
          · exact .inr d
  split at e
  · split at e
    · cases e
    · cases e; exact h.more _ (by simp [itBack])
  split at e
  · split at e
    · cases e; exact h.more _ (by simp [itPair])
    · cases e
  split at e
  · split at e
    · obtain ⟨r, _, rfl⟩ := Option.map_eq_some_iff.1 e
      exact h.more _ (by simp [itEdge])
    · cases e
  split at e
  · cases e; exact h.more _ (by simp [itEnd])
  · obtain ⟨r, _, rfl⟩ := Option.map_eq_some_iff.1 e
    split
    · exact h.more _ (by simp [itOne, it0])
    · exact h.more _ (by simp [itOne, it0])
theorem rdAll_l {p : ByteArray} : ∀ {k : Nat} {R R' : Rd}, RdJ R → RdL R → rdAll p k R = some R' → RdL R'
  | 0, R, R', _, h, e => by
    rw [rdAll] at e
    split at e
    · cases e
    · cases e; exact h
  | k + 1, R, R', hj, h, e => by
    rw [rdAll] at e
    split at e
    · obtain ⟨R1, e1, e2⟩ := Option.bind_eq_some_iff.1 e
      exact rdAll_l (rdItem_j hj e1) (rdItem_l hj h e1) e2
    · cases e; exact h
/-- What is right about a pattern that was read: its shuts, and that every capture is closed by an item. -/
structure PtK (t : Pt) : Prop where
  wf : WF t.caps t.items
  caps : t.caps ≤ 16
  place : t.place = isPl t.items
  pre : ∀ k (hk : k < t.items.length), t.items[k].kind = 3 → ∀ j ∈ t.items.take k, j.kind = 1 ∨ j.kind = 3 → j.n ≠ t.items[k].n
  all : ∀ n, n < t.caps → ∃ j ∈ t.items, (j.kind = 1 ∨ j.kind = 3) ∧ j.n = n
theorem rdPat_k {p : ByteArray} {t : Pt} (e : rdPat p = some t) : PtK t := by
  have hw := rdPat_wf e
  unfold rdPat at e
  split at e
  · cases e
  · obtain ⟨R, e1, e2⟩ := Option.bind_eq_some_iff.1 e
    split at e2
    · rename_i h
      cases e2
      have h0 : RdJ ⟨if hb p 0 = 94 then 1 else 0, [], [], []⟩ := ⟨fun k hk => by simp at hk, fun n hn => by simp at hn, fun n hn => by simp at hn, fun j hj => by simp at hj⟩
      have hj := rdAll_j h0 e1
      have hl := rdAll_l h0 ⟨⟨by simp, fun n hn => by simp at hn, fun n hn => by simp at hn, fun j hj => by simp at hj, fun k hk => by simp at hk⟩, fun n hn => by simp at hn⟩ e1
      refine ⟨hw.1, hw.2.1, hw.2.2, hl.pre, fun n hn => ?_⟩
      rcases hl.all n hn with d | d
      · rw [h.1] at d; cases d
      · exact hj.done n d
    · cases e2
/-- A capture that is shut is no place. -/
theorem PtK.apart {t : Pt} (h : PtK t) {j : It} (hj : j ∈ t.items) (hk : j.kind = 3) : t.place j.n = false := by
  rw [h.place]
  cases hp : isPl t.items j.n
  · rfl
  · unfold isPl at hp
    rw [List.any_eq_true] at hp
    obtain ⟨i, hi, hi2⟩ := hp
    simp only [Bool.and_eq_true, decide_eq_true_eq] at hi2
    obtain ⟨a, ha, rfl⟩ := List.getElem_of_mem hj
    obtain ⟨b, hb, rfl⟩ := List.getElem_of_mem hi
    rcases Nat.lt_trichotomy a b with c | c | c
    · exact absurd hi2.2.symm (((h.wf b hb).1 (.inl hi2.1)).2 _ (List.mem_take_iff_getElem.2 ⟨a, by omega, rfl⟩) (.inr (.inr hk)))
    · subst c; omega
    · exact absurd hi2.2 (h.pre a ha hk _ (List.mem_take_iff_getElem.2 ⟨b, by omega, rfl⟩) (.inl hi2.1))
/-- A shut has its opening ahead of it. -/
theorem PtK.opened {t : Pt} (h : PtK t) {a : Nat} (ha : a < t.items.length) (hk : t.items[a].kind = 3) : ∃ j ∈ t.items.take a, j.kind = 2 ∧ j.n = t.items[a].n := ((h.wf a ha).2.1 hk).2
/-- Each item stands rightly behind those ahead of it. -/
theorem PtK.preOk {t : Pt} (h : PtK t) {k : Nat} (hk : k < t.items.length) : PreOk t.place (t.items.take k) t.items[k] := by
  refine ⟨(h.wf k hk).mono h.caps, fun h3 => h.pre k hk h3, fun h4 => ?_⟩
  obtain ⟨_, j, hj, hk2, hn⟩ := (h.wf k hk).2.2 h4
  obtain ⟨a, ha, rfl⟩ := List.mem_take_iff_getElem.1 hj
  rcases hk2 with hk2 | hk2
  · exact .inl ⟨by rw [h.place, ← hn]; exact isPl_of (List.getElem_mem _) hk2, _, hj, hk2, hn⟩
  · refine .inr ⟨by rw [← hn]; exact h.apart (List.getElem_mem _) hk2, ?_, _, hj, hk2, hn⟩
    obtain ⟨i, hi, hi1, hi2⟩ := h.opened (by omega) hk2
    obtain ⟨b, hb, rfl⟩ := List.mem_take_iff_getElem.1 hi
    exact ⟨_, List.mem_take_iff_getElem.2 ⟨b, by omega, rfl⟩, hi1, hi2.trans hn⟩
/-- What is noted behind all items are the captures. -/
theorem PtK.noted {t : Pt} (h : PtK t) (nt : Nt) (σ : Ms) (hg : Ag t.items nt σ) (k : Nat) (hk : k < t.caps) : nt k = capAt t σ k := by
  obtain ⟨j, hj, hk2, rfl⟩ := h.all k hk
  rcases hk2 with hk2 | hk2
  · have hp : t.place j.n = true := by rw [h.place]; exact isPl_of hj hk2
    rw [(hg j hj).1 hk2, capAt, hp, if_pos rfl]
  · have hp := h.apart hj hk2
    have h3 := (hg j hj).2.2 hk2
    obtain ⟨a, ha, rfl⟩ := List.getElem_of_mem hj
    obtain ⟨i, hi, hi1, hi2⟩ := h.opened ha hk2
    have h2 := (hg i (List.take_subset _ _ hi)).2.1 hi1
    rw [hi2] at h2
    rw [capAt, hp, if_neg (by simp), ← h2.1, ← h2.2, ← h3]

end Go.Proofs.YtemciphihnpniaaDoor
