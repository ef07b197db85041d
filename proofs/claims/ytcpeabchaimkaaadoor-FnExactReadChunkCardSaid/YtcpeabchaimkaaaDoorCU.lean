import Derived.Test.YtcpeabchaimkaaaDoorJCT
namespace Go.Proofs.YtcpeabchaimkaaaDoor
open Go Go.RowKit
set_option linter.unusedVariables false

theorem owns_same {w w' : World} {base e size n : Nat} {v : Value} {xs : List Value} (h : w.ownsRow base e size v n xs) (k : ∀ g, g < w.heap.size → v.ownBlock = some g → w'.heap[g]? = w.heap[g]?) : w'.ownsRow base e size v n xs := by
  obtain ⟨h1, h2⟩ := h
  rcases h2 with h2 | ⟨g, cap, cur, rfl, hBg, hh, hr⟩
  · exact ⟨h1, .inl h2⟩
  · have hg : g < w.heap.size := by
      rcases Nat.lt_or_ge g w.heap.size with c | c
      · exact c
      · rw [Array.getElem?_eq_none c] at hh; cases hh
    exact ⟨h1, .inr ⟨g, cap, cur, rfl, hBg, (k g hg rfl).trans hh, hr⟩⟩
theorem owns_apart {w : World} {base e size n base' e' size' n' : Nat} {v v' : Value} {xs xs' : List Value} (h : w.ownsRow base e size v n xs) (h' : w.ownsRow base' e' size' v' n' xs') (he : e ≠ e') {g : Nat} (hg : v.ownBlock = some g) : v'.ownBlock ≠ some g := by
  obtain ⟨-, h2⟩ := h
  obtain ⟨-, h2'⟩ := h'
  intro hg'
  rcases h2 with ⟨rfl, _⟩ | ⟨a, cap, cur, rfl, hBg, hh, hr⟩
  · simp [Value.ownBlock] at hg
  · rcases h2' with ⟨rfl, _⟩ | ⟨b, cap', cur', rfl, hBg', hh', hr'⟩
    · simp [Value.ownBlock] at hg'
    · have e1 : a = g := by simpa [Value.ownBlock] using hg
      have e2 : b = g := by simpa [Value.ownBlock] using hg'
      subst e1
      subst e2
      rw [hh] at hh'
      simp at hh'
      exact he hh'.2
theorem RdN.low {w w' : World} {R B : Nat} {s : St} (h : RdN w R s) (hb : Below B w w') (hR : R < B) : RdN w' R s := ⟨h.1.low hb hR, h.2⟩
/-- One more in a list: behind the append, and the store. -/
theorem PS.app_u {w0 w w' : World} {R g2 g3 : Nat} {s : St} {f : Nat → Value} {nu nc ni nl : Nat} {us cs is ls ds : List Value} {v' : Value} (h : PS w0 w R g2 g3 s f nu us nc cs ni is nl ls)
    (h1 : w'.ownsRow (g3 + 1) 57 2 v' (nu + 1) (us ++ ds)) (h2 : ∀ B w0, Below B w0 w → B ≤ g3 + 1 → Below B w0 w') (h3 : ∀ gx, gx < w.heap.size → (f 4).ownBlock ≠ some gx → w'.heap[gx]? = w.heap[gx]?) :
    PS w0 (w'.setCell ⟨g3, 4, none⟩ v') R g2 g3 s (fun i => if i = 4 then v' else f i) (nu + 1) (us ++ ds) nc cs ni is nl ls := by
  obtain ⟨o1, o2, o3⟩ := h.o
  have hb : Below (g3 + 1) w w' := h2 _ _ (Below.refl _ _) (Nat.le_refl _)
  have hg3 := h.p.lt
  have k : Keeps w' (w'.setCell ⟨g3, 4, none⟩ v') (fun b => b = g3) := (Keeps.refl w' (fun b => b = g3)).setCell (S := fun b => b = g3) (j := 4) rfl v'
  have kk : Keeps w0 w' (fun b => b = R) := ⟨hb.os.trans h.k.os, hb.tape.trans h.k.tape, hb.output.trans h.k.output, Nat.le_trans h.k.size hb.size, fun b hb9 hn => (hb.block b (by omega)).trans (h.k.block b hb9 hn)⟩
  refine ⟨h.o, (h.rd.low hb (by omega)).keep k (by omega), (h.z.low hb (by omega)).keep k (by omega), (h.p.low hb (by omega)).set (by omega) v', kk.past (by omega) v', ?_, ?_, ?_, ?_⟩
  · rw [if_pos rfl]; exact owns_keep h1 k (by omega)
  · rw [if_neg (by omega)]; exact owns_keep (owns_same h.c (fun g hg hv => h3 g hg (owns_apart h.c h.u (by decide) hv))) k (by omega)
  · rw [if_neg (by omega)]; exact owns_keep (owns_same h.i (fun g hg hv => h3 g hg (owns_apart h.i h.u (by decide) hv))) k (by omega)
  · rw [if_neg (by omega)]; exact owns_keep (owns_same h.l (fun g hg hv => h3 g hg (owns_apart h.l h.u (by decide) hv))) k (by omega)
/-- One more in a list: behind the append, and the store. -/
theorem PS.app_c {w0 w w' : World} {R g2 g3 : Nat} {s : St} {f : Nat → Value} {nu nc ni nl : Nat} {us cs is ls ds : List Value} {v' : Value} (h : PS w0 w R g2 g3 s f nu us nc cs ni is nl ls)
    (h1 : w'.ownsRow (g3 + 1) 59 4 v' (nc + 1) (cs ++ ds)) (h2 : ∀ B w0, Below B w0 w → B ≤ g3 + 1 → Below B w0 w') (h3 : ∀ gx, gx < w.heap.size → (f 5).ownBlock ≠ some gx → w'.heap[gx]? = w.heap[gx]?) :
    PS w0 (w'.setCell ⟨g3, 5, none⟩ v') R g2 g3 s (fun i => if i = 5 then v' else f i) nu us (nc + 1) (cs ++ ds) ni is nl ls := by
  obtain ⟨o1, o2, o3⟩ := h.o
  have hb : Below (g3 + 1) w w' := h2 _ _ (Below.refl _ _) (Nat.le_refl _)
  have hg3 := h.p.lt
  have k : Keeps w' (w'.setCell ⟨g3, 5, none⟩ v') (fun b => b = g3) := (Keeps.refl w' (fun b => b = g3)).setCell (S := fun b => b = g3) (j := 5) rfl v'
  have kk : Keeps w0 w' (fun b => b = R) := ⟨hb.os.trans h.k.os, hb.tape.trans h.k.tape, hb.output.trans h.k.output, Nat.le_trans h.k.size hb.size, fun b hb9 hn => (hb.block b (by omega)).trans (h.k.block b hb9 hn)⟩
  refine ⟨h.o, (h.rd.low hb (by omega)).keep k (by omega), (h.z.low hb (by omega)).keep k (by omega), (h.p.low hb (by omega)).set (by omega) v', kk.past (by omega) v', ?_, ?_, ?_, ?_⟩
  · rw [if_neg (by omega)]; exact owns_keep (owns_same h.u (fun g hg hv => h3 g hg (owns_apart h.u h.c (by decide) hv))) k (by omega)
  · rw [if_pos rfl]; exact owns_keep h1 k (by omega)
  · rw [if_neg (by omega)]; exact owns_keep (owns_same h.i (fun g hg hv => h3 g hg (owns_apart h.i h.c (by decide) hv))) k (by omega)
  · rw [if_neg (by omega)]; exact owns_keep (owns_same h.l (fun g hg hv => h3 g hg (owns_apart h.l h.c (by decide) hv))) k (by omega)
/-- One more in a list: behind the append, and the store. -/
theorem PS.app_i {w0 w w' : World} {R g2 g3 : Nat} {s : St} {f : Nat → Value} {nu nc ni nl : Nat} {us cs is ls ds : List Value} {v' : Value} (h : PS w0 w R g2 g3 s f nu us nc cs ni is nl ls)
    (h1 : w'.ownsRow (g3 + 1) 61 4 v' (ni + 1) (is ++ ds)) (h2 : ∀ B w0, Below B w0 w → B ≤ g3 + 1 → Below B w0 w') (h3 : ∀ gx, gx < w.heap.size → (f 6).ownBlock ≠ some gx → w'.heap[gx]? = w.heap[gx]?) :
    PS w0 (w'.setCell ⟨g3, 6, none⟩ v') R g2 g3 s (fun i => if i = 6 then v' else f i) nu us nc cs (ni + 1) (is ++ ds) nl ls := by
  obtain ⟨o1, o2, o3⟩ := h.o
  have hb : Below (g3 + 1) w w' := h2 _ _ (Below.refl _ _) (Nat.le_refl _)
  have hg3 := h.p.lt
  have k : Keeps w' (w'.setCell ⟨g3, 6, none⟩ v') (fun b => b = g3) := (Keeps.refl w' (fun b => b = g3)).setCell (S := fun b => b = g3) (j := 6) rfl v'
  have kk : Keeps w0 w' (fun b => b = R) := ⟨hb.os.trans h.k.os, hb.tape.trans h.k.tape, hb.output.trans h.k.output, Nat.le_trans h.k.size hb.size, fun b hb9 hn => (hb.block b (by omega)).trans (h.k.block b hb9 hn)⟩
  refine ⟨h.o, (h.rd.low hb (by omega)).keep k (by omega), (h.z.low hb (by omega)).keep k (by omega), (h.p.low hb (by omega)).set (by omega) v', kk.past (by omega) v', ?_, ?_, ?_, ?_⟩
  · rw [if_neg (by omega)]; exact owns_keep (owns_same h.u (fun g hg hv => h3 g hg (owns_apart h.u h.i (by decide) hv))) k (by omega)
  · rw [if_neg (by omega)]; exact owns_keep (owns_same h.c (fun g hg hv => h3 g hg (owns_apart h.c h.i (by decide) hv))) k (by omega)
  · rw [if_pos rfl]; exact owns_keep h1 k (by omega)
  · rw [if_neg (by omega)]; exact owns_keep (owns_same h.l (fun g hg hv => h3 g hg (owns_apart h.l h.i (by decide) hv))) k (by omega)
/-- One more in a list: behind the append, and the store. -/
theorem PS.app_l {w0 w w' : World} {R g2 g3 : Nat} {s : St} {f : Nat → Value} {nu nc ni nl : Nat} {us cs is ls ds : List Value} {v' : Value} (h : PS w0 w R g2 g3 s f nu us nc cs ni is nl ls)
    (h1 : w'.ownsRow (g3 + 1) 3 1 v' (nl + 1) (ls ++ ds)) (h2 : ∀ B w0, Below B w0 w → B ≤ g3 + 1 → Below B w0 w') (h3 : ∀ gx, gx < w.heap.size → (f 7).ownBlock ≠ some gx → w'.heap[gx]? = w.heap[gx]?) :
    PS w0 (w'.setCell ⟨g3, 7, none⟩ v') R g2 g3 s (fun i => if i = 7 then v' else f i) nu us nc cs ni is (nl + 1) (ls ++ ds) := by
  obtain ⟨o1, o2, o3⟩ := h.o
  have hb : Below (g3 + 1) w w' := h2 _ _ (Below.refl _ _) (Nat.le_refl _)
  have hg3 := h.p.lt
  have k : Keeps w' (w'.setCell ⟨g3, 7, none⟩ v') (fun b => b = g3) := (Keeps.refl w' (fun b => b = g3)).setCell (S := fun b => b = g3) (j := 7) rfl v'
  have kk : Keeps w0 w' (fun b => b = R) := ⟨hb.os.trans h.k.os, hb.tape.trans h.k.tape, hb.output.trans h.k.output, Nat.le_trans h.k.size hb.size, fun b hb9 hn => (hb.block b (by omega)).trans (h.k.block b hb9 hn)⟩
  refine ⟨h.o, (h.rd.low hb (by omega)).keep k (by omega), (h.z.low hb (by omega)).keep k (by omega), (h.p.low hb (by omega)).set (by omega) v', kk.past (by omega) v', ?_, ?_, ?_, ?_⟩
  · rw [if_neg (by omega)]; exact owns_keep (owns_same h.u (fun g hg hv => h3 g hg (owns_apart h.u h.l (by decide) hv))) k (by omega)
  · rw [if_neg (by omega)]; exact owns_keep (owns_same h.c (fun g hg hv => h3 g hg (owns_apart h.c h.l (by decide) hv))) k (by omega)
  · rw [if_neg (by omega)]; exact owns_keep (owns_same h.i (fun g hg hv => h3 g hg (owns_apart h.i h.l (by decide) hv))) k (by omega)
  · rw [if_pos rfl]; exact owns_keep h1 k (by omega)

end Go.Proofs.YtcpeabchaimkaaaDoor
