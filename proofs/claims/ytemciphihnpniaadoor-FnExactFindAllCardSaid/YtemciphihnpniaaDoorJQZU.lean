import Derived.Test.YtemciphihnpniaaDoorJQZ5
import Derived.RangeFuncNested
import Derived.RangeFuncBound
import Derived.Test.YtemciphihnpniaaDoorJQZ8
import Derived.RangeFuncCalls
import Derived.RangeFuncLeaves
import Derived.OwnWalkIn
import Derived.TacticsInMore
import Derived.LoopNIn
import Derived.LoopIn
import Derived.Test.YtemciphihnpniaaDoorJQZA
namespace Go.Proofs.YtemciphihnpniaaDoor
open Go Go.RowKit
set_option linter.unusedVariables false

/-- Where the next match is looked for. -/
def nxA (f : Fd) : Nat := if f.en = f.fr then f.en + 1 else f.en
/-- All matches from a place on, at most ten thousand with the c that there are. -/
def allM (s : ByteArray) (t : Pt) : Nat → Nat → Nat → Nat → List Fd × Nat
  | 0, _, n, _ => ([], n)
  | k + 1, at_, n, c =>
    if at_ ≤ s.size ∧ c < 10000 then
      match srM s t (s.size + 1) at_ n with
      | (some f, n') => (f :: (allM s t k (nxA f) n' (c + 1)).1, (allM s t k (nxA f) n' (c + 1)).2)
      | (none, n') => ([], n')
    else ([], n)
theorem allM_end {s : ByteArray} {t : Pt} {k at_ n c : Nat} (h : ¬ (at_ ≤ s.size ∧ c < 10000)) : allM s t (k + 1) at_ n c = ([], n) := by rw [allM, if_neg h]
theorem allM_none {s : ByteArray} {t : Pt} {k at_ n n' c : Nat} (h : at_ ≤ s.size ∧ c < 10000) (hs : srM s t (s.size + 1) at_ n = (none, n')) : allM s t (k + 1) at_ n c = ([], n') := by rw [allM, if_pos h, hs]
theorem allM_some {s : ByteArray} {t : Pt} {k at_ n n' c : Nat} {f : Fd} (h : at_ ≤ s.size ∧ c < 10000) (hs : srM s t (s.size + 1) at_ n = (some f, n')) : allM s t (k + 1) at_ n c = (f :: (allM s t k (nxA f) n' (c + 1)).1, (allM s t k (nxA f) n' (c + 1)).2) := by rw [allM, if_pos h, hs]
theorem srM_rng {s : ByteArray} {t : Pt} : ∀ {k at_ n : Nat} {f : Fd}, (srM s t k at_ n).1 = some f → at_ ≤ f.fr ∧ f.fr ≤ f.en ∧ f.en ≤ s.size
  | 0, _, _, f, h => by simp [srM] at h
  | k + 1, at_, n, f, h => by
    rw [srM] at h
    split at h
    · rename_i h1
      split at h
      · rename_i e σ he
        cases h
        have := tryM_rng s t.place t.items at_ (s0 n) e h1.1 (by rw [he])
        exact ⟨Nat.le_refl _, this.1, this.2⟩
      · split at h
        · cases h
        · have := srM_rng h
          omega
    · cases h
theorem nxA_lt {s : ByteArray} {t : Pt} {k at_ n : Nat} {f : Fd} (h : (srM s t k at_ n).1 = some f) : at_ < nxA f ∧ nxA f ≤ s.size + 1 := by
  have := srM_rng h
  unfold nxA
  split <;> omega
def findAllM (s p : ByteArray) : List Fd × Int :=
  if 65536 < s.size then ([], 1)
  else match rdPat p with
    | none => ([], 2)
    | some t => if 50000 < (allM s t (s.size + 2) 0 0 0).2 then ([], 4) else ((allM s t (s.size + 2) 0 0 0).1, 0)
abbrev Fv := Fd × Value
def fsC (us : List Fv) : List Value := us.flatMap fun u => [.int .i64 (u.1.fr : Int), .int .i64 (u.1.en : Int), u.2]
theorem fsC_len (us : List Fv) : (fsC us).length = us.length * 3 := by
  induction us with
  | nil => rfl
  | cons a l ih => rw [show fsC (a :: l) = [.int .i64 (a.1.fr : Int), .int .i64 (a.1.en : Int), a.2] ++ fsC l from rfl, List.length_append, ih]; simp; omega
/-- Matches in memory of one's own. -/
structure FsO (w : World) (B : Nat) (v : Value) (us : List Fv) : Prop where
  l : w.ownsRow B 24 3 v us.length (fsC us)
  c : ∀ u ∈ us, w.ownsRow B 64 3 u.2 u.1.caps.length (capC u.1.caps)
  r : us.Pairwise (fun a b => ∀ g g', a.2.ownBlock = some g → b.2.ownBlock = some g' → g < g')
theorem FsO.keep {w w' : World} {B : Nat} {v : Value} {us : List Fv} {S : Nat → Prop} (h : FsO w B v us) (k : Keeps w w' S) (hS : ∀ b, S b → b < B) : FsO w' B v us :=
  ⟨owns_keep h.l k hS, fun u hu => owns_keep (h.c u hu) k hS, h.r⟩
/-- One more. -/
theorem FsO.app {w w5 : World} {B : Nat} {v v' : Value} {us : List Fv} (h : FsO w B v us) (u : Fv) (hu : w.ownsRow B 64 3 u.2 u.1.caps.length (capC u.1.caps)) (hur : ∀ a ∈ us, ∀ g g', a.2.ownBlock = some g → u.2.ownBlock = some g' → g < g')
    (h1 : w5.ownsRow B 24 3 v' (us.length + 1) (fsC us ++ [.int .i64 (u.1.fr : Int), .int .i64 (u.1.en : Int), u.2])) (h3 : ∀ gx, gx < w.heap.size → v.ownBlock ≠ some gx → w5.heap[gx]? = w.heap[gx]?) : FsO w5 B v' (us ++ [u]) := by
  have hc : ∀ a : Fv, w.ownsRow B 64 3 a.2 a.1.caps.length (capC a.1.caps) → w5.ownsRow B 64 3 a.2 a.1.caps.length (capC a.1.caps) := fun a ha =>
    owns_stay ha (fun g hg => h3 g (owns_blt ha hg).2 (owns_apart ha h.l (by decide) hg))
  refine ⟨?_, fun a ha => ?_, ?_⟩
  · rw [List.length_append, List.length_singleton, show fsC (us ++ [u]) = fsC us ++ [.int .i64 (u.1.fr : Int), .int .i64 (u.1.en : Int), u.2] by simp [fsC]]
    exact h1
  · rcases List.mem_append.1 ha with ha | ha
    · exact hc a (h.c a ha)
    · rw [List.mem_singleton.1 ha]; exact hc u hu
  · rw [List.pairwise_append]
    exact ⟨h.r, List.pairwise_singleton _ _, fun a ha b hb => by rw [List.mem_singleton.1 hb]; exact hur a ha⟩
/-- What all matches come to. -/
def FaR (r : List Fd × Int) (w : World) (e : Ending) (w' : World) : Prop :=
  Below w.heap.size w w' ∧ ∃ v us, e = .returned (.tuple #[v, .int .i64 r.2]) ∧ us.map Prod.fst = r.1 ∧ FsO w' w.heap.size v us

end Go.Proofs.YtemciphihnpniaaDoor
namespace Go.Proofs.YtemciphihnpniaaDoor
open Go Go.RowKit
set_option linter.unusedVariables false

/-- A range over a function value that is bound and writes cells of its own: the caller's I is known to it; what the loop's two blocks hold it leaves. -/
theorem range_st {α : Type} {F : Fence} {n : Nat} {P : Program} {g : Operand} {ps : Array Tmp} {assign body : Code} {Q : Exit → Act → World → Prop} {a : Act} {w : World}
    (hro : F.round = none) (h1 : 1 ≤ n) {gf : Nat} {bd lb : Array Value} (hg : a.eval g = .func (.func gf) bd lb) (hFg : F.fn gf) (eg : ∀ args w, (callFunc gf args).run P w = .ok (.enter gf args) w)
    {encs : α → Array Value} (hps : ∀ x, (encs x).size = ps.size) {Kp : World → World → Prop} {S : List α → World → Prop} {Sp : List α → Prop} {N : Nat} (hS : OwnFrom w.heap.size S)
    (hKt : ∀ {A B C : World}, Kp A B → Kp B C → Kp A C) (hKb : ∀ (W : World) (l : Nat) (o o' : Obj), w.heap.size ≤ l → W.heap[l]? = some o → o.isCells = false → Kp W (W.putObj l o'))
    (I : List α → World → Prop) (Ix : Code → List α → World → Prop) (hI : OwnFrom w.heap.size I) (hIx : ∀ c, OwnFrom w.heap.size (Ix c)) (h0 : I [] w) (V : List α → α → World → Prop) (Ax : List α → α → Act → World → Prop) (hAx : ∀ pre x a', OwnFrom w.heap.size (fun (_ : Unit) W => Ax pre x a' W))
    (hseq : ∀ (l : Nat) (J Jx : List α → World → Prop) (W : World), (∀ pre A, J pre A → I pre A ∧ w.heap.size + 2 ≤ A.heap.size) →
      (∀ pre A B, J pre A → I pre B → (∀ b, w.heap.size ≤ b → b < w.heap.size + 2 → B.heap[b]? = A.heap[b]?) → J pre B) →
      (∀ pre x W1, J pre W1 → V pre x W1 → pre.length < N → YieldAt F (n - 1 - 1) P l (encs x) W1 fun e W' => (e = .returned (.bool true) ∧ J (pre ++ [x]) W' ∧ Kp W1 W') ∨ (e = .returned (.bool false) ∧ Jx (pre ++ [x]) W')) →
      J [] W → (∀ b, b < w.heap.size → W.heap[b]? = w.heap[b]?) → CallsIn F (n - 1) P gf (bd ++ #[.func (.yield l) #[] #[]] ++ lb) W fun e W' => (∃ v, e = .returned v) ∧ ((∃ xs, S xs W' ∧ J xs W') ∨ (∃ pre, Sp pre ∧ Jx pre W')))
    (hassign : ∀ (l : Nat) (pre : List α) (x : α) (W : World) (K : Act → World → Prop), I pre W → V pre x W → (∀ a' W', KeepsFrom w.heap.size W W' → Kp W W' → I pre W' → Ax pre x a' W' → K a' W') →
      assign.wpIn (F.inRound l) (n - 1 - 1) P (Exit.then K (fun _ _ _ => False)) { tmps := (ps.zip (encs x)).foldl (fun t (p, v) => t.setIfInBounds p v) a.tmps, defers := [] } W)
    (hbody : ∀ (l : Nat) (pre : List α) (x : α) (a' : Act) (W : World), I pre W → Ax pre x a' W → pre.length < N → body.wpIn (F.inRound l) (n - 1 - 1) P (ownPostG w.heap.size Kp I Ix (pre ++ [x]) W) a' W)
    (hdone : ∀ (D : Nat) (xs : List α) (W : World), w.heap.size ≤ D → S xs W → I xs W → W.heap[D]? = some (.deferred (some [])) → Q .normal { a with defers := { target := .collected D, args := #[] } :: a.defers } W)
    (hstop : ∀ (D : Nat) (c : Code) (pre : List α) (W : World), w.heap.size ≤ D → Sp pre → Ix c pre W → W.heap[D]? = some (.deferred (some [])) → c.wpIn F n P Q { a with defers := { target := .collected D, args := #[] } :: a.defers } W) :
    (Code.rangeFunc g ps assign body).wpIn F n P Q a w := by
  refine wpIn_rangeFunc ?_
  intro fn hfn
  rw [hro]
  obtain ⟨rec, hrec⟩ : ∃ rec : LoopState → Option Code → Loop, rec = fun st pe => { state := st, pending := pe, fn, tmps := a.tmps, params := ps, assign, body, defers := w.heap.size } := ⟨_, rfl⟩
  obtain ⟨W1, hW1⟩ : ∃ W1, (w.alloc (.deferred (some []))).alloc (.loop (rec .ready none)) = W1 := ⟨_, rfl⟩
  have hL1 : W1.heap[w.heap.size + 1]? = some (.loop (rec .ready none)) := by
    rw [← hW1]; have := World.alloc_heap_new (w.alloc (.deferred (some []))) (.loop (rec .ready none)); rwa [World.size_alloc] at this
  have hK1 : W1.heap[w.heap.size]? = some (.deferred (some [])) := by
    rw [← hW1]; exact (Below.heap_alloc _ _ _ (by simp)).trans (World.alloc_heap_new w _)
  have hI1 : I [] W1 := by rw [← hW1]; exact hI.alloc _ (hI.alloc _ h0)
  have hOld : ∀ b, b < w.heap.size → W1.heap[b]? = w.heap[b]? := fun b hb => by
    rw [← hW1]; exact (Below.heap_alloc _ _ b (by simp; omega)).trans (Below.heap_alloc _ _ b hb)
  refine ⟨w.heap.size + 1, [{ target := .collected w.heap.size, args := #[] }], W1, { target := .fn (.func gf) lb, args := bd ++ #[.func (.yield (w.heap.size + 1)) #[] #[]] }, W1, gf,
    bd ++ #[.func (.yield (w.heap.size + 1)) #[] #[]] ++ lb, W1, ?_, ?_, ?_, ?_, fun _ => h1, ?_⟩
  · rw [← hW1, hrec]; exact run_enterLoop_outer _ _ _ _ _
  · simp only [resolve, hg]
    simp [go_sem]
  · intro f' hf'; simp [Target.leads] at hf'; subst hf'; exact hFg
  · simp [invoke, go_sem, eg]
  · refine (hseq (w.heap.size + 1)
      (fun pre W => I pre W ∧ W.heap[w.heap.size + 1]? = some (.loop (rec .ready none)) ∧ W.heap[w.heap.size]? = some (.deferred (some [])))
      (fun pre W => ∃ c, Ix c pre W ∧ W.heap[w.heap.size + 1]? = some (.loop (rec .done (some c))) ∧ W.heap[w.heap.size]? = some (.deferred (some [])))
      W1 (fun pre A h => ⟨h.1, (Array.getElem?_eq_some_iff.1 h.2.1).1⟩)
      (fun pre A B h hi hb => ⟨hi, (hb _ (by omega) (by omega)).trans h.2.1, (hb _ (Nat.le_refl _) (by omega)).trans h.2.2⟩)
      ?_ ⟨hI1, hL1, hK1⟩ hOld).mono ?_
    · rintro pre x W ⟨hi, hl, hk⟩ hv hlen
      have hy := run_yield (P := P) (args := encs x) hl (by rw [hrec]; exact hps x)
      rw [hrec] at hy
      refine ⟨fn, _, assign, body, hy, roundIn_of_wpIn hfn (hassign _ pre x W _ hi hv ?_)⟩
      clear hy
      intro a' Wa hkf hkpa hia hax
      have hla := hkf.same _ _ (by omega) hl rfl
      have hka := hkf.same _ _ (Nat.le_refl _) hk rfl
      have hlt : w.heap.size + 1 < Wa.heap.size := (Array.getElem?_eq_some_iff.1 hla).1
      refine ⟨_, run_beginRound hla (by rw [hrec]), ?_⟩
      have hl2 : (Wa.putObj (w.heap.size + 1) (.loop { rec .ready none with state := .busy })).heap[w.heap.size + 1]? = some (.loop { rec .ready none with state := .busy }) := World.putObj_heap_same hlt
      have hk2 : (Wa.putObj (w.heap.size + 1) (.loop { rec .ready none with state := .busy })).heap[w.heap.size]? = some (.deferred (some [])) := (World.putObj_heap_other (by omega)).trans hka
      refine wpIn_mono (hbody _ pre x a' _ (hI.putObj _ hia (by omega) hla rfl) ((hAx pre x a').putObj (s := ()) _ hax (by omega) hla rfl) hlen) ?_
      have fin : ∀ (jump : Option Code) (W3 : World), KeepsFrom w.heap.size (Wa.putObj (w.heap.size + 1) (.loop { rec .ready none with state := .busy })) W3 →
          (Instr.endRound (w.heap.size + 1) jump).run P W3 = .ok (.bool jump.isNone) (W3.putObj (w.heap.size + 1) (.loop (rec (if jump.isNone then .ready else .done) jump))) ∧
          W3.heap[w.heap.size + 1]? = some (.loop { rec .ready none with state := .busy }) ∧
          (W3.putObj (w.heap.size + 1) (.loop (rec (if jump.isNone then .ready else .done) jump))).heap[w.heap.size + 1]? = some (.loop (rec (if jump.isNone then .ready else .done) jump)) ∧
          (W3.putObj (w.heap.size + 1) (.loop (rec (if jump.isNone then .ready else .done) jump))).heap[w.heap.size]? = some (.deferred (some [])) := fun jump W3 hk3 => by
        have hl3 := hk3.same _ _ (by omega) hl2 rfl
        have := run_endRound (P := P) jump hl3
        rw [hrec] at this ⊢
        exact ⟨this, by rw [hrec] at hl3; exact hl3, World.putObj_heap_same (Array.getElem?_eq_some_iff.1 hl3).1, (World.putObj_heap_other (by omega)).trans (hk3.same _ _ (Nat.le_refl _) hk2 rfl)⟩
      rintro e a3 W3 hp
      cases e with
      | normal =>
        obtain ⟨hk3, hkp3, hi3⟩ := hp
        obtain ⟨hr, hl3, hl4, hk4⟩ := fin none W3 hk3
        exact ⟨_, _, hr, .inl ⟨rfl, ⟨hI.putObj _ hi3 (by omega) hl3 rfl, hl4, hk4⟩, hKt hkpa (hKt (hKt (hKb _ _ _ _ (by omega) hla rfl) hkp3) (hKb _ _ _ _ (by omega) hl3 rfl))⟩⟩
      | ret =>
        obtain ⟨hk3, hi3⟩ := hp
        obtain ⟨hr, hl3, hl4, hk4⟩ := fin (some .ret) W3 hk3
        exact ⟨_, _, hr, .inr ⟨rfl, .ret, (hIx _).putObj _ hi3 (by omega) hl3 rfl, hl4, hk4⟩⟩
      | exit id =>
        obtain ⟨hk3, hi3⟩ := hp
        obtain ⟨hr, hl3, hl4, hk4⟩ := fin (some (.exit id)) W3 hk3
        exact ⟨_, _, hr, .inr ⟨rfl, .exit id, (hIx _).putObj _ hi3 (by omega) hl3 rfl, hl4, hk4⟩⟩
      | goto t =>
        obtain ⟨hk3, hi3⟩ := hp
        obtain ⟨hr, hl3, hl4, hk4⟩ := fin (some (.goto t)) W3 hk3
        exact ⟨_, _, hr, .inr ⟨rfl, .goto t, (hIx _).putObj _ hi3 (by omega) hl3 rfl, hl4, hk4⟩⟩
      | panic ch => exact hp.elim
      | outgrown => exact hp.elim
    · rintro e W2 ⟨⟨v, rfl⟩, (⟨xs, hSx, hi, hl, hk⟩ | ⟨pre, hSp, c, hi, hl, hk⟩)⟩
      · exact ⟨none, _, by have := run_endLoop (P := P) hl (by rw [hrec]; simp); rw [hrec] at this; exact this, hdone _ xs _ (Nat.le_refl _) (hS.putObj _ hSx (by omega) hl rfl) (hI.putObj _ hi (by omega) hl rfl) ((World.putObj_heap_other (by omega)).trans hk)⟩
      · exact ⟨some c, _, by have := run_endLoop (P := P) hl (by rw [hrec]; simp); rw [hrec] at this; exact this, hstop _ c pre _ (Nat.le_refl _) hSp ((hIx c).putObj _ hi (by omega) hl rfl) ((World.putObj_heap_other (by omega)).trans hk)⟩

end Go.Proofs.YtemciphihnpniaaDoor
namespace Go.Proofs.YtemciphihnpniaaDoor
open Go Go.RowKit Go.Shelf
set_option linter.unusedVariables false
attribute [local go_sem] Oper.semAt_some

theorem FsO.stay {w w' : World} {B : Nat} {v : Value} {us : List Fv} (h : FsO w B v us) (h1 : ∀ g, v.ownBlock = some g → w'.heap[g]? = w.heap[g]?) (h2 : ∀ u ∈ us, ∀ g, u.2.ownBlock = some g → w'.heap[g]? = w.heap[g]?) : FsO w' B v us :=
  ⟨owns_stay h.l h1, fun u hu => owns_stay (h.c u hu) (h2 u hu), h.r⟩
theorem FsO.past {w w' : World} {B G T N : Nat} {v : Value} {us : List Fv} {f : Nat → Value} (h : FsO w B v us) (k : Keeps w w' (fun b => b = G)) (hG : RowF w T G N f) (t1 : T ≠ 24) (t2 : T ≠ 64) : FsO w' B v us := by
  refine h.stay (fun g hg => k.block g (owns_blt h.l hg).2 (fun e => ?_)) (fun u hu g hg => k.block g (owns_blt (h.c u hu) hg).2 (fun e => ?_))
  · obtain ⟨f9, h9⟩ := owns_rowF h.l hg
    exact h9.apart hG (fun x => t1 x.symm) e
  · obtain ⟨f9, h9⟩ := owns_rowF (h.c u hu) hg
    exact h9.apart hG (fun x => t2 x.symm) e
/-- Of no block of cells. -/
def NoC (W : World) (b : Nat) : Prop := ∀ arr T fr, W.heap[b]? ≠ some (.cells arr T fr)
theorem RowF.noc {w : World} {T g N : Nat} {f : Nat → Value} (h : RowF w T g N f) : ¬ NoC w g := by
  obtain ⟨cur, h1, _⟩ := h
  exact fun x => x _ _ _ h1
theorem FsO.noc {w w' : World} {B : Nat} {v : Value} {us : List Fv} {P : Nat → Prop} (h : FsO w B v us) (k : Keeps w w' P) (hP : ∀ b, P b → NoC w b) : FsO w' B v us := by
  refine h.stay (fun g hg => k.block g (owns_blt h.l hg).2 (fun e => ?_)) (fun u hu g hg => k.block g (owns_blt (h.c u hu) hg).2 (fun e => ?_))
  · obtain ⟨f9, h9⟩ := owns_rowF h.l hg
    exact h9.noc (hP g e)
  · obtain ⟨f9, h9⟩ := owns_rowF (h.c u hu) hg
    exact h9.noc (hP g e)
/-- The list's own block. -/
def OwnL (Lb : Nat) (W : World) (b : Nat) : Prop := ∃ ov, W.cell? ⟨Lb, 0, none⟩ = some ov ∧ ov.ownBlock = some b
/-- What a round of FindAll's loop leaves: every block of cells but the list's. -/
def KpF (Lb : Nat) (A C : World) : Prop := ∀ b arr T fr, A.heap[b]? = some (.cells arr T fr) → b ≠ Lb → ¬ OwnL Lb A b → C.heap[b]? = A.heap[b]? ∧ ¬ OwnL Lb C b
theorem KpF.trans {Lb : Nat} {A B C : World} (h : KpF Lb A B) (k : KpF Lb B C) : KpF Lb A C := fun b arr T fr h1 h2 h3 => by
  obtain ⟨e1, n1⟩ := h b arr T fr h1 h2 h3
  obtain ⟨e2, n2⟩ := k b arr T fr (e1.trans h1) h2 n1
  exact ⟨e2.trans e1, n2⟩
theorem KpF.put {Lb l : Nat} {W : World} {o : Obj} (o' : Obj) (hL : l ≠ Lb) (hl : W.heap[l]? = some o) (hc : o.isCells = false) : KpF Lb W (W.putObj l o') := fun b arr T fr h1 h2 h3 => by
  have hb : b ≠ l := by rintro rfl; rw [hl] at h1; cases h1; simp [Obj.isCells] at hc
  refine ⟨World.putObj_heap_other hb, ?_⟩
  rintro ⟨ov, hc, ho⟩
  exact h3 ⟨ov, by rw [← hc]; exact (World.cell?_of_block (World.putObj_heap_other (fun e => hL e.symm))).symm, ho⟩
theorem KpF.row {Lb T g N : Nat} {A C : World} {f : Nat → Value} (h : KpF Lb A C) (hr : RowF A T g N f) (hg : g ≠ Lb) (ho : ¬ OwnL Lb A g) : RowF C T g N f := by
  obtain ⟨cur, h1, h2⟩ := hr
  exact ⟨cur, (h g _ _ _ h1 hg ho).1.trans h1, h2⟩
/-- Between two rounds of FindAll's loop. -/
structure Ai (W0 : World) (Bd : Nat) (X : Sx) (D : World → Prop) (Lb : Nat) (pre : List Fv) (W : World) : Prop where
  ls : ∃ ov, RowF W 30 Lb 1 (fun _ => ov) ∧ FsO W Bd ov pre
  sb : ∃ n nt to_, SB W X.S X.s X.fx X.cn X.wh n nt to_ ∧ n ≤ 1000000
  d : D W
  bl : Below W0.heap.size W0 W
  ln : pre.length < 10000
theorem Ai.keep {W0 W C : World} {Bd Lb : Nat} {X : Sx} {D : World → Prop} {pre : List Fv} {P : Nat → Prop} (h : Ai W0 Bd X D Lb pre W) (k : Keeps W C P) (hP : ∀ b, P b → W0.heap.size ≤ b ∧ NoC W b) (hd : D C) : Ai W0 Bd X D Lb pre C := by
  obtain ⟨ov, l1, l2⟩ := h.ls
  obtain ⟨n, nt, to_, s1, s2⟩ := h.sb
  exact ⟨⟨ov, l1.keep k (fun e => l1.noc (hP _ e).2), l2.noc k (fun b e => (hP b e).2)⟩, ⟨n, nt, to_, s1.keep k (fun e => RowF.noc s1 (hP _ e).2), s2⟩, hd, h.bl.trans (k.below h.bl.size (fun b e => (hP b e).1)), h.ln⟩
theorem Ai.look {W0 W C : World} {Bd Lb : Nat} {X : Sx} {D : World → Prop} {pre : List Fv} (h : Ai W0 Bd X D Lb pre W) (k : Keeps W C (fun b => b = X.S)) (hS : W0.heap.size ≤ X.S) (hs : ∃ n nt to_, SB C X.S X.s X.fx X.cn X.wh n nt to_ ∧ n ≤ 1000000) (hd : D C) : Ai W0 Bd X D Lb pre C := by
  obtain ⟨ov, l1, l2⟩ := h.ls
  obtain ⟨n, nt, to_, s1, s2⟩ := h.sb
  exact ⟨⟨ov, l1.keep k (fun e => RowF.apart l1 s1 (by decide) e), l2.past k s1 (by decide) (by decide)⟩, hs, hd, h.bl.trans (k.below h.bl.size (fun b (e : b = X.S) => e ▸ hS)), h.ln⟩
theorem ai_own {W0 : World} {Bd B9 Lb : Nat} {X : Sx} {pl : Nat → Bool} {fn : Nat} {bd cs : Array Value} {D : World → Prop} (hx : WyAll X pl fn bd cs D Bd) (hB : Bd ≤ B9) (hW0 : W0.heap.size ≤ Bd) : OwnFrom B9 (Ai W0 Bd X D Lb) := by
  rintro pre W C row h hg hr
  have k : Keeps W C (fun b => row = some b) := ⟨hg.os, hg.tape, hg.output, hg.size, fun b hb hn => hg.block b hb (fun e => hn e.symm)⟩
  have hd : D C := by
    cases row with
    | none => exact hx.new _ _ h.d (k.mono (fun b e => by cases e))
    | some r => exact hx.fresh _ _ r h.d (k.mono (fun b e => by cases e; rfl)) (Nat.le_trans hB (hr r rfl).1)
  refine h.keep k (fun b e => ⟨?_, ?_⟩) hd
  · have := (hr b e).1
    omega
  · obtain ⟨_, o, ho, hc⟩ := hr b e
    intro arr T fr h9
    rw [ho] at h9
    cases h9
    simp [Obj.isCells] at hc
/-- A match that was found last. -/
def Vx (X : Sx) (Bd : Nat) (pre : List Fv) (x : Fv) (W : World) : Prop :=
  W.ownsRow Bd 64 3 x.2 x.1.caps.length (capC x.1.caps) ∧ (∀ a ∈ pre, ∀ g g', a.2.ownBlock = some g → x.2.ownBlock = some g' → g < g') ∧ ∃ n nt to_, SB W X.S X.s X.fx X.cn X.wh n nt to_ ∧ n ≤ 50000
def encF (x : Fv) : Array Value := #[.agg #[.int .i64 (x.1.fr : Int), .int .i64 (x.1.en : Int), x.2]]
/-- How it ends by itself. -/
def Se (X : Sx) (T : List Fd × Nat) (xs : List Fv) (W : World) : Prop :=
  (T.2 ≤ 50000 ∧ xs.map Prod.fst = T.1 ∧ ∃ nt to_, SB W X.S X.s X.fx X.cn X.wh T.2 nt to_) ∨ (50000 < T.2 ∧ ∃ n nt to_, SB W X.S X.s X.fx X.cn X.wh n nt to_ ∧ 50000 < n ∧ n ≤ 1000000)
/-- Where it is broken off. -/
def Sq (T : List Fd × Nat) (pre : List Fv) : Prop := pre.length = 10000 → T.2 ≤ 50000 ∧ pre.map Prod.fst = T.1
theorem allM_much {s : ByteArray} {t : Pt} : ∀ {k at_ n c : Nat}, 50000 < n → (allM s t k at_ n c).2 = n
  | 0, _, _, _, _ => rfl
  | k + 1, at_, n, c, h => by
    by_cases h1 : at_ ≤ s.size ∧ c < 10000
    · rw [allM_none h1 (srM_out (by omega))]
    · rw [allM_end h1]

end Go.Proofs.YtemciphihnpniaaDoor
namespace Go.Proofs.YtemciphihnpniaaDoor
open Go Go.RowKit
set_option linter.unusedVariables false

theorem Tryd.infoFd : (Tryd.prog.info? 24).map (fun i => (i.zero, i.size, i.bytes)) = some (some (.agg #[.int .i64 0, .int .i64 0, nilS]), 3, 40) := by kernel_rfl
theorem one_fd (x y : Int) (a : Option Addr) (n c : Nat) : ∀ v ∈ [Value.int .i64 x, .int .i64 y, .slice a n c], v.oneCell' = true := by
  intro v hv
  simp only [List.mem_cons, List.not_mem_nil, or_false] at hv
  rcases hv with rfl | rfl | rfl <;> rfl
theorem kp_app {B : Nat} {w3 w5 : World} {v : Value} (h2 : ∀ B' w0, Below B' w0 w3 → B' ≤ B → Below B' w0 w5) (h3 : ∀ gx, gx < w3.heap.size → v.ownBlock ≠ some gx → w5.heap[gx]? = w3.heap[gx]?) : Keeps w3 w5 (fun b => v.ownBlock = some b) :=
  have h := h2 B w3 (Below.refl _ _) (Nat.le_refl _)
  ⟨h.os, h.tape, h.output, h.size, fun b hb hn => h3 b hb hn⟩
theorem MB.pastO {w w' : World} {M B m : Nat} {s : ByteArray} {t : Pt} {us : List (It × Value)} {vi vp v : Value} {n : Nat} {xs : List Value} (h : MB w M s t us vi vp n) (ho : w.ownsRow B 24 3 v m xs) (k : Keeps w w' (fun b => v.ownBlock = some b)) : MB w' M s t us vi vp n := by
  obtain ⟨a1, n1, c1, a2, n2, c2, hm⟩ := h.m
  refine ⟨⟨_, _, _, _, _, _, hm.keep k (fun e => ?_)⟩, h.i.keep k (fun b hb e => ?_), h.p.keep k (fun b hb e => ?_), fun u hu => (h.s u hu).keep k (fun g hg e => ?_)⟩
  · obtain ⟨f9, h9⟩ := owns_rowF ho e
    exact hm.apart h9 (by decide) rfl
  · obtain ⟨f9, h9⟩ := owns_rowF ho e
    exact (h.i.own hb).apart h9 (by decide) rfl
  · obtain ⟨f9, h9⟩ := owns_rowF ho e
    exact (h.p.own hb).apart h9 (by decide) rfl
  · obtain ⟨f9, h9⟩ := owns_rowF ho e
    exact RowF.apart hg h9 (by decide) rfl
/-- The document's loop between two matches. -/
structure SaI (w wr : World) (M : Nat) (s : ByteArray) (t : Pt) (us : List (It × Value)) (vi vp : Value) (T : List Fd × Nat) (ov : Value) (fs : List Fv) (at_ n k : Nat) : Prop where
  f : FsO wr w.heap.size ov fs
  kp : Keeps w wr (fun b => b = M)
  mb : MB wr M s t us vi vp n
  n9 : n ≤ 200000
  a9 : at_ ≤ s.size + 1
  l9 : fs.length ≤ 10000
  fu : s.size + 2 ≤ k + at_
  val : T = (fs.map Prod.fst ++ (allM s t k at_ n fs.length).1, (allM s t k at_ n fs.length).2)
theorem SaI.step {w wr w2 w3 w5 : World} {M : Nat} {s : ByteArray} {t : Pt} {us : List (It × Value)} {vi vp : Value} {T : List Fd × Nat} {ov v v' : Value} {fs : List Fv} {at_ n n2 k : Nat} {f : Fd}
    (h : SaI w wr M s t us vi vp T ov fs at_ n (k + 1)) (hML : M < w.heap.size) (hin : at_ ≤ s.size) (hl : fs.length < 10000) (hr : srM s t (s.size + 1) at_ n = (some f, n2)) (hk2 : Keeps wr w2 (fun b => b = M)) (hm2 : MB w2 M s t us vi vp n2) (hn2 : n2 ≤ 200000)
    (hv : w2.ownsRow wr.heap.size 64 3 v f.caps.length (capC f.caps)) (kb : Keeps w2 w3 (fun _ => False))
    (h1 : w5.ownsRow w.heap.size 24 3 v' (fs.length + 1) (fsC fs ++ [.int .i64 (f.fr : Int), .int .i64 (f.en : Int), v])) (h2 : ∀ B w0, Below B w0 w3 → B ≤ w.heap.size → Below B w0 w5) (h3 : ∀ gx, gx < w3.heap.size → ov.ownBlock ≠ some gx → w5.heap[gx]? = w3.heap[gx]?) :
    SaI w w5 M s t us vi vp T v' (fs ++ [(f, v)]) (nxA f) n2 k := by
  have hf2 := (h.f.keep hk2 (fun b (e : b = M) => e ▸ hML)).keep kb (fun _ x => x.elim)
  have hkA := kp_app h2 h3
  have hz := h.kp.size
  have hx := nxA_lt (s := s) (t := t) (k := s.size + 1) (at_ := at_) (n := n) (f := f) (by rw [hr])
  have hfu := h.fu
  refine ⟨?_, ?_, (hm2.low kb).pastO hf2.l hkA, hn2, hx.2, by simp; omega, by omega, ?_⟩
  · refine hf2.app (f, v) (owns_less (owns_keep hv kb (fun _ x => x.elim)) hz) (fun a ha g g' hg hg' => ?_) h1 h3
    have e1 := (owns_blt (h.f.c a ha) hg).2
    have e2 := (owns_blt hv hg').1
    omega
  · refine ((h.kp.trans hk2).fresh kb (fun _ x => x.elim)).fresh hkA (fun b hb => .inr (owns_blt hf2.l hb).1)
  · rw [h.val, allM_some ⟨hin, hl⟩ hr]
    simp
theorem SaI.fin {w wr : World} {M : Nat} {s : ByteArray} {t : Pt} {us : List (It × Value)} {vi vp : Value} {T : List Fd × Nat} {ov : Value} {fs : List Fv} {at_ n k : Nat}
    (h : SaI w wr M s t us vi vp T ov fs at_ n (k + 1)) (hc : ¬ (at_ ≤ s.size ∧ fs.length < 10000)) : T = (fs.map Prod.fst, n) := by
  rw [h.val, allM_end hc]; simp
theorem SaI.non {w wr : World} {M : Nat} {s : ByteArray} {t : Pt} {us : List (It × Value)} {vi vp : Value} {T : List Fd × Nat} {ov : Value} {fs : List Fv} {at_ n n2 k : Nat}
    (h : SaI w wr M s t us vi vp T ov fs at_ n (k + 1)) (hin : at_ ≤ s.size) (hl : fs.length < 10000) (hr : srM s t (s.size + 1) at_ n = (none, n2)) : T = (fs.map Prod.fst, n2) := by
  rw [h.val, allM_none ⟨hin, hl⟩ hr]; simp
def SaR (w : World) (M : Nat) (s : ByteArray) (t : Pt) (us : List (It × Value)) (vi vp : Value) (T : List Fd × Nat) (e : Ending) (w' : World) : Prop :=
  Keeps w w' (fun b => b = M) ∧ MB w' M s t us vi vp T.2 ∧ T.2 ≤ 200000 ∧ ∃ v fs, e = .returned v ∧ fs.map Prod.fst = T.1 ∧ FsO w' w.heap.size v fs

set_option maxHeartbeats 3200000 in
set_option maxRecDepth 100000 in
theorem sall_any (M : Nat) (s : ByteArray) (t : Pt) (us : List (It × Value)) (vi vp : Value) (w : World) (hs : s.size ≤ 65536) (ho : ItsOk t us) (hit : us.map Prod.fst = t.items) (hm : MB w M s t us vi vp 0) :
    Calls Tryd.prog 24 #[.pointer (some ⟨M, 0, none⟩), .int .i64 10000] w fun e w' => SaR w M s t us vi vp (allM s t (s.size + 2) 0 0 0) e w' := by
  have hML : M < w.heap.size := by obtain ⟨_, _, _, _, _, _, h⟩ := hm.m; exact h.lt
  have HO := hide (And.intro ho hit)
  obtain ⟨T, hT⟩ : ∃ T, allM s t (s.size + 2) 0 0 0 = T := ⟨_, rfl⟩
  rw [hT]
  have kb : Keeps w (w.alloc (.cells #[] 24)) (fun _ => False) := Keeps.of (b_1 w _) (Nat.le_refl _) _
  have hI : SaI w (w.alloc (.cells #[] 24)) M s t us vi vp T (.slice (some ⟨w.heap.size, 0, none⟩) 0 0) [] 0 0 (s.size + 2) :=
    ⟨⟨⟨rfl, .inr ⟨w.heap.size, 0, #[], rfl, Nat.le_refl _, heap_alloc_new w _, Nat.le_refl _, by simp, rfl, rfl⟩⟩, fun u hu => by simp at hu, List.Pairwise.nil⟩, kb.mono (fun _ x => x.elim), hm.low kb, by omega, by omega, by simp, by omega, by rw [← hT]; simp⟩
  have HI := hide hI
  clear hm ho hit hI kb hT
  go_enter Tryd.func24, Tryd.ntmps24
  go_wp2_with fail
  generalize w.alloc (.cells #[] 24) = w0 at *
  go_loopw [5, 6] (fun ov av wr => ∃ (fs : List Fv) (at_ n k : Nat), av = .int .i64 at_ ∧ Hid (SaI w wr M s t us vi vp T ov fs at_ n k)) (fun _ av _ => s.size + 2 - ivN av)
  case atStart => exact ⟨[], 0, 0, s.size + 2, rfl, HI⟩
  case round =>
    clear HI
    obtain ⟨fs, at_, n, k0, rfl, HI⟩ := hrel
    obtain ⟨ao, co, rfl⟩ := owns_val HI.out.f.l
    obtain ⟨a1, q1, c1, a2, q2, c2, hmm⟩ := HI.out.mb.m
    have d0 : wr.cell? ⟨M, 0, none⟩ = some (.string s) := hmm.cell (j := 0) (by omega)
    clear hmm
    have hl9 := HI.out.l9
    have ha9 := HI.out.a9
    have hn9 := HI.out.n9
    have hfu := HI.out.fu
    have hkp : w.heap.size ≤ wr.heap.size := HI.out.kp.size
    obtain ⟨k, rfl⟩ : ∃ k, k0 = k + 1 := ⟨k0 - 1, by omega⟩
    by_cases hin : at_ ≤ s.size
    · have hin2 : (at_ : Int) ≤ (s.size : Int) := by omega
      by_cases hl : fs.length < 10000
      · have hl2 : (fs.length : Int) < 10000 := by omega
        go_wp2_with fail
        refine (search_any M s t us vi vp at_ n wr hs HO.out.1 HO.out.2 (by omega) hn9 HI.out.mb).mono ?_
        rintro e w2 ⟨hk2, hm2, hn2, hor⟩
        obtain ⟨r, hr⟩ : ∃ r, srM s t (s.size + 1) at_ n = r := ⟨_, rfl⟩
        rw [hr] at hm2 hn2 hor
        obtain ⟨o, n2⟩ := r
        dsimp only at hm2 hn2 hor
        rcases hor with ⟨rfl, rfl⟩ | ⟨f, v, rfl, rfl, hv⟩
        · have HT := hide (HI.out.non hin hl hr)
          have kb : Keeps w2 (w2.alloc (.cells #[.int .i64 0, .int .i64 0, nilS] 24)) (fun _ => False) := Keeps.of (b_1 w2 _) (Nat.le_refl _) _
          have HF := hide ((HI.out.f.keep hk2 (fun b (e : b = M) => e ▸ hML)).keep kb (fun _ x => x.elim))
          have HK := hide ((HI.out.kp.trans hk2).fresh kb (fun _ x => x.elim))
          have HM := hide (hm2.low kb)
          clear hk2 hm2 hr HI kb d0
          go_wp2_with fail
          refine bodyPost_ret (v := .slice ao fs.length co) ?_ rfl ⟨HK.out, by rw [HT.out]; exact HM.out, by rw [HT.out]; exact hn2, _, fs, rfl, by rw [HT.out], HF.out⟩
          simp [results, Tryd.results24, go_sem]
        · obtain ⟨av, kv, rfl⟩ := owns_val hv
          have hrg := srM_rng (s := s) (t := t) (k := s.size + 1) (at_ := at_) (n := n) (f := f) (by rw [hr])
          have hnx := nxA_lt (s := s) (t := t) (k := s.size + 1) (at_ := at_) (n := n) (f := f) (by rw [hr])
          have HR := hide hr
          have kb : Keeps w2 (w2.alloc (.cells #[.int .i64 f.fr, .int .i64 f.en, .slice av f.caps.length kv] 24)) (fun _ => False) := Keeps.of (b_1 w2 _) (Nat.le_refl _) _
          have HX := hide (show RowF (w2.alloc (.cells #[.int .i64 f.fr, .int .i64 f.en, .slice av f.caps.length kv] 24)) 24 w2.heap.size 3 (fun j => #[Value.int .i64 f.fr, .int .i64 f.en, .slice av f.caps.length kv].getD j (.bool false)) from RowF.mk' w2 24 #[.int .i64 f.fr, .int .i64 f.en, .slice av f.caps.length kv])
          have HF := hide ((HI.out.f.keep hk2 (fun b (e : b = M) => e ▸ hML)))
          have HF3 := hide (HF.out.keep kb (fun _ x => x.elim))
          have HS := hide (fun (w3 w5 : World) (v' : Value) (kb : Keeps w2 w3 (fun _ => False)) => HI.out.step (w3 := w3) (w5 := w5) (v' := v') hML hin hl hr hk2 hm2 hn2 hv kb)
          have hk9 : wr.heap.size ≤ w2.heap.size := hk2.size
          have HNE := hide (show ∀ g, (Value.slice ao fs.length co).ownBlock = some g → g < w2.heap.size from fun g hg => (owns_blt HF.out.l hg).2)
          have KB := hide kb
          have HF3 := hide (HF.out.keep kb (fun _ x => x.elim))
          clear hk2 hm2 hr HI kb d0 hv HF
          have x0 : (w2.alloc (.cells #[.int .i64 f.fr, .int .i64 f.en, .slice av f.caps.length kv] 24)).cell? ⟨w2.heap.size, 0, none⟩ = some (.int .i64 f.fr) := HX.out.cell (j := 0) (by omega)
          have x1 : (w2.alloc (.cells #[.int .i64 f.fr, .int .i64 f.en, .slice av f.caps.length kv] 24)).cell? ⟨w2.heap.size, 1, none⟩ = some (.int .i64 f.en) := HX.out.cell (j := 1) (by omega)
          have x2 : (w2.alloc (.cells #[.int .i64 f.fr, .int .i64 f.en, .slice av f.caps.length kv] 24)).cell? ⟨w2.heap.size, 2, none⟩ = some (.slice av f.caps.length kv) := HX.out.cell (j := 2) (by omega)
          have hlt : w2.heap.size < (w2.alloc (.cells #[.int .i64 f.fr, .int .i64 f.en, .slice av f.caps.length kv] 24)).heap.size := HX.out.lt
          go_upto_region 6 with (fail)
          generalize w2.alloc (.cells #[.int .i64 f.fr, .int .i64 f.en, .slice av f.caps.length kv] 24) = w3 at *
          generalize w2.heap.size = X at *
          go_upto_region 8 with (first
            | (have _z := HNE
               at_builtin
               clear _z
               refine app_new rfl _ _ 30 24 3 40 _ rfl Tryd.underlying30 Tryd.infoFd rfl (by omega) w.heap.size (.slice ao fs.length co) fs.length (fsC fs) [.int .i64 f.fr, .int .i64 f.en, .slice av f.caps.length kv] HF3.out.l rfl rfl rfl (one_fd _ _ _ _ _) (by omega) (by omega) (by omega) ?_
               intro v' w5 h1 _ h2 h3
               obtain ⟨a9, k9, rfl⟩ := owns_val h1
               have HI5 := hide (HS.out _ _ _ KB.out h1 h2 h3)
               have hX5 := HX.out.same (h3 _ hlt (fun e => by have := HNE.out _ e; omega))
               have r0 : w5.cell? ⟨X, 0, none⟩ = some (.int .i64 f.fr) := hX5.cell (j := 0) (by omega)
               have r1 : w5.cell? ⟨X, 1, none⟩ = some (.int .i64 f.en) := hX5.cell (j := 1) (by omega)
               clear h1 h2 h3 hX5)
            | fail)
          clear x0 x1 x2 HX HF3 KB HS HNE
          by_cases hfe : f.en = f.fr
          · have hfe2 : ((f.en : Int) == (f.fr : Int)) = true := by rw [hfe]; simp
            have HNX := hide (show nxA f = f.en + 1 by rw [nxA, if_pos hfe])
            clear hfe
            go_wp2_with fail
            go_roundw
            case rel => exact ⟨fs ++ [(f, .slice av f.caps.length kv)], nxA f, n2, k, by rw [HNX.out]; simp, HI5⟩
            case measure => have := HNX.out; simp [ivN]; omega
          · have hfe2 : ((f.en : Int) == (f.fr : Int)) = false := by simp; omega
            have HNX := hide (show nxA f = f.en by rw [nxA, if_neg hfe])
            clear hfe
            go_wp2_with fail
            go_roundw
            case rel => exact ⟨fs ++ [(f, .slice av f.caps.length kv)], nxA f, n2, k, by rw [HNX.out], HI5⟩
            case measure => have := HNX.out; simp [ivN]; omega
      · have hl2 : ¬ ((fs.length : Int) < 10000) := by omega
        have HT := hide (HI.out.fin (fun h => hl h.2))
        have HF := hide HI.out.f
        have HK := hide HI.out.kp
        have HM := hide HI.out.mb
        clear HI
        go_wp2_with fail
        refine bodyPost_ret (v := .slice ao fs.length co) ?_ rfl ⟨HK.out, by rw [HT.out]; exact HM.out, by rw [HT.out]; exact hn9, _, fs, rfl, by rw [HT.out], HF.out⟩
        simp [results, Tryd.results24, go_sem]
    · have hin2 : ¬ ((at_ : Int) ≤ (s.size : Int)) := by omega
      have HT := hide (HI.out.fin (fun h => hin h.1))
      have HF := hide HI.out.f
      have HK := hide HI.out.kp
      have HM := hide HI.out.mb
      clear HI
      go_wp2_with fail
      refine bodyPost_ret (v := .slice ao fs.length co) ?_ rfl ⟨HK.out, by rw [HT.out]; exact HM.out, by rw [HT.out]; exact hn9, _, fs, rfl, by rw [HT.out], HF.out⟩
      simp [results, Tryd.results24, go_sem]

end Go.Proofs.YtemciphihnpniaaDoor
namespace Go.Proofs.YtemciphihnpniaaDoor
open Go Go.RowKit Go.Shelf
set_option linter.unusedVariables false
attribute [local go_sem] Oper.semAt_some

/-- What the way over all matches stands on. -/
structure AlC (W0 : World) (Bd B9 Lb : Nat) (X : Sx) (t : Pt) (fn : Nat) (bd cs : Array Value) (D : World → Prop) (J : List Fv → World → Prop) : Prop where
  hs : X.s.size ≤ 65536
  hwh : X.wh = .func (.func fn) bd cs
  hfx : X.fx = t.start
  hcn : X.cn = t.caps
  hits : X.its = t.items
  hk : PtK t
  hlen : t.items.length ≤ 200
  hx : WyAll X t.place fn bd cs D Bd
  hS0 : W0.heap.size ≤ X.S
  hSB : X.S < B9
  hBd : Bd ≤ B9
  hJ : ∀ pre A, J pre A → Ai W0 Bd X D Lb pre A ∧ B9 + 2 ≤ A.heap.size
  hJs : ∀ pre A C, J pre A → Ai W0 Bd X D Lb pre C → (∀ b, B9 ≤ b → b < B9 + 2 → C.heap[b]? = A.heap[b]?) → J pre C
/-- Between two matches. -/
structure AlI (X : Sx) (t : Pt) (T : List Fd × Nat) (J : List Fv → World → Prop) (pre : List Fv) (at_ n k : Nat) (wr : World) : Prop where
  j : J pre wr
  sb : ∃ nt to_, SB wr X.S X.s X.fx X.cn X.wh n nt to_
  n9 : n ≤ 50000
  a9 : at_ ≤ X.s.size + 1
  fu : X.s.size + 2 ≤ k + at_
  val : T = (pre.map Prod.fst ++ (allM X.s t k at_ n pre.length).1, (allM X.s t k at_ n pre.length).2)
section
variable {W0 : World} {Bd B9 Lb : Nat} {X : Sx} {t : Pt} {fn : Nat} {bd cs : Array Value} {D : World → Prop} {J : List Fv → World → Prop} {T : List Fd × Nat} {pre : List Fv} {at_ n k : Nat} {wr w2 w3 : World}
theorem WyAll.mono {pl : Nat → Bool} {B B' : Nat} (h : WyAll X pl fn bd cs D B) (hB : B ≤ B') : WyAll X pl fn bd cs D B' := ⟨h.ok, fun w w' b h1 h2 h3 => h.fresh w w' b h1 h2 (Nat.le_trans hB h3), h.new⟩
theorem AlC.look (C : AlC W0 Bd B9 Lb X t fn bd cs D J) (hj : J pre wr) (hk2 : Keeps wr w2 (fun b => b = X.S)) (hD : D w2) (hs : ∃ n nt to_, SB w2 X.S X.s X.fx X.cn X.wh n nt to_ ∧ n ≤ 1000000) (kb : Keeps w2 w3 (fun _ => False)) : Ai W0 Bd X D Lb pre w2 ∧ Ai W0 Bd X D Lb pre w3 ∧ J pre w3 := by
  obtain ⟨a1, a2⟩ := C.hJ _ _ hj
  have b1 := a1.look hk2 C.hS0 hs hD
  have b2 := b1.keep kb (fun _ x => x.elim) (C.hx.new _ _ hD kb)
  have hSB := C.hSB
  refine ⟨b1, b2, C.hJs _ _ _ hj b2 (fun b h1 h2 => (kb.block b (by have := hk2.size; omega) (fun x => x)).trans (hk2.block b (by omega) (by omega)))⟩
theorem AlI.fin (h : AlI X t T J pre at_ n (k + 1) wr) (hc : ¬ at_ ≤ X.s.size) : Se X T pre wr := by
  obtain ⟨nt, to_, hb⟩ := h.sb
  have hv := h.val
  rw [allM_end (fun x => hc x.1)] at hv
  subst hv
  exact .inl ⟨h.n9, by simp, nt, to_, hb⟩
theorem AlI.non (h : AlI X t T J pre at_ n (k + 1) wr) (hc : at_ ≤ X.s.size) (hl : pre.length < 10000) {n' : Nat} {nt : Nt} {to_ : Nat} {r : Option Fd × Nat} (hr : srM X.s t (X.s.size + 1) at_ n = r) (h1 : r.2 ≤ 50000) (h2 : n' = r.2) (h3 : r.1 = none) (hb : SB w3 X.S X.s X.fx X.cn X.wh n' nt to_) : Se X T pre w3 := by
  obtain ⟨o, n2⟩ := r
  dsimp only at *
  subst h2 h3
  have hv := h.val
  rw [allM_none ⟨hc, hl⟩ hr] at hv
  subst hv
  exact .inl ⟨h1, by simp, nt, to_, hb⟩
theorem AlI.spt (h : AlI X t T J pre at_ n (k + 1) wr) (hc : at_ ≤ X.s.size) (hl : pre.length < 10000) {n' : Nat} {nt : Nt} {to_ : Nat} {r : Option Fd × Nat} (hr : srM X.s t (X.s.size + 1) at_ n = r) (h1 : 50000 < r.2) (h2 : 50000 < n') (h3 : n' ≤ 1000000) (hb : SB w3 X.S X.s X.fx X.cn X.wh n' nt to_) : Se X T pre w3 := by
  obtain ⟨o, n2⟩ := r
  dsimp only at *
  refine .inr ⟨?_, n', nt, to_, hb, h2, h3⟩
  have hv := h.val
  cases o with
  | none =>
    rw [allM_none ⟨hc, hl⟩ hr] at hv
    subst hv
    exact h1
  | some f =>
    rw [allM_some ⟨hc, hl⟩ hr] at hv
    subst hv
    show 50000 < (allM X.s t k (nxA f) n2 (pre.length + 1)).2
    rw [allM_much h1]
    exact h1
theorem not_own {G T9 N : Nat} {f : Nat → Value} {ov : Value} {W : World} (h1 : RowF W 30 Lb 1 (fun _ => ov)) (h2 : FsO W Bd ov pre) (hG : RowF W T9 G N f) (ht : T9 ≠ 24 ∨ ∀ g, ov.ownBlock = some g → g < G) : ¬ OwnL Lb W G := by
  rintro ⟨ov', e1, e2⟩
  have e3 := h1.cell (j := 0) (by omega)
  rw [e3] at e1
  simp only [Option.some.injEq] at e1
  subst e1
  rcases ht with ht | ht
  · obtain ⟨f9, h9⟩ := owns_rowF h2.l e2
    exact hG.apart h9 ht rfl
  · have := ht _ e2
    omega
/-- A match is found. -/
theorem AlC.found (C : AlC W0 Bd B9 Lb X t fn bd cs D J) (h : AlI X t T J pre at_ n (k + 1) wr) (hc : at_ ≤ X.s.size) {n' : Nat} {nt : Nt} {to_ : Nat} {r : Option Fd × Nat} {f : Fd} {v : Value} (hr : srM X.s t (X.s.size + 1) at_ n = r) (h1 : r.2 ≤ 50000) (h2 : n' = r.2) (h3 : r.1 = some f)
    (hk2 : Keeps wr w2 (fun b => b = X.S)) (hD : D w2) (hb : SB w2 X.S X.s X.fx X.cn X.wh n' nt to_) (hv : w2.ownsRow wr.heap.size 64 3 v f.caps.length (capC f.caps)) (kb : Keeps w2 w3 (fun _ => False)) {g3 : Nat → Value} (hX : RowF w3 24 w2.heap.size 3 g3) :
    J pre w3 ∧ Vx X Bd pre (f, v) w3 ∧ pre.length < 10000 ∧ (Sq T (pre ++ [(f, v)])) ∧ ∀ W4, J (pre ++ [(f, v)]) W4 → KpF Lb w3 W4 → AlI X t T J (pre ++ [(f, v)]) (nxA f) n' k W4 ∧ RowF W4 24 w2.heap.size 3 g3 := by
  obtain ⟨o, n2⟩ := r
  dsimp only at *
  subst h2 h3
  obtain ⟨a1, a2⟩ := C.hJ _ _ h.j
  have hl := a1.ln
  have hBd := C.hBd
  obtain ⟨b1, b2, b3⟩ := C.look h.j hk2 hD ⟨n', nt, to_, hb, by omega⟩ kb
  have hb3 := hb.keep kb (fun x => x)
  obtain ⟨ov0, p1, p2⟩ := a1.ls
  obtain ⟨ov2, q1, q2⟩ := b1.ls
  have q1' := q1.keep kb (fun x => x)
  have q2' := q2.keep kb (fun _ x => x.elim)
  have hval := h.val
  rw [allM_some ⟨hc, hl⟩ hr] at hval
  have hnx := nxA_lt (s := X.s) (t := t) (k := X.s.size + 1) (at_ := at_) (n := n) (f := f) (by rw [hr])
  refine ⟨b3, ⟨owns_less (owns_keep hv kb (fun _ x => x.elim)) (by omega), fun a ha g g' hg hg' => ?_, n', nt, to_, hb3, h1⟩, hl, fun h9 => ?_, fun W4 hj4 hk4 => ⟨⟨hj4, ⟨nt, to_, ?_⟩, h1, hnx.2, by have := h.fu; omega, ?_⟩, ?_⟩⟩
  · have e1 := (owns_blt (p2.c a ha) hg).2
    have e2 := (owns_blt hv hg').1
    omega
  · have e9 : pre.length + 1 = 10000 := by simpa using h9
    have hh : ∀ k9, allM X.s t k9 (nxA f) n' (pre.length + 1) = ([], n') := fun k9 => by
      cases k9 with
      | zero => rfl
      | succ k9 => exact allM_end (fun x => by omega)
    rw [hh] at hval
    subst hval
    exact ⟨h1, by simp⟩
  · exact KpF.row hk4 hb3 (fun e => RowF.apart hb3 q1' (by decide) e) (not_own q1' q2' hb3 (.inl (by decide)))
  · rw [hval]
    simp
  · exact KpF.row hk4 hX (fun e => hX.apart q1' (by decide) e) (not_own q1' q2' hX (.inr (fun g hg => (owns_blt q2.l hg).2)))
end

set_option maxRecDepth 100000 in
set_option maxHeartbeats 3200000 in
theorem all_in {W0 : World} {Bd B9 Lb : Nat} {X : Sx} {t : Pt} {fn : Nat} {bd cs : Array Value} {D : World → Prop} {J Jx : List Fv → World → Prop} (T : List Fd × Nat) (C : AlC W0 Bd B9 Lb X t fn bd cs D J) (n l : Nat) (hn : 1 ≤ n) (hT : allM X.s t (X.s.size + 2) 0 0 0 = T)
    (hY : ∀ pre x W1, J pre W1 → Vx X Bd pre x W1 → pre.length < 10000 → YieldAt Fence.wide (n - 1) Tryd.prog l (encF x) W1 fun e W' => (e = .returned (.bool true) ∧ J (pre ++ [x]) W' ∧ KpF Lb W1 W') ∨ (e = .returned (.bool false) ∧ Jx (pre ++ [x]) W'))
    (W : World) (h0 : J [] W) (hsb : ∃ nt to_, SB W X.S X.s X.fx X.cn X.wh 0 nt to_) :
    CallsIn Fence.wide n Tryd.prog 25 #[.pointer (some ⟨X.S, 0, none⟩), .func (.yield l) #[] #[]] W fun e W' => (∃ v, e = .returned v) ∧ ((∃ xs, Se X T xs W' ∧ J xs W') ∨ (∃ pre, Sq T pre ∧ Jx pre W')) := by
  have HC := hide C
  have HY := hide hY
  have HI := hide (show AlI X t T J [] 0 0 (X.s.size + 2) W from ⟨h0, hsb, by omega, by omega, by omega, by rw [← hT]; simp⟩)
  have hs9 := C.hs
  clear C hY hsb h0 hT
  refine callsIn_of_wp Tryd.func25 rfl trivial ?_ rfl
  simp only [Tryd.ntmps25, List.size_toArray, List.length_cons, List.length_nil, Nat.reduceAdd, Nat.reduceSub, Array.replicate_succ, Array.replicate_zero, List.push_toArray, List.append_toArray, List.nil_append, List.cons_append]
  gi_wp2
  gi_loopw [4] (fun av wr => ∃ (pre : List Fv) (at_ n1 k : Nat), av = .int .i64 at_ ∧ at_ ≤ X.s.size + 1 ∧ X.s.size + 2 ≤ k + at_ ∧ Hid (AlI X t T J pre at_ n1 k wr)) (fun av _ => X.s.size + 2 - ivN av)
  case atStart => exact ⟨[], 0, 0, X.s.size + 2, rfl, by omega, by omega, HI⟩
  case round =>
    clear HI
    obtain ⟨pre, at_, n1, k0, rfl, ha9, hfu, HI⟩ := hrel
    obtain ⟨k, rfl⟩ : ∃ k, k0 = k + 1 := ⟨k0 - 1, by omega⟩
    obtain ⟨nt, to_, hb⟩ := HI.out.sb
    have HSB := hide hb
    have d0 : wr.cell? ⟨X.S, 0, none⟩ = some (.string X.s) := hb.subj
    clear hb
    by_cases hin : at_ ≤ X.s.size
    · have hin2 : (at_ : Int) ≤ (X.s.size : Int) := by omega
      have HF := hide (first_any X t fn bd cs D at_ n1 nt to_ wr hs9 HC.out.hwh HC.out.hfx HC.out.hcn HC.out.hits HC.out.hk HC.out.hlen (HC.out.hx.mono (by have := (HC.out.hJ _ _ HI.out.j).2; have := HC.out.hBd; omega)) (HC.out.hJ _ _ HI.out.j).1.d HSB.out HI.out.n9 hin)
      gi_wp2
      refine ⟨trivial, (callsIn_wide.2 HF.out).mono ?_⟩
      clear HF d0
      obtain ⟨r, hr⟩ : ∃ r, srM X.s t (X.s.size + 1) at_ n1 = r := ⟨_, rfl⟩
      rw [hr]
      have hl := (HC.out.hJ _ _ HI.out.j).1.ln
      rintro e w2 ⟨hk2, hD2, n', nt', to', hb2, (⟨r1, r2, r3, rfl⟩ | ⟨r1, r2, r3, rfl⟩ | ⟨r1, r2, f, v, r3, rfl, hv⟩)⟩
      · have kb : Keeps w2 (w2.alloc (.cells #[.int .i64 0, .int .i64 0, nilS] 24)) (fun _ => False) := Keeps.of (b_1 w2 _) (Nat.le_refl _) _
        have HSe := hide (HI.out.spt hin hl hr r1 r2 r3 (hb2.keep kb (fun x => x)))
        have HJ := hide (HC.out.look HI.out.j hk2 hD2 ⟨n', nt', to', hb2, r3⟩ kb).2.2
        clear hk2 hD2 hb2 kb HI HSB hr r1 r2 r3
        gi_wp2
        refine ⟨(fun f h => nomatch h), ?_⟩
        gi_wp2
        refine bodyPost_ret (results_none rfl _ _ _) rfl ?_
        exact ⟨⟨_, rfl⟩, .inl ⟨_, HSe.out, HJ.out⟩⟩
      · have kb : Keeps w2 (w2.alloc (.cells #[.int .i64 0, .int .i64 0, nilS] 24)) (fun _ => False) := Keeps.of (b_1 w2 _) (Nat.le_refl _) _
        have HSe := hide (HI.out.non hin hl hr r1 r2 r3 (hb2.keep kb (fun x => x)))
        have HJ := hide (HC.out.look HI.out.j hk2 hD2 ⟨n', nt', to', hb2, by omega⟩ kb).2.2
        clear hk2 hD2 hb2 kb HI HSB hr r1 r2 r3
        gi_wp2
        refine ⟨(fun f h => nomatch h), ?_⟩
        gi_wp2
        refine bodyPost_ret (results_none rfl _ _ _) rfl ?_
        exact ⟨⟨_, rfl⟩, .inl ⟨_, HSe.out, HJ.out⟩⟩
      · obtain ⟨av, kv, rfl⟩ := owns_val hv
        have kb : Keeps w2 (w2.alloc (.cells #[.int .i64 f.fr, .int .i64 f.en, .slice av f.caps.length kv] 24)) (fun _ => False) := Keeps.of (b_1 w2 _) (Nat.le_refl _) _
        have hX : RowF (w2.alloc (.cells #[.int .i64 f.fr, .int .i64 f.en, .slice av f.caps.length kv] 24)) 24 w2.heap.size 3 (fun j => #[Value.int .i64 f.fr, .int .i64 f.en, .slice av f.caps.length kv].getD j (.bool false)) := RowF.mk' w2 24 #[.int .i64 f.fr, .int .i64 f.en, .slice av f.caps.length kv]
        obtain ⟨g1, g2, g3, g4, g5⟩ := HC.out.found HI.out hin hr r1 r2 r3 hk2 hD2 hb2 hv kb hX
        have hnx := nxA_lt (s := X.s) (t := t) (k := X.s.size + 1) (at_ := at_) (n := n1) (f := f) (by rw [hr]; exact r3)
        have hrg := srM_rng (s := X.s) (t := t) (k := X.s.size + 1) (at_ := at_) (n := n1) (f := f) (by rw [hr]; exact r3)
        obtain ⟨yf, ytmps, yassign, ybody, hy, hR⟩ := HY.out _ _ _ g1 g2 g3
        dsimp only [encF] at hy
        have HR := hide hR
        have H4 := hide g4
        have H5 := hide g5
        have x0 : (w2.alloc (.cells #[.int .i64 f.fr, .int .i64 f.en, .slice av f.caps.length kv] 24)).cell? ⟨w2.heap.size, 0, none⟩ = some (.int .i64 f.fr) := hX.cell (j := 0) (by omega)
        have x1 : (w2.alloc (.cells #[.int .i64 f.fr, .int .i64 f.en, .slice av f.caps.length kv] 24)).cell? ⟨w2.heap.size, 1, none⟩ = some (.int .i64 f.en) := hX.cell (j := 1) (by omega)
        have x2 : (w2.alloc (.cells #[.int .i64 f.fr, .int .i64 f.en, .slice av f.caps.length kv] 24)).cell? ⟨w2.heap.size, 2, none⟩ = some (.slice av f.caps.length kv) := hX.cell (j := 2) (by omega)
        clear hk2 hD2 hb2 kb HI HSB hr r1 r2 r3 g1 g2 g4 g5 hR hv hX HY
        gi_wp2
        refine HR.out.mono ?_
        rintro e W4 (⟨rfl, hJ4, hk4⟩ | ⟨rfl, hJx4⟩)
        · obtain ⟨hI5, hX5⟩ := H5.out W4 hJ4 hk4
          have HI5 := hide hI5
          have r0 : W4.cell? ⟨w2.heap.size, 0, none⟩ = some (.int .i64 f.fr) := hX5.cell (j := 0) (by omega)
          have r1 : W4.cell? ⟨w2.heap.size, 1, none⟩ = some (.int .i64 f.en) := hX5.cell (j := 1) (by omega)
          clear hI5 hX5 hJ4 hk4 H5 HR x0 x1 x2 hy
          by_cases hfe : f.fr = f.en
          · have hfe2 : ((f.fr : Int) == (f.en : Int)) = true := by rw [hfe]; simp
            have HNX := hide (show nxA f = f.en + 1 by rw [nxA, if_pos hfe.symm])
            clear hfe
            gi_wp2
            go_roundw
            case rel => exact ⟨_, nxA f, n', k, by rw [HNX.out]; simp, hnx.2, by omega, HI5⟩
            case measure => have := HNX.out; simp [ivN]; omega
          · have hfe2 : ((f.fr : Int) == (f.en : Int)) = false := by simp; omega
            have HNX := hide (show nxA f = f.en by rw [nxA, if_neg (fun e => hfe e.symm)])
            clear hfe
            gi_wp2
            go_roundw
            case rel => exact ⟨_, nxA f, n', k, by rw [HNX.out], hnx.2, by omega, HI5⟩
            case measure => have := HNX.out; simp [ivN]; omega
        · clear HR H5 hy x0 x1 x2
          gi_wp2
          refine bodyPost_ret (results_none rfl _ _ _) rfl ?_
          exact ⟨⟨_, rfl⟩, .inr ⟨_, H4.out, hJx4⟩⟩
    · have hin2 : ¬ ((at_ : Int) ≤ (X.s.size : Int)) := by omega
      have HSe := hide (HI.out.fin hin)
      gi_wp2
      go_end0
      exact ⟨⟨_, rfl⟩, .inl ⟨_, HSe.out, HI.out.j⟩⟩

end Go.Proofs.YtemciphihnpniaaDoor
namespace Go.Proofs.YtemciphihnpniaaDoor
open Go Go.RowKit Go.Shelf
set_option linter.unusedVariables false
attribute [local go_sem] Oper.semAt_some

/-- 's = append(s, x)' of one more, inside a fence, and where it lies then. -/
theorem app_atIn {F : Fence} {nn : Nat} {wr : World} {ops : Array Oper} {rest : List Oper} {o : Oper} {a : Act} {Q : Exit → Act → World → Prop} (hgd : o.guard = none) (s x : Operand) (TS T size bytes : Nat) (z : Value)
    (ho : o.op = .call { callee := .builtin .append, args := #[s, x], argTypes := #[TS, TS] }) (hU : Tryd.prog.underlying TS = some (.slice T)) (hI : (Tryd.prog.info? T).map (fun i => (i.zero, i.size, i.bytes)) = some (some z, size, bytes)) (hz : z.cells.size = size) (hsz : 0 < size)
    (base : Nat) (v : Value) (n : Nat) (xs cs : List Value) (hown : wr.ownsRow base T size v n xs) (hs : a.eval s = v) (hx : a.eval x = .slice (some ⟨wr.heap.size, 0, none⟩) 1 1) (hcs : cs.length = size) (h1 : ∀ u ∈ cs, u.oneCell' = true)
    (hlen : (n + 1) * bytes ≤ 140737488355328) (hb0 : 0 < bytes) (hbase : base ≤ wr.heap.size)
    (h : ∀ v' w', w'.ownsRow base T size v' (n + 1) (xs ++ cs) → (∀ B w0, Below B w0 wr → B ≤ base → Below B w0 w') → (∀ gx, gx < wr.heap.size → v.ownBlock ≠ some gx → w'.heap[gx]? = wr.heap[gx]?) → (∀ gx, gx < wr.heap.size → v.ownBlock ≠ some gx → v'.ownBlock ≠ some gx) → wpListIn F nn Tryd.prog ops Q rest (a.put o.dst v') w') :
    wpListIn F nn Tryd.prog ops Q (o :: rest) a (wr.alloc (.cells cs.toArray T)) := by
  obtain ⟨i0, hi, hz0, hz1, hz2⟩ := info_parts hI
  have hn : n + 1 ≤ 140737488355328 := Nat.le_trans (Nat.le_mul_of_pos_right _ hb0) hlen
  have hnews : ∀ j u, cs[j]? = some u → (wr.alloc (.cells cs.toArray T)).cell? ((⟨wr.heap.size, 0, none⟩ : Addr).add j) = some u := fun j u hj => by
    rw [add_none', Nat.zero_add]
    obtain ⟨hl, rfl⟩ := List.getElem?_eq_some_iff.1 hj
    have := (RowF.mk' wr T cs.toArray).cell (j := j) (by simpa using hl)
    rw [this]
    simp [hl]
  obtain ⟨v', w', hrun, r1, r2, r3⟩ := run_append_own (P := Tryd.prog) (wr.alloc (.cells cs.toArray T)) base TS o.type T i0 z size bytes hU hi hz0 hz1 hz2 hz hsz v n xs (hown.alloc _) ⟨wr.heap.size, 0, none⟩ 1 1 cs (by omega) hnews h1 (by unfold maxLen; omega) hlen (by simp; omega)
  have r5 := append_where (wr.alloc (.cells cs.toArray T)) base TS o.type T i0 z size bytes hU hi hz0 hz1 hz2 hz hsz v n xs (hown.alloc _) ⟨wr.heap.size, 0, none⟩ 1 1 cs (by omega) hnews h1 (by unfold maxLen; omega) hlen (by omega) hrun
  have fin := h v' w' r1 (fun B w0 hb hB => (hb.alloc (by omega) _).grown r2 (by simp; omega) (fun q hq => by have := (hown.lt q hq).1; omega))
    (fun gx hgx hne => (r2.block gx (by simp; omega) (fun e => hne e.symm)).trans ((b_1 wr _).block gx hgx)) (fun gx hgx hne e => by
      rcases r5 gx e with e' | e'
      · exact hne e'
      · simp at e'; omega)
  refine wpListIn_plain hgd fun K hK' => ?_
  unfold Oper.wpIn
  refine ⟨?_, ?_⟩
  · simp [Oper.about, ho, resolve, Target.leads, Sem.run_pure]
  · rw [Oper.semAt_plain F _ _ (by rw [ho]; intro c hc'; cases hc')]
    simp [execOp, ho, resolve, invoke, builtin, hs, hx, hrun, Result.andThen]
    exact hK' _ _ fin
theorem Ai.push {W0 W w5 : World} {Bd Lb B9 : Nat} {X : Sx} {pl : Nat → Bool} {fn : Nat} {bd cs : Array Value} {D : World → Prop} {pre : List Fv} {x : Fv} {ov v' : Value} (hx : WyAll X pl fn bd cs D Bd) (h : Ai W0 Bd X D Lb pre W) (hv : Vx X Bd pre x W) (hW0 : W0.heap.size ≤ Bd) (hBL : Bd ≤ Lb)
    (q1 : RowF W 30 Lb 1 (fun _ => ov)) (q2 : FsO W Bd ov pre) (h1 : w5.ownsRow Bd 24 3 v' (pre.length + 1) (fsC pre ++ [.int .i64 (x.1.fr : Int), .int .i64 (x.1.en : Int), x.2])) (h2 : ∀ B w0, Below B w0 W → B ≤ Bd → Below B w0 w5)
    (h3 : ∀ gx, gx < W.heap.size → ov.ownBlock ≠ some gx → w5.heap[gx]? = W.heap[gx]?) (h4 : ∀ gx, gx < W.heap.size → ov.ownBlock ≠ some gx → v'.ownBlock ≠ some gx) :
    RowF (w5.setCell ⟨Lb, 0, none⟩ v') 30 Lb 1 (fun _ => v') ∧ FsO (w5.setCell ⟨Lb, 0, none⟩ v') Bd v' (pre ++ [x]) ∧ (∃ n nt to_, SB (w5.setCell ⟨Lb, 0, none⟩ v') X.S X.s X.fx X.cn X.wh n nt to_ ∧ n ≤ 50000) ∧ D (w5.setCell ⟨Lb, 0, none⟩ v') ∧
      Below W0.heap.size W0 (w5.setCell ⟨Lb, 0, none⟩ v') ∧ KpF Lb W (w5.setCell ⟨Lb, 0, none⟩ v') ∧ KeepsFrom B9 W (w5.setCell ⟨Lb, 0, none⟩ v') := by
  have kA := kp_app h2 h3
  have ap : ∀ {T9 g N : Nat} {f : Nat → Value}, RowF W T9 g N f → T9 ≠ 24 → ov.ownBlock ≠ some g := fun hr hT e => by
    obtain ⟨f9, h9⟩ := owns_rowF q2.l e
    exact hr.apart h9 hT rfl
  have lb5 := q1.keep kA (ap q1 (by decide))
  have f5 := q2.app x hv.1 hv.2.1 h1 h3
  have kS : Keeps w5 (w5.setCell ⟨Lb, 0, none⟩ v') (fun b => b = Lb) := (Keeps.refl w5 (fun b => b = Lb)).setCell (S := fun b => b = Lb) (j := 0) rfl v'
  have r1 : RowF (w5.setCell ⟨Lb, 0, none⟩ v') 30 Lb 1 (fun _ => v') := (lb5.set (j := 0) (by omega) v').congr (fun j hj => by simp [show j = 0 by omega])
  have hd5 : D w5 := by
    cases hob : ov.ownBlock with
    | none => exact hx.new _ _ h.d (kA.mono (fun b e => by rw [hob] at e; cases e))
    | some g => exact hx.fresh _ _ g h.d (kA.mono (fun b e => by rw [hob] at e; cases e; rfl)) (owns_blt q2.l hob).1
  obtain ⟨n, nt, to_, s1, s2⟩ := hv.2.2
  have s5 := s1.keep kA (ap s1 (by decide))
  have hsz : w5.heap.size ≤ (w5.setCell ⟨Lb, 0, none⟩ v').heap.size := kS.size
  refine ⟨r1, f5.past kS lb5 (by decide) (by decide), ⟨n, nt, to_, s5.keep kS (fun e => RowF.apart s5 lb5 (by decide) e), s2⟩, hx.fresh _ _ Lb hd5 kS hBL, h.bl.trans ((h2 _ W (Below.refl _ _) hW0).setCell (p := ⟨Lb, 0, none⟩) (by show W0.heap.size ≤ Lb; omega) v'), fun b arr T fr hb hne hno => ?_, ⟨Nat.le_trans kA.size hsz, fun k o hB hk ho => ?_⟩⟩
  · have hlt : b < W.heap.size := (Array.getElem?_eq_some_iff.1 hb).1
    have hnov : ov.ownBlock ≠ some b := fun e => hno ⟨ov, q1.cell (j := 0) (by omega), e⟩
    refine ⟨(kS.block b (Nat.lt_of_lt_of_le hlt kA.size) hne).trans (h3 b hlt hnov), ?_⟩
    rintro ⟨ov9, c1, c2⟩
    rw [r1.cell (j := 0) (by omega)] at c1
    simp only [Option.some.injEq] at c1
    subst c1
    exact h4 b hlt hnov c2
  · have hlt : k < W.heap.size := (Array.getElem?_eq_some_iff.1 hk).1
    have nc : NoC W k := fun arr T fr e => by rw [hk] at e; cases e; simp [Obj.isCells] at ho
    have hnov : ov.ownBlock ≠ some k := fun e => by
      obtain ⟨f9, h9⟩ := owns_rowF q2.l e
      exact h9.noc nc
    exact ((kS.block k (Nat.lt_of_lt_of_le hlt kA.size) (fun e => q1.noc (e ▸ nc))).trans (h3 k hlt hnov)).trans hk
theorem Vx.noc {W C : World} {X : Sx} {Bd : Nat} {pre : List Fv} {x : Fv} {P : Nat → Prop} (h : Vx X Bd pre x W) (k : Keeps W C P) (hP : ∀ b, P b → NoC W b) : Vx X Bd pre x C := by
  obtain ⟨h1, h2, n, nt, to_, h3, h4⟩ := h
  refine ⟨owns_stay h1 (fun g hg => k.block g (owns_blt h1 hg).2 (fun e => ?_)), h2, n, nt, to_, h3.keep k (fun e => RowF.noc h3 (hP _ e)), h4⟩
  obtain ⟨f9, h9⟩ := owns_rowF h1 hg
  exact h9.noc (hP g e)
theorem own_noc {W C : World} {row : Option Nat} {B : Nat} (hg : W.grownBy C row) (hr : ∀ r, row = some r → B ≤ r ∧ ∃ o : Obj, W.heap[r]? = some o ∧ o.isCells = false) : Keeps W C (fun b => row = some b) ∧ ∀ b, row = some b → NoC W b :=
  ⟨⟨hg.os, hg.tape, hg.output, hg.size, fun b hb hn => hg.block b hb (fun e => hn e.symm)⟩, fun b e => by
    obtain ⟨_, o, ho, hc⟩ := hr b e
    intro arr T fr h9
    rw [ho] at h9
    cases h9
    simp [Obj.isCells] at hc⟩

end Go.Proofs.YtemciphihnpniaaDoor
namespace Go.Proofs.YtemciphihnpniaaDoor
open Go Go.RowKit
set_option linter.unusedVariables false

theorem FsO.less {w : World} {B B' : Nat} {v : Value} {us : List Fv} (h : FsO w B v us) (hb : B' ≤ B) : FsO w B' v us := ⟨owns_less h.l hb, fun u hu => owns_less (h.c u hu) hb, h.r⟩
theorem FaR.none {r : List Fd × Int} {w w' : World} {c : Int} (hb : Below w.heap.size w w') (hr : r = ([], c)) : FaR r w (.returned (.tuple #[nilS, .int .i64 c])) w' := by
  subst hr
  exact ⟨hb, nilS, [], rfl, rfl, ⟨rfl, .inl ⟨rfl, rfl⟩⟩, fun u hu => by simp at hu, List.Pairwise.nil⟩
set_option maxHeartbeats 3200000 in
set_option maxRecDepth 100000 in
theorem sfindall_any (s p : ByteArray) (w : World) (hs : s.size ≤ 1048576) (hp : p.size ≤ 1048576) :
    Calls Tryd.prog 10 #[.string s, .string p] w fun e w' => FaR (findAllM s p) w e w' := by
  go_enter Tryd.func10, Tryd.ntmps10
  go_wp2_with fail
  refine (check_any s p w hs hp).mono ?_
  rintro e w1 ⟨hb1, ⟨h1, rfl⟩ | ⟨h1, h2, rfl⟩ | ⟨t, us, vi, vp, M, h1, h2, rfl, hM, hmb, hok, hit⟩⟩
  · have HR := hide (show findAllM s p = ([], 1) by rw [findAllM, if_pos h1])
    have HB := hide hb1
    clear hb1
    go_wp2_with fail
    refine bodyPost_ret (v := .tuple #[nilS, .int .i64 1]) ?_ rfl (FaR.none HB.out HR.out)
    simp [results, Tryd.results10, go_sem]
  · have HR := hide (show findAllM s p = ([], 2) by rw [findAllM, if_neg (by omega), h2])
    have HB := hide hb1
    clear hb1 h2
    go_wp2_with fail
    refine bodyPost_ret (v := .tuple #[nilS, .int .i64 2]) ?_ rfl (FaR.none HB.out HR.out)
    simp [results, Tryd.results10, go_sem]
  · have HF := hide (show findAllM s p = if 50000 < (allM s t (s.size + 2) 0 0 0).2 then ([], 4) else ((allM s t (s.size + 2) 0 0 0).1, 0) by rw [findAllM, if_neg (by omega), h2])
    have HB := hide hb1
    have HC := hide (sall_any M s t us vi vp w1 h1 hok hit hmb)
    have hs1 : w.heap.size ≤ w1.heap.size := hb1.size
    clear hb1 h2 hmb hok hit
    generalize allM s t (s.size + 2) 0 0 0 = T at *
    go_wp2_with fail
    refine HC.out.mono ?_
    rintro e w2 ⟨hk2, hm2, hn2, v, fs, rfl, hfs, hf⟩
    obtain ⟨av, kv, rfl⟩ := owns_val hf.l
    have HB2 := hide (show Below w.heap.size w w2 from HB.out.trans (hk2.below (by omega) (fun b (e : b = M) => e ▸ hM)))
    obtain ⟨a1, q1, d1, a2, q2, d2, hmm⟩ := hm2.m
    have HMM := hide hmm
    have HFs := hide (And.intro hfs (hf.less hs1))
    clear hk2 hm2 hfs hf HC HB hmm
    go_wp2_with fail
    refine (spent_any M _ T.2 w2 HMM.out rfl).mono ?_
    rintro e w4 ⟨rfl, hw⟩
    obtain rfl := hw.symm
    by_cases hsp : 50000 < T.2
    · have hspb : decide (50000 < T.2) = true := decide_eq_true hsp
      have HR := hide (HF.out.trans (if_pos hsp))
      go_wp2_with fail
      refine bodyPost_ret (v := .tuple #[nilS, .int .i64 4]) ?_ rfl (FaR.none HB2.out HR.out)
      simp [results, Tryd.results10, go_sem]
    · have hspb : decide (50000 < T.2) = false := decide_eq_false hsp
      have HR := hide (HF.out.trans (if_neg hsp))
      go_wp2_with fail
      refine bodyPost_ret (v := .tuple #[.slice av fs.length kv, .int .i64 0]) ?_ rfl ⟨HB2.out, .slice av fs.length kv, fs, by rw [HR.out], by rw [HR.out]; exact HFs.out.1, HFs.out.2⟩
      simp [results, Tryd.results10, go_sem]

end Go.Proofs.YtemciphihnpniaaDoor
namespace Go.Proofs.YtemciphihnpniaaDoor
open Go Go.RowKit Go.Shelf
set_option linter.unusedVariables false
attribute [local go_sem] Oper.semAt_some

theorem KpF.alloc {L T9 N : Nat} {W : World} {f : Nat → Value} (o : Obj) (h : RowF W T9 L N f) : KpF L W (W.alloc o) := fun b arr T fr h1 h2 h3 => by
  refine ⟨Below.heap_alloc W o b (Array.getElem?_eq_some_iff.1 h1).1, ?_⟩
  rintro ⟨ov, c1, c2⟩
  exact h3 ⟨ov, by rw [← c1]; exact (World.cell?_of_block (Below.heap_alloc W o L h.lt)).symm, c2⟩
/-- Broken off at ten thousand. -/
def Ix9 (w : World) (Bd Lb : Nat) (X : Sx) (c : Code) (pre : List Fv) (W : World) : Prop :=
  c = .exit 0 ∧ pre.length = 10000 ∧ (∃ ov, RowF W 30 Lb 1 (fun _ => ov) ∧ FsO W Bd ov pre) ∧ Below w.heap.size w W ∧ ∃ n nt to_, SB W X.S X.s X.fx X.cn X.wh n nt to_ ∧ n ≤ 50000
theorem ix9_own {w : World} {Bd Lb B9 : Nat} {X : Sx} {c : Code} (hB : w.heap.size ≤ B9) : OwnFrom B9 (Ix9 w Bd Lb X c) := by
  rintro pre W C row ⟨h1, h2, ⟨ov, h3, h4⟩, h5, n, nt, to_, h6, h7⟩ hg hr
  obtain ⟨k, hn⟩ := own_noc hg hr
  exact ⟨h1, h2, ⟨ov, h3.keep k (fun e => h3.noc (hn _ e)), h4.noc k hn⟩, h5.trans (k.below h5.size (fun b e => Nat.le_trans hB (hr b e).1)), n, nt, to_, h6.keep k (fun e => RowF.noc h6 (hn _ e)), h7⟩
theorem se_own {X : Sx} {T : List Fd × Nat} {B9 : Nat} : OwnFrom B9 (Se X T) := by
  rintro xs W C row h hg hr
  obtain ⟨k, hn⟩ := own_noc hg hr
  rcases h with ⟨a, b, nt, to_, hb⟩ | ⟨a, n, nt, to_, hb, c, d⟩
  · exact .inl ⟨a, b, nt, to_, hb.keep k (fun e => RowF.noc hb (hn _ e))⟩
  · exact .inr ⟨a, n, nt, to_, hb.keep k (fun e => RowF.noc hb (hn _ e)), c, d⟩
/-- A round's frame. -/
def Ax9 (s p : ByteArray) (S L : Nat) (X : Sx) (pre : List Fv) (x : Fv) (a' : Act) (W : World) : Prop :=
  ∃ Bx, RowF W 24 Bx 3 (fun j => #[Value.int .i64 (x.1.fr : Int), .int .i64 (x.1.en : Int), x.2].getD j (.bool false)) ∧ Vx X L pre x W ∧
    a' = { tmps := #[Value.string s, Value.string p, undef, undef, Value.slice none 0 0, Value.int IntKind.i64 0,
          Value.pointer (some { block := S, off := 0 }), Value.int IntKind.i64 0,
          Value.pointer (some { block := L, off := 0 }), Value.pointer (some { block := Bx, off := 0 }),
          Value.tuple #[Value.pointer (some { block := S, off := 0 }), Value.int IntKind.i64 0], Value.string s,
          Value.string p, Value.tuple #[Value.pointer (some { block := S, off := 0 }), Value.int IntKind.i64 0],
          Value.pointer (some { block := S, off := 0 }), Value.int IntKind.i64 0, Value.int IntKind.i64 0,
          Value.bool false, undef, Value.pointer (some { block := S, off := 0 }),
          Value.func (Fn.func 25) #[Value.pointer (some { block := S, off := 0 })] #[], .agg #[.int .i64 (x.1.fr : Int), .int .i64 (x.1.en : Int), x.2], undef, undef, undef,
          undef, undef, undef, undef, undef, undef, undef], defers := [] }
theorem ax9_own {s p : ByteArray} {S L B9 : Nat} {X : Sx} {pre : List Fv} {x : Fv} {a' : Act} : OwnFrom B9 (fun (_ : Unit) W => Ax9 s p S L X pre x a' W) := by
  rintro _ W C row ⟨Bx, h1, h2, h3⟩ hg hr
  obtain ⟨k, hn⟩ := own_noc hg hr
  exact ⟨Bx, h1.keep k (fun e => h1.noc (hn _ e)), h2.noc k hn, h3⟩
set_option maxRecDepth 100000 in
set_option maxHeartbeats 3200000 in
theorem findall_any (s p : ByteArray) (w : World) (hs20 : s.size ≤ 1048576) (hp20 : p.size ≤ 1048576) (hl : LtT w) (h0 : 0 < w.heap.size) :
    Calls Tryd.prog 11 #[.string s, .string p] w fun e w' => FaR (findAllM s p) w e w' := by
  refine (callsIn_wide (n := 3)).1 ?_
  refine callsIn_of_wp_marks Tryd.func11 rfl trivial ?_ rfl
  simp only [Tryd.ntmps11, List.size_toArray, List.length_cons, List.length_nil, Nat.reduceAdd, Nat.reduceSub, Array.replicate_succ, Array.replicate_zero, List.push_toArray, List.append_toArray, List.nil_append, List.cons_append]
  gi_wp2
  refine ⟨trivial, (callsIn_wide.2 (newSearch_any s p w hs20 hp20 hl h0)).mono ?_⟩
  clear hl
  rintro e w1 ⟨hb1, ⟨h1, rfl⟩ | ⟨h1, h2, rfl⟩ | ⟨t, S, fn, bd, cs, D, h1, h2, h3, rfl, hS, hsb, hD, hW⟩⟩
  · have HR := hide (show findAllM s p = ([], 1) by rw [findAllM, if_pos h1])
    have HB := hide hb1
    clear hb1
    gi_wp2
    exact ⟨.tuple #[nilS, .int .i64 1], by simp [results, Tryd.results11, go_sem], FaR.none HB.out HR.out⟩
  · have HR := hide (show findAllM s p = ([], 2) by rw [findAllM, if_neg (by omega), h2])
    have HB := hide hb1
    clear hb1 h2
    gi_wp2
    exact ⟨.tuple #[nilS, .int .i64 2], by simp [results, Tryd.results11, go_sem], FaR.none HB.out HR.out⟩
  · have HF := hide (show findAllM s p = if 50000 < (allM s t (s.size + 2) 0 0 0).2 then ([], 4) else ((allM s t (s.size + 2) 0 0 0).1, 0) by rw [findAllM, if_neg (by omega), h2])
    have HK := hide (rdPat_k h2)
    obtain ⟨T, hT⟩ : ∃ T, allM s t (s.size + 2) 0 0 0 = T := ⟨_, rfl⟩
    rw [hT] at HF
    obtain ⟨X, hX⟩ : ∃ X : Sx, X = ⟨S, s, t.start, t.caps, .func (.func fn) bd cs, t.items⟩ := ⟨_, rfl⟩
    have HW := hide (show WyAll X t.place fn bd cs D w1.heap.size by rw [hX]; exact hW)
    have kb : Keeps w1 (w1.alloc (.cells #[.slice none 0 0] 30)) (fun _ => False) := Keeps.of (b_1 w1 _) (Nat.le_refl _) _
    have HD := hide (HW.out.new _ _ hD kb)
    have HSB := hide (show SB (w1.alloc (.cells #[.slice none 0 0] 30)) X.S X.s X.fx X.cn X.wh 0 nt0 0 by rw [hX]; exact hsb.keep kb (fun x => x))
    have HB := hide (hb1.alloc hb1.size (.cells #[.slice none 0 0] 30))
    have HL := hide (show RowF (w1.alloc (.cells #[.slice none 0 0] 30)) 30 w1.heap.size 1 (fun _ => nilS) from (RowF.mk' w1 30 #[.slice none 0 0]).congr (fun j hj => by
      have : j < 1 := by simpa using hj
      obtain rfl : j = 0 := by omega
      rfl))
    have hlt2 : w1.heap.size < (w1.alloc (.cells #[.slice none 0 0] 30)).heap.size := by simp
    have hs1 := hb1.size
    have hSl : S < w1.heap.size := RowF.lt hsb
    have HX0 := hide hX
    have HXS := hide (show X.S = S by rw [hX])
    clear h2 hW hD hsb hb1 kb hX
    gi_wp2
    generalize w1.alloc (.cells #[.slice none 0 0] 30) = w2 at *
    generalize w1.heap.size = L at *
    refine range_st (α := Fv) (F := Fence.wide) (n := 3) (gf := 25) (bd := #[.pointer (some ⟨S, 0, none⟩)]) (lb := #[]) rfl (by omega) rfl trivial (enters_of Tryd.func25 (by kernel_rfl) rfl) (encs := encF) (fun x => rfl)
      (Kp := KpF L) (S := Se X T) (Sp := Sq T) (N := 10000) se_own KpF.trans (fun W l o o' c1 c2 c3 => KpF.put o' (by omega) c2 c3) (Ai w L X D L) (Ix9 w L L X) (ai_own HW.out (by omega) hs1) (fun c => ix9_own (by omega))
      ⟨⟨nilS, HL.out, ⟨rfl, .inl ⟨rfl, rfl⟩⟩, (fun u hu => by simp at hu), List.Pairwise.nil⟩, ⟨0, nt0, 0, HSB.out, by omega⟩, HD.out, HB.out, by simp⟩
      (Vx X L) (Ax9 s p S L X) (fun pre x a' => ax9_own) ?seq ?assign ?body ?done ?stop
    case seq =>
      rintro l J Jx W hJ hJs hY hJ0 hOld
      have hX := HX0.out
      have hXS := HXS.out
      have h9 := all_in (W0 := w) (Bd := L) (B9 := w2.heap.size) (Lb := L) (X := X) (t := t) (fn := fn) (bd := bd) (cs := cs) (D := D) (J := J) (Jx := Jx) T
        ⟨by rw [hX]; show s.size ≤ 65536; omega, by rw [hX], by rw [hX], by rw [hX], by rw [hX], HK.out, h3, HW.out, by omega, by omega, by omega, hJ, hJs⟩ 2 l (by omega) (by rw [hX]; exact hT) hY W hJ0 ⟨nt0, 0, RowF.same HSB.out (hOld _ (by omega))⟩
      rw [hXS] at h9
      exact h9
    case assign =>
      rintro l pre ⟨f, v⟩ W K hi hv hK
      obtain ⟨av, kv, hvv⟩ := owns_val hv.1
      dsimp only at hvv
      subst hvv
      dsimp only [encF]
      obtain ⟨ov, q1, q2⟩ := hi.ls
      have HI := hide ((ai_own (W0 := w) (B9 := w2.heap.size) HW.out (by omega) hs1).alloc (.cells #[.int .i64 f.fr, .int .i64 f.en, .slice av f.caps.length kv] 24) hi)
      have HV := hide (hv.noc (Keeps.of (b_1 W (.cells #[.int .i64 f.fr, .int .i64 f.en, .slice av f.caps.length kv] 24)) (Nat.le_refl _) (fun _ => False)) (fun _ x => x.elim))
      have HKp := hide (KpF.alloc (.cells #[.int .i64 f.fr, .int .i64 f.en, .slice av f.caps.length kv] 24) q1)
      have HXr := hide (RowF.mk' W 24 #[.int .i64 f.fr, .int .i64 f.en, .slice av f.caps.length kv])
      clear hi hv q1 q2
      gi_wp2
      exact hK _ _ ((KeepsOthers.alloc _ _).from _) HKp.out HI.out ⟨W.heap.size, HXr.out, HV.out, rfl⟩
    case body =>
      rintro l pre ⟨f, v⟩ a' W hi ⟨Bx, hXr, hv, rfl⟩ hlen
      obtain ⟨av, kv, hvv⟩ := owns_val hv.1
      dsimp only at hvv
      subst hvv
      obtain ⟨ov, q1, q2⟩ := hi.ls
      obtain ⟨ao, co, rfl⟩ := owns_val q2.l
      dsimp only at hXr
      have x0 : W.cell? ⟨Bx, 0, none⟩ = some (.int .i64 f.fr) := hXr.cell (j := 0) (by omega)
      have x1 : W.cell? ⟨Bx, 1, none⟩ = some (.int .i64 f.en) := hXr.cell (j := 1) (by omega)
      have x2 : W.cell? ⟨Bx, 2, none⟩ = some (.slice av f.caps.length kv) := hXr.cell (j := 2) (by omega)
      have cL : W.cell? ⟨L, 0, none⟩ = some (.slice ao pre.length co) := q1.cell (j := 0) (by omega)
      have HP := hide (fun (w5 : World) (v' : Value) => Ai.push (w5 := w5) (v' := v') (B9 := w2.heap.size) HW.out hi hv hs1 (Nat.le_refl _) q1 q2)
      have HQ := hide q2.l
      have HL9 := hide q1
      have hLW : L < W.heap.size := q1.lt
      have HNL := hide (show (Value.slice ao pre.length co).ownBlock ≠ some L from fun e => by
        obtain ⟨f9, h9⟩ := owns_rowF q2.l e
        exact q1.apart h9 (by decide) rfl)
      clear hXr hv hi q1 q2
      by_cases h10 : pre.length + 1 = 10000
      · have h10b : (((pre.length + 1 : Nat) : Int) == 10000) = true := by rw [h10]; rfl
        have H10 := hide h10
        clear h10
        gi_wp2_with (first
          | (have _z := HNL
             gi_at_builtin
             clear _z
             refine app_atIn rfl _ _ 30 24 3 40 _ rfl Tryd.underlying30 Tryd.infoFd rfl (by omega) L (.slice ao pre.length co) pre.length (fsC pre) [.int .i64 f.fr, .int .i64 f.en, .slice av f.caps.length kv] HQ.out rfl rfl rfl (one_fd _ _ _ _ _) (by omega) (by omega) (by omega) ?_
             intro v' w5 h1 h2 h3 h4
             obtain ⟨a9, k9, rfl⟩ := owns_val h1
             have HPx := hide (HP.out _ _ h1 h2 h3 h4)
             have hL5 := HL9.out.same (h3 _ hLW HNL.out)
             have c5 : w5.cell? ⟨L, 0, none⟩ = some (.slice ao pre.length co) := hL5.cell (j := 0) (by omega)
             have z5 : w5.frozen? ⟨L, 0, none⟩ = false := hL5.frz 0
             have d5 : (w5.setCell ⟨L, 0, none⟩ (.slice a9 (pre.length + 1) k9)).cell? ⟨L, 0, none⟩ = some (.slice a9 (pre.length + 1) k9) := HPx.out.1.cell (j := 0) (by omega)
             clear h1 h2 h3 h4 hL5)
          | fail)
        obtain ⟨p1, p2, ⟨n9, nt9, to9, p3, p4⟩, p5, p6, p7, p8⟩ := HPx.out
        exact ⟨p8, rfl, by simp [H10.out], ⟨_, p1, p2⟩, p6, n9, nt9, to9, p3, p4⟩
      · have h10b : (((pre.length + 1 : Nat) : Int) == 10000) = false := by simp; omega
        gi_wp2_with (first
          | (have _z := HNL
             gi_at_builtin
             clear _z
             refine app_atIn rfl _ _ 30 24 3 40 _ rfl Tryd.underlying30 Tryd.infoFd rfl (by omega) L (.slice ao pre.length co) pre.length (fsC pre) [.int .i64 f.fr, .int .i64 f.en, .slice av f.caps.length kv] HQ.out rfl rfl rfl (one_fd _ _ _ _ _) (by omega) (by omega) (by omega) ?_
             intro v' w5 h1 h2 h3 h4
             obtain ⟨a9, k9, rfl⟩ := owns_val h1
             have HPx := hide (HP.out _ _ h1 h2 h3 h4)
             have hL5 := HL9.out.same (h3 _ hLW HNL.out)
             have c5 : w5.cell? ⟨L, 0, none⟩ = some (.slice ao pre.length co) := hL5.cell (j := 0) (by omega)
             have z5 : w5.frozen? ⟨L, 0, none⟩ = false := hL5.frz 0
             have d5 : (w5.setCell ⟨L, 0, none⟩ (.slice a9 (pre.length + 1) k9)).cell? ⟨L, 0, none⟩ = some (.slice a9 (pre.length + 1) k9) := HPx.out.1.cell (j := 0) (by omega)
             clear h1 h2 h3 h4 hL5)
          | fail)
        obtain ⟨p1, p2, ⟨n9, nt9, to9, p3, p4⟩, p5, p6, p7, p8⟩ := HPx.out
        exact ⟨p8, p7, ⟨_, p1, p2⟩, ⟨n9, nt9, to9, p3, by omega⟩, p5, p6, by simp; omega⟩
    case done =>
      rintro D9 xs W hD hSe hI hK
      obtain ⟨ov, q1, q2⟩ := hI.ls
      obtain ⟨ao, co, rfl⟩ := owns_val q2.l
      have cL : W.cell? ⟨L, 0, none⟩ = some (.slice ao xs.length co) := q1.cell (j := 0) (by omega)
      have HBl := hide (fun o' => ((ai_own (W0 := w) (B9 := w2.heap.size) HW.out (by omega) hs1).putObj o' hI hD hK rfl).bl)
      have HFs := hide (fun o' => (q2.noc (own_noc (B := w2.heap.size) (grownBy_putObj' W D9 o') (fun r e => by cases e; exact ⟨hD, _, hK, rfl⟩)).1 (own_noc (B := w2.heap.size) (grownBy_putObj' W D9 o') (fun r e => by cases e; exact ⟨hD, _, hK, rfl⟩)).2).less hs1)
      have HKd := hide hK
      clear hI q1 q2 hK
      rcases hSe with ⟨t1, t2, nt, to_, hb⟩ | ⟨t1, n, nt, to_, hb, t3, t4⟩
      · have hdc : decide (50000 < T.2) = false := decide_eq_false (by omega)
        have HR := hide (HF.out.trans (if_neg (by omega)))
        rw [HXS.out] at hb
        have HC := hide (ispent_any W hb)
        clear hb
        gi_wp2
        refine ⟨trivial, (callsIn_wide.2 HC.out).mono ?_⟩
        clear HC
        rintro e w4 ⟨rfl, hw⟩
        obtain rfl := hw.symm
        gi_wp2
        refine ⟨by simp, .inl ⟨_, _, rfl, run_takeDeferred HKd.out, ?_⟩⟩
        refine ⟨.tuple #[.slice ao xs.length co, .int .i64 0], by simp [results, Tryd.results11, go_sem], HBl.out _, .slice ao xs.length co, xs, by rw [HR.out], by rw [HR.out]; exact t2, HFs.out _⟩
      · have hdc : decide (50000 < n) = true := decide_eq_true t3
        have HR := hide (HF.out.trans (if_pos t1))
        rw [HXS.out] at hb
        have HC := hide (ispent_any W hb)
        clear hb
        gi_wp2
        refine ⟨trivial, (callsIn_wide.2 HC.out).mono ?_⟩
        clear HC
        rintro e w4 ⟨rfl, hw⟩
        obtain rfl := hw.symm
        gi_wp2
        refine ⟨by simp, .inl ⟨_, _, rfl, run_takeDeferred HKd.out, ?_⟩⟩
        refine ⟨.tuple #[nilS, .int .i64 4], by simp [results, Tryd.results11, go_sem], FaR.none (HBl.out _) HR.out⟩
    case stop =>
      rintro D9 c pre W hD hSq ⟨rfl, hpl, ⟨ov, q1, q2⟩, hbl, n, nt, to_, hb, hn⟩ hK
      obtain ⟨t1, t2⟩ := hSq hpl
      obtain ⟨ao, co, rfl⟩ := owns_val q2.l
      have cL : W.cell? ⟨L, 0, none⟩ = some (.slice ao pre.length co) := q1.cell (j := 0) (by omega)
      have HBl := hide (fun o' => hbl.trans ((own_noc (B := w2.heap.size) (grownBy_putObj' W D9 o') (fun r e => by cases e; exact ⟨hD, _, hK, rfl⟩)).1.below hbl.size (fun b e => by cases e; omega)))
      have HFs := hide (fun o' => (q2.noc (own_noc (B := w2.heap.size) (grownBy_putObj' W D9 o') (fun r e => by cases e; exact ⟨hD, _, hK, rfl⟩)).1 (own_noc (B := w2.heap.size) (grownBy_putObj' W D9 o') (fun r e => by cases e; exact ⟨hD, _, hK, rfl⟩)).2).less hs1)
      have HKd := hide hK
      have HPL := hide hpl
      clear q1 q2 hK hbl hpl
      have hdc : decide (50000 < n) = false := decide_eq_false (by omega)
      have HR := hide (HF.out.trans (if_neg (by omega)))
      rw [HXS.out] at hb
      have HC := hide (ispent_any W hb)
      clear hb
      gi_wp2
      refine ⟨trivial, (callsIn_wide.2 HC.out).mono ?_⟩
      clear HC
      rintro e w4 ⟨rfl, hw⟩
      obtain rfl := hw.symm
      gi_wp2
      refine ⟨by simp, .inl ⟨_, _, rfl, run_takeDeferred HKd.out, ?_⟩⟩
      refine ⟨.tuple #[.slice ao pre.length co, .int .i64 0], by simp [results, Tryd.results11, go_sem], HBl.out _, .slice ao pre.length co, pre, by rw [HR.out], by rw [HR.out]; exact t2, HFs.out _⟩

end Go.Proofs.YtemciphihnpniaaDoor
namespace Go.Proofs.YtemciphihnpniaaDoor
open Go Go.RowKit Go.Shelf
set_option linter.unusedVariables false

/-- What the marks of captures are, from k on. -/
def mkK (k j : Nat) : Value := if j % 3 = 0 then .bool (decide (k % 3 = 0)) else .int .i64 ((k : Int) + j)
theorem mkK_0 (k i : Nat) : mkK k (i * 3) = .bool (decide (k % 3 = 0)) := by unfold mkK; rw [if_pos (by omega)]
theorem mkK_1 (k i : Nat) : mkK k (i * 3 + 1) = .int .i64 ((k : Int) + i * 3 + 1) := by unfold mkK; rw [if_neg (by omega)]; congr 1
theorem mkK_2 (k i : Nat) : mkK k (i * 3 + 2) = .int .i64 ((k : Int) + i * 3 + 2) := by unfold mkK; rw [if_neg (by omega)]; congr 1

set_option maxHeartbeats 1600000 in
set_option maxRecDepth 100000 in
theorem markCapK_row0 (k : Nat) (hk3 : k % 3 = 0) (hk9 : k ≤ 10000000) (g N cap : Nat) (f : Nat → Value) (w : World) (hN : N ≤ 2000000) (hc : N ≤ cap) (h : RowF w 64 g (N * 3) f) :
    Calls Tryd.prog 22 #[.slice (some ⟨g, 0, none⟩) N cap, .int .i64 k] w fun e w' => e = .returned (.int .i64 ((k : Int) + N * 3)) ∧ RowF w' 64 g (N * 3) (mkK k) ∧ Keeps w w' (fun b => b = g) := by
  have HR := hide h
  clear h
  have HD := hide (show decide (k % 3 = 0) = true by rw [hk3]; rfl)
  go_enter Tryd.func22, Tryd.ntmps22
  go_wp2
  go_loopw [1, 5] (fun kv iv wr => ∃ i : Nat, i ≤ N ∧ iv = .int .i64 i ∧ kv = .int .i64 ((k : Int) + (i : Int) * 3) ∧ Hid (RowF wr 64 g (N * 3) (fun j => if j < i * 3 then mkK k j else f j)) ∧ Hid (Keeps w wr (fun b => b = g))) (fun _ iv _ => N - ivN iv)
  case atStart => exact ⟨0, by omega, rfl, by simp, hide (HR.out.congr fun j hj => by simp), hide (Keeps.refl _ _)⟩
  case round =>
    obtain ⟨i, hi9, rfl, rfl, HRw, HKw⟩ := hrel
    by_cases hin : i < N
    · have c0 := HRw.out.cell (j := i * 3) (by omega)
      have c1 := HRw.out.cell (j := i * 3 + 1) (by omega)
      have c2 := HRw.out.cell (j := i * 3 + 2) (by omega)
      have z0 := HRw.out.frz (i * 3)
      have z1 := HRw.out.frz (i * 3 + 1)
      have z2 := HRw.out.frz (i * 3 + 2)
      have HS := hide (((HRw.out.set (j := i * 3) (by omega) (.bool true)).set (j := i * 3 + 1) (by omega) (.int .i64 ((k : Int) + (i : Int) * 3 + 1))).set (j := i * 3 + 2) (by omega) (.int .i64 ((k : Int) + (i : Int) * 3 + 2)))
      have HK2 := hide (((HKw.out.setCell (j := i * 3) (S := fun b => b = g) rfl (.bool true)).setCell (j := i * 3 + 1) (S := fun b => b = g) rfl (.int .i64 ((k : Int) + (i : Int) * 3 + 1))).setCell (j := i * 3 + 2) (S := fun b => b = g) rfl (.int .i64 ((k : Int) + (i : Int) * 3 + 2)))
      have hm3 : ((k : Int) + (i : Int) * 3) % 3 = 0 := by omega
      have hmt : ((k : Int) + (i : Int) * 3).tmod 3 = 0 := by rw [Int.tmod_eq_emod_of_nonneg (by omega)]; omega
      have hp2 : (k : Int) + (i : Int) * 3 + 1 + 1 = (k : Int) + (i : Int) * 3 + 2 := by omega
      have hp3 : (k : Int) + (i : Int) * 3 + 2 + 1 = (k : Int) + (i : Int) * 3 + 3 := by omega
      clear HRw HKw hk3
      go_wp2_with fail
      go_roundw
      case rel =>
        refine ⟨i + 1, by omega, by simp, by simp; omega, hide (HS.out.congr fun j hj => ?_), HK2⟩
        show _ = if j < (i + 1) * 3 then mkK k j else f j
        by_cases e0 : j = i * 3
        · rw [e0, if_pos (show i * 3 < (i + 1) * 3 by omega), mkK_0, HD.out]; simp
        by_cases e1 : j = i * 3 + 1
        · rw [e1, if_pos (show i * 3 + 1 < (i + 1) * 3 by omega), mkK_1]; simp
        by_cases e2 : j = i * 3 + 2
        · rw [e2, if_pos (show i * 3 + 2 < (i + 1) * 3 by omega), mkK_2]; simp
        by_cases e9 : j < i * 3
        · simp [e0, e1, e2, e9, show j < (i + 1) * 3 by omega]
        · simp [e0, e1, e2, e9, show ¬ j < (i + 1) * 3 by omega]
      case measure => show N - ivN (.int .i64 _) < N - ivN (.int .i64 _); simp [ivN]; omega
    · obtain rfl : i = N := by omega
      have HF := hide (HRw.out.congr (f' := mkK k) fun j hj => by simp [hj])
      clear hk3
      go_wp2_with fail
      go_ret
      exact ⟨rfl, HF.out, HKw.out⟩

set_option maxHeartbeats 1600000 in
set_option maxRecDepth 100000 in
theorem heldCapK_row0 (k : Nat) (hk3 : k % 3 = 0) (hk9 : k ≤ 10000000) (g N cap : Nat) (w : World) (hN : N ≤ 2000000) (hc : N ≤ cap) (h : RowF w 64 g (N * 3) (mkK k)) :
    Calls Tryd.prog 23 #[.slice (some ⟨g, 0, none⟩) N cap, .int .i64 k] w fun e w' => e = .returned (.int .i64 ((k : Int) + N * 3)) ∧ Below w.heap.size w w' := by
  have HR := hide h
  clear h
  have HD := hide (show decide (k % 3 = 0) = true by rw [hk3]; rfl)
  go_enter Tryd.func23, Tryd.ntmps23
  go_wp2
  go_loopw [1, 5] (fun kv iv wr => ∃ i : Nat, i ≤ N ∧ iv = .int .i64 i ∧ kv = .int .i64 ((k : Int) + (i : Int) * 3) ∧ Below w.heap.size w wr) (fun _ iv _ => N - ivN iv)
  case atStart => exact ⟨0, by omega, rfl, by simp, Below.refl _ _⟩
  case round =>
    obtain ⟨i, hi9, rfl, rfl, hb⟩ := hrel
    by_cases hin : i < N
    · have hr := HR.out.low hb HR.out.lt
      have c0 := hr.cell (j := i * 3) (by omega)
      rw [mkK_0, HD.out] at c0
      have c1 := hr.cell (j := i * 3 + 1) (by omega)
      rw [mkK_1] at c1
      have c2 := hr.cell (j := i * 3 + 2) (by omega)
      rw [mkK_2] at c2
      have hm3 : ((k : Int) + (i : Int) * 3) % 3 = 0 := by omega
      have hmt : ((k : Int) + (i : Int) * 3).tmod 3 = 0 := by rw [Int.tmod_eq_emod_of_nonneg (by omega)]; omega
      have hp2 : (k : Int) + (i : Int) * 3 + 1 + 1 = (k : Int) + (i : Int) * 3 + 2 := by omega
      have hp3 : (k : Int) + (i : Int) * 3 + 2 + 1 = (k : Int) + (i : Int) * 3 + 3 := by omega
      clear hr hk3
      go_wp2_with fail
      go_roundw
      case rel => exact ⟨i + 1, by omega, by simp, by simp; omega, hb⟩
      case measure => show N - ivN (.int .i64 _) < N - ivN (.int .i64 _); simp [ivN]; omega
    · obtain rfl : i = N := by omega
      clear hk3
      go_wp2_with fail
      go_ret
      exact ⟨rfl, hb⟩

set_option maxHeartbeats 1600000 in
set_option maxRecDepth 100000 in
theorem markCapK_row1 (k : Nat) (hk3 : k % 3 = 1) (hk9 : k ≤ 10000000) (g N cap : Nat) (f : Nat → Value) (w : World) (hN : N ≤ 2000000) (hc : N ≤ cap) (h : RowF w 64 g (N * 3) f) :
    Calls Tryd.prog 22 #[.slice (some ⟨g, 0, none⟩) N cap, .int .i64 k] w fun e w' => e = .returned (.int .i64 ((k : Int) + N * 3)) ∧ RowF w' 64 g (N * 3) (mkK k) ∧ Keeps w w' (fun b => b = g) := by
  have HR := hide h
  clear h
  have HD := hide (show decide (k % 3 = 0) = false by rw [hk3]; rfl)
  go_enter Tryd.func22, Tryd.ntmps22
  go_wp2
  go_loopw [1, 5] (fun kv iv wr => ∃ i : Nat, i ≤ N ∧ iv = .int .i64 i ∧ kv = .int .i64 ((k : Int) + (i : Int) * 3) ∧ Hid (RowF wr 64 g (N * 3) (fun j => if j < i * 3 then mkK k j else f j)) ∧ Hid (Keeps w wr (fun b => b = g))) (fun _ iv _ => N - ivN iv)
  case atStart => exact ⟨0, by omega, rfl, by simp, hide (HR.out.congr fun j hj => by simp), hide (Keeps.refl _ _)⟩
  case round =>
    obtain ⟨i, hi9, rfl, rfl, HRw, HKw⟩ := hrel
    by_cases hin : i < N
    · have c0 := HRw.out.cell (j := i * 3) (by omega)
      have c1 := HRw.out.cell (j := i * 3 + 1) (by omega)
      have c2 := HRw.out.cell (j := i * 3 + 2) (by omega)
      have z0 := HRw.out.frz (i * 3)
      have z1 := HRw.out.frz (i * 3 + 1)
      have z2 := HRw.out.frz (i * 3 + 2)
      have HS := hide (((HRw.out.set (j := i * 3) (by omega) (.bool false)).set (j := i * 3 + 1) (by omega) (.int .i64 ((k : Int) + (i : Int) * 3 + 1))).set (j := i * 3 + 2) (by omega) (.int .i64 ((k : Int) + (i : Int) * 3 + 2)))
      have HK2 := hide (((HKw.out.setCell (j := i * 3) (S := fun b => b = g) rfl (.bool false)).setCell (j := i * 3 + 1) (S := fun b => b = g) rfl (.int .i64 ((k : Int) + (i : Int) * 3 + 1))).setCell (j := i * 3 + 2) (S := fun b => b = g) rfl (.int .i64 ((k : Int) + (i : Int) * 3 + 2)))
      have hm3 : ((k : Int) + (i : Int) * 3) % 3 = 1 := by omega
      have hmt : ((k : Int) + (i : Int) * 3).tmod 3 = 1 := by rw [Int.tmod_eq_emod_of_nonneg (by omega)]; omega
      have hp2 : (k : Int) + (i : Int) * 3 + 1 + 1 = (k : Int) + (i : Int) * 3 + 2 := by omega
      have hp3 : (k : Int) + (i : Int) * 3 + 2 + 1 = (k : Int) + (i : Int) * 3 + 3 := by omega
      clear HRw HKw hk3
      go_wp2_with fail
      go_roundw
      case rel =>
        refine ⟨i + 1, by omega, by simp, by simp; omega, hide (HS.out.congr fun j hj => ?_), HK2⟩
        show _ = if j < (i + 1) * 3 then mkK k j else f j
        by_cases e0 : j = i * 3
        · rw [e0, if_pos (show i * 3 < (i + 1) * 3 by omega), mkK_0, HD.out]; simp
        by_cases e1 : j = i * 3 + 1
        · rw [e1, if_pos (show i * 3 + 1 < (i + 1) * 3 by omega), mkK_1]; simp
        by_cases e2 : j = i * 3 + 2
        · rw [e2, if_pos (show i * 3 + 2 < (i + 1) * 3 by omega), mkK_2]; simp
        by_cases e9 : j < i * 3
        · simp [e0, e1, e2, e9, show j < (i + 1) * 3 by omega]
        · simp [e0, e1, e2, e9, show ¬ j < (i + 1) * 3 by omega]
      case measure => show N - ivN (.int .i64 _) < N - ivN (.int .i64 _); simp [ivN]; omega
    · obtain rfl : i = N := by omega
      have HF := hide (HRw.out.congr (f' := mkK k) fun j hj => by simp [hj])
      clear hk3
      go_wp2_with fail
      go_ret
      exact ⟨rfl, HF.out, HKw.out⟩

set_option maxHeartbeats 1600000 in
set_option maxRecDepth 100000 in
theorem heldCapK_row1 (k : Nat) (hk3 : k % 3 = 1) (hk9 : k ≤ 10000000) (g N cap : Nat) (w : World) (hN : N ≤ 2000000) (hc : N ≤ cap) (h : RowF w 64 g (N * 3) (mkK k)) :
    Calls Tryd.prog 23 #[.slice (some ⟨g, 0, none⟩) N cap, .int .i64 k] w fun e w' => e = .returned (.int .i64 ((k : Int) + N * 3)) ∧ Below w.heap.size w w' := by
  have HR := hide h
  clear h
  have HD := hide (show decide (k % 3 = 0) = false by rw [hk3]; rfl)
  go_enter Tryd.func23, Tryd.ntmps23
  go_wp2
  go_loopw [1, 5] (fun kv iv wr => ∃ i : Nat, i ≤ N ∧ iv = .int .i64 i ∧ kv = .int .i64 ((k : Int) + (i : Int) * 3) ∧ Below w.heap.size w wr) (fun _ iv _ => N - ivN iv)
  case atStart => exact ⟨0, by omega, rfl, by simp, Below.refl _ _⟩
  case round =>
    obtain ⟨i, hi9, rfl, rfl, hb⟩ := hrel
    by_cases hin : i < N
    · have hr := HR.out.low hb HR.out.lt
      have c0 := hr.cell (j := i * 3) (by omega)
      rw [mkK_0, HD.out] at c0
      have c1 := hr.cell (j := i * 3 + 1) (by omega)
      rw [mkK_1] at c1
      have c2 := hr.cell (j := i * 3 + 2) (by omega)
      rw [mkK_2] at c2
      have hm3 : ((k : Int) + (i : Int) * 3) % 3 = 1 := by omega
      have hmt : ((k : Int) + (i : Int) * 3).tmod 3 = 1 := by rw [Int.tmod_eq_emod_of_nonneg (by omega)]; omega
      have hp2 : (k : Int) + (i : Int) * 3 + 1 + 1 = (k : Int) + (i : Int) * 3 + 2 := by omega
      have hp3 : (k : Int) + (i : Int) * 3 + 2 + 1 = (k : Int) + (i : Int) * 3 + 3 := by omega
      clear hr hk3
      go_wp2_with fail
      go_roundw
      case rel => exact ⟨i + 1, by omega, by simp, by simp; omega, hb⟩
      case measure => show N - ivN (.int .i64 _) < N - ivN (.int .i64 _); simp [ivN]; omega
    · obtain rfl : i = N := by omega
      clear hk3
      go_wp2_with fail
      go_ret
      exact ⟨rfl, hb⟩

set_option maxHeartbeats 1600000 in
set_option maxRecDepth 100000 in
theorem markCapK_row2 (k : Nat) (hk3 : k % 3 = 2) (hk9 : k ≤ 10000000) (g N cap : Nat) (f : Nat → Value) (w : World) (hN : N ≤ 2000000) (hc : N ≤ cap) (h : RowF w 64 g (N * 3) f) :
    Calls Tryd.prog 22 #[.slice (some ⟨g, 0, none⟩) N cap, .int .i64 k] w fun e w' => e = .returned (.int .i64 ((k : Int) + N * 3)) ∧ RowF w' 64 g (N * 3) (mkK k) ∧ Keeps w w' (fun b => b = g) := by
  have HR := hide h
  clear h
  have HD := hide (show decide (k % 3 = 0) = false by rw [hk3]; rfl)
  go_enter Tryd.func22, Tryd.ntmps22
  go_wp2
  go_loopw [1, 5] (fun kv iv wr => ∃ i : Nat, i ≤ N ∧ iv = .int .i64 i ∧ kv = .int .i64 ((k : Int) + (i : Int) * 3) ∧ Hid (RowF wr 64 g (N * 3) (fun j => if j < i * 3 then mkK k j else f j)) ∧ Hid (Keeps w wr (fun b => b = g))) (fun _ iv _ => N - ivN iv)
  case atStart => exact ⟨0, by omega, rfl, by simp, hide (HR.out.congr fun j hj => by simp), hide (Keeps.refl _ _)⟩
  case round =>
    obtain ⟨i, hi9, rfl, rfl, HRw, HKw⟩ := hrel
    by_cases hin : i < N
    · have c0 := HRw.out.cell (j := i * 3) (by omega)
      have c1 := HRw.out.cell (j := i * 3 + 1) (by omega)
      have c2 := HRw.out.cell (j := i * 3 + 2) (by omega)
      have z0 := HRw.out.frz (i * 3)
      have z1 := HRw.out.frz (i * 3 + 1)
      have z2 := HRw.out.frz (i * 3 + 2)
      have HS := hide (((HRw.out.set (j := i * 3) (by omega) (.bool false)).set (j := i * 3 + 1) (by omega) (.int .i64 ((k : Int) + (i : Int) * 3 + 1))).set (j := i * 3 + 2) (by omega) (.int .i64 ((k : Int) + (i : Int) * 3 + 2)))
      have HK2 := hide (((HKw.out.setCell (j := i * 3) (S := fun b => b = g) rfl (.bool false)).setCell (j := i * 3 + 1) (S := fun b => b = g) rfl (.int .i64 ((k : Int) + (i : Int) * 3 + 1))).setCell (j := i * 3 + 2) (S := fun b => b = g) rfl (.int .i64 ((k : Int) + (i : Int) * 3 + 2)))
      have hm3 : ((k : Int) + (i : Int) * 3) % 3 = 2 := by omega
      have hmt : ((k : Int) + (i : Int) * 3).tmod 3 = 2 := by rw [Int.tmod_eq_emod_of_nonneg (by omega)]; omega
      have hp2 : (k : Int) + (i : Int) * 3 + 1 + 1 = (k : Int) + (i : Int) * 3 + 2 := by omega
      have hp3 : (k : Int) + (i : Int) * 3 + 2 + 1 = (k : Int) + (i : Int) * 3 + 3 := by omega
      clear HRw HKw hk3
      go_wp2_with fail
      go_roundw
      case rel =>
        refine ⟨i + 1, by omega, by simp, by simp; omega, hide (HS.out.congr fun j hj => ?_), HK2⟩
        show _ = if j < (i + 1) * 3 then mkK k j else f j
        by_cases e0 : j = i * 3
        · rw [e0, if_pos (show i * 3 < (i + 1) * 3 by omega), mkK_0, HD.out]; simp
        by_cases e1 : j = i * 3 + 1
        · rw [e1, if_pos (show i * 3 + 1 < (i + 1) * 3 by omega), mkK_1]; simp
        by_cases e2 : j = i * 3 + 2
        · rw [e2, if_pos (show i * 3 + 2 < (i + 1) * 3 by omega), mkK_2]; simp
        by_cases e9 : j < i * 3
        · simp [e0, e1, e2, e9, show j < (i + 1) * 3 by omega]
        · simp [e0, e1, e2, e9, show ¬ j < (i + 1) * 3 by omega]
      case measure => show N - ivN (.int .i64 _) < N - ivN (.int .i64 _); simp [ivN]; omega
    · obtain rfl : i = N := by omega
      have HF := hide (HRw.out.congr (f' := mkK k) fun j hj => by simp [hj])
      clear hk3
      go_wp2_with fail
      go_ret
      exact ⟨rfl, HF.out, HKw.out⟩

set_option maxHeartbeats 1600000 in
set_option maxRecDepth 100000 in
theorem heldCapK_row2 (k : Nat) (hk3 : k % 3 = 2) (hk9 : k ≤ 10000000) (g N cap : Nat) (w : World) (hN : N ≤ 2000000) (hc : N ≤ cap) (h : RowF w 64 g (N * 3) (mkK k)) :
    Calls Tryd.prog 23 #[.slice (some ⟨g, 0, none⟩) N cap, .int .i64 k] w fun e w' => e = .returned (.int .i64 ((k : Int) + N * 3)) ∧ Below w.heap.size w w' := by
  have HR := hide h
  clear h
  have HD := hide (show decide (k % 3 = 0) = false by rw [hk3]; rfl)
  go_enter Tryd.func23, Tryd.ntmps23
  go_wp2
  go_loopw [1, 5] (fun kv iv wr => ∃ i : Nat, i ≤ N ∧ iv = .int .i64 i ∧ kv = .int .i64 ((k : Int) + (i : Int) * 3) ∧ Below w.heap.size w wr) (fun _ iv _ => N - ivN iv)
  case atStart => exact ⟨0, by omega, rfl, by simp, Below.refl _ _⟩
  case round =>
    obtain ⟨i, hi9, rfl, rfl, hb⟩ := hrel
    by_cases hin : i < N
    · have hr := HR.out.low hb HR.out.lt
      have c0 := hr.cell (j := i * 3) (by omega)
      rw [mkK_0, HD.out] at c0
      have c1 := hr.cell (j := i * 3 + 1) (by omega)
      rw [mkK_1] at c1
      have c2 := hr.cell (j := i * 3 + 2) (by omega)
      rw [mkK_2] at c2
      have hm3 : ((k : Int) + (i : Int) * 3) % 3 = 2 := by omega
      have hmt : ((k : Int) + (i : Int) * 3).tmod 3 = 2 := by rw [Int.tmod_eq_emod_of_nonneg (by omega)]; omega
      have hp2 : (k : Int) + (i : Int) * 3 + 1 + 1 = (k : Int) + (i : Int) * 3 + 2 := by omega
      have hp3 : (k : Int) + (i : Int) * 3 + 2 + 1 = (k : Int) + (i : Int) * 3 + 3 := by omega
      clear hr hk3
      go_wp2_with fail
      go_roundw
      case rel => exact ⟨i + 1, by omega, by simp, by simp; omega, hb⟩
      case measure => show N - ivN (.int .i64 _) < N - ivN (.int .i64 _); simp [ivN]; omega
    · obtain rfl : i = N := by omega
      clear hk3
      go_wp2_with fail
      go_ret
      exact ⟨rfl, hb⟩

set_option maxHeartbeats 800000 in
set_option maxRecDepth 100000 in
theorem markCapK_v (k : Nat) (hk9 : k ≤ 10000000) (v : Value) (n : Nat) (w : World) (hN : n ≤ 2000000) (h : ∃ f, SlF w 64 3 v n f) :
    Calls Tryd.prog 22 #[v, .int .i64 k] w fun e w' => e = .returned (.int .i64 ((k : Int) + n * 3)) ∧ SlF w' 64 3 v n (mkK k) ∧ Keeps w w' (fun b => v.ownBlock = some b) := by
  obtain ⟨f, h⟩ := h
  obtain ⟨a, cap, rfl, h1, ⟨rfl, rfl⟩ | ⟨g, rfl, h3⟩⟩ := h
  · clear h1
    go_enter Tryd.func22, Tryd.ntmps22
    go_wp2
    go_loopw [1, 5] (fun kv iv wr => kv = .int .i64 k ∧ iv = .int .i64 0 ∧ wr = w) (fun _ _ _ => 0)
    case atStart => exact ⟨rfl, rfl, rfl⟩
    case round =>
      obtain ⟨rfl, rfl, rfl⟩ := hrel
      go_wp2
      go_ret
      exact ⟨by simp, ⟨_, _, rfl, Nat.zero_le _, .inl ⟨rfl, rfl⟩⟩, Keeps.refl _ _⟩
  · have fin : Calls Tryd.prog 22 #[.slice (some ⟨g, 0, none⟩) n cap, .int .i64 k] w fun e w' => e = .returned (.int .i64 ((k : Int) + n * 3)) ∧ RowF w' 64 g (n * 3) (mkK k) ∧ Keeps w w' (fun b => b = g) := by
      rcases (show k % 3 = 0 ∨ k % 3 = 1 ∨ k % 3 = 2 by omega) with e | e | e
      · exact markCapK_row0 k e hk9 g n cap _ w hN h1 h3
      · exact markCapK_row1 k e hk9 g n cap _ w hN h1 h3
      · exact markCapK_row2 k e hk9 g n cap _ w hN h1 h3
    refine fin.mono ?_
    rintro e w' ⟨rfl, h4, h5⟩
    exact ⟨rfl, ⟨_, cap, rfl, h1, .inr ⟨g, rfl, h4⟩⟩, h5.mono (fun b hb => by subst hb; simp [Value.ownBlock])⟩
set_option maxHeartbeats 800000 in
set_option maxRecDepth 100000 in
theorem heldCapK_v (k : Nat) (hk9 : k ≤ 10000000) (v : Value) (n : Nat) (w : World) (hN : n ≤ 2000000) (h : SlF w 64 3 v n (mkK k)) :
    Calls Tryd.prog 23 #[v, .int .i64 k] w fun e w' => e = .returned (.int .i64 ((k : Int) + n * 3)) ∧ Below w.heap.size w w' := by
  obtain ⟨a, cap, rfl, h1, ⟨rfl, rfl⟩ | ⟨g, rfl, h3⟩⟩ := h
  · clear h1
    go_enter Tryd.func23, Tryd.ntmps23
    go_wp2
    go_loopw [1, 5] (fun kv iv wr => kv = .int .i64 k ∧ iv = .int .i64 0 ∧ wr = w) (fun _ _ _ => 0)
    case atStart => exact ⟨rfl, rfl, rfl⟩
    case round =>
      obtain ⟨rfl, rfl, rfl⟩ := hrel
      go_wp2
      go_ret
      exact ⟨by simp, Below.refl _ _⟩
  · rcases (show k % 3 = 0 ∨ k % 3 = 1 ∨ k % 3 = 2 by omega) with e | e | e
    · exact heldCapK_row0 k e hk9 g n cap w hN h1 h3
    · exact heldCapK_row1 k e hk9 g n cap w hN h1 h3
    · exact heldCapK_row2 k e hk9 g n cap w hN h1 h3

end Go.Proofs.YtemciphihnpniaaDoor
namespace Go.Proofs.YtemciphihnpniaaDoor
open Go Go.RowKit Go.Shelf
set_option linter.unusedVariables false

/-- A list of matches as it is to be read: the same number of captures each. -/
structure FsA (w : World) (v : Value) (n c : Nat) (fr en : Nat → Int) (cv : Nat → Value) (x0 : Nat → Nat → Bool) (x1 x2 : Nat → Nat → Int) : Prop where
  l : (n = 0 ∧ ∃ a cap, v = .slice a 0 cap) ∨ ∃ b cap, v = .slice (some ⟨b, 0, none⟩) n cap ∧ b < w.heap.size ∧ n ≤ cap ∧ ∀ i, i < n → w.cell? ⟨b, i * 3, none⟩ = some (.int .i64 (fr i)) ∧ w.cell? ⟨b, i * 3 + 1, none⟩ = some (.int .i64 (en i)) ∧ w.cell? ⟨b, i * 3 + 2, none⟩ = some (cv i)
  c : ∀ i, i < n → CpA w (cv i) c (x0 i) (x1 i) (x2 i)
theorem FsA.val {w : World} {v : Value} {n c : Nat} {fr en : Nat → Int} {cv : Nat → Value} {x0 : Nat → Nat → Bool} {x1 x2 : Nat → Nat → Int} (h : FsA w v n c fr en cv x0 x1 x2) : ∃ a cap, v = .slice a n cap := by
  rcases h.l with ⟨rfl, a, cap, rfl⟩ | ⟨b, cap, rfl, _⟩
  · exact ⟨a, cap, rfl⟩
  · exact ⟨_, cap, rfl⟩
theorem FsA.low {w w' : World} {v : Value} {n c : Nat} {fr en : Nat → Int} {cv : Nat → Value} {x0 : Nat → Nat → Bool} {x1 x2 : Nat → Nat → Int} (h : FsA w v n c fr en cv x0 x1 x2) (hb : Below w.heap.size w w') : FsA w' v n c fr en cv x0 x1 x2 := by
  refine ⟨?_, fun i hi => (h.c i hi).low hb⟩
  rcases h.l with h | ⟨b, cap, rfl, hbB, hcap, hc⟩
  · exact .inl h
  · exact .inr ⟨b, cap, rfl, Nat.lt_of_lt_of_le hbB hb.size, hcap, fun i hi => ⟨(hb.cell (p := ⟨b, i * 3, none⟩) hbB).trans (hc i hi).1, (hb.cell (p := ⟨b, i * 3 + 1, none⟩) hbB).trans (hc i hi).2.1, (hb.cell (p := ⟨b, i * 3 + 2, none⟩) hbB).trans (hc i hi).2.2⟩⟩

set_option maxHeartbeats 3200000 in
set_option maxRecDepth 100000 in
theorem eqFoundS_any (v v' : Value) (n c : Nat) (fr en : Nat → Int) (cv cv' : Nat → Value) (x0 : Nat → Nat → Bool) (x1 x2 : Nat → Nat → Int) (w : World) (hn : n ≤ 1048576) (hc9 : c ≤ 1048576) (h : FsA w v n c fr en cv x0 x1 x2) (h' : FsA w v' n c fr en cv' x0 x1 x2) :
    Calls Tryd.prog 12 #[v, v'] w fun e w' => e = .returned (.bool true) ∧ Below w.heap.size w w' := by
  by_cases h0 : n = 0
  · subst h0
    obtain ⟨a, cap, rfl⟩ := h.val
    obtain ⟨a', cap', rfl⟩ := h'.val
    clear h h'
    go_enter Tryd.func12, Tryd.ntmps12
    go_wp2
    go_loopw [5] (fun iv wr => iv = .int .i64 0 ∧ wr = w) (fun _ _ => 0)
    case atStart => exact ⟨rfl, rfl⟩
    case round =>
      obtain ⟨rfl, rfl⟩ := hrel
      go_wp2
      go_ret
      exact ⟨rfl, Below.refl _ _⟩
  · have HCP := hide (And.intro h.c h'.c)
    rcases h.l with ⟨h9, _⟩ | ⟨b, cap, rfl, hb, hcap, hc⟩
    · exact absurd h9 h0
    rcases h'.l with ⟨h9, _⟩ | ⟨b', cap', rfl, hb', hcap', hc'⟩
    · exact absurd h9 h0
    have HC := hide hc
    have HC' := hide hc'
    clear hc hc' h h'
    go_enter Tryd.func12, Tryd.ntmps12
    go_wp2
    go_loopw [5] (fun iv wr => ∃ i : Nat, i ≤ n ∧ iv = .int .i64 i ∧ Below w.heap.size w wr) (fun iv _ => match iv with | .int _ x => n - x.toNat | _ => 0)
    case atStart => exact ⟨0, by omega, rfl, Below.refl _ _⟩
    case round =>
      obtain ⟨i, hi9, rfl, hbw⟩ := hrel
      by_cases hin : i < n
      · have c0 := (hbw.cell (p := ⟨b, i * 3, none⟩) (by assumption)).trans (HC.out i hin).1
        have c1 := (hbw.cell (p := ⟨b, i * 3 + 1, none⟩) (by assumption)).trans (HC.out i hin).2.1
        have c2 := (hbw.cell (p := ⟨b, i * 3 + 2, none⟩) (by assumption)).trans (HC.out i hin).2.2
        have e0 := (hbw.cell (p := ⟨b', i * 3, none⟩) (by assumption)).trans (HC'.out i hin).1
        have e1 := (hbw.cell (p := ⟨b', i * 3 + 1, none⟩) (by assumption)).trans (HC'.out i hin).2.1
        have e2 := (hbw.cell (p := ⟨b', i * 3 + 2, none⟩) (by assumption)).trans (HC'.out i hin).2.2
        have hlb : b < wr.heap.size := Nat.lt_of_lt_of_le hb hbw.size
        have hlb' : b' < wr.heap.size := Nat.lt_of_lt_of_le hb' hbw.size
        have hC1 := (HCP.out.1 i hin).low hbw.drew
        have hC2 := (HCP.out.2 i hin).low hbw.drew
        obtain ⟨ac, kc, hcv⟩ := hC1.val
        obtain ⟨ac', kc', hcv'⟩ := hC2.val
        rw [hcv] at c2 hC1
        rw [hcv'] at e2 hC2
        have HC12 := hide (And.intro hC1 hC2)
        have HB := hide hbw
        clear hbw hC1 hC2 hcv hcv'
        go_wp2_with fail
        go_region_held3 (fun w9 => (w9.cell? ⟨b, i * 3, none⟩ = some (.int .i64 (fr i)) ∧ w9.cell? ⟨b, i * 3 + 1, none⟩ = some (.int .i64 (en i)) ∧ w9.cell? ⟨b, i * 3 + 2, none⟩ = some (.slice ac c kc)) ∧ w9.cell? ⟨b', i * 3, none⟩ = some (.int .i64 (fr i)) ∧ w9.cell? ⟨b', i * 3 + 1, none⟩ = some (.int .i64 (en i)) ∧ w9.cell? ⟨b', i * 3 + 2, none⟩ = some (.slice ac' c kc')) (go_keep)
          (first | (go_at_call 7; refine (eqFound_any (fr i) (en i) (.slice ac c kc) (.slice ac' c kc') c (x0 i) (x1 i) (x2 i) _ hc9 HC12.out.1 HC12.out.2).mono ?_; rintro e w2 ⟨rfl, hb2⟩; have q0 := (hb2.cell (p := ⟨b, i * 3, none⟩) hlb).trans c0; have r0 := (hb2.cell (p := ⟨b', i * 3, none⟩) hlb').trans e0; have q1 := (hb2.cell (p := ⟨b, i * 3 + 1, none⟩) hlb).trans c1; have r1 := (hb2.cell (p := ⟨b', i * 3 + 1, none⟩) hlb').trans e1; have q2 := (hb2.cell (p := ⟨b, i * 3 + 2, none⟩) hlb).trans c2; have r2 := (hb2.cell (p := ⟨b', i * 3 + 2, none⟩) hlb').trans e2; have HB2 := hide hb2; clear hb2))
        have HB3 := hide (HB.out.drew.trans (HB2.out.mono HB.out.size))
        rename_i hh
        clear hh c0 e0 q0 r0 c1 e1 q1 r1 c2 e2 q2 r2
        go_wp2
        go_roundw
        case rel => exact ⟨i + 1, by omega, by simp, HB3.out⟩
        case measure => simp; omega
      · obtain rfl : i = n := by omega
        go_wp2
        go_ret
        exact ⟨rfl, hbw⟩

end Go.Proofs.YtemciphihnpniaaDoor
namespace Go.Proofs.YtemciphihnpniaaDoor
open Go Go.RowKit Go.Shelf
set_option linter.unusedVariables false

/-- What the marks of matches are, from k on, d for each. -/
def mkF (k d : Nat) (cv : Nat → Value) (j : Nat) : Value := if j % 3 = 0 then .int .i64 ((k + j / 3 * d : Nat) : Int) else if j % 3 = 1 then .int .i64 ((k + j / 3 * d : Nat) + 1 : Int) else cv (j / 3)
theorem mkF_0 (k d : Nat) (cv : Nat → Value) (i : Nat) : mkF k d cv (i * 3) = .int .i64 ((k + i * d : Nat) : Int) := by unfold mkF; rw [if_pos (by omega), show i * 3 / 3 = i by omega]
theorem mkF_1 (k d : Nat) (cv : Nat → Value) (i : Nat) : mkF k d cv (i * 3 + 1) = .int .i64 ((k + i * d : Nat) + 1 : Int) := by unfold mkF; rw [if_neg (by omega), if_pos (by omega), show (i * 3 + 1) / 3 = i by omega]
theorem mkF_2 (k d : Nat) (cv : Nat → Value) (i : Nat) : mkF k d cv (i * 3 + 2) = cv i := by unfold mkF; rw [if_neg (by omega), if_neg (by omega), show (i * 3 + 2) / 3 = i by omega]
/-- The first i are marked. -/
structure MkI (w : World) (g n c k d : Nat) (f : Nat → Value) (cv : Nat → Value) (i : Nat) : Prop where
  l : RowF w 24 g (n * 3) (fun j => if j < i * 3 then mkF k d cv j else f j)
  m : ∀ q, q < i → SlF w 64 3 (cv q) c (mkK (k + q * d + 2))
  u : ∀ q, i ≤ q → q < n → ∃ f, SlF w 64 3 (cv q) c f
theorem MkI.step {w w1 w2 : World} {g n c k d i : Nat} {f cv : Nat → Value} (h : MkI w g n c k d f cv i) (hi : i < n) (hf : ∀ i, i < n → f (i * 3 + 2) = cv i) (hap : ∀ p q, p < n → q < n → p ≠ q → ∀ b, (cv p).ownBlock = some b → (cv q).ownBlock ≠ some b)
    (h1 : w1 = (w.setCell ⟨g, i * 3, none⟩ (.int .i64 ((k + i * d : Nat) : Int))).setCell ⟨g, i * 3 + 1, none⟩ (.int .i64 ((k + i * d : Nat) + 1 : Int))) (h2 : SlF w2 64 3 (cv i) c (mkK (k + i * d + 2))) (h3 : Keeps w1 w2 (fun b => (cv i).ownBlock = some b)) : MkI w2 g n c k d f cv (i + 1) := by
  have kS : Keeps w w1 (fun b => b = g) := by
    rw [h1]
    exact ((Keeps.refl w (fun b => b = g)).setCell (S := fun b => b = g) (j := i * 3) rfl _).setCell (S := fun b => b = g) (j := i * 3 + 1) rfl _
  obtain ⟨f0, u0⟩ := h.u i (Nat.le_refl _) hi
  have pc : ∀ q f9, SlF w 64 3 (cv q) c f9 → SlF w1 64 3 (cv q) c f9 := fun q f9 h9 => h9.pastG kS h.l (by decide)
  have u1 := pc i f0 u0
  have hs := (h.l.set (j := i * 3) (by omega) (.int .i64 ((k + i * d : Nat) : Int))).set (j := i * 3 + 1) (by omega) (.int .i64 ((k + i * d : Nat) + 1 : Int))
  rw [← h1] at hs
  refine ⟨(RowF.past hs h3 u1 (by decide)).congr (fun j hj => ?_), fun q hq => ?_, fun q hq hq' => ?_⟩
  · show _ = if j < (i + 1) * 3 then mkF k d cv j else f j
    by_cases e0 : j = i * 3
    · rw [e0, if_pos (show i * 3 < (i + 1) * 3 by omega), mkF_0]; simp
    by_cases e1 : j = i * 3 + 1
    · rw [e1, if_pos (show i * 3 + 1 < (i + 1) * 3 by omega), mkF_1]; simp
    by_cases e2 : j = i * 3 + 2
    · rw [e2, if_pos (show i * 3 + 2 < (i + 1) * 3 by omega), mkF_2]; simp [hf i hi]
    by_cases e9 : j < i * 3
    · simp [e0, e1, e9, show j < (i + 1) * 3 by omega]
    · simp [e0, e1, e9, show ¬ j < (i + 1) * 3 by omega]
  · by_cases e : q = i
    · rw [e]; exact h2
    · exact (pc q _ (h.m q (by omega))).keep h3 (fun b hb hb' => hap q i (by omega) hi e b hb hb')
  · obtain ⟨f9, h9⟩ := h.u q (by omega) hq'
    exact ⟨f9, (pc q _ h9).keep h3 (fun b hb hb' => hap q i hq' hi (by omega) b hb hb')⟩

set_option maxHeartbeats 3200000 in
set_option maxRecDepth 100000 in
theorem markFoundS_row (k c d : Nat) (hd : d = 2 + c * 3) (g n cap : Nat) (f cv : Nat → Value) (w : World) (hN : n ≤ 100000) (hc9 : c ≤ 1000) (hk9 : k + n * d ≤ 9000000) (hc : n ≤ cap) (hI : MkI w g n c k d f cv 0) (hf : ∀ i, i < n → f (i * 3 + 2) = cv i) (hap : ∀ p q, p < n → q < n → p ≠ q → ∀ b, (cv p).ownBlock = some b → (cv q).ownBlock ≠ some b) :
    Calls Tryd.prog 13 #[.slice (some ⟨g, 0, none⟩) n cap, .int .i64 k] w fun e w' => e = .returned (.int .i64 ((k + n * d : Nat) : Int)) ∧ MkI w' g n c k d f cv n ∧ Keeps w w' (fun b => b = g ∨ ∃ q, q < n ∧ (cv q).ownBlock = some b) := by
  have HI := hide hI
  have HF := hide (And.intro hf hap)
  clear hI hf hap
  go_enter Tryd.func13, Tryd.ntmps13
  go_wp2
  go_loopw [1, 5] (fun kv iv wr => ∃ i m : Nat, i ≤ n ∧ iv = .int .i64 i ∧ kv = .int .i64 (m : Int) ∧ Hid (m = k + i * d) ∧ m ≤ 9000000 ∧ Hid (MkI wr g n c k d f cv i) ∧ Hid (Keeps w wr (fun b => b = g ∨ ∃ q, q < n ∧ (cv q).ownBlock = some b))) (fun _ iv _ => n - ivN iv)
  case atStart => exact ⟨0, k, by omega, rfl, rfl, hide (by simp), Nat.le_trans (Nat.le_add_right _ _) hk9, HI, hide (Keeps.refl _ _)⟩
  case round =>
    clear HI
    obtain ⟨i, m, hi9, rfl, rfl, HM, hm9, HI, HK⟩ := hrel
    by_cases hin : i < n
    · obtain ⟨fc, hcs⟩ := HI.out.u i (Nat.le_refl _) hin
      obtain ⟨ac, kc, hcv⟩ := hcs.form
      have c0 := HI.out.l.cell (j := i * 3) (by omega)
      have c1 := HI.out.l.cell (j := i * 3 + 1) (by omega)
      have z0 := HI.out.l.frz (i * 3)
      have z1 := HI.out.l.frz (i * 3 + 1)
      have kS : Keeps wr ((wr.setCell ⟨g, i * 3, none⟩ (.int .i64 (m : Int))).setCell ⟨g, i * 3 + 1, none⟩ (.int .i64 ((m : Int) + 1))) (fun b => b = g) := ((Keeps.refl wr (fun b => b = g)).setCell (S := fun b => b = g) (j := i * 3) rfl _).setCell (S := fun b => b = g) (j := i * 3 + 1) rfl _
      have hl2 := (HI.out.l.set (j := i * 3) (by omega) (.int .i64 (m : Int))).set (j := i * 3 + 1) (by omega) (.int .i64 ((m : Int) + 1))
      have c2 : ((wr.setCell ⟨g, i * 3, none⟩ (.int .i64 (m : Int))).setCell ⟨g, i * 3 + 1, none⟩ (.int .i64 ((m : Int) + 1))).cell? ⟨g, i * 3 + 2, none⟩ = some (.slice ac c kc) := by
        rw [hl2.cell (j := i * 3 + 2) (by omega)]
        simp [HF.out.1 i hin, hcv, show ¬ (i * 3 + 2 < i * 3) by omega]
      have HCs := hide (show SlF ((wr.setCell ⟨g, i * 3, none⟩ (.int .i64 (m : Int))).setCell ⟨g, i * 3 + 1, none⟩ (.int .i64 ((m : Int) + 1))) 64 3 (.slice ac c kc) c fc from by rw [← hcv]; exact hcs.pastG kS HI.out.l (by decide))
      have HKS := hide kS
      have HCV := hide hcv
      have hmm : ((m + 2 : Nat) : Int) = (m : Int) + 1 + 1 := by omega
      have HST := hide (show k + (i + 1) * d ≤ 9000000 from Nat.le_trans (Nat.add_le_add_left (Nat.mul_le_mul_right _ hin) _) hk9)
      clear hcs hcv kS hl2
      go_wp2_with fail
      refine (markCapK_v (m + 2) (by omega) (.slice ac c kc) c _ (by omega) ⟨_, HCs.out⟩).mono ?_
      rintro e w2 ⟨rfl, h2, h3⟩
      have HI2 := hide (show MkI w2 g n c k d f cv (i + 1) from HI.out.step hin HF.out.1 HF.out.2 (w1 := (wr.setCell ⟨g, i * 3, none⟩ (.int .i64 (m : Int))).setCell ⟨g, i * 3 + 1, none⟩ (.int .i64 ((m : Int) + 1))) (by rw [HM.out]) (by rw [HCV.out, ← HM.out]; exact h2) (by rw [HCV.out]; exact h3))
      have HK2 := hide ((HK.out.trans (HKS.out.mono (S' := fun b => b = g ∨ ∃ q, q < n ∧ (cv q).ownBlock = some b) (fun b e => .inl e))).trans (h3.mono (S' := fun b => b = g ∨ ∃ q, q < n ∧ (cv q).ownBlock = some b) (fun b e => .inr ⟨i, hin, by rw [HCV.out]; exact e⟩)))
      have HS2 := hide (show m + d = k + (i + 1) * d ∧ m + d ≤ 9000000 from by
        have h9 := HST.out
        have h8 := HM.out
        rw [Nat.succ_mul] at h9 ⊢
        omega)
      clear h2 h3 HI HK HKS HCs HST c0 c1 z0 z1 c2
      go_wp2_with fail
      go_roundw
      case rel => exact ⟨i + 1, m + d, by omega, by simp, by simp; omega, hide HS2.out.1, HS2.out.2, HI2, HK2⟩
      case measure => show n - ivN (.int .i64 _) < n - ivN (.int .i64 _); simp [ivN]; omega
    · obtain rfl : i = n := by omega
      go_wp2_with fail
      go_ret
      exact ⟨by rw [← HM.out]; rfl, HI.out, HK.out⟩

set_option maxHeartbeats 3200000 in
set_option maxRecDepth 100000 in
theorem heldFoundS_row (k c d : Nat) (hd : d = 2 + c * 3) (g n cap : Nat) (f cv : Nat → Value) (w : World) (hN : n ≤ 100000) (hc9 : c ≤ 1000) (hk9 : k + n * d ≤ 9000000) (hc : n ≤ cap) (hI : MkI w g n c k d f cv n) :
    Calls Tryd.prog 14 #[.slice (some ⟨g, 0, none⟩) n cap, .int .i64 k] w fun e w' => e = .returned (.int .i64 ((k + n * d : Nat) : Int)) ∧ Below w.heap.size w w' := by
  have HI := hide hI
  clear hI
  go_enter Tryd.func14, Tryd.ntmps14
  go_wp2
  go_loopw [1, 5] (fun kv iv wr => ∃ i m : Nat, i ≤ n ∧ iv = .int .i64 i ∧ kv = .int .i64 (m : Int) ∧ Hid (m = k + i * d) ∧ m ≤ 9000000 ∧ Hid (Below w.heap.size w wr)) (fun _ iv _ => n - ivN iv)
  case atStart => exact ⟨0, k, by omega, rfl, rfl, hide (by simp), Nat.le_trans (Nat.le_add_right _ _) hk9, hide (Below.refl _ _)⟩
  case round =>
    obtain ⟨i, m, hi9, rfl, rfl, HM, hm9, HB⟩ := hrel
    by_cases hin : i < n
    · have hl := HI.out.l.low HB.out HI.out.l.lt
      have hcs := (HI.out.m i hin).low HB.out (Nat.le_refl _)
      obtain ⟨ac, kc, hcv⟩ := hcs.form
      have c0 : wr.cell? ⟨g, i * 3, none⟩ = some (.int .i64 (m : Int)) := by
        rw [hl.cell (j := i * 3) (by omega), if_pos (by omega), mkF_0, HM.out]
      have c1 : wr.cell? ⟨g, i * 3 + 1, none⟩ = some (.int .i64 ((m : Int) + 1)) := by
        rw [hl.cell (j := i * 3 + 1) (by omega), if_pos (by omega), mkF_1, HM.out]
      have c2 : wr.cell? ⟨g, i * 3 + 2, none⟩ = some (.slice ac c kc) := by
        rw [hl.cell (j := i * 3 + 2) (by omega), if_pos (by omega), mkF_2, hcv]
      have HCs := hide (show SlF wr 64 3 (.slice ac c kc) c (mkK (m + 2)) from by rw [← hcv, HM.out]; exact hcs)
      have hmm : ((m + 2 : Nat) : Int) = (m : Int) + 1 + 1 := by omega
      have HST := hide (show k + (i + 1) * d ≤ 9000000 from Nat.le_trans (Nat.add_le_add_left (Nat.mul_le_mul_right _ hin) _) hk9)
      clear hcs hcv hl
      go_wp2_with fail
      refine (heldCapK_v (m + 2) (by omega) (.slice ac c kc) c _ (by omega) HCs.out).mono ?_
      rintro e w2 ⟨rfl, h2⟩
      have HB2 := hide (HB.out.trans (h2.mono HB.out.size))
      have HS2 := hide (show m + d = k + (i + 1) * d ∧ m + d ≤ 9000000 from by
        have h9 := HST.out
        have h8 := HM.out
        rw [Nat.succ_mul] at h9 ⊢
        omega)
      have hneg : ¬ (((m + 2 : Nat) : Int) + (c : Int) * 3 < 0) := by omega
      clear h2 HCs HST c0 c1 c2 HB
      go_wp2_with fail
      go_roundw
      case rel => exact ⟨i + 1, m + d, by omega, by simp, by simp; omega, hide HS2.out.1, HS2.out.2, HB2⟩
      case measure => show n - ivN (.int .i64 _) < n - ivN (.int .i64 _); simp [ivN]; omega
    · obtain rfl : i = n := by omega
      go_wp2_with fail
      go_ret
      exact ⟨by rw [← HM.out]; rfl, HB.out⟩

end Go.Proofs.YtemciphihnpniaaDoor
namespace Go.Proofs.YtemciphihnpniaaDoor
open Go Go.RowKit Go.Shelf
set_option linter.unusedVariables false

theorem allM_len {s : ByteArray} {t : Pt} : ∀ {k at_ n c : Nat}, (allM s t k at_ n c).1.length ≤ 10000 - c
  | 0, _, _, _ => by simp [allM]
  | k + 1, at_, n, c => by
    by_cases h1 : at_ ≤ s.size ∧ c < 10000
    · cases hs : srM s t (s.size + 1) at_ n with
      | mk o n' =>
        cases o with
        | none => rw [allM_none h1 hs]; simp
        | some f =>
          rw [allM_some h1 hs]
          have := allM_len (s := s) (t := t) (k := k) (at_ := nxA f) (n := n') (c := c + 1)
          simp only [List.length_cons]
          omega
    · rw [allM_end h1]; simp
theorem allM_caps {s : ByteArray} {t : Pt} : ∀ {k at_ n c : Nat}, ∀ f ∈ (allM s t k at_ n c).1, f.caps.length = t.caps
  | 0, _, _, _, f, hf => by simp [allM] at hf
  | k + 1, at_, n, c, f, hf => by
    by_cases h1 : at_ ≤ s.size ∧ c < 10000
    · cases hs : srM s t (s.size + 1) at_ n with
      | mk o n' =>
        cases o with
        | none => rw [allM_none h1 hs] at hf; simp at hf
        | some f0 =>
          rw [allM_some h1 hs] at hf
          rcases List.mem_cons.1 hf with rfl | hf
          · exact srM_caps (s := s) (t := t) (k := s.size + 1) (at_ := at_) (n := n) (by rw [hs])
          · exact allM_caps f hf
    · rw [allM_end h1] at hf; simp at hf
theorem findAllM_ok (s p : ByteArray) : ∃ c, c ≤ 16 ∧ (∀ f ∈ (findAllM s p).1, f.caps.length = c) ∧ (findAllM s p).1.length ≤ 10000 := by
  unfold findAllM
  split
  · exact ⟨0, by omega, by simp, by simp⟩
  · cases hr : rdPat p with
    | none => exact ⟨0, by omega, by simp, by simp⟩
    | some t =>
      refine ⟨t.caps, (rdPat_k hr).caps, ?_, ?_⟩
      · intro f hf
        simp only at hf
        split at hf
        · simp at hf
        · exact allM_caps f hf
      · simp only
        split
        · simp
        · exact Nat.le_trans allM_len (by omega)
theorem fsC_at : ∀ (us : List Fv) (i : Nat), i < us.length → (fsC us)[i * 3]? = some (.int .i64 ((us.getD i (fd0, nilS)).1.fr : Int)) ∧ (fsC us)[i * 3 + 1]? = some (.int .i64 ((us.getD i (fd0, nilS)).1.en : Int)) ∧ (fsC us)[i * 3 + 2]? = some (us.getD i (fd0, nilS)).2
  | [], i, h => by simp at h
  | c :: l, 0, h => ⟨rfl, rfl, rfl⟩
  | c :: l, i + 1, h => by
    have ih := fsC_at l i (by simpa using h)
    rw [show fsC (c :: l) = [.int .i64 (c.1.fr : Int), .int .i64 (c.1.en : Int), c.2] ++ fsC l from rfl]
    rw [List.getElem?_append_right (by simp; omega), List.getElem?_append_right (by simp; omega), List.getElem?_append_right (by simp; omega)]
    simp only [List.length_cons, List.length_nil]
    rw [show (i + 1) * 3 - (0 + 1 + 1 + 1) = i * 3 by omega, show (i + 1) * 3 + 1 - (0 + 1 + 1 + 1) = i * 3 + 1 by omega, show (i + 1) * 3 + 2 - (0 + 1 + 1 + 1) = i * 3 + 2 by omega]
    exact ih
def cvU (us : List Fv) (i : Nat) : Value := (us.getD i (fd0, nilS)).2
theorem getD_map {us : List Fv} {L : List Fd} (h : us.map Prod.fst = L) (i : Nat) : (us.getD i (fd0, nilS)).1 = L.getD i fd0 := by
  subst h
  simp only [List.getD_eq_getElem?_getD, List.getElem?_map]
  cases us[i]? <;> rfl
theorem getD_mem {us : List Fv} {i : Nat} (h : i < us.length) : us.getD i (fd0, nilS) ∈ us := by
  rw [List.getD_eq_getElem?_getD, List.getElem?_eq_getElem h]
  exact List.getElem_mem h
theorem FsO.cell3 {w : World} {B g cap : Nat} {us : List Fv} (h : FsO w B (.slice (some ⟨g, 0, none⟩) us.length cap) us) : ∀ i, i < us.length → w.cell? ⟨g, i * 3, none⟩ = some (.int .i64 ((us.getD i (fd0, nilS)).1.fr : Int)) ∧ w.cell? ⟨g, i * 3 + 1, none⟩ = some (.int .i64 ((us.getD i (fd0, nilS)).1.en : Int)) ∧ w.cell? ⟨g, i * 3 + 2, none⟩ = some (cvU us i) := fun i hi => by
  have hc : ∀ j u, (fsC us)[j]? = some u → w.cell? ⟨g, j, none⟩ = some u := fun j u hj => by
    have := h.l.cells (g := g) rfl j u hj
    rwa [add_none', Nat.zero_add] at this
  have h3 := fsC_at us i hi
  exact ⟨hc _ _ h3.1, hc _ _ h3.2.1, hc _ _ h3.2.2⟩
/-- As it is to be read. -/
theorem FsO.fsa {w : World} {B c : Nat} {v : Value} {us : List Fv} {L : List Fd} (h : FsO w B v us) (hL : us.map Prod.fst = L) (hc : ∀ f ∈ L, f.caps.length = c) :
    FsA w v L.length c (fun i => ((L.getD i fd0).fr : Int)) (fun i => ((L.getD i fd0).en : Int)) (cvU us) (fun i => cx0 (L.getD i fd0).caps) (fun i => cx1 (L.getD i fd0).caps) (fun i => cx2 (L.getD i fd0).caps) := by
  have hlen : us.length = L.length := by rw [← hL]; simp
  refine ⟨?_, fun i hi => ?_⟩
  · have h0 := h.l
    obtain ⟨h1, ⟨rfl, h3⟩ | ⟨g, cap, cur, rfl, hb, hg, hnc, hcm, hcs, htake⟩⟩ := h0
    · exact .inl ⟨by omega, none, 0, rfl⟩
    · refine .inr ⟨g, cap, by rw [hlen], (h.l.lt g rfl).2, by omega, fun i hi => ?_⟩
      have := h.cell3 i (by omega)
      rw [getD_map hL] at this
      exact this
  · have hm := getD_mem (us := us) (i := i) (by omega)
    have h9 := CpA.of (h.c _ hm)
    rw [getD_map hL] at h9
    have hcl : (L.getD i fd0).caps.length = c := hc _ (by rw [List.getD_eq_getElem?_getD, List.getElem?_eq_getElem hi]; exact List.getElem_mem hi)
    rw [hcl] at h9
    exact h9
/-- Marked, wherever it lies. -/
def MkV (w : World) (v : Value) (n c k d : Nat) (cv : Nat → Value) : Prop := (v = .slice none 0 0 ∧ n = 0) ∨ ∃ g cap f, v = .slice (some ⟨g, 0, none⟩) n cap ∧ n ≤ cap ∧ MkI w g n c k d f cv n
theorem MkI.low {w w' : World} {g n c k d : Nat} {f cv : Nat → Value} {i : Nat} (h : MkI w g n c k d f cv i) (hb : Below w.heap.size w w') : MkI w' g n c k d f cv i :=
  ⟨h.l.low hb h.l.lt, fun q hq => (h.m q hq).low hb (Nat.le_refl _), fun q hq hq' => by obtain ⟨f9, h9⟩ := h.u q hq hq'; exact ⟨f9, h9.low hb (Nat.le_refl _)⟩⟩
theorem MkV.low {w w' : World} {v : Value} {n c k d : Nat} {cv : Nat → Value} (h : MkV w v n c k d cv) (hb : Below w.heap.size w w') : MkV w' v n c k d cv := by
  rcases h with h | ⟨g, cap, f, h1, h2, h3⟩
  · exact .inl h
  · exact .inr ⟨g, cap, f, h1, h2, h3.low hb⟩
theorem pw_getD {us : List Fv} (h : us.Pairwise (fun a b => ∀ g g', a.2.ownBlock = some g → b.2.ownBlock = some g' → g < g')) : ∀ p q, p < us.length → q < us.length → p ≠ q → ∀ b, (cvU us p).ownBlock = some b → (cvU us q).ownBlock ≠ some b := by
  have key : ∀ p q, p < q → q < us.length → ∀ b b', (cvU us p).ownBlock = some b → (cvU us q).ownBlock = some b' → b < b' := fun p q hpq hq b b' h1 h2 => by
    have := List.pairwise_iff_getElem.1 h p q (by omega) hq hpq
    unfold cvU at h1 h2
    rw [List.getD_eq_getElem?_getD, List.getElem?_eq_getElem (by omega)] at h1 h2
    exact this b b' h1 h2
  intro p q hp hq hne b h1 h2
  rcases Nat.lt_or_gt_of_ne hne with e | e
  · have := key p q e hq b b h1 h2; omega
  · have := key q p e hp b b h2 h1; omega
set_option maxHeartbeats 800000 in
set_option maxRecDepth 100000 in
theorem markFoundS_nil (w : World) : Calls Tryd.prog 13 #[.slice none 0 0, .int .i64 1] w fun e w' => e = .returned (.int .i64 1) ∧ w' = w := by
  go_enter Tryd.func13, Tryd.ntmps13
  go_wp2
  go_loopw [1, 5] (fun kv iv wr => kv = .int .i64 1 ∧ iv = .int .i64 0 ∧ wr = w) (fun _ _ _ => 0)
  case atStart => exact ⟨rfl, rfl, rfl⟩
  case round =>
    obtain ⟨rfl, rfl, rfl⟩ := hrel
    go_wp2
    go_ret
    exact ⟨rfl, rfl⟩
set_option maxHeartbeats 800000 in
set_option maxRecDepth 100000 in
theorem heldFoundS_nil (w : World) : Calls Tryd.prog 14 #[.slice none 0 0, .int .i64 1] w fun e w' => e = .returned (.int .i64 1) ∧ w' = w := by
  go_enter Tryd.func14, Tryd.ntmps14
  go_wp2
  go_loopw [1, 5] (fun kv iv wr => kv = .int .i64 1 ∧ iv = .int .i64 0 ∧ wr = w) (fun _ _ _ => 0)
  case atStart => exact ⟨rfl, rfl, rfl⟩
  case round =>
    obtain ⟨rfl, rfl, rfl⟩ := hrel
    go_wp2
    go_ret
    exact ⟨rfl, rfl⟩
theorem markFoundS_v {w : World} {B c : Nat} {v : Value} {us : List Fv} (hN : us.length ≤ 10000) (hc9 : c ≤ 16) (h : FsO w B v us) (hcs : ∀ u ∈ us, u.1.caps.length = c) :
    Calls Tryd.prog 13 #[v, .int .i64 1] w fun e w' => e = .returned (.int .i64 ((1 + us.length * (2 + c * 3) : Nat) : Int)) ∧ MkV w' v us.length c 1 (2 + c * 3) (cvU us) ∧ Keeps w w' (fun b => B ≤ b) := by
  have h0 := h.l
  obtain ⟨h1, ⟨rfl, h3⟩ | ⟨g, cap, cur, rfl, hb, hg, hnc, hcm, hcss, htake⟩⟩ := h0
  · refine (markFoundS_nil w).mono ?_
    rintro e w' ⟨rfl, rfl⟩
    exact ⟨by rw [h3]; simp, .inl ⟨rfl, h3⟩, Keeps.refl _ _⟩
  · obtain ⟨f, hf⟩ := owns_rowF h.l (g := g) rfl
    have hcap : ∀ q, q < us.length → ∃ f, SlF w 64 3 (cvU us q) c f := fun q hq => by
      have hm := getD_mem (us := us) (i := q) hq
      have h9 := h.c _ hm
      rw [hcs _ hm] at h9
      exact SlF.of h9
    have hI : MkI w g us.length c 1 (2 + c * 3) f (cvU us) 0 := ⟨hf.congr (fun j hj => by simp), fun q hq => by omega, fun q _ hq => hcap q hq⟩
    have hd : us.length * (2 + c * 3) ≤ 10000 * 50 := Nat.mul_le_mul hN (by omega)
    have hm := markFoundS_row 1 c (2 + c * 3) rfl g us.length cap f (cvU us) w (by omega) (by omega) (by omega) hnc hI (fun i hi => by
      have e1 := hf.cell (j := i * 3 + 2) (by omega)
      have e2 := (h.cell3 i hi).2.2
      rw [e1] at e2
      exact Option.some.inj e2) (pw_getD h.r)
    refine Calls.mono (R := _) hm ?_
    rintro e w' ⟨rfl, h4, h5⟩
    refine ⟨rfl, .inr ⟨g, cap, f, rfl, hnc, h4⟩, h5.mono (fun b hb' => ?_)⟩
    rcases hb' with rfl | ⟨q, hq, e⟩
    · exact hb
    · exact (owns_blt (h.c _ (getD_mem hq)) e).1
theorem heldFoundS_v {w : World} {c n : Nat} {v : Value} {cv : Nat → Value} (hN : n ≤ 10000) (hc9 : c ≤ 16) (h : MkV w v n c 1 (2 + c * 3) cv) :
    Calls Tryd.prog 14 #[v, .int .i64 1] w fun e w' => e = .returned (.int .i64 ((1 + n * (2 + c * 3) : Nat) : Int)) ∧ Below w.heap.size w w' := by
  rcases h with ⟨rfl, h3⟩ | ⟨g, cap, f, rfl, h1, h2⟩
  · refine (heldFoundS_nil w).mono ?_
    rintro e w' ⟨rfl, rfl⟩
    exact ⟨by rw [h3]; simp, Below.refl _ _⟩
  · have hd : n * (2 + c * 3) ≤ 10000 * 50 := Nat.mul_le_mul hN (by omega)
    exact heldFoundS_row 1 c (2 + c * 3) rfl g n cap f cv w (by omega) (by omega) (by omega) h1 h2

end Go.Proofs.YtemciphihnpniaaDoor
namespace Go.Proofs.YtemciphihnpniaaDoor
open Go Go.RowKit Go.Shelf
set_option linter.unusedVariables false

set_option maxHeartbeats 3200000 in
set_option maxRecDepth 100000 in
theorem findAllLaw_any (s p : ByteArray) (w : World) (hl : LtT w) (h0 : 0 < w.heap.size) :
    Calls Tryd.prog 4 #[.string s, .string p] w fun e w' => e = .returned (.bool true) ∧ Below w.heap.size w w' := by
  by_cases hs : s.size ≤ 1048576
  · by_cases hp : p.size ≤ 1048576
    · have h1 : ¬ ((1048576 : Int) < (s.size : Int)) := by omega
      have h2 : ¬ ((1048576 : Int) < (p.size : Int)) := by omega
      have HL := hide hl
      obtain ⟨c, hc16, hcs, hn9⟩ := findAllM_ok s p
      obtain ⟨r, hr⟩ : ∃ r, findAllM s p = r := ⟨_, rfl⟩
      have HFs := hide (fun W => sfindall_any s p W hs hp)
      have HFp := hide (fun W hW h0 => findall_any s p W hs hp hW h0)
      rw [hr] at HFs HFp hcs hn9
      obtain ⟨Fs, cd⟩ := r
      dsimp only at hcs hn9
      have HCS := hide hcs
      obtain ⟨N, hN⟩ : ∃ N, Fs.length = N := ⟨_, rfl⟩
      obtain ⟨M, hM⟩ : ∃ M, 1 + N * (2 + c * 3) = M := ⟨_, rfl⟩
      have HN := hide hN
      have HM := hide hM
      have hk : ¬ ((M : Int) < 0) := by omega
      rw [hN] at hn9
      clear hr hl hcs hN hM
      go_enter Tryd.func4, Tryd.ntmps4
      go_wp2_with fail
      refine (HFs.out w).mono ?_
      rintro e w1 ⟨hb1, v1, us1, rfl, hu1, ho1⟩
      replace hu1 : us1.map Prod.fst = Fs := hu1
      have hL1 : us1.length = N := by rw [← HN.out, ← hu1]; simp
      obtain ⟨a1, k1, rfl⟩ := owns_val ho1.l
      have hA1 := ho1.fsa hu1 HCS.out
      rw [HN.out] at hA1
      rw [hL1] at hA1 ⊢
      have H1 := hide (And.intro hA1 (And.intro hb1 (HL.out.low hb1 h0)))
      have hw1 : w.heap.size ≤ w1.heap.size := hb1.size
      clear hb1 ho1 hu1 hL1 hA1 HFs
      go_wp2_with fail
      refine (HFp.out w1 H1.out.2.2 (by omega)).mono ?_
      rintro e w2 ⟨hb2, v2, us2, rfl, hu2, ho2⟩
      replace hu2 : us2.map Prod.fst = Fs := hu2
      have hL2 : us2.length = N := by rw [← HN.out, ← hu2]; simp
      have hA2 := ho2.fsa hu2 HCS.out
      have hc2 : ∀ u ∈ us2, u.1.caps.length = c := fun u hu => HCS.out _ (by have h9 := List.mem_map_of_mem (f := Prod.fst) hu; rw [hu2] at h9; exact h9)
      obtain ⟨a2, k2, hv2⟩ := owns_val ho2.l
      subst hv2
      rw [hL2] at hA2 ho2 ⊢
      rw [HN.out] at hA2
      have H2 := hide (And.intro hA2 (And.intro ho2 (And.intro hb2 hc2)))
      have HL2 := hide hL2
      clear hb2 ho2 hu2 hA2 hc2 hL2
      go_wp2_with fail
      refine (eqFoundS_any (.slice a2 N k2) (.slice a1 N k1) N c _ _ (cvU us2) (cvU us1) _ _ _ w2 (by omega) (by omega) H2.out.1 (H1.out.1.low H2.out.2.2.1)).mono ?_
      rintro e w3 ⟨rfl, hb3⟩
      have H3 := hide (And.intro (H2.out.2.1.keep (Keeps.of hb3 (Nat.le_refl _) (fun _ => False)) (fun _ x => x.elim)) (And.intro (H2.out.2.2.1.trans (hb3.mono H2.out.2.2.1.size)) H2.out.2.2.2))
      have hmk := markFoundS_v (w := w3) (by rw [HL2.out]; exact hn9) hc16 H3.out.1 H3.out.2.2
      rw [HL2.out, HM.out] at hmk
      have HMK := hide hmk
      clear hb3 hmk H2
      go_wp2_with fail
      refine HMK.out.mono ?_
      rintro e w4 ⟨rfl, hm4, hk4⟩
      have H4 := hide (And.intro hm4 (H3.out.2.1.trans (hk4.below H3.out.2.1.size (fun b e => e))))
      have hhd := heldFoundS_v hn9 hc16 hm4
      rw [HM.out] at hhd
      have HHD := hide hhd
      clear hm4 hk4 hhd H3 HMK
      go_wp2_with fail
      refine HHD.out.mono ?_
      rintro e w5 ⟨rfl, hb5⟩
      have H5 := hide (And.intro (H4.out.1.low hb5) (H4.out.2.trans (hb5.mono H4.out.2.size)))
      have hw5 : w1.heap.size ≤ w5.heap.size := H5.out.2.size
      clear hb5 H4 HHD
      go_wp2_with fail
      refine (HFp.out w5 (H1.out.2.2.low H5.out.2 (by omega)) (by omega)).mono ?_
      rintro e w6 ⟨hb6, v3, us3, rfl, hu3, ho3⟩
      replace hu3 : us3.map Prod.fst = Fs := hu3
      have hL3 : us3.length = N := by rw [← HN.out, ← hu3]; simp
      have hA3 := ho3.fsa hu3 HCS.out
      obtain ⟨a3, k3, hv3⟩ := owns_val ho3.l
      subst hv3
      rw [hL3] at hA3 ⊢
      rw [HN.out] at hA3
      have H6 := hide (And.intro hA3 (And.intro (H5.out.1.low hb6) (H5.out.2.trans (hb6.mono hw5))))
      clear hb6 ho3 hu3 hA3 hL3 H5 HFp
      go_wp2_with fail
      refine (eqFoundS_any (.slice a3 N k3) (.slice a1 N k1) N c _ _ (cvU us3) (cvU us1) _ _ _ w6 (by omega) (by omega) H6.out.1 (H1.out.1.low H6.out.2.2)).mono ?_
      rintro e w7 ⟨rfl, hb7⟩
      have H7 := hide (And.intro (H6.out.2.1.low hb7) (H6.out.2.2.trans (hb7.mono H6.out.2.2.size)))
      have hhd := heldFoundS_v hn9 hc16 H7.out.1
      rw [HM.out] at hhd
      have HHD := hide hhd
      clear hb7 hhd H6
      go_wp2_with fail
      refine HHD.out.mono ?_
      rintro e w8 ⟨rfl, hb8⟩
      have H8 := hide (H1.out.2.1.trans ((H7.out.2.trans (hb8.mono H7.out.2.size)).mono hw1))
      clear hb8 H7 HHD
      go_wp2_with fail
      go_ret
      exact ⟨rfl, H8.out⟩
    · have h1 : ¬ ((1048576 : Int) < (s.size : Int)) := by omega
      have h2 : ((1048576 : Int) < (p.size : Int)) := by omega
      go_enter Tryd.func4, Tryd.ntmps4
      go_wp2_with fail
      go_ret
      exact ⟨rfl, Below.refl _ _⟩
  · have h1 : ((1048576 : Int) < (s.size : Int)) := by omega
    go_enter Tryd.func4, Tryd.ntmps4
    go_wp2_with fail
    go_ret
    exact ⟨rfl, Below.refl _ _⟩

end Go.Proofs.YtemciphihnpniaaDoor
