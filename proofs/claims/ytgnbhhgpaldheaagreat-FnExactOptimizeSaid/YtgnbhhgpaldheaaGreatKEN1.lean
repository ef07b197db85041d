import Derived.Test.YtgnbhhgpaldheaaGreatKEK
import Derived.Test.YtgnbhhgpaldheaaGreatKEL0
import Derived.StillTailTactics
namespace Go.Proofs.YtgnbhhgpaldheaaGreat
open Go Go.RowKit
set_option linter.unusedVariables false
theorem thr_snoc (c : Cf) (l : List Nat) (p : Nat) : c.thr (l ++ [p]) = (c.thr l).thr1 p := by
  unfold Cf.thr
  rw [List.foldl_append]
  rfl
structure AmI (c : Cf) (tc : Nat → Bool) (cm : Nat → List Nat) (l : List Nat) (c' : Cf) (tc' : Nat → Bool) (cm' : Nat → List Nat) (tn : Bool) : Prop where
  ec : c' = c.thr l
  fm : ∀ t q, q ∈ cm' t ↔ q ∈ cm t ∨ (q ∈ l ∧ c.lf q = true ∧ c'.b q = t)
  ft : ∀ q, tc' q = true ↔ tc q = true ∨ (q ∈ l ∧ c.lf q = true)
  fn : tn = true ↔ ∃ q, q ∈ l ∧ c.lf q = true ∧ c'.b q ≠ c.b q
  fl : ∀ t, (cm' t).length ≤ (cm t).length + l.length
theorem AmI.start (c : Cf) (tc : Nat → Bool) (cm : Nat → List Nat) : AmI c tc cm [] c tc cm false :=
  ⟨rfl, fun t q => by simp, fun q => by simp, by simp, fun t => by simp⟩
theorem AmI.gone {c : Cf} {tc : Nat → Bool} {cm : Nat → List Nat} {l : List Nat} {c' : Cf} {tc' : Nat → Bool} {cm' : Nat → List Nat} {tn : Bool} (x : AmI c tc cm l c' tc' cm' tn) {p : Nat} (hg : c.lf p = false) : AmI c tc cm (l ++ [p]) c' tc' cm' tn := by
  have hlf : c'.lf = c.lf := by rw [x.ec]; exact (Sb.thr l c).lf
  have no : ∀ q, q ∈ l ++ [p] ∧ c.lf q = true ↔ q ∈ l ∧ c.lf q = true := fun q => by
    constructor
    · rintro ⟨h1, h2⟩
      rcases List.mem_append.1 h1 with e | e
      · exact ⟨e, h2⟩
      · rw [List.mem_singleton.1 e, hg] at h2; cases h2
    · rintro ⟨h1, h2⟩; exact ⟨List.mem_append_left _ h1, h2⟩
  refine ⟨?_, fun t q => ?_, fun q => ?_, ?_, fun t => ?_⟩
  · rw [thr_snoc, ← x.ec]
    unfold Cf.thr1
    rw [if_neg (by unfold Cf.jl; rw [hlf, hg]; simp)]
  · rw [x.fm t q, ← and_assoc, ← and_assoc, no]
  · rw [x.ft q, no]
  · rw [x.fn]
    constructor
    · rintro ⟨q, h1, h2, h3⟩; exact ⟨q, List.mem_append_left _ h1, h2, h3⟩
    · rintro ⟨q, h1, h2, h3⟩; obtain ⟨h4, h5⟩ := (no q).1 ⟨h1, h2⟩; exact ⟨q, h4, h5, h3⟩
  · have := x.fl t; rw [List.length_append]; omega
def cmA (cm : Nat → List Nat) (z p : Nat) : Nat → List Nat := fun t => if t = z then cm t ++ [p] else cm t
theorem AmI.aim {c : Cf} {tc : Nat → Bool} {cm : Nat → List Nat} {l : List Nat} {c' : Cf} {tc' : Nat → Bool} {cm' : Nat → List Nat} {tn : Bool} (x : AmI c tc cm l c' tc' cm' tn) {p : Nat} (hl : c.lf p = true) (hj : jmp (c.op p) = true) (hp : p ∉ l) :
    AmI c tc cm (l ++ [p]) (c'.aim p) (fun q => tc' q || decide (q = p)) (cmA cm' (c'.last p) p) (tn || decide (c'.last p ≠ c'.b p)) := by
  have sb := Sb.thr l c
  have hlf : c'.lf = c.lf := by rw [x.ec]; exact sb.lf
  have hop : c'.op = c.op := by rw [x.ec]; exact sb.op
  have hbp : c'.b p = c.b p := by rw [x.ec]; exact thr_b l c p hp
  have bq : ∀ q, (c'.aim p).b q = if q = p then c'.last p else c'.b q := fun q => rfl
  refine ⟨?_, fun t q => ?_, fun q => ?_, ?_, fun t => ?_⟩
  · rw [thr_snoc, ← x.ec]
    unfold Cf.thr1
    rw [if_pos (by unfold Cf.jl; rw [hlf, hop, hl, hj]; rfl)]
  · rw [bq]
    unfold cmA
    constructor
    · intro h
      have h' : q ∈ cm' t ∨ (t = c'.last p ∧ q = p) := by
        split at h
        · rcases List.mem_append.1 h with e | e
          · exact .inl e
          · rename_i z; exact .inr ⟨z, List.mem_singleton.1 e⟩
        · exact .inl h
      rcases h' with e | ⟨e1, e2⟩
      · rcases (x.fm t q).1 e with k | ⟨k1, k2, k3⟩
        · exact .inl k
        · exact .inr ⟨List.mem_append_left _ k1, k2, by rw [if_neg (fun z => hp (by rw [← z]; exact k1))]; exact k3⟩
      · exact .inr ⟨by rw [e2]; simp, by rw [e2]; exact hl, by rw [if_pos e2, e1]⟩
    · intro h
      have h' : q ∈ cm' t ∨ (t = c'.last p ∧ q = p) := by
        rcases h with k | ⟨k1, k2, k3⟩
        · exact .inl ((x.fm t q).2 (.inl k))
        · by_cases e : q = p
          · rw [if_pos e] at k3; exact .inr ⟨k3.symm, e⟩
          · rw [if_neg e] at k3
            rcases List.mem_append.1 k1 with z | z
            · exact .inl ((x.fm t q).2 (.inr ⟨z, k2, k3⟩))
            · exact (e (List.mem_singleton.1 z)).elim
      rcases h' with e | ⟨e1, e2⟩
      · split
        · exact List.mem_append_left _ e
        · exact e
      · rw [if_pos e1, e2]; simp
  · rw [Bool.or_eq_true, decide_eq_true_eq, x.ft q]
    constructor
    · rintro ((h | ⟨h1, h2⟩) | h)
      · exact .inl h
      · exact .inr ⟨List.mem_append_left _ h1, h2⟩
      · exact .inr ⟨by rw [h]; simp, by rw [h]; exact hl⟩
    · rintro (h | ⟨h1, h2⟩)
      · exact .inl (.inl h)
      · rcases List.mem_append.1 h1 with z | z
        · exact .inl (.inr ⟨z, h2⟩)
        · exact .inr (List.mem_singleton.1 z)
  · rw [Bool.or_eq_true, decide_eq_true_eq, x.fn]
    constructor
    · rintro (⟨q, h1, h2, h3⟩ | h)
      · exact ⟨q, List.mem_append_left _ h1, h2, by rw [bq, if_neg (fun z => hp (by rw [← z]; exact h1))]; exact h3⟩
      · exact ⟨p, by simp, hl, by rw [bq, if_pos rfl, ← hbp]; exact h⟩
    · rintro ⟨q, h1, h2, h3⟩
      by_cases e : q = p
      · right; rw [bq, if_pos e, e, ← hbp] at h3; exact h3
      · left
        rw [bq, if_neg e] at h3
        rcases List.mem_append.1 h1 with z | z
        · exact ⟨q, z, h2, h3⟩
        · exact (e (List.mem_singleton.1 z)).elim
  · have := x.fl t
    unfold cmA
    rw [List.length_append, List.length_singleton]
    split
    · rw [List.length_append, List.length_singleton]; omega
    · omega
theorem LkR.aim {k : Lks} {n : Nat} {c : Cf} {i2 : Nat → Int} (h : LkR k n c i2) {p : Nat} (hj : jmp (c.op p) = true) : LkR { k with b := upI k.b p (c.last p : Int) } n (c.aim p) i2 := by
  refine ⟨h.en, h.eo, h.ea, fun q hq => ?_, fun q hq => ?_, fun q hq => ?_, h.egn⟩
  · show upI k.b p (c.last p : Int) q = goals c.op i2 (c.aim p) q
    unfold upI goals
    show _ = if jmp (c.op q) = true then ((if q = p then c.last p else c.b q : Nat) : Int) else i2 q
    by_cases e : q = p
    · rw [if_pos e, if_pos e, e, if_pos hj]
    · rw [if_neg e, if_neg e, h.eb q hq]; rfl
  · rw [show (c.aim p).nx q = c.nx q from aim_nf c p (q + 1)]; exact h.ebh q hq
  · rw [show pvI (c.aim p) q = pvI c q from by unfold pvI; rw [pv_same (c := c) (d := c.aim p) (fun _ _ => rfl)]]; exact h.eah q hq
theorem LkR.aimS {k : Lks} {n : Nat} {c : Cf} {i2 : Nat → Int} (h : LkR k n c i2) {p : Nat} (hj : jmp (c.op p) = true) (hs : c.last p = c.b p) : LkR k n (c.aim p) i2 := by
  refine ⟨h.en, h.eo, h.ea, fun q hq => ?_, (h.aim hj).ebh, (h.aim hj).eah, h.egn⟩
  rw [h.eb q hq]
  show goals c.op i2 c q = goals c.op i2 (c.aim p) q
  unfold goals
  show _ = if jmp (c.op q) = true then ((if q = p then c.last p else c.b q : Nat) : Int) else i2 q
  by_cases e : q = p
  · rw [if_pos e, hs, e]
  · rw [if_neg e]
theorem AmI.all {c : Cf} {ls tc : Nat → Bool} {cm : Nat → List Nat} {un : Bool} {c' : Cf} {tc' : Nat → Bool} {cm' : Nat → List Nat} {tn : Bool} (x : AmI c tc cm (Go.Proofs.YtgnbhhgpaldheaaGreat.ls c.n ls).reverse c' tc' cm' tn) (hp : Ps c ls tc cm un) (hl : ∀ p, ls p = true → jmp (c.op p) = true) :
    c' = c.all ∧ Pm c.all tc' cm' (un || tn) ∧ (tn = true ↔ c.Tn) := by
  have ec : c' = c.all := by rw [x.ec, hp.all]; rfl
  have hmem : ∀ q, (q ∈ (Go.Proofs.YtgnbhhgpaldheaaGreat.ls c.n ls).reverse ∧ c.lf q = true) ↔ c.L q ∧ ls q = true := fun q => by
    rw [List.mem_reverse, ls_mem]
    exact ⟨fun ⟨⟨a, b⟩, d⟩ => ⟨⟨a, d⟩, b⟩, fun ⟨a, b⟩ => ⟨⟨a.1, b⟩, a.2⟩⟩
  have hnot : ∀ q, q < c.n → ls q = false → c.all.b q = c.b q := fun q hq h => by
    rw [hp.all]
    refine thr_b _ c q (fun k => ?_)
    unfold lsD at k
    rw [List.mem_reverse, List.mem_filter] at k
    rw [h] at k; cases k.2
  have hTn : tn = true ↔ c.Tn := by
    rw [x.fn]
    constructor
    · rintro ⟨q, h1, h2, h3⟩
      obtain ⟨h4, h5⟩ := (hmem q).1 ⟨h1, h2⟩
      exact ⟨q, h4, hl q h5, by rw [← ec]; exact h3⟩
    · rintro ⟨q, h1, h2, h3⟩
      have h5 : ls q = true := by
        cases e : ls q with
        | true => rfl
        | false => exact (h3 (hnot q h1.1 e)).elim
      obtain ⟨h6, h7⟩ := (hmem q).2 ⟨h1, h5⟩
      exact ⟨q, h6, h7, by rw [ec]; exact h3⟩
  refine ⟨ec, ?_, hTn⟩
  refine hp.aimed hl (fun t q => ?_) (fun q => ?_) (fun e => ?_)
  · rw [x.fm t q, ← and_assoc, hmem q, ec, and_assoc]
  · rw [x.ft q, hmem q]
  · rw [Bool.or_eq_false_iff] at e
    refine ⟨e.1, fun q hq hj => Classical.byContradiction fun h => ?_⟩
    rw [hTn.2 ⟨q, hq, hj, h⟩] at e
    cases e.2
end Go.Proofs.YtgnbhhgpaldheaaGreat
namespace Go.Proofs.YtgnbhhgpaldheaaGreat
open Go Go.RowKit Go.Shelf
set_option linter.unusedVariables false
theorem ShA.comer {base n G S lm tm : Nat} {i2 i3 l0 : Nat → Int} {c : Cf} {ls tc tc' : Nat → Bool} {cm : Nat → List Nat} {un : Bool} {k : Lks} {w w5 w7 : World} (h : ShA base n G S lm tm i2 i3 l0 c ls tc cm un k w) {A p L cc c5 : Nat} {ac a5 : Option Addr} (hA : A < n) (hv : k.cv A = .slice ac L cc) (hL : (cm A).length = L)
    (h5 : w5.ownsRow base 3 1 (.slice a5 (L + 1) c5) (L + 1) (natC (cm A) ++ [.int .i64 (p : Int)])) (hk5 : Keeps w.drew w5 (fun b => (Value.slice ac L cc).ownBlock = some b)) (hw5 : ∀ g, (Value.slice a5 (L + 1) c5).ownBlock = some g → (Value.slice ac L cc).ownBlock = some g ∨ w.drew.heap.size ≤ g)
    (hpj : p < n ∧ jmp (c.op p) = true) (hk7 : Keeps (w5.setCell ⟨G, A * 10 + 7, none⟩ (.slice a5 (L + 1) c5)) w7 (fun b => b = tm)) (hs7 : SetM w7 tm n tc') :
    ShA base n G S lm tm i2 i3 l0 c ls tc' (cmA cm A p) un { k with cv := upV k.cv A (.slice a5 (L + 1) c5) } w7 := by
  have hvO : ∀ b, (Value.slice ac L cc).ownBlock = some b → ¬ OuS G S lm tm b := fun b e => by rw [← hv] at e; exact h.off (h.co A hA) e
  have k5 : Keeps w w5 (fun b => (Value.slice ac L cc).ownBlock = some b) := ⟨hk5.os, hk5.tape, hk5.output, hk5.size, hk5.block⟩
  have kG := k_set w5 G (A * 10 + 7) (.slice a5 (L + 1) c5)
  have nG : ¬ (Value.slice ac L cc).ownBlock = some G := fun e => hvO G e (.inl rfl)
  have nS : ¬ (Value.slice ac L cc).ownBlock = some S := fun e => hvO S e (.inr (.inl rfl))
  have nl : ¬ (Value.slice ac L cc).ownBlock = some lm := fun e => hvO lm e (.inr (.inr (.inr rfl)))
  have tG : G ≠ tm := fun e => h.mt.row h.lk e.symm
  have tS : S ≠ tm := fun e => h.mt.row h.sh e.symm
  have lk5 : LkA w5 G n k := RowF.keep h.lk k5 nG
  have new_ge : ∀ g, (Value.slice a5 (L + 1) c5).ownBlock = some g → ¬ OuS G S lm tm g := fun g e => by
    have hr := owns_rowF h5 e
    have sh5 := RowF.keep h.sh k5 nS
    rintro (q | q | q | q)
    · exact hr.apart lk5 (by decide) q
    · exact hr.apart sh5 (by decide) q
    · rcases hw5 g e with z | z
      · exact hvO g z (.inr (.inr (.inl q)))
      · have := h.mt.lt
        have z' : w.heap.size ≤ g := z
        omega
    · rcases hw5 g e with z | z
      · exact hvO g z (.inr (.inr (.inr q)))
      · have := h.ml.lt
        have z' : w.heap.size ≤ g := z
        omega
  refine ⟨RowF.keep (lk5.setcv hA _) hk7 tG, ⟨h.kr.en, h.kr.eo, h.kr.ea, h.kr.eb, h.kr.ebh, h.kr.eah, h.kr.egn⟩, RowF.keep (RowF.keep (RowF.keep h.sh k5 nS) kG (h.sh.apartL h.lk)) hk7 tS, ((h.ml.keep k5 nl).keep kG (h.ml.row h.lk)).keep hk7 h.ne, hs7, h.kx, h.kl, h.kd, fun t ht => ?_, fun t t' g ht ht' hne e1 e2 => ?_, h.ne, h.ge, fun t ht q hq => ?_⟩
  · show w7.ownsRow base 3 1 (upV k.cv A (.slice a5 (L + 1) c5) t) (cmA cm A p t).length (natC (cmA cm A p t))
    unfold upV cmA
    by_cases e : t = A
    · rw [if_pos e, if_pos e, e]
      have h6 : w5.ownsRow base 3 1 (.slice a5 (L + 1) c5) (cm A ++ [p]).length (natC (cm A ++ [p])) := by
        rw [List.length_append, List.length_singleton, hL]
        simpa [natC] using h5
      exact owns_past (owns_past h6 kG (fun g e q => new_ge g e (.inl q))) hk7 (fun g e q => new_ge g e (.inr (.inr (.inl q))))
    · rw [if_neg e, if_neg e]
      exact owns_past (owns_past (owns_past (h.co t ht) k5 (fun g e1 e2 => h.ap t A g ht hA e e1 (by rw [hv]; exact e2))) kG (fun g e1 q => h.off (h.co t ht) e1 (.inl q))) hk7 (fun g e1 q => h.off (h.co t ht) e1 (.inr (.inr (.inl q))))
  · have e1' : upV k.cv A (.slice a5 (L + 1) c5) t = upV k.cv A (.slice a5 (L + 1) c5) t := rfl
    have f1 : (upV k.cv A (.slice a5 (L + 1) c5) t).ownBlock = some g := e1
    have f2 : (upV k.cv A (.slice a5 (L + 1) c5) t').ownBlock = some g := e2
    unfold upV at f1 f2
    by_cases a1 : t = A
    · rw [if_pos a1] at f1
      rw [if_neg (fun z => hne (a1.trans z.symm))] at f2
      rcases hw5 g f1 with z | z
      · rw [← hv] at z; exact h.ap A t' g hA ht' (fun q => hne (a1.trans q)) z f2
      · have := (owns_blk (h.co t' ht') f2).2
        have z' : w.heap.size ≤ g := z
        omega
    · rw [if_neg a1] at f1
      by_cases a2 : t' = A
      · rw [if_pos a2] at f2
        rcases hw5 g f2 with z | z
        · rw [← hv] at z; exact h.ap A t g hA ht (fun q => a1 q.symm) z f1
        · have := (owns_blk (h.co t ht) f1).2
          have z' : w.heap.size ≤ g := z
          omega
      · rw [if_neg a2] at f2
        exact h.ap t t' g ht ht' hne f1 f2
  · unfold cmA at hq
    by_cases e : t = A
    · rw [if_pos e] at hq
      rcases List.mem_append.1 hq with z | z
      · exact h.cj t ht q z
      · rw [List.mem_singleton.1 z]; exact hpj
    · rw [if_neg e] at hq
      exact h.cj t ht q hq
theorem ShA.own {base n G S lm tm B : Nat} {i2 i3 l0 : Nat → Int} {c : Cf} {ls tc : Nat → Bool} {cm : Nat → List Nat} {un : Bool} {k : Lks} {W W' : World} {row : Option Nat} (hl : lm < B) (ht : tm < B) (h : ShA base n G S lm tm i2 i3 l0 c ls tc cm un k W) (hg : W.grownBy W' row) (hr : ∀ r, row = some r → B ≤ r ∧ ∃ o : Obj, W.heap[r]? = some o ∧ o.isCells = false) : ShA base n G S lm tm i2 i3 l0 c ls tc cm un k W' := by
  refine h.keep (T := fun b => row = some b) ⟨hg.os, hg.tape, hg.output, hg.size, fun b hb hn => hg.block b hb (fun e => hn e.symm)⟩ (fun b hb e => ?_) (fun t g ht2 e1 e => ?_)
  · obtain ⟨q1, o, q2, q3⟩ := hr b e
    rcases hb with rfl | rfl | rfl | rfl
    · exact row_not h.lk q2 q3 rfl
    · exact row_not h.sh q2 q3 rfl
    · omega
    · omega
  · obtain ⟨q1, o, q2, q3⟩ := hr g e
    exact row_not (owns_rowF (h.co t ht2) e1) q2 q3 rfl
theorem ShA.aim {base n G S lm tm : Nat} {i2 i3 l0 : Nat → Int} {c : Cf} {ls tc : Nat → Bool} {cm : Nat → List Nat} {un : Bool} {k : Lks} {w : World} (h : ShA base n G S lm tm i2 i3 l0 c ls tc cm un k w) {p : Nat} (hp : p < n) (hj : jmp (c.op p) = true) :
    ShA base n G S lm tm i2 i3 l0 (c.aim p) ls tc cm un { k with b := upI k.b p (c.last p : Int) } (w.setCell ⟨G, p * 10 + 2, none⟩ (.int .i64 (c.last p : Int))) :=
  ⟨h.lk.setb hp _, h.kr.aim hj, by rw [aim_nf]; exact RowF.keep h.sh (k_set w G _ _) (h.sh.apartL h.lk), h.ml.keep (k_set w G _ _) (h.ml.row h.lk), h.mt.keep (k_set w G _ _) (h.mt.row h.lk), h.kx, h.kl, h.kd, fun t ht => owns_past (h.co t ht) (k_set w G _ _) (fun g e q => h.off (h.co t ht) e (.inl q)), h.ap, h.ne, h.ge, h.cj⟩
theorem ShA.aimS {base n G S lm tm : Nat} {i2 i3 l0 : Nat → Int} {c : Cf} {ls tc : Nat → Bool} {cm : Nat → List Nat} {un : Bool} {k : Lks} {w : World} (h : ShA base n G S lm tm i2 i3 l0 c ls tc cm un k w) {p : Nat} (hj : jmp (c.op p) = true) (hs : c.last p = c.b p) :
    ShA base n G S lm tm i2 i3 l0 (c.aim p) ls tc cm un k w :=
  ⟨h.lk, h.kr.aimS hj hs, by rw [aim_nf]; exact h.sh, h.ml, h.mt, h.kx, h.kl, h.kd, h.co, h.ap, h.ne, h.ge, h.cj⟩
theorem keeps_from2 {W W' : World} {T : Nat → Prop} {B : Nat} (h : Keeps W W' T) (hT : ∀ b o, B ≤ b → W.heap[b]? = some o → o.isCells = false → ¬ T b) : KeepsFrom B W W' :=
  ⟨h.size, fun k o hB hk hc => (h.block k (Array.getElem?_eq_some_iff.1 hk).1 (hT k o hB hk hc)).trans hk⟩
def KeepT (G S lm tm : Nat) (w w' : World) : Prop := ∀ (b : Nat) (cur : Array Value) (T : TypeId) (fr : Nat × Nat), w.heap[b]? = some (.cells cur T fr) → T ≠ 3 → ¬ OuS G S lm tm b → w'.heap[b]? = some (.cells cur T fr)
theorem KeepT.refl (G S lm tm : Nat) (w : World) : KeepT G S lm tm w w := fun _ _ _ _ h _ _ => h
theorem KeepT.trans {G S lm tm : Nat} {w w' w'' : World} (h : KeepT G S lm tm w w') (k : KeepT G S lm tm w' w'') : KeepT G S lm tm w w'' := fun b cur T fr h1 h2 h3 => k b cur T fr (h b cur T fr h1 h2 h3) h2 h3
theorem KeepT.of {G S lm tm : Nat} {w w' : World} (h : Keeps w w' (OuS G S lm tm)) : KeepT G S lm tm w w' := fun b cur T fr h1 _ h3 => (h.block b (Array.getElem?_eq_some_iff.1 h1).1 h3).trans h1
theorem KeepT.of' {G S lm tm : Nat} {w W W' : World} {Q : Nat → Prop} (h : KeepT G S lm tm w W) (k : Keeps W W' Q) (hQ : ∀ b, Q b → OuS G S lm tm b ∨ w.heap.size ≤ b ∨ ∃ N f, RowF W 3 b N f) : KeepT G S lm tm w W' := fun b cur T fr h1 h2 h3 => by
  have h4 := h b cur T fr h1 h2 h3
  refine (k.block b (Array.getElem?_eq_some_iff.1 h4).1 (fun e => ?_)).trans h4
  rcases hQ b e with q | q | ⟨N, f, cu, q, _⟩
  · exact h3 q
  · have := (Array.getElem?_eq_some_iff.1 h1).1; omega
  · rw [h4] at q; cases q; exact h2 rfl
theorem KeepT.own {β : Type} {G S lm tm : Nat} {w : World} {B : Nat} : OwnFrom B (fun (_ : β) W => KeepT G S lm tm w W) := by
  intro x W W' row h hg hr b cur T fr h1 h2 h3
  have h4 := h b cur T fr h1 h2 h3
  refine (hg.block b (Array.getElem?_eq_some_iff.1 h4).1 (fun e => ?_)).trans h4
  obtain ⟨_, o, q2, q3⟩ := hr b e.symm
  rw [h4] at q2; cases q2; cases q3
attribute [local go_sem] Oper.semAt_some
def AimR (base n G S lm tm : Nat) (i2 i3 l0 : Nat → Int) (c : Cf) (cm : Nat → List Nat) (un : Bool) (w : World) (e : Ending) (w' : World) : Prop :=
  ∃ (tn : Bool) (tc' : Nat → Bool) (cm' : Nat → List Nat) (k' : Lks), e = .returned (.bool tn) ∧ ShA base n G S lm tm i2 i3 l0 c.all (fun _ => false) tc' cm' (un || tn) k' w' ∧ Pm c.all tc' cm' (un || tn) ∧ (tn = true ↔ c.Tn) ∧ (∀ t, (cm' t).length ≤ (cm t).length + n) ∧ Below base w w' ∧ KeepT G S lm tm w w'
set_option maxRecDepth 100000 in
set_option maxHeartbeats 6400000 in
theorem aimAnew_in {base n G S lm tm cap : Nat} {i2 i3 l0 : Nat → Int} {c : Cf} {ls tc : Nat → Bool} {cm : Nat → List Nat} {un : Bool} {k : Lks} {w : World} (hn : n ≤ 1048576) (h : ShA base n G S lm tm i2 i3 l0 c ls tc cm un k w) (hps : Ps c ls tc cm un) (hlj : ∀ p, ls p = true → jmp (c.op p) = true) (hcl : ∀ t, t < n → (cm t).length ≤ 90000000000) (hbase : base ≤ w.heap.size) :
    CallsIn Fence.wide 4 Tryz.prog 43 #[.pointer (some ⟨S, 0, none⟩), .slice (some ⟨G, 0, none⟩) n cap] w fun e w' => AimR base n G S lm tm i2 i3 l0 c cm un w e w' := by
  have HH := hide h
  have HPs := hide hps
  have HLj := hide hlj
  have HCl := hide hcl
  have HEn := hide h.kr.en
  have HGlt := hide (show G < w.heap.size ∧ S < w.heap.size ∧ lm < w.heap.size ∧ tm < w.heap.size from ⟨h.lk.lt, RowF.lt h.sh, h.ml.lt, h.mt.lt⟩)
  have c1 := h.sh.c1
  clear h hps hlj hcl
  have hf1 : Fence.wide.fn 89 := trivial
  have hf2 : Fence.wide.fn 122 := trivial
  have hf3 : Fence.wide.fn 90 := trivial
  have hf4 : Fence.wide.fn 52 := trivial
  have hf5 : Fence.wide.fn 91 := trivial
  refine callsIn_of_wp_marks Tryz.func43 rfl trivial ?_ rfl
  simp only [Tryz.ntmps43, List.size_toArray, List.length_cons, List.length_nil, Nat.reduceAdd, Nat.reduceSub, Array.replicate_succ, Array.replicate_zero, List.push_toArray, List.append_toArray, List.nil_append, List.cons_append]
  gi_upto_region 2 with (fail)
  have hb3 := b_3 w (.cells #[.pointer (some ⟨S, 0, none⟩)] 90) (.cells #[.slice (some ⟨G, 0, none⟩) n cap] 88) (.cells #[.bool false] 4)
  have bS := ((Boxed.new w 90 (.pointer (some ⟨S, 0, none⟩))).alloc (.cells #[.slice (some ⟨G, 0, none⟩) n cap] 88)).alloc (.cells #[.bool false] 4)
  have bG := (Boxed.new (w.alloc (.cells #[.pointer (some ⟨S, 0, none⟩)] 90)) 88 (.slice (some ⟨G, 0, none⟩) n cap)).alloc (.cells #[.bool false] 4)
  have bT := Boxed.new ((w.alloc (.cells #[.pointer (some ⟨S, 0, none⟩)] 90)).alloc (.cells #[.slice (some ⟨G, 0, none⟩) n cap] 88)) 4 (.bool false)
  simp only [World.size_alloc] at bG bT
  have hsz : (((w.alloc (.cells #[.pointer (some ⟨S, 0, none⟩)] 90)).alloc (.cells #[.slice (some ⟨G, 0, none⟩) n cap] 88)).alloc (.cells #[.bool false] 4)).heap.size = w.heap.size + 3 := by simp
  have HH1 := hide (HH.out.belowK hb3)
  have HB1 := hide hb3
  have HbS1 := hide bS
  have HbG1 := hide bG
  have HbT1 := hide bT
  have HSz1 := hide hsz
  have bSc := bS.cell
  clear hb3 bS bG bT hsz c1
  generalize ((w.alloc (.cells #[.pointer (some ⟨S, 0, none⟩)] 90)).alloc (.cells #[.slice (some ⟨G, 0, none⟩) n cap] 88)).alloc (.cells #[.bool false] 4) = W1 at *
  have c1 := HH1.out.sh.c1
  gi_wp2_with (first
    | (gi_at_call 90
       refine (callsIn_wide.2 (psorted_any HH1.out.ml hn)).mono ?_
       rintro e W2 ⟨vs, rfl, hos, hb2⟩
       have HO2 := hide hos
       have HB2 := hide hb2
       clear hos hb2
       obtain ⟨xs, hxs⟩ : ∃ xs, Go.Proofs.YtgnbhhgpaldheaaGreat.ls n ls = xs := ⟨_, rfl⟩
       rw [hxs] at HO2
       have HXs := hide hxs
       obtain ⟨ao, co, rfl⟩ := owns_val HO2.out
       clear hxs)
    | (gi_at_call 89; refine (backI_in Fence.wide (4 - 1) trivial rfl _ _ _ _).mono ?_; rintro e w' ⟨rfl, rfl⟩)
    | gi_in)
  clear bSc c1
  have bO := Boxed.new W2 43 (.slice ao xs.length co)
  have hb0 := b_1 W2 (.cells #[.slice ao xs.length co] 43)
  have hsz0 : (W2.alloc (.cells #[.slice ao xs.length co] 43)).heap.size = W2.heap.size + 1 := by simp
  have hs12 := HB2.out.size
  have HXn := hide (show xs.length ≤ n from by rw [← HXs.out]; exact ls_le _ _)
  have HB0 : Hid (Below W1.heap.size W1 (W2.alloc (.cells #[.slice ao xs.length co] 43))) := hide (HB2.out.trans (hb0.mono hs12))
  have HO0 := hide (owns_past HO2.out (Keeps.of hb0 (Nat.le_refl _) (fun _ => False)) (fun _ _ x => x))
  obtain ⟨Bs, hBs⟩ : ∃ Bs, W2.heap.size = Bs := ⟨_, rfl⟩
  rw [hBs] at bO hsz0 hs12 ⊢
  have HbO := hide bO
  have HSz0 := hide hsz0
  clear bO hb0 hsz0
  generalize W2.alloc (.cells #[.slice ao xs.length co] 43) = W0 at *
  have HH0 := hide (HH1.out.belowK HB0.out)
  have HbS0 := hide (boxed_keep HbS1.out (Keeps.of HB0.out (Nat.le_refl _) (fun _ => False)) (fun x => x))
  have HbG0 := hide (boxed_keep HbG1.out (Keeps.of HB0.out (Nat.le_refl _) (fun _ => False)) (fun x => x))
  have HbT0 := hide (boxed_keep HbT1.out (Keeps.of HB0.out (Nat.le_refl _) (fun _ => False)) (fun x => x))
  have HLs := hide (show w.heap.size + 3 ≤ Bs ∧ W0.heap.size = Bs + 1 from ⟨by have := HSz1.out; omega, HSz0.out⟩)
  have HOb := hide (show ∀ b, (Value.slice ao xs.length co).ownBlock = some b → w.heap.size + 3 ≤ b ∧ b < Bs from fun b e => ⟨by have h1 := (owns_blk HO2.out e).1; have := HSz1.out; omega, by rw [← hBs]; exact (owns_blk HO2.out e).2⟩)
  have HK0 := hide (show Below base w W0 from (HB1.out.trans (HB0.out.mono HB1.out.size)).mono hbase)
  have HKT0 := hide (show KeepT G S lm tm w W0 from KeepT.of (Keeps.of (HB1.out.trans (HB0.out.mono HB1.out.size)) (Nat.le_refl _) _))
  clear hs12 hBs
  refine range_st rfl (by omega) (gf := 122) (bd := #[]) (lb := #[.pointer (some ⟨Bs, 0, none⟩)]) rfl hf2 (enters_of Tryz.func122 (by kernel_rfl) rfl)
    (encs := fun x : Nat × Nat => #[Value.int .i64 (x.1 : Int), .int .i64 (x.2 : Int)]) (Kp := Kb Bs (Value.slice ao xs.length co).ownBlock) (S := fun ys _ => ys = upTo (bkN xs) xs.length) (Sp := fun _ => True) (N := xs.length)
    (fun _ => rfl) (fun _ _ _ _ hs _ _ => hs) Kb.trans (fun W l o o' h1 h2 h3 => Kb.put' (by have := HLs.out.2; omega) (fun b e => by have := (HOb.out b e).2; have := HLs.out.2; omega) W l o' h1)
    (fun pre W => (∃ (c' : Cf) (tc' : Nat → Bool) (cm' : Nat → List Nat) (tn : Bool) (k' : Lks), ShA base n G S lm tm i2 i3 l0 c' ls tc' cm' un k' W ∧ AmI c tc cm (xs.reverse.take pre.length) c' tc' cm' tn ∧ Boxed W (w.heap.size + 1 + 1) 4 (.bool tn) ∧ ∀ t g, t < n → (k'.cv t).ownBlock = some g → some g ≠ (Value.slice ao xs.length co).ownBlock ∧ g ≠ Bs) ∧ (Below base W0 W ∧ KeepT G S lm tm w W) ∧ Boxed W w.heap.size 90 (.pointer (some ⟨S, 0, none⟩)) ∧ Boxed W (w.heap.size + 1) 88 (.slice (some ⟨G, 0, none⟩) n cap))
    (fun _ _ _ => False)
    (OwnFrom.and (fun pre W W' row hs hg hr => by
      obtain ⟨c', tc', cm', tn, k', h1, h2, h3, h4⟩ := hs
      exact ⟨c', tc', cm', tn, k', h1.own (by have := HGlt.out; have := HLs.out; omega) (by have := HGlt.out; have := HLs.out; omega) hg hr, h2, (Own.from (boxed_own _ 4 (fun (x : Bool) => Value.bool x)) W0.heap.size) tn W W' row h3 hg hr, h4⟩) (OwnFrom.and (OwnFrom.and (ownFrom_below (by have := HLs.out; omega) (by have := HLs.out; omega)) KeepT.own) (OwnFrom.and (Own.from (boxed_own _ _ _) _) (Own.from (boxed_own _ _ _) _))))
    (fun _ _ _ _ _ hs _ _ => hs)
    ⟨⟨c, tc, cm, false, k, HH0.out, by rw [List.length_nil, List.take_zero]; exact AmI.start c tc cm, HbT0.out, fun t g ht e => ⟨fun e2 => by have h1 := (owns_blk (HH.out.co t ht) e).2; have h2 := (HOb.out g e2.symm).1; omega, by have h1 := (owns_blk (HH.out.co t ht) e).2; have := HLs.out; omega⟩⟩, ⟨Below.refl _ _, HKT0.out⟩, HbS0.out, HbG0.out⟩
    (fun pre x _ => pre = upTo (bkN xs) pre.length ∧ x = bkN xs pre.length)
    (fun pre x a' _ => (pre = upTo (bkN xs) pre.length ∧ x = bkN xs pre.length) ∧ a' = { tmps := #[Value.pointer (some ⟨S, 0, none⟩), Value.slice (some ⟨G, 0, none⟩) n cap, Value.pointer (some ⟨w.heap.size, 0, none⟩), Value.pointer (some ⟨w.heap.size + 1, 0, none⟩), Value.bool false, Value.pointer (some ⟨w.heap.size + 1 + 1, 0, none⟩), undef, .int .i64 (x.2 : Int), undef, undef,
          Value.pointer (some ⟨S, 0, none⟩), Value.pointer (some ⟨S, 0, none⟩), Value.pointer (some ⟨S, 1, none⟩), Value.map (some lm), Value.slice ao xs.length co, Value.func (Fn.func 122) #[] #[Value.pointer (some ⟨Bs, 0, none⟩)], .int .i64 (x.1 : Int), .int .i64 (x.2 : Int), undef, undef, undef, undef, undef, undef, undef, undef, undef, undef, undef, undef, undef, undef, undef, undef, undef, undef, undef, undef, undef, undef, undef, undef, undef, undef, undef, undef, undef, undef, undef, undef, undef, undef, undef, undef, undef, undef, undef, undef, undef, undef, undef, undef, undef, undef, undef, undef, undef, undef, undef, undef, undef, undef, undef, undef, undef, undef], defers := [] })
    (fun _ _ _ _ _ _ _ hs _ _ => hs)
    ?seq ?assign ?body ?done ?stop
  case seq =>
    intro l J Jx W _ _ hY h0 hW
    exact backI_seq Fence.wide (4 - 1) hf2 rfl (by omega) Bs _ _ xs (by have := HXn.out; omega) W0 (by have := HLs.out.2; omega) HbO.out.cell HO0.out (fun _ _ => True) l J Jx W hY h0 hW
  case assign =>
    rintro l pre x W K hI hV hK
    have HV := hide hV
    have HI := hide hI
    clear hV hI
    gi_wp2
    exact hK _ _ (KeepsFrom.refl _ _) (Kb.rfl' _ _ _) HI.out ⟨HV.out, rfl⟩
  case body =>
    rintro l pre x a' W ⟨⟨c', tc', cm', tn, k', hSA, hAm, hbT, hNo⟩, ⟨hBW, hKT⟩, hbS, hbG⟩ ⟨hV, rfl⟩ hlt
    obtain ⟨i, p⟩ := x
    obtain ⟨hV1, hV2⟩ := hV
    have hp : p = xs.getD (xs.length - 1 - pre.length) 0 := congrArg Prod.snd hV2
    obtain ⟨R, hR⟩ : ∃ R, xs.reverse.take pre.length = R := ⟨_, rfl⟩
    have HN := hide (show xs.reverse.take (pre ++ [(i, p)]).length = R ++ [p] from by rw [List.length_append, List.length_singleton, rev_take xs hlt, hR, hp])
    have HpR := hide (show p ∉ R from by rw [← hR, hp]; exact rev_notin (by rw [← HXs.out]; exact ls_nd _ _) hlt)
    have hpx : p < n ∧ ls p = true := by
      have : p ∈ xs := by rw [hp]; exact getD_memN (by omega)
      rw [← HXs.out] at this
      exact ls_mem.1 this
    have HRl := hide (show R.length ≤ n ∧ ∀ q ∈ R, q < c.n from by
      rw [← hR]
      refine ⟨by rw [List.length_take]; have := HXn.out; simp; omega, fun q hq => ?_⟩
      have h1 := List.mem_reverse.1 (List.mem_of_mem_take hq)
      rw [← HXs.out] at h1
      rw [HEn.out]; exact (ls_mem.1 h1).1)
    rw [hR] at hAm
    have hpn := hpx.1
    have HJ := hide (HLj.out p hpx.2)
    have hsb := Sb.thr R c
    have HOp := hide (show c'.op = c.op from by rw [hAm.ec]; exact hsb.op)
    have hlf' : c'.lf = c.lf := by rw [hAm.ec]; exact hsb.lf
    have HOk := hide (show c'.Ok from by rw [hAm.ec]; exact (Cf.Ok.thr R c HPs.out.ok HRl.out.2).1)
    have r9 : W.cell? ⟨G, p * 10 + 9, none⟩ = some (.bool (!c.lf p)) := (hSA.lk.gn hpn).trans (by rw [hSA.kr.egn p hpn, hlf'])
    have bGc := hbG.cell
    have HSA := hide hSA
    have HAm := hide hAm
    have HbT := hide hbT
    have HNo := hide hNo
    have HBW := hide hBW
    have HKT := hide hKT
    have HbS := hide hbS
    have HbG := hide hbG
    have HLf' := hide hlf'
    clear hV1 hV2 hp hR hpx hsb hlf' hSA hAm hbT hNo hBW hKT hbS hbG
    cases hlf : c.lf p with
    | false =>
      rw [hlf] at r9
      have HLf := hide hlf
      clear hlf
      gi_wp2
      exact ⟨KeepsFrom.refl _ _, Kb.rfl' _ _ _, ⟨c', tc', cm', tn, k', HSA.out, by rw [HN.out]; exact HAm.out.gone HLf.out, HbT.out, HNo.out⟩, ⟨HBW.out, HKT.out⟩, HbS.out, HbG.out⟩
    | true =>
      rw [hlf] at r9
      have HLf := hide hlf
      have hpL : c'.L p := ⟨by rw [HSA.out.kr.en]; exact hpn, by rw [HLf'.out]; exact hlf⟩
      have hj' : jmp (c'.op p) = true := by rw [HOp.out]; exact HJ.out
      have HpL := hide hpL
      have HlastL := hide (HOk.out.last hpL hj').1
      have HbL := hide (HOk.out.j p hpL hj').1
      have r0 : W.cell? ⟨G, p * 10, none⟩ = some (.int .i64 (c'.op p)) := (HSA.out.lk.o hpn).trans (by rw [HSA.out.kr.eo])
      have r1 : W.cell? ⟨G, p * 10 + 1, none⟩ = some (.int .i64 (c'.a p)) := (HSA.out.lk.a hpn).trans (by rw [HSA.out.kr.ea])
      have r2 : W.cell? ⟨G, p * 10 + 2, none⟩ = some (.int .i64 (c'.b p : Int)) := (HSA.out.lk.b hpn).trans (by rw [HSA.out.kr.bj hpn hj'])
      have r3 := HSA.out.lk.x hpn
      have hla := lastAim_any G n cap k' c' i2 (c'.op p) (c'.a p) (k'.x p) (c'.b p) W.drew hn HSA.out.lk HSA.out.kr HOk.out HbL.out
      rw [show c'.fol (c'.op p) (c'.a p) (c'.n + 1) (c'.b p) = c'.last p from rfl] at hla
      have HLaC := hide hla
      have hAn0 : c'.last p < n := by have := HlastL.out.1; rw [HSA.out.kr.en] at this; exact this
      obtain ⟨A, hA⟩ : ∃ A, c'.last p = A := ⟨_, rfl⟩
      obtain ⟨B, hB⟩ : ∃ B, c'.b p = B := ⟨_, rfl⟩
      have hAn : A < n := by rw [← hA]; exact hAn0
      rw [hA] at HLaC
      rw [hB] at HLaC r2
      have HLa := hide hA
      have HBp := hide hB
      have HJ' := hide hj'
      clear hlf hpL hj' hla hAn0 hA hB
      gi_upto_region 6 with (fail)
      gi_wp2_with fail
      refine wpIn_tail l _ 5 mixedT (by kernel_rfl) (by kernel_rfl) (fun ops => ?_)
      simp only [List.take_succ_cons, List.take_zero, List.drop_succ_cons, List.drop_zero]
      iterate 5 (refine still_next rfl (fun K hK => ?_); go_simp; refine hK _ ?_; clear hK K)
      refine wpStill_nil ?_
      go_wp2_with (first
        | (go_at_call 91
           refine HLaC.out.mono ?_
           rintro e W2 ⟨rfl, hb2⟩)
        | fail)
      refine noOut_n ?_
      have hb2' : Below W.heap.size W W2 := ⟨hb2.os, hb2.tape, hb2.output, hb2.size, hb2.block⟩
      have HB2 := hide hb2'
      have HSA2 := hide (HSA.out.belowK hb2')
      have HbT2 := hide (boxed_keep HbT.out (Keeps.of hb2' (Nat.le_refl _) (fun _ => False)) (fun x => x))
      have HbS2 := hide (boxed_keep HbS.out (Keeps.of hb2' (Nat.le_refl _) (fun _ => False)) (fun x => x))
      have HbG2 := hide (boxed_keep HbG.out (Keeps.of hb2' (Nat.le_refl _) (fun _ => False)) (fun x => x))
      have hK2 : Keeps W W2 (fun b => b = G ∨ b = w.heap.size + 1 + 1) := Keeps.of hb2' (Nat.le_refl _) _
      obtain ⟨ac, cc, hcs⟩ := owns_val (HSA.out.co A hAn)
      obtain ⟨L, hL⟩ : ∃ L, (cm' A).length = L := ⟨_, rfl⟩
      have HOW0 := HSA.out.co A hAn
      rw [hL] at hcs
      rw [hcs, hL] at HOW0
      have HOW := hide HOW0
      have HCs := hide hcs
      have HL := hide hL
      have HLb := hide (show L ≤ 99000000000 from by rw [← hL]; have h1 := HAm.out.fl A; have h2 := HCl.out A hAn; have h3 := HRl.out.1; omega)
      have HVO := hide (show ∀ b, (Value.slice ac L cc).ownBlock = some b → ¬ OuS G S lm tm b from fun b e => HSA.out.off HOW.out e)
      have HVl := hide (show ∀ b, (Value.slice ac L cc).ownBlock = some b → b < W.heap.size ∧ (b < w.heap.size ∨ w.heap.size + 3 ≤ b) from fun b e => ⟨(owns_blk HOW.out e).2, by
        rcases Nat.lt_or_ge b w.heap.size with z | z
        · exact .inl z
        · rcases Nat.lt_or_ge b (w.heap.size + 3) with z2 | z2
          · exfalso
            obtain ⟨cur, h1, _⟩ := owns_rowF HOW.out e
            have : b = w.heap.size ∨ b = w.heap.size + 1 ∨ b = w.heap.size + 1 + 1 := by omega
            rcases this with q | q | q
            · rw [q, show W.heap[w.heap.size]? = _ from HbS.out] at h1; cases h1
            · rw [q, show W.heap[w.heap.size + 1]? = _ from HbG.out] at h1; cases h1
            · rw [q, show W.heap[w.heap.size + 1 + 1]? = _ from HbT.out] at h1; cases h1
          · exact .inr z2⟩)
      clear HOW0 hcs hL hb2 hb2' r0 r1 r2 r3 r9 bGc
      have r2 : W2.cell? ⟨G, p * 10 + 2, none⟩ = some (.int .i64 (B : Int)) := (HSA2.out.lk.b hpn).trans (by rw [HSA2.out.kr.bj hpn HJ'.out, HBp.out])
      by_cases hAB : A = B
      · have hne : ((A : Int) != (B : Int)) = false := by simp [hAB]
        have HS3 := hide (HSA2.out.aimS HJ'.out (by rw [HLa.out, HBp.out, hAB]))
        have HbT3 := HbT2
        have HbS3 := HbS2
        have HbG3 := HbG2
        have HK3 := hide hK2
        have HTn := hide (show tn = (tn || decide (A ≠ B)) from by simp [hAB])
        clear hK2 hAB HSA2 HbT2 HbS2 HbG2
        gi_upto_region 10 with (fail)
        generalize W2 = W3 at *
        clear r2 hne
        have hbg3 : Boxed W3 (w.heap.size + 1) 88 (.slice (some ⟨G, 0, none⟩) n cap) := HbG3.out
        have hB3v : (Value.slice ac L cc).ownBlock ≠ some (w.heap.size + 1) := fun e => by have := (HVl.out _ e).2; omega
        have hcv : W3.cell? ⟨G, A * 10 + 7, none⟩ = some (.slice ac L cc) := (HS3.out.lk.cv hAn).trans (by rw [show (_ : Lks).cv A = k'.cv A from rfl, HCs.out])
        have hz7 := HS3.out.lk.frz (A * 10 + 7)
        have hoA : W3.ownsRow base 3 1 (.slice ac L cc) L (natC (cm' A)) := by have h1 := HS3.out.co A hAn; rw [show (_ : Lks).cv A = k'.cv A from rfl, HCs.out, HL.out] at h1; exact h1
        have HOA := hide hoA
        clear hoA
        have hbs3 : base ≤ W3.heap.size := by have h1 := HBW.out.size; have h2 := HK3.out.size; have h3 := HLs.out; omega
        have hG3 := HS3.out.lk.lt
        have hL8 : (L + 1) * 8 ≤ 140737488355328 := by have := HLb.out; omega
        gi_wp2_with fail
        refine reg10 l _ G n cap (w.heap.size + 1) A p L base cc ac (natC (cm' A)) _ W3 hAn hbg3.cell hcv hz7 hbg3.lt hG3 hB3v (fun e => HVO.out G e (.inl rfl)) (by have := HGlt.out.1; omega) HOA.out hL8 hbs3 ?_
        intro a5 c5 w5 ho5 hk5 hw5
        have HO5 := hide ho5
        have HK5 := hide hk5
        have HW5 := hide hw5
        clear ho5 hk5 hw5 hcv hz7 hB3v hbg3 hG3 hL8
        have hk35 : Keeps W3 w5 (fun b => (Value.slice ac L cc).ownBlock = some b) := ⟨HK5.out.os, HK5.out.tape, HK5.out.output, HK5.out.size, HK5.out.block⟩
        have hk6 := k_set w5 G (A * 10 + 7) (.slice a5 (L + 1) c5)
        have hmt6 := (HS3.out.mt.keep hk35 (fun e => HVO.out tm e (.inr (.inr (.inl rfl))))).keep hk6 (HS3.out.mt.row HS3.out.lk)
        have hK36 : Keeps W3 (w5.setCell ⟨G, A * 10 + 7, none⟩ (.slice a5 (L + 1) c5)) (fun b => b = G ∨ (Value.slice ac L cc).ownBlock = some b) := (hk35.mono (fun b e => .inr e)).trans (hk6.mono (fun b e => .inl e))
        have notB : ∀ b, w.heap.size ≤ b → b < w.heap.size + 3 → ¬ (b = G ∨ (Value.slice ac L cc).ownBlock = some b) := fun b h1 h2 e => by
          rcases e with e | e
          · have := HGlt.out.1; omega
          · have := (HVl.out b e).2; omega
        have HbS6 := hide (boxed_keep HbS3.out hK36 (notB _ (by omega) (by omega)))
        have HbG6 := hide (boxed_keep HbG3.out hK36 (notB _ (by omega) (by omega)))
        have HbT6 := hide (boxed_keep HbT3.out hK36 (notB _ (by omega) (by omega)))
        have hS6 := RowF.keep HS3.out.sh hK36 (fun e => e.elim (HS3.out.sh.apartL HS3.out.lk) (fun e => HVO.out S e (.inr (.inl rfl))))
        have HMt6 := hide hmt6
        have HK36 := hide hK36
        have s2 := ShR.c2 hS6
        have bSc := HbS6.out.cell
        have HCom := hide (fun (w7 : World) (hk7 : Keeps (w5.setCell ⟨G, A * 10 + 7, none⟩ (.slice a5 (L + 1) c5)) w7 (fun b => b = tm)) (hs7 : SetM w7 tm n (fun q => tc' q || decide (q = p))) => HS3.out.comer hAn (show (_ : Lks).cv A = .slice ac L cc from HCs.out) HL.out HO5.out HK5.out HW5.out ⟨hpn, by show jmp (c'.op p) = true; rw [HOp.out]; exact HJ.out⟩ hk7 hs7)
        clear hk35 hk6 hmt6 hK36 hS6 notB
        generalize w5.setCell ⟨G, A * 10 + 7, none⟩ (.slice a5 (L + 1) c5) = w6 at *
        gi_wp2_with (first
          | (gi_at_call 52
             refine (CallsIn.inRound l (callsIn_wide.2 (padd_any HMt6.out hn hpn))).mono ?_
             rintro e w7 ⟨rfl, hl7, hk7⟩
             have HS7 := hide (HCom.out w7 hk7 hl7)
             have HK7 := hide hk7
             clear hl7 hk7)
          | gi_in)
        have hKall : Keeps W w7 (fun b => b = G ∨ b = w.heap.size + 1 + 1 ∨ b = tm ∨ (Value.slice ac L cc).ownBlock = some b) := (HK3.out.mono (fun b e => e.elim .inl (fun e => .inr (.inl e)))).trans ((HK36.out.mono (fun b e => e.elim .inl (fun e => .inr (.inr (.inr e))))).trans (HK7.out.mono (fun b e => .inr (.inr (.inl e)))))
        have hsW := HBW.out.size
        have hlt4 := HGlt.out
        have hls := HLs.out
        refine ⟨keeps_from2 hKall (fun b o hb ho hc e => ?_), Kb.keep hKall (by omega) (fun e => ?_) (fun b e => ⟨by have := (HOb.out b e).2; omega, fun e2 => ?_⟩), ⟨c'.aim p, fun q => tc' q || decide (q = p), cmA cm' A p, tn, _, HS7.out, ?_, boxed_keep HbT6.out HK7.out (by omega), fun t g ht e => ?_⟩, ⟨HBW.out.trans (hKall.below (B := base) (by omega) (fun b e => ?_)), HKT.out.of' hKall (fun b e => ?_)⟩, boxed_keep HbS6.out HK7.out (by omega), boxed_keep HbG6.out HK7.out (by omega)⟩
        · rcases e with e | e | e | e
          · omega
          · omega
          · omega
          · exact row_not (owns_rowF HOW.out e) ho hc rfl
        · rcases e with e | e | e | e
          · omega
          · omega
          · omega
          · exact (HNo.out A Bs hAn (by rw [HCs.out]; exact e)).2 rfl
        · have h1 := HOb.out b e
          rcases e2 with e2 | e2 | e2 | e2
          · omega
          · omega
          · omega
          · exact (HNo.out A b hAn (by rw [HCs.out]; exact e2)).1 e.symm
        · rw [HN.out]
          have h1 := HAm.out.aim HLf.out HJ.out HpR.out
          rw [HLa.out, HBp.out] at h1
          rw [show tn = (tn || decide (A ≠ B)) from HTn.out]
          exact h1
        · have e' : (upV k'.cv A (.slice a5 (L + 1) c5) t).ownBlock = some g := e
          unfold upV at e'
          by_cases ht2 : t = A
          · rw [if_pos ht2] at e'
            rcases HW5.out g e' with z | z
            · exact HNo.out A g hAn (by rw [HCs.out]; exact z)
            · have z' : W3.heap.size ≤ g := z
              have h3 := HK3.out.size
              refine ⟨fun e2 => ?_, by omega⟩
              have := (HOb.out g e2.symm).2
              omega
          · rw [if_neg ht2] at e'
            exact HNo.out t g ht e'
        · rcases e with e | e | e | e
          · rw [e]; exact HSA.out.ge.1
          · omega
          · rw [e]; exact HSA.out.ge.2.2.2
          · exact (owns_blk HOW.out e).1
        · rcases e with e | e | e | e
          · exact .inl (.inl e)
          · exact .inr (.inl (by omega))
          · exact .inl (.inr (.inr (.inl e)))
          · exact .inr (.inr ⟨_, _, owns_rowF HOW.out e⟩)
      · have hne : ((A : Int) != (B : Int)) = true := by simp; omega
        have z2 := HSA2.out.lk.frz (p * 10 + 2)
        have HS2' := HSA2.out.aim hpn HJ'.out
        rw [HLa.out] at HS2'
        have hk1 := k_set W2 G (p * 10 + 2) (.int .i64 (A : Int))
        have hbT1 := boxed_keep HbT2.out hk1 (by have := HGlt.out.1; omega)
        have hbS1 := boxed_keep HbS2.out hk1 (by have := HGlt.out.1; omega)
        have hbG1 := boxed_keep HbG2.out hk1 (by have := HGlt.out.1; omega)
        have hk2 := k_set (W2.setCell ⟨G, p * 10 + 2, none⟩ (.int .i64 (A : Int))) (w.heap.size + 1 + 1) 0 (.bool true)
        have HS3 := hide (HS2'.keep hk2 (fun b hb e => by have := HS2'.ltS hb; have := HGlt.out; rcases hb with q | q | q | q <;> omega) (fun t g ht e1 e2 => by
          obtain ⟨cur, h1, _⟩ := owns_rowF (HS2'.co t ht) e1
          rw [e2, show (W2.setCell ⟨G, p * 10 + 2, none⟩ (.int .i64 (A : Int))).heap[w.heap.size + 1 + 1]? = _ from hbT1] at h1
          cases h1))
        have HbT3 := hide (hbT1.set (.bool true))
        have HbS3 := hide (boxed_keep hbS1 hk2 (by omega))
        have HbG3 := hide (boxed_keep hbG1 hk2 (by omega))
        have HK3 := hide (hK2.trans ((hk1.mono (fun b e => .inl e)).trans (hk2.mono (fun b e => .inr e))))
        have HTn := hide (show true = (tn || decide (A ≠ B)) from by simp [hAB])
        have cT := hbT1.cell
        have fT := hbT1.frozen
        clear hK2 HS2' hk1 hbT1 hbS1 hbG1 hk2 hAB HSA2 HbT2 HbS2 HbG2
        gi_upto_region 10 with (fail)
        clear z2 r2 cT fT hne
        generalize (W2.setCell ⟨G, p * 10 + 2, none⟩ (.int .i64 (A : Int))).setCell ⟨w.heap.size + 1 + 1, 0, none⟩ (.bool true) = W3 at *
        have hbg3 : Boxed W3 (w.heap.size + 1) 88 (.slice (some ⟨G, 0, none⟩) n cap) := HbG3.out
        have hB3v : (Value.slice ac L cc).ownBlock ≠ some (w.heap.size + 1) := fun e => by have := (HVl.out _ e).2; omega
        have hcv : W3.cell? ⟨G, A * 10 + 7, none⟩ = some (.slice ac L cc) := (HS3.out.lk.cv hAn).trans (by rw [show (_ : Lks).cv A = k'.cv A from rfl, HCs.out])
        have hz7 := HS3.out.lk.frz (A * 10 + 7)
        have hoA : W3.ownsRow base 3 1 (.slice ac L cc) L (natC (cm' A)) := by have h1 := HS3.out.co A hAn; rw [show (_ : Lks).cv A = k'.cv A from rfl, HCs.out, HL.out] at h1; exact h1
        have HOA := hide hoA
        clear hoA
        have hbs3 : base ≤ W3.heap.size := by have h1 := HBW.out.size; have h2 := HK3.out.size; have h3 := HLs.out; omega
        have hG3 := HS3.out.lk.lt
        have hL8 : (L + 1) * 8 ≤ 140737488355328 := by have := HLb.out; omega
        gi_wp2_with fail
        refine reg10 l _ G n cap (w.heap.size + 1) A p L base cc ac (natC (cm' A)) _ W3 hAn hbg3.cell hcv hz7 hbg3.lt hG3 hB3v (fun e => HVO.out G e (.inl rfl)) (by have := HGlt.out.1; omega) HOA.out hL8 hbs3 ?_
        intro a5 c5 w5 ho5 hk5 hw5
        have HO5 := hide ho5
        have HK5 := hide hk5
        have HW5 := hide hw5
        clear ho5 hk5 hw5 hcv hz7 hB3v hbg3 hG3 hL8
        have hk35 : Keeps W3 w5 (fun b => (Value.slice ac L cc).ownBlock = some b) := ⟨HK5.out.os, HK5.out.tape, HK5.out.output, HK5.out.size, HK5.out.block⟩
        have hk6 := k_set w5 G (A * 10 + 7) (.slice a5 (L + 1) c5)
        have hmt6 := (HS3.out.mt.keep hk35 (fun e => HVO.out tm e (.inr (.inr (.inl rfl))))).keep hk6 (HS3.out.mt.row HS3.out.lk)
        have hK36 : Keeps W3 (w5.setCell ⟨G, A * 10 + 7, none⟩ (.slice a5 (L + 1) c5)) (fun b => b = G ∨ (Value.slice ac L cc).ownBlock = some b) := (hk35.mono (fun b e => .inr e)).trans (hk6.mono (fun b e => .inl e))
        have notB : ∀ b, w.heap.size ≤ b → b < w.heap.size + 3 → ¬ (b = G ∨ (Value.slice ac L cc).ownBlock = some b) := fun b h1 h2 e => by
          rcases e with e | e
          · have := HGlt.out.1; omega
          · have := (HVl.out b e).2; omega
        have HbS6 := hide (boxed_keep HbS3.out hK36 (notB _ (by omega) (by omega)))
        have HbG6 := hide (boxed_keep HbG3.out hK36 (notB _ (by omega) (by omega)))
        have HbT6 := hide (boxed_keep HbT3.out hK36 (notB _ (by omega) (by omega)))
        have hS6 := RowF.keep HS3.out.sh hK36 (fun e => e.elim (HS3.out.sh.apartL HS3.out.lk) (fun e => HVO.out S e (.inr (.inl rfl))))
        have HMt6 := hide hmt6
        have HK36 := hide hK36
        have s2 := ShR.c2 hS6
        have bSc := HbS6.out.cell
        have HCom := hide (fun (w7 : World) (hk7 : Keeps (w5.setCell ⟨G, A * 10 + 7, none⟩ (.slice a5 (L + 1) c5)) w7 (fun b => b = tm)) (hs7 : SetM w7 tm n (fun q => tc' q || decide (q = p))) => HS3.out.comer hAn (show (_ : Lks).cv A = .slice ac L cc from HCs.out) HL.out HO5.out HK5.out HW5.out ⟨hpn, by show jmp (c'.op p) = true; rw [HOp.out]; exact HJ.out⟩ hk7 hs7)
        clear hk35 hk6 hmt6 hK36 hS6 notB
        generalize w5.setCell ⟨G, A * 10 + 7, none⟩ (.slice a5 (L + 1) c5) = w6 at *
        gi_wp2_with (first
          | (gi_at_call 52
             refine (CallsIn.inRound l (callsIn_wide.2 (padd_any HMt6.out hn hpn))).mono ?_
             rintro e w7 ⟨rfl, hl7, hk7⟩
             have HS7 := hide (HCom.out w7 hk7 hl7)
             have HK7 := hide hk7
             clear hl7 hk7)
          | gi_in)
        have hKall : Keeps W w7 (fun b => b = G ∨ b = w.heap.size + 1 + 1 ∨ b = tm ∨ (Value.slice ac L cc).ownBlock = some b) := (HK3.out.mono (fun b e => e.elim .inl (fun e => .inr (.inl e)))).trans ((HK36.out.mono (fun b e => e.elim .inl (fun e => .inr (.inr (.inr e))))).trans (HK7.out.mono (fun b e => .inr (.inr (.inl e)))))
        have hsW := HBW.out.size
        have hlt4 := HGlt.out
        have hls := HLs.out
        refine ⟨keeps_from2 hKall (fun b o hb ho hc e => ?_), Kb.keep hKall (by omega) (fun e => ?_) (fun b e => ⟨by have := (HOb.out b e).2; omega, fun e2 => ?_⟩), ⟨c'.aim p, fun q => tc' q || decide (q = p), cmA cm' A p, true, _, HS7.out, ?_, boxed_keep HbT6.out HK7.out (by omega), fun t g ht e => ?_⟩, ⟨HBW.out.trans (hKall.below (B := base) (by omega) (fun b e => ?_)), HKT.out.of' hKall (fun b e => ?_)⟩, boxed_keep HbS6.out HK7.out (by omega), boxed_keep HbG6.out HK7.out (by omega)⟩
        · rcases e with e | e | e | e
          · omega
          · omega
          · omega
          · exact row_not (owns_rowF HOW.out e) ho hc rfl
        · rcases e with e | e | e | e
          · omega
          · omega
          · omega
          · exact (HNo.out A Bs hAn (by rw [HCs.out]; exact e)).2 rfl
        · have h1 := HOb.out b e
          rcases e2 with e2 | e2 | e2 | e2
          · omega
          · omega
          · omega
          · exact (HNo.out A b hAn (by rw [HCs.out]; exact e2)).1 e.symm
        · rw [HN.out]
          have h1 := HAm.out.aim HLf.out HJ.out HpR.out
          rw [HLa.out, HBp.out] at h1
          rw [show true = (tn || decide (A ≠ B)) from HTn.out]
          exact h1
        · have e' : (upV k'.cv A (.slice a5 (L + 1) c5) t).ownBlock = some g := e
          unfold upV at e'
          by_cases ht2 : t = A
          · rw [if_pos ht2] at e'
            rcases HW5.out g e' with z | z
            · exact HNo.out A g hAn (by rw [HCs.out]; exact z)
            · have z' : W3.heap.size ≤ g := z
              have h3 := HK3.out.size
              refine ⟨fun e2 => ?_, by omega⟩
              have := (HOb.out g e2.symm).2
              omega
          · rw [if_neg ht2] at e'
            exact HNo.out t g ht e'
        · rcases e with e | e | e | e
          · rw [e]; exact HSA.out.ge.1
          · omega
          · rw [e]; exact HSA.out.ge.2.2.2
          · exact (owns_blk HOW.out e).1
        · rcases e with e | e | e | e
          · exact .inl (.inl e)
          · exact .inr (.inl (by omega))
          · exact .inl (.inr (.inr (.inl e)))
          · exact .inr (.inr ⟨_, _, owns_rowF HOW.out e⟩)
  case done =>
    rintro D ys W hD rfl ⟨⟨c', tc', cm', tn, k', hSA, hAm, hbT, hNo⟩, ⟨hBW, hKT⟩, hbS, hbG⟩ hK
    rw [upTo_length, List.take_of_length_le (by simp)] at hAm
    have hall : AmI c tc cm (Go.Proofs.YtgnbhhgpaldheaaGreat.ls c.n ls).reverse c' tc' cm' tn := by rw [HEn.out, HXs.out]; exact hAm
    obtain ⟨m1, m2, m3⟩ := hall.all HPs.out HLj.out
    have hfl := hAm.fl
    have hbW := hBW.size
    obtain ⟨w4, hcl, hcs, hck, hcz⟩ := hSA.ml.clear 0
    have hSA4 := hSA.clearl hck hcs
    have hbS4 := boxed_keep hbS hck (by have := HGlt.out; omega)
    have hbT4 := boxed_keep hbT hck (by have := HGlt.out; omega)
    have hD4 : w4.heap[D]? = some (.deferred (some [])) := (hck.block D (Array.getElem?_eq_some_iff.1 hK).1 (by have := HGlt.out; have := HLs.out; omega)).trans hK
    have HSA4 := hide hSA4
    have HD4 := hide hD4
    have HM := hide (And.intro m1 (And.intro m2 m3))
    have HFl := hide (show ∀ t, (cm' t).length ≤ (cm t).length + n from fun t => by have h1 := hfl t; have h2 := HXn.out; rw [List.length_reverse] at h1; omega)
    have HB4 := hide (show Below base w w4 from HK0.out.trans (hBW.trans (hck.below (B := base) (by have := HLs.out; omega) (fun b e => by rw [e]; exact HH.out.ge.2.2.1))))
    have HKT4 := hide (hKT.of' hck (fun b e => .inl (.inr (.inr (.inr e)))))
    have bSc := hbS.cell
    have c1 := hSA.sh.c1
    have bS4c := hbS4.cell
    have bT4c := hbT4.cell
    have c34 := hSA4.sh.c3
    have z34 := RowF.frz hSA4.sh 3
    have hlt := HGlt.out
    have HbT4 := hide hbT4
    have HDl := hide hD
    clear hAm hall hfl hBW hKT hbW hSA hSA4 hck hcs hbS hbT hbG hNo hcz hK hD m1 m2 m3 hbS4 hbT4 hD4
    gi_upto_region 13 with (fail)
    cases un with
    | true =>
      refine wpIn_wide.2 ?_
      go_still_tail 8, mixedT
      have hsh := HSA4.out.setun true
      have hb5 : Below base w (w4.setCell ⟨S, 3, none⟩ (.bool true)).drew := (HB4.out.setCell HH.out.ge.2.1 _).drew
      have hk5 := keeps_drew (k_set w4 S 3 (.bool true))
      have hbT5 := boxed_keep HbT4.out hk5 (by have := HGlt.out; omega)
      have hD5 : (w4.setCell ⟨S, 3, none⟩ (.bool true)).drew.heap[D]? = some (.deferred (some [])) := (hk5.block D (Array.getElem?_eq_some_iff.1 HD4.out).1 (by have := HGlt.out; have := HLs.out; have := HDl.out; omega)).trans HD4.out
      have HSh : Hid (ShA base n G S lm tm i2 i3 l0 c' (fun _ => false) tc' cm' true k' (w4.setCell ⟨S, 3, none⟩ (.bool true)).drew) := hide (hsh.keep (T := fun _ => False) ⟨rfl, rfl, rfl, Nat.le_refl _, fun _ _ _ => rfl⟩ (fun _ _ x => x) (fun _ _ _ _ x => x))
      have HB5 := hide hb5
      have HKT5 := hide (HKT4.out.of' hk5 (fun b e => .inl (.inr (.inl e))))
      have HD5 := hide hD5
      have bT5c := hbT5.cell
      clear hsh hb5 hk5 hbT5 hD5
      go_wp2_with fail
      clear c34 z34 bS4c bT4c
      generalize (w4.setCell ⟨S, 3, none⟩ (.bool true)).drew = w5 at *
      gi_wp2
      refine ⟨by simp, .inl ⟨_, _, rfl, run_takeDeferred HD5.out, ?_⟩⟩
      refine ⟨_, results_tmp rfl _ _ _, tn, tc', cm', k', rfl, ?_, ?_, HM.out.2.2, HFl.out, HB5.out.trans (belowK_b (w := W0) (by have := HLs.out; omega) w5 D _ _ HDl.out HD5.out rfl rfl), (KeepT.own (β := Unit) (B := W0.heap.size)).putObj (s := ()) _ HKT5.out HDl.out HD5.out rfl⟩
      · have h1 := HSh.out.own (W' := w5.putObj D (.deferred none)) (row := some D) (by have := HGlt.out; have := HLs.out; omega : lm < W0.heap.size) (by have := HGlt.out; have := HLs.out; omega) (grownBy_putObj' w5 D _) (fun r e => by cases e; exact ⟨HDl.out, _, HD5.out, rfl⟩)
        rw [HM.out.1] at h1
        exact h1
      · exact HM.out.2.1
    | false =>
      refine wpIn_wide.2 ?_
      go_still_tail 8, mixedT
      have hsh := HSA4.out.setun tn
      have hb5 : Below base w (w4.setCell ⟨S, 3, none⟩ (.bool tn)).drew := (HB4.out.setCell HH.out.ge.2.1 _).drew
      have hk5 := keeps_drew (k_set w4 S 3 (.bool tn))
      have hbT5 := boxed_keep HbT4.out hk5 (by have := HGlt.out; omega)
      have hD5 : (w4.setCell ⟨S, 3, none⟩ (.bool tn)).drew.heap[D]? = some (.deferred (some [])) := (hk5.block D (Array.getElem?_eq_some_iff.1 HD4.out).1 (by have := HGlt.out; have := HLs.out; have := HDl.out; omega)).trans HD4.out
      have HSh : Hid (ShA base n G S lm tm i2 i3 l0 c' (fun _ => false) tc' cm' tn k' (w4.setCell ⟨S, 3, none⟩ (.bool tn)).drew) := hide (hsh.keep (T := fun _ => False) ⟨rfl, rfl, rfl, Nat.le_refl _, fun _ _ _ => rfl⟩ (fun _ _ x => x) (fun _ _ _ _ x => x))
      have HB5 := hide hb5
      have HKT5 := hide (HKT4.out.of' hk5 (fun b e => .inl (.inr (.inl e))))
      have HD5 := hide hD5
      have bT5c := hbT5.cell
      clear hsh hb5 hk5 hbT5 hD5
      go_wp2_with fail
      clear c34 z34 bS4c bT4c
      generalize (w4.setCell ⟨S, 3, none⟩ (.bool tn)).drew = w5 at *
      gi_wp2
      refine ⟨by simp, .inl ⟨_, _, rfl, run_takeDeferred HD5.out, ?_⟩⟩
      refine ⟨_, results_tmp rfl _ _ _, tn, tc', cm', k', rfl, ?_, ?_, HM.out.2.2, HFl.out, HB5.out.trans (belowK_b (w := W0) (by have := HLs.out; omega) w5 D _ _ HDl.out HD5.out rfl rfl), (KeepT.own (β := Unit) (B := W0.heap.size)).putObj (s := ()) _ HKT5.out HDl.out HD5.out rfl⟩
      · have h1 := HSh.out.own (W' := w5.putObj D (.deferred none)) (row := some D) (by have := HGlt.out; have := HLs.out; omega : lm < W0.heap.size) (by have := HGlt.out; have := HLs.out; omega) (grownBy_putObj' w5 D _) (fun r e => by cases e; exact ⟨HDl.out, _, HD5.out, rfl⟩)
        rw [HM.out.1] at h1
        exact h1
      · exact HM.out.2.1
  case stop =>
    rintro D c pre W _ _ h _
    exact h.elim
end Go.Proofs.YtgnbhhgpaldheaaGreat
namespace Go.Proofs.YtgnbhhgpaldheaaGreat
open Go Go.RowKit
set_option linter.unusedVariables false
theorem rk_leN (c : Cf) : ∀ p, c.rk p ≤ p
  | 0 => Nat.le_refl _
  | p + 1 => by
    rw [rk_on]
    have := rk_leN c p
    split <;> omega
theorem mI_le (c : Cf) : c.mI ≤ 2 * c.n + 1 := by
  unfold Cf.mI
  have h1 := rk_leN c c.n
  have h2 := bit_le c
  omega
def RdI (base n G S lm tm : Nat) (i2 i3 l0 : Nat → Int) (c : Cf) (r j : Nat) (tv : Bool) (W : World) : Prop :=
  ∃ (c' : Cf) (ls tc : Nat → Bool) (cm : Nat → List Nat) (un : Bool) (k : Lks), ShA base n G S lm tm i2 i3 l0 c' ls tc cm un k W ∧ (∀ t, (cm t).length ≤ n * (if j = 0 then r else r + 1)) ∧ (∀ p, ls p = true → jmp (c'.op p) = true) ∧ (∀ p, c'.mv p = (c'.op p == 2 && c'.a p == i2 p)) ∧
    ((j = 0 ∧ c' = c ∧ Ps c ls tc cm un ∧ tv = false) ∨
     (j = 1 ∧ c' = c.all ∧ c.Ok ∧ Pm c.all tc cm un ∧ (∀ p, ls p = false) ∧ (tv = true ↔ c.Tn)) ∨
     (j = 2 ∧ un = false ∧ c.Ok ∧ Pm c' tc cm false ∧ (∀ p, c'.L p → ls p = false) ∧ Eb (c.all.cut c.all.un) c' ∧ (tv = true ↔ (c.Tn ∨ ∃ p, c.all.L p ∧ c.all.un p = true))) ∨
     (j = 3 ∧ c.Ok ∧ Ps c' ls tc cm un ∧ ImR c c' ∧ (tv = true ↔ ImT c c')))
theorem imT_of {c c2 c3 : Cf} (h2 : Eb (c.all.cut c.all.un) c2) (h3 : Eb (c2.cut c2.idl) c3) {b : Bool} (hb : b = true ↔ ((c.Tn ∨ ∃ p, c.all.L p ∧ c.all.un p = true) ∨ ∃ p, c2.L p ∧ c2.idl p = true)) : b = true ↔ ImT c c3 := by
  have key : (∃ p, c.L p ∧ ¬ c3.L p) ↔ ((∃ p, c.all.L p ∧ c.all.un p = true) ∨ ∃ p, c2.L p ∧ c2.idl p = true) := by
    have l2 : ∀ p, c2.L p ↔ c.L p ∧ c.all.un p = false := fun p => by rw [h2.L p, cut_L, (all_Sb c).L p]
    have l3 : ∀ p, c3.L p ↔ c2.L p ∧ c2.idl p = false := fun p => by rw [h3.L p, cut_L]
    constructor
    · rintro ⟨p, h1, hn⟩
      cases e : c.all.un p with
      | true => exact .inl ⟨p, ((all_Sb c).L p).2 h1, e⟩
      | false =>
        cases e2 : c2.idl p with
        | true => exact .inr ⟨p, (l2 p).2 ⟨h1, e⟩, e2⟩
        | false => exact (hn ((l3 p).2 ⟨(l2 p).2 ⟨h1, e⟩, e2⟩)).elim
    · rintro (⟨p, h1, h4⟩ | ⟨p, h1, h4⟩)
      · exact ⟨p, ((all_Sb c).L p).1 h1, fun h => by have := ((l2 p).1 ((l3 p).1 h).1).2; rw [h4] at this; cases this⟩
      · exact ⟨p, ((l2 p).1 h1).1, fun h => by have := ((l3 p).1 h).2; rw [h4] at this; cases this⟩
  unfold ImT
  rw [hb, key, or_assoc]
def fnV (f S : Nat) : Value := .func (.func f) #[.pointer (some ⟨S, 0, none⟩)] #[]
def FinE (base n G S lm tm : Nat) (i2 i3 l0 : Nat → Int) (c0 : Cf) (w : World) (e : Ending) (w' : World) : Prop :=
  e = .returned (.tuple #[]) ∧ (∃ (c : Cf) (K : Nat) (ls tc : Nat → Bool) (cm : Nat → List Nat) (un : Bool) (k : Lks), FinI K c0 c ∧ ShA base n G S lm tm i2 i3 l0 c ls tc cm un k w') ∧ Below base w w' ∧ KeepT G S lm tm w w'
set_option maxHeartbeats 3200000 in
set_option maxRecDepth 100000 in
theorem rounds_any {base n G S lm tm cap FB fcap : Nat} {i2 i3 l0 : Nat → Int} {c0 : Cf} {ls0 tc0 : Nat → Bool} {cm0 : Nat → List Nat} {un0 : Bool} {k0 : Lks} {w : World} (hn : n ≤ 65535) (h : ShA base n G S lm tm i2 i3 l0 c0 ls0 tc0 cm0 un0 k0 w) (hps : Ps c0 ls0 tc0 cm0 un0) (hlj : ∀ p, ls0 p = true → jmp (c0.op p) = true) (hcm : ∀ t, cm0 t = []) (hmv : ∀ p, c0.mv p = (c0.op p == 2 && c0.a p == i2 p)) (hbase : base ≤ w.heap.size) (hF : ¬ OuS G S lm tm FB) (hfc : 3 ≤ fcap)
    (hFB : w.heap[FB]? = some (.cells #[fnV 43 S, fnV 44 S, fnV 45 S] 95 (0, 0))) :
    Calls Tryz.prog 42 #[.slice (some ⟨G, 0, none⟩) n cap, .slice (some ⟨FB, 0, none⟩) 3 fcap] w fun e w' => FinE base n G S lm tm i2 i3 l0 c0 w e w' := by
  have hn2 : n ≤ 1048576 := by omega
  have HFB := hide hFB
  have HFo := hide hF
  have hen := h.kr.en
  have HI0 : Hid (RdI base n G S lm tm i2 i3 l0 c0 0 0 false w) := hide ⟨c0, ls0, tc0, cm0, un0, k0, h, fun t => by rw [hcm t]; simp, hlj, hmv, .inl ⟨rfl, rfl, hps, rfl⟩⟩
  have hmi := mI_le c0
  rw [hen] at hmi
  clear hFB hF h hps hlj hcm hmv hen
  go_enter Tryz.func42, Tryz.ntmps42
  go_wp2_with fail
  go_loopg [4] (c0.mI + 1) (fun m tv wr => ∃ (c : Cf) (r : Nat) (tb : Bool), tv = .bool tb ∧ Hid (Below base w wr) ∧ Hid (KeepT G S lm tm w wr) ∧ Hid ((tb = true ∧ RdI base n G S lm tm i2 i3 l0 c r 0 false wr ∧ (∀ c', (∃ K, FinI K c c') → ∃ K, FinI K c0 c') ∧ c.mI + 1 ≤ m ∧ r + c.mI ≤ 2 * n + 1) ∨ (tb = false ∧ ∃ (K : Nat) (ls tc : Nat → Bool) (cm : Nat → List Nat) (un : Bool) (k : Lks), FinI K c0 c ∧ ShA base n G S lm tm i2 i3 l0 c ls tc cm un k wr)))
  case atStart => exact ⟨c0, 0, true, rfl, hide (Below.refl _ _), hide (KeepT.refl _ _ _ _ _), hide (.inl ⟨rfl, HI0.out, fun _ h => h, Nat.le_refl _, by omega⟩)⟩
  case round =>
    clear HI0
    obtain ⟨c, r, tb, rfl, HB, HK, HS⟩ := hrel
    cases tb with
    | false =>
      go_wp2
      go_end0
      rcases HS.out with ⟨h, _⟩ | ⟨_, K, ls, tc, cm, un, k, h1, h2⟩
      · cases h
      · exact ⟨rfl, ⟨c, K, ls, tc, cm, un, k, h1, h2⟩, HB.out, HK.out⟩
    | true =>
      have hS := HS.out
      rcases hS with ⟨_, hI, hcont, hm, hr⟩ | ⟨h, _⟩
      rotate_left
      · cases h
      have HI := hide hI
      have HCo := hide hcont
      have HMr := hide (And.intro hm hr)
      clear hI hcont hm hr HS
      go_wp2_with fail
      generalize wr = wo at *
      go_loopw [4, 10] (fun tv iv wr => ∃ (j : Nat) (b : Bool), j ≤ 3 ∧ iv = .int .i64 (j : Int) ∧ tv = .bool b ∧ Hid (RdI base n G S lm tm i2 i3 l0 c r j b wr) ∧ Hid (Below base w wr) ∧ Hid (KeepT G S lm tm w wr)) (fun _ iv _ => 3 - ivN iv)
      case atStart => exact ⟨0, false, by omega, rfl, rfl, HI, HB, HK⟩
      case round =>
        clear HI HB HK
        obtain ⟨j, b, hj, rfl, rfl, HI, HB, HK⟩ := hrel
        have hFr := HK.out FB _ _ _ HFB.out (by decide) HFo.out
        have f0 : wr.cell? ⟨FB, 0, none⟩ = some (fnV 43 S) := by simp [World.cell?, hFr]
        have f1 : wr.cell? ⟨FB, 1, none⟩ = some (fnV 44 S) := by simp [World.cell?, hFr]
        have f2 : wr.cell? ⟨FB, 2, none⟩ = some (fnV 45 S) := by simp [World.cell?, hFr]
        clear hFr
        unfold fnV at f0 f1 f2
        have hbw : base ≤ wr.heap.size := Nat.le_trans hbase HB.out.size
        have hnr : n * (r + 1) ≤ 90000000000 := by
          have h1 := HMr.out.2
          have : n * (r + 1) ≤ 65535 * 131072 := Nat.mul_le_mul hn (by omega)
          omega
        have hj4 : j = 0 ∨ j = 1 ∨ j = 2 ∨ j = 3 := by omega
        rcases hj4 with rfl | rfl | rfl | rfl
        · obtain ⟨c', ls, tc, cm, un, k, hSA, hcl, hlj, hmv, hcase⟩ := HI.out
          rcases hcase with ⟨_, rfl, hps, rfl⟩ | ⟨h, _⟩ | ⟨h, _⟩ | ⟨h, _⟩
          rotate_left
          · cases h
          · cases h
          · cases h
          have hcl2 : ∀ t, (cm t).length ≤ n * r := hcl
          have hle : n * r ≤ n * (r + 1) := Nat.mul_le_mul_left _ (by omega)
          have HA := hide (callsIn_wide.1 (aimAnew_in (cap := cap) hn2 hSA hps hlj (fun t _ => by have := hcl2 t; omega) hbw))
          have HMv := hide hmv
          have HOk := hide hps.ok
          have HCl := hide hcl2
          have HMul := hide (show n * (r + 1) = n * r + n from Nat.mul_succ n r)
          clear hSA hcl hlj hmv hps hcl2 hle
          go_wp2_with fail
          refine HA.out.mono ?_
          rintro e w2 ⟨tn, tc', cm', k', rfl, h1, h2, h3, h4, h5, h6⟩
          have HS := hide (And.intro h1 h2)
          have HLn := hide (show ∀ t, (cm' t).length ≤ n * (if 1 = 0 then r else r + 1) from fun t => by rw [if_neg (by omega)]; have a := h4 t; have b := HCl.out t; have d := HMul.out; omega)
          have HBn := hide h5
          have HKn := hide h6
          have HIf := hide (show (tn = false → (false = true ↔ c'.Tn)) ∧ (tn = true → (true = true ↔ c'.Tn)) from ⟨fun e => (by subst e; exact h3), fun e => (by subst e; exact h3)⟩)
          clear h1 h2 h3 h4 h5 h6
          cases tn with
          | false =>
            go_wp2_with fail
            go_roundw
            case rel => exact ⟨1, false, by omega, by simp, rfl, hide (⟨c'.all, fun _ => false, tc', cm', _, k', HS.out.1, HLn.out, fun p e => (by cases e), fun p => (by rw [(all_Sb c').mv, (all_Sb c').op, (all_Sb c').a]; exact HMv.out p), .inr (.inl ⟨rfl, rfl, HOk.out, HS.out.2, fun _ => rfl, HIf.out.1 (by simp)⟩)⟩), hide (HB.out.trans HBn.out), hide (HK.out.trans HKn.out)⟩
            case measure => simp [ivN]
          | true =>
            go_wp2_with fail
            go_roundw
            case rel => exact ⟨1, true, by omega, by simp, rfl, hide (⟨c'.all, fun _ => false, tc', cm', _, k', HS.out.1, HLn.out, fun p e => (by cases e), fun p => (by rw [(all_Sb c').mv, (all_Sb c').op, (all_Sb c').a]; exact HMv.out p), .inr (.inl ⟨rfl, rfl, HOk.out, HS.out.2, fun _ => rfl, (by simpa using HIf.out.2 (by simp))⟩)⟩), hide (HB.out.trans HBn.out), hide (HK.out.trans HKn.out)⟩
            case measure => simp [ivN]
        · obtain ⟨c', ls, tc, cm, un, k, hSA, hcl, hlj, hmv, hcase⟩ := HI.out
          rcases hcase with ⟨h, _⟩ | ⟨_, rfl, hok, hpm, hls, hif⟩ | ⟨h, _⟩ | ⟨h, _⟩
          · cases h
          rotate_left
          · cases h
          · cases h
          have hcl2 : ∀ t, (cm t).length ≤ n * (r + 1) := hcl
          have HA := hide (unreached_any (cap := cap) hn2 hSA hpm (fun p _ => hls p) (fun t _ => by have := hcl2 t; omega) hbw)
          have HMv := hide hmv
          have HOk := hide hok
          have HLn := hide (show ∀ t, (cm t).length ≤ n * (if 2 = 0 then r else r + 1) from hcl2)
          have HLs := hide hls
          have HIf0 := hide hif
          clear hSA hcl hlj hmv hpm hcl2 hok hls hif
          go_wp2_with fail
          refine HA.out.mono ?_
          rintro e w2 ⟨tn, s, k', rfl, h1, h2, h3, h4, h5, h6, h7, h8⟩
          have HS := hide (And.intro h1 (And.intro h2 (And.intro h3 h4)))
          have HLj := hide (show ∀ p, s.ls p = true → jmp (s.c.op p) = true from fun p e => (h6 p e).elim (fun z => by rw [HLs.out p] at z; cases z) id)
          have HMv2 := hide (show ∀ p, s.c.mv p = (s.c.op p == 2 && s.c.a p == i2 p) from fun p => by rw [h4.mv, h4.op, h4.a]; exact HMv.out p)
          have HBn := hide h7
          have HKn := hide (KeepT.of h8)
          have HIf := hide (show (tn = false → (b = true ↔ (c.Tn ∨ ∃ p, c.all.L p ∧ c.all.un p = true))) ∧ (tn = true → (true = true ↔ (c.Tn ∨ ∃ p, c.all.L p ∧ c.all.un p = true))) from ⟨fun e => by
            have : ¬ ∃ p, c.all.L p ∧ c.all.un p = true := fun z => by rw [h5.2 z] at e; cases e
            rw [HIf0.out]
            exact ⟨.inl, fun z => z.elim id (fun z => (this z).elim)⟩, fun e => ⟨fun _ => .inr (h5.1 e), fun _ => rfl⟩⟩)
          clear h1 h2 h3 h4 h5 h6 h7 h8
          cases tn with
          | false =>
            go_wp2_with fail
            go_roundw
            case rel => exact ⟨2, b, by omega, by simp, rfl, hide (⟨s.c, s.ls, s.tc, cm, false, k', HS.out.1, HLn.out, HLj.out, HMv2.out, .inr (.inr (.inl ⟨rfl, rfl, HOk.out, HS.out.2.1, HS.out.2.2.1, HS.out.2.2.2, HIf.out.1 (by simp)⟩))⟩), hide (HB.out.trans HBn.out), hide (HK.out.trans HKn.out)⟩
            case measure => simp [ivN]
          | true =>
            go_wp2_with fail
            go_roundw
            case rel => exact ⟨2, true, by omega, by simp, rfl, hide (⟨s.c, s.ls, s.tc, cm, false, k', HS.out.1, HLn.out, HLj.out, HMv2.out, .inr (.inr (.inl ⟨rfl, rfl, HOk.out, HS.out.2.1, HS.out.2.2.1, HS.out.2.2.2, (by simpa using HIf.out.2 (by simp))⟩))⟩), hide (HB.out.trans HBn.out), hide (HK.out.trans HKn.out)⟩
            case measure => simp [ivN]
        · obtain ⟨c', ls, tc, cm, un, k, hSA, hcl, hlj, hmv, hcase⟩ := HI.out
          rcases hcase with ⟨h, _⟩ | ⟨h, _⟩ | ⟨_, rfl, hok, hpm, hls, heb, hif⟩ | ⟨h, _⟩
          · cases h
          · cases h
          rotate_left
          · cases h
          have hcl2 : ∀ t, (cm t).length ≤ n * (r + 1) := hcl
          have HA := hide (pidle_any (cap := cap) hn2 hSA hpm hls hmv (fun t _ => by have := hcl2 t; omega) hbw)
          have HMv := hide hmv
          have HOk := hide hok
          have HLn := hide (show ∀ t, (cm t).length ≤ n * (if 3 = 0 then r else r + 1) from hcl2)
          have HLj0 := hide hlj
          have HIf0 := hide hif
          have HEb := hide heb
          clear hSA hcl hlj hmv hpm hcl2 hok hls hif heb
          go_wp2_with fail
          refine HA.out.mono ?_
          rintro e w2 ⟨tn, s, k', rfl, h1, h2, h3, h4, h5, h6, h7⟩
          have HS := hide (And.intro h1 (And.intro h2 h3))
          have HLj := hide (show ∀ p, s.ls p = true → jmp (s.c.op p) = true from fun p e => (h5 p e).elim (fun z => by rw [h3.op]; exact HLj0.out p z) id)
          have HMv2 := hide (show ∀ p, s.c.mv p = (s.c.op p == 2 && s.c.a p == i2 p) from fun p => by rw [h3.mv, h3.op, h3.a]; exact HMv.out p)
          have HBn := hide h6
          have HKn := hide (KeepT.of h7)
          have HIf := hide (show (tn = false → (b = true ↔ ImT c s.c)) ∧ (tn = true → (true = true ↔ ImT c s.c)) from ⟨fun e => imT_of HEb.out h3 (by
            have : ¬ ∃ p, c'.L p ∧ c'.idl p = true := fun z => by rw [h4.2 z] at e; cases e
            rw [HIf0.out]
            exact ⟨.inl, fun z => z.elim id (fun z => (this z).elim)⟩), fun e => imT_of HEb.out h3 ⟨fun _ => .inr (h4.1 e), fun _ => rfl⟩⟩)
          clear h1 h2 h3 h4 h5 h6 h7
          cases tn with
          | false =>
            go_wp2_with fail
            go_roundw
            case rel => exact ⟨3, b, by omega, by simp, rfl, hide (⟨s.c, s.ls, s.tc, cm, false, k', HS.out.1, HLn.out, HLj.out, HMv2.out, .inr (.inr (.inr ⟨rfl, HOk.out, HS.out.2.1, ⟨c', HEb.out, HS.out.2.2⟩, HIf.out.1 (by simp)⟩))⟩), hide (HB.out.trans HBn.out), hide (HK.out.trans HKn.out)⟩
            case measure => simp [ivN]
          | true =>
            go_wp2_with fail
            go_roundw
            case rel => exact ⟨3, true, by omega, by simp, rfl, hide (⟨s.c, s.ls, s.tc, cm, false, k', HS.out.1, HLn.out, HLj.out, HMv2.out, .inr (.inr (.inr ⟨rfl, HOk.out, HS.out.2.1, ⟨c', HEb.out, HS.out.2.2⟩, (by simpa using HIf.out.2 (by simp))⟩))⟩), hide (HB.out.trans HBn.out), hide (HK.out.trans HKn.out)⟩
            case measure => simp [ivN]
        · obtain ⟨c', ls, tc, cm, un, k, hSA, hcl, hlj, hmv, hcase⟩ := HI.out
          rcases hcase with ⟨h, _⟩ | ⟨h, _⟩ | ⟨h, _⟩ | ⟨_, hok, hps, him, hif⟩
          · cases h
          · cases h
          · cases h
          have HS := hide hSA
          have HCl := hide (show ∀ t, (cm t).length ≤ n * (r + 1) from hcl)
          have HLj := hide hlj
          have HMv := hide hmv
          have HPs := hide hps
          have HIm := hide him
          have HIf := hide hif
          have HOk := hide hok
          clear hSA hcl hlj hmv hps him hif hok
          cases b with
          | true =>
            have hless := HIm.out.less HOk.out (HIf.out.1 rfl)
            go_wp2_with fail
            go_roundg (c'.mI + 1)
            case rel => exact ⟨c', r + 1, true, rfl, HB, HK, hide (.inl ⟨rfl, ⟨c', ls, tc, cm, un, k, HS.out, HCl.out, HLj.out, HMv.out, .inl ⟨rfl, rfl, HPs.out, rfl⟩⟩, fun c2 ⟨K, f⟩ => HCo.out c2 ⟨K + 1, c', HIm.out, HIf.out.1 (by simp), f⟩, Nat.le_refl _, by have := HMr.out.2; omega⟩)⟩
            case measure => have := HMr.out.1; omega
          | false =>
            go_wp2_with fail
            go_roundg 0
            case rel => exact ⟨c', r, false, rfl, HB, HK, hide (.inr ⟨rfl, by
              obtain ⟨K, f⟩ := HCo.out c' ⟨0, HIm.out, fun z => by have := HIf.out.2 z; cases this⟩
              exact ⟨K, ls, tc, cm, un, k, f, HS.out⟩⟩)⟩
            case measure => have := HMr.out.1; omega
theorem Tryz.info94 : (Tryz.prog.info? 94).map (fun i => (i.zero, i.size, i.bytes)) = some (some (.agg #[.int .i64 0, .int .i64 0, .int .i64 0, .int .i64 0, .int .i64 0, .int .i64 0, .int .i64 0, .slice none 0 0, .bool false, .bool false]), 10, 88) := by kernel_rfl
theorem RowF.set10 {w : World} {T g N q : Nat} {f : Nat → Value} (h : RowF w T g N f) (hq : q * 10 + 10 ≤ N) (v0 v1 v2 v3 v4 v5 v6 v7 v8 v9 : Value) :
    RowF ((((((((((w.setCell ⟨g, q * 10, none⟩ v0).setCell ⟨g, q * 10 + 1, none⟩ v1).setCell ⟨g, q * 10 + 2, none⟩ v2).setCell ⟨g, q * 10 + 3, none⟩ v3).setCell ⟨g, q * 10 + 4, none⟩ v4).setCell ⟨g, q * 10 + 5, none⟩ v5).setCell ⟨g, q * 10 + 6, none⟩ v6).setCell ⟨g, q * 10 + 7, none⟩ v7).setCell ⟨g, q * 10 + 8, none⟩ v8).setCell ⟨g, q * 10 + 9, none⟩ v9) T g N
      (fun j => if j / 10 = q then (if j % 10 = 0 then v0 else if j % 10 = 1 then v1 else if j % 10 = 2 then v2 else if j % 10 = 3 then v3 else if j % 10 = 4 then v4 else if j % 10 = 5 then v5 else if j % 10 = 6 then v6 else if j % 10 = 7 then v7 else if j % 10 = 8 then v8 else v9) else f j) := by
  refine ((((((((((h.set (j := q * 10) (by omega) v0).set (j := q * 10 + 1) (by omega) v1).set (j := q * 10 + 2) (by omega) v2).set (j := q * 10 + 3) (by omega) v3).set (j := q * 10 + 4) (by omega) v4).set (j := q * 10 + 5) (by omega) v5).set (j := q * 10 + 6) (by omega) v6).set (j := q * 10 + 7) (by omega) v7).set (j := q * 10 + 8) (by omega) v8).set (j := q * 10 + 9) (by omega) v9).congr (fun j _ => ?_)
  by_cases e : j / 10 = q
  · rw [if_pos e]
    have hr : j % 10 < 10 := Nat.mod_lt _ (by omega)
    have hj : j = q * 10 + j % 10 := by omega
    generalize j % 10 = r at hr hj ⊢
    subst hj
    have : r = 0 ∨ r = 1 ∨ r = 2 ∨ r = 3 ∨ r = 4 ∨ r = 5 ∨ r = 6 ∨ r = 7 ∨ r = 8 ∨ r = 9 := by omega
    rcases this with rfl | rfl | rfl | rfl | rfl | rfl | rfl | rfl | rfl | rfl <;> simp
  · rw [if_neg e]
    simp only [if_neg (show ¬ j = q * 10 + 9 by omega), if_neg (show ¬ j = q * 10 + 8 by omega), if_neg (show ¬ j = q * 10 + 7 by omega), if_neg (show ¬ j = q * 10 + 6 by omega), if_neg (show ¬ j = q * 10 + 5 by omega), if_neg (show ¬ j = q * 10 + 4 by omega), if_neg (show ¬ j = q * 10 + 3 by omega), if_neg (show ¬ j = q * 10 + 2 by omega), if_neg (show ¬ j = q * 10 + 1 by omega), if_neg (show ¬ j = q * 10 by omega)]
theorem keeps10 (w : World) (g q : Nat) (v0 v1 v2 v3 v4 v5 v6 v7 v8 v9 : Value) : Keeps w ((((((((((w.setCell ⟨g, q * 10, none⟩ v0).setCell ⟨g, q * 10 + 1, none⟩ v1).setCell ⟨g, q * 10 + 2, none⟩ v2).setCell ⟨g, q * 10 + 3, none⟩ v3).setCell ⟨g, q * 10 + 4, none⟩ v4).setCell ⟨g, q * 10 + 5, none⟩ v5).setCell ⟨g, q * 10 + 6, none⟩ v6).setCell ⟨g, q * 10 + 7, none⟩ v7).setCell ⟨g, q * 10 + 8, none⟩ v8).setCell ⟨g, q * 10 + 9, none⟩ v9) (fun b => b = g) :=
  (((((((((k_set w g _ v0).trans (k_set _ g _ v1)).trans (k_set _ g _ v2)).trans (k_set _ g _ v3)).trans (k_set _ g _ v4)).trans (k_set _ g _ v5)).trans (k_set _ g _ v6)).trans (k_set _ g _ v7)).trans (k_set _ g _ v8)).trans (k_set _ g _ v9)
theorem LkA.drew' {w : World} {G n : Nat} {k : Lks} (h : LkA w G n k) : LkA w.drew G n k := h
def lkJ (p : PV) (j : Nat) : Lks :=
  { o := fun q => if q < j then p.i0 q else 0, a := fun q => if q < j then p.i1 q else 0, b := fun q => if q < j then p.i2 q else 0, x := fun q => if q < j then p.i3 q else 0, l := fun q => if q < j then p.l0 q else 0
    ah := fun q => if q < j then (q : Int) - 1 else 0, bh := fun q => if q < j then (q : Int) + 1 else 0, cv := fun _ => .slice none 0 0, rd := fun _ => false, gn := fun _ => false }
theorem lkJ_0 {w1 : World} {B n g : Nat} (p : PV) (h : w1.ownsRow B 94 10 (.slice (some ⟨g, 0, none⟩) n n) n (madeCells (Value.agg #[.int .i64 0, .int .i64 0, .int .i64 0, .int .i64 0, .int .i64 0, .int .i64 0, .int .i64 0, .slice none 0 0, .bool false, .bool false]).cells (n * 10)).toList) : LkA w1 g n (lkJ p 0) := by
  refine (rowF_owns h).congr (fun j hj => ?_)
  have : (madeCells (Value.agg #[.int .i64 0, .int .i64 0, .int .i64 0, .int .i64 0, .int .i64 0, .int .i64 0, .int .i64 0, .slice none 0 0, .bool false, .bool false]).cells (n * 10)).toList.getD j (.bool false) = (#[Value.int .i64 0, .int .i64 0, .int .i64 0, .int .i64 0, .int .i64 0, .int .i64 0, .int .i64 0, .slice none 0 0, .bool false, .bool false] : Array Value)[j % 10]! := by
    rw [show (Value.agg #[.int .i64 0, .int .i64 0, .int .i64 0, .int .i64 0, .int .i64 0, .int .i64 0, .int .i64 0, .slice none 0 0, .bool false, .bool false]).cells = #[Value.int .i64 0, .int .i64 0, .int .i64 0, .int .i64 0, .int .i64 0, .int .i64 0, .int .i64 0, .slice none 0 0, .bool false, .bool false] from rfl]
    unfold madeCells
    simp [List.getD_eq_getElem?_getD, hj]
  rw [this]
  unfold Lks.c lkJ Lks.at
  simp only [Nat.not_lt_zero, if_false]
  have hr : j % 10 < 10 := Nat.mod_lt _ (by omega)
  generalize j % 10 = r at hr ⊢
  have : r = 0 ∨ r = 1 ∨ r = 2 ∨ r = 3 ∨ r = 4 ∨ r = 5 ∨ r = 6 ∨ r = 7 ∨ r = 8 ∨ r = 9 := by omega
  rcases this with rfl | rfl | rfl | rfl | rfl | rfl | rfl | rfl | rfl | rfl <;> rfl
theorem lkJ_1 {w : World} {g n j : Nat} {p : PV} (h : LkA w g n (lkJ p j)) (hj : j < n) :
    LkA ((((((((((w.setCell ⟨g, j * 10, none⟩ (.int .i64 (p.i0 j))).setCell ⟨g, j * 10 + 1, none⟩ (.int .i64 (p.i1 j))).setCell ⟨g, j * 10 + 2, none⟩ (.int .i64 (p.i2 j))).setCell ⟨g, j * 10 + 3, none⟩ (.int .i64 (p.i3 j))).setCell ⟨g, j * 10 + 4, none⟩ (.int .i64 (p.l0 j))).setCell ⟨g, j * 10 + 5, none⟩ (.int .i64 ((j : Int) - 1))).setCell ⟨g, j * 10 + 6, none⟩ (.int .i64 ((j : Int) + 1))).setCell ⟨g, j * 10 + 7, none⟩ (.slice none 0 0)).setCell ⟨g, j * 10 + 8, none⟩ (.bool false)).setCell ⟨g, j * 10 + 9, none⟩ (.bool false)) g n (lkJ p (j + 1)) := by
  refine (RowF.set10 h (q := j) (by omega) _ _ _ _ _ _ _ _ _ _).congr (fun z hz => ?_)
  unfold Lks.c
  by_cases e : z / 10 = j
  · rw [if_pos e, e]
    unfold Lks.at lkJ
    simp only [if_pos (show j < j + 1 by omega)]
  · rw [if_neg e]
    unfold Lks.at lkJ
    have : (z / 10 < j) = (z / 10 < j + 1) := propext ⟨fun h => by omega, fun h => by omega⟩
    simp only [this]
def lk0 (p : PV) : Lks := { o := p.i0, a := p.i1, b := p.i2, x := p.i3, l := p.l0, ah := fun q => (q : Int) - 1, bh := fun q => (q : Int) + 1, cv := fun _ => .slice none 0 0, rd := fun _ => false, gn := fun _ => false }
set_option maxHeartbeats 3200000 in
set_option maxRecDepth 100000 in
theorem linked_any (p : PV) (s4 s5 s6 s7 : Value) (w : World) (hn : p.ni ≤ 65535) (hl : p.nl = p.ni) (h : PVA w p s4 s5 s6 s7) :
    Calls Tryz.prog 40 #[p.agg s4 s5 s6 s7] w fun e w' => ∃ G, e = .returned (.slice (some ⟨G, 0, none⟩) p.ni p.ni) ∧ w.heap.size ≤ G ∧ LkA w' G p.ni (lk0 p) ∧ Below w.heap.size w w' := by
  have h6 := h.i
  have h7 := h.l
  obtain ⟨a4, k4, rfl⟩ := h.u.val
  obtain ⟨a5, k5, rfl⟩ := h.c.val
  obtain ⟨a6, k6, rfl⟩ := h6.val
  obtain ⟨a7, k7, rfl⟩ := h7.val
  rw [hl] at h7
  have H6 := hide h6
  have H7 := hide h7
  obtain ⟨i9, hi0, hz0, hz1, hz2⟩ := info_parts Tryz.info94
  have HI0 := hide (And.intro hi0 (And.intro hz0 (And.intro hz1 hz2)))
  have hP := RowF.mk' w 45 #[.int .i64 p.params, .int .i64 p.regs, .int .i64 p.line, .bool p.dots, .slice a4 p.nu k4, .slice a5 p.nc k5, .slice a6 p.ni k6, .slice a7 p.nl k7]
  have HP := hide hP
  have HB0 := hide (b_1 w (.cells #[.int .i64 p.params, .int .i64 p.regs, .int .i64 p.line, .bool p.dots, .slice a4 p.nu k4, .slice a5 p.nc k5, .slice a6 p.ni k6, .slice a7 p.nl k7] 45))
  clear h h6 h7 hi0 hz0 hz1 hz2 hP
  rw [hl] at HP HB0
  unfold PV.agg
  rw [hl]
  go_enter Tryz.func40, Tryz.ntmps40
  go_upto_region 1 with (fail)
  have hPl := HP.out.lt
  generalize w.alloc (.cells #[.int .i64 p.params, .int .i64 p.regs, .int .i64 p.line, .bool p.dots, .slice a4 p.nu k4, .slice a5 p.nc k5, .slice a6 p.ni k6, .slice a7 p.ni k7] 45) = w0 at *
  obtain ⟨Z, hZ⟩ : ∃ Z, w.heap.size = Z := ⟨_, rfl⟩
  rw [hZ] at HP HB0 hPl ⊢
  have HZ := hide hZ
  have c6 : w0.cell? ⟨Z, 6, none⟩ = some (.slice a6 p.ni k6) := HP.out.cell (j := 6) (by simp)
  have hsz0 : Z ≤ w0.heap.size := by omega
  clear hZ
  go_upto_region 2 with (first
    | (at_make
       refine wpList_make_full _ rfl _ _ 88 rfl Z 94 i9 (.agg #[.int .i64 0, .int .i64 0, .int .i64 0, .int .i64 0, .int .i64 0, .int .i64 0, .int .i64 0, .slice none 0 0, .bool false, .bool false]) 10 Tryz.underlying88 HI0.out.1 HI0.out.2.1 HI0.out.2.2.1 _ _ _ _ p.ni rfl rfl rfl rfl (by rw [HI0.out.2.2.2]; omega) (by unfold maxLen; omega) hsz0 ?_
       intro w1 hown hgrow
       have hb1 : Below w0.heap.size w0 w1 := (Below.refl _ _).grown hgrow (Nat.le_refl _) (fun _ h => by cases h)
       have HB1 := hide hb1
       have HL0 := hide (lkJ_0 p hown)
       have HP1 := hide (HP.out.low hb1 hPl)
       clear hown hgrow hb1)
    | fail)
  clear c6
  have c6 : w1.cell? ⟨Z, 6, none⟩ = some (.slice a6 p.ni k6) := HP1.out.cell (j := 6) (by simp)
  obtain ⟨G, hG⟩ : ∃ G, w0.heap.size = G := ⟨_, rfl⟩
  rw [hG] at HL0 HB1 ⊢
  have HG := hide (show Z ≤ G from by omega)
  have hZG : Z ≠ G := by omega
  clear hG
  go_wp2_with fail
  clear c6
  go_loopw [13] (fun iv wr => ∃ j : Nat, j ≤ p.ni ∧ iv = .int .i64 (j : Int) ∧ Hid (LkA wr G p.ni (lkJ p j)) ∧ Hid (Keeps w1 wr (fun b => b = G))) (fun iv _ => p.ni - ivN iv)
  case atStart => exact ⟨0, Nat.zero_le _, rfl, HL0, hide (Keeps.refl _ _)⟩
  case round =>
    clear HL0
    obtain ⟨j, hj, rfl, HL, HK⟩ := hrel
    have hPr := HP1.out.keep HK.out hZG
    by_cases hjn : j < p.ni
    · have hbr : Below Z w wr := HB0.out.trans ((HB1.out.mono (by have := HG.out; omega)).trans (HK.out.below (B := Z) (by have := HG.out; have := HP1.out.lt; omega) (fun b e => by rw [e]; exact HG.out)))
      have h6 := H6.out.low hbr (by have := HZ.out; omega)
      have h7 := H7.out.low hbr (by have := HZ.out; omega)
      obtain ⟨b6, o6, q6, e6, hb6, c0, c1, c2, c3⟩ := ins_at h6 hjn
      cases e6
      obtain ⟨b7, o7, q7, e7, hb7, c7⟩ := ints_at h7 hjn
      cases e7
      have c77 : wr.cell? ⟨Z, 7, none⟩ = some (.slice (some ⟨b7, o7, none⟩) p.ni k7) := hPr.cell (j := 7) (by simp)
      have hX := RowF.mk' wr 51 #[.int .i64 (p.i0 j), .int .i64 (p.i1 j), .int .i64 (p.i2 j), .int .i64 (p.i3 j)]
      have hbX := b_1 wr (.cells #[.int .i64 (p.i0 j), .int .i64 (p.i1 j), .int .i64 (p.i2 j), .int .i64 (p.i3 j)] 51)
      have HLX := hide (show LkA _ G p.ni (lkJ p j) from RowF.low HL.out hbX HL.out.lt)
      have HKX := hide (HK.out.trans (Keeps.of hbX (Nat.le_refl _) _))
      have d7 := (hbX.cell (p := ⟨b7, o7 + j, none⟩) hb7).trans c7
      have d77 := (hbX.cell (p := ⟨Z, 7, none⟩) hPr.lt).trans c77
      have HX := hide hX
      clear hbr h6 h7 hX hbX hPr
      go_upto_region 5 with (fail)
      clear c0 c1 c2 c3 c7 c77
      generalize wr.alloc (.cells #[.int .i64 (p.i0 j), .int .i64 (p.i1 j), .int .i64 (p.i2 j), .int .i64 (p.i3 j)] 51) = wA at *
      generalize wr.heap.size = X at *
      have x0 : wA.cell? ⟨X, 0, none⟩ = some (.int .i64 (p.i0 j)) := HX.out.cell (j := 0) (by simp)
      have x1 : wA.cell? ⟨X, 1, none⟩ = some (.int .i64 (p.i1 j)) := HX.out.cell (j := 1) (by simp)
      have x2 : wA.cell? ⟨X, 2, none⟩ = some (.int .i64 (p.i2 j)) := HX.out.cell (j := 2) (by simp)
      have x3 : wA.cell? ⟨X, 3, none⟩ = some (.int .i64 (p.i3 j)) := HX.out.cell (j := 3) (by simp)
      have HLn := hide (lkJ_1 HLX.out hjn)
      have HKn := hide (HKX.out.trans (keeps10 wA G j (.int .i64 (p.i0 j)) (.int .i64 (p.i1 j)) (.int .i64 (p.i2 j)) (.int .i64 (p.i3 j)) (.int .i64 (p.l0 j)) (.int .i64 ((j : Int) - 1)) (.int .i64 ((j : Int) + 1)) (.slice none 0 0) (.bool false) (.bool false)))
      have l0 := LkA.o HLX.out hjn
      have l1 := LkA.a HLX.out hjn
      have l2 := LkA.b HLX.out hjn
      have l3 := LkA.x HLX.out hjn
      have l4 := LkA.l HLX.out hjn
      have l5 := LkA.ah HLX.out hjn
      have l6 := LkA.bh HLX.out hjn
      have l7 := LkA.cv HLX.out hjn
      have l8 := LkA.rd HLX.out hjn
      have l9 := LkA.gn HLX.out hjn
      have y0 := LkA.frz HLX.out (j * 10)
      have y1 := LkA.frz HLX.out (j * 10 + 1)
      have y2 := LkA.frz HLX.out (j * 10 + 2)
      have y3 := LkA.frz HLX.out (j * 10 + 3)
      have y4 := LkA.frz HLX.out (j * 10 + 4)
      have y5 := LkA.frz HLX.out (j * 10 + 5)
      have y6 := LkA.frz HLX.out (j * 10 + 6)
      have y7 := LkA.frz HLX.out (j * 10 + 7)
      have y8 := LkA.frz HLX.out (j * 10 + 8)
      have y9 := LkA.frz HLX.out (j * 10 + 9)
      have hw1 : wrap64 ((j : Int) - 1) = (j : Int) - 1 := by unfold wrap64; omega
      go_still_tail 13, mixedT
      go_wp2_with fail
      go_roundw
      case rel => exact ⟨j + 1, by omega, by simp, hide (LkA.drew' HLn.out), hide (keeps_drew HKn.out)⟩
      case measure => simp [ivN]; omega
    · obtain rfl : j = p.ni := by omega
      go_wp2_with fail
      go_ret
      refine ⟨G, rfl, by rw [HZ.out]; exact HG.out, HL.out.congr (fun q hq r _ => ?_), by rw [HZ.out]; exact HB0.out.trans ((HB1.out.mono (by have := HG.out; omega)).trans (HK.out.below (B := Z) (by have := HG.out; have := HP1.out.lt; omega) (fun b e => by rw [e]; exact HG.out)))⟩
      unfold Lks.at lkJ lk0
      simp only [if_pos hq]
end Go.Proofs.YtgnbhhgpaldheaaGreat
