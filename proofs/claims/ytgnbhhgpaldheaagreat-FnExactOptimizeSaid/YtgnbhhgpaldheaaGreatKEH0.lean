import Derived.Test.YtgnbhhgpaldheaaGreatKEG
namespace Go.Proofs.YtgnbhhgpaldheaaGreat
open Go Go.RowKit Go.Shelf
set_option linter.unusedVariables false
def OutSt (G S lm tm n : Nat) (i2 : Nat → Int) (un : Bool) (k0 : Lks) (s : Ou) (w : World) : Prop :=
  ∃ k : Lks, LkA w G n k ∧ LkR k n s.c i2 ∧ ShR w S (s.c.nf 0) lm tm un ∧ SetM w lm n s.ls ∧ SetM w tm n s.tc ∧ k.cv = k0.cv ∧ k.x = k0.x ∧ k.l = k0.l ∧ k.rd = k0.rd
def OuS (G S lm tm : Nat) (b : Nat) : Prop := b = G ∨ b = S ∨ b = tm ∨ b = lm
def Ou.cmJ (s : Ou) (p : Nat) (l : List Nat) (k : Lks) : Lks := { k with b := fun q => if q ∈ l then (s.c.nx p : Int) else k.b q }
theorem one_nf (cm : Nat → List Nat) (s : Ou) (p q : Nat) : (s.one cm p).c.nf q = (s.c.dr1 p).nf q := Cf.nf_congr (c := s.c.dr1 p) (d := (s.one cm p).c) rfl (fun _ _ => rfl) q
theorem one_pv (cm : Nat → List Nat) (s : Ou) (p q : Nat) : (s.one cm p).c.pv q = (s.c.dr1 p).pv q := pv_same (fun _ _ => rfl)
theorem LkR.one {k : Lks} {n : Nat} {i2 : Nat → Int} {s : Ou} {cm : Nat → List Nat} {p : Nat} (h : LkR k n s.c i2) (hp : s.c.L p) (hcj : ∀ q ∈ cm p, q < n ∧ jmp (s.c.op q) = true) :
    LkR (s.cmJ p (cm p) (({ k with gn := upB k.gn p true } : Lks).jn n (s.c.pv p) (s.c.nx p))) n (s.one cm p).c i2 := by
  have hpn : p < n := by rw [← h.en]; exact hp.1
  refine ⟨h.en, h.eo, h.ea, fun q hq => ?_, fun q hq => ?_, fun q hq => ?_, fun q hq => ?_⟩
  · show (if q ∈ cm p then (s.c.nx p : Int) else k.b q) = goals s.c.op i2 (s.one cm p).c q
    unfold goals
    show _ = if jmp (s.c.op q) = true then ((if q ∈ cm p then s.c.nx p else s.c.b q : Nat) : Int) else i2 q
    by_cases e : q ∈ cm p
    · rw [if_pos e, if_pos (hcj q e).2, if_pos e]
    · rw [if_neg e, if_neg e, h.eb q hq]
      rfl
  · have hq' : (s.c.dr1 p).L q := hq
    obtain ⟨q1, q2⟩ := dr1_L.1 hq'
    have e1 : ((s.one cm p).c.nx q : Int) = ((s.c.dr1 p).nx q : Int) := by
      show ((s.one cm p).c.nf (q + 1) : Int) = _
      rw [one_nf]; rfl
    rw [e1, dr1_nx hp q1]
    show (match s.c.pv p with | none => k.bh | some z => upI k.bh z (s.c.nx p : Int)) q = _
    cases e : s.c.pv p with
    | none => simp [h.ebh q q1]
    | some z =>
      show upI k.bh z (s.c.nx p : Int) q = _
      unfold upI
      by_cases d : q = z
      · subst d; simp
      · rw [if_neg d, if_neg (fun c => d (by cases c; rfl)), h.ebh q q1]
  · have hq' : (s.c.dr1 p).L q := hq
    obtain ⟨q1, q2⟩ := dr1_L.1 hq'
    have e1 : pvI (s.one cm p).c q = pvI (s.c.dr1 p) q := by unfold pvI; rw [one_pv]
    rw [e1]
    have e2 := dr1_pv hp q1 q2
    show (if s.c.nx p < n then upI k.ah (s.c.nx p) (match s.c.pv p with | none => -1 | some z => (z : Int)) else k.ah) q = _
    have e3 : pvI (s.c.dr1 p) q = if s.c.nx p = q then pvI s.c p else pvI s.c q := by
      unfold pvI
      rw [e2]
      by_cases d : s.c.nx p = q
      · rw [if_pos d, if_pos d]
      · rw [if_neg d, if_neg d]
    rw [e3]
    by_cases hlt : s.c.nx p < n
    · rw [if_pos hlt]
      unfold upI
      by_cases d : q = s.c.nx p
      · rw [if_pos d, if_pos d.symm]; rfl
      · rw [if_neg d, if_neg (fun c => d c.symm), h.eah q q1]
    · rw [if_neg hlt, if_neg (fun c => hlt (by rw [c, ← h.en]; exact q1.1)), h.eah q q1]
  · show upB k.gn p true q = !(s.c.lf q && !(q == p))
    unfold upB
    by_cases d : q = p
    · subst d; simp
    · rw [if_neg d, h.egn q hq]; simp [d]
theorem cmJ_nil (s : Ou) (p : Nat) (k : Lks) : s.cmJ p [] k = k := by unfold Ou.cmJ; simp
theorem LkA.cmJ {w : World} {G n : Nat} {s : Ou} {p : Nat} {l : List Nat} {k : Lks} {q : Nat} (h : LkA w G n (s.cmJ p l k)) (hq : q < n) : LkA (w.setCell ⟨G, q * 10 + 2, none⟩ (.int .i64 (s.c.nx p : Int))) G n (s.cmJ p (l ++ [q]) k) := by
  refine (h.setb hq (s.c.nx p : Int)).congr (fun z _ r _ => ?_)
  unfold Lks.at Ou.cmJ upI
  by_cases c : r = 2
  · subst c
    by_cases d : z = q
    · subst d; simp
    · simp [d]
  · simp [c]
end Go.Proofs.YtgnbhhgpaldheaaGreat
