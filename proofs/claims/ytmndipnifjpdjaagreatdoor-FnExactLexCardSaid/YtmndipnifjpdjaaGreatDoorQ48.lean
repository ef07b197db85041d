import Derived.Test.YtmndipnifjpdjaaGreatDoorQ15
import Derived.Test.YtmndipnifjpdjaaGreatDoorQ13
namespace Go.Proofs.YtmndipnifjpdjaaGreatDoor
open Go Go.RowKit
set_option linter.unusedVariables false
theorem escF_shift (f : Nat → Int) (n j : Nat) : escF f n j = escF (fun i => f (j + i)) (n - j) 0 := by
  unfold escF
  have e : (n ≤ j + 1) = (n - j ≤ 0 + 1) := by rw [eq_iff_iff]; omega
  simp only [e, Nat.zero_add]
theorem fr_fr (s : ByteArray) (p j : Nat) : (fun i => fr s p (j + i)) = fr s (p + j) := by
  funext i
  unfold fr
  rw [Nat.add_assoc]
theorem escF_at (s : ByteArray) (p j : Nat) : escF (fr s p) (s.size - p) j = escF (fr s (p + j)) (s.size - (p + j)) 0 := by
  rw [escF_shift, fr_fr, Nat.sub_sub]
def QFwd (s : ByteArray) (p j : Nat) (l : List Int) : Prop := ∀ r, Quo (fr s p) (s.size - p) (hb s p) j l r → Quo (fr s p) (s.size - p) (hb s p) 1 [] r
def Bytes (l : List Int) : Prop := ∀ c ∈ l, 0 ≤ c ∧ c < 256
theorem Bytes.snoc {l : List Int} {c : Int} (h : Bytes l) (h0 : 0 ≤ c) (h1 : c < 256) : Bytes (l ++ [c]) := by
  intro d hd
  rcases List.mem_append.1 hd with g | g
  · exact h d g
  · simp at g; subst g; exact ⟨h0, h1⟩
def QuoR (s : ByteArray) (S p : Nat) (v : Value) (fl fa : Int) (w : World) (e : Ending) (w' : World) : Prop :=
  (∃ l k, Quo (fr s p) (s.size - p) (hb s p) 1 [] (.inl (l, k)) ∧ 2 ≤ k ∧ p + k ≤ s.size ∧ e = .returned (.string (bytesOf l)) ∧ Lx s S (p + k) v 0 fl fa w' ∧ w.grownBy w' (some S)) ∨
  (∃ c o p' x, Quo (fr s p) (s.size - p) (hb s p) 1 [] (.inr (c, o)) ∧ c ≠ 0 ∧ e = .returned (.string x) ∧ Lx s S p' v c ((nlc s (p + o) : Int) + 1) ((p + o : Nat) : Int) w' ∧ w.grownBy w' (some S))
set_option maxHeartbeats 8000000 in
set_option maxRecDepth 100000 in
theorem quoted_any (s : ByteArray) (S p : Nat) (v : Value) (fl fa : Int) (w : World) (hx : Lx s S p v 0 fl fa w) (hs : s.size ≤ 32768) (hp : p < s.size) (hq : hb s p = 34 ∨ hb s p = 39) :
    Calls Tryz.prog 39 #[.pointer (some ⟨S, 0, none⟩)] w fun e w' => QuoR s S p v fl fa w e w' := by
  have Hx := hide hx
  have HQ := hide hq
  clear hq
  have hnl := nlc_le s p
  have Hlt := hide hx.lt
  obtain ⟨c0, c1, c2, c3, c4, c5, c6, z1, z2, z3, z4, z5, z6⟩ := hx.cells
  clear hx
  go_enter Tryz.func39, Tryz.ntmps39
  go_wp2_with fail
  refine (here_any s S p 0 v 0 fl fa _ Hx.out hs (by omega) (by omega)).mono ?_
  rintro e w1 ⟨rfl, m0, rfl⟩
  rw [Nat.add_zero]
  obtain ⟨qt, hqt⟩ : ∃ qt, hb s p = qt := ⟨_, rfl⟩
  have HQT := hide hqt
  have HQ2 : Hid (qt = 34 ∨ qt = 39) := hide (by rw [← hqt]; exact HQ.out)
  rw [hqt]
  clear hqt HQ
  go_wp2_with fail
  clear c0 c1 c2 c3 c4 c5 c6 z1 z2 z3 z4 z5 z6
  refine (step_any s S p 1 v 0 fl fa _ (Hx.out.drw _) hs (by omega)).mono ?_
  rintro e w2 ⟨rfl, hx2, hg2⟩
  have HX2 := hide hx2
  have HG2 := hide (grown_trans (grown_drewN w (some S) _) hg2)
  clear hx2 hg2
  obtain ⟨B, hB⟩ : ∃ B, w2.heap.size = B := ⟨_, rfl⟩
  have HB := hide hB
  have HSB : Hid (S < B) := hide (by rw [← hB]; exact HX2.out.lt)
  have HwB : Hid (w.heap.size ≤ B) := hide (by rw [← hB]; exact HG2.out.size)
  clear hB
  go_wp2
  rw [HB.out]
  go_loopg [6, 7] (s.size + 1 - (p + 1)) (fun gk ov _ wr => (∃ (j : Nat) (l : List Int), gk + (p + j) = s.size + 1 ∧ p + j ≤ s.size ∧ B ≤ wr.heap.size ∧ 1 ≤ j ∧ l.length ≤ j ∧ Hid (QFwd s p j l) ∧ Hid (Bytes l) ∧ Hid (OwnQ wr B ov l) ∧ Hid (Lx s S (p + j) v 0 fl fa wr) ∧ Hid (w.grownBy wr (some S))) ∨
    (∃ (j : Nat) (l : List Int), Hid (Quo (fr s p) (s.size - p) (hb s p) 1 [] (.inr (4, j))) ∧ Hid (Bytes l) ∧ Hid (OwnQ wr B ov l) ∧ Hid (Lx s S (p + j) v 4 ((nlc s (p + j) : Int) + 1) ((p + j : Nat) : Int) wr) ∧ Hid (w.grownBy wr (some S))))
  case atStart =>
    exact .inl ⟨1, [], by omega, by omega, by rw [← HB.out]; simp, by omega, by simp, hide (fun r h => h), hide (fun c hc => by cases hc), hide (by have := ownQ_empty w2; rw [HB.out] at this; exact this), hide (HX2.out.low ((Below.refl _ _).alloc (Nat.le_refl _) _)), hide (grown_trans HG2.out (grown_low ((Below.refl _ _).alloc (Nat.le_refl _) _)))⟩
  case round =>
    rcases hrel with ⟨j, l, hgk, hpj, hBw, hj1, hlj, HF, HL, HO, HX, HG⟩ | ⟨j, l, HQn, HL, HO, HX, HG⟩
    · obtain ⟨c0, c1, c2, c3, c4, c5, c6, z1, z2, z3, z4, z5, z6⟩ := HX.out.cells
      go_wp2_with fail
      clear c0 c1 c2 c3 c4 c5 c6 z1 z2 z3 z4 z5 z6
      refine (ended_any s S (p + j) v 0 fl fa wr HX.out hs (by omega)).mono ?_
      rintro e w1 ⟨rfl, q1, rfl⟩
      by_cases hend : s.size ≤ p + j
      · have hd : decide (s.size ≤ p + j) = true := by simpa using hend
        rw [hd]
        have HQn := hide (HF.out _ (.open_ (.inl (by omega))))
        go_wp2_with fail
        refine (bad_any s S (p + j) v 0 fl fa 3 _ _ _ (HX.out.drw _)).mono ?_
        rintro e w3 ⟨rfl, hx3, hg3⟩
        have HX3 := hide hx3
        have HG3 := hide (grown_trans (gdr HG.out _) hg3)
        have HO3 := hide ((HO.out.drw q1).beside hg3 HSB.out)
        clear hx3 hg3
        have hcv := bytes_back HO3.out HL.out
        go_wp2
        go_ret
        exact .inr ⟨3, 0, p + j, bytesOf l, HQn.out, by decide, rfl, HX3.out, HG3.out⟩
      · have hd : decide (s.size ≤ p + j) = false := by simpa using hend
        rw [hd]
        go_wp2_with fail
        refine (here_any s S (p + j) 0 v 0 fl fa _ (HX.out.drw _) hs (by omega) (by omega)).mono ?_
        rintro e w1 ⟨rfl, q2, rfl⟩
        rw [Nat.add_zero]
        obtain ⟨c, hc⟩ : ∃ c, hb s (p + j) = c := ⟨_, rfl⟩
        have hrc := hb_rng s (p + j)
        have Hc : Hid (fr s p j = c) := hide hc
        have HC2 := hide hc
        rw [hc] at hrc ⊢
        clear hc
        have hlt : p + j < s.size := by omega
        by_cases h10 : c = 10
        · subst h10
          have HQn := hide (HF.out _ (.open_ (.inr Hc.out)))
          go_wp2_with fail
          refine (bad_any s S (p + j) v 0 fl fa 3 _ _ _ (HX.out.drw _)).mono ?_
          rintro e w3 ⟨rfl, hx3, hg3⟩
          have HX3 := hide hx3
          have HG3 := hide (grown_trans (gdr HG.out _) hg3)
          have HO3 := hide ((HO.out.drw (q1 + q2)).beside hg3 HSB.out)
          clear hx3 hg3
          have hcv := bytes_back HO3.out HL.out
          go_wp2
          go_ret
          exact .inr ⟨3, 0, p + j, bytesOf l, HQn.out, by decide, rfl, HX3.out, HG3.out⟩
        · have hq10 := bq_f h10
          have H10 := hide h10
          clear h10
          go_wp2_with fail
          refine (here_any s S (p + j) 0 v 0 fl fa _ (HX.out.drw _) hs (by omega) (by omega)).mono ?_
          rintro e w1 ⟨rfl, q3, rfl⟩
          rw [Nat.add_zero, HC2.out]
          by_cases hqe : c = qt
          · have hqq := bq_t hqe
            have HQn := hide (HF.out _ (.close (by omega) (by rw [Hc.out, HQT.out]; exact hqe)))
            clear hqe
            go_wp2_with fail
            refine (step_any s S (p + j) 1 v 0 fl fa _ (HX.out.drw _) hs (by omega)).mono ?_
            rintro e w3 ⟨rfl, hx3, hg3⟩
            have HX3 := hide hx3
            have HG3 := hide (grown_trans (gdr HG.out _) hg3)
            have HO3 := hide ((HO.out.drw (q1 + q2 + q3)).beside hg3 HSB.out)
            clear hx3 hg3
            have hcv := bytes_back HO3.out HL.out
            go_wp2
            go_ret
            exact .inl ⟨l, j + 1, HQn.out, by omega, by omega, rfl, HX3.out, HG3.out⟩
          · have hqq := bq_f hqe
            have HQE := hide hqe
            clear hqe
            by_cases h92 : c = 92
            · subst h92
              go_wp2_with fail
              refine (escape_any s S (p + j) v 0 fl fa _ (HX.out.drw _) hs hlt).mono ?_
              rintro e w3 (⟨b, k, g, he, hb0, hb1, hk2, hpk, rfl, hblk, hgg, hx3, hg3⟩ | ⟨he, rfl, hx3, hg3⟩)
              · have HX3 := hide hx3
                have HO3 := hide ((HO.out.drw _).beside hg3 HSB.out)
                have HG3 := hide (grown_trans (gdr HG.out _) hg3)
                have HF2 : Hid (QFwd s p (j + k) (l ++ [b])) := hide (fun r hr => HF.out r (.esc (by omega) Hc.out (by rw [escF_at]; exact he) hr))
                have HL2 := hide (HL.out.snoc hb0 hb1)
                have hcell : w3.cell? ⟨g, 0, none⟩ = some (.int .u8 b) := by simp [World.cell?, hblk]
                have hBs : B ≤ w3.heap.size := Nat.le_trans hBw hg3.size
                clear hx3 hg3 he hblk
                go_wp2_with (first | (at_builtin; refine app_q rfl _ _ rfl B g _ l b HO3.out hcell rfl rfl (by omega) hBs ?_; intro v' w4 hO4 hg4; have HX4 := hide (HX3.out.own HO3.out hg4 HSB.out); have HG4 := hide (grown_own HG3.out HO3.out hg4 HwB.out); have HO4 := hide hO4; have hB4 : B ≤ w4.heap.size := Nat.le_trans hBs hg4.size; clear hO4 hg4) | fail)
                go_roundg (s.size + 1 - (p + (j + k)))
                case rel => exact .inl ⟨j + k, l ++ [b], by omega, by omega, hB4, by omega, by simp; omega, HF2, HL2, HO4, (by rw [← Nat.add_assoc]; exact HX4), HG4⟩
                case measure => omega
              · have HX3 := hide hx3
                have HO3 := hide ((HO.out.drw _).beside hg3 HSB.out)
                have HG3 := hide (grown_trans (gdr HG.out _) hg3)
                have HQn := hide (HF.out _ (.badEsc (by omega) Hc.out (by rw [escF_at]; exact he)))
                have hi5 := info_parts Tryz.info5
                obtain ⟨i0, hi, hz0, hz1, hz2⟩ := hi5
                have Hi := hide hi
                clear hx3 hg3 he hi hz0 hz1 hz2
                go_wp2_with (first | (at_builtin; refine wpList_append_own_none rfl _ _ 33 rfl B 5 i0 1 Tryz.underlying33 Hi.out _ l.length _ rfl HO3.out rfl ?_) | fail)
                go_roundg 0
                case rel => exact .inr ⟨j, l, HQn, HL, HO3, HX3, HG3⟩
                case measure => omega
            · have hq92 := bq_f h92
              have HF2 : Hid (QFwd s p (j + 1) (l ++ [c])) := hide (fun r hr => HF.out r (.plain (by omega) (by rw [Hc.out, HQT.out]; exact HQE.out) (by rw [Hc.out]; exact H10.out) (by rw [Hc.out]; exact h92) (by rw [Hc.out]; exact hr)))
              have HL2 := hide (HL.out.snoc hrc.1 hrc.2)
              clear h92
              go_wp2_with (first | (at_builtin; refine app_qa rfl _ _ rfl B _ l c (HO.out.drw _) rfl rfl (by omega) hBw ?_; intro v' w4 hO4 hg4; have HX4 := hide ((HX.out.drw _).own (HO.out.drw _) hg4 HSB.out); have HG4 := hide (grown_own (gdr HG.out _) (HO.out.drw _) hg4 HwB.out); have HO4 := hide hO4; have hB4 : B ≤ w4.heap.size := Nat.le_trans hBw hg4.size; clear hO4 hg4) | fail)
              refine (step_any s S (p + j) 1 v 0 fl fa _ HX4.out hs (by omega)).mono ?_
              rintro e w5 ⟨rfl, hx5, hg5⟩
              have HX5 := hide hx5
              have HG5 := hide (grown_trans HG4.out hg5)
              have HO5 := hide (HO4.out.beside hg5 HSB.out)
              have hB5 : B ≤ w5.heap.size := Nat.le_trans hB4 hg5.size
              clear hx5 hg5
              go_wp2
              go_roundg (s.size + 1 - (p + (j + 1)))
              case rel => exact .inl ⟨j + 1, l ++ [c], by omega, by omega, hB5, by omega, by simp; omega, HF2, HL2, HO5, (by rw [← Nat.add_assoc]; exact HX5), HG5⟩
              case measure => omega
    · have hcv := bytes_back HO.out HL.out
      obtain ⟨c0, c1, c2, c3, c4, c5, c6, z1, z2, z3, z4, z5, z6⟩ := HX.out.cells
      go_wp2
      go_ret
      exact .inr ⟨4, j, p + j, bytesOf l, HQn.out, by decide, rfl, HX.out, HG.out⟩
end Go.Proofs.YtmndipnifjpdjaaGreatDoor
