import Derived.Deep.LoopGhost
import Derived.Test.YtmndipnifjpdjaaGreatDoorQ12
import Derived.Laws.AppendOwnNone
namespace Go.Proofs.YtmndipnifjpdjaaGreatDoor
open Go Go.RowKit
set_option linter.unusedVariables false
def LongR (s : ByteArray) (S p : Nat) (v : Value) (fc fl fa : Int) (w : World) (e : Ending) (w' : World) : Prop :=
  (e = .returned (.tuple #[.string ⟨#[]⟩, .bool false]) ∧ (¬ ∃ n, LongOpen (fr s p) n) ∧ Lx s S p v fc fl fa w' ∧ w.grownBy w' (some S)) ∨
  (∃ n c, LongOpen (fr s p) n ∧ FirstClose (fr s p) n c ∧ p + (c + n + 1) ≤ s.size ∧ e = .returned (.tuple #[.string (s.extract (p + longFrom (fr s p) n) (p + c)), .bool true]) ∧ Lx s S (p + (c + n + 1)) v fc fl fa w' ∧ w.grownBy w' (some S)) ∨
  (∃ n p', LongOpen (fr s p) n ∧ NoClose (fr s p) n ∧ e = .returned (.tuple #[.string ⟨#[]⟩, .bool true]) ∧ Lx s S p' v 6 ((nlc s p : Int) + 1) p w' ∧ w.grownBy w' (some S))
theorem longR_a {s : ByteArray} {S p : Nat} {v : Value} {fc fl fa : Int} {w w' : World} (h1 : ¬ ∃ n, LongOpen (fr s p) n) (h2 : Lx s S p v fc fl fa w') (h3 : w.grownBy w' (some S)) :
    LongR s S p v fc fl fa w (.returned (.tuple #[.string ⟨#[]⟩, .bool false])) w' := .inl ⟨rfl, h1, h2, h3⟩
theorem longR_b {s : ByteArray} {S p n c : Nat} {v : Value} {fc fl fa : Int} {w w' : World} (h1 : LongOpen (fr s p) n) (h2 : FirstClose (fr s p) n c) (hc : p + (c + n + 1) ≤ s.size) (h3 : Lx s S (p + (c + n + 1)) v fc fl fa w') (h4 : w.grownBy w' (some S)) :
    LongR s S p v fc fl fa w (.returned (.tuple #[.string (s.extract (p + longFrom (fr s p) n) (p + c)), .bool true])) w' := .inr (.inl ⟨n, c, h1, h2, hc, rfl, h3, h4⟩)
theorem longR_c {s : ByteArray} {S p p' n : Nat} {v : Value} {fc fl fa : Int} {w w' : World} (h1 : LongOpen (fr s p) n) (h2 : NoClose (fr s p) n) (h3 : Lx s S p' v 6 ((nlc s p : Int) + 1) p w') (h4 : w.grownBy w' (some S)) :
    LongR s S p v fc fl fa w (.returned (.tuple #[.string ⟨#[]⟩, .bool true])) w' := .inr (.inr ⟨n, p', h1, h2, rfl, h3, h4⟩)
theorem no_long1 {f : Nat → Int} (h : f 0 ≠ 91) : ¬ ∃ n, LongOpen f n := fun ⟨n, hn⟩ => h hn.2.1
theorem no_long2 {f : Nat → Int} {n : Nat} (h1 : 1 ≤ n) (h2 : ∀ j, 1 ≤ j → j < n → f j = 61) (h3 : f n ≠ 61) (h4 : f n ≠ 91) : ¬ ∃ n, LongOpen f n := by
  rintro ⟨m, hm⟩
  rcases Nat.lt_trichotomy n m with g | g | g
  · exact h3 (hm.2.2.1 n h1 g)
  · subst g; exact h4 hm.2.2.2
  · have := h2 m hm.1 g; rw [hm.2.2.2] at this; omega
theorem close_no1 {f : Nat → Int} {n c : Nat} (h : f c ≠ 93) : ¬ CloseAt f n c := fun g => h g.1
theorem close_no2 {f : Nat → Int} {n c k : Nat} (h1 : 1 ≤ k) (h2 : ∀ j, 1 ≤ j → j < k → f (c + j) = 61) (h3 : f (c + k) ≠ 61) (h4 : k ≠ n ∨ f (c + k) ≠ 93) (hn : 1 ≤ n) : ¬ CloseAt f n c := by
  intro g
  rcases Nat.lt_trichotomy n k with a | a | a
  · have := h2 n hn a; rw [g.2.2] at this; omega
  · subst a; rcases h4 with h4 | h4
    · exact h4 rfl
    · exact h4 g.2.2
  · exact h3 (g.2.1 k h1 a)
def Sofar (f : Nat → Int) (n c : Nat) : Prop := ∀ c', n + 1 ≤ c' → c' < c → ¬ CloseAt f n c'
theorem Sofar.next {f : Nat → Int} {n c : Nat} (h : Sofar f n c) (h' : ¬ CloseAt f n c) : Sofar f n (c + 1) := by
  intro c' h1 h2
  by_cases e : c' = c
  · subst e; exact h'
  · exact h c' h1 (by omega)
theorem sofar_from (f : Nat → Int) (n : Nat) : Sofar f n (longFrom f n) := by
  intro c' h1 h2
  unfold longFrom at h2
  split at h2
  · obtain rfl : c' = n + 1 := by omega
    intro g
    have := g.1
    omega
  · omega
theorem sofar_none {s : ByteArray} {p n c : Nat} (h : Sofar (fr s p) n c) (hc : s.size ≤ p + c) : NoClose (fr s p) n := by
  intro c' h1 g
  by_cases e : c' < c
  · exact h c' h1 e g
  · have := g.1
    have e2 : hb s (p + c') = 0 := hb_out (by omega)
    unfold fr at this
    omega
set_option maxHeartbeats 4000000 in
theorem long_any (s : ByteArray) (S p : Nat) (v : Value) (fc fl fa : Int) (w : World) (hx : Lx s S p v fc fl fa w) (hs : s.size ≤ 32768) (hp : p ≤ s.size) :
    Calls Tryz.prog 32 #[.pointer (some ⟨S, 0, none⟩)] w fun e w' => LongR s S p v fc fl fa w e w' := by
  have Hx := hide hx
  clear hx
  go_enter Tryz.func32, Tryz.ntmps32
  go_wp2
  go_loopw [4] (fun nv wr => ∃ n m : Nat, 1 ≤ n ∧ p + n ≤ s.size + 1 ∧ nv = .int .i64 n ∧ Hid (∀ j, 1 ≤ j → j < n → fr s p j = 61) ∧ wr = w.drewN m) (fun nv _ => s.size + 2 - (intOf nv).toNat)
  case atStart => exact ⟨1, 0, Nat.le_refl _, by omega, rfl, hide (fun j h1 h2 => by omega), rfl⟩
  case round =>
    obtain ⟨n, m, hn1, hn2, rfl, Hq, rfl⟩ := hrel
    go_wp2_with fail
    refine (here_any s S p n v fc fl fa _ (Hx.out.drw m) hs hp (by omega)).mono ?_
    rintro e w1 ⟨rfl, m1, rfl⟩
    by_cases h61 : hb s (p + n) = 61
    · have hlt : p + n < s.size := hb_lt (by omega)
      have HQ2 : Hid (∀ j, 1 ≤ j → j < n + 1 → fr s p j = 61) := hide (fun j h1 h2 => by
        by_cases e : j = n
        · subst e; exact h61
        · exact Hq.out j h1 (by omega))
      rw [h61]
      clear h61
      go_wp2
      go_roundw
      case rel => exact ⟨n + 1, m + m1, by omega, by omega, rfl, HQ2, rfl⟩
      case measure => simp [intOf]; omega
    · have hq : (hb s (p + n) == 61) = false := by simpa using h61
      have H61 := hide h61
      clear h61
      go_wp2_with fail
      refine (here_any s S p 0 v fc fl fa _ (Hx.out.drw _) hs hp (by omega)).mono ?_
      rintro e w1 ⟨rfl, m2, rfl⟩
      rw [Nat.add_zero]
      by_cases h0 : hb s p = 91
      · rw [h0]
        have H0 := hide h0
        clear h0
        go_wp2_with fail
        refine (here_any s S p n v fc fl fa _ (Hx.out.drw _) hs hp (by omega)).mono ?_
        rintro e w1 ⟨rfl, m3, rfl⟩
        by_cases h91 : hb s (p + n) = 91
        · rw [h91] at hq ⊢
          have hlt : p + n < s.size := hb_lt (by omega)
          have HO : Hid (LongOpen (fr s p) n) := hide ⟨hn1, H0.out, Hq.out, h91⟩
          have hnl := nlc_le s p
          obtain ⟨c0, c1, c2, c3, c4, c5, c6, z1, z2, z3, z4, z5, z6⟩ := Hx.out.cells
          clear h91 H61 Hq H0
          go_wp2_with fail
          clear c0 c1 c2 c3 c4 c5 c6 z1 z2 z3 z4 z5 z6
          refine (step_any s S p (n + 1) v fc fl fa _ (Hx.out.drw _) hs (by omega)).mono ?_
          rintro e w2 ⟨rfl, hx2, hg2⟩
          have HX2 := hide hx2
          have HG2 := hide (grown_trans (grown_drewN w (some S) _) hg2)
          clear hx2 hg2 Hx
          go_wp2_with fail
          refine (here_any s S (p + (n + 1)) 0 v fc fl fa _ HX2.out hs (by omega) (by omega)).mono ?_
          rintro e w1 ⟨rfl, m4, rfl⟩
          rw [Nat.add_zero]
          by_cases h10 : hb s (p + (n + 1)) = 10
          · have HF : Hid (longFrom (fr s p) n = n + 2) := hide (by unfold longFrom; rw [if_pos (by exact h10)])
            have hlt2 : p + (n + 1) < s.size := hb_lt (by omega)
            rw [h10]
            clear h10
            go_wp2_with fail
            refine (step_any s S (p + (n + 1)) 1 v fc fl fa _ (HX2.out.drw _) hs (by omega)).mono ?_
            rintro e w3 ⟨rfl, hx3, hg3⟩
            have HXF : Hid (Lx s S (p + (n + 2)) v fc fl fa w3) := hide hx3
            have HGF := hide (grown_trans (gdr HG2.out _) hg3)
            clear hx3 hg3
            obtain ⟨c0, c1, c2, c3, c4, c5, c6, z1, z2, z3, z4, z5, z6⟩ := HXF.out.cells
            go_wp2
            clear c0 c1 c2 c3 c4 c5 c6 z1 z2 z3 z4 z5 z6
            go_loopg [8] (s.size - (n + 2)) (fun gk _ wr => ∃ c : Nat, gk + c = s.size ∧ p + c ≤ s.size ∧ n + 1 ≤ c ∧ Hid (longFrom (fr s p) n ≤ c) ∧ Hid (Sofar (fr s p) n c) ∧ Hid (Lx s S (p + c) v fc fl fa wr) ∧ Hid (w.grownBy wr (some S)))
            case atStart => exact ⟨n + 2, by omega, by omega, by omega, hide (by rw [HF.out]; exact Nat.le_refl _), hide (by have := sofar_from (fr s p) n; rw [HF.out] at this; exact this), hide HXF.out, hide HGF.out⟩
            case round =>
              obtain ⟨c, hgk, hpc, hc1, Hfc, HSo, HXc, HGc⟩ := hrel
              go_wp2_with fail
              refine (ended_any s S (p + c) v fc fl fa wr HXc.out hs hpc).mono ?_
              rintro e w1 ⟨rfl, q1, rfl⟩
              by_cases hend : s.size ≤ p + c
              · have hd : decide (s.size ≤ p + c) = true := by simpa using hend
                rw [hd]
                have HNo := hide (sofar_none HSo.out hend)
                go_wp2_with fail
                refine (bad_any s S (p + c) v fc fl fa 6 _ _ _ (HXc.out.drw _)).mono ?_
                rintro e w3 ⟨rfl, hx3, hg3⟩
                have HX3 := hide hx3
                have HG3 := hide (grown_trans (gdr HGc.out _) hg3)
                clear hx3 hg3
                go_wp2
                refine bodyPost_ret (v := .tuple #[.string ⟨#[]⟩, .bool true]) (by simp [results, Tryz.results32, go_sem]) rfl ?_
                exact longR_c HO.out HNo.out HX3.out HG3.out
              · have hd : decide (s.size ≤ p + c) = false := by simpa using hend
                rw [hd]
                go_wp2_with fail
                refine (here_any s S (p + c) 0 v fc fl fa _ (HXc.out.drw _) hs hpc (by omega)).mono ?_
                rintro e w1 ⟨rfl, q2, rfl⟩
                rw [Nat.add_zero]
                by_cases h93 : hb s (p + c) = 93
                · rw [h93]
                  have H93 := hide h93
                  clear h93
                  go_wp2
                  rename World => wA
                  go_loopw [8] (fun kv wr => ∃ k m : Nat, 1 ≤ k ∧ p + c + k ≤ s.size + 1 ∧ kv = .int .i64 k ∧ Hid (∀ j, 1 ≤ j → j < k → fr s p (c + j) = 61) ∧ wr = wA.drewN m) (fun kv _ => s.size + 2 - (intOf kv).toNat)
                  case atStart => exact ⟨1, _, Nat.le_refl _, by omega, rfl, hide (fun j h1 h2 => by omega), rfl⟩
                  case round =>
                    obtain ⟨k, m, hk1, hk2, rfl, Hkq, rfl⟩ := hrel
                    go_wp2_with fail
                    refine (here_any s S (p + c) k v fc fl fa _ (HXc.out.drw _) hs hpc (by omega)).mono ?_
                    rintro e w1 ⟨rfl, q3, rfl⟩
                    by_cases h61 : hb s (p + c + k) = 61
                    · have hlt3 : p + c + k < s.size := hb_lt (by omega)
                      have HQ3 : Hid (∀ j, 1 ≤ j → j < k + 1 → fr s p (c + j) = 61) := hide (fun j h1 h2 => by
                        by_cases e : j = k
                        · subst e; unfold fr; rw [← Nat.add_assoc]; exact h61
                        · exact Hkq.out j h1 (by omega))
                      rw [h61]
                      clear h61
                      go_wp2
                      go_roundw
                      case rel => exact ⟨k + 1, m + q3, by omega, by omega, rfl, HQ3, rfl⟩
                      case measure => simp [intOf]; omega
                    · have hq6 : (hb s (p + c + k) == 61) = false := by simpa using h61
                      have H61k : Hid (fr s p (c + k) ≠ 61) := hide (by unfold fr; rw [← Nat.add_assoc]; exact h61)
                      clear h61
                      by_cases hkn : k = n
                      · have hkq : ((k : Int) == (n : Int)) = true := by simp [hkn]
                        have Hkn := hide hkn
                        clear hkn
                        go_wp2_with fail
                        refine (here_any s S (p + c) k v fc fl fa _ (HXc.out.drw _) hs hpc (by omega)).mono ?_
                        rintro e w1 ⟨rfl, q4, rfl⟩
                        by_cases h93k : hb s (p + c + k) = 93
                        · have hlt3 : p + c + k < s.size := hb_lt (by omega)
                          have HCl : Hid (FirstClose (fr s p) n c) := hide ⟨hc1, ⟨by simpa [fr] using H93.out, by rw [← Hkn.out]; exact Hkq.out, by rw [← Hkn.out]; unfold fr; rw [← Nat.add_assoc]; exact h93k⟩, HSo.out⟩
                          rw [h93k] at hq6 ⊢
                          clear h93k
                          obtain ⟨c0, c1, c2, c3, c4, c5, c6, z1, z2, z3, z4, z5, z6⟩ := HXc.out.cells
                          have hfl := Hfc.out
                          rw [HF.out] at hfl
                          have hkn' := Hkn.out
                          have hsl := fun w' : World => slc_str s (i := (p : Int) + ((n : Int) + 2)) (j := (p : Int) + c) w' (by omega) (by omega) (by omega)
                          rw [show ((p : Int) + ((n : Int) + 2)).toNat = p + (n + 2) by omega, show ((p : Int) + c).toNat = p + c by omega] at hsl
                          rw [hkn'] at hlt3
                          clear hkn'
                          go_wp2
                          go_quiet (fail)
                          go_wp2_with fail
                          clear c0 c1 c2 c3 c4 c5 c6 z1 z2 z3 z4 z5 z6
                          refine (step_any s S (p + c) (n + 1) v fc fl fa _ (HXc.out.drw _) hs (by omega)).mono ?_
                          rintro e w3 ⟨rfl, hx3, hg3⟩
                          have HX3 : Hid (Lx s S (p + (c + n + 1)) v fc fl fa w3) := hide (by rw [show p + (c + n + 1) = p + c + (n + 1) by omega]; exact hx3)
                          have HG3 := hide (grown_trans (gdr HGc.out _) hg3)
                          clear hx3 hg3
                          go_wp2
                          refine bodyPost_ret (v := .tuple #[.string (s.extract (p + (n + 2)) (p + c)), .bool true]) (by simp [results, Tryz.results32, go_sem]) rfl ?_
                          have := longR_b HO.out HCl.out (by omega) HX3.out HG3.out
                          rw [HF.out] at this
                          exact this
                        · have hq7 : (hb s (p + c + k) == 93) = false := by simpa using h93k
                          have HSo2 := hide (HSo.out.next (close_no2 hk1 Hkq.out H61k.out (.inr (by unfold fr; rw [← Nat.add_assoc]; exact h93k)) hn1))
                          clear h93k
                          go_wp2_with fail
                          refine (step_any s S (p + c) 1 v fc fl fa _ (HXc.out.drw _) hs (by omega)).mono ?_
                          rintro e w3 ⟨rfl, hx3, hg3⟩
                          have HX3 := hide hx3
                          have HG3 := hide (grown_trans (gdr HGc.out _) hg3)
                          clear hx3 hg3
                          go_wp2
                          go_roundg (s.size - (c + 1))
                          case rel => exact ⟨c + 1, by omega, by omega, by omega, hide (by have := Hfc.out; omega), HSo2, HX3, HG3⟩
                          case measure => omega
                      · have HSo2 := hide (HSo.out.next (close_no2 hk1 Hkq.out H61k.out (.inl hkn) hn1))
                        have hkq : ((k : Int) == (n : Int)) = false := by simp; omega
                        go_wp2_with fail
                        refine (step_any s S (p + c) 1 v fc fl fa _ (HXc.out.drw _) hs (by omega)).mono ?_
                        rintro e w3 ⟨rfl, hx3, hg3⟩
                        have HX3 := hide hx3
                        have HG3 := hide (grown_trans (gdr HGc.out _) hg3)
                        clear hx3 hg3
                        go_wp2
                        go_roundg (s.size - (c + 1))
                        case rel => exact ⟨c + 1, by omega, by omega, by omega, hide (by have := Hfc.out; omega), HSo2, HX3, HG3⟩
                        case measure => omega
                · have hq9 : (hb s (p + c) == 93) = false := by simpa using h93
                  have HSo2 := hide (HSo.out.next (close_no1 (by simpa [fr] using h93)))
                  clear h93
                  go_wp2_with fail
                  refine (step_any s S (p + c) 1 v fc fl fa _ (HXc.out.drw _) hs (by omega)).mono ?_
                  rintro e w3 ⟨rfl, hx3, hg3⟩
                  have HX3 := hide hx3
                  have HG3 := hide (grown_trans (gdr HGc.out _) hg3)
                  clear hx3 hg3
                  go_wp2
                  go_roundg (s.size - (c + 1))
                  case rel => exact ⟨c + 1, by omega, by omega, by omega, hide (by have := Hfc.out; omega), HSo2, HX3, HG3⟩
                  case measure => omega
          · have HF : Hid (longFrom (fr s p) n = n + 1) := hide (by unfold longFrom; rw [if_neg (by exact h10)])
            have hq10 : (hb s (p + (n + 1)) == 10) = false := by simpa using h10
            clear h10
            have HXF := hide (HX2.out.drw m4)
            have HGF := hide (gdr HG2.out m4)
            obtain ⟨c0, c1, c2, c3, c4, c5, c6, z1, z2, z3, z4, z5, z6⟩ := HX2.out.cells
            go_wp2
            clear c0 c1 c2 c3 c4 c5 c6 z1 z2 z3 z4 z5 z6
            go_loopg [8] (s.size - (n + 1)) (fun gk _ wr => ∃ c : Nat, gk + c = s.size ∧ p + c ≤ s.size ∧ n + 1 ≤ c ∧ Hid (longFrom (fr s p) n ≤ c) ∧ Hid (Sofar (fr s p) n c) ∧ Hid (Lx s S (p + c) v fc fl fa wr) ∧ Hid (w.grownBy wr (some S)))
            case atStart => exact ⟨n + 1, by omega, by omega, by omega, hide (by rw [HF.out]; exact Nat.le_refl _), hide (by have := sofar_from (fr s p) n; rw [HF.out] at this; exact this), hide HXF.out, hide HGF.out⟩
            case round =>
              obtain ⟨c, hgk, hpc, hc1, Hfc, HSo, HXc, HGc⟩ := hrel
              go_wp2_with fail
              refine (ended_any s S (p + c) v fc fl fa wr HXc.out hs hpc).mono ?_
              rintro e w1 ⟨rfl, q1, rfl⟩
              by_cases hend : s.size ≤ p + c
              · have hd : decide (s.size ≤ p + c) = true := by simpa using hend
                rw [hd]
                have HNo := hide (sofar_none HSo.out hend)
                go_wp2_with fail
                refine (bad_any s S (p + c) v fc fl fa 6 _ _ _ (HXc.out.drw _)).mono ?_
                rintro e w3 ⟨rfl, hx3, hg3⟩
                have HX3 := hide hx3
                have HG3 := hide (grown_trans (gdr HGc.out _) hg3)
                clear hx3 hg3
                go_wp2
                refine bodyPost_ret (v := .tuple #[.string ⟨#[]⟩, .bool true]) (by simp [results, Tryz.results32, go_sem]) rfl ?_
                exact longR_c HO.out HNo.out HX3.out HG3.out
              · have hd : decide (s.size ≤ p + c) = false := by simpa using hend
                rw [hd]
                go_wp2_with fail
                refine (here_any s S (p + c) 0 v fc fl fa _ (HXc.out.drw _) hs hpc (by omega)).mono ?_
                rintro e w1 ⟨rfl, q2, rfl⟩
                rw [Nat.add_zero]
                by_cases h93 : hb s (p + c) = 93
                · rw [h93]
                  have H93 := hide h93
                  clear h93
                  go_wp2
                  rename World => wA
                  go_loopw [8] (fun kv wr => ∃ k m : Nat, 1 ≤ k ∧ p + c + k ≤ s.size + 1 ∧ kv = .int .i64 k ∧ Hid (∀ j, 1 ≤ j → j < k → fr s p (c + j) = 61) ∧ wr = wA.drewN m) (fun kv _ => s.size + 2 - (intOf kv).toNat)
                  case atStart => exact ⟨1, _, Nat.le_refl _, by omega, rfl, hide (fun j h1 h2 => by omega), rfl⟩
                  case round =>
                    obtain ⟨k, m, hk1, hk2, rfl, Hkq, rfl⟩ := hrel
                    go_wp2_with fail
                    refine (here_any s S (p + c) k v fc fl fa _ (HXc.out.drw _) hs hpc (by omega)).mono ?_
                    rintro e w1 ⟨rfl, q3, rfl⟩
                    by_cases h61 : hb s (p + c + k) = 61
                    · have hlt3 : p + c + k < s.size := hb_lt (by omega)
                      have HQ3 : Hid (∀ j, 1 ≤ j → j < k + 1 → fr s p (c + j) = 61) := hide (fun j h1 h2 => by
                        by_cases e : j = k
                        · subst e; unfold fr; rw [← Nat.add_assoc]; exact h61
                        · exact Hkq.out j h1 (by omega))
                      rw [h61]
                      clear h61
                      go_wp2
                      go_roundw
                      case rel => exact ⟨k + 1, m + q3, by omega, by omega, rfl, HQ3, rfl⟩
                      case measure => simp [intOf]; omega
                    · have hq6 : (hb s (p + c + k) == 61) = false := by simpa using h61
                      have H61k : Hid (fr s p (c + k) ≠ 61) := hide (by unfold fr; rw [← Nat.add_assoc]; exact h61)
                      clear h61
                      by_cases hkn : k = n
                      · have hkq : ((k : Int) == (n : Int)) = true := by simp [hkn]
                        have Hkn := hide hkn
                        clear hkn
                        go_wp2_with fail
                        refine (here_any s S (p + c) k v fc fl fa _ (HXc.out.drw _) hs hpc (by omega)).mono ?_
                        rintro e w1 ⟨rfl, q4, rfl⟩
                        by_cases h93k : hb s (p + c + k) = 93
                        · have hlt3 : p + c + k < s.size := hb_lt (by omega)
                          have HCl : Hid (FirstClose (fr s p) n c) := hide ⟨hc1, ⟨by simpa [fr] using H93.out, by rw [← Hkn.out]; exact Hkq.out, by rw [← Hkn.out]; unfold fr; rw [← Nat.add_assoc]; exact h93k⟩, HSo.out⟩
                          rw [h93k] at hq6 ⊢
                          clear h93k
                          obtain ⟨c0, c1, c2, c3, c4, c5, c6, z1, z2, z3, z4, z5, z6⟩ := HXc.out.cells
                          have hfl := Hfc.out
                          rw [HF.out] at hfl
                          have hkn' := Hkn.out
                          have hsl := fun w' : World => slc_str s (i := (p : Int) + ((n : Int) + 1)) (j := (p : Int) + c) w' (by omega) (by omega) (by omega)
                          rw [show ((p : Int) + ((n : Int) + 1)).toNat = p + (n + 1) by omega, show ((p : Int) + c).toNat = p + c by omega] at hsl
                          rw [hkn'] at hlt3
                          clear hkn'
                          go_wp2
                          go_quiet (fail)
                          go_wp2_with fail
                          clear c0 c1 c2 c3 c4 c5 c6 z1 z2 z3 z4 z5 z6
                          refine (step_any s S (p + c) (n + 1) v fc fl fa _ (HXc.out.drw _) hs (by omega)).mono ?_
                          rintro e w3 ⟨rfl, hx3, hg3⟩
                          have HX3 : Hid (Lx s S (p + (c + n + 1)) v fc fl fa w3) := hide (by rw [show p + (c + n + 1) = p + c + (n + 1) by omega]; exact hx3)
                          have HG3 := hide (grown_trans (gdr HGc.out _) hg3)
                          clear hx3 hg3
                          go_wp2
                          refine bodyPost_ret (v := .tuple #[.string (s.extract (p + (n + 1)) (p + c)), .bool true]) (by simp [results, Tryz.results32, go_sem]) rfl ?_
                          have := longR_b HO.out HCl.out (by omega) HX3.out HG3.out
                          rw [HF.out] at this
                          exact this
                        · have hq7 : (hb s (p + c + k) == 93) = false := by simpa using h93k
                          have HSo2 := hide (HSo.out.next (close_no2 hk1 Hkq.out H61k.out (.inr (by unfold fr; rw [← Nat.add_assoc]; exact h93k)) hn1))
                          clear h93k
                          go_wp2_with fail
                          refine (step_any s S (p + c) 1 v fc fl fa _ (HXc.out.drw _) hs (by omega)).mono ?_
                          rintro e w3 ⟨rfl, hx3, hg3⟩
                          have HX3 := hide hx3
                          have HG3 := hide (grown_trans (gdr HGc.out _) hg3)
                          clear hx3 hg3
                          go_wp2
                          go_roundg (s.size - (c + 1))
                          case rel => exact ⟨c + 1, by omega, by omega, by omega, hide (by have := Hfc.out; omega), HSo2, HX3, HG3⟩
                          case measure => omega
                      · have HSo2 := hide (HSo.out.next (close_no2 hk1 Hkq.out H61k.out (.inl hkn) hn1))
                        have hkq : ((k : Int) == (n : Int)) = false := by simp; omega
                        go_wp2_with fail
                        refine (step_any s S (p + c) 1 v fc fl fa _ (HXc.out.drw _) hs (by omega)).mono ?_
                        rintro e w3 ⟨rfl, hx3, hg3⟩
                        have HX3 := hide hx3
                        have HG3 := hide (grown_trans (gdr HGc.out _) hg3)
                        clear hx3 hg3
                        go_wp2
                        go_roundg (s.size - (c + 1))
                        case rel => exact ⟨c + 1, by omega, by omega, by omega, hide (by have := Hfc.out; omega), HSo2, HX3, HG3⟩
                        case measure => omega
                · have hq9 : (hb s (p + c) == 93) = false := by simpa using h93
                  have HSo2 := hide (HSo.out.next (close_no1 (by simpa [fr] using h93)))
                  clear h93
                  go_wp2_with fail
                  refine (step_any s S (p + c) 1 v fc fl fa _ (HXc.out.drw _) hs (by omega)).mono ?_
                  rintro e w3 ⟨rfl, hx3, hg3⟩
                  have HX3 := hide hx3
                  have HG3 := hide (grown_trans (gdr HGc.out _) hg3)
                  clear hx3 hg3
                  go_wp2
                  go_roundg (s.size - (c + 1))
                  case rel => exact ⟨c + 1, by omega, by omega, by omega, hide (by have := Hfc.out; omega), HSo2, HX3, HG3⟩
                  case measure => omega
        · have h91' : (hb s (p + n) != 91) = true := by simpa using h91
          have HR : Hid (¬ ∃ n, LongOpen (fr s p) n) := hide (no_long2 hn1 Hq.out H61.out h91)
          clear h91
          go_wp2
          refine bodyPost_ret (v := .tuple #[.string ⟨#[]⟩, .bool false]) (by simp [results, Tryz.results32, go_sem]) rfl ?_
          exact longR_a HR.out (Hx.out.drw _) (grown_drewN _ _ _)
      · have h0' : (hb s p != 91) = true := by simpa using h0
        have HR : Hid (¬ ∃ n, LongOpen (fr s p) n) := hide (no_long1 (by simpa [fr] using h0))
        clear h0
        go_wp2
        refine bodyPost_ret (v := .tuple #[.string ⟨#[]⟩, .bool false]) (by simp [results, Tryz.results32, go_sem]) rfl ?_
        exact longR_a HR.out (Hx.out.drw _) (grown_drewN _ _ _)
end Go.Proofs.YtmndipnifjpdjaaGreatDoor
namespace Go.Proofs.YtmndipnifjpdjaaGreatDoor
open Go Go.RowKit
set_option linter.unusedVariables false
def OwnQ (w : World) (base : Nat) (v : Value) (L : List Int) : Prop := w.ownsRow base 5 1 v L.length (L.map (Value.int .u8))
theorem ownQ_empty (w : World) : OwnQ (w.alloc (.cells #[] 5)) w.heap.size (.slice (some ⟨w.heap.size, 0, none⟩) 0 0) [] :=
  World.ownsRow_made w #[] 0 (Nat.le_refl _) (by simp [maxLen]) rfl
theorem ownQ_nil (w : World) (base : Nat) : OwnQ w base (.slice none 0 0) [] := World.ownsRow_nil w base 5 1
theorem OwnQ.low {w w' : World} {base : Nat} {v : Value} {L : List Int} (h : OwnQ w base v L) (hb : Below w.heap.size w w') : OwnQ w' base v L :=
  World.ownsRow.kept (row := none) h ⟨hb.os, hb.tape, hb.output, hb.size, fun k hk _ => hb.block k hk⟩ (by
    rcases h.2 with ⟨rfl, _⟩ | ⟨g, cap, cur, rfl, _⟩
    · exact .inl rfl
    · exact .inr (by simp [Value.ownBlock]))
theorem OwnQ.drw {w : World} {base : Nat} {v : Value} {L : List Int} (h : OwnQ w base v L) (n : Nat) : OwnQ (w.drewN n) base v L := h
theorem OwnQ.beside {w w' : World} {base S : Nat} {v : Value} {L : List Int} (h : OwnQ w base v L) (hg : w.grownBy w' (some S)) (hS : S < base) : OwnQ w' base v L :=
  World.ownsRow.kept h hg (by
    rcases h.2 with ⟨rfl, _⟩ | ⟨g, cap, cur, rfl, hb, _⟩
    · exact .inl rfl
    · exact .inr (by simp [Value.ownBlock]; omega))
theorem app_q {wr : World} {ops : Array Oper} {rest : List Oper} {o : Oper} {a : Act} {Q : Exit → Act → World → Prop} (hgd : o.guard = none) (s x : Operand)
    (ho : o.op = .call { callee := .builtin .append, args := #[s, x], argTypes := #[33, 33] }) (base g : Nat) (v : Value) (L : List Int) (z : Int) (hown : OwnQ wr base v L) (hc : wr.cell? ⟨g, 0, none⟩ = some (.int .u8 z)) (hs : a.eval s = v) (hx : a.eval x = .slice (some ⟨g, 0, none⟩) 1 1)
    (hlen : L.length ≤ 10000000000) (hbase : base ≤ wr.heap.size)
    (h : ∀ v' w', OwnQ w' base v' (L ++ [z]) → wr.grownBy w' v.ownBlock → wpList Tryz.prog ops Q rest (a.put o.dst v') w') :
    wpList Tryz.prog ops Q (o :: rest) a wr := by
  obtain ⟨i0, hi, hz0, hz1, hz2⟩ := info_parts Tryz.info5
  refine wpList_append_own _ hgd s x 33 ho base 5 i0 (.int .u8 0) 1 1 Tryz.underlying33 hi hz0 hz1 hz2 rfl (by decide) v L.length (L.map (Value.int .u8)) hs hown ⟨g, 0, none⟩ 1 1 [.int .u8 z] hx rfl (fun j u hj => ?_)
    (fun u hu => by simp at hu; subst hu; rfl) (by unfold maxLen; omega) (by omega) hbase ?_
  · match j, hj with
    | 0, hj => simp at hj; subst hj; simpa [Addr.add] using hc
  · intro v' w' h1 h2 h3
    exact h v' w' (by unfold OwnQ; simpa using h1) h2
theorem app_qa {wr : World} {ops : Array Oper} {rest : List Oper} {o : Oper} {a : Act} {Q : Exit → Act → World → Prop} (hgd : o.guard = none) (s x : Operand)
    (ho : o.op = .call { callee := .builtin .append, args := #[s, x], argTypes := #[33, 33] }) (base : Nat) (v : Value) (L : List Int) (z : Int) (hown : OwnQ wr base v L) (hs : a.eval s = v) (hx : a.eval x = .slice (some ⟨wr.heap.size, 0, none⟩) 1 1)
    (hlen : L.length ≤ 10000000000) (hbase : base ≤ wr.heap.size)
    (h : ∀ v' w', OwnQ w' base v' (L ++ [z]) → wr.grownBy w' v.ownBlock → wpList Tryz.prog ops Q rest (a.put o.dst v') w') :
    wpList Tryz.prog ops Q (o :: rest) a (wr.alloc (.cells #[.int .u8 z] 5)) :=
  app_q hgd s x ho base wr.heap.size v L z (World.ownsRow.alloc hown _) (by simp) hs hx hlen (by simp; omega) (fun v' w' h1 h2 => h v' w' h1
    ⟨h2.os, h2.tape, h2.output, Nat.le_trans (by simp) h2.size, fun k hk hn => (h2.block k (by simp; omega) hn).trans (Below.heap_alloc wr _ k hk)⟩)
theorem grown_own {a b c : World} {S base : Nat} {v : Value} {L : List Int} (h : a.grownBy b (some S)) (hown : OwnQ b base v L) (hg : b.grownBy c v.ownBlock) (hb : a.heap.size ≤ base) : a.grownBy c (some S) :=
  ⟨hg.os.trans h.os, hg.tape.trans h.tape, hg.output.trans h.output, Nat.le_trans h.size hg.size, fun k hk hn => (hg.block k (Nat.lt_of_lt_of_le hk h.size) (fun e => by have := (hown.lt k e.symm).1; omega)).trans (h.block k hk hn)⟩
theorem Lx.own {s : ByteArray} {S p base : Nat} {v u : Value} {fc fl fa : Int} {w w' : World} {L : List Int} (h : Lx s S p v fc fl fa w) (hown : OwnQ w base u L) (hg : w.grownBy w' u.ownBlock) (hS : S < base) : Lx s S p v fc fl fa w' := by
  unfold Lx
  rw [hg.block S h.lt (fun e => by have := (hown.lt S e.symm).1; omega)]
  exact h
theorem toU8 {c : Int} (h0 : 0 ≤ c) (h1 : c < 256) : ((c.toNat.toUInt8.toNat : Nat) : Int) = c := by
  rw [Nat.toUInt8_eq, UInt8.toNat_ofNat']
  omega
theorem bytes_back {w : World} {base : Nat} {v : Value} {L : List Int} (h : OwnQ w base v L) (hL : ∀ c ∈ L, 0 ≤ c ∧ c < 256) : (convert 33 9 v).run Tryz.prog w = .ok (.string (bytesOf L)) w := by
  have key : ∀ (a : Addr) (cap : Nat), (∀ j (hj : j < L.length), w.cell? (a.add j) = some (.int .u8 L[j])) → (convert 33 9 (.slice (some a) L.length cap)).run Tryz.prog w = .ok (.string (bytesOf L)) w := by
    intro a cap hc
    have e := run_convert_bytes_back (P := Tryz.prog) w 33 9 5 a cap (L.map fun c => c.toNat.toUInt8) Tryz.underlying33 Tryz.underlying5 Tryz.underlying9 (fun j hj => by
      rw [List.length_map] at hj
      rw [hc j hj, List.getElem_map, toU8 (hL _ (List.getElem_mem hj)).1 (hL _ (List.getElem_mem hj)).2])
    rw [List.length_map] at e
    exact e
  rcases h.2 with ⟨rfl, hn⟩ | ⟨g, cap, cur, rfl, hB, hh, hn, hc, hs, ht⟩
  · obtain rfl := List.length_eq_zero_iff.1 hn
    rw [run_convert_bytes_string w 33 9 5 none 0 0 Tryz.underlying33 Tryz.underlying5 Tryz.underlying9]
    simp [bytesOf]
    try rfl
  · refine key ⟨g, 0, none⟩ cap (fun j hj => ?_)
    have e : (⟨g, 0, none⟩ : Addr).add j = ⟨g, j, none⟩ := by
      simp only [Addr.add]
      by_cases e : j = 0
      · subst e; simp
      · simp [e]
    rw [e, World.ownsRow.cellAt h j (by omega), List.getElem?_map, List.getElem?_eq_getElem hj]
    rfl
end Go.Proofs.YtmndipnifjpdjaaGreatDoor
