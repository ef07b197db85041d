import Derived.Deep.LoopGhost
import Derived.Test.YtmndipnifjpdjaaGreatDoorQ12
import Derived.Deep.AppendLies
import Derived.Deep.RegionHeld3
import Derived.Test.YtmndipnifjpdjaaGreatDoorQ13
namespace Go.Proofs.YtmndipnifjpdjaaGreatDoor
open Go Go.RowKit
set_option linter.unusedVariables false
theorem bq_t {a b : Int} (h : a = b) : (a == b) = true := by simp [h]
theorem bq_f {a b : Int} (h : a ≠ b) : (a == b) = false := by simp [h]
theorem okN_A {f : Nat → Int} {n : Nat} (h : isLD (f n) = true ∨ f n = 46) : okN f n = true := by
  unfold okN
  rcases h with h | h
  · rw [h]; rfl
  · rw [h]; simp
theorem okN_S {f : Nat → Int} {n : Nat} (h : f n = 43 ∨ f n = 45) (h0 : 0 < n) (he : f (n - 1) = 101 ∨ f (n - 1) = 69) (hx : hexB f = false) : okN f n = true := by
  unfold okN
  rcases h with h | h <;> rcases he with he | he <;> simp [h, he, hx, h0]
theorem okN_F {f : Nat → Int} {n : Nat} (h1 : isLD (f n) = false) (h2 : f n ≠ 46) (h3 : (f n ≠ 43 ∧ f n ≠ 45) ∨ (f (n - 1) ≠ 101 ∧ f (n - 1) ≠ 69) ∨ hexB f = true) : okN f n = false := by
  unfold okN
  rw [h1]
  rcases h3 with ⟨a, b⟩ | ⟨a, b⟩ | a
  · simp [h2, a, b]
  · simp [h2, a, b]
  · simp [h2, a]
def NumS (f : Nat → Int) (n : Nat) : Prop := ∀ j, j < n → okN f j = true
theorem NumS.next {f : Nat → Int} {n : Nat} (h : NumS f n) (h' : okN f n = true) : NumS f (n + 1) := by
  intro j hj
  by_cases e : j = n
  · subst e; exact h'
  · exact h j (by omega)
theorem isLD_t1 {c : Int} (h : isDig c = true) : isLD c = true := by unfold isLD; rw [h]; simp
theorem isLD_t2 {c : Int} (h : isLet c = true) : isLD c = true := by unfold isLD; rw [h]; simp
theorem isLD_f {c : Int} (h : isDig c = false) (h' : isLet c = false) : isLD c = false := by unfold isLD; rw [h, h']; rfl
theorem LD_nz {c : Int} (h : isLD c = true) : c ≠ 0 := by intro e; subst e; cases h
set_option maxHeartbeats 8000000 in
theorem numeral_any (s : ByteArray) (S p : Nat) (v : Value) (fc fl fa : Int) (w : World) (hx : Lx s S p v fc fl fa w) (hs : s.size ≤ 32768) (hp : p ≤ s.size) (hN : okN (fr s p) 0 = true ∧ (isLD (hb s p) = true ∨ hb s p = 46)) :
    Calls Tryz.prog 36 #[.pointer (some ⟨S, 0, none⟩)] w fun e w' => ∃ n : Nat, e = .returned (.int .i64 n) ∧ NumE (fr s p) n ∧ p + n ≤ s.size ∧ ∃ m, w' = w.drewN m := by
  have Hx := hide hx
  have HNN := hide hN
  clear hx hN
  go_enter Tryz.func36, Tryz.ntmps36
  go_wp2_with fail
  refine (here_any s S p 0 v fc fl fa _ Hx.out hs hp (by omega)).mono ?_
  rintro e w1 ⟨rfl, m0, rfl⟩
  rw [Nat.add_zero]
  by_cases h48 : hb s p = 48
  · rw [h48]
    have H48 := hide h48
    clear h48
    go_wp2_with fail
    refine (here_any s S p 1 v fc fl fa _ (Hx.out.drw _) hs hp (by omega)).mono ?_
    rintro e w1 ⟨rfl, m3, rfl⟩
    by_cases h120 : hb s (p + 1) = 120
    · rw [h120]
      have HXB : Hid (hexB (fr s p) = true) := hide (by unfold hexB fr; rw [h120, Nat.add_zero, H48.out]; rfl)
      clear h120
      go_wp2
      go_loopw [4, 5, 6] (fun nv _ _ wr => ∃ n m : Nat, p + n ≤ s.size ∧ nv = .int .i64 n ∧ Hid (NumS (fr s p) n) ∧ wr = w.drewN m) (fun nv _ _ _ => s.size + 2 - (intOf nv).toNat)
      case atStart => exact ⟨0, _, by omega, rfl, hide (fun j hj => by omega), rfl⟩
      case round =>
        obtain ⟨n, m, hpn, rfl, HS, rfl⟩ := hrel
        have hr := hb_rng s (p + n)
        go_wp2_with fail
        refine (here_any s S p n v fc fl fa _ (Hx.out.drw _) hs hp (by omega)).mono ?_
        rintro e w1 ⟨rfl, m1, rfl⟩
        obtain ⟨c, hc⟩ : ∃ c, hb s (p + n) = c := ⟨_, rfl⟩
        have Hc : Hid (fr s p n = c) := hide hc
        have Hlt : Hid (c ≠ 0 → p + n < s.size) := hide (fun h => hb_lt (by rw [hc]; exact h))
        rw [hc] at hr ⊢
        clear hc
        go_wp2_with fail
        refine (digit_any c _ hr.1 hr.2).mono ?_
        rintro e w1 ⟨rfl, rfl⟩
        cases hd : isDig c with
        | true =>
          have HS2 := hide (HS.out.next (okN_A (.inl (by rw [Hc.out]; exact isLD_t1 hd))))
          have hlt := Hlt.out (LD_nz (isLD_t1 hd))
          clear hd
          go_wp2
          go_roundw
          case rel => exact ⟨n + 1, _, by omega, rfl, HS2, rfl⟩
          case measure => simp [intOf]; omega
        | false =>
          go_wp2_with fail
          refine (letter_any c _ hr.1 hr.2).mono ?_
          rintro e w1 ⟨rfl, rfl⟩
          cases hl : isLet c with
          | true =>
            have HS2 := hide (HS.out.next (okN_A (.inl (by rw [Hc.out]; exact isLD_t2 hl))))
            have hlt := Hlt.out (LD_nz (isLD_t2 hl))
            clear hd hl
            go_wp2
            go_roundw
            case rel => exact ⟨n + 1, _, by omega, rfl, HS2, rfl⟩
            case measure => simp [intOf]; omega
          | false =>
            by_cases h46 : c = 46
            · have HS2 := hide (HS.out.next (okN_A (.inr (by rw [Hc.out]; exact h46))))
              have hlt := Hlt.out (by omega)
              rw [h46]
              clear hd hl h46
              go_wp2
              go_roundw
              case rel => exact ⟨n + 1, _, by omega, rfl, HS2, rfl⟩
              case measure => simp [intOf]; omega
            · have hq46 := bq_f h46
              have HLD := hide (isLD_f hd hl)
              have H46 := hide h46
              have hn0 : 0 < n := by
                rcases Nat.eq_zero_or_pos n with z | z
                · subst z
                  have a := Hc.out
                  have b := HNN.out.2
                  have d : hb s p = c := by simpa [fr] using a
                  rw [d] at b
                  rcases b with b | b
                  · rw [HLD.out] at b; cases b
                  · exact absurd b h46
                · exact z
              clear hd hl h46
              go_wp2_with fail
              have hn1 : ((n : Int) - 1) = ((n - 1 : Nat) : Int) := by omega
              rw [hn1]
              refine (here_any s S p (n - 1) v fc fl fa _ (Hx.out.drw _) hs hp (by omega)).mono ?_
              rintro e w1 ⟨rfl, m2, rfl⟩
              obtain ⟨d, hd⟩ : ∃ d, hb s (p + (n - 1)) = d := ⟨_, rfl⟩
              have Hd : Hid (fr s p (n - 1) = d) := hide hd
              rw [hd]
              clear hd hn1
              by_cases h43 : c = 43
              · subst h43
                by_cases h101 : d = 101
                · have HF := hide (okN_F (f := fr s p) (n := n) (by rw [Hc.out]; exact HLD.out) (by rw [Hc.out]; exact H46.out) (.inr (.inr HXB.out)))
                  go_wp2
                  go_ret
                  exact ⟨n, rfl, ⟨HS.out, HF.out⟩, hpn, _, rfl⟩
                · have hq101 := bq_f h101
                  by_cases h69 : d = 69
                  · have HF := hide (okN_F (f := fr s p) (n := n) (by rw [Hc.out]; exact HLD.out) (by rw [Hc.out]; exact H46.out) (.inr (.inr HXB.out)))
                    go_wp2
                    go_ret
                    exact ⟨n, rfl, ⟨HS.out, HF.out⟩, hpn, _, rfl⟩
                  · have hq69 := bq_f h69
                    have HF := hide (okN_F (f := fr s p) (n := n) (by rw [Hc.out]; exact HLD.out) (by rw [Hc.out]; exact H46.out) (.inr (.inl (by rw [Hd.out]; exact ⟨h101, h69⟩))))
                    clear h101 h69
                    go_wp2
                    go_ret
                    exact ⟨n, rfl, ⟨HS.out, HF.out⟩, hpn, _, rfl⟩
              · have hq43 := bq_f h43
                by_cases h45 : c = 45
                · subst h45
                  by_cases h101 : d = 101
                  · have HF := hide (okN_F (f := fr s p) (n := n) (by rw [Hc.out]; exact HLD.out) (by rw [Hc.out]; exact H46.out) (.inr (.inr HXB.out)))
                    go_wp2
                    go_ret
                    exact ⟨n, rfl, ⟨HS.out, HF.out⟩, hpn, _, rfl⟩
                  · have hq101 := bq_f h101
                    by_cases h69 : d = 69
                    · have HF := hide (okN_F (f := fr s p) (n := n) (by rw [Hc.out]; exact HLD.out) (by rw [Hc.out]; exact H46.out) (.inr (.inr HXB.out)))
                      go_wp2
                      go_ret
                      exact ⟨n, rfl, ⟨HS.out, HF.out⟩, hpn, _, rfl⟩
                    · have hq69 := bq_f h69
                      have HF := hide (okN_F (f := fr s p) (n := n) (by rw [Hc.out]; exact HLD.out) (by rw [Hc.out]; exact H46.out) (.inr (.inl (by rw [Hd.out]; exact ⟨h101, h69⟩))))
                      clear h101 h69
                      go_wp2
                      go_ret
                      exact ⟨n, rfl, ⟨HS.out, HF.out⟩, hpn, _, rfl⟩
                · have hq45 := bq_f h45
                  have HF := hide (okN_F (f := fr s p) (n := n) (by rw [Hc.out]; exact HLD.out) (by rw [Hc.out]; exact H46.out) (.inl (by rw [Hc.out]; exact ⟨h43, h45⟩)))
                  clear h43 h45
                  go_wp2
                  go_ret
                  exact ⟨n, rfl, ⟨HS.out, HF.out⟩, hpn, _, rfl⟩
    · have hq120 := bq_f h120
      go_wp2_with fail
      refine (here_any s S p 1 v fc fl fa _ (Hx.out.drw _) hs hp (by omega)).mono ?_
      rintro e w1 ⟨rfl, m4, rfl⟩
      by_cases h88 : hb s (p + 1) = 88
      · rw [h88] at hq120 ⊢
        have HXB : Hid (hexB (fr s p) = true) := hide (by unfold hexB fr; rw [h88, Nat.add_zero, H48.out]; rfl)
        clear h88 h120
        go_wp2
        go_loopw [4, 5, 6] (fun nv _ _ wr => ∃ n m : Nat, p + n ≤ s.size ∧ nv = .int .i64 n ∧ Hid (NumS (fr s p) n) ∧ wr = w.drewN m) (fun nv _ _ _ => s.size + 2 - (intOf nv).toNat)
        case atStart => exact ⟨0, _, by omega, rfl, hide (fun j hj => by omega), rfl⟩
        case round =>
          obtain ⟨n, m, hpn, rfl, HS, rfl⟩ := hrel
          have hr := hb_rng s (p + n)
          go_wp2_with fail
          refine (here_any s S p n v fc fl fa _ (Hx.out.drw _) hs hp (by omega)).mono ?_
          rintro e w1 ⟨rfl, m1, rfl⟩
          obtain ⟨c, hc⟩ : ∃ c, hb s (p + n) = c := ⟨_, rfl⟩
          have Hc : Hid (fr s p n = c) := hide hc
          have Hlt : Hid (c ≠ 0 → p + n < s.size) := hide (fun h => hb_lt (by rw [hc]; exact h))
          rw [hc] at hr ⊢
          clear hc
          go_wp2_with fail
          refine (digit_any c _ hr.1 hr.2).mono ?_
          rintro e w1 ⟨rfl, rfl⟩
          cases hd : isDig c with
          | true =>
            have HS2 := hide (HS.out.next (okN_A (.inl (by rw [Hc.out]; exact isLD_t1 hd))))
            have hlt := Hlt.out (LD_nz (isLD_t1 hd))
            clear hd
            go_wp2
            go_roundw
            case rel => exact ⟨n + 1, _, by omega, rfl, HS2, rfl⟩
            case measure => simp [intOf]; omega
          | false =>
            go_wp2_with fail
            refine (letter_any c _ hr.1 hr.2).mono ?_
            rintro e w1 ⟨rfl, rfl⟩
            cases hl : isLet c with
            | true =>
              have HS2 := hide (HS.out.next (okN_A (.inl (by rw [Hc.out]; exact isLD_t2 hl))))
              have hlt := Hlt.out (LD_nz (isLD_t2 hl))
              clear hd hl
              go_wp2
              go_roundw
              case rel => exact ⟨n + 1, _, by omega, rfl, HS2, rfl⟩
              case measure => simp [intOf]; omega
            | false =>
              by_cases h46 : c = 46
              · have HS2 := hide (HS.out.next (okN_A (.inr (by rw [Hc.out]; exact h46))))
                have hlt := Hlt.out (by omega)
                rw [h46]
                clear hd hl h46
                go_wp2
                go_roundw
                case rel => exact ⟨n + 1, _, by omega, rfl, HS2, rfl⟩
                case measure => simp [intOf]; omega
              · have hq46 := bq_f h46
                have HLD := hide (isLD_f hd hl)
                have H46 := hide h46
                have hn0 : 0 < n := by
                  rcases Nat.eq_zero_or_pos n with z | z
                  · subst z
                    have a := Hc.out
                    have b := HNN.out.2
                    have d : hb s p = c := by simpa [fr] using a
                    rw [d] at b
                    rcases b with b | b
                    · rw [HLD.out] at b; cases b
                    · exact absurd b h46
                  · exact z
                clear hd hl h46
                go_wp2_with fail
                have hn1 : ((n : Int) - 1) = ((n - 1 : Nat) : Int) := by omega
                rw [hn1]
                refine (here_any s S p (n - 1) v fc fl fa _ (Hx.out.drw _) hs hp (by omega)).mono ?_
                rintro e w1 ⟨rfl, m2, rfl⟩
                obtain ⟨d, hd⟩ : ∃ d, hb s (p + (n - 1)) = d := ⟨_, rfl⟩
                have Hd : Hid (fr s p (n - 1) = d) := hide hd
                rw [hd]
                clear hd hn1
                by_cases h43 : c = 43
                · subst h43
                  by_cases h101 : d = 101
                  · have HF := hide (okN_F (f := fr s p) (n := n) (by rw [Hc.out]; exact HLD.out) (by rw [Hc.out]; exact H46.out) (.inr (.inr HXB.out)))
                    go_wp2
                    go_ret
                    exact ⟨n, rfl, ⟨HS.out, HF.out⟩, hpn, _, rfl⟩
                  · have hq101 := bq_f h101
                    by_cases h69 : d = 69
                    · have HF := hide (okN_F (f := fr s p) (n := n) (by rw [Hc.out]; exact HLD.out) (by rw [Hc.out]; exact H46.out) (.inr (.inr HXB.out)))
                      go_wp2
                      go_ret
                      exact ⟨n, rfl, ⟨HS.out, HF.out⟩, hpn, _, rfl⟩
                    · have hq69 := bq_f h69
                      have HF := hide (okN_F (f := fr s p) (n := n) (by rw [Hc.out]; exact HLD.out) (by rw [Hc.out]; exact H46.out) (.inr (.inl (by rw [Hd.out]; exact ⟨h101, h69⟩))))
                      clear h101 h69
                      go_wp2
                      go_ret
                      exact ⟨n, rfl, ⟨HS.out, HF.out⟩, hpn, _, rfl⟩
                · have hq43 := bq_f h43
                  by_cases h45 : c = 45
                  · subst h45
                    by_cases h101 : d = 101
                    · have HF := hide (okN_F (f := fr s p) (n := n) (by rw [Hc.out]; exact HLD.out) (by rw [Hc.out]; exact H46.out) (.inr (.inr HXB.out)))
                      go_wp2
                      go_ret
                      exact ⟨n, rfl, ⟨HS.out, HF.out⟩, hpn, _, rfl⟩
                    · have hq101 := bq_f h101
                      by_cases h69 : d = 69
                      · have HF := hide (okN_F (f := fr s p) (n := n) (by rw [Hc.out]; exact HLD.out) (by rw [Hc.out]; exact H46.out) (.inr (.inr HXB.out)))
                        go_wp2
                        go_ret
                        exact ⟨n, rfl, ⟨HS.out, HF.out⟩, hpn, _, rfl⟩
                      · have hq69 := bq_f h69
                        have HF := hide (okN_F (f := fr s p) (n := n) (by rw [Hc.out]; exact HLD.out) (by rw [Hc.out]; exact H46.out) (.inr (.inl (by rw [Hd.out]; exact ⟨h101, h69⟩))))
                        clear h101 h69
                        go_wp2
                        go_ret
                        exact ⟨n, rfl, ⟨HS.out, HF.out⟩, hpn, _, rfl⟩
                  · have hq45 := bq_f h45
                    have HF := hide (okN_F (f := fr s p) (n := n) (by rw [Hc.out]; exact HLD.out) (by rw [Hc.out]; exact H46.out) (.inl (by rw [Hc.out]; exact ⟨h43, h45⟩)))
                    clear h43 h45
                    go_wp2
                    go_ret
                    exact ⟨n, rfl, ⟨HS.out, HF.out⟩, hpn, _, rfl⟩
      · have HXB : Hid (hexB (fr s p) = false) := hide (by unfold hexB fr; rw [bq_f h120, bq_f h88]; simp)
        have hq88 := bq_f h88
        clear h88 h120
        go_wp2
        go_loopw [4, 5, 6] (fun nv _ _ wr => ∃ n m : Nat, p + n ≤ s.size ∧ nv = .int .i64 n ∧ Hid (NumS (fr s p) n) ∧ wr = w.drewN m) (fun nv _ _ _ => s.size + 2 - (intOf nv).toNat)
        case atStart => exact ⟨0, _, by omega, rfl, hide (fun j hj => by omega), rfl⟩
        case round =>
          obtain ⟨n, m, hpn, rfl, HS, rfl⟩ := hrel
          have hr := hb_rng s (p + n)
          go_wp2_with fail
          refine (here_any s S p n v fc fl fa _ (Hx.out.drw _) hs hp (by omega)).mono ?_
          rintro e w1 ⟨rfl, m1, rfl⟩
          obtain ⟨c, hc⟩ : ∃ c, hb s (p + n) = c := ⟨_, rfl⟩
          have Hc : Hid (fr s p n = c) := hide hc
          have Hlt : Hid (c ≠ 0 → p + n < s.size) := hide (fun h => hb_lt (by rw [hc]; exact h))
          rw [hc] at hr ⊢
          clear hc
          go_wp2_with fail
          refine (digit_any c _ hr.1 hr.2).mono ?_
          rintro e w1 ⟨rfl, rfl⟩
          cases hd : isDig c with
          | true =>
            have HS2 := hide (HS.out.next (okN_A (.inl (by rw [Hc.out]; exact isLD_t1 hd))))
            have hlt := Hlt.out (LD_nz (isLD_t1 hd))
            clear hd
            go_wp2
            go_roundw
            case rel => exact ⟨n + 1, _, by omega, rfl, HS2, rfl⟩
            case measure => simp [intOf]; omega
          | false =>
            go_wp2_with fail
            refine (letter_any c _ hr.1 hr.2).mono ?_
            rintro e w1 ⟨rfl, rfl⟩
            cases hl : isLet c with
            | true =>
              have HS2 := hide (HS.out.next (okN_A (.inl (by rw [Hc.out]; exact isLD_t2 hl))))
              have hlt := Hlt.out (LD_nz (isLD_t2 hl))
              clear hd hl
              go_wp2
              go_roundw
              case rel => exact ⟨n + 1, _, by omega, rfl, HS2, rfl⟩
              case measure => simp [intOf]; omega
            | false =>
              by_cases h46 : c = 46
              · have HS2 := hide (HS.out.next (okN_A (.inr (by rw [Hc.out]; exact h46))))
                have hlt := Hlt.out (by omega)
                rw [h46]
                clear hd hl h46
                go_wp2
                go_roundw
                case rel => exact ⟨n + 1, _, by omega, rfl, HS2, rfl⟩
                case measure => simp [intOf]; omega
              · have hq46 := bq_f h46
                have HLD := hide (isLD_f hd hl)
                have H46 := hide h46
                have hn0 : 0 < n := by
                  rcases Nat.eq_zero_or_pos n with z | z
                  · subst z
                    have a := Hc.out
                    have b := HNN.out.2
                    have d : hb s p = c := by simpa [fr] using a
                    rw [d] at b
                    rcases b with b | b
                    · rw [HLD.out] at b; cases b
                    · exact absurd b h46
                  · exact z
                clear hd hl h46
                go_wp2_with fail
                have hn1 : ((n : Int) - 1) = ((n - 1 : Nat) : Int) := by omega
                rw [hn1]
                refine (here_any s S p (n - 1) v fc fl fa _ (Hx.out.drw _) hs hp (by omega)).mono ?_
                rintro e w1 ⟨rfl, m2, rfl⟩
                obtain ⟨d, hd⟩ : ∃ d, hb s (p + (n - 1)) = d := ⟨_, rfl⟩
                have Hd : Hid (fr s p (n - 1) = d) := hide hd
                rw [hd]
                clear hd hn1
                by_cases h43 : c = 43
                · subst h43
                  by_cases h101 : d = 101
                  · have HS2 := hide (HS.out.next (okN_S (f := fr s p) (n := n) (by rw [Hc.out]; omega) hn0 (by rw [Hd.out]; omega) HXB.out))
                    have hlt := Hlt.out (by omega)
                    go_wp2
                    go_roundw
                    case rel => exact ⟨n + 1, _, by omega, rfl, HS2, rfl⟩
                    case measure => simp [intOf]; omega
                  · have hq101 := bq_f h101
                    by_cases h69 : d = 69
                    · have HS2 := hide (HS.out.next (okN_S (f := fr s p) (n := n) (by rw [Hc.out]; omega) hn0 (by rw [Hd.out]; omega) HXB.out))
                      have hlt := Hlt.out (by omega)
                      go_wp2
                      go_roundw
                      case rel => exact ⟨n + 1, _, by omega, rfl, HS2, rfl⟩
                      case measure => simp [intOf]; omega
                    · have hq69 := bq_f h69
                      have HF := hide (okN_F (f := fr s p) (n := n) (by rw [Hc.out]; exact HLD.out) (by rw [Hc.out]; exact H46.out) (.inr (.inl (by rw [Hd.out]; exact ⟨h101, h69⟩))))
                      clear h101 h69
                      go_wp2
                      go_ret
                      exact ⟨n, rfl, ⟨HS.out, HF.out⟩, hpn, _, rfl⟩
                · have hq43 := bq_f h43
                  by_cases h45 : c = 45
                  · subst h45
                    by_cases h101 : d = 101
                    · have HS2 := hide (HS.out.next (okN_S (f := fr s p) (n := n) (by rw [Hc.out]; omega) hn0 (by rw [Hd.out]; omega) HXB.out))
                      have hlt := Hlt.out (by omega)
                      go_wp2
                      go_roundw
                      case rel => exact ⟨n + 1, _, by omega, rfl, HS2, rfl⟩
                      case measure => simp [intOf]; omega
                    · have hq101 := bq_f h101
                      by_cases h69 : d = 69
                      · have HS2 := hide (HS.out.next (okN_S (f := fr s p) (n := n) (by rw [Hc.out]; omega) hn0 (by rw [Hd.out]; omega) HXB.out))
                        have hlt := Hlt.out (by omega)
                        go_wp2
                        go_roundw
                        case rel => exact ⟨n + 1, _, by omega, rfl, HS2, rfl⟩
                        case measure => simp [intOf]; omega
                      · have hq69 := bq_f h69
                        have HF := hide (okN_F (f := fr s p) (n := n) (by rw [Hc.out]; exact HLD.out) (by rw [Hc.out]; exact H46.out) (.inr (.inl (by rw [Hd.out]; exact ⟨h101, h69⟩))))
                        clear h101 h69
                        go_wp2
                        go_ret
                        exact ⟨n, rfl, ⟨HS.out, HF.out⟩, hpn, _, rfl⟩
                  · have hq45 := bq_f h45
                    have HF := hide (okN_F (f := fr s p) (n := n) (by rw [Hc.out]; exact HLD.out) (by rw [Hc.out]; exact H46.out) (.inl (by rw [Hc.out]; exact ⟨h43, h45⟩)))
                    clear h43 h45
                    go_wp2
                    go_ret
                    exact ⟨n, rfl, ⟨HS.out, HF.out⟩, hpn, _, rfl⟩
  · have HXB : Hid (hexB (fr s p) = false) := hide (by unfold hexB fr; rw [Nat.add_zero, bq_f h48]; rfl)
    have hq48 := bq_f h48
    clear h48
    go_wp2
    go_loopw [4, 5, 6] (fun nv _ _ wr => ∃ n m : Nat, p + n ≤ s.size ∧ nv = .int .i64 n ∧ Hid (NumS (fr s p) n) ∧ wr = w.drewN m) (fun nv _ _ _ => s.size + 2 - (intOf nv).toNat)
    case atStart => exact ⟨0, _, by omega, rfl, hide (fun j hj => by omega), rfl⟩
    case round =>
      obtain ⟨n, m, hpn, rfl, HS, rfl⟩ := hrel
      have hr := hb_rng s (p + n)
      go_wp2_with fail
      refine (here_any s S p n v fc fl fa _ (Hx.out.drw _) hs hp (by omega)).mono ?_
      rintro e w1 ⟨rfl, m1, rfl⟩
      obtain ⟨c, hc⟩ : ∃ c, hb s (p + n) = c := ⟨_, rfl⟩
      have Hc : Hid (fr s p n = c) := hide hc
      have Hlt : Hid (c ≠ 0 → p + n < s.size) := hide (fun h => hb_lt (by rw [hc]; exact h))
      rw [hc] at hr ⊢
      clear hc
      go_wp2_with fail
      refine (digit_any c _ hr.1 hr.2).mono ?_
      rintro e w1 ⟨rfl, rfl⟩
      cases hd : isDig c with
      | true =>
        have HS2 := hide (HS.out.next (okN_A (.inl (by rw [Hc.out]; exact isLD_t1 hd))))
        have hlt := Hlt.out (LD_nz (isLD_t1 hd))
        clear hd
        go_wp2
        go_roundw
        case rel => exact ⟨n + 1, _, by omega, rfl, HS2, rfl⟩
        case measure => simp [intOf]; omega
      | false =>
        go_wp2_with fail
        refine (letter_any c _ hr.1 hr.2).mono ?_
        rintro e w1 ⟨rfl, rfl⟩
        cases hl : isLet c with
        | true =>
          have HS2 := hide (HS.out.next (okN_A (.inl (by rw [Hc.out]; exact isLD_t2 hl))))
          have hlt := Hlt.out (LD_nz (isLD_t2 hl))
          clear hd hl
          go_wp2
          go_roundw
          case rel => exact ⟨n + 1, _, by omega, rfl, HS2, rfl⟩
          case measure => simp [intOf]; omega
        | false =>
          by_cases h46 : c = 46
          · have HS2 := hide (HS.out.next (okN_A (.inr (by rw [Hc.out]; exact h46))))
            have hlt := Hlt.out (by omega)
            rw [h46]
            clear hd hl h46
            go_wp2
            go_roundw
            case rel => exact ⟨n + 1, _, by omega, rfl, HS2, rfl⟩
            case measure => simp [intOf]; omega
          · have hq46 := bq_f h46
            have HLD := hide (isLD_f hd hl)
            have H46 := hide h46
            have hn0 : 0 < n := by
              rcases Nat.eq_zero_or_pos n with z | z
              · subst z
                have a := Hc.out
                have b := HNN.out.2
                have d : hb s p = c := by simpa [fr] using a
                rw [d] at b
                rcases b with b | b
                · rw [HLD.out] at b; cases b
                · exact absurd b h46
              · exact z
            clear hd hl h46
            go_wp2_with fail
            have hn1 : ((n : Int) - 1) = ((n - 1 : Nat) : Int) := by omega
            rw [hn1]
            refine (here_any s S p (n - 1) v fc fl fa _ (Hx.out.drw _) hs hp (by omega)).mono ?_
            rintro e w1 ⟨rfl, m2, rfl⟩
            obtain ⟨d, hd⟩ : ∃ d, hb s (p + (n - 1)) = d := ⟨_, rfl⟩
            have Hd : Hid (fr s p (n - 1) = d) := hide hd
            rw [hd]
            clear hd hn1
            by_cases h43 : c = 43
            · subst h43
              by_cases h101 : d = 101
              · have HS2 := hide (HS.out.next (okN_S (f := fr s p) (n := n) (by rw [Hc.out]; omega) hn0 (by rw [Hd.out]; omega) HXB.out))
                have hlt := Hlt.out (by omega)
                go_wp2
                go_roundw
                case rel => exact ⟨n + 1, _, by omega, rfl, HS2, rfl⟩
                case measure => simp [intOf]; omega
              · have hq101 := bq_f h101
                by_cases h69 : d = 69
                · have HS2 := hide (HS.out.next (okN_S (f := fr s p) (n := n) (by rw [Hc.out]; omega) hn0 (by rw [Hd.out]; omega) HXB.out))
                  have hlt := Hlt.out (by omega)
                  go_wp2
                  go_roundw
                  case rel => exact ⟨n + 1, _, by omega, rfl, HS2, rfl⟩
                  case measure => simp [intOf]; omega
                · have hq69 := bq_f h69
                  have HF := hide (okN_F (f := fr s p) (n := n) (by rw [Hc.out]; exact HLD.out) (by rw [Hc.out]; exact H46.out) (.inr (.inl (by rw [Hd.out]; exact ⟨h101, h69⟩))))
                  clear h101 h69
                  go_wp2
                  go_ret
                  exact ⟨n, rfl, ⟨HS.out, HF.out⟩, hpn, _, rfl⟩
            · have hq43 := bq_f h43
              by_cases h45 : c = 45
              · subst h45
                by_cases h101 : d = 101
                · have HS2 := hide (HS.out.next (okN_S (f := fr s p) (n := n) (by rw [Hc.out]; omega) hn0 (by rw [Hd.out]; omega) HXB.out))
                  have hlt := Hlt.out (by omega)
                  go_wp2
                  go_roundw
                  case rel => exact ⟨n + 1, _, by omega, rfl, HS2, rfl⟩
                  case measure => simp [intOf]; omega
                · have hq101 := bq_f h101
                  by_cases h69 : d = 69
                  · have HS2 := hide (HS.out.next (okN_S (f := fr s p) (n := n) (by rw [Hc.out]; omega) hn0 (by rw [Hd.out]; omega) HXB.out))
                    have hlt := Hlt.out (by omega)
                    go_wp2
                    go_roundw
                    case rel => exact ⟨n + 1, _, by omega, rfl, HS2, rfl⟩
                    case measure => simp [intOf]; omega
                  · have hq69 := bq_f h69
                    have HF := hide (okN_F (f := fr s p) (n := n) (by rw [Hc.out]; exact HLD.out) (by rw [Hc.out]; exact H46.out) (.inr (.inl (by rw [Hd.out]; exact ⟨h101, h69⟩))))
                    clear h101 h69
                    go_wp2
                    go_ret
                    exact ⟨n, rfl, ⟨HS.out, HF.out⟩, hpn, _, rfl⟩
              · have hq45 := bq_f h45
                have HF := hide (okN_F (f := fr s p) (n := n) (by rw [Hc.out]; exact HLD.out) (by rw [Hc.out]; exact H46.out) (.inl (by rw [Hc.out]; exact ⟨h43, h45⟩)))
                clear h43 h45
                go_wp2
                go_ret
                exact ⟨n, rfl, ⟨HS.out, HF.out⟩, hpn, _, rfl⟩
end Go.Proofs.YtmndipnifjpdjaaGreatDoor
namespace Go.Proofs.YtmndipnifjpdjaaGreatDoor
open Go Go.RowKit
set_option linter.unusedVariables false
theorem wl_len : wordsL.length = 22 := by decide
theorem sl_len : signsL.length = 33 := by decide
theorem toList_eq {a b : ByteArray} : (a.toList == b.toList) = decide (a = b) := by
  by_cases h : a = b
  · subst h; simp
  · rw [decide_eq_false h, beq_eq_false_iff_ne]
    intro e
    apply h
    have e' : a.data.toList = b.data.toList := by
      have h1 : a.toList = a.data.toList := ByteArray.toList_eq _
      have h2 : b.toList = b.data.toList := ByteArray.toList_eq _
      rw [← h1, ← h2, e]
    exact ByteArray.ext (Array.toList_inj.1 e')
def NotYet (L : List ByteArray) (t : ByteArray) (k : Nat) : Prop := ∀ j, j < k → L[j]? ≠ some t
theorem NotYet.next {L : List ByteArray} {t : ByteArray} {k : Nat} (h : NotYet L t k) (h' : L[k]? ≠ some t) : NotYet L t (k + 1) := by
  intro j hj
  by_cases e : j = k
  · subst e; exact h'
  · exact h j (by omega)
theorem NotYet.all {L : List ByteArray} {t : ByteArray} {k : Nat} (h : NotYet L t k) (hk : L.length ≤ k) : t ∉ L := by
  intro hm
  obtain ⟨j, hj, e⟩ := List.mem_iff_getElem.1 hm
  exact h j (by omega) (by rw [List.getElem?_eq_getElem hj, e])
def strC (L : List ByteArray) : Array Value := (L.map Value.string).toArray
theorem cell_lit (w : World) (cs : Array Value) (ty : TypeId) (j : Nat) : (w.alloc (.cells cs ty)).cell? ⟨w.heap.size, j, none⟩ = cs[j]? := by
  unfold World.cell?
  rw [show (w.alloc (.cells cs ty)).heap[w.heap.size]? = some (.cells cs ty) from heap_alloc_new w _]
  rfl
theorem strC_get {L : List ByteArray} {j : Nat} (h : j < L.length) : (strC L)[j]? = some (.string (L.getD j ⟨#[]⟩)) := by
  unfold strC
  rw [List.getElem?_toArray, List.getElem?_map, List.getElem?_eq_getElem h, List.getD_eq_getElem?_getD, List.getElem?_eq_getElem h]
  rfl
theorem getD_ne {L : List ByteArray} {t : ByteArray} {j : Nat} (h : j < L.length) (hn : L.getD j ⟨#[]⟩ ≠ t) : L[j]? ≠ some t := by
  intro e
  apply hn
  rw [List.getD_eq_getElem?_getD, e]
  rfl
theorem getDL_mem {L : List ByteArray} {j : Nat} (h : j < L.length) : L.getD j ⟨#[]⟩ ∈ L := by
  rw [List.getD_eq_getElem?_getD, List.getElem?_eq_getElem h]
  exact List.getElem_mem h
def WordR (t : ByteArray) (w : World) (e : Ending) (w' : World) : Prop := ∃ b : Bool, e = .returned (.bool b) ∧ (b = true ↔ t ∈ wordsL) ∧ Below w.heap.size w w'
set_option maxHeartbeats 1600000 in
theorem lword_any (t : ByteArray) (w : World) :
    Calls Tryz.prog 35 #[.string t] w fun e w' => WordR t w e w' := by
  obtain ⟨wa, hwa⟩ : ∃ wa, wa = w.alloc (.cells (strC wordsL) 9) := ⟨_, rfl⟩
  obtain ⟨B, hB⟩ : ∃ B, B = w.heap.size := ⟨_, rfl⟩
  have HC : Hid (∀ j, j < 22 → wa.cell? ⟨B, j, none⟩ = some (.string (wordsL.getD j ⟨#[]⟩))) := hide (fun j hj => by rw [hwa, hB, cell_lit]; exact strC_get hj)
  have HBl : Hid (Below w.heap.size w wa) := hide (by rw [hwa]; exact (Below.refl _ _).alloc (Nat.le_refl _) _)
  have Hwa := hide hwa
  have HB := hide hB
  clear hwa hB
  go_enter Tryz.func35, Tryz.ntmps35
  go_wp2
  change Code.wp _ _ _ _ (w.alloc (.cells (strC wordsL) 9))
  rw [← Hwa.out, ← HB.out]
  go_loop [4, 7] (fun _ i => ∃ k : Nat, k ≤ 22 ∧ i = .int .i64 k ∧ Hid (NotYet wordsL t k)) (fun _ i => 23 - (intOf i).toNat)
  case atStart => exact ⟨0, by omega, rfl, hide (fun j hj => by omega)⟩
  case round =>
    obtain ⟨k, hk, rfl, HN⟩ := hrel
    by_cases hk2 : k < 22
    · have hc := HC.out k hk2
      obtain ⟨x, hx⟩ : ∃ x, x = wordsL.getD k ⟨#[]⟩ := ⟨_, rfl⟩
      rw [← hx] at hc
      have Hx := hide hx
      clear hx
      have hte := toList_eq (a := x) (b := t)
      by_cases hxt : x = t
      · rw [decide_eq_true hxt] at hte
        have HM : Hid (t ∈ wordsL) := hide (by rw [← hxt, Hx.out]; exact getDL_mem (by rw [wl_len]; exact hk2))
        clear hxt
        go_wp2
        go_ret
        exact ⟨true, rfl, ⟨fun _ => HM.out, fun _ => rfl⟩, HBl.out⟩
      · rw [decide_eq_false hxt] at hte
        have HN2 := hide (HN.out.next (getD_ne hk2 (by rw [← Hx.out]; exact hxt)))
        clear hxt
        go_wp2
        go_round
        case rel => exact ⟨k + 1, by omega, rfl, HN2⟩
        case measure => simp [intOf]; omega
    · have HM := hide (HN.out.all (by rw [wl_len]; omega))
      go_wp2
      go_ret
      exact ⟨false, rfl, ⟨(fun h => by cases h), fun h => absurd h HM.out⟩, HBl.out⟩
def BestS (s : ByteArray) (p k b : Nat) : Prop :=
  b ≤ 3 ∧ (1 ≤ b → p + b ≤ s.size ∧ s.extract p (p + b) ∈ signsL) ∧ ∀ j, j < k → ∀ t, signsL[j]? = some t → p + t.size ≤ s.size → s.extract p (p + t.size) = t → t.size ≤ b
theorem sl_sizes : ∀ j, j < 33 → 1 ≤ (signsL.getD j ⟨#[]⟩).size ∧ (signsL.getD j ⟨#[]⟩).size ≤ 3 := by decide
theorem BestS.zero (s : ByteArray) (p : Nat) : BestS s p 0 0 := ⟨by omega, fun h => by omega, fun j hj => by omega⟩
theorem BestS.keep {s : ByteArray} {p k b : Nat} {t : ByteArray} (h : BestS s p k b) (ht : signsL[k]? = some t) (hn : t.size ≤ b ∨ ¬ p + t.size ≤ s.size ∨ s.extract p (p + t.size) ≠ t) : BestS s p (k + 1) b := by
  refine ⟨h.1, h.2.1, fun j hj t' ht' h1 h2 => ?_⟩
  by_cases e : j = k
  · subst e
    rw [ht] at ht'
    cases ht'
    rcases hn with a | a | a
    · exact a
    · exact absurd h1 a
    · exact absurd h2 a
  · exact h.2.2 j (by omega) t' ht' h1 h2
theorem BestS.take {s : ByteArray} {p k b : Nat} {t : ByteArray} (h : BestS s p k b) (ht : signsL[k]? = some t) (hb : b < t.size) (h3 : t.size ≤ 3) (h1 : p + t.size ≤ s.size) (h2 : s.extract p (p + t.size) = t) : BestS s p (k + 1) t.size := by
  refine ⟨h3, fun _ => ⟨h1, by rw [h2]; exact List.mem_of_getElem? ht⟩, fun j hj t' ht' g1 g2 => ?_⟩
  by_cases e : j = k
  · subst e
    rw [ht] at ht'
    cases ht'
    exact Nat.le_refl _
  · have := h.2.2 j (by omega) t' ht' g1 g2
    omega
theorem BestS.sign {s : ByteArray} {p b : Nat} (h : BestS s p 33 b) : SignN s p b := by
  refine ⟨h.1, h.2.1, fun m h1 h2 h3 hm => ?_⟩
  obtain ⟨j, hj, e⟩ := List.mem_iff_getElem.1 hm
  have hsz : (s.extract p (p + m)).size = m := by rw [ByteArray.size_extract]; omega
  have := h.2.2 j (by rw [sl_len] at hj; exact hj) (s.extract p (p + m)) (by rw [List.getElem?_eq_getElem hj, e]) (by omega) (by rw [hsz])
  omega
set_option maxHeartbeats 3200000 in
theorem sign_any (s : ByteArray) (S p : Nat) (v : Value) (fc fl fa : Int) (w : World) (hx : Lx s S p v fc fl fa w) (hs : s.size ≤ 32768) (hp : p ≤ s.size) :
    Calls Tryz.prog 40 #[.pointer (some ⟨S, 0, none⟩)] w fun e w' => ∃ k : Nat, e = .returned (.int .i64 k) ∧ SignN s p k ∧ Below w.heap.size w w' := by
  obtain ⟨wa, hwa⟩ : ∃ wa, wa = w.alloc (.cells (strC signsL) 9) := ⟨_, rfl⟩
  obtain ⟨B, hB⟩ : ∃ B, B = w.heap.size := ⟨_, rfl⟩
  have HC : Hid (∀ j, j < 33 → wa.cell? ⟨B, j, none⟩ = some (.string (signsL.getD j ⟨#[]⟩))) := hide (fun j hj => by rw [hwa, hB, cell_lit]; exact strC_get hj)
  have HBl : Hid (Below w.heap.size w wa) := hide (by rw [hwa]; exact (Below.refl _ _).alloc (Nat.le_refl _) _)
  obtain ⟨c0, c1, c2, c3, c4, c5, c6, z1, z2, z3, z4, z5, z6⟩ := (hx.low HBl.out).cells
  clear c2 c3 c4 c5 c6 z1 z2 z3 z4 z5 z6
  have Hwa := hide hwa
  have HB := hide hB
  clear hwa hB hx
  go_enter Tryz.func40, Tryz.ntmps40
  go_wp2
  change Code.wp _ _ _ _ (w.alloc (.cells (strC signsL) 9))
  rw [← Hwa.out, ← HB.out]
  go_loopw [3, 5, 8] (fun bv _ i wr => ∃ k b m : Nat, k ≤ 33 ∧ b ≤ 3 ∧ i = .int .i64 k ∧ bv = .int .i64 b ∧ Hid (BestS s p k b) ∧ wr = wa.drewN m) (fun _ _ i _ => 34 - (intOf i).toNat)
  case atStart => exact ⟨0, 0, 0, by omega, by omega, rfl, rfl, hide (BestS.zero s p), rfl⟩
  case round =>
    obtain ⟨k, b, m, hk, hb3, rfl, rfl, HS, rfl⟩ := hrel
    by_cases hk2 : k < 33
    · have hc := HC.out k hk2
      have hsz := sl_sizes k hk2
      obtain ⟨x, hx⟩ : ∃ x, x = signsL.getD k ⟨#[]⟩ := ⟨_, rfl⟩
      rw [← hx] at hc hsz
      have Hx : Hid (signsL[k]? = some x) := hide (by rw [hx, List.getD_eq_getElem?_getD, List.getElem?_eq_getElem (by rw [sl_len]; exact hk2)]; rfl)
      clear hx
      by_cases h1 : b < x.size
      · by_cases h2 : p + x.size ≤ s.size
        · have hte := toList_eq (a := s.extract p (p + x.size)) (b := x)
          have hsl := fun w' : World => slc_str s (i := (p : Int)) (j := (p : Int) + x.size) w' (by omega) (by omega) (by omega)
          rw [show ((p : Int)).toNat = p by omega, show ((p : Int) + x.size).toNat = p + x.size by omega] at hsl
          have hd1 : decide ((b : Int) < (x.size : Int)) = true := by simp; omega
          have hd2 : decide ((p : Int) + (x.size : Int) ≤ (s.size : Int)) = true := by simp; omega
          by_cases hxt : s.extract p (p + x.size) = x
          · rw [decide_eq_true hxt] at hte
            have HS2 := hide (HS.out.take Hx.out h1 hsz.2 h2 hxt)
            clear hxt
            go_wp2
            go_quiet (fail)
            go_wp2
            go_roundw
            case rel => exact ⟨k + 1, x.size, _, by omega, hsz.2, rfl, rfl, HS2, rfl⟩
            case measure => simp [intOf]; omega
          · rw [decide_eq_false hxt] at hte
            have HS2 := hide (HS.out.keep Hx.out (.inr (.inr hxt)))
            clear hxt
            go_wp2
            go_quiet (fail)
            go_wp2
            go_roundw
            case rel => exact ⟨k + 1, b, _, by omega, hb3, rfl, rfl, HS2, rfl⟩
            case measure => simp [intOf]; omega
        · have HS2 := hide (HS.out.keep Hx.out (.inr (.inl h2)))
          have hd1 : decide ((b : Int) < (x.size : Int)) = true := by simp; omega
          have hd2 : decide ((p : Int) + (x.size : Int) ≤ (s.size : Int)) = false := by simp; omega
          go_wp2
          go_quiet (fail)
          go_wp2
          go_roundw
          case rel => exact ⟨k + 1, b, _, by omega, hb3, rfl, rfl, HS2, rfl⟩
          case measure => simp [intOf]; omega
      · have HS2 := hide (HS.out.keep Hx.out (.inl (by omega)))
        have hd1 : decide ((b : Int) < (x.size : Int)) = false := by simp; omega
        go_wp2
        go_quiet (fail)
        go_wp2
        go_roundw
        case rel => exact ⟨k + 1, b, _, by omega, hb3, rfl, rfl, HS2, rfl⟩
        case measure => simp [intOf]; omega
    · obtain rfl : k = 33 := by omega
      go_wp2
      go_ret
      exact ⟨b, rfl, HS.out.sign, below_dN HBl.out _⟩
end Go.Proofs.YtmndipnifjpdjaaGreatDoor
namespace Go.Proofs.YtmndipnifjpdjaaGreatDoor
open Go Go.RowKit
set_option linter.unusedVariables false
def tokC (s : ByteArray) (t : Tk × Nat) : List Value := [.int .i64 t.1.kind, .int .i64 ((nlc s t.2 : Int) + 1), .int .i64 ((t.2 : Nat) : Int), .string t.1.text, .int .i64 t.1.int, .int .u64 t.1.bits]
def toksC (s : ByteArray) (L : List (Tk × Nat)) : List Value := L.flatMap (tokC s)
theorem toksC_snoc (s : ByteArray) (L : List (Tk × Nat)) (t : Tk × Nat) : toksC s (L ++ [t]) = toksC s L ++ tokC s t := by
  unfold toksC
  rw [List.flatMap_append]
  simp
def OwnT (s : ByteArray) (w : World) (base : Nat) (v : Value) (L : List (Tk × Nat)) : Prop := w.ownsRow base 37 6 v L.length (toksC s L)
theorem ownT_nil (s : ByteArray) (w : World) (base : Nat) : OwnT s w base (.slice none 0 0) [] := World.ownsRow_nil w base 37 6
theorem OwnT.low {s : ByteArray} {w w' : World} {base : Nat} {v : Value} {L : List (Tk × Nat)} (h : OwnT s w base v L) (hb : Below w.heap.size w w') : OwnT s w' base v L :=
  World.ownsRow.kept (row := none) h ⟨hb.os, hb.tape, hb.output, hb.size, fun k hk _ => hb.block k hk⟩ (by
    rcases h.2 with ⟨rfl, _⟩ | ⟨g, cap, cur, rfl, _⟩
    · exact .inl rfl
    · exact .inr (by simp [Value.ownBlock]))
theorem OwnT.beside {s : ByteArray} {w w' : World} {base S : Nat} {v : Value} {L : List (Tk × Nat)} (h : OwnT s w base v L) (hg : w.grownBy w' (some S)) (hS : S < base) : OwnT s w' base v L :=
  World.ownsRow.kept h hg (by
    rcases h.2 with ⟨rfl, _⟩ | ⟨g, cap, cur, rfl, hb, _⟩
    · exact .inl rfl
    · exact .inr (by simp [Value.ownBlock]; omega))
theorem Tryz.info37 : (Tryz.prog.info? 37).map (fun i => (i.zero, i.size, i.bytes)) = some (some (.agg #[.int .i64 0, .int .i64 0, .int .i64 0, .string ⟨#[]⟩, .int .i64 0, .int .u64 0]), 6, 56) := by kernel_rfl
theorem under22 : Tryz.prog.underlying 22 = some (.slice 37) := by kernel_rfl
theorem step_tok {w : World} {ops : Array Oper} {o : Oper} {a : Act} {K : Act → World → Prop} {Q : Exit → Act → World → Prop} {E : Prop} (hgd : o.guard = none) (s x : Operand)
    (ho : o.op = .call { callee := .builtin .append, args := #[s, x], argTypes := #[22, 22] }) (ss : ByteArray) (base D : Nat) (v : Value) (L : List (Tk × Nat)) (t : Tk × Nat) (hs : a.eval s = v) (hown : OwnT ss w base v L)
    (hx : a.eval x = .slice (some ⟨D, 0, none⟩) 1 1) (hblk : w.heap[D]? = some (.cells (tokC ss t).toArray 37 (0, 0))) (hlen : L.length ≤ 1000000) (hbase : base ≤ w.heap.size)
    (h : ∀ g cap w', OwnT ss w' base (.slice (some ⟨g, 0, none⟩) (L.length + 1) cap) (L ++ [t]) → w.grownBy w' v.ownBlock → w.heap.size ≤ w'.heap.size → K (a.put o.dst (.slice (some ⟨g, 0, none⟩) (L.length + 1) cap)) w') :
    if Region.wanted o (yielded ops a.tmps) = true then Oper.wp Tryz.prog o a w K Q else E := by
  obtain ⟨i0, hi, hz0, hz1, hz2⟩ := info_parts Tryz.info37
  refine step_append_lies _ hgd s x 22 ho base 37 i0 _ 6 56 under22 hi hz0 hz1 hz2 rfl (by omega) v L.length (toksC ss L) hs hown ⟨D, 0, none⟩ 1 1 (tokC ss t) hx rfl
    (World.news_of_block (cs := (tokC ss t).toArray) (t := 37) (fr := (0, 0)) hblk) (by simp [tokC, Value.oneCell']) (by omega) (by unfold maxLen; omega) (by omega) hbase w.heap.size rfl ?_
  intro g cap w1 h1 h2 h3 h4
  refine h g cap w1 ?_ h2 h2.size
  unfold OwnT
  rw [toksC_snoc, List.length_append]
  exact h1
end Go.Proofs.YtmndipnifjpdjaaGreatDoor
