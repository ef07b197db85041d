import Derived.Test.YtmndipnifjpdjaaGreatDoorQ38
namespace Go.Proofs.YtmndipnifjpdjaaGreatDoor
open Go Go.RowKit
set_option linter.unusedVariables false
theorem hexB_pre (t : ByteArray) : hexB (hb t) = (Lib.hasPrefix t.data.toList [48, 120] || Lib.hasPrefix t.data.toList [48, 88]) := by
  have h := isHexP_pre t
  rw [← h]
  unfold isHexP hexB hb
  by_cases h1 : 1 < (bs t).length
  · rw [decide_eq_true h1, Bool.true_and]
  · rw [decide_eq_false h1]
    have : (bs t).getD 1 0 = 0 := by rw [List.getD_eq_getElem?_getD, List.getElem?_eq_none (by omega)]; rfl
    rw [this]
    simp
def lastB (t : ByteArray) (i : Nat) : Int := if i = 0 then 0 else hb t (i - 1)
theorem lastB_succ (t : ByteArray) (i : Nat) : lastB t (i + 1) = hb t i := by simp [lastB]
theorem okN_S' {t : ByteArray} {i : Nat} (h : hb t i = 43 ∨ hb t i = 45) (he : lastB t i = 101 ∨ lastB t i = 69) (hx : hexB (hb t) = false) : okN (hb t) i = true := by
  unfold lastB at he
  split at he
  · omega
  · exact okN_S h (by omega) he hx
theorem okN_F' {t : ByteArray} {i : Nat} (h1 : isLD (hb t i) = false) (h2 : hb t i ≠ 46) (h3 : (hb t i ≠ 43 ∧ hb t i ≠ 45) ∨ (lastB t i ≠ 101 ∧ lastB t i ≠ 69) ∨ hexB (hb t) = true) : okN (hb t) i = false := by
  unfold lastB at h3
  rcases h3 with a | a | a
  · exact okN_F h1 h2 (.inl a)
  · split at a
    · rename_i hi
      subst hi
      unfold okN
      rw [h1, bq_f h2]
      simp
    · exact okN_F h1 h2 (.inr (.inl a))
  · exact okN_F h1 h2 (.inr (.inr a))
theorem lit_pre (t : ByteArray) (p : ByteArray) (w : World) : Calls Tryz.prog 68 #[.string t, .string p] w fun e w' => e = .returned (.bool (Lib.hasPrefix t.data.toList p.data.toList)) ∧ w' = w := Tryz.strings_HasPrefix t p w
set_option maxHeartbeats 8000000 in
theorem numeralLength_any (t : ByteArray) (w : World) (ht : t.size ≤ 32768) :
    Calls Tryz.prog 144 #[.string t] w fun e w' => ∃ q : Nat, e = .returned (.int .i64 q) ∧ NumE (hb t) q ∧ q ≤ t.size ∧ Below w.heap.size w w' := by
  have hx := hexB_pre t
  have HX := hide hx
  clear hx
  go_enter Tryz.func144, Tryz.ntmps144
  go_wp2_with fail
  refine (lit_pre t ⟨#[48, 120]⟩ _).mono ?_
  rintro e w1 ⟨rfl, hw1⟩
  rw [hw1]
  clear hw1 w1
  cases h1 : Lib.hasPrefix t.data.toList (ByteArray.mk #[48, 120]).data.toList with
  | true =>
    have HXB : Hid (hexB (hb t) = true) := hide (by rw [HX.out, show Lib.hasPrefix t.data.toList [48, 120] = true from h1]; rfl)
    clear h1
    go_wp2
    go_loopg [4, 5, 6, 7, 8] t.size (fun g lv _ _ _ _ wx => ∃ (i : Nat) (y : Int), i + g = t.size ∧ lv = .int .i32 y ∧ Hid (wx.heap[w.heap.size]? = some (.stringIter t i)) ∧ Hid (Below w.heap.size w wx) ∧ Hid (NumS (hb t) i) ∧ Hid (lastB t i = y))
    case atStart => exact ⟨0, 0, by omega, rfl, hide (World.iter_heap _ _ _), hide (below_iter _ _ _), hide (fun j hj => by omega), hide rfl⟩
    case round =>
      obtain ⟨i, y, hig, rfl, Hh, Hb, HS, HY⟩ := hrel
      by_cases hlt : i < t.size
      · obtain ⟨r, wd, ws, hnx, hst, hbl, hr0, hr1, hcase⟩ := next_any Hh.out hlt
        have Hst := hide hst
        have Hsb := hide (hbl _ _ Hb.out (Nat.le_refl _))
        have HC := hide hcase
        clear hst hbl hcase
        by_cases h101 : y = 101
        · have hy1 := bq_t h101
          clear h101
          go_wp2_with fail
          refine (isLetter_any r _).mono ?_
          rintro e w1 ⟨rfl, rfl⟩
          cases hl : isLet r with
          | true =>
            have h128 : r < 128 := by
              unfold isLet at hl
              simp at hl
              omega
            obtain ⟨h1, h2⟩ : r = hb t i ∧ wd = 1 := by
              rcases HC.out with ⟨a, b, c⟩ | ⟨a, b⟩
              · exact ⟨a, b⟩
              · omega
            subst h2
            have HRr := h1.symm
            have HS2 := hide (HS.out.next (okN_A (.inl (by rw [← h1]; exact isLD_t2 hl))))
            have HRR := hide HRr
            clear h1 hl HRr
            go_wp2
            have HRr := HRR.out
            go_roundg (gk - 1)
            case rel => exact ⟨i + 1, r, by omega, rfl, Hst, Hsb, HS2, hide (by rw [lastB_succ]; exact HRr)⟩
            case measure => omega
          | false =>
            go_wp2_with fail
            refine (isDigit_any r _).mono ?_
            rintro e w1 ⟨rfl, rfl⟩
            cases hd : isDig r with
            | true =>
              have h128 := (isDig_rng' hd).2
              obtain ⟨h1, h2⟩ : r = hb t i ∧ wd = 1 := by
                rcases HC.out with ⟨a, b, c⟩ | ⟨a, b⟩
                · exact ⟨a, b⟩
                · omega
              subst h2
              have HRr := h1.symm
              have HS2 := hide (HS.out.next (okN_A (.inl (by rw [← h1]; exact isLD_t1 hd))))
              have HRR := hide HRr
              clear h1 hl hd HRr
              go_wp2
              have HRr := HRR.out
              go_roundg (gk - 1)
              case rel => exact ⟨i + 1, r, by omega, rfl, Hst, Hsb, HS2, hide (by rw [lastB_succ]; exact HRr)⟩
              case measure => omega
            | false =>
              by_cases h46 : r = 46
              · obtain ⟨h1, h2⟩ : r = hb t i ∧ wd = 1 := by
                  rcases HC.out with ⟨a, b, c⟩ | ⟨a, b⟩
                  · exact ⟨a, b⟩
                  · omega
                subst h2
                have HRr := h1.symm
                have HS2 := hide (HS.out.next (okN_A (.inr (by rw [← h1]; exact h46))))
                have HRR := hide HRr
                have hq46 := bn_f h46
                clear h1 hl hd HRr h46
                go_wp2
                have HRr := HRR.out
                go_roundg (gk - 1)
                case rel => exact ⟨i + 1, r, by omega, rfl, Hst, Hsb, HS2, hide (by rw [lastB_succ]; exact HRr)⟩
                case measure => omega
              · have hq46 := bn_t h46
                have HF : Hid (okN (hb t) i = false) := hide (by
                  rcases HC.out with ⟨a, b, c⟩ | ⟨a, b⟩
                  · exact okN_F' (by rw [← a]; exact isLD_f hd hl) (by rw [← a]; exact h46) (.inr (.inr HXB.out))
                  · exact okN_F' (high_LD b) (by omega) (.inl ⟨by omega, by omega⟩))
                clear hl hd h46
                go_wp2
                go_ret
                exact ⟨i, rfl, ⟨HS.out, HF.out⟩, by omega, Hsb.out⟩
        · have hy1 := bq_f h101
          clear h101
          by_cases h69 : y = 69
          · have hy2 := bq_t h69
            clear h69
            go_wp2_with fail
            refine (isLetter_any r _).mono ?_
            rintro e w1 ⟨rfl, rfl⟩
            cases hl : isLet r with
            | true =>
              have h128 : r < 128 := by
                unfold isLet at hl
                simp at hl
                omega
              obtain ⟨h1, h2⟩ : r = hb t i ∧ wd = 1 := by
                rcases HC.out with ⟨a, b, c⟩ | ⟨a, b⟩
                · exact ⟨a, b⟩
                · omega
              subst h2
              have HRr := h1.symm
              have HS2 := hide (HS.out.next (okN_A (.inl (by rw [← h1]; exact isLD_t2 hl))))
              have HRR := hide HRr
              clear h1 hl HRr
              go_wp2
              have HRr := HRR.out
              go_roundg (gk - 1)
              case rel => exact ⟨i + 1, r, by omega, rfl, Hst, Hsb, HS2, hide (by rw [lastB_succ]; exact HRr)⟩
              case measure => omega
            | false =>
              go_wp2_with fail
              refine (isDigit_any r _).mono ?_
              rintro e w1 ⟨rfl, rfl⟩
              cases hd : isDig r with
              | true =>
                have h128 := (isDig_rng' hd).2
                obtain ⟨h1, h2⟩ : r = hb t i ∧ wd = 1 := by
                  rcases HC.out with ⟨a, b, c⟩ | ⟨a, b⟩
                  · exact ⟨a, b⟩
                  · omega
                subst h2
                have HRr := h1.symm
                have HS2 := hide (HS.out.next (okN_A (.inl (by rw [← h1]; exact isLD_t1 hd))))
                have HRR := hide HRr
                clear h1 hl hd HRr
                go_wp2
                have HRr := HRR.out
                go_roundg (gk - 1)
                case rel => exact ⟨i + 1, r, by omega, rfl, Hst, Hsb, HS2, hide (by rw [lastB_succ]; exact HRr)⟩
                case measure => omega
              | false =>
                by_cases h46 : r = 46
                · obtain ⟨h1, h2⟩ : r = hb t i ∧ wd = 1 := by
                    rcases HC.out with ⟨a, b, c⟩ | ⟨a, b⟩
                    · exact ⟨a, b⟩
                    · omega
                  subst h2
                  have HRr := h1.symm
                  have HS2 := hide (HS.out.next (okN_A (.inr (by rw [← h1]; exact h46))))
                  have HRR := hide HRr
                  have hq46 := bn_f h46
                  clear h1 hl hd HRr h46
                  go_wp2
                  have HRr := HRR.out
                  go_roundg (gk - 1)
                  case rel => exact ⟨i + 1, r, by omega, rfl, Hst, Hsb, HS2, hide (by rw [lastB_succ]; exact HRr)⟩
                  case measure => omega
                · have hq46 := bn_t h46
                  have HF : Hid (okN (hb t) i = false) := hide (by
                    rcases HC.out with ⟨a, b, c⟩ | ⟨a, b⟩
                    · exact okN_F' (by rw [← a]; exact isLD_f hd hl) (by rw [← a]; exact h46) (.inr (.inr HXB.out))
                    · exact okN_F' (high_LD b) (by omega) (.inl ⟨by omega, by omega⟩))
                  clear hl hd h46
                  go_wp2
                  go_ret
                  exact ⟨i, rfl, ⟨HS.out, HF.out⟩, by omega, Hsb.out⟩
          · have hy2 := bq_f h69
            clear h69
            go_wp2_with fail
            refine (isLetter_any r _).mono ?_
            rintro e w1 ⟨rfl, rfl⟩
            cases hl : isLet r with
            | true =>
              have h128 : r < 128 := by
                unfold isLet at hl
                simp at hl
                omega
              obtain ⟨h1, h2⟩ : r = hb t i ∧ wd = 1 := by
                rcases HC.out with ⟨a, b, c⟩ | ⟨a, b⟩
                · exact ⟨a, b⟩
                · omega
              subst h2
              have HRr := h1.symm
              have HS2 := hide (HS.out.next (okN_A (.inl (by rw [← h1]; exact isLD_t2 hl))))
              have HRR := hide HRr
              clear h1 hl HRr
              go_wp2
              have HRr := HRR.out
              go_roundg (gk - 1)
              case rel => exact ⟨i + 1, r, by omega, rfl, Hst, Hsb, HS2, hide (by rw [lastB_succ]; exact HRr)⟩
              case measure => omega
            | false =>
              go_wp2_with fail
              refine (isDigit_any r _).mono ?_
              rintro e w1 ⟨rfl, rfl⟩
              cases hd : isDig r with
              | true =>
                have h128 := (isDig_rng' hd).2
                obtain ⟨h1, h2⟩ : r = hb t i ∧ wd = 1 := by
                  rcases HC.out with ⟨a, b, c⟩ | ⟨a, b⟩
                  · exact ⟨a, b⟩
                  · omega
                subst h2
                have HRr := h1.symm
                have HS2 := hide (HS.out.next (okN_A (.inl (by rw [← h1]; exact isLD_t1 hd))))
                have HRR := hide HRr
                clear h1 hl hd HRr
                go_wp2
                have HRr := HRR.out
                go_roundg (gk - 1)
                case rel => exact ⟨i + 1, r, by omega, rfl, Hst, Hsb, HS2, hide (by rw [lastB_succ]; exact HRr)⟩
                case measure => omega
              | false =>
                by_cases h46 : r = 46
                · obtain ⟨h1, h2⟩ : r = hb t i ∧ wd = 1 := by
                    rcases HC.out with ⟨a, b, c⟩ | ⟨a, b⟩
                    · exact ⟨a, b⟩
                    · omega
                  subst h2
                  have HRr := h1.symm
                  have HS2 := hide (HS.out.next (okN_A (.inr (by rw [← h1]; exact h46))))
                  have HRR := hide HRr
                  have hq46 := bn_f h46
                  clear h1 hl hd HRr h46
                  go_wp2
                  have HRr := HRR.out
                  go_roundg (gk - 1)
                  case rel => exact ⟨i + 1, r, by omega, rfl, Hst, Hsb, HS2, hide (by rw [lastB_succ]; exact HRr)⟩
                  case measure => omega
                · have hq46 := bn_t h46
                  have HF : Hid (okN (hb t) i = false) := hide (by
                    rcases HC.out with ⟨a, b, c⟩ | ⟨a, b⟩
                    · exact okN_F' (by rw [← a]; exact isLD_f hd hl) (by rw [← a]; exact h46) (.inr (.inr HXB.out))
                    · exact okN_F' (high_LD b) (by omega) (.inl ⟨by omega, by omega⟩))
                  clear hl hd h46
                  go_wp2
                  go_ret
                  exact ⟨i, rfl, ⟨HS.out, HF.out⟩, by omega, Hsb.out⟩
      · have hnx := next_end Hh.out hlt
        obtain rfl : i = t.size := by omega
        have HF : Hid (okN (hb t) t.size = false) := hide (okN_F' (by rw [hb_out (Nat.le_refl _)]; rfl) (by rw [hb_out (Nat.le_refl _)]; decide) (.inl (by rw [hb_out (Nat.le_refl _)]; decide)))
        go_wp2
        go_ret
        exact ⟨t.size, rfl, ⟨HS.out, HF.out⟩, by omega, Hb.out⟩
  | false =>
    go_wp2_with fail
    refine (lit_pre t ⟨#[48, 88]⟩ _).mono ?_
    rintro e w1 ⟨rfl, hw1⟩
    rw [hw1]
    clear hw1 w1
    cases h2 : Lib.hasPrefix t.data.toList (ByteArray.mk #[48, 88]).data.toList with
    | true =>
      have HXB : Hid (hexB (hb t) = true) := hide (by rw [HX.out, show Lib.hasPrefix t.data.toList [48, 120] = false from h1, show Lib.hasPrefix t.data.toList [48, 88] = true from h2]; rfl)
      clear h1 h2
      go_wp2
      go_loopg [4, 5, 6, 7, 8] t.size (fun g lv _ _ _ _ wx => ∃ (i : Nat) (y : Int), i + g = t.size ∧ lv = .int .i32 y ∧ Hid (wx.heap[w.heap.size]? = some (.stringIter t i)) ∧ Hid (Below w.heap.size w wx) ∧ Hid (NumS (hb t) i) ∧ Hid (lastB t i = y))
      case atStart => exact ⟨0, 0, by omega, rfl, hide (World.iter_heap _ _ _), hide (below_iter _ _ _), hide (fun j hj => by omega), hide rfl⟩
      case round =>
        obtain ⟨i, y, hig, rfl, Hh, Hb, HS, HY⟩ := hrel
        by_cases hlt : i < t.size
        · obtain ⟨r, wd, ws, hnx, hst, hbl, hr0, hr1, hcase⟩ := next_any Hh.out hlt
          have Hst := hide hst
          have Hsb := hide (hbl _ _ Hb.out (Nat.le_refl _))
          have HC := hide hcase
          clear hst hbl hcase
          by_cases h101 : y = 101
          · have hy1 := bq_t h101
            clear h101
            go_wp2_with fail
            refine (isLetter_any r _).mono ?_
            rintro e w1 ⟨rfl, rfl⟩
            cases hl : isLet r with
            | true =>
              have h128 : r < 128 := by
                unfold isLet at hl
                simp at hl
                omega
              obtain ⟨h1, h2⟩ : r = hb t i ∧ wd = 1 := by
                rcases HC.out with ⟨a, b, c⟩ | ⟨a, b⟩
                · exact ⟨a, b⟩
                · omega
              subst h2
              have HRr := h1.symm
              have HS2 := hide (HS.out.next (okN_A (.inl (by rw [← h1]; exact isLD_t2 hl))))
              have HRR := hide HRr
              clear h1 hl HRr
              go_wp2
              have HRr := HRR.out
              go_roundg (gk - 1)
              case rel => exact ⟨i + 1, r, by omega, rfl, Hst, Hsb, HS2, hide (by rw [lastB_succ]; exact HRr)⟩
              case measure => omega
            | false =>
              go_wp2_with fail
              refine (isDigit_any r _).mono ?_
              rintro e w1 ⟨rfl, rfl⟩
              cases hd : isDig r with
              | true =>
                have h128 := (isDig_rng' hd).2
                obtain ⟨h1, h2⟩ : r = hb t i ∧ wd = 1 := by
                  rcases HC.out with ⟨a, b, c⟩ | ⟨a, b⟩
                  · exact ⟨a, b⟩
                  · omega
                subst h2
                have HRr := h1.symm
                have HS2 := hide (HS.out.next (okN_A (.inl (by rw [← h1]; exact isLD_t1 hd))))
                have HRR := hide HRr
                clear h1 hl hd HRr
                go_wp2
                have HRr := HRR.out
                go_roundg (gk - 1)
                case rel => exact ⟨i + 1, r, by omega, rfl, Hst, Hsb, HS2, hide (by rw [lastB_succ]; exact HRr)⟩
                case measure => omega
              | false =>
                by_cases h46 : r = 46
                · obtain ⟨h1, h2⟩ : r = hb t i ∧ wd = 1 := by
                    rcases HC.out with ⟨a, b, c⟩ | ⟨a, b⟩
                    · exact ⟨a, b⟩
                    · omega
                  subst h2
                  have HRr := h1.symm
                  have HS2 := hide (HS.out.next (okN_A (.inr (by rw [← h1]; exact h46))))
                  have HRR := hide HRr
                  have hq46 := bn_f h46
                  clear h1 hl hd HRr h46
                  go_wp2
                  have HRr := HRR.out
                  go_roundg (gk - 1)
                  case rel => exact ⟨i + 1, r, by omega, rfl, Hst, Hsb, HS2, hide (by rw [lastB_succ]; exact HRr)⟩
                  case measure => omega
                · have hq46 := bn_t h46
                  have HF : Hid (okN (hb t) i = false) := hide (by
                    rcases HC.out with ⟨a, b, c⟩ | ⟨a, b⟩
                    · exact okN_F' (by rw [← a]; exact isLD_f hd hl) (by rw [← a]; exact h46) (.inr (.inr HXB.out))
                    · exact okN_F' (high_LD b) (by omega) (.inl ⟨by omega, by omega⟩))
                  clear hl hd h46
                  go_wp2
                  go_ret
                  exact ⟨i, rfl, ⟨HS.out, HF.out⟩, by omega, Hsb.out⟩
          · have hy1 := bq_f h101
            clear h101
            by_cases h69 : y = 69
            · have hy2 := bq_t h69
              clear h69
              go_wp2_with fail
              refine (isLetter_any r _).mono ?_
              rintro e w1 ⟨rfl, rfl⟩
              cases hl : isLet r with
              | true =>
                have h128 : r < 128 := by
                  unfold isLet at hl
                  simp at hl
                  omega
                obtain ⟨h1, h2⟩ : r = hb t i ∧ wd = 1 := by
                  rcases HC.out with ⟨a, b, c⟩ | ⟨a, b⟩
                  · exact ⟨a, b⟩
                  · omega
                subst h2
                have HRr := h1.symm
                have HS2 := hide (HS.out.next (okN_A (.inl (by rw [← h1]; exact isLD_t2 hl))))
                have HRR := hide HRr
                clear h1 hl HRr
                go_wp2
                have HRr := HRR.out
                go_roundg (gk - 1)
                case rel => exact ⟨i + 1, r, by omega, rfl, Hst, Hsb, HS2, hide (by rw [lastB_succ]; exact HRr)⟩
                case measure => omega
              | false =>
                go_wp2_with fail
                refine (isDigit_any r _).mono ?_
                rintro e w1 ⟨rfl, rfl⟩
                cases hd : isDig r with
                | true =>
                  have h128 := (isDig_rng' hd).2
                  obtain ⟨h1, h2⟩ : r = hb t i ∧ wd = 1 := by
                    rcases HC.out with ⟨a, b, c⟩ | ⟨a, b⟩
                    · exact ⟨a, b⟩
                    · omega
                  subst h2
                  have HRr := h1.symm
                  have HS2 := hide (HS.out.next (okN_A (.inl (by rw [← h1]; exact isLD_t1 hd))))
                  have HRR := hide HRr
                  clear h1 hl hd HRr
                  go_wp2
                  have HRr := HRR.out
                  go_roundg (gk - 1)
                  case rel => exact ⟨i + 1, r, by omega, rfl, Hst, Hsb, HS2, hide (by rw [lastB_succ]; exact HRr)⟩
                  case measure => omega
                | false =>
                  by_cases h46 : r = 46
                  · obtain ⟨h1, h2⟩ : r = hb t i ∧ wd = 1 := by
                      rcases HC.out with ⟨a, b, c⟩ | ⟨a, b⟩
                      · exact ⟨a, b⟩
                      · omega
                    subst h2
                    have HRr := h1.symm
                    have HS2 := hide (HS.out.next (okN_A (.inr (by rw [← h1]; exact h46))))
                    have HRR := hide HRr
                    have hq46 := bn_f h46
                    clear h1 hl hd HRr h46
                    go_wp2
                    have HRr := HRR.out
                    go_roundg (gk - 1)
                    case rel => exact ⟨i + 1, r, by omega, rfl, Hst, Hsb, HS2, hide (by rw [lastB_succ]; exact HRr)⟩
                    case measure => omega
                  · have hq46 := bn_t h46
                    have HF : Hid (okN (hb t) i = false) := hide (by
                      rcases HC.out with ⟨a, b, c⟩ | ⟨a, b⟩
                      · exact okN_F' (by rw [← a]; exact isLD_f hd hl) (by rw [← a]; exact h46) (.inr (.inr HXB.out))
                      · exact okN_F' (high_LD b) (by omega) (.inl ⟨by omega, by omega⟩))
                    clear hl hd h46
                    go_wp2
                    go_ret
                    exact ⟨i, rfl, ⟨HS.out, HF.out⟩, by omega, Hsb.out⟩
            · have hy2 := bq_f h69
              clear h69
              go_wp2_with fail
              refine (isLetter_any r _).mono ?_
              rintro e w1 ⟨rfl, rfl⟩
              cases hl : isLet r with
              | true =>
                have h128 : r < 128 := by
                  unfold isLet at hl
                  simp at hl
                  omega
                obtain ⟨h1, h2⟩ : r = hb t i ∧ wd = 1 := by
                  rcases HC.out with ⟨a, b, c⟩ | ⟨a, b⟩
                  · exact ⟨a, b⟩
                  · omega
                subst h2
                have HRr := h1.symm
                have HS2 := hide (HS.out.next (okN_A (.inl (by rw [← h1]; exact isLD_t2 hl))))
                have HRR := hide HRr
                clear h1 hl HRr
                go_wp2
                have HRr := HRR.out
                go_roundg (gk - 1)
                case rel => exact ⟨i + 1, r, by omega, rfl, Hst, Hsb, HS2, hide (by rw [lastB_succ]; exact HRr)⟩
                case measure => omega
              | false =>
                go_wp2_with fail
                refine (isDigit_any r _).mono ?_
                rintro e w1 ⟨rfl, rfl⟩
                cases hd : isDig r with
                | true =>
                  have h128 := (isDig_rng' hd).2
                  obtain ⟨h1, h2⟩ : r = hb t i ∧ wd = 1 := by
                    rcases HC.out with ⟨a, b, c⟩ | ⟨a, b⟩
                    · exact ⟨a, b⟩
                    · omega
                  subst h2
                  have HRr := h1.symm
                  have HS2 := hide (HS.out.next (okN_A (.inl (by rw [← h1]; exact isLD_t1 hd))))
                  have HRR := hide HRr
                  clear h1 hl hd HRr
                  go_wp2
                  have HRr := HRR.out
                  go_roundg (gk - 1)
                  case rel => exact ⟨i + 1, r, by omega, rfl, Hst, Hsb, HS2, hide (by rw [lastB_succ]; exact HRr)⟩
                  case measure => omega
                | false =>
                  by_cases h46 : r = 46
                  · obtain ⟨h1, h2⟩ : r = hb t i ∧ wd = 1 := by
                      rcases HC.out with ⟨a, b, c⟩ | ⟨a, b⟩
                      · exact ⟨a, b⟩
                      · omega
                    subst h2
                    have HRr := h1.symm
                    have HS2 := hide (HS.out.next (okN_A (.inr (by rw [← h1]; exact h46))))
                    have HRR := hide HRr
                    have hq46 := bn_f h46
                    clear h1 hl hd HRr h46
                    go_wp2
                    have HRr := HRR.out
                    go_roundg (gk - 1)
                    case rel => exact ⟨i + 1, r, by omega, rfl, Hst, Hsb, HS2, hide (by rw [lastB_succ]; exact HRr)⟩
                    case measure => omega
                  · have hq46 := bn_t h46
                    have HF : Hid (okN (hb t) i = false) := hide (by
                      rcases HC.out with ⟨a, b, c⟩ | ⟨a, b⟩
                      · exact okN_F' (by rw [← a]; exact isLD_f hd hl) (by rw [← a]; exact h46) (.inr (.inr HXB.out))
                      · exact okN_F' (high_LD b) (by omega) (.inl ⟨by omega, by omega⟩))
                    clear hl hd h46
                    go_wp2
                    go_ret
                    exact ⟨i, rfl, ⟨HS.out, HF.out⟩, by omega, Hsb.out⟩
        · have hnx := next_end Hh.out hlt
          obtain rfl : i = t.size := by omega
          have HF : Hid (okN (hb t) t.size = false) := hide (okN_F' (by rw [hb_out (Nat.le_refl _)]; rfl) (by rw [hb_out (Nat.le_refl _)]; decide) (.inl (by rw [hb_out (Nat.le_refl _)]; decide)))
          go_wp2
          go_ret
          exact ⟨t.size, rfl, ⟨HS.out, HF.out⟩, by omega, Hb.out⟩
    | false =>
      have HXB : Hid (hexB (hb t) = false) := hide (by rw [HX.out, show Lib.hasPrefix t.data.toList [48, 120] = false from h1, show Lib.hasPrefix t.data.toList [48, 88] = false from h2]; rfl)
      clear h1 h2
      go_wp2
      go_loopg [4, 5, 6, 7, 8] t.size (fun g lv _ _ _ _ wx => ∃ (i : Nat) (y : Int), i + g = t.size ∧ lv = .int .i32 y ∧ Hid (wx.heap[w.heap.size]? = some (.stringIter t i)) ∧ Hid (Below w.heap.size w wx) ∧ Hid (NumS (hb t) i) ∧ Hid (lastB t i = y))
      case atStart => exact ⟨0, 0, by omega, rfl, hide (World.iter_heap _ _ _), hide (below_iter _ _ _), hide (fun j hj => by omega), hide rfl⟩
      case round =>
        obtain ⟨i, y, hig, rfl, Hh, Hb, HS, HY⟩ := hrel
        by_cases hlt : i < t.size
        · obtain ⟨r, wd, ws, hnx, hst, hbl, hr0, hr1, hcase⟩ := next_any Hh.out hlt
          have Hst := hide hst
          have Hsb := hide (hbl _ _ Hb.out (Nat.le_refl _))
          have HC := hide hcase
          clear hst hbl hcase
          by_cases h101 : y = 101
          · have hy1 := bq_t h101
            have HE := hide (Or.inl h101 : y = 101 ∨ y = 69)
            clear h101
            by_cases h43 : r = 43
            · obtain ⟨h1, h2⟩ : r = hb t i ∧ wd = 1 := by
                rcases HC.out with ⟨a, b, c⟩ | ⟨a, b⟩
                · exact ⟨a, b⟩
                · omega
              subst h2
              have HRr := h1.symm
              have HS2 := hide (HS.out.next (okN_S' (.inl (by rw [← h1]; exact h43)) (by rw [HY.out]; exact HE.out) HXB.out))
              have HRR := hide HRr
              have hq43 := bq_t h43
              clear h1 HRr h43
              go_wp2
              have HRr := HRR.out
              go_roundg (gk - 1)
              case rel => exact ⟨i + 1, r, by omega, rfl, Hst, Hsb, HS2, hide (by rw [lastB_succ]; exact HRr)⟩
              case measure => omega
            · have hq43 := bq_f h43
              by_cases h45 : r = 45
              · obtain ⟨h1, h2⟩ : r = hb t i ∧ wd = 1 := by
                  rcases HC.out with ⟨a, b, c⟩ | ⟨a, b⟩
                  · exact ⟨a, b⟩
                  · omega
                subst h2
                have HRr := h1.symm
                have HS2 := hide (HS.out.next (okN_S' (.inr (by rw [← h1]; exact h45)) (by rw [HY.out]; exact HE.out) HXB.out))
                have HRR := hide HRr
                have hq45 := bq_t h45
                clear h1 HRr h43 h45
                go_wp2
                have HRr := HRR.out
                go_roundg (gk - 1)
                case rel => exact ⟨i + 1, r, by omega, rfl, Hst, Hsb, HS2, hide (by rw [lastB_succ]; exact HRr)⟩
                case measure => omega
              · have hq45 := bq_f h45
                have H43 := hide h43
                have H45 := hide h45
                clear h43 h45
                go_wp2_with fail
                refine (isLetter_any r _).mono ?_
                rintro e w1 ⟨rfl, rfl⟩
                cases hl : isLet r with
                | true =>
                  have h128 : r < 128 := by
                    unfold isLet at hl
                    simp at hl
                    omega
                  obtain ⟨h1, h2⟩ : r = hb t i ∧ wd = 1 := by
                    rcases HC.out with ⟨a, b, c⟩ | ⟨a, b⟩
                    · exact ⟨a, b⟩
                    · omega
                  subst h2
                  have HRr := h1.symm
                  have HS2 := hide (HS.out.next (okN_A (.inl (by rw [← h1]; exact isLD_t2 hl))))
                  have HRR := hide HRr
                  clear h1 hl HRr
                  go_wp2
                  have HRr := HRR.out
                  go_roundg (gk - 1)
                  case rel => exact ⟨i + 1, r, by omega, rfl, Hst, Hsb, HS2, hide (by rw [lastB_succ]; exact HRr)⟩
                  case measure => omega
                | false =>
                  go_wp2_with fail
                  refine (isDigit_any r _).mono ?_
                  rintro e w1 ⟨rfl, rfl⟩
                  cases hd : isDig r with
                  | true =>
                    have h128 := (isDig_rng' hd).2
                    obtain ⟨h1, h2⟩ : r = hb t i ∧ wd = 1 := by
                      rcases HC.out with ⟨a, b, c⟩ | ⟨a, b⟩
                      · exact ⟨a, b⟩
                      · omega
                    subst h2
                    have HRr := h1.symm
                    have HS2 := hide (HS.out.next (okN_A (.inl (by rw [← h1]; exact isLD_t1 hd))))
                    have HRR := hide HRr
                    clear h1 hl hd HRr
                    go_wp2
                    have HRr := HRR.out
                    go_roundg (gk - 1)
                    case rel => exact ⟨i + 1, r, by omega, rfl, Hst, Hsb, HS2, hide (by rw [lastB_succ]; exact HRr)⟩
                    case measure => omega
                  | false =>
                    by_cases h46 : r = 46
                    · obtain ⟨h1, h2⟩ : r = hb t i ∧ wd = 1 := by
                        rcases HC.out with ⟨a, b, c⟩ | ⟨a, b⟩
                        · exact ⟨a, b⟩
                        · omega
                      subst h2
                      have HRr := h1.symm
                      have HS2 := hide (HS.out.next (okN_A (.inr (by rw [← h1]; exact h46))))
                      have HRR := hide HRr
                      have hq46 := bn_f h46
                      clear h1 hl hd HRr h46
                      go_wp2
                      have HRr := HRR.out
                      go_roundg (gk - 1)
                      case rel => exact ⟨i + 1, r, by omega, rfl, Hst, Hsb, HS2, hide (by rw [lastB_succ]; exact HRr)⟩
                      case measure => omega
                    · have hq46 := bn_t h46
                      have HF : Hid (okN (hb t) i = false) := hide (by
                        rcases HC.out with ⟨a, b, c⟩ | ⟨a, b⟩
                        · exact okN_F' (by rw [← a]; exact isLD_f hd hl) (by rw [← a]; exact h46) (.inl ⟨by rw [← a]; exact H43.out, by rw [← a]; exact H45.out⟩)
                        · exact okN_F' (high_LD b) (by omega) (.inl ⟨by omega, by omega⟩))
                      clear hl hd h46
                      go_wp2
                      go_ret
                      exact ⟨i, rfl, ⟨HS.out, HF.out⟩, by omega, Hsb.out⟩
          · have hy1 := bq_f h101
            by_cases h69 : y = 69
            · have hy2 := bq_t h69
              have HE := hide (Or.inr h69 : y = 101 ∨ y = 69)
              clear h69 h101
              by_cases h43 : r = 43
              · obtain ⟨h1, h2⟩ : r = hb t i ∧ wd = 1 := by
                  rcases HC.out with ⟨a, b, c⟩ | ⟨a, b⟩
                  · exact ⟨a, b⟩
                  · omega
                subst h2
                have HRr := h1.symm
                have HS2 := hide (HS.out.next (okN_S' (.inl (by rw [← h1]; exact h43)) (by rw [HY.out]; exact HE.out) HXB.out))
                have HRR := hide HRr
                have hq43 := bq_t h43
                clear h1 HRr h43
                go_wp2
                have HRr := HRR.out
                go_roundg (gk - 1)
                case rel => exact ⟨i + 1, r, by omega, rfl, Hst, Hsb, HS2, hide (by rw [lastB_succ]; exact HRr)⟩
                case measure => omega
              · have hq43 := bq_f h43
                by_cases h45 : r = 45
                · obtain ⟨h1, h2⟩ : r = hb t i ∧ wd = 1 := by
                    rcases HC.out with ⟨a, b, c⟩ | ⟨a, b⟩
                    · exact ⟨a, b⟩
                    · omega
                  subst h2
                  have HRr := h1.symm
                  have HS2 := hide (HS.out.next (okN_S' (.inr (by rw [← h1]; exact h45)) (by rw [HY.out]; exact HE.out) HXB.out))
                  have HRR := hide HRr
                  have hq45 := bq_t h45
                  clear h1 HRr h43 h45
                  go_wp2
                  have HRr := HRR.out
                  go_roundg (gk - 1)
                  case rel => exact ⟨i + 1, r, by omega, rfl, Hst, Hsb, HS2, hide (by rw [lastB_succ]; exact HRr)⟩
                  case measure => omega
                · have hq45 := bq_f h45
                  have H43 := hide h43
                  have H45 := hide h45
                  clear h43 h45
                  go_wp2_with fail
                  refine (isLetter_any r _).mono ?_
                  rintro e w1 ⟨rfl, rfl⟩
                  cases hl : isLet r with
                  | true =>
                    have h128 : r < 128 := by
                      unfold isLet at hl
                      simp at hl
                      omega
                    obtain ⟨h1, h2⟩ : r = hb t i ∧ wd = 1 := by
                      rcases HC.out with ⟨a, b, c⟩ | ⟨a, b⟩
                      · exact ⟨a, b⟩
                      · omega
                    subst h2
                    have HRr := h1.symm
                    have HS2 := hide (HS.out.next (okN_A (.inl (by rw [← h1]; exact isLD_t2 hl))))
                    have HRR := hide HRr
                    clear h1 hl HRr
                    go_wp2
                    have HRr := HRR.out
                    go_roundg (gk - 1)
                    case rel => exact ⟨i + 1, r, by omega, rfl, Hst, Hsb, HS2, hide (by rw [lastB_succ]; exact HRr)⟩
                    case measure => omega
                  | false =>
                    go_wp2_with fail
                    refine (isDigit_any r _).mono ?_
                    rintro e w1 ⟨rfl, rfl⟩
                    cases hd : isDig r with
                    | true =>
                      have h128 := (isDig_rng' hd).2
                      obtain ⟨h1, h2⟩ : r = hb t i ∧ wd = 1 := by
                        rcases HC.out with ⟨a, b, c⟩ | ⟨a, b⟩
                        · exact ⟨a, b⟩
                        · omega
                      subst h2
                      have HRr := h1.symm
                      have HS2 := hide (HS.out.next (okN_A (.inl (by rw [← h1]; exact isLD_t1 hd))))
                      have HRR := hide HRr
                      clear h1 hl hd HRr
                      go_wp2
                      have HRr := HRR.out
                      go_roundg (gk - 1)
                      case rel => exact ⟨i + 1, r, by omega, rfl, Hst, Hsb, HS2, hide (by rw [lastB_succ]; exact HRr)⟩
                      case measure => omega
                    | false =>
                      by_cases h46 : r = 46
                      · obtain ⟨h1, h2⟩ : r = hb t i ∧ wd = 1 := by
                          rcases HC.out with ⟨a, b, c⟩ | ⟨a, b⟩
                          · exact ⟨a, b⟩
                          · omega
                        subst h2
                        have HRr := h1.symm
                        have HS2 := hide (HS.out.next (okN_A (.inr (by rw [← h1]; exact h46))))
                        have HRR := hide HRr
                        have hq46 := bn_f h46
                        clear h1 hl hd HRr h46
                        go_wp2
                        have HRr := HRR.out
                        go_roundg (gk - 1)
                        case rel => exact ⟨i + 1, r, by omega, rfl, Hst, Hsb, HS2, hide (by rw [lastB_succ]; exact HRr)⟩
                        case measure => omega
                      · have hq46 := bn_t h46
                        have HF : Hid (okN (hb t) i = false) := hide (by
                          rcases HC.out with ⟨a, b, c⟩ | ⟨a, b⟩
                          · exact okN_F' (by rw [← a]; exact isLD_f hd hl) (by rw [← a]; exact h46) (.inl ⟨by rw [← a]; exact H43.out, by rw [← a]; exact H45.out⟩)
                          · exact okN_F' (high_LD b) (by omega) (.inl ⟨by omega, by omega⟩))
                        clear hl hd h46
                        go_wp2
                        go_ret
                        exact ⟨i, rfl, ⟨HS.out, HF.out⟩, by omega, Hsb.out⟩
            · have hy2 := bq_f h69
              have HE := hide (And.intro h101 h69)
              clear h69 h101
              go_wp2_with fail
              refine (isLetter_any r _).mono ?_
              rintro e w1 ⟨rfl, rfl⟩
              cases hl : isLet r with
              | true =>
                have h128 : r < 128 := by
                  unfold isLet at hl
                  simp at hl
                  omega
                obtain ⟨h1, h2⟩ : r = hb t i ∧ wd = 1 := by
                  rcases HC.out with ⟨a, b, c⟩ | ⟨a, b⟩
                  · exact ⟨a, b⟩
                  · omega
                subst h2
                have HRr := h1.symm
                have HS2 := hide (HS.out.next (okN_A (.inl (by rw [← h1]; exact isLD_t2 hl))))
                have HRR := hide HRr
                clear h1 hl HRr
                go_wp2
                have HRr := HRR.out
                go_roundg (gk - 1)
                case rel => exact ⟨i + 1, r, by omega, rfl, Hst, Hsb, HS2, hide (by rw [lastB_succ]; exact HRr)⟩
                case measure => omega
              | false =>
                go_wp2_with fail
                refine (isDigit_any r _).mono ?_
                rintro e w1 ⟨rfl, rfl⟩
                cases hd : isDig r with
                | true =>
                  have h128 := (isDig_rng' hd).2
                  obtain ⟨h1, h2⟩ : r = hb t i ∧ wd = 1 := by
                    rcases HC.out with ⟨a, b, c⟩ | ⟨a, b⟩
                    · exact ⟨a, b⟩
                    · omega
                  subst h2
                  have HRr := h1.symm
                  have HS2 := hide (HS.out.next (okN_A (.inl (by rw [← h1]; exact isLD_t1 hd))))
                  have HRR := hide HRr
                  clear h1 hl hd HRr
                  go_wp2
                  have HRr := HRR.out
                  go_roundg (gk - 1)
                  case rel => exact ⟨i + 1, r, by omega, rfl, Hst, Hsb, HS2, hide (by rw [lastB_succ]; exact HRr)⟩
                  case measure => omega
                | false =>
                  by_cases h46 : r = 46
                  · obtain ⟨h1, h2⟩ : r = hb t i ∧ wd = 1 := by
                      rcases HC.out with ⟨a, b, c⟩ | ⟨a, b⟩
                      · exact ⟨a, b⟩
                      · omega
                    subst h2
                    have HRr := h1.symm
                    have HS2 := hide (HS.out.next (okN_A (.inr (by rw [← h1]; exact h46))))
                    have HRR := hide HRr
                    have hq46 := bn_f h46
                    clear h1 hl hd HRr h46
                    go_wp2
                    have HRr := HRR.out
                    go_roundg (gk - 1)
                    case rel => exact ⟨i + 1, r, by omega, rfl, Hst, Hsb, HS2, hide (by rw [lastB_succ]; exact HRr)⟩
                    case measure => omega
                  · have hq46 := bn_t h46
                    have HF : Hid (okN (hb t) i = false) := hide (by
                      rcases HC.out with ⟨a, b, c⟩ | ⟨a, b⟩
                      · exact okN_F' (by rw [← a]; exact isLD_f hd hl) (by rw [← a]; exact h46) (.inr (.inl (by rw [HY.out]; exact HE.out)))
                      · exact okN_F' (high_LD b) (by omega) (.inl ⟨by omega, by omega⟩))
                    clear hl hd h46
                    go_wp2
                    go_ret
                    exact ⟨i, rfl, ⟨HS.out, HF.out⟩, by omega, Hsb.out⟩
        · have hnx := next_end Hh.out hlt
          obtain rfl : i = t.size := by omega
          have HF : Hid (okN (hb t) t.size = false) := hide (okN_F' (by rw [hb_out (Nat.le_refl _)]; rfl) (by rw [hb_out (Nat.le_refl _)]; decide) (.inl (by rw [hb_out (Nat.le_refl _)]; decide)))
          go_wp2
          go_ret
          exact ⟨t.size, rfl, ⟨HS.out, HF.out⟩, by omega, Hb.out⟩
end Go.Proofs.YtmndipnifjpdjaaGreatDoor
