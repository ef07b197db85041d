import Derived.Laws.BitsAllLaws
import Derived.Test.YtmndipnifjpdjaaGreatDoorQ15
import Derived.Test.YtmndipnifjpdjaaGreatDoorQ13
import Derived.Test.YtmndipnifjpdjaaGreatDoorQ40
import Derived.Test.YtmndipnifjpdjaaGreatDoorQ48
import Derived.Test.YtmndipnifjpdjaaGreatDoorQ32
namespace Go.Proofs.YtmndipnifjpdjaaGreatDoor
open Go Go.RowKit
set_option linter.unusedVariables false
def escV (o : Option (Int × Nat)) : Value := match o with
  | none => .tuple #[.int .u8 0, .int .i64 0]
  | some (b, k) => .tuple #[.int .u8 b, .int .i64 k]
theorem shl4 {a b : Int} (ha : 0 ≤ a) (ha2 : a ≤ 15) (hb : 0 ≤ b) (hb2 : b ≤ 15) : Go.bits .or .u8 (a * 16) b = 16 * a + b := by
  have h1 : a = 0 ∨ a = 1 ∨ a = 2 ∨ a = 3 ∨ a = 4 ∨ a = 5 ∨ a = 6 ∨ a = 7 ∨ a = 8 ∨ a = 9 ∨ a = 10 ∨ a = 11 ∨ a = 12 ∨ a = 13 ∨ a = 14 ∨ a = 15 := by omega
  have h2 : b = 0 ∨ b = 1 ∨ b = 2 ∨ b = 3 ∨ b = 4 ∨ b = 5 ∨ b = 6 ∨ b = 7 ∨ b = 8 ∨ b = 9 ∨ b = 10 ∨ b = 11 ∨ b = 12 ∨ b = 13 ∨ b = 14 ∨ b = 15 := by omega
  rcases h1 with rfl | rfl | rfl | rfl | rfl | rfl | rfl | rfl | rfl | rfl | rfl | rfl | rfl | rfl | rfl | rfl <;>
  rcases h2 with rfl | rfl | rfl | rfl | rfl | rfl | rfl | rfl | rfl | rfl | rfl | rfl | rfl | rfl | rfl | rfl <;> decide
theorem hexV_eq (c : Int) : hexV c = hexVal c := by
  unfold hexV hexVal
  rfl
theorem hexD_t {c : Int} (h : 0 ≤ hexVal c) : hexD c = .tuple #[.int .u8 (hexVal c), .bool true] := by
  have := hexV_eq c
  rw [← this] at h ⊢
  exact hexD_yes rfl h
theorem hexD_f {c : Int} (h : ¬ 0 ≤ hexVal c) : hexD c = .tuple #[.int .u8 0, .bool false] := by
  have := hexV_eq c
  rw [← this] at h
  unfold hexD
  simp
  omega
set_option maxHeartbeats 1600000 in
theorem readHexEscape_any (t : ByteArray) (w : World) (h2 : 2 ≤ t.size) (ht : t.size ≤ 32768) (hx : hb t 1 = 120) :
    Calls Tryz.prog 183 #[.string t] w fun e w' => e = .returned (escV (escF (hb t) t.size 0)) ∧ w' = w := by
  by_cases h4 : t.size < 4
  · have HE : Hid (escF (hb t) t.size 0 = none) := hide (by
      unfold escF
      rw [if_neg (by omega), if_pos hx, if_neg]
      rintro ⟨_, b⟩
      rw [hb_out (s := t) (k := 0 + 3) (by omega)] at b
      revert b
      decide)
    go_enter Tryz.func183, Tryz.ntmps183
    go_wp2
    go_ret2
    exact ⟨by rw [HE.out]; rfl, rfl⟩
  · have hi2 := fun w' : World => idx_str t (i := 2) w' (by omega) (by omega)
    have hi3 := fun w' : World => idx_str t (i := 3) w' (by omega) (by omega)
    rw [show (2 : Int).toNat = 2 from rfl] at hi2
    rw [show (3 : Int).toNat = 3 from rfl] at hi3
    have r2 := hb_rng t 2
    have r3 := hb_rng t 3
    have l2 := hexVal_le (hb t 2)
    have l3 := hexVal_le (hb t 3)
    have HX := hide hx
    clear hx
    go_enter Tryz.func183, Tryz.ntmps183
    go_wp2_with fail
    refine (implHexDigit_any (hb t 2) _ r2.1 r2.2).mono ?_
    rintro e w1 ⟨rfl, hw1⟩
    rw [hw1]
    clear hw1 w1
    by_cases a : 0 ≤ hexVal (hb t 2)
    · rw [hexD_t a]
      go_wp2_with fail
      refine (implHexDigit_any (hb t 3) _ r3.1 r3.2).mono ?_
      rintro e w1 ⟨rfl, hw1⟩
      rw [hw1]
      clear hw1 w1
      by_cases b : 0 ≤ hexVal (hb t 3)
      · rw [hexD_t b]
        have HE : Hid (escF (hb t) t.size 0 = some (16 * hexVal (hb t 2) + hexVal (hb t 3), 4)) := hide (escF_hex h2 HX.out a b)
        have hs4 := shl4 a l2 b l3
        obtain ⟨A, hA⟩ : ∃ A, hexVal (hb t 2) = A := ⟨_, rfl⟩
        obtain ⟨B, hB⟩ : ∃ B, hexVal (hb t 3) = B := ⟨_, rfl⟩
        have HA := hide hA
        have HB := hide hB
        rw [hA] at hs4 a l2 ⊢
        rw [hB] at hs4 b l3 ⊢
        clear hA hB
        have HS4 := hide hs4
        clear hs4
        go_wp2
        go_ret2
        refine ⟨?_, rfl⟩
        rw [HE.out, HA.out, HB.out, ← HS4.out]
        rfl
      · rw [hexD_f b]
        have HE : Hid (escF (hb t) t.size 0 = none) := hide (by unfold escF; rw [if_neg (by omega), if_pos HX.out, if_neg (fun h => b h.2)])
        go_wp2
        go_ret2
        exact ⟨by rw [HE.out]; rfl, rfl⟩
    · rw [hexD_f a]
      have HE : Hid (escF (hb t) t.size 0 = none) := hide (by unfold escF; rw [if_neg (by omega), if_pos HX.out, if_neg (fun h => a h.1)])
      go_wp2_with fail
      refine (implHexDigit_any (hb t 3) _ r3.1 r3.2).mono ?_
      rintro e w1 ⟨rfl, hw1⟩
      rw [hw1]
      clear hw1 w1
      obtain ⟨x, y, hxy⟩ : ∃ x y, hexD (hb t 3) = .tuple #[.int .u8 x, .bool y] := by
        by_cases b : 0 ≤ hexVal (hb t 3)
        · exact ⟨_, _, hexD_t b⟩
        · exact ⟨_, _, hexD_f b⟩
      rw [hxy]
      go_wp2
      go_ret2
      exact ⟨by rw [HE.out]; rfl, rfl⟩
set_option maxHeartbeats 3200000 in
set_option maxRecDepth 100000 in
theorem readDecimalEscape_a (t : ByteArray) (w : World) (h2 : 2 ≤ t.size) (ht : t.size ≤ 32768) (hd : isDig (hb t 1) = true) (h4 : t.size < 4) :
    Calls Tryz.prog 184 #[.string t] w fun e w' => e = .returned (escV (escF (hb t) t.size 0)) ∧ Below w.heap.size w w' := by
  have HD := hide hd
  clear hd
  obtain ⟨u, hu⟩ : ∃ u, t.extract 1 (t.size) = u := ⟨_, rfl⟩
  have hus : u.size = t.size - 1 := by rw [← hu, ByteArray.size_extract]; omega
  have HU : Hid (∀ j, j < u.size → hb u j = hb t (1 + j)) := hide (fun j hj => by rw [← hu]; exact hb_part t (by omega) (by omega))
  have hsl := fun w' : World => slc_str t (i := 1) (j := (t.size : Int)) w' (by omega) (by omega) (by omega)
  rw [show (1 : Int).toNat = 1 from rfl, show ((t.size : Int) : Int).toNat = t.size from rfl, hu] at hsl
  clear hu
  have HUS := hide hus
  clear hus
  have hmin : min (4 : Int) (t.size : Int) = (t.size : Int) := by omega
  go_enter Tryz.func184, Tryz.ntmps184
  go_wp2
  go_loopg [4, 5, 7] u.size (fun g vv lv _ wx => ∃ (i : Nat) (d : Int), i + g = u.size ∧ i ≤ 3 ∧ vv = .int .i64 d ∧ lv = .int .i64 ((i : Int) + 1) ∧ Hid (wx.heap[w.heap.size]? = some (.stringIter u i)) ∧ Hid (Below w.heap.size w wx) ∧ Hid (DecS (hb t) i d))
  case atStart => exact ⟨0, 0, by omega, by omega, rfl, rfl, hide (World.iter_heap _ _ _), hide (below_iter _ _ _), hide ⟨fun i hi => by omega, rfl⟩⟩
  case round =>
    obtain ⟨i, d, hig, hi3, rfl, rfl, Hh, Hb, HS⟩ := hrel
    obtain ⟨hd0, hd1, hd2⟩ := HS.out.rng hi3
    by_cases hlt : i < u.size
    · obtain ⟨r, wd, ws, hnx, hst, hbl, hr0, hr1, hcase⟩ := next_any Hh.out hlt
      have Hst := hide hst
      have Hsb := hide (hbl _ _ Hb.out (Nat.le_refl _))
      have HC := hide hcase
      clear hst hbl hcase
      have hi2 : i < 3 := by have := HUS.out; omega
      have hd99 := hd2 hi2
      go_wp2_with fail
      refine (isDigit_any r _).mono ?_
      rintro e w1 ⟨rfl, rfl⟩
      cases hdr : isDig r with
      | true =>
        have hrr := isDig_rng hdr
        obtain ⟨h1, hw1⟩ : r = hb t (1 + i) ∧ wd = 1 := by
          rcases HC.out with ⟨a, b, c⟩ | ⟨a, b⟩
          · exact ⟨by rw [a, HU.out i hlt], b⟩
          · omega
        subst hw1
        have HS2 : Hid (DecS (hb t) (i + 1) (d * 10 + (r - 48))) := hide (by
          have := HS.out.next (by rw [← h1]; exact hdr)
          rw [← h1] at this
          rw [show d * 10 + (r - 48) = d * 10 + r - 48 by omega]
          exact this)
        clear h1 hdr
        go_wp2
        go_roundg (gk - 1)
        case rel => exact ⟨i + 1, d * 10 + (r - 48), by omega, by omega, rfl, by congr 1, Hst, Hsb, HS2⟩
        case measure => omega
      | false =>
        have HF : Hid (isDig (hb t (1 + i)) = false) := hide (by
          rw [← HU.out i hlt]
          rcases HC.out with ⟨a, b, c⟩ | ⟨a, b⟩
          · rw [← a]; exact hdr
          · unfold isDig; rw [decide_eq_false (by omega)])
        have hi1 : 1 ≤ i := by
          rcases Nat.eq_zero_or_pos i with z | z
          · subst z
            have := HF.out
            rw [Nat.add_zero, HD.out] at this
            cases this
          · exact z
        have HE := hide (escF_dec (f := hb t) (N := t.size) h2 HS.out hi1 hi3 (.inr HF.out))
        clear hdr
        by_cases h255 : d ≤ 255
        · have HE2 : Hid (escF (hb t) t.size 0 = some (d, i + 1)) := hide (by rw [HE.out, if_pos h255])
          have hwr := u8_id hd0 (by omega)
          go_wp2
          go_ret2
          exact ⟨by rw [HE2.out]; rfl, Hsb.out⟩
        · have HE2 : Hid (escF (hb t) t.size 0 = none) := hide (by rw [HE.out, if_neg h255])
          go_wp2
          go_ret2
          exact ⟨by rw [HE2.out]; rfl, Hsb.out⟩
    · have hnx := next_end Hh.out hlt
      have hu := HUS.out
      have hi1 : 1 ≤ i := by omega
      have HE := hide (escF_dec (f := hb t) (N := t.size) h2 HS.out hi1 hi3 (.inr (by rw [hb_out (s := t) (k := 1 + i) (by omega)]; rfl)))
      clear hu
      by_cases h255 : d ≤ 255
      · have HE2 : Hid (escF (hb t) t.size 0 = some (d, i + 1)) := hide (by rw [HE.out, if_pos h255])
        have hwr := u8_id hd0 (by omega)
        go_wp2
        go_ret2
        exact ⟨by rw [HE2.out]; rfl, Hb.out⟩
      · have HE2 : Hid (escF (hb t) t.size 0 = none) := hide (by rw [HE.out, if_neg h255])
        go_wp2
        go_ret2
        exact ⟨by rw [HE2.out]; rfl, Hb.out⟩
set_option maxHeartbeats 3200000 in
set_option maxRecDepth 100000 in
theorem readDecimalEscape_b (t : ByteArray) (w : World) (h2 : 2 ≤ t.size) (ht : t.size ≤ 32768) (hd : isDig (hb t 1) = true) (h4 : 4 ≤ t.size) :
    Calls Tryz.prog 184 #[.string t] w fun e w' => e = .returned (escV (escF (hb t) t.size 0)) ∧ Below w.heap.size w w' := by
  have HD := hide hd
  clear hd
  obtain ⟨u, hu⟩ : ∃ u, t.extract 1 (4) = u := ⟨_, rfl⟩
  have hus : u.size = 4 - 1 := by rw [← hu, ByteArray.size_extract]; omega
  have HU : Hid (∀ j, j < u.size → hb u j = hb t (1 + j)) := hide (fun j hj => by rw [← hu]; exact hb_part t (by omega) (by omega))
  have hsl := fun w' : World => slc_str t (i := 1) (j := (4 : Int)) w' (by omega) (by omega) (by omega)
  rw [show (1 : Int).toNat = 1 from rfl, show ((4 : Int) : Int).toNat = 4 from rfl, hu] at hsl
  clear hu
  have HUS := hide hus
  clear hus
  have hmin : min (4 : Int) (t.size : Int) = (4 : Int) := by omega
  go_enter Tryz.func184, Tryz.ntmps184
  go_wp2
  go_loopg [4, 5, 7] u.size (fun g vv lv _ wx => ∃ (i : Nat) (d : Int), i + g = u.size ∧ i ≤ 3 ∧ vv = .int .i64 d ∧ lv = .int .i64 ((i : Int) + 1) ∧ Hid (wx.heap[w.heap.size]? = some (.stringIter u i)) ∧ Hid (Below w.heap.size w wx) ∧ Hid (DecS (hb t) i d))
  case atStart => exact ⟨0, 0, by omega, by omega, rfl, rfl, hide (World.iter_heap _ _ _), hide (below_iter _ _ _), hide ⟨fun i hi => by omega, rfl⟩⟩
  case round =>
    obtain ⟨i, d, hig, hi3, rfl, rfl, Hh, Hb, HS⟩ := hrel
    obtain ⟨hd0, hd1, hd2⟩ := HS.out.rng hi3
    by_cases hlt : i < u.size
    · obtain ⟨r, wd, ws, hnx, hst, hbl, hr0, hr1, hcase⟩ := next_any Hh.out hlt
      have Hst := hide hst
      have Hsb := hide (hbl _ _ Hb.out (Nat.le_refl _))
      have HC := hide hcase
      clear hst hbl hcase
      have hi2 : i < 3 := by have := HUS.out; omega
      have hd99 := hd2 hi2
      go_wp2_with fail
      refine (isDigit_any r _).mono ?_
      rintro e w1 ⟨rfl, rfl⟩
      cases hdr : isDig r with
      | true =>
        have hrr := isDig_rng hdr
        obtain ⟨h1, hw1⟩ : r = hb t (1 + i) ∧ wd = 1 := by
          rcases HC.out with ⟨a, b, c⟩ | ⟨a, b⟩
          · exact ⟨by rw [a, HU.out i hlt], b⟩
          · omega
        subst hw1
        have HS2 : Hid (DecS (hb t) (i + 1) (d * 10 + (r - 48))) := hide (by
          have := HS.out.next (by rw [← h1]; exact hdr)
          rw [← h1] at this
          rw [show d * 10 + (r - 48) = d * 10 + r - 48 by omega]
          exact this)
        clear h1 hdr
        go_wp2
        go_roundg (gk - 1)
        case rel => exact ⟨i + 1, d * 10 + (r - 48), by omega, by omega, rfl, by congr 1, Hst, Hsb, HS2⟩
        case measure => omega
      | false =>
        have HF : Hid (isDig (hb t (1 + i)) = false) := hide (by
          rw [← HU.out i hlt]
          rcases HC.out with ⟨a, b, c⟩ | ⟨a, b⟩
          · rw [← a]; exact hdr
          · unfold isDig; rw [decide_eq_false (by omega)])
        have hi1 : 1 ≤ i := by
          rcases Nat.eq_zero_or_pos i with z | z
          · subst z
            have := HF.out
            rw [Nat.add_zero, HD.out] at this
            cases this
          · exact z
        have HE := hide (escF_dec (f := hb t) (N := t.size) h2 HS.out hi1 hi3 (.inr HF.out))
        clear hdr
        by_cases h255 : d ≤ 255
        · have HE2 : Hid (escF (hb t) t.size 0 = some (d, i + 1)) := hide (by rw [HE.out, if_pos h255])
          have hwr := u8_id hd0 (by omega)
          go_wp2
          go_ret2
          exact ⟨by rw [HE2.out]; rfl, Hsb.out⟩
        · have HE2 : Hid (escF (hb t) t.size 0 = none) := hide (by rw [HE.out, if_neg h255])
          go_wp2
          go_ret2
          exact ⟨by rw [HE2.out]; rfl, Hsb.out⟩
    · have hnx := next_end Hh.out hlt
      have hu := HUS.out
      have hi1 : 1 ≤ i := by omega
      have HE := hide (escF_dec (f := hb t) (N := t.size) h2 HS.out hi1 hi3 (.inl (by omega)))
      clear hu
      by_cases h255 : d ≤ 255
      · have HE2 : Hid (escF (hb t) t.size 0 = some (d, i + 1)) := hide (by rw [HE.out, if_pos h255])
        have hwr := u8_id hd0 (by omega)
        go_wp2
        go_ret2
        exact ⟨by rw [HE2.out]; rfl, Hb.out⟩
      · have HE2 : Hid (escF (hb t) t.size 0 = none) := hide (by rw [HE.out, if_neg h255])
        go_wp2
        go_ret2
        exact ⟨by rw [HE2.out]; rfl, Hb.out⟩
theorem readDecimalEscape_any (t : ByteArray) (w : World) (h2 : 2 ≤ t.size) (ht : t.size ≤ 32768) (hd : isDig (hb t 1) = true) :
    Calls Tryz.prog 184 #[.string t] w fun e w' => e = .returned (escV (escF (hb t) t.size 0)) ∧ Below w.heap.size w w' := by
  by_cases h4 : t.size < 4
  · exact readDecimalEscape_a t w h2 ht hd h4
  · exact readDecimalEscape_b t w h2 ht hd (by omega)
theorem escF_short {f : Nat → Int} {N : Nat} (h : N < 2) : escF f N 0 = none := by unfold escF; rw [if_pos (by omega)]
set_option maxHeartbeats 3200000 in
theorem readEscape_any (t : ByteArray) (w : World) (ht : t.size ≤ 32768) :
    Calls Tryz.prog 146 #[.string t] w fun e w' => e = .returned (escV (escF (hb t) t.size 0)) ∧ Below w.heap.size w w' := by
  by_cases h2 : t.size < 2
  · have HE := hide (escF_short (f := hb t) h2)
    go_enter Tryz.func146, Tryz.ntmps146
    go_wp2
    go_ret2
    exact ⟨by rw [HE.out]; rfl, Below.refl _ _⟩
  · have hix := fun w' : World => idx_str t (i := 1) w' (by omega) (by omega)
    rw [show (1 : Int).toNat = 1 from rfl] at hix
    have hr := hb_rng t 1
    obtain ⟨c, hc⟩ : ∃ c, hb t 1 = c := ⟨_, rfl⟩
    have Hc := hide hc
    rw [hc] at hix hr
    clear hc
    by_cases h120 : c = 120
    · subst h120
      go_enter Tryz.func146, Tryz.ntmps146
      go_wp2_with fail
      refine (readHexEscape_any t _ (by omega) ht Hc.out).mono ?_
      rintro e w1 ⟨rfl, hw1⟩
      rw [hw1]
      clear hw1 w1
      obtain ⟨x, y, hxy⟩ : ∃ x y, escV (escF (hb t) t.size 0) = .tuple #[.int .u8 x, .int .i64 y] := by
        cases escF (hb t) t.size 0 with
        | none => exact ⟨_, _, rfl⟩
        | some z => exact ⟨_, _, rfl⟩
      have HXY := hide hxy
      rw [hxy]
      clear hxy
      go_wp2
      go_ret2
      exact ⟨by rw [HXY.out]; rfl, Below.refl _ _⟩
    · have hq := bq_f h120
      have H120 := hide h120
      clear h120
      go_enter Tryz.func146, Tryz.ntmps146
      go_wp2_with fail
      refine (isDigit_any c _).mono ?_
      rintro e w1 ⟨rfl, hw1⟩
      rw [hw1]
      clear hw1 w1
      cases hd : isDig c with
      | true =>
        have HD : Hid (isDig (hb t 1) = true) := hide (by rw [Hc.out]; exact hd)
        clear hd
        go_wp2_with fail
        refine (readDecimalEscape_any t _ (by omega) ht HD.out).mono ?_
        rintro e w1 ⟨rfl, hb1⟩
        obtain ⟨x, y, hxy⟩ : ∃ x y, escV (escF (hb t) t.size 0) = .tuple #[.int .u8 x, .int .i64 y] := by
          cases escF (hb t) t.size 0 with
          | none => exact ⟨_, _, rfl⟩
          | some z => exact ⟨_, _, rfl⟩
        have HXY := hide hxy
        rw [hxy]
        clear hxy
        go_wp2
        go_ret2
        exact ⟨by rw [HXY.out]; rfl, hb1⟩
      | false =>
        have HD := hide hd
        clear hd
        go_wp2_with fail
        refine (Tryz.strings_IndexByte fromE c _).mono ?_
        rintro e w1 ⟨rfl, hw1⟩
        rw [hw1]
        clear hw1 w1
        obtain ⟨j, hj⟩ : ∃ j, Lib.indexByte fromE.data.toList c.toNat.toUInt8 = j := ⟨_, rfl⟩
        rw [hj]
        have hu8 := toU8 hr.1 hr.2
        by_cases hneg : j < 0
        · have HE : Hid (escF (hb t) t.size 0 = none) := hide (by
            have hm : Lib.indexByte fromE.data.toList c.toNat.toUInt8 = -1 := by
              have := Lib.indexByte_ge fromE.data.toList c.toNat.toUInt8
              omega
            have hn := Lib.indexByte_none hm
            refine escF_none (esc_none (fun k hk => ?_)) (by rw [Hc.out]; exact HD.out) (fun h => absurd (Hc.out.symm.trans h) H120.out)
            rw [Hc.out]
            intro e
            apply hn k
            have hz : hb fromE k ≠ 0 := (fromE_fact k hk).2.2.2
            have := (hb_iff (t := fromE) (k := k) (c := c.toNat.toUInt8) (by omega)).2 (by omega)
            exact this)
          clear hj hu8
          go_wp2
          go_ret2
          exact ⟨by rw [HE.out]; rfl, Below.refl _ _⟩
        · obtain ⟨k, rfl⟩ : ∃ k : Nat, j = (k : Int) := ⟨j.toNat, by omega⟩
          have hs := (Lib.indexByte_some hj).1
          have hk : k < 11 := (List.getElem?_eq_some_iff.1 hs).1
          have hcz : c.toNat.toUInt8.toNat ≠ 0 := by
            intro e
            have a : ∀ k, k < 11 → fromE.data.toList[k]? ≠ some 0 := by decide
            apply a k hk
            rw [hs]
            congr 1
            exact UInt8.toNat_inj.1 e
          have hck : hb t 1 = hb fromE k := by rw [(hb_iff hcz).1 hs, Hc.out]; omega
          have HE := hide (escF_simple (f := hb t) (N := t.size) (by omega) hk hck)
          have hix2 : ∀ w' : World, (Instr.index 9 (.string ⟨#[7, 8, 9, 10, 11, 12, 13, 92, 34, 39, 10]⟩) (.int .i64 (k : Int))).run Tryz.prog w' = .ok (.int .u8 (hb toE k)) w' := fun w' => idx_str toE (i := (k : Int)) w' (by omega) (show (k : Int) < 11 by omega)
          clear hj hu8 hs hcz hck
          go_wp2
          go_ret2
          exact ⟨by rw [HE.out]; rfl, Below.refl _ _⟩
end Go.Proofs.YtmndipnifjpdjaaGreatDoor
namespace Go.Proofs.YtmndipnifjpdjaaGreatDoor
open Go Go.RowKit
set_option linter.unusedVariables false
theorem simpleEsc_rng {c b : Int} (h : simpleEsc c = some b) : 0 ≤ b ∧ b < 256 := by
  unfold simpleEsc at h
  repeat (first | (cases h; omega) | (split at h))
  all_goals (first | (cases h; omega) | (cases h))
theorem escF_bound {t : ByteArray} {j k : Nat} {b : Int} (h : escF (fr t j) (t.size - j) 0 = some (b, k)) : 0 ≤ b ∧ b < 256 ∧ 2 ≤ k ∧ j + k ≤ t.size := by
  have hz : ∀ i, fr t j i ≠ 0 → j + i < t.size := fun i hi => hb_lt hi
  unfold escF at h
  rw [show (0 + 1) = 1 from rfl, show (0 + 2) = 2 from rfl, show (0 + 3) = 3 from rfl] at h
  by_cases h0 : t.size - j ≤ 1
  · rw [if_pos h0] at h; cases h
  · rw [if_neg h0] at h
    by_cases h1 : fr t j 1 = 120
    · rw [if_pos h1] at h
      by_cases h2 : 0 ≤ hexVal (fr t j 2) ∧ 0 ≤ hexVal (fr t j 3)
      · rw [if_pos h2] at h
        cases h
        have l2 := hexVal_le (fr t j 2)
        have l3 := hexVal_le (fr t j 3)
        have := hz 3 (fun e => by have h3 := h2.2; rw [e] at h3; revert h3; decide)
        omega
      · rw [if_neg h2] at h; cases h
    · rw [if_neg h1] at h
      by_cases d1 : isDig (fr t j 1) = true
      · rw [if_pos d1] at h
        have r1 := isDig_rng d1
        by_cases d2 : isDig (fr t j 2) = true
        · rw [if_pos d2] at h
          have r2 := isDig_rng d2
          have := hz 2 (by omega)
          by_cases d3 : isDig (fr t j 3) = true
          · rw [if_pos d3] at h
            have r3 := isDig_rng d3
            have := hz 3 (by omega)
            by_cases h255 : (fr t j 1 - 48) * 100 + (fr t j 2 - 48) * 10 + (fr t j 3 - 48) ≤ 255
            · rw [if_pos h255] at h; cases h; omega
            · rw [if_neg h255] at h; cases h
          · rw [if_neg d3] at h; cases h; omega
        · rw [if_neg d2] at h; cases h; omega
      · rw [if_neg d1] at h
        cases hs : simpleEsc (fr t j 1) with
        | none => rw [hs] at h; cases h
        | some x =>
          rw [hs] at h
          cases h
          have := simpleEsc_rng hs
          omega
def ReadQuoR (t : ByteArray) (r : Value) : Prop :=
  (∃ l k, Quo (hb t) t.size (hb t 0) 1 [] (.inl (l, k)) ∧ 2 ≤ k ∧ k ≤ t.size ∧ r = pieceV 5 (bytesOf l) 0 0 ((k : Nat) : Int) 0 0 0) ∨
  (∃ (c : Int) (o : Nat), Quo (hb t) t.size (hb t 0) 1 [] (.inr (c, o)) ∧ c ≠ 0 ∧ o ≤ t.size ∧ r = pieceV 0 ⟨#[]⟩ 0 0 0 c 0 ((o : Nat) : Int))
def QFwd' (t : ByteArray) (j : Nat) (l : List Int) : Prop := ∀ r, Quo (hb t) t.size (hb t 0) j l r → Quo (hb t) t.size (hb t 0) 1 [] r
theorem slc_from (s : ByteArray) {i : Int} (w : World) (h0 : 0 ≤ i) (h1 : i ≤ s.size) : (Instr.slice 9 (.string s) (some (.int .i64 i)) none none).run Tryz.prog w = .ok (.string (s.extract i.toNat s.size)) w :=
  run_slice_string_l w 9 s Tryz.underlying9 .i64 i h0 h1
theorem below_own {B base : Nat} {a b c : World} {v : Value} {L : List Int} (h : Below B a b) (hown : OwnQ b base v L) (hg : b.grownBy c v.ownBlock) (hB : B ≤ base) (hb : B ≤ b.heap.size) : Below B a c :=
  h.grown hg hb (fun k hk => Nat.le_trans hB (hown.lt k hk).1)
theorem PBlock.own {B base : Nat} {cs : Array Value} {b c : World} {v : Value} {L : List Int} (h : PBlock B cs b) (hown : OwnQ b base v L) (hg : b.grownBy c v.ownBlock) (hB : B < base) : PBlock B cs c := by
  unfold PBlock
  rw [hg.block B h.lt (fun e => by have := (hown.lt B e.symm).1; omega)]
  exact h
set_option maxHeartbeats 8000000 in
set_option maxRecDepth 100000 in
theorem readQuoted_any (t : ByteArray) (w : World) (ht : t.size ≤ 32768) (h0 : 0 < t.size) (hq : hb t 0 = 34 ∨ hb t 0 = 39) :
    Calls Tryz.prog 106 #[.string t] w fun e w' => ∃ r, e = .returned r ∧ ReadQuoR t r ∧ Below w.heap.size w w' := by
  have HQ := hide hq
  clear hq
  obtain ⟨B, hB⟩ : ∃ B, w.heap.size = B := ⟨_, rfl⟩
  have HPB : Hid (PBlock B pieceZ (w.alloc (.cells pieceZ 98))) := hide (by rw [← hB]; exact pblock_new w pieceZ)
  have HBl : Hid (Below B w (w.alloc (.cells pieceZ 98))) := hide ((Below.refl _ _).alloc (by omega) _)
  have hws : B + 1 ≤ (w.alloc (.cells pieceZ 98)).heap.size := by simp; omega
  have HWS := hide hws
  have HB := hide hB
  clear hB hws
  have hix0 := fun w' : World => idx_str t (i := 0) w' (by omega) (by omega)
  rw [show (0 : Int).toNat = 0 from rfl] at hix0
  obtain ⟨qt, hqt⟩ : ∃ qt, hb t 0 = qt := ⟨_, rfl⟩
  have HQT := hide hqt
  rw [hqt] at hix0
  clear hqt
  go_enter Tryz.func106, Tryz.ntmps106
  go_wp2
  change Code.wp _ _ _ _ (w.alloc (.cells pieceZ 98))
  rw [HB.out]
  generalize hw0 : w.alloc (.cells pieceZ 98) = w0
  rw [hw0] at HPB HBl HWS
  clear hw0
  go_wp2
  go_step3
  go_wp2
  go_step3
  go_wp2
  go_loopg [3, 4, 5, 6] (t.size - 1) (fun gk tv av _ _ wr => ∃ (j : Nat) (l : List Int), gk + j = t.size ∧ 1 ≤ j ∧ l.length ≤ j ∧ av = .int .i64 j ∧ B + 1 ≤ wr.heap.size ∧ Hid (QFwd' t j l) ∧ Hid (Bytes l) ∧ Hid (OwnQ wr (B + 1) tv l) ∧ Hid (PBlock B pieceZ wr) ∧ Hid (Below B w wr))
  case atStart => exact ⟨1, [], by omega, by omega, by simp, rfl, HWS.out, hide (fun r h => h), hide (fun c hc => by cases hc), hide (ownQ_nil _ _), HPB, HBl⟩
  case round =>
    obtain ⟨j, l, hgk, hj1, hlj, rfl, hBs, HF, HL, HO, HP, HBw⟩ := hrel
    by_cases hlt : j < t.size
    · have hix := fun w' : World => idx_str t (i := (j : Int)) w' (by omega) (by omega)
      rw [show ((j : Int)).toNat = j by omega] at hix
      obtain ⟨c, hc⟩ : ∃ c, hb t j = c := ⟨_, rfl⟩
      have hrc := hb_rng t j
      have Hc := hide hc
      rw [hc] at hix hrc
      clear hc
      by_cases hqe : c = qt
      · have hqq := bq_t hqe
        have HQn := hide (HF.out _ (.close hlt (by rw [Hc.out, HQT.out]; exact hqe)))
        clear hqe
        have hcv := bytes_back HO.out HL.out
        obtain ⟨c0, c1, c2, c3, c4, c5, c6, c7, c8, c9, z0, z1, z2, z3, z4, z5, z6, z7, z8, z9⟩ := HP.out.cells
        go_wp2
        unfold Exit.noGoto
        refine bodyPost_ret (v := pieceV 5 (bytesOf l) 0 0 ((j + 1 : Nat) : Int) 0 0 0) (by simp [results, Tryz.results106, go_sem, pieceV, c0, c1, c2, c3, c4, c5, c6, c7, c8, c9]) rfl ⟨_, rfl, .inl ⟨l, j + 1, HQn.out, by omega, by omega, rfl⟩, ?_⟩
        rw [HB.out]
        exact below_set10 HBw.out (Nat.le_refl _) _ _ _ _ _ _ _ _ _ _
      · have hqq := bq_f hqe
        have HQE := hide hqe
        clear hqe
        by_cases h10 : c = 10
        · have hq10 := bq_t h10
          have HQn := hide (HF.out _ (.open_ (.inr (by rw [Hc.out]; exact h10))))
          clear h10
          obtain ⟨c0, c1, c2, c3, c4, c5, c6, c7, c8, c9, z0, z1, z2, z3, z4, z5, z6, z7, z8, z9⟩ := HP.out.cells
          go_wp2
          unfold Exit.noGoto
          refine bodyPost_ret (v := pieceV 0 ⟨#[]⟩ 0 0 0 3 0 0) (by simp [results, Tryz.results106, go_sem, pieceV, c0, c1, c2, c3, c4, c5, c6, c7, c8, c9]) rfl ⟨_, rfl, .inr ⟨3, 0, HQn.out, by decide, by omega, rfl⟩, ?_⟩
          rw [HB.out]
          exact below_set10 HBw.out (Nat.le_refl _) _ _ _ _ _ _ _ _ _ _
        · have hq10 := bq_f h10
          have H10 := hide h10
          clear h10
          by_cases h92 : c = 92
          · have hq92 := bq_t h92
            have hsl := fun w' : World => slc_from t (i := (j : Int)) w' (by omega) (by omega)
            rw [show ((j : Int)).toNat = j by omega] at hsl
            have H92 := hide h92
            clear h92
            go_wp2_with fail
            refine (readEscape_any (t.extract j t.size) _ (by rw [ByteArray.size_extract]; omega)).mono ?_
            rintro e w3 ⟨rfl, hb3⟩
            have HBe := hide hb3
            clear hb3
            rw [hb_rest, show (t.extract j t.size).size = t.size - j by rw [ByteArray.size_extract]; omega]
            have eE : escF (hb t) t.size j = escF (fr t j) (t.size - j) 0 := by have := escF_at t 0 j; rw [fr_zero, Nat.sub_zero, Nat.zero_add] at this; exact this
            cases hes : escF (fr t j) (t.size - j) 0 with
            | none =>
              have HQn := hide (HF.out _ (.badEsc hlt (by rw [Hc.out]; exact H92.out) (by rw [eE, hes])))
              have HP3 := hide (HP.out.low HBe.out HP.out.lt)
              have HB3 := hide (HBw.out.trans (HBe.out.mono (by omega)))
              clear hes eE
              obtain ⟨c0, c1, c2, c3, c4, c5, c6, c7, c8, c9, z0, z1, z2, z3, z4, z5, z6, z7, z8, z9⟩ := HP3.out.cells
              unfold escV
              go_wp2
              unfold Exit.noGoto
              refine bodyPost_ret (v := pieceV 0 ⟨#[]⟩ 0 0 0 4 0 ((j : Nat) : Int)) (by simp [results, Tryz.results106, go_sem, pieceV, c0, c1, c2, c3, c4, c5, c6, c7, c8, c9]) rfl ⟨_, rfl, .inr ⟨4, j, HQn.out, by decide, by omega, rfl⟩, ?_⟩
              rw [HB.out]
              exact below_set10 HB3.out (Nat.le_refl _) _ _ _ _ _ _ _ _ _ _
            | some z =>
              obtain ⟨b, k⟩ := z
              obtain ⟨hb0, hb1, hk2, hjk⟩ := escF_bound hes
              have HF2 : Hid (QFwd' t (j + k) (l ++ [b])) := hide (fun r hr => HF.out r (.esc hlt (by rw [Hc.out]; exact H92.out) (by rw [eE, hes]) hr))
              have HL2 := hide (HL.out.snoc hb0 hb1)
              have HP3 := hide (HP.out.low HBe.out HP.out.lt)
              have HB3 := hide (HBw.out.trans (HBe.out.mono (by omega)))
              have HO3 := hide (HO.out.low HBe.out)
              have hBs3 : B + 1 ≤ w3.heap.size := Nat.le_trans hBs HBe.out.size
              clear hes eE
              unfold escV
              have hk0 : ((k : Int) == 0) = false := bq_f (by omega)
              go_wp2_with (first | (at_builtin; refine app_qa rfl _ _ rfl (B + 1) _ l b HO3.out rfl rfl (by omega) hBs3 ?_; intro v' w4 hO4 hg4; have HP4 := hide (HP3.out.own HO3.out hg4 (by omega)); have HB4 := hide (below_own HB3.out HO3.out hg4 (by omega) (by omega)); have HO4 := hide hO4; have hBs4 : B + 1 ≤ w4.heap.size := Nat.le_trans hBs3 hg4.size; clear hO4 hg4) | fail)
              go_roundg (t.size - (j + k))
              case rel => exact ⟨j + k, l ++ [b], by omega, by omega, by simp; omega, by simp, hBs4, HF2, HL2, HO4, HP4, HB4⟩
              case measure => omega
          · have hq92 := bq_f h92
            have HF2 : Hid (QFwd' t (j + 1) (l ++ [c])) := hide (fun r hr => HF.out r (.plain hlt (by rw [Hc.out, HQT.out]; exact HQE.out) (by rw [Hc.out]; exact H10.out) (by rw [Hc.out]; exact h92) (by rw [Hc.out]; exact hr)))
            have HL2 := hide (HL.out.snoc hrc.1 hrc.2)
            clear h92
            go_wp2_with (first | (at_builtin; refine app_qa rfl _ _ rfl (B + 1) _ l c HO.out rfl rfl (by omega) hBs ?_; intro v' w4 hO4 hg4; have HP4 := hide (HP.out.own HO.out hg4 (by omega)); have HB4 := hide (below_own HBw.out HO.out hg4 (by omega) (by omega)); have HO4 := hide hO4; have hBs4 : B + 1 ≤ w4.heap.size := Nat.le_trans hBs hg4.size; clear hO4 hg4) | fail)
            go_roundg (t.size - (j + 1))
            case rel => exact ⟨j + 1, l ++ [c], by omega, by omega, by simp; omega, by simp, hBs4, HF2, HL2, HO4, HP4, HB4⟩
            case measure => omega
    · have HQn := hide (HF.out _ (.open_ (.inl (by omega))))
      obtain ⟨c0, c1, c2, c3, c4, c5, c6, c7, c8, c9, z0, z1, z2, z3, z4, z5, z6, z7, z8, z9⟩ := HP.out.cells
      go_wp2
      unfold Exit.noGoto
      refine bodyPost_ret (v := pieceV 0 ⟨#[]⟩ 0 0 0 3 0 0) (by simp [results, Tryz.results106, go_sem, pieceV, c0, c1, c2, c3, c4, c5, c6, c7, c8, c9]) rfl ⟨_, rfl, .inr ⟨3, 0, HQn.out, by decide, by omega, rfl⟩, ?_⟩
      rw [HB.out]
      exact below_set10 HBw.out (Nat.le_refl _) _ _ _ _ _ _ _ _ _ _
end Go.Proofs.YtmndipnifjpdjaaGreatDoor
namespace Go.Proofs.YtmndipnifjpdjaaGreatDoor
open Go Go.RowKit
set_option linter.unusedVariables false
def TabL (w : World) : Prop := Lib.TabIs Tryz.prog w "strings.asciiSpace" .u8 Lib.asciiSpaceTab
theorem TabL.low {w w' : World} (h : TabL w) (hb : Below w.heap.size w w') : TabL w' := by
  unfold TabL Lib.TabIs World.var? at *
  cases hg : Tryz.prog.globalNamed "strings.asciiSpace" with
  | none => rw [hg] at h; cases h
  | some g =>
    rw [hg] at h
    simp only [Option.bind_some] at h ⊢
    have hlt : g < w.heap.size := by
      rcases Nat.lt_or_ge g w.heap.size with k | k
      · exact k
      · rw [Array.getElem?_eq_none k] at h; cases h
    rw [hb.block g hlt]
    exact h
def allW : ByteArray := ⟨#[97, 110, 100, 32, 98, 114, 101, 97, 107, 32, 100, 111, 32, 101, 108, 115, 101, 32, 101, 108, 115, 101, 105, 102, 32, 101, 110, 100, 32, 102, 97, 108, 115, 101, 32, 102, 111, 114, 32, 102, 117, 110, 99, 116, 105, 111, 110, 32, 103, 111, 116, 111, 32, 105, 102, 32, 105, 110, 32, 108, 111, 99, 97, 108, 32, 110, 105, 108, 32, 110, 111, 116, 32, 111, 114, 32, 114, 101, 112, 101, 97, 116, 32, 114, 101, 116, 117, 114, 110, 32, 116, 104, 101, 110, 32, 116, 114, 117, 101, 32, 117, 110, 116, 105, 108, 32, 119, 104, 105, 108, 101]⟩
theorem allW_fields : Lib.fields allW.data.toList = wordsL.map (fun b => b.data.toList) := by decide +kernel
theorem allW_ascii : ∀ b ∈ allW.data.toList, b.toNat < 128 := by decide +kernel
theorem allW_any (w : World) (hT : TabL w) : Calls Tryz.prog 42 #[.string allW] w fun e w' => e = .returned (.slice (some ⟨w.heap.size, 0, none⟩) 22 22) ∧ w' = w.alloc (.cells (strC wordsL) 9) := by
  refine (Tryz.strings_Fields allW w (by decide) (fun j b hj => allW_ascii b (List.mem_of_getElem? hj)) hT).mono ?_
  rintro e w' ⟨rfl, rfl⟩
  rw [allW_fields, List.length_map]
  refine ⟨rfl, ?_⟩
  congr 2
def allS : ByteArray := ⟨#[43, 32, 45, 32, 42, 32, 47, 32, 37, 32, 94, 32, 35, 32, 38, 32, 126, 32, 124, 32, 60, 60, 32, 62, 62, 32, 47, 47, 32, 61, 61, 32, 126, 61, 32, 60, 61, 32, 62, 61, 32, 60, 32, 62, 32, 61, 32, 40, 32, 41, 32, 123, 32, 125, 32, 91, 32, 93, 32, 58, 58, 32, 59, 32, 58, 32, 44, 32, 46, 32, 46, 46, 32, 46, 46, 46]⟩
theorem allS_fields : Lib.fields allS.data.toList = signsL.map (fun b => b.data.toList) := by decide +kernel
theorem allS_ascii : ∀ b ∈ allS.data.toList, b.toNat < 128 := by decide +kernel
theorem allS_any (w : World) (hT : TabL w) : Calls Tryz.prog 42 #[.string allS] w fun e w' => e = .returned (.slice (some ⟨w.heap.size, 0, none⟩) 33 33) ∧ w' = w.alloc (.cells (strC signsL) 9) := by
  refine (Tryz.strings_Fields allS w (by decide) (fun j b hj => allS_ascii b (List.mem_of_getElem? hj)) hT).mono ?_
  rintro e w' ⟨rfl, rfl⟩
  rw [allS_fields, List.length_map]
  refine ⟨rfl, ?_⟩
  congr 2
theorem take_succ_w {L : List ByteArray} {k : Nat} (h : k < L.length) (v : Int) (pre : List (ByteArray × Int)) : putAll (pre ++ (L.take (k + 1)).map (fun t => (t, v))) = (putAll (pre ++ (L.take k).map (fun t => (t, v)))).put (keyL (L.getD k ⟨#[]⟩)) (.lit (.int .i64 v)) := by
  rw [List.take_add_one, List.getElem?_eq_getElem h, List.map_append, ← List.append_assoc]
  rw [show (List.map (fun t => (t, v)) (some L[k]).toList) = [(L[k], v)] from rfl, putAll_snoc]
  rw [List.getD_eq_getElem?_getD, List.getElem?_eq_getElem h]
  rfl
theorem wsizes : ∀ j, j < 22 → (wordsL.getD j ⟨#[]⟩).size ≤ 32768 := by decide
theorem ssizes : ∀ j, j < 33 → (signsL.getD j ⟨#[]⟩).size ≤ 32768 := by decide
theorem World.grownBy_refl' (w : World) (r : Option Nat) : w.grownBy w r := ⟨rfl, rfl, rfl, Nat.le_refl _, fun _ _ _ => rfl⟩
theorem World.grown_tr {a b c : World} {r : Option Nat} (h : a.grownBy b r) (k : b.grownBy c r) : a.grownBy c r :=
  ⟨k.os.trans h.os, k.tape.trans h.tape, k.output.trans h.output, Nat.le_trans h.size k.size, fun i hi hn => (k.block i (Nat.lt_of_lt_of_le hi h.size) hn).trans (h.block i hi hn)⟩
set_option maxHeartbeats 3200000 in
set_option maxRecDepth 100000 in
theorem fixed_any (w : World) (hT : TabL w) :
    Calls Tryz.prog 18 #[] w fun e w' => e = .returned (.map (some w.heap.size)) ∧ FixMap w.heap.size w' ∧ Below w.heap.size w w' := by
  have HT := hide hT
  clear hT
  have hmm := @run_makeMap Tryz.prog
  obtain ⟨B, hB⟩ : ∃ B, w.heap.size = B := ⟨_, rfl⟩
  have HO0 : Hid ((w.alloc (.map #[] 0)).ownsMap Tryz.prog 9 fixElem B 0 (putAll [])) := hide (by rw [← hB]; exact World.ownsMap_made w Tryz.prog 9 fixElem)
  have HB0 : Hid (Below B w (w.alloc (.map #[] 0))) := hide ((Below.refl _ _).alloc (by omega) _)
  have hws : (w.alloc (.map #[] 0)).heap.size = B + 1 := by simp [hB]
  have HWS := hide hws
  have HB := hide hB
  have HT0 : Hid (TabL (w.alloc (.map #[] 0))) := hide (HT.out.low ((Below.refl _ _).alloc (by omega) _))
  clear hB hws
  go_enter Tryz.func18, Tryz.ntmps18
  go_wp2_with fail
  rw [HB.out]
  generalize hw0 : w.alloc (.map #[] 0) = w0
  rw [hw0] at HO0 HB0 HWS HT0
  clear hw0
  refine (allW_any w0 HT0.out).mono ?_
  rintro e w1 ⟨rfl, hw1⟩
  have HC1 : Hid (∀ j, j < 22 → w1.cell? ⟨B + 1, j, none⟩ = some (.string (wordsL.getD j ⟨#[]⟩))) := hide (fun j hj => by rw [hw1, ← HWS.out, cell_lit]; exact strC_get (by rw [wl_len]; exact hj))
  have HO1 : Hid (w1.ownsMap Tryz.prog 9 fixElem B 0 (putAll [])) := hide (by rw [hw1]; exact World.ownsMap.alloc HO0.out _)
  have HB1 : Hid (Below B w w1) := hide (by rw [hw1]; exact HB0.out.alloc (by have := HWS.out; omega) _)
  have HS1 : Hid (w1.heap.size = B + 2) := hide (by rw [hw1]; simp [HWS.out])
  rw [HWS.out]
  clear hw1 HO0 HB0 HWS HT0
  go_wp2
  go_loopw [3, 9] (fun _ kv wr => ∃ k : Nat, k ≤ 22 ∧ kv = .int .i64 k ∧ Hid (wr.ownsMap Tryz.prog 9 fixElem B k (putAll ([] ++ (wordsL.take k).map (fun t => (t, 2))))) ∧ Hid (w1.grownBy wr (some B))) (fun _ kv _ => 23 - (intOf kv).toNat)
  case atStart => exact ⟨0, by omega, rfl, HO1, hide (World.grownBy_refl' _ _)⟩
  case round =>
    obtain ⟨k, hk, rfl, HO, HG⟩ := hrel
    by_cases hk2 : k < 22
    · have hc : wr.cell? ⟨B + 1, k, none⟩ = some (.string (wordsL.getD k ⟨#[]⟩)) := HG.out.cell (HC1.out k hk2) (by simp)
      have hsz := wsizes k hk2
      obtain ⟨x, hx⟩ : ∃ x, wordsL.getD k ⟨#[]⟩ = x := ⟨_, rfl⟩
      have Hx := hide hx
      rw [hx] at hc hsz
      clear hx
      have hkey : keyOf Tryz.prog 9 (.string x) = some (keyL x) := Go.WideMaps.keyOf_string_mk Tryz.underlying9 (by unfold maxLen; omega)
      have HKEY := hide hkey
      clear hkey
      go_wp2_with (first | (at_mapUpdate; refine wpList_mapUpdate_own _ rfl _ _ _ 44 rfl 9 77 keyed9 under44 fixElem B k _ rfl HO.out (by unfold maxLen; omega) _ _ _ rfl rfl HKEY.out _ [] (fixElem_mk 2) ?_; intro w2 hO2 hg2; have HO2 : Hid (w2.ownsMap Tryz.prog 9 fixElem B (k + 1) (putAll ([] ++ (wordsL.take (k + 1)).map (fun t => (t, 2))))) := hide (by rw [take_succ_w (by rw [wl_len]; exact hk2), Hx.out]; exact hO2); have HG2 := hide (World.grown_tr HG.out hg2); clear hO2 hg2) | fail)
      go_roundw
      case rel => exact ⟨k + 1, by omega, rfl, HO2, HG2⟩
      case measure => simp [intOf]; omega
    · have HO22 : Hid (wr.ownsMap Tryz.prog 9 fixElem B k (putAll (wordsL.map (fun t => (t, 2))))) := hide (by
        have := HO.out
        rw [List.take_of_length_le (by rw [wl_len]; omega), List.nil_append] at this
        exact this)
      have HBr : Hid (Below B w wr) := hide (HB1.out.grown HG.out (by have := HS1.out; omega) (fun q hq => by cases hq; exact Nat.le_refl _))
      have HTr : Hid (TabL wr) := hide (HT.out.low (by have := HBr.out; rw [← HB.out] at this; exact this))
      have hk22 : k ≤ 22 := hk
      go_wp2_with fail
      refine (allS_any wr HTr.out).mono ?_
      rintro e w2 ⟨rfl, hw2⟩
      obtain ⟨D, hD⟩ : ∃ D, wr.heap.size = D := ⟨_, rfl⟩
      have hBD : B < D := by rw [← hD]; exact World.ownsMap.lt HO22.out
      have HC2 : Hid (∀ j, j < 33 → w2.cell? ⟨D, j, none⟩ = some (.string (signsL.getD j ⟨#[]⟩))) := hide (fun j hj => by rw [hw2, ← hD, cell_lit]; exact strC_get (by rw [sl_len]; exact hj))
      have HO2 : Hid (w2.ownsMap Tryz.prog 9 fixElem B k (putAll (wordsL.map (fun t => (t, 2))))) := hide (by rw [hw2]; exact World.ownsMap.alloc HO22.out _)
      have HB2 : Hid (Below B w w2) := hide (by rw [hw2]; exact HBr.out.alloc (by omega) _)
      have HS2 : Hid (B ≤ w2.heap.size) := hide (by rw [hw2]; simp; omega)
      rw [hD]
      clear hw2 hD
      go_wp2
      go_loopw [5, 19] (fun _ kv wr => ∃ j : Nat, j ≤ 33 ∧ kv = .int .i64 j ∧ Hid (wr.ownsMap Tryz.prog 9 fixElem B (k + j) (putAll (wordsL.map (fun t => (t, 2)) ++ (signsL.take j).map (fun t => (t, 6))))) ∧ Hid (w2.grownBy wr (some B))) (fun _ kv _ => 34 - (intOf kv).toNat)
      case atStart => exact ⟨0, by omega, rfl, hide (by have := HO2.out; rw [List.take_zero, List.map_nil, List.append_nil]; exact this), hide (World.grownBy_refl' _ _)⟩
      case round =>
        obtain ⟨j, hj, rfl, HOj, HGj⟩ := hrel
        by_cases hj2 : j < 33
        · rename World => wz
          have hc : wz.cell? ⟨D, j, none⟩ = some (.string (signsL.getD j ⟨#[]⟩)) := HGj.out.cell (HC2.out j hj2) (by simp; omega)
          have hsz := ssizes j hj2
          obtain ⟨x, hx⟩ : ∃ x, signsL.getD j ⟨#[]⟩ = x := ⟨_, rfl⟩
          have Hx := hide hx
          rw [hx] at hc hsz
          clear hx
          have hkey : keyOf Tryz.prog 9 (.string x) = some (keyL x) := Go.WideMaps.keyOf_string_mk Tryz.underlying9 (by unfold maxLen; omega)
          have HKEY := hide hkey
          clear hkey
          go_wp2_with (first | (at_mapUpdate; refine wpList_mapUpdate_own _ rfl _ _ _ 44 rfl 9 77 keyed9 under44 fixElem B (k + j) _ rfl HOj.out (by unfold maxLen; omega) _ _ _ rfl rfl HKEY.out _ [] (fixElem_mk 6) ?_; intro w3 hO3 hg3; have HO3 : Hid (w3.ownsMap Tryz.prog 9 fixElem B (k + (j + 1)) (putAll (wordsL.map (fun t => (t, 2)) ++ (signsL.take (j + 1)).map (fun t => (t, 6))))) := hide (by rw [take_succ_w (by rw [sl_len]; exact hj2), Hx.out]; exact hO3); have HG3 := hide (World.grown_tr HGj.out hg3); clear hO3 hg3) | fail)
          go_roundw
          case rel => exact ⟨j + 1, by omega, rfl, HO3, HG3⟩
          case measure => simp [intOf]; omega
        · rename World => wz
          have HF : Hid (FixMap B wz) := hide (by
            have := HOj.out
            rw [List.take_of_length_le (by rw [sl_len]; omega)] at this
            exact World.ownsMap.mono this (by omega))
          have HBz : Hid (Below B w wz) := hide (HB2.out.grown HGj.out HS2.out (fun q hq => by cases hq; exact Nat.le_refl _))
          go_wp2
          go_ret
          rw [HB.out]
          exact ⟨rfl, HF.out, HBz.out⟩
end Go.Proofs.YtmndipnifjpdjaaGreatDoor
