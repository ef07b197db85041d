import Derived.Test.YtgnbhhgpaldheaaGreatKN2
namespace Go.Proofs.YtgnbhhgpaldheaaGreat
open Go Go.RowKit
set_option linter.unusedVariables false
theorem allQ_next {Q : Nat → Prop} {i : Nat} (h : ∀ k, k < i → Q k) (hi : Q i) : ∀ k, k < i + 1 → Q k := fun k hk => by
  by_cases e : k = i
  · subst e; exact hi
  · exact h k (by omega)
set_option maxHeartbeats 1600000 in
set_option maxRecDepth 100000 in
theorem allUp_any (v : Value) (n : Nat) (x0 : Nat → Bool) (x1 : Nat → Int) (Q : Nat → Prop) (w : World) (hn : n ≤ 1048576) (h : UpsA w v n x0 x1)
    (HC : ∀ i, i < n → ∀ w', Below w.heap.size w w' → Calls Tryz.prog 113 #[.agg #[.bool (x0 i), .int .i64 (x1 i)]] w' fun e w2 => RetB (Q i) w' e w2) :
    Calls Tryz.prog 112 #[v, .func (.func 113) #[] #[]] w fun e w' => RetB (∀ k, k < n → Q k) w e w' := by
  have HA := hide h
  obtain ⟨sa, cap, rfl⟩ := h.val
  clear h
  have HC := hide HC
  go_enter Tryz.func112, Tryz.ntmps112
  go_wp2_with fail
  go_loopw [9] (fun iv wr => ∃ i : Nat, i ≤ n ∧ iv = .int .i64 i ∧ Hid (∀ k, k < i → Q k) ∧ Hid (Below w.heap.size w wr)) (fun iv _ => match iv with | .int _ x => n - x.toNat | _ => 0)
  case atStart => exact ⟨0, by omega, rfl, hide (fun k hk => by omega), hide (Below.refl _ _)⟩
  case round =>
    obtain ⟨i, hi9, rfl, HU, HBw⟩ := hrel
    by_cases hin : i < n
    · rcases HA.out with ⟨h9, _⟩ | ⟨b, o, cap', e, hb, hcap, hc⟩
      · omega
      cases e
      have c0 := (HBw.out.cell (p := ⟨b, o + i * 2, none⟩) hb).trans (hc i hin).1
      have c1 := (HBw.out.cell (p := ⟨b, o + i * 2 + 1, none⟩) hb).trans (hc i hin).2
      clear hc
      go_wp2_with fail
      refine (HC.out i hin _ (HBw.out.alloc HBw.out.size _)).mono ?_
      rintro e w3 ⟨r, rfl, hr, hb3⟩
      have HB4 := hide ((HBw.out.alloc HBw.out.size _).trans (hb3.mono (HBw.out.alloc HBw.out.size _).size))
      clear c0 c1 hb3
      rcases hr with ⟨rfl, hr⟩ | ⟨rfl, hr⟩
      · have HR := hide hr
        clear hr
        go_wp2
        go_roundw
        case rel => exact ⟨i + 1, by omega, by simp, hide (allQ_next HU.out HR.out), HB4⟩
        case measure => simp; omega
      · have HR := hide hr
        clear hr
        go_wp2
        go_ret
        exact ⟨_, rfl, .inr ⟨rfl, fun hq => HR.out (hq i hin)⟩, HB4.out⟩
    · obtain rfl : i = n := by omega
      go_wp2
      go_ret
      exact ⟨_, rfl, .inl ⟨rfl, HU.out⟩, HBw.out⟩
set_option maxHeartbeats 1600000 in
set_option maxRecDepth 100000 in
theorem allGives_any (v : Value) (n : Nat) (x0 : Nat → Bool) (x1 : Nat → Int) (Q : Nat → Prop) (g : Nat) (w : World) (hn : n ≤ 1048576) (h : UpsA w v n x0 x1)
    (HC : ∀ i, i < n → ∀ w', Below w.heap.size w w' → Calls Tryz.prog 134 #[.pointer (some ⟨g, 0, none⟩), .agg #[.bool (x0 i), .int .i64 (x1 i)]] w' fun e w2 => RetB (Q i) w' e w2) :
    Calls Tryz.prog 112 #[v, .func (.func 134) #[.pointer (some ⟨g, 0, none⟩)] #[]] w fun e w' => RetB (∀ k, k < n → Q k) w e w' := by
  have HA := hide h
  obtain ⟨sa, cap, rfl⟩ := h.val
  clear h
  have HC := hide HC
  go_enter Tryz.func112, Tryz.ntmps112
  go_wp2_with fail
  go_loopw [9] (fun iv wr => ∃ i : Nat, i ≤ n ∧ iv = .int .i64 i ∧ Hid (∀ k, k < i → Q k) ∧ Hid (Below w.heap.size w wr)) (fun iv _ => match iv with | .int _ x => n - x.toNat | _ => 0)
  case atStart => exact ⟨0, by omega, rfl, hide (fun k hk => by omega), hide (Below.refl _ _)⟩
  case round =>
    obtain ⟨i, hi9, rfl, HU, HBw⟩ := hrel
    by_cases hin : i < n
    · rcases HA.out with ⟨h9, _⟩ | ⟨b, o, cap', e, hb, hcap, hc⟩
      · omega
      cases e
      have c0 := (HBw.out.cell (p := ⟨b, o + i * 2, none⟩) hb).trans (hc i hin).1
      have c1 := (HBw.out.cell (p := ⟨b, o + i * 2 + 1, none⟩) hb).trans (hc i hin).2
      clear hc
      go_wp2_with fail
      refine (HC.out i hin _ (HBw.out.alloc HBw.out.size _)).mono ?_
      rintro e w3 ⟨r, rfl, hr, hb3⟩
      have HB4 := hide ((HBw.out.alloc HBw.out.size _).trans (hb3.mono (HBw.out.alloc HBw.out.size _).size))
      clear c0 c1 hb3
      rcases hr with ⟨rfl, hr⟩ | ⟨rfl, hr⟩
      · have HR := hide hr
        clear hr
        go_wp2
        go_roundw
        case rel => exact ⟨i + 1, by omega, by simp, hide (allQ_next HU.out HR.out), HB4⟩
        case measure => simp; omega
      · have HR := hide hr
        clear hr
        go_wp2
        go_ret
        exact ⟨_, rfl, .inr ⟨rfl, fun hq => HR.out (hq i hin)⟩, HB4.out⟩
    · obtain rfl : i = n := by omega
      go_wp2
      go_ret
      exact ⟨_, rfl, .inl ⟨rfl, HU.out⟩, HBw.out⟩
set_option maxHeartbeats 1600000 in
set_option maxRecDepth 100000 in
theorem allConst_any (v : Value) (n : Nat) (x0 : Nat → Int) (x1 : Nat → Int) (x2 : Nat → Int) (x3 : Nat → ByteArray) (Q : Nat → Prop) (w : World) (hn : n ≤ 1048576) (h : ConsA w v n x0 x1 x2 x3)
    (HC : ∀ i, i < n → ∀ w', Below w.heap.size w w' → Calls Tryz.prog 115 #[.agg #[.int .i64 (x0 i), .int .i64 (x1 i), .int .u64 (x2 i), .string (x3 i)]] w' fun e w2 => RetB (Q i) w' e w2) :
    Calls Tryz.prog 114 #[v, .func (.func 115) #[] #[]] w fun e w' => RetB (∀ k, k < n → Q k) w e w' := by
  have HA := hide h
  obtain ⟨sa, cap, rfl⟩ := h.val
  clear h
  have HC := hide HC
  go_enter Tryz.func114, Tryz.ntmps114
  go_wp2_with fail
  go_loopw [9] (fun iv wr => ∃ i : Nat, i ≤ n ∧ iv = .int .i64 i ∧ Hid (∀ k, k < i → Q k) ∧ Hid (Below w.heap.size w wr)) (fun iv _ => match iv with | .int _ x => n - x.toNat | _ => 0)
  case atStart => exact ⟨0, by omega, rfl, hide (fun k hk => by omega), hide (Below.refl _ _)⟩
  case round =>
    obtain ⟨i, hi9, rfl, HU, HBw⟩ := hrel
    by_cases hin : i < n
    · rcases HA.out with ⟨h9, _⟩ | ⟨b, o, cap', e, hb, hcap, hc⟩
      · omega
      cases e
      have c0 := (HBw.out.cell (p := ⟨b, o + i * 4, none⟩) hb).trans (hc i hin).1
      have c1 := (HBw.out.cell (p := ⟨b, o + i * 4 + 1, none⟩) hb).trans (hc i hin).2.1
      have c2 := (HBw.out.cell (p := ⟨b, o + i * 4 + 2, none⟩) hb).trans (hc i hin).2.2.1
      have c3 := (HBw.out.cell (p := ⟨b, o + i * 4 + 3, none⟩) hb).trans (hc i hin).2.2.2
      clear hc
      go_wp2_with fail
      refine (HC.out i hin _ (HBw.out.alloc HBw.out.size _)).mono ?_
      rintro e w3 ⟨r, rfl, hr, hb3⟩
      have HB4 := hide ((HBw.out.alloc HBw.out.size _).trans (hb3.mono (HBw.out.alloc HBw.out.size _).size))
      clear c0 c1 c2 c3 hb3
      rcases hr with ⟨rfl, hr⟩ | ⟨rfl, hr⟩
      · have HR := hide hr
        clear hr
        go_wp2
        go_roundw
        case rel => exact ⟨i + 1, by omega, by simp, hide (allQ_next HU.out HR.out), HB4⟩
        case measure => simp; omega
      · have HR := hide hr
        clear hr
        go_wp2
        go_ret
        exact ⟨_, rfl, .inr ⟨rfl, fun hq => HR.out (hq i hin)⟩, HB4.out⟩
    · obtain rfl : i = n := by omega
      go_wp2
      go_ret
      exact ⟨_, rfl, .inl ⟨rfl, HU.out⟩, HBw.out⟩
set_option maxHeartbeats 1600000 in
set_option maxRecDepth 100000 in
theorem allInstr_any (v : Value) (n : Nat) (x0 : Nat → Int) (x1 : Nat → Int) (x2 : Nat → Int) (x3 : Nat → Int) (Q : Nat → Prop) (w : World) (hn : n ≤ 1048576) (h : InsA w v n x0 x1 x2 x3)
    (HC : ∀ i, i < n → ∀ w', Below w.heap.size w w' → Calls Tryz.prog 117 #[.agg #[.int .i64 (x0 i), .int .i64 (x1 i), .int .i64 (x2 i), .int .i64 (x3 i)]] w' fun e w2 => RetB (Q i) w' e w2) :
    Calls Tryz.prog 116 #[v, .func (.func 117) #[] #[]] w fun e w' => RetB (∀ k, k < n → Q k) w e w' := by
  have HA := hide h
  obtain ⟨sa, cap, rfl⟩ := h.val
  clear h
  have HC := hide HC
  go_enter Tryz.func116, Tryz.ntmps116
  go_wp2_with fail
  go_loopw [9] (fun iv wr => ∃ i : Nat, i ≤ n ∧ iv = .int .i64 i ∧ Hid (∀ k, k < i → Q k) ∧ Hid (Below w.heap.size w wr)) (fun iv _ => match iv with | .int _ x => n - x.toNat | _ => 0)
  case atStart => exact ⟨0, by omega, rfl, hide (fun k hk => by omega), hide (Below.refl _ _)⟩
  case round =>
    obtain ⟨i, hi9, rfl, HU, HBw⟩ := hrel
    by_cases hin : i < n
    · rcases HA.out with ⟨h9, _⟩ | ⟨b, o, cap', e, hb, hcap, hc⟩
      · omega
      cases e
      have c0 := (HBw.out.cell (p := ⟨b, o + i * 4, none⟩) hb).trans (hc i hin).1
      have c1 := (HBw.out.cell (p := ⟨b, o + i * 4 + 1, none⟩) hb).trans (hc i hin).2.1
      have c2 := (HBw.out.cell (p := ⟨b, o + i * 4 + 2, none⟩) hb).trans (hc i hin).2.2.1
      have c3 := (HBw.out.cell (p := ⟨b, o + i * 4 + 3, none⟩) hb).trans (hc i hin).2.2.2
      clear hc
      go_wp2_with fail
      refine (HC.out i hin _ (HBw.out.alloc HBw.out.size _)).mono ?_
      rintro e w3 ⟨r, rfl, hr, hb3⟩
      have HB4 := hide ((HBw.out.alloc HBw.out.size _).trans (hb3.mono (HBw.out.alloc HBw.out.size _).size))
      clear c0 c1 c2 c3 hb3
      rcases hr with ⟨rfl, hr⟩ | ⟨rfl, hr⟩
      · have HR := hide hr
        clear hr
        go_wp2
        go_roundw
        case rel => exact ⟨i + 1, by omega, by simp, hide (allQ_next HU.out HR.out), HB4⟩
        case measure => simp; omega
      · have HR := hide hr
        clear hr
        go_wp2
        go_ret
        exact ⟨_, rfl, .inr ⟨rfl, fun hq => HR.out (hq i hin)⟩, HB4.out⟩
    · obtain rfl : i = n := by omega
      go_wp2
      go_ret
      exact ⟨_, rfl, .inl ⟨rfl, HU.out⟩, HBw.out⟩
set_option maxHeartbeats 1600000 in
set_option maxRecDepth 100000 in
theorem allInt_any (v : Value) (n : Nat) (x0 : Nat → Int) (Q : Nat → Prop) (w : World) (hn : n ≤ 1048576) (h : IntsA w v n x0)
    (HC : ∀ i, i < n → ∀ w', Below w.heap.size w w' → Calls Tryz.prog 111 #[.int .i64 (x0 i)] w' fun e w2 => RetB (Q i) w' e w2) :
    Calls Tryz.prog 118 #[v, .func (.func 111) #[] #[]] w fun e w' => RetB (∀ k, k < n → Q k) w e w' := by
  have HA := hide h
  obtain ⟨sa, cap, rfl⟩ := h.val
  clear h
  have HC := hide HC
  go_enter Tryz.func118, Tryz.ntmps118
  go_wp2_with fail
  go_loopw [9] (fun iv wr => ∃ i : Nat, i ≤ n ∧ iv = .int .i64 i ∧ Hid (∀ k, k < i → Q k) ∧ Hid (Below w.heap.size w wr)) (fun iv _ => match iv with | .int _ x => n - x.toNat | _ => 0)
  case atStart => exact ⟨0, by omega, rfl, hide (fun k hk => by omega), hide (Below.refl _ _)⟩
  case round =>
    obtain ⟨i, hi9, rfl, HU, HBw⟩ := hrel
    by_cases hin : i < n
    · rcases HA.out with ⟨h9, _⟩ | ⟨b, o, cap', e, hb, hcap, hc⟩
      · omega
      cases e
      have c0 := (HBw.out.cell (p := ⟨b, o + i, none⟩) hb).trans (hc i hin)
      clear hc
      go_wp2_with fail
      refine (HC.out i hin _ HBw.out).mono ?_
      rintro e w3 ⟨r, rfl, hr, hb3⟩
      have HB4 := hide (HBw.out.trans (hb3.mono HBw.out.size))
      clear c0 hb3
      rcases hr with ⟨rfl, hr⟩ | ⟨rfl, hr⟩
      · have HR := hide hr
        clear hr
        go_wp2
        go_roundw
        case rel => exact ⟨i + 1, by omega, by simp, hide (allQ_next HU.out HR.out), HB4⟩
        case measure => simp; omega
      · have HR := hide hr
        clear hr
        go_wp2
        go_ret
        exact ⟨_, rfl, .inr ⟨rfl, fun hq => HR.out (hq i hin)⟩, HB4.out⟩
    · obtain rfl : i = n := by omega
      go_wp2
      go_ret
      exact ⟨_, rfl, .inl ⟨rfl, HU.out⟩, HBw.out⟩
end Go.Proofs.YtgnbhhgpaldheaaGreat
