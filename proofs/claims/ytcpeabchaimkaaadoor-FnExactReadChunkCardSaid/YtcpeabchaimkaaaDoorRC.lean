import Derived.Test.YtcpeabchaimkaaaDoorJRB
namespace Go.Proofs.YtcpeabchaimkaaaDoor
open Go Go.RowKit
set_option linter.unusedVariables false

theorem leI_cons (n : Nat) (b V : Int) (h0 : 0 ≤ b) (h1 : b ≤ 255) : leI (n + 1) (b + 256 * V) = b :: leI n V := by
  unfold leI
  rw [List.range_succ_eq_map, List.map_cons, List.map_map]
  congr 1
  · simp; omega
  · refine List.map_congr_left fun j _ => ?_
    simp only [Function.comp, Nat.succ_eq_add_one]
    congr 1
    rw [Int.pow_succ, Int.mul_comm (256 ^ j) 256, ← Int.ediv_ediv_of_nonneg (show (0 : Int) ≤ 256 by omega), show (b + 256 * V) / 256 = V by omega]
theorem leI_leV {t : List Int} (h : BytesL t) : leI t.length (leV t) = t := by
  induction t with
  | nil => rfl
  | cons b t ih =>
    have hb := h b (by simp)
    rw [List.length_cons, leV, leI_cons _ _ _ hb.1 hb.2, ih (fun x hx => h x (by simp [hx]))]
theorem pow256_le {n : Nat} (h : n ≤ 8) : (256 : Int) ^ n ≤ 18446744073709551616 := by
  have : n = 0 ∨ n = 1 ∨ n = 2 ∨ n = 3 ∨ n = 4 ∨ n = 5 ∨ n = 6 ∨ n = 7 ∨ n = 8 := by omega
  rcases this with rfl | rfl | rfl | rfl | rfl | rfl | rfl | rfl | rfl <;> decide
theorem u4_mod {x y : Int} (h : x % 4294967296 = y % 4294967296) : u64n x 4 = u64n y 4 := by
  rw [u64n, u64n, IntKind.wrap_u64, IntKind.wrap_u64]
  simp only [leI, List.range_succ, List.range_zero, List.nil_append, List.cons_append, List.map_cons, List.map_nil]
  have e0 : x % 18446744073709551616 / 256 ^ 0 % 256 = y % 18446744073709551616 / 256 ^ 0 % 256 := by omega
  have e1 : x % 18446744073709551616 / 256 ^ 1 % 256 = y % 18446744073709551616 / 256 ^ 1 % 256 := by omega
  have e2 : x % 18446744073709551616 / 256 ^ 2 % 256 = y % 18446744073709551616 / 256 ^ 2 % 256 := by omega
  have e3 : x % 18446744073709551616 / 256 ^ 3 % 256 = y % 18446744073709551616 / 256 ^ 3 % 256 := by omega
  rw [e0, e1, e2, e3]
theorem u64_leV {t : List Int} (h : BytesL t) (hl : t.length ≤ 8) : u64n (wrap64 (leV t)) t.length = t := by
  have h1 := leV_lt h
  have h2 := pow256_le hl
  have e : IntKind.u64.wrap (wrap64 (leV t)) = leV t := by
    rw [w64_eq]
    omega
  rw [u64n, e, leI_leV h]

/-- What a part of the reader comes to: it takes just what the writer lays down for something that is right, or it ends reading where nothing right lies there. -/
def Pars {α : Type} (E : α → List Int) (V : α → Prop) (val : α → Value) (R : Nat) (l : List Int) (w : World) (e : Ending) (w' : World) : Prop :=
  Keeps w w' (fun b => b = R) ∧ ((∃ x r, V x ∧ l = E x ++ r ∧ e = .returned (val x) ∧ RdP w' R r) ∨ ((∀ x r, V x → l ≠ E x ++ r) ∧ e = PanE))
def rngM (m : Nat) (x : Int) : Prop := if m = 8 then -9223372036854775808 ≤ x ∧ x ≤ 9223372036854775807 else 0 ≤ x ∧ x < 256 ^ m
theorem rng1 {x : Int} : rngM 1 x ↔ 0 ≤ x ∧ x ≤ 255 := by unfold rngM; rw [if_neg (by omega)]; omega
theorem rng2 {x : Int} : rngM 2 x ↔ 0 ≤ x ∧ x ≤ 65535 := by unfold rngM; rw [if_neg (by omega)]; omega
theorem rng4 {x : Int} : rngM 4 x ↔ 0 ≤ x ∧ x ≤ 4294967295 := by unfold rngM; rw [if_neg (by omega)]; omega
theorem rng8 {x : Int} : rngM 8 x ↔ -9223372036854775808 ≤ x ∧ x ≤ 9223372036854775807 := by unfold rngM; rw [if_pos rfl]

theorem num_p (R m : Nat) (l : List Int) (w : World) (hm : m = 1 ∨ m = 2 ∨ m = 4 ∨ m = 8) (h : RdP w R l) :
    Calls Tryd.prog 31 #[.pointer (some ⟨R, 0, none⟩), .int .i64 m] w fun e w' => Pars (u64n · m) (rngM m) (Value.int .i64 ·) R l w e w' := by
  have hBy := h.2.1
  refine (pnum_any R m l w (by omega) h).mono ?_
  rintro e w' ⟨hk, ⟨hle, rfl, hr⟩ | ⟨hlt, rfl⟩⟩
  · have hlen : (l.take m).length = m := by rw [List.length_take]; omega
    have hBt : BytesL (l.take m) := fun x hx => hBy x (List.mem_of_mem_take hx)
    have hlv := leV_lt hBt
    rw [hlen] at hlv
    refine ⟨hk, .inl ⟨_, l.drop m, ?_, ?_, rfl, hr⟩⟩
    · rcases hm with rfl | rfl | rfl | rfl
      · rw [rng1]; unfold wrap64; omega
      · rw [rng2]; unfold wrap64; omega
      · rw [rng4]; unfold wrap64; omega
      · rw [rng8]; unfold wrap64; omega
    · have := u64_leV hBt (by omega)
      rw [hlen] at this
      show l = u64n (wrap64 (leV (l.take m))) m ++ l.drop m
      rw [this, List.take_append_drop]
  · refine ⟨hk, .inr ⟨fun x r _ e => ?_, rfl⟩⟩
    have := congrArg List.length e
    rw [List.length_append, u64n_len] at this
    omega

set_option maxHeartbeats 1600000 in
set_option maxRecDepth 100000 in
theorem flag_p (R : Nat) (l : List Int) (w : World) (h : RdP w R l) :
    Calls Tryd.prog 50 #[.pointer (some ⟨R, 0, none⟩)] w fun e w' => Pars (fun b : Bool => [flagI b]) (fun _ => True) (Value.bool ·) R l w e w' := by
  have HR := hide h
  clear h
  go_enter Tryd.func50, Tryd.ntmps50
  go_wp2_with fail
  refine (num_p R 1 l w (by omega) HR.out).mono ?_
  rintro e w1 ⟨hk, ⟨x, r, hx, hl, rfl, hr⟩ | ⟨hno, rfl⟩⟩
  case inr =>
    exact ⟨rfl, hk, .inr ⟨fun b r _ e => hno (flagI b) r (rng1.2 (by cases b <;> simp [flagI])) (by rw [e]; cases b <;> rfl), rfl⟩⟩
  rw [rng1] at hx
  have HL := hide hl
  have HK := hide hk
  have HR1 := hide hr
  clear hl hk hr
  by_cases h0 : x = 0
  · subst h0
    go_wp2_with fail
    refine (require_any _ _ _).mono ?_
    rintro e w2 ⟨hw, ⟨-, rfl⟩ | ⟨hq, -⟩⟩
    case inr => simp at hq
    obtain rfl := hw.symm
    go_wp2_with fail
    go_ret
    exact ⟨HK.out, .inl ⟨false, r, trivial, HL.out, rfl, HR1.out⟩⟩
  · by_cases h1 : x = 1
    · subst h1
      go_wp2_with fail
      refine (require_any _ _ _).mono ?_
      rintro e w2 ⟨hw, ⟨-, rfl⟩ | ⟨hq, -⟩⟩
      case inr => simp at hq
      obtain rfl := hw.symm
      go_wp2_with fail
      go_ret
      exact ⟨HK.out, .inl ⟨true, r, trivial, HL.out, rfl, HR1.out⟩⟩
    · have h2 : ¬ x ≤ 1 := by omega
      go_wp2_with fail
      refine (require_any _ _ _).mono ?_
      rintro e w2 ⟨hw, ⟨hq, -⟩ | ⟨-, rfl⟩⟩
      case inl => simp at hq; omega
      subst hw
      refine ⟨rfl, HK.out, .inr ⟨fun b r' _ e => ?_, rfl⟩⟩
      have e1 := HL.out.symm.trans e
      have e2 : u64n x 1 = [x] := by
        rw [u64n, IntKind.wrap_u64]
        simp [leI, List.range_succ]
        omega
      rw [e2] at e1
      have e3 : x = flagI b := by simpa using (List.cons.inj e1).1
      cases b <;> simp [flagI] at e3 <;> omega

set_option maxHeartbeats 1600000 in
set_option maxRecDepth 100000 in
theorem line_p (R : Nat) (l : List Int) (w : World) (h : RdP w R l) :
    Calls Tryd.prog 51 #[.pointer (some ⟨R, 0, none⟩)] w fun e w' => Pars (u64n · 4) (fun x => 0 ≤ x ∧ x ≤ 2147483647) (Value.int .i64 ·) R l w e w' := by
  have HR := hide h
  clear h
  go_enter Tryd.func51, Tryd.ntmps51
  go_wp2_with fail
  refine (num_p R 4 l w (by omega) HR.out).mono ?_
  rintro e w1 ⟨hk, ⟨x, r, hx, hl, rfl, hr⟩ | ⟨hno, rfl⟩⟩
  case inr =>
    exact ⟨rfl, hk, .inr ⟨fun x r hx e => hno x r (rng4.2 (by omega)) e, rfl⟩⟩
  rw [rng4] at hx
  have HL := hide hl
  have HK := hide hk
  have HR1 := hide hr
  clear hl hk hr
  go_wp2_with fail
  refine (isLine_any _ _).mono ?_
  rintro e w2 ⟨rfl, hw⟩
  obtain rfl := hw.symm
  by_cases h0 : x ≤ 2147483647
  · rw [inI_t ⟨hx.1, h0⟩]
    go_wp2_with fail
    refine (require_any _ _ _).mono ?_
    rintro e w3 ⟨hw, ⟨-, rfl⟩ | ⟨hq, -⟩⟩
    case inr => simp at hq
    obtain rfl := hw.symm
    go_wp2_with fail
    go_ret
    exact ⟨HK.out, .inl ⟨x, r, ⟨hx.1, h0⟩, HL.out, rfl, HR1.out⟩⟩
  · rw [inI_f (by omega)]
    go_wp2_with fail
    refine (require_any _ _ _).mono ?_
    rintro e w3 ⟨hw, ⟨hq, -⟩ | ⟨-, rfl⟩⟩
    case inl => simp at hq
    subst hw
    refine ⟨rfl, HK.out, .inr ⟨fun y r' hy e => ?_, rfl⟩⟩
    have e1 := (fld (HL.out.symm.trans e)).1
    have e2 := congrArg leV e1
    rw [u64n, u64n, le4, le4, IntKind.wrap_u64, IntKind.wrap_u64] at e2
    omega

set_option maxHeartbeats 1600000 in
set_option maxRecDepth 100000 in
theorem signed_p (R : Nat) (l : List Int) (w : World) (h : RdP w R l) :
    Calls Tryd.prog 67 #[.pointer (some ⟨R, 0, none⟩)] w fun e w' => Pars (u64n · 4) (fun x => -2147483648 ≤ x ∧ x ≤ 2147483647) (Value.int .i64 ·) R l w e w' := by
  have HR := hide h
  clear h
  go_enter Tryd.func67, Tryd.ntmps67
  go_wp2_with fail
  refine (num_p R 4 l w (by omega) HR.out).mono ?_
  rintro e w1 ⟨hk, ⟨x, r, hx, hl, rfl, hr⟩ | ⟨hno, rfl⟩⟩
  case inr =>
    refine ⟨rfl, hk, .inr ⟨fun x r hx e => ?_, rfl⟩⟩
    refine hno (x % 4294967296) r (rng4.2 (by omega)) ?_
    rw [e]
    congr 1
    exact u4_mod (by omega)
  rw [rng4] at hx
  have HL := hide hl
  have HK := hide hk
  have HR1 := hide hr
  clear hl hk hr
  go_wp2_with fail
  go_ret
  refine ⟨HK.out, .inl ⟨wrap64 (wrap32 x), r, ?_, ?_, rfl, HR1.out⟩⟩
  · unfold wrap64 wrap32
    omega
  · rw [HL.out]
    congr 1
    refine u4_mod ?_
    unfold wrap64 wrap32
    omega

end Go.Proofs.YtcpeabchaimkaaaDoor
