import Derived.Test.YtmndipnifjpdjaaGreatDoorQ32
import Derived.Handy
import Derived.Lib.ParseIntBCases
import Derived.Test.YtmndipnifjpdjaaGreatDoorQ33
import Derived.Test.YtmndipnifjpdjaaGreatDoorQ34
import Derived.Test.YtmndipnifjpdjaaGreatDoorQ35
namespace Go.Proofs.YtmndipnifjpdjaaGreatDoor
open Go Go.RowKit
set_option linter.unusedVariables false
theorem rq_mono {A A' D : Nat} (hD : 0 < D) (h : A ≤ A') : rq A D ≤ rq A' D := by
  unfold rq
  have hq := Nat.div_le_div_right (c := D) h
  have e1 := Nat.div_add_mod A D
  have e2 := Nat.div_add_mod A' D
  have r1 := Nat.mod_lt A hD
  have r2 := Nat.mod_lt A' hD
  by_cases c : A / D = A' / D
  · rw [c] at e1 ⊢
    have hr : A % D ≤ A' % D := by omega
    generalize A' / D = q at *
    generalize A % D = r at *
    generalize A' % D = r' at *
    split
    · rename_i h1
      rw [if_pos (by omega)]
      exact Nat.le_refl _
    · split <;> omega
  · have : A / D + 1 ≤ A' / D := by omega
    split <;> split <;> omega
theorem IsRnd.mono {A A' d W W' : Nat} (hd : 0 < d) (h : A ≤ A') (h1 : IsRnd A d W) (h2 : IsRnd A' d W') : W ≤ W' := by
  obtain ⟨k, a1, a2, a3⟩ := h1
  obtain ⟨k', b1, b2, b3⟩ := h2
  have p2' : ∀ n : Nat, 0 < 2 ^ n := fun n => Nat.pow_pos (by omega)
  have key : k * 4503599627370496 + rq A (d * 2 ^ k) ≤ k' * 4503599627370496 + rq A' (d * 2 ^ k') := by
    rcases Nat.lt_trichotomy k k' with c | c | c
    · have u1 : rq A (d * 2 ^ k) ≤ 9007199254740992 := by
        rw [← pow53]; refine rqLe (Nat.mul_pos hd (p2' _)) ?_
        rw [Nat.mul_assoc, ← Nat.pow_add, Nat.add_comm k 53]; exact a1
      have u2 : 4503599627370496 ≤ rq A' (d * 2 ^ k') := by
        rw [← pow52]; refine rqGe (Nat.mul_pos hd (p2' _)) ?_
        rw [Nat.mul_assoc, ← Nat.pow_add, Nat.add_comm k' 52]
        rcases b2 with g | g
        · omega
        · exact g
      have := Nat.mul_le_mul_right 4503599627370496 c
      rw [Nat.succ_mul] at this
      omega
    · subst c
      have := rq_mono (Nat.mul_pos hd (p2' k)) h
      omega
    · exfalso
      rcases a2 with g | g
      · omega
      · have h3 : d * 2 ^ (53 + k') ≤ d * 2 ^ (52 + k) := Nat.mul_le_mul_left _ (Nat.pow_le_pow_right (by omega) (by omega))
        omega
  rw [a3, b3]
  omega
theorem DecRnd.ex (N : Nat) (E : Int) : ∃ W, DecRnd N E W := exists_rnd _ (p10 _)
theorem DecRnd.shift {m c W : Nat} {E : Int} (h : DecRnd m (E + c) W) : DecRnd (m * 10 ^ c) E W := by
  unfold DecRnd at *
  have h1 := (IsRnd.scale (c := 10 ^ (c + (-E).toNat - (-(E + c)).toNat)) (p10 _)).2 h
  have h2 := (IsRnd.scale (N := m * 10 ^ c * 10 ^ E.toNat * 2 ^ 1074) (d := 10 ^ (-E).toNat) (W := W) (c := 10 ^ c) (p10 _)).1
  apply h2
  have e1 : m * 10 ^ (E + ↑c).toNat * 2 ^ 1074 * 10 ^ (c + (-E).toNat - (-(E + ↑c)).toNat) = m * 10 ^ c * 10 ^ E.toNat * 2 ^ 1074 * 10 ^ c := by
    generalize 2 ^ 1074 = t
    have e : 10 ^ (E + ↑c).toNat * 10 ^ (c + (-E).toNat - (-(E + ↑c)).toNat) = 10 ^ c * 10 ^ E.toNat * 10 ^ c := by
      rw [← Nat.pow_add, ← Nat.pow_add, ← Nat.pow_add]; congr 1; omega
    calc m * 10 ^ (E + ↑c).toNat * t * 10 ^ (c + (-E).toNat - (-(E + ↑c)).toNat) = m * t * (10 ^ (E + ↑c).toNat * 10 ^ (c + (-E).toNat - (-(E + ↑c)).toNat)) := by simp only [Nat.mul_comm, Nat.mul_left_comm, Nat.mul_assoc]
      _ = m * t * (10 ^ c * 10 ^ E.toNat * 10 ^ c) := by rw [e]
      _ = m * 10 ^ c * 10 ^ E.toNat * t * 10 ^ c := by simp only [Nat.mul_comm, Nat.mul_left_comm, Nat.mul_assoc]
  have e2 : 10 ^ (-(E + ↑c)).toNat * 10 ^ (c + (-E).toNat - (-(E + ↑c)).toNat) = 10 ^ (-E).toNat * 10 ^ c := by
    rw [← Nat.pow_add, ← Nat.pow_add]; congr 1; omega
  rw [e1, e2] at h1
  exact h1
theorem DecRnd.mono {N N' W W' : Nat} {E : Int} (h : N ≤ N') (h1 : DecRnd N E W) (h2 : DecRnd N' E W') : W ≤ W' :=
  IsRnd.mono (p10 _) (Nat.mul_le_mul_right _ (Nat.mul_le_mul_right _ h)) h1 h2
theorem rfC_lt {N : Nat} (h : N ≠ 0) : rfC N + 1 ≤ size10 N := by
  have h1 : size10 N ≠ 0 := by rw [size10_pos h]; omega
  unfold rfC; omega
theorem rfC_le (N : Nat) : size10 N ≤ rfC N + 19 := by unfold rfC; omega
theorem rfM_zero {N : Nat} (h : rfM N = 0) : N = 0 := by
  rcases Nat.eq_zero_or_pos N with e | e
  · exact e
  · exfalso
    have h1 := size10_ge (n := N) (by omega)
    have h2 := rfC_lt (N := N) (by omega)
    unfold rfM at h
    have h3 : N < 10 ^ rfC N := by
      rcases Nat.lt_or_ge N (10 ^ rfC N) with g | g
      · exact g
      · have := Nat.div_pos g (p10 _); omega
    have := pow10_lt (Nat.lt_of_le_of_lt h1 h3)
    omega
theorem pow_fact3 : 2 * 2 ^ 1074 < 10 ^ 324 := by decide +kernel
theorem rf_under {N : Nat} {E : Int} (h : E + rfC N < -345) : DecRnd N E 0 := by
  have h1 := rfC_le N
  exact rnd_under' (a := 324) (b := 1074) pow_fact3 (by omega)
theorem rf_exact {N W : Nat} {E : Int} (ht : rfT N = false) (h : DecRnd (rfM N) (E + rfC N) W) : DecRnd N E W := by
  have h1 := h.shift
  unfold rfT at ht
  rw [decide_eq_false_iff_not] at ht
  have h2 := Nat.div_add_mod N (10 ^ rfC N)
  have e : rfM N * 10 ^ rfC N = N := by
    unfold rfM
    rw [Nat.mul_comm]
    omega
  rw [e] at h1
  exact h1
theorem rf_same {N W : Nat} {E : Int} (h1 : DecRnd (rfM N) (E + rfC N) W) (h2 : DecRnd (rfM N + 1) (E + rfC N) W) : DecRnd N E W := by
  obtain ⟨V, hV⟩ := DecRnd.ex N E
  have h3 := Nat.div_add_mod N (10 ^ rfC N)
  have h4 := Nat.mod_lt N (p10 (rfC N))
  have a1 : rfM N * 10 ^ rfC N ≤ N := by unfold rfM; exact Nat.div_mul_le_self _ _
  have a2 : N ≤ (rfM N + 1) * 10 ^ rfC N := by
    unfold rfM
    rw [Nat.add_mul, Nat.one_mul, Nat.mul_comm (N / _)]
    omega
  have b1 := DecRnd.mono a1 h1.shift hV
  have b2 := DecRnd.mono a2 hV h2.shift
  have : V = W := by omega
  rw [← this]
  exact hV
theorem rfM_lt (N : Nat) : rfM N < 10000000000000000000 := by
  have h1 := size10_lt N
  have h2 := rfC_le N
  unfold rfM
  refine Nat.div_lt_of_lt_mul ?_
  have e : (10000000000000000000 : Nat) = 10 ^ 19 := by decide
  rw [e, ← Nat.pow_add]
  exact Nat.lt_of_lt_of_le h1 (Nat.pow_le_pow_right (by omega) (by omega))
set_option maxHeartbeats 800000 in
set_option maxRecDepth 100000 in
theorem special_any (s : ByteArray) (w : World) (h0 : 0 < s.size) (hc : ((s[0].toNat : Nat) : Int) = 46 ∨ (48 ≤ ((s[0].toNat : Nat) : Int) ∧ ((s[0].toNat : Nat) : Int) ≤ 57)) :
    Calls Tryz.prog 273 #[.string s] w fun e w' => e = .returned (.tuple #[.float .f64 0, .int .i64 0, .bool false]) ∧ w' = w := by
  have e43 : (((s[0].toNat : Nat) : Int) == 43) = false := bq (by omega)
  have e45 : (((s[0].toNat : Nat) : Int) == 45) = false := bq (by omega)
  have e105 : (((s[0].toNat : Nat) : Int) == 105) = false := bq (by omega)
  have e73 : (((s[0].toNat : Nat) : Int) == 73) = false := bq (by omega)
  have e110 : (((s[0].toNat : Nat) : Int) == 110) = false := bq (by omega)
  have e78 : (((s[0].toNat : Nat) : Int) == 78) = false := bq (by omega)
  have h0a : (0 : Int) < (s.size : Int) := by omega
  have h0b : ¬ s.size = 0 := by omega
  have h0c : ((s.size : Int) == 0) = false := bq (by omega)
  clear hc
  go_enter Tryz.func273, Tryz.ntmps273
  go_wp2
  go_ret3
  exact ⟨rfl, rfl⟩
end Go.Proofs.YtmndipnifjpdjaaGreatDoor
namespace Go.Proofs.YtmndipnifjpdjaaGreatDoor
open Go Go.RowKit
set_option linter.unusedVariables false
def errV (W : Nat) : Value := if W = infW then .iface 201 (.int .i64 1) else .nilIface
def AtR (N : Nat) (E : Int) (s : ByteArray) (w : World) (e : Ending) (w' : World) : Prop :=
  ∃ W, e = .returned (.tuple #[.float .f64 W, .int .i64 s.size, errV W]) ∧ DecRnd N E W ∧ Below w.heap.size w w'
structure Vars (w : World) (G o P po C co : Nat) : Prop where
  tabs : Tabs w G o
  h12 : 18 < w.heap.size
  hP : P < w.heap.size
  opt : w.cell? ⟨11, 0, none⟩ = some (.bool true)
  expb : w.cell? ⟨13, 1, none⟩ = some (.int .u64 11)
  bias : w.cell? ⟨13, 2, none⟩ = some (.int .i64 (-1023))
  slice : w.cell? ⟨17, 0, none⟩ = some (.slice (some ⟨P, po, none⟩) 9 9)
  tab : ∀ k, k < 9 → w.cell? ⟨P, po + k, none⟩ = some (.int .i64 (powRow.getD k 0 : Nat))
  cheats : Cheats w C co
theorem pfV_eq (W : Nat) : pfV W = .tuple #[.float .f64 W, errV W] := by
  unfold pfV errV
  split
  · rename_i h; rw [h]
  · rfl
theorem errV_fin {W : Nat} (h : W ≠ infW) : errV W = .nilIface := by unfold errV; rw [if_neg h]
theorem errV_inf : errV infW = .iface 201 (.int .i64 1) := by unfold errV; rw [if_pos rfl]
set_option maxHeartbeats 800000 in
set_option maxRecDepth 100000 in
theorem bool2_u64 (w : World) : Calls Tryz.prog 282 #[.bool false] w fun e w' => e = .returned (.int .u64 0) ∧ w' = w := by
  go_enter Tryz.func282, Tryz.ntmps282
  go_wp2
  go_ret
  exact ⟨rfl, rfl⟩
theorem Vars.drewN {w : World} {G o P po C co : Nat} (h : Vars w G o P po C co) (q : Nat) : Vars (w.drewN q) G o P po C co :=
  ⟨⟨h.tabs.size, h.tabs.hG, h.tabs.mant, h.tabs.slice, h.tabs.tens, h.tabs.rows0, h.tabs.rows1⟩, h.h12, h.hP, h.opt, h.expb, h.bias, h.slice, h.tab, ⟨h.cheats.size, h.cheats.hG, h.cheats.slice, h.cheats.delta, h.cheats.cut⟩⟩
set_option maxHeartbeats 1600000 in
set_option maxRecDepth 100000 in
theorem at_zero (N G o P po C co : Nat) (E : Int) (s : ByteArray) (w : World) (h0 : 0 < s.size) (hs : s.size ≤ 100) (hc : ((s[0].toNat : Nat) : Int) = 46 ∨ (48 ≤ ((s[0].toNat : Nat) : Int) ∧ ((s[0].toNat : Nat) : Int) ≤ 57)) (hrf : Calls Tryz.prog 274 #[.string s] w fun e w' => RFR N E s w e w')
    (hV : Vars w G o P po C co) (hN : N = 0) :
    Calls Tryz.prog 251 #[.string s] w fun e w' => AtR N E s w e w' := by
  have ho := hV.opt
  have HV := hide hV
  have S := special_any s w h0 hc
  have HS := hide S
  have HR := hide hrf
  have hm : rfM N = 0 := by rw [hN]; unfold rfM; rw [Nat.zero_div]
  have HD : Hid (DecRnd N E 0) := hide (by rw [hN]; exact decRnd_zero E)
  have hb0 : bits .or .u64 0 0 = 0 := by decide
  have hfb := run_frombits
  clear hc hrf S hV hN
  go_enter Tryz.func251, Tryz.ntmps251
  go_wp2_with fail
  refine HS.out.mono ?_
  rintro e w' ⟨rfl, rfl⟩
  go_wp2_with fail
  refine HR.out.mono ?_
  rintro e w' ⟨rfl, q, rfl⟩
  have hmi : ((rfM N : Nat) : Int) = 0 := by omega
  go_wp2
  go_ret3
  refine ⟨0, ?_, HD.out, below_drewN (Below.refl _ _) _⟩
  rw [errV_fin (by rw [infW_eq]; omega)]
  rfl
set_option maxHeartbeats 1600000 in
set_option maxRecDepth 100000 in
theorem at_over (N G o P po C co : Nat) (E : Int) (s : ByteArray) (w : World) (h0 : 0 < s.size) (hs : s.size ≤ 100) (hc : ((s[0].toNat : Nat) : Int) = 46 ∨ (48 ≤ ((s[0].toNat : Nat) : Int) ∧ ((s[0].toNat : Nat) : Int) ≤ 57)) (hrf : Calls Tryz.prog 274 #[.string s] w fun e w' => RFR N E s w e w')
    (hV : Vars w G o P po C co) (hN : N ≠ 0) (hp : 310 < E + rfC N) :
    Calls Tryz.prog 251 #[.string s] w fun e w' => AtR N E s w e w' := by
  have ho := hV.opt
  have HV := hide hV
  have S := special_any s w h0 hc
  have HS := hide S
  have HR := hide hrf
  have hm : rfM N ≠ 0 := fun h => hN (rfM_zero h)
  have hE : rfE N E = E + rfC N := by unfold rfE; rw [if_neg hm]
  have HD : Hid (DecRnd N E infW) := hide (decRnd_over hN (by have := rfC_lt hN; omega))
  have hp' : 310 < rfE N E := by omega
  have hm0 : (((rfM N : Nat) : Int) == 0) = false := bq (by omega)
  have hbi : bits .or .u64 0 9218868437227405312 = 9218868437227405312 := or_inf
  have hfb := run_frombits
  clear hc hrf S hV hN hE hp hm
  go_enter Tryz.func251, Tryz.ntmps251
  go_wp2_with fail
  refine HS.out.mono ?_
  rintro e w' ⟨rfl, rfl⟩
  go_wp2_with fail
  refine HR.out.mono ?_
  rintro e w' ⟨rfl, q, rfl⟩
  go_wp2
  go_ret3
  refine ⟨infW, ?_, HD.out, below_drewN (Below.refl _ _) _⟩
  rw [errV_inf]
  rfl
set_option maxHeartbeats 1600000 in
set_option maxRecDepth 100000 in
theorem at_under (N G o P po C co : Nat) (E : Int) (s : ByteArray) (w : World) (h0 : 0 < s.size) (hs : s.size ≤ 100) (hc : ((s[0].toNat : Nat) : Int) = 46 ∨ (48 ≤ ((s[0].toNat : Nat) : Int) ∧ ((s[0].toNat : Nat) : Int) ≤ 57)) (hrf : Calls Tryz.prog 274 #[.string s] w fun e w' => RFR N E s w e w')
    (hV : Vars w G o P po C co) (hN : N ≠ 0) (hp : E + rfC N < -345) :
    Calls Tryz.prog 251 #[.string s] w fun e w' => AtR N E s w e w' := by
  have ho := hV.opt
  have HV := hide hV
  have S := special_any s w h0 hc
  have HS := hide S
  have HR := hide hrf
  have hm : rfM N ≠ 0 := fun h => hN (rfM_zero h)
  have hE : rfE N E = E + rfC N := by unfold rfE; rw [if_neg hm]
  have HD : Hid (DecRnd N E 0) := hide (rf_under hp)
  have hp' : rfE N E < -345 := by omega
  have hm0 : (((rfM N : Nat) : Int) == 0) = false := bq (by omega)
  have hb0 : bits .or .u64 0 0 = 0 := by decide
  have hfb := run_frombits
  clear hc hrf S hV hN hE hp hm
  go_enter Tryz.func251, Tryz.ntmps251
  go_wp2_with fail
  refine HS.out.mono ?_
  rintro e w' ⟨rfl, rfl⟩
  go_wp2_with fail
  refine HR.out.mono ?_
  rintro e w' ⟨rfl, q, rfl⟩
  go_wp2
  go_ret3
  refine ⟨0, ?_, HD.out, below_drewN (Below.refl _ _) _⟩
  rw [errV_fin (by rw [infW_eq]; omega)]
  rfl
set_option maxHeartbeats 1600000 in
set_option maxRecDepth 100000 in
theorem at_short (N G o P po C co : Nat) (E : Int) (s : ByteArray) (w : World) (h0 : 0 < s.size) (hs : s.size ≤ 100) (hc : ((s[0].toNat : Nat) : Int) = 46 ∨ (48 ≤ ((s[0].toNat : Nat) : Int) ∧ ((s[0].toNat : Nat) : Int) ≤ 57)) (hrf : Calls Tryz.prog 274 #[.string s] w fun e w' => RFR N E s w e w')
    (hV : Vars w G o P po C co) (hN : N ≠ 0) (hp1 : -345 ≤ E + rfC N) (hp2 : E + rfC N ≤ 310) (ht : rfT N = false) :
    Calls Tryz.prog 251 #[.string s] w fun e w' => AtR N E s w e w' := by
  have ho := hV.opt
  have HV := hide hV
  have S := special_any s w h0 hc
  have HS := hide S
  have HR := hide hrf
  have hm : rfM N ≠ 0 := fun h => hN (rfM_zero h)
  have hE : rfE N E = E + rfC N := by unfold rfE; rw [if_neg hm]
  have hml := rfM_lt N
  have X := fun (q : Nat) => exact_any (rfM N) G o (rfE N E) (w.drewN q) (hV.drewN q).tabs hm (by omega)
  have Y := fun (q : Nat) => pf64_any (rfM N) (rfE N E) (w.drewN q) hm (by omega) (by omega) (by omega) hV.tabs.size (hV.tabs.rows0 _ (by omega)) (hV.tabs.rows1 _ (by omega))
  have HX := hide X
  have HY := hide Y
  have HD : Hid (∀ W, DecRnd (rfM N) (rfE N E) W → DecRnd N E W) := hide (fun W h => rf_exact ht (by rw [← hE]; exact h))
  have hq1 : -345 ≤ rfE N E := by omega
  have hq2 : rfE N E ≤ 310 := by omega
  have hm0 : (((rfM N : Nat) : Int) == 0) = false := bq (by omega)
  have hfb := run_frombits
  clear hc hrf S hV hN hE hp1 hp2 hm X Y
  go_enter Tryz.func251, Tryz.ntmps251
  go_wp2_with fail
  refine HS.out.mono ?_
  rintro e w' ⟨rfl, rfl⟩
  go_wp2_with fail
  refine HR.out.mono ?_
  rintro e w' ⟨rfl, q, rfl⟩
  have hB := bool2_u64
  have HB := hide hB
  clear hB
  go_wp2_with fail
  refine (HB.out _).mono ?_
  rintro e w' ⟨rfl, rfl⟩
  go_wp2_with fail
  refine (HX.out q).mono ?_
  rintro e w' ⟨⟨f, ok, rfl, hok⟩, rfl⟩
  cases ok with
  | true =>
    obtain ⟨hd1, hd2⟩ := hok rfl
    have Hd1 := hide hd1
    have Hd2 := hide hd2
    clear hd1 hd2 hok
    go_wp2
    go_ret3
    refine ⟨f, ?_, HD.out _ Hd1.out, below_drewN (Below.refl _ _) _⟩
    rw [errV_fin Hd2.out]
    rfl
  | false =>
    clear hok
    go_wp2_with fail
    refine (HY.out q).mono ?_
    rintro e w' ⟨W, rfl, hd, hb⟩
    rw [pfV_eq]
    have Hd := hide hd
    have Hb := hide hb
    clear hd hb
    go_wp2
    go_ret3
    exact ⟨W, rfl, HD.out _ Hd.out, (below_drewN (Below.refl _ _) _).trans Hb.out⟩
end Go.Proofs.YtmndipnifjpdjaaGreatDoor
namespace Go.Proofs.YtmndipnifjpdjaaGreatDoor
open Go Go.RowKit
set_option linter.unusedVariables false
theorem zero114 : Tryz.zeroCells248 = (List.replicate 800 (Value.int .u8 0) ++ [Value.int .i64 0, Value.int .i64 0, Value.bool false, Value.bool false]).toArray := by kernel_rfl
theorem word_parts {W : Nat} (h : W < infW) : ∃ k q, W = k * 4503599627370496 + q ∧ q < 9007199254740992 ∧ (k = 0 ∨ 4503599627370496 ≤ q) := by
  by_cases c : W < 4503599627370496
  · exact ⟨0, W, by omega, by omega, .inl rfl⟩
  · have h1 := Nat.div_add_mod W 4503599627370496
    have h2 := Nat.mod_lt W (show 0 < 4503599627370496 by omega)
    have h3 : 1 ≤ W / 4503599627370496 := (Nat.one_le_div_iff (by omega)).2 (by omega)
    refine ⟨W / 4503599627370496 - 1, 4503599627370496 + W % 4503599627370496, ?_, by omega, .inr (by omega)⟩
    generalize W / 4503599627370496 = a at *
    generalize W % 4503599627370496 = b at *
    omega
theorem shl_eq {q q' k k' : Nat} (hq : q < 9007199254740992) (hq' : q' < 9007199254740992) (hk : k = 0 ∨ 4503599627370496 ≤ q) (hk' : k' = 0 ∨ 4503599627370496 ≤ q') (hle : k ≤ k') (h : q = q' * 2 ^ (k' - k)) : q = q' ∧ k = k' := by
  by_cases e : k = k'
  · subst e
    rw [Nat.sub_self, Nat.pow_zero, Nat.mul_one] at h
    exact ⟨h, rfl⟩
  · exfalso
    have h1 : 2 ^ 1 ≤ 2 ^ (k' - k) := Nat.pow_le_pow_right (by omega) (by omega)
    have h2 : 4503599627370496 ≤ q' := by omega
    have h3 := Nat.mul_le_mul h2 h1
    omega
theorem order_num {q q' k k' : Nat} (h : Ieee.Datum.order (.number false q ((k : Int) - 1074)) (.number false q' ((k' : Int) - 1074)) = some .eq) : (k ≤ k' → q = q' * 2 ^ (k' - k)) ∧ (k' ≤ k → q' = q * 2 ^ (k - k')) := by
  have h1 : compare (Ieee.signed false q (((k : Int) - 1074) - min ((k : Int) - 1074) ((k' : Int) - 1074)).toNat) (Ieee.signed false q' (((k' : Int) - 1074) - min ((k : Int) - 1074) ((k' : Int) - 1074)).toNat) = .eq := by
    have := h
    unfold Ieee.Datum.order at this
    exact Option.some.inj this
  have h2 := Int.compare_eq_eq.1 h1
  obtain ⟨a, ha⟩ : ∃ a, a = (((k : Int) - 1074) - min ((k : Int) - 1074) ((k' : Int) - 1074)).toNat := ⟨_, rfl⟩
  obtain ⟨c, hc⟩ : ∃ c, c = (((k' : Int) - 1074) - min ((k : Int) - 1074) ((k' : Int) - 1074)).toNat := ⟨_, rfl⟩
  rw [← ha, ← hc] at h2
  clear h h1
  have h3 : q * 2 ^ a = q' * 2 ^ c := by
    unfold Ieee.signed at h2
    rw [if_neg (by decide), if_neg (by decide), Nat.shiftLeft_eq, Nat.shiftLeft_eq] at h2
    exact Int.ofNat.inj h2
  clear h2
  constructor
  · intro hle
    have e1 : a = 0 := by omega
    have e2 : c = k' - k := by omega
    rw [e1, e2, Nat.pow_zero, Nat.mul_one] at h3
    exact h3
  · intro hle
    have e1 : a = k - k' := by omega
    have e2 : c = 0 := by omega
    rw [e1, e2, Nat.pow_zero, Nat.mul_one] at h3
    exact h3.symm
theorem rep_get {v : Value} {L : List Value} {n k : Nat} (h : k < n) : ((List.replicate n v ++ L).toArray)[k]? = some v := by
  rw [List.getElem?_toArray, List.getElem?_append_left (by rw [List.length_replicate]; exact h), List.getElem?_replicate, if_pos h]
theorem rep_get2 {v : Value} {L : List Value} {n k j : Nat} (h : k = n + j) : ((List.replicate n v ++ L).toArray)[k]? = L[j]? := by
  rw [List.getElem?_toArray, List.getElem?_append_right (by rw [List.length_replicate]; omega), List.length_replicate, h, Nat.add_sub_cancel_left]
theorem read_inf : Ieee.double.read infW = .infinity false := by decide +kernel
theorem words_eq {W W' : Nat} (hW : W ≤ infW) (hW' : W' ≤ infW) (h : Ieee.double.order W W' = some .eq) : W = W' := by
  unfold Ieee.Format.order at h
  by_cases c : W = infW
  · by_cases c' : W' = infW
    · rw [c, c']
    · exfalso
      obtain ⟨k, q, e, h1, h2⟩ := word_parts (W := W') (by omega)
      rw [c, read_inf, e, read_word h1 h2 (by omega)] at h
      simp [Ieee.Datum.order] at h
  · obtain ⟨k, q, e, h1, h2⟩ := word_parts (W := W) (by omega)
    by_cases c' : W' = infW
    · exfalso
      rw [c', read_inf, e, read_word h1 h2 (by omega)] at h
      simp [Ieee.Datum.order] at h
    · obtain ⟨k', q', e', h1', h2'⟩ := word_parts (W := W') (by omega)
      rw [e, e', read_word h1 h2 (by omega), read_word h1' h2' (by omega)] at h
      obtain ⟨g1, g2⟩ := order_num h
      rcases Nat.le_total k k' with hl | hl
      · obtain ⟨rfl, rfl⟩ := shl_eq h1 h1' h2 h2' hl (g1 hl)
        rw [e, e']
      · obtain ⟨rfl, rfl⟩ := shl_eq h1' h1 h2' h2 hl (g2 hl)
        rw [e, e']
theorem isRnd_le {N d W : Nat} (h : IsRnd N d W) : W ≤ infW := by
  obtain ⟨k, _, _, h3⟩ := h
  rw [h3]; exact Nat.min_le_right _ _
theorem dec_new (w : World) : DecAt (w.alloc (.cells Tryz.zeroCells248 248)) w.heap.size (fun _ => 0) ((0 : Nat) : Int) 0 false := by
  have hc : ∀ k v, Tryz.zeroCells248[k]? = some v → (w.alloc (.cells Tryz.zeroCells248 248)).cell? ⟨w.heap.size, k, none⟩ = some v := by
    intro k v h
    rw [World.cell?_alloc_at _ _ _ _ rfl]; exact h
  refine ⟨by simp, fun k => by simp, fun k hk => hc _ _ ?_, hc _ _ ?_, hc _ _ ?_, hc _ _ ?_, hc _ _ ?_⟩
  · rw [zero114]; exact rep_get hk
  · rw [zero114]; exact rep_get2 (j := 0) rfl
  · rw [zero114]; exact rep_get2 (j := 1) rfl
  · rw [zero114]; exact rep_get2 (j := 2) rfl
  · rw [zero114]; exact rep_get2 (j := 3) rfl
end Go.Proofs.YtmndipnifjpdjaaGreatDoor
namespace Go.Proofs.YtmndipnifjpdjaaGreatDoor
open Go Go.RowKit
set_option linter.unusedVariables false
theorem Vars.info {w w' : World} {G o P po C co g : Nat} (h : Vars w G o P po C co) (hb : Below w.heap.size w w') (hg : w.heap.size ≤ g) : FInfo w' g P po C co := by
  have h12 := h.h12
  have hP := h.hP
  have hC := h.cheats.hG
  have hCb := h.cheats.below hb h.h12 hC
  exact ⟨by omega, by omega, by omega, (hb.cell (by show 13 < w.heap.size; omega)).trans h.tabs.mant, (hb.cell (by show 13 < w.heap.size; omega)).trans h.expb, (hb.cell (by show 13 < w.heap.size; omega)).trans h.bias, (hb.cell (by show 17 < w.heap.size; omega)).trans h.slice,
    fun k hk => (hb.cell h.hP).trans (h.tab k hk), hCb⟩
theorem Txt.len {s : ByteArray} {k b p : Nat} {ds : List Int} {x : Int} (h : Txt s k ds b p x) : size10 (dval ds) ≤ 100 := by
  have h1 := (dscan_len ((bs s).take k)).1
  rw [h.scan, List.length_take, bs_length] at h1
  have h2 := dscan_digits (l := (bs s).take k) (by
    intro c hc
    obtain ⟨j, hj, rfl⟩ := List.getElem_of_mem hc
    rw [List.length_take, bs_length] at hj
    have := h.dp j (by omega)
    rw [List.getElem_take]
    rw [List.getD_eq_getElem?_getD, List.getElem?_eq_getElem (by rw [bs_length]; omega)] at this
    exact this)
  rw [h.scan] at h2
  have h3 := size10_le_length ds h2
  have h4 := h.hs
  have h5 : ds.length ≤ min k s.size := h1
  omega
set_option maxHeartbeats 3200000 in
set_option maxRecDepth 100000 in
theorem at_long (N G o P po C co k b p : Nat) (ds : List Int) (x E : Int) (s : ByteArray) (w : World) (hT : Txt s k ds b p x) (hNd : N = dval ds) (hEd : E = x - b) (h0 : 0 < s.size) (hs : s.size ≤ 100) (hc : ((s[0].toNat : Nat) : Int) = 46 ∨ (48 ≤ ((s[0].toNat : Nat) : Int) ∧ ((s[0].toNat : Nat) : Int) ≤ 57)) (hrf : Calls Tryz.prog 274 #[.string s] w fun e w' => RFR N E s w e w')
    (hV : Vars w G o P po C co) (hN : N ≠ 0) (hp1 : -345 ≤ E + rfC N) (hp2 : E + rfC N ≤ 310) (ht : rfT N = true) :
    Calls Tryz.prog 251 #[.string s] w fun e w' => AtR N E s w e w' := by
  have hlen := hT.len
  rw [← hNd] at hlen
  have hN100 : N < 10 ^ 100 := Nat.lt_of_lt_of_le (size10_lt N) (Nat.pow_le_pow_right (by omega) hlen)
  have hEb : -430 ≤ E ∧ E ≤ 1000 := by
    have h1 : rfC N ≤ 81 := by unfold rfC; omega
    omega
  have T := fun (w' : World) (D0 : Nat → Int) (g : Nat) (h : DecAt w' g D0 ((0 : Nat) : Int) 0 false) => set_any s k b p g ds x D0 w' hT h
  have HT := hide T
  have Hn := hide (show N ≠ 0 ∧ N < 10 ^ 100 ∧ -430 ≤ E ∧ E ≤ 1000 ∧ N = dval ds ∧ E = x - b from ⟨hN, hN100, hEb.1, hEb.2, hNd, hEd⟩)
  clear T hlen hN100 hEb hNd hEd
  have ho := hV.opt
  have HV := hide hV
  have S := special_any s w h0 hc
  have HS := hide S
  have HR := hide hrf
  have hm : rfM N ≠ 0 := fun h => hN (rfM_zero h)
  have hE : rfE N E = E + rfC N := by unfold rfE; rw [if_neg hm]
  have hml := rfM_lt N
  have Y := fun (q : Nat) => pf64_any (rfM N) (rfE N E) (w.drewN q) hm (by omega) (by omega) (by omega) hV.tabs.size (hV.tabs.rows0 _ (by omega)) (hV.tabs.rows1 _ (by omega))
  have Z := fun (w' : World) (hb : Below w.heap.size w w') => pf64_any (rfM N + 1) (rfE N E) w' (by omega) (by omega) (by omega) (by omega) (Nat.lt_of_lt_of_le hV.tabs.size hb.size)
    ((hb.cell (show 14 < w.heap.size from hV.tabs.size)).trans (hV.tabs.rows0 _ (by omega))) ((hb.cell (show 14 < w.heap.size from hV.tabs.size)).trans (hV.tabs.rows1 _ (by omega)))
  have HY := hide Y
  have HZ := hide Z
  have HD : Hid (∀ W, DecRnd (rfM N) (rfE N E) W → DecRnd (rfM N + 1) (rfE N E) W → DecRnd N E W) := hide (fun W h h' => rf_same (by rw [← hE]; exact h) (by rw [← hE]; exact h'))
  have hq1 : -345 ≤ rfE N E := by omega
  have hq2 : rfE N E ≤ 310 := by omega
  have hm0 : (((rfM N : Nat) : Int) == 0) = false := bq (by omega)
  have hm1 : IntKind.u64.wrap (((rfM N : Nat) : Int) + 1) = ((rfM N + 1 : Nat) : Int) := by rw [u64_id (by omega) (by omega)]; omega
  have hfb := run_frombits
  have hB := bool2_u64
  have HB := hide hB
  clear hT hc hrf S hV hN hE hp1 hp2 hm Y Z hB hml
  go_enter Tryz.func251, Tryz.ntmps251
  go_wp2_with fail
  refine HS.out.mono ?_
  rintro e w' ⟨rfl, rfl⟩
  go_wp2_with fail
  refine HR.out.mono ?_
  rintro e w' ⟨rfl, q, rfl⟩
  go_wp2_with fail
  refine (HB.out _).mono ?_
  rintro e w' ⟨rfl, rfl⟩
  go_wp2_with fail
  refine (HY.out q).mono ?_
  rintro e w1 ⟨W, rfl, hd, hb⟩
  rw [pfV_eq]
  have Hd := hide hd
  have hb1 := (below_drewN (Below.refl _ _) q).trans hb
  have Hb := hide hb1
  clear hd hb hb1
  go_wp2_with fail
  refine (HZ.out _ Hb.out).mono ?_
  rintro e w2 ⟨W', rfl, hd, hb⟩
  rw [pfV_eq]
  have Hd' := hide hd
  have hb2 := Hb.out.trans (hb.mono Hb.out.size)
  have Hb2 := hide hb2
  clear hd hb hb2
  cases hcmp : (FloatKind.f64.format.order W W' == some Ordering.eq) with
  | true =>
    have hWW : W = W' := words_eq (isRnd_le Hd.out) (isRnd_le Hd'.out) (eq_of_beq hcmp)
    have HWW := hide hWW
    clear hWW
    go_wp2_with fail
    go_ret3
    exact ⟨W, rfl, HD.out W Hd.out (by rw [HWW.out]; exact Hd'.out), Hb2.out⟩
  | false =>
    go_wp2_with fail
    refine (HT.out _ _ _ (dec_new w2)).mono ?_
    rintro e w3 ⟨rfl, D, nd, dp, hd, ⟨g1, g2, g3, g4, g5⟩, hb3⟩
    obtain ⟨n1, n2, n3, n4, n5, n6⟩ := Hn.out
    have hb4 : Below w'.heap.size w' w3 := (Hb2.out.alloc (Nat.le_trans (Nat.le_refl _) Hb2.out.size) _).trans (hb3.mono Hb2.out.size)
    have hlen : nd ≤ 800 := by
      have := pow10_lt (Nat.lt_of_le_of_lt (size10_ge n1) n2)
      rw [← n5] at g2
      omega
    have F := floatBits_any N w2.heap.size P po C co nd E dp D w3 hd (HV.out.info hb4 Hb2.out.size) n1 n2 (by rw [g1, n5]) (by rw [g2, n5]) ⟨g3, hlen, g4⟩ (by omega) n3 n4
    have HF := hide F
    have Hb4 := hide hb4
    clear F hb4 hb3 hd g1 g2 g3 g4 g5 n1 n2 n3 n4 n5 n6 hlen
    go_wp2_with fail
    refine (HF.out).mono ?_
    rintro e w5 ⟨V, rfl, hr, hb5⟩
    have Hr := hide hr
    have hb6 := Hb4.out.trans (hb5.mono Hb2.out.size)
    have Hb6 := hide hb6
    clear hr hb5 hb6
    have hVn : (V : Int).toNat = V := by omega
    by_cases hV : V = infW
    · have hVd : decide (V = infW) = true := decide_eq_true hV
      have HVi := hide hV
      clear hV
      go_wp2_with fail
      go_ret3
      refine ⟨V, ?_, Hr.out, Hb6.out⟩
      rw [HVi.out, errV_inf]
      rfl
    · have hVd : decide (V = infW) = false := decide_eq_false hV
      have HVi := hide hV
      clear hV
      go_wp2_with fail
      go_ret3
      refine ⟨V, ?_, Hr.out, Hb6.out⟩
      rw [errV_fin HVi.out]
      rfl
end Go.Proofs.YtmndipnifjpdjaaGreatDoor
namespace Go.Proofs.YtmndipnifjpdjaaGreatDoor
open Go Go.RowKit
set_option linter.unusedVariables false
set_option maxHeartbeats 800000 in
set_option maxRecDepth 100000 in
theorem pfp_any (N : Nat) (E : Int) (s : ByteArray) (w : World) (h : Calls Tryz.prog 251 #[.string s] w fun e w' => AtR N E s w e w') :
    Calls Tryz.prog 229 #[.string s, .int .i64 64] w fun e w' => AtR N E s w e w' := by
  have H := hide h
  clear h
  go_enter Tryz.func229, Tryz.ntmps229
  go_wp2_with fail
  refine H.out.mono ?_
  rintro e w' ⟨W, rfl, hd, hb⟩
  have Hd := hide hd
  have Hb := hide hb
  clear hd hb
  go_wp2
  go_ret3
  exact ⟨W, rfl, Hd.out, Hb.out⟩
def PfR (N : Nat) (E : Int) (w : World) (e : Ending) (w' : World) : Prop :=
  ∃ W, e = .returned (.tuple #[.float .f64 W, errV W]) ∧ DecRnd N E W ∧ Below w.heap.size w w'
set_option maxHeartbeats 800000 in
set_option maxRecDepth 100000 in
theorem ipf_any (N : Nat) (E : Int) (s : ByteArray) (w : World) (h : Calls Tryz.prog 251 #[.string s] w fun e w' => AtR N E s w e w') :
    Calls Tryz.prog 193 #[.string s, .int .i64 64] w fun e w' => PfR N E w e w' := by
  have h' := pfp_any N E s w h
  have H := hide h'
  clear h h'
  go_enter Tryz.func193, Tryz.ntmps193
  go_wp2_with fail
  refine H.out.mono ?_
  rintro e w' ⟨W, rfl, hd, hb⟩
  have Hd := hide hd
  have Hb := hide hb
  clear hd hb
  go_wp2
  go_ret2
  exact ⟨W, rfl, Hd.out, Hb.out⟩
def SpfR (N : Nat) (E : Int) (w : World) (e : Ending) (w' : World) : Prop :=
  ∃ W, DecRnd N E W ∧ Below w.heap.size w w' ∧ ((W ≠ infW ∧ e = .returned (.tuple #[.float .f64 W, .nilIface])) ∨ (W = infW ∧ ∃ B, e = .returned (.tuple #[.float .f64 W, .iface 204 (.pointer (some ⟨B, 0, none⟩))])))
set_option maxHeartbeats 1600000 in
set_option maxRecDepth 100000 in
theorem spf_any (N : Nat) (E : Int) (s : ByteArray) (w : World) (ev : Value) (hs : s.size ≤ 100) (h2 : 6 < w.heap.size) (hev : w.cell? ⟨6, 0, none⟩ = some ev) (hev2 : ev = .nilIface ∨ ∃ te pe, ev = .iface te pe) (h : Calls Tryz.prog 251 #[.string s] w fun e w' => AtR N E s w e w') :
    Calls Tryz.prog 157 #[.string s, .int .i64 64] w fun e w' => SpfR N E w e w' := by
  have h' := ipf_any N E s w h
  have H := hide h'
  have T := fun (w' : World) (hb : Below w.heap.size w w') => Tryz.strconv_toError_range ⟨#[80, 97, 114, 115, 101, 70, 108, 111, 97, 116]⟩ s 0 64 ev w' (by omega) ((hb.cell (show 6 < w.heap.size from h2)).trans hev) hev2
  have HT := hide T
  clear h h' T hev hev2
  go_enter Tryz.func157, Tryz.ntmps157
  go_wp2_with fail
  refine H.out.mono ?_
  rintro e w' ⟨W, rfl, hd, hb⟩
  have Hd := hide hd
  have Hb := hide hb
  clear hd hb
  by_cases hW : W = infW
  · have hV : errV W = .iface 201 (.int .i64 1) := by rw [hW, errV_inf]
    have HW := hide hW
    clear hW
    rw [hV]
    clear hV
    go_wp2_with fail
    refine (HT.out _ Hb.out).mono ?_
    rintro e w3 ⟨B, rfl, h3, h4, hb3⟩
    have Hb3 := hide hb3
    clear h3 h4 hb3
    go_wp2
    go_ret2
    exact ⟨W, Hd.out, Hb.out.trans (Hb3.out.mono Hb.out.size), .inr ⟨HW.out, B, rfl⟩⟩
  · have hV : errV W = .nilIface := errV_fin hW
    have HW := hide hW
    clear hW
    rw [hV]
    clear hV
    go_wp2
    go_ret2
    exact ⟨W, Hd.out, Hb.out, .inl ⟨HW.out, rfl⟩⟩
end Go.Proofs.YtmndipnifjpdjaaGreatDoor
namespace Go.Proofs.YtmndipnifjpdjaaGreatDoor
open Go Go.RowKit
set_option linter.unusedVariables false
theorem rf_any (s : ByteArray) (k b p : Nat) (ds : List Int) (x : Int) (w : World) (hT : Txt s k ds b p x) :
    Calls Tryz.prog 274 #[.string s] w fun e w' => RFR (dval ds) (x - b) s w e w' := by
  have hk0 := hT.k0
  have hk := hT.hk
  have h0 : 0 < s.size := by omega
  by_cases h2 : s.size ≤ 2
  · exact rf_a s k b p ds x w hT h0 h2
  · by_cases h48 : ((s[0].toNat : Nat) : Int) = 48
    · exact rf_c s k b p ds x w hT h0 (by omega) h48
    · exact rf_b s k b p ds x w hT h0 (by omega) h48
theorem at_any (s : ByteArray) (k b p G o P po C co : Nat) (ds : List Int) (x : Int) (w : World) (hT : Txt s k ds b p x) (hV : Vars w G o P po C co) :
    Calls Tryz.prog 251 #[.string s] w fun e w' => AtR (dval ds) (x - b) s w e w' := by
  have hk0 := hT.k0
  have hk := hT.hk
  have hs := hT.hs
  have h0 : 0 < s.size := by omega
  have hc := dp_at hT (i := 0) (by omega) h0
  have hrf := rf_any s k b p ds x w hT
  by_cases hN : dval ds = 0
  · exact at_zero _ G o P po C co _ s w h0 hs hc hrf hV hN
  · by_cases h1 : 310 < x - b + rfC (dval ds)
    · exact at_over _ G o P po C co _ s w h0 hs hc hrf hV hN h1
    · by_cases h2 : x - b + rfC (dval ds) < -345
      · exact at_under _ G o P po C co _ s w h0 hs hc hrf hV hN h2
      · cases ht : rfT (dval ds) with
        | false => exact at_short _ G o P po C co _ s w h0 hs hc hrf hV hN (by omega) (by omega) ht
        | true => exact at_long _ G o P po C co k b p ds x _ s w hT rfl rfl h0 hs hc hrf hV hN (by omega) (by omega) ht
def dfold (acc : Nat) (l : List UInt8) : Nat := l.foldl (fun a c => a * 10 + (c.toNat - 48)) acc
theorem dfold_ge (l : List UInt8) : ∀ acc, acc ≤ dfold acc l := by
  induction l with
  | nil => intro acc; exact Nat.le_refl _
  | cons c l ih =>
    intro acc
    refine Nat.le_trans ?_ (ih (acc * 10 + (c.toNat - 48)))
    omega
theorem uintM_dig {M : Nat} (hM : M = 18446744073709551615) (l : List UInt8) : ∀ acc, acc ≤ M → (∀ c ∈ l, 48 ≤ c.toNat ∧ c.toNat ≤ 57) → Lib.parseUintM M acc l = if dfold acc l ≤ M then .ok (dfold acc l) else .range := by
  induction l with
  | nil => intro acc ha _; rw [Lib.parseUintM]; show _ = if acc ≤ M then _ else _; rw [if_pos ha]; rfl
  | cons c l ih =>
    intro acc ha hd
    have hc := hd c (List.mem_cons_self)
    have hl : ∀ c ∈ l, 48 ≤ c.toNat ∧ c.toNat ≤ 57 := fun c' h => hd c' (List.mem_cons_of_mem _ h)
    have hge := dfold_ge l (acc * 10 + (c.toNat - 48))
    have e : dfold acc (c :: l) = dfold (acc * 10 + (c.toNat - 48)) l := rfl
    rw [Lib.parseUintM, if_pos hc, e]
    by_cases h1 : 1844674407370955162 ≤ acc
    · rw [if_pos h1, if_neg (by omega)]
    · rw [if_neg h1]
      by_cases h2 : M < acc * 10 + (c.toNat - 48)
      · rw [if_pos h2, if_neg (by omega)]
      · rw [if_neg h2]
        exact ih _ (by omega) hl
theorem dval_dfold (s : ByteArray) (h : ∀ c ∈ s.data.toList, 48 ≤ c.toNat ∧ c.toNat ≤ 57) : dval (bs s) = dfold 0 s.data.toList := by
  unfold dval bs dfold
  have key : ∀ (l : List UInt8) (acc : Nat), (∀ c ∈ l, 48 ≤ c.toNat ∧ c.toNat ≤ 57) → (l.map fun b => ((b.toNat : Nat) : Int)).foldl (fun a c => a * 10 + (c - 48).toNat) acc = l.foldl (fun a c => a * 10 + (c.toNat - 48)) acc := by
    intro l
    induction l with
    | nil => intro acc _; rfl
    | cons c l ih =>
      intro acc hd
      have hc := hd c (List.mem_cons_self)
      show (l.map _).foldl _ (acc * 10 + (((c.toNat : Nat) : Int) - 48).toNat) = l.foldl _ (acc * 10 + (c.toNat - 48))
      rw [show (((c.toNat : Nat) : Int) - 48).toNat = c.toNat - 48 by omega]
      exact ih _ (fun c' h => hd c' (List.mem_cons_of_mem _ h))
  exact key _ _ h
theorem parseInt_dig (s : ByteArray) (h0 : 0 < s.size) (h : allDig (bs s) = true) :
    (dval (bs s) < 9223372036854775808 → Lib.parseIntB 64 s.data.toList = .ok (dval (bs s) : Int)) ∧ (¬ dval (bs s) < 9223372036854775808 → Lib.parseIntB 64 s.data.toList = .range) := by
  have hd : ∀ c ∈ s.data.toList, 48 ≤ c.toNat ∧ c.toNat ≤ 57 := by
    intro c hc
    unfold allDig at h
    rw [List.all_eq_true] at h
    have := h ((c.toNat : Nat) : Int) (List.mem_map.2 ⟨c, hc, rfl⟩)
    unfold isDigI at this
    rw [decide_eq_true_eq] at this
    omega
  have hv := dval_dfold s hd
  have hne : s.data.toList ≠ [] := by
    intro e
    have : s.size = 0 := by show s.data.size = 0; rw [← Array.length_toList, e]; rfl
    omega
  obtain ⟨c, r, hcr⟩ := List.exists_cons_of_ne_nil hne
  have hc := hd c (by rw [hcr]; exact List.mem_cons_self)
  have hu : Lib.parseUintB 64 s.data.toList = if dval (bs s) ≤ 18446744073709551615 then .ok (dval (bs s)) else .range := by
    unfold Lib.parseUintB
    rw [if_neg hne, hv]
    exact uintM_dig (M := 2 ^ 64 - 1) (by decide) _ 0 (Nat.zero_le _) hd
  have hp : Lib.parseIntB 64 s.data.toList = Lib.signlessC 9223372036854775808 (Lib.parseUintB 64 s.data.toList) := by
    have := Lib.parseIntB_plain 64 c r (by omega) (by omega)
    rw [← hcr] at this
    exact this
  rw [hp, hu]
  constructor
  · intro hlt
    rw [if_pos (by omega)]
    show (if 9223372036854775808 ≤ dval (bs s) then _ else _) = _
    rw [if_neg (by omega)]
  · intro hge
    split
    · show (if 9223372036854775808 ≤ dval (bs s) then _ else _) = _
      rw [if_pos (by omega)]
    · rfl
theorem order_self {W : Nat} (h : W < infW) : Ieee.double.order W W = some .eq := by
  obtain ⟨k, q, e, h1, h2⟩ := word_parts h
  unfold Ieee.Format.order
  rw [e, read_word h1 h2 (by omega)]
  unfold Ieee.Datum.order
  simp only [Option.some.injEq]
  exact Int.compare_eq_eq.2 rfl
end Go.Proofs.YtmndipnifjpdjaaGreatDoor
