import Derived.Test.YtmndipnifjpdjaaGreatDoorRows
import Derived.WalkKit
import Derived.ProofKit
import Derived.OpenShut
import Derived.Deep.QuietTactic
import Derived.BigQuiet
import Derived.WalkSmall
namespace Go.Proofs.YtmndipnifjpdjaaGreatDoor
open Go Go.RowKit
set_option linter.unusedVariables false
theorem hide {p : Prop} (h : p) : Hid p := h
def isDig (c : Int) : Bool := decide (48 ≤ c ∧ c ≤ 57)
theorem digit_any (c : Int) (w : World) (h0 : 0 ≤ c) (h1 : c < 256) :
    Calls Tryz.prog 34 #[.int .u8 c] w fun e w' => e = .returned (.bool (isDig c)) ∧ w' = w := by
  go_enter Tryz.func34, Tryz.ntmps34
  go_wp2
  all_goals go_ret
  all_goals refine ⟨?_, rfl⟩
  all_goals (simp [isDig]; try omega)
def hexVal (c : Int) : Int :=
  if 48 ≤ c ∧ c ≤ 57 then c - 48 else if 97 ≤ c ∧ c ≤ 102 then c - 87 else if 65 ≤ c ∧ c ≤ 70 then c - 55 else -1
theorem ret_int {k : IntKind} {a b : Int} (h : a = b) : Ending.returned (.int k a) = .returned (.int k b) := by rw [h]
theorem isDig_t {c : Int} (h : 48 ≤ c ∧ c ≤ 57) : isDig c = true := by simp [isDig, h]
theorem isDig_f {c : Int} (h : ¬ (48 ≤ c ∧ c ≤ 57)) : isDig c = false := by simp [isDig]; omega
theorem hexDigit_any (c : Int) (w : World) (h0 : 0 ≤ c) (h1 : c < 256) :
    Calls Tryz.prog 93 #[.int .u8 c] w fun e w' => e = .returned (.int .i64 (hexVal c)) ∧ w' = w := by
  by_cases hd : 48 ≤ c ∧ c ≤ 57
  · have hd' := isDig_t hd
    go_enter Tryz.func93, Tryz.ntmps93
    go_wp2_with (go_at_call 34; refine (digit_any _ _ h0 h1).mono ?_; rintro e w' ⟨rfl, rfl⟩)
    all_goals go_ret
    all_goals refine ⟨ret_int ?_, rfl⟩
    all_goals (unfold hexVal; split <;> omega)
  · have hd' := isDig_f hd
    go_enter Tryz.func93, Tryz.ntmps93
    go_wp2_with (go_at_call 34; refine (digit_any _ _ h0 h1).mono ?_; rintro e w' ⟨rfl, rfl⟩)
    all_goals go_ret
    all_goals refine ⟨ret_int ?_, rfl⟩
    all_goals (unfold hexVal; rw [if_neg hd]; repeat (first | omega | split))
end Go.Proofs.YtmndipnifjpdjaaGreatDoor
namespace Go.Proofs.YtmndipnifjpdjaaGreatDoor
def dig (n : Nat) : List Int := if h : n = 0 then [] else ((n % 10000 : Nat) : Int) :: dig (n / 10000)
termination_by n
decreasing_by omega
def nval : List Int → Nat
  | [] => 0
  | d :: r => d.toNat + 10000 * nval r
def OkD (l : List Int) : Prop := ∀ d ∈ l, 0 ≤ d ∧ d < 10000
theorem dig_zero : dig 0 = [] := by rw [dig]; simp
theorem dig_pos {n : Nat} (h : n ≠ 0) : dig n = ((n % 10000 : Nat) : Int) :: dig (n / 10000) := by rw [dig]; simp [h]
theorem dig_ok (n : Nat) : OkD (dig n) := by
  induction n using Nat.strongRecOn with
  | ind n ih =>
    by_cases h : n = 0
    · subst h; rw [dig_zero]; intro d hd; cases hd
    · rw [dig_pos h]
      intro d hd
      rcases List.mem_cons.1 hd with rfl | hd
      · omega
      · exact ih (n / 10000) (by omega) d hd
theorem nval_dig (n : Nat) : nval (dig n) = n := by
  induction n using Nat.strongRecOn with
  | ind n ih =>
    by_cases h : n = 0
    · subst h; rw [dig_zero]; rfl
    · rw [dig_pos h]
      simp only [nval]
      rw [ih (n / 10000) (by omega)]
      omega
theorem nval_append (a b : List Int) : nval (a ++ b) = nval a + 10000 ^ a.length * nval b := by
  induction a with
  | nil => simp [nval]
  | cons d r ih => simp only [List.cons_append, nval, ih, List.length_cons, Nat.pow_succ]; grind
theorem nval_lt {l : List Int} (h : OkD l) : nval l < 10000 ^ l.length := by
  induction l with
  | nil => simp [nval]
  | cons d r ih =>
    have h1 := h d (by simp)
    have h2 := ih (fun x hx => h x (by simp [hx]))
    simp only [nval, List.length_cons, Nat.pow_succ]
    omega
theorem dig_nval {l : List Int} (h : OkD l) (ht : l = [] ∨ l.getLastD 1 ≠ 0) : dig (nval l) = l := by
  induction l with
  | nil => simp [nval, dig_zero]
  | cons d r ih =>
    have h1 := h d (by simp)
    have h2 : OkD r := fun x hx => h x (by simp [hx])
    have ht' : r = [] ∨ r.getLastD 1 ≠ 0 := by
      cases r with
      | nil => left; rfl
      | cons e s => right; rcases ht with ht | ht <;> simp_all
    have ih' := ih h2 ht'
    have hne : nval (d :: r) ≠ 0 := by
      simp only [nval]
      cases r with
      | nil => rcases ht with ht | ht <;> simp_all [nval]; omega
      | cons e s =>
        intro hz
        have : nval (e :: s) = 0 := by omega
        rw [this, dig_zero] at ih'
        cases ih'
    rw [dig_pos hne]
    simp only [nval]
    have e1 : (d.toNat + 10000 * nval r) / 10000 = nval r := by omega
    have e2 : (d.toNat + 10000 * nval r) % 10000 = d.toNat := by omega
    rw [e1, e2, ih']
    congr 1
    omega
theorem dig_length_le {n k : Nat} (h : n < 10000 ^ k) : (dig n).length ≤ k := by
  induction k generalizing n with
  | zero => have : n = 0 := by simpa using h
            subst this; rw [dig_zero]; simp
  | succ k ih =>
    by_cases hn : n = 0
    · subst hn; rw [dig_zero]; simp
    · rw [dig_pos hn, List.length_cons]
      have : n / 10000 < 10000 ^ k := by rw [Nat.pow_succ] at h; omega
      have := ih this
      omega
theorem dig_lt (n : Nat) : n < 10000 ^ (dig n).length := by
  have := nval_lt (dig_ok n); rwa [nval_dig] at this
theorem dig_getD (n j : Nat) : (dig n).getD j 0 = ((n / 10000 ^ j % 10000 : Nat) : Int) := by
  induction j generalizing n with
  | zero =>
    by_cases h : n = 0
    · subst h; rw [dig_zero]; simp
    · rw [dig_pos h]; simp
  | succ j ih =>
    by_cases h : n = 0
    · subst h; rw [dig_zero]; simp
    · rw [dig_pos h, List.getD_cons_succ, ih, Nat.div_div_eq_div_mul, Nat.pow_succ, Nat.mul_comm]
theorem dig_length_mono {a b : Nat} (h : a ≤ b) : (dig a).length ≤ (dig b).length :=
  dig_length_le (Nat.lt_of_le_of_lt h (dig_lt b))
theorem lt_of_dig_length {a b : Nat} (h : (dig a).length < (dig b).length) : a < b := by
  rcases Nat.lt_or_ge a b with h1 | h1
  · exact h1
  · have := dig_length_mono h1; omega
theorem getD_lt {α : Type} {l : List α} {j : Nat} {d : α} (h : j < l.length) : l.getD j d = l[j] := by
  rw [List.getD_eq_getElem?_getD, List.getElem?_eq_getElem h]; rfl
theorem nval_zeros {l : List Int} (h : ∀ d ∈ l, d = 0) : nval l = 0 := by
  induction l with
  | nil => rfl
  | cons d r ih =>
    simp only [nval]
    rw [ih (fun x hx => h x (by simp [hx])), h d (by simp)]; rfl
theorem take_trim {l : List Int} {k : Nat} (h : OkD l) (hk : k ≤ l.length) (hz : ∀ j, k ≤ j → j < l.length → l.getD j 0 = 0) (ht : k = 0 ∨ l.getD (k - 1) 0 ≠ 0) :
    l.take k = dig (nval l) := by
  have hd : nval (l.drop k) = 0 := by
    refine nval_zeros fun d hd => ?_
    obtain ⟨i, hi, rfl⟩ := List.getElem_of_mem hd
    have hi' : k + i < l.length := by rw [List.length_drop] at hi; omega
    rw [List.getElem_drop]
    have := hz (k + i) (by omega) hi'
    rwa [getD_lt hi'] at this
  have hv : nval l = nval (l.take k) := by
    conv => lhs; rw [← List.take_append_drop k l]
    rw [nval_append, hd]; omega
  rw [hv]
  refine (dig_nval (fun d hd => h d (List.mem_of_mem_take hd)) ?_).symm
  rcases ht with ht | ht
  · left; subst ht; simp
  · by_cases hk0 : k = 0
    · left; subst hk0; simp
    · right
      have hlt : k - 1 < l.length := by omega
      have hne : l.take k ≠ [] := by
        intro e
        rw [List.take_eq_nil_iff] at e
        rcases e with e | e
        · omega
        · subst e; simp at hlt
      rw [List.getLastD_eq_getLast?, List.getLast?_eq_some_getLast hne, Option.getD_some, List.getLast_eq_getElem]
      rw [getD_lt hlt] at ht
      have hmin : min k l.length = k := by omega
      simpa [hmin] using ht
end Go.Proofs.YtmndipnifjpdjaaGreatDoor
namespace Go.Proofs.YtmndipnifjpdjaaGreatDoor
open Go Go.RowKit
set_option linter.unusedVariables false
def Big (w : World) (v : Value) (l : List Int) : Prop :=
  ∃ g cap, v = .slice (some ⟨g, 0, none⟩) l.length cap ∧ l.length ≤ cap ∧ cap ≤ maxLen ∧ g < w.heap.size ∧
    ∀ j, j < l.length → w.cell? ⟨g, j, none⟩ = some (.int .i64 (l.getD j 0))
theorem Big.below {w w' : World} {v : Value} {l : List Int} (h : Big w v l) (hb : Below w.heap.size w w') : Big w' v l := by
  obtain ⟨g, cap, h1, h2, h3, h4, h5⟩ := h
  exact ⟨g, cap, h1, h2, h3, Nat.lt_of_lt_of_le h4 hb.size, fun j hj => (hb.cell (p := ⟨g, j, none⟩) h4).trans (h5 j hj)⟩
theorem trim_end {l : List Int} {k g cap : Nat} {w : World} (hd : OkD l) (hk : k ≤ l.length) (hz : ∀ j, k ≤ j → j < l.length → l.getD j 0 = 0) (ht : k = 0 ∨ l.getD (k - 1) 0 ≠ 0)
    (h2 : l.length ≤ cap) (h3 : cap ≤ 2 ^ 63 - 1) (h4 : g < w.heap.size) (h5 : ∀ j, j < l.length → w.cell? ⟨g, j, none⟩ = some (.int .i64 (l.getD j 0))) :
    Big w (.slice (some ⟨g, 0, none⟩) k cap) (dig (nval l)) := by
  have e := take_trim hd hk hz ht
  have el : (dig (nval l)).length = k := by rw [← e, List.length_take]; omega
  refine ⟨g, cap, by rw [el], by omega, by unfold maxLen; exact h3, h4, fun j hj => ?_⟩
  rw [h5 j (by omega), ← e]
  rw [List.getD_eq_getElem?_getD, List.getD_eq_getElem?_getD, List.getElem?_take_of_lt (by omega)]
set_option maxHeartbeats 400000 in
theorem trim_any (l : List Int) (v : Value) (w : World) (h : Big w v l) (hl : l.length ≤ 1000000000) (hd : OkD l) :
    Calls Tryz.prog 128 #[v] w fun e w' => ∃ v', e = .returned v' ∧ Big w v' (dig (nval l)) ∧ w' = w := by
  obtain ⟨g, cap, rfl, h2, h3, h4, h5⟩ := h
  unfold maxLen at h3
  go_enter Tryz.func128, Tryz.ntmps128
  go_wp2
  go_loop [0] (fun a => ∃ k : Nat, k ≤ l.length ∧ a = .slice (some ⟨g, 0, none⟩) k cap ∧ ∀ j, k ≤ j → j < l.length → l.getD j 0 = 0) (fun a => match a with | .slice _ k _ => k | _ => 0)
  case atStart => exact ⟨l.length, Nat.le_refl _, rfl, fun j h1 h2 => by omega⟩
  case round =>
    obtain ⟨k, hk, rfl, hz⟩ := hrel
    by_cases hk0 : 0 < k
    · have hc := h5 (k - 1) (by omega)
      have hk1 : ((k : Int) - 1).toNat = k - 1 := by omega
      go_wp2
      · have hv : (l[k - 1]?.getD 0 == 0) = true := by assumption
        have hv' : l.getD (k - 1) 0 = 0 := by rw [List.getD_eq_getElem?_getD]; simpa using hv
        go_round
        case rel => exact ⟨k - 1, by omega, rfl, fun j h1 h2 => by
          by_cases e : j = k - 1
          · subst e; exact hv'
          · exact hz j (by omega) h2⟩
        case measure => simp; omega
      · have hv : (l[k - 1]?.getD 0 == 0) = false := by assumption
        have hv' : l.getD (k - 1) 0 ≠ 0 := by rw [List.getD_eq_getElem?_getD]; simpa using hv
        go_ret
        exact ⟨_, rfl, trim_end hd hk hz (.inr hv') h2 h3 h4 h5, rfl⟩
    · go_wp2
      go_ret
      exact ⟨_, rfl, trim_end hd hk hz (.inl (by omega)) h2 h3 h4 h5, rfl⟩
end Go.Proofs.YtmndipnifjpdjaaGreatDoor
namespace Go.Proofs.YtmndipnifjpdjaaGreatDoor
theorem okD_snoc {l : List Int} {d : Int} (h : OkD l) (h0 : 0 ≤ d) (h1 : d < 10000) : OkD (l ++ [d]) := by
  intro x hx
  rcases List.mem_append.1 hx with hx | hx
  · exact h x hx
  · simp at hx; subst hx; exact ⟨h0, h1⟩
theorem mod_pow_succ (n k : Nat) : n % 10000 ^ (k + 1) = n % 10000 ^ k + 10000 ^ k * (n / 10000 ^ k % 10000) := by
  rw [Nat.pow_succ, Nat.mod_mul]
theorem times_step {n m c0 k : Nat} {L : List Int} {c d : Nat} (hL : L.length = k) (hd : n / 10000 ^ k % 10000 = d)
    (h : nval L + 10000 ^ k * c = n % 10000 ^ k * m + c0) :
    nval (L ++ [(((c + d * m) % 10000 : Nat) : Int)]) + 10000 ^ (k + 1) * ((c + d * m) / 10000) = n % 10000 ^ (k + 1) * m + c0 := by
  rw [nval_append, hL, mod_pow_succ, hd]
  simp only [nval, Nat.pow_succ, Int.toNat_natCast]
  have e := Nat.mod_add_div (c + d * m) 10000
  generalize (c + d * m) % 10000 = r at *
  generalize (c + d * m) / 10000 = q at *
  generalize n % 10000 ^ k = x at *
  generalize 10000 ^ k = p at *
  grind
theorem carry_step {N k : Nat} {L : List Int} {c : Nat} (hL : L.length = k) (h : nval L + 10000 ^ k * c = N) :
    nval (L ++ [((c % 10000 : Nat) : Int)]) + 10000 ^ (k + 1) * (c / 10000) = N := by
  rw [nval_append, hL]
  simp only [nval, Nat.pow_succ, Int.toNat_natCast]
  have e := Nat.mod_add_div c 10000
  generalize c % 10000 = r at *
  generalize c / 10000 = q at *
  generalize 10000 ^ k = p at *
  grind
theorem mod_all (n : Nat) : n % 10000 ^ (dig n).length = n := Nat.mod_eq_of_lt (dig_lt n)
end Go.Proofs.YtmndipnifjpdjaaGreatDoor
namespace Go.Proofs.YtmndipnifjpdjaaGreatDoor
open Go Go.RowKit
set_option linter.unusedVariables false
theorem Tryz.info3 : (Tryz.prog.info? 3).map (fun i => (i.zero, i.size, i.bytes)) = some (some (.int .i64 0), 1, 8) := by kernel_rfl
theorem big_of_owns {w : World} {B : Nat} {v : Value} {L : List Int} (h : w.ownsRow B 3 1 v L.length (L.map (Value.int .i64))) (hv : v ≠ .slice none 0 0) : Big w v L := by
  obtain ⟨h1, h2⟩ := h
  rcases h2 with ⟨rfl, _⟩ | ⟨g, cap, cur, rfl, hB, hh, hn, hc, hs, ht⟩
  · exact absurd rfl hv
  · have hown : w.ownsRow B 3 1 (.slice (some ⟨g, 0, none⟩) L.length cap) L.length (L.map (Value.int .i64)) := ⟨h1, .inr ⟨g, cap, cur, rfl, hB, hh, hn, hc, hs, ht⟩⟩
    refine ⟨g, cap, rfl, hn, hc, (hown.lt g rfl).2, fun j hj => ?_⟩
    rw [hown.cellAt j (by omega), List.getElem?_map, List.getElem?_eq_getElem hj, getD_lt hj]; rfl
set_option maxHeartbeats 800000 in
set_option maxRecDepth 100000 in
theorem times_any (n m c0 : Nat) (v : Value) (w : World) (h : Big w v (dig n)) (hl : (dig n).length ≤ 100000) (hm : m ≤ 10000) (hc0 : c0 ≤ 100000000) :
    Calls Tryz.prog 94 #[v, .int .i64 m, .int .i64 c0] w fun e w' => ∃ v', e = .returned v' ∧ Big w' v' (dig (n * m + c0)) ∧ Below w.heap.size w w' := by
  obtain ⟨g, cap, rfl, h2, h3, h4, h5⟩ := h
  unfold maxLen at h3
  obtain ⟨i0, hi, hz0, hz1, hz2⟩ := info_parts Tryz.info3
  generalize hlen : (dig n).length = len at *
  have Hlen := hide hlen
  clear hlen
  go_enter Tryz.func94, Tryz.ntmps94
  go_wp2
  go_loopw [2, 7, 13] (fun c o i wr => ∃ (k cN : Nat) (L : List Int), k ≤ len ∧ i = .int .i64 k ∧ c = .int .i64 cN ∧ cN ≤ 100000000 ∧ L.length = k ∧ wr.ownsRow w.heap.size 3 1 o L.length (L.map (Value.int .i64)) ∧ o ≠ .slice none 0 0 ∧
      OkD L ∧ nval L + 10000 ^ k * cN = n % 10000 ^ k * m + c0 ∧ Below w.heap.size w wr) (fun _ _ i _ => len - (intOf i).toNat)
  case atStart =>
    refine ⟨0, c0, [], Nat.zero_le _, rfl, rfl, hc0, rfl, World.ownsRow_made w #[] 0 (Nat.le_refl _) (by simp [maxLen]) rfl, ?_, ?_, ?_, (Below.refl _ _).alloc (Nat.le_refl _) _⟩
    · intro h; cases h
    · intro d hd; cases hd
    · simp [nval, Nat.mod_one]
  case round =>
    obtain ⟨k, cN, L, hk, rfl, rfl, hcN, hLk, hown, hne, hok, hval, hb⟩ := hrel
    by_cases hlt : k < len
    · have hcx : wr.cell? ⟨g, k, none⟩ = some (.int .i64 ((dig n).getD k 0)) := (hb.cell (by exact h4)).trans (h5 k (by omega))
      rw [dig_getD] at hcx
      generalize hdd : n / 10000 ^ k % 10000 = d at *
      have hd1 : d < 10000 := by omega
      have Hval := hide hval
      have Hdd := hide hdd
      have HLk := hide hLk
      have hdm : d * m ≤ 99990000 := by have := Nat.mul_le_mul (show d ≤ 9999 by omega) hm; omega
      have hdm1 : (0 : Int) ≤ (d : Int) * (m : Int) := by rw [← Int.natCast_mul]; omega
      have hdm2 : (d : Int) * (m : Int) ≤ 99990000 := by rw [← Int.natCast_mul]; omega
      have hbs := hb.size
      have Hdm := hide hdm
      clear hval hdd hLk hdm
      go_wp2_with (first
        | (at_builtin; refine wpList_append_own _ rfl _ _ 126 rfl w.heap.size 3 i0 (.int .i64 0) 1 8 Tryz.underlying126 hi hz0 hz1 hz2 rfl (by decide) _ _ _ rfl (hown.alloc _) ⟨wr.heap.size, 0, none⟩ 1 1 [.int .i64 (((cN : Int) + d * m) % 10000)] rfl rfl ?c1 ?c2 ?c3 ?c4 ?c5 ?_)
        | go_in)
      case c1 =>
        intro j u hj
        match j, hj with
        | 0, hj => simp at hj; subst hj; simp [Addr.add]
      case c2 => intro u hu; simp at hu; subst hu; rfl
      case c3 => have := HLk.out; unfold maxLen; omega
      case c4 => have := HLk.out; omega
      case c5 => simp; omega
      intro v' w1 hown' hgrow hnn
      have R : w1.ownsRow w.heap.size 3 1 v' (L ++ [(((cN + d * m) % 10000 : Nat) : Int)]).length ((L ++ [(((cN + d * m) % 10000 : Nat) : Int)]).map (Value.int .i64)) ∧ v' ≠ .slice none 0 0 ∧ Below w.heap.size w w1 :=
        ⟨by simpa using hown', fun h => hnn h, (hb.alloc hbs _).grown hgrow (by simp; omega) (fun q hq => (hown.lt q hq).1)⟩
      have S := hide (times_step HLk.out Hdd.out Hval.out)
      clear hown' hgrow hnn hown hcx Hval
      go_wp2
      go_roundw
      case rel => exact ⟨k + 1, (cN + d * m) / 10000, L ++ [(((cN + d * m) % 10000 : Nat) : Int)], by omega, by go_num, by go_num, by have := Hdm.out; omega, by have := HLk.out; simp; omega, R.1, R.2.1, okD_snoc hok (by omega) (by omega), S.out, R.2.2⟩
      case measure => simp [intOf]; omega
    · have hkl : k = len := by omega
      subst hkl
      have hN : nval L + 10000 ^ L.length * cN = n * m + c0 := by rw [hLk, hval, ← Hlen.out, mod_all]
      generalize hNN : n * m + c0 = N at *
      have HNN := hide hNN
      have HN := hide hN
      have HLk := hide hLk
      clear hval hN hLk h5 hNN
      go_wp2
      go_loopw [2, 7] (fun c o wq => ∃ (cN : Nat) (L : List Int), c = .int .i64 cN ∧ L.length + cN ≤ k + 100000000 ∧ wq.ownsRow w.heap.size 3 1 o L.length (L.map (Value.int .i64)) ∧ o ≠ .slice none 0 0 ∧
        OkD L ∧ nval L + 10000 ^ L.length * cN = N ∧ Below w.heap.size w wq) (fun c _ _ => (intOf c).toNat)
      case atStart => exact ⟨cN, L, rfl, by have := HLk.out; omega, hown, hne, hok, HN.out, hb⟩
      case round =>
        clear hown hne hok HN hb HLk hk hcN
        obtain ⟨cM, M, rfl, hcM, hown, hne, hok, hval, hb⟩ := hrel
        have Hval := hide hval
        have hbs := hb.size
        clear hval
        by_cases hc : 0 < cM
        · go_wp2_with (first
            | (at_builtin; refine wpList_append_own _ rfl _ _ 126 rfl w.heap.size 3 i0 (.int .i64 0) 1 8 Tryz.underlying126 hi hz0 hz1 hz2 rfl (by decide) _ _ _ rfl (hown.alloc _) ⟨wr.heap.size, 0, none⟩ 1 1 [.int .i64 ((cM : Int) % 10000)] rfl rfl ?d1 ?d2 ?d3 ?d4 ?d5 ?_)
            | go_in)
          case d1 =>
            intro j u hj
            match j, hj with
            | 0, hj => simp at hj; subst hj; simp [Addr.add]
          case d2 => intro u hu; simp at hu; subst hu; rfl
          case d3 => unfold maxLen; omega
          case d4 => omega
          case d5 => simp; omega
          intro v' w1 hown' hgrow hnn
          have R : w1.ownsRow w.heap.size 3 1 v' (M ++ [((cM % 10000 : Nat) : Int)]).length ((M ++ [((cM % 10000 : Nat) : Int)]).map (Value.int .i64)) ∧ v' ≠ .slice none 0 0 ∧ Below w.heap.size w w1 :=
            ⟨by simpa using hown', fun h => hnn h, (hb.alloc hbs _).grown hgrow (by simp; omega) (fun q hq => (hown.lt q hq).1)⟩
          have S := hide (carry_step rfl Hval.out)
          clear hown' hgrow hnn hown Hval
          go_wp2
          go_roundw
          case rel => exact ⟨cM / 10000, M ++ [((cM % 10000 : Nat) : Int)], by go_num, by simp; omega, R.1, R.2.1, okD_snoc hok (by omega) (by omega), by simpa using S.out, R.2.2⟩
          case measure => simp [intOf]; omega
        · have hcz : cM = 0 := by omega
          subst hcz
          have hbig := big_of_owns hown hne
          have hvv : nval M = N := by simpa using Hval.out
          have Hvv := hide hvv
          clear hvv Hval
          go_wp2_with (go_at_call 128; refine (trim_any M _ _ hbig (by omega) hok).mono ?_; rintro e w' ⟨v', rfl, hbig', rfl⟩)
          go_ret
          exact ⟨_, rfl, by rw [HNN.out, ← Hvv.out]; exact hbig', hb⟩
end Go.Proofs.YtmndipnifjpdjaaGreatDoor
namespace Go.Proofs.YtmndipnifjpdjaaGreatDoor
def digs (x len : Nat) : List Int := (List.range len).map fun i => ((x / 10000 ^ i % 10000 : Nat) : Int)
theorem digs_length (x len : Nat) : (digs x len).length = len := by simp [digs]
theorem digs_ok (x len : Nat) : OkD (digs x len) := by
  intro d hd
  simp only [digs, List.mem_map] at hd
  obtain ⟨i, _, rfl⟩ := hd
  omega
theorem nval_digs (x len : Nat) : nval (digs x len) = x % 10000 ^ len := by
  induction len with
  | zero => simp [digs, nval, Nat.mod_one]
  | succ k ih =>
    have e : digs x (k + 1) = digs x k ++ [((x / 10000 ^ k % 10000 : Nat) : Int)] := by simp [digs, List.range_succ]
    rw [e, nval_append, ih, digs_length, mod_pow_succ]
    simp only [nval, Int.toNat_natCast, Nat.mul_zero, Nat.add_zero]
def halfTo (n len j : Nat) : List Int := (List.range len).map fun i => if i < j then (0 : Int) else ((n / 2 / 10000 ^ i % 10000 : Nat) : Int)
theorem halfTo_length (n len j : Nat) : (halfTo n len j).length = len := by simp [halfTo]
theorem halfTo_start (n len : Nat) : halfTo n len len = List.replicate len 0 := by
  apply List.ext_getElem
  · simp [halfTo]
  · intro i h1 h2
    simp [halfTo] at h1 ⊢
    omega
theorem halfTo_step (n len j : Nat) : (halfTo n len (j + 1)).set j ((n / 2 / 10000 ^ j % 10000 : Nat) : Int) = halfTo n len j := by
  apply List.ext_getElem
  · simp [halfTo]
  · intro i h1 h2
    simp only [halfTo, List.getElem_set, List.getElem_map, List.getElem_range]
    by_cases e : j = i
    · subst e; simp
    · rw [if_neg e]
      by_cases e2 : i < j
      · rw [if_pos (by omega), if_pos e2]
      · rw [if_neg (by omega), if_neg e2]
theorem halfTo_end (n len : Nat) : halfTo n len 0 = digs (n / 2) len := by simp [halfTo, digs]
theorem half_digit (n j : Nat) : (n / 10000 ^ (j + 1) % 2 * 10000 + n / 10000 ^ j % 10000) / 2 = n / 2 / 10000 ^ j % 10000 := by
  have e1 : n / 10000 ^ (j + 1) = n / 10000 ^ j / 10000 := by rw [Nat.pow_succ, Nat.div_div_eq_div_mul]
  have e2 : n / 2 / 10000 ^ j = n / 10000 ^ j / 2 := by rw [Nat.div_div_eq_div_mul, Nat.div_div_eq_div_mul, Nat.mul_comm]
  rw [e1, e2]; omega
theorem half_carry (n j : Nat) : (n / 10000 ^ (j + 1) % 2 * 10000 + n / 10000 ^ j % 10000) % 2 = n / 10000 ^ j % 2 := by omega
theorem cmp_lt {a b j : Nat} (h : a / 10000 ^ (j + 1) = b / 10000 ^ (j + 1)) (hd : a / 10000 ^ j % 10000 < b / 10000 ^ j % 10000) : a < b := by
  have e1 : ∀ x : Nat, x / 10000 ^ (j + 1) = x / 10000 ^ j / 10000 := fun x => by rw [Nat.pow_succ, Nat.div_div_eq_div_mul]
  rw [e1, e1] at h
  have : a / 10000 ^ j < b / 10000 ^ j := by omega
  exact Nat.lt_of_not_le fun hh => by have := Nat.div_le_div_right (c := 10000 ^ j) hh; omega
theorem cmp_eq {a b j : Nat} (h : a / 10000 ^ (j + 1) = b / 10000 ^ (j + 1)) (hd : a / 10000 ^ j % 10000 = b / 10000 ^ j % 10000) : a / 10000 ^ j = b / 10000 ^ j := by
  have e1 : ∀ x : Nat, x / 10000 ^ (j + 1) = x / 10000 ^ j / 10000 := fun x => by rw [Nat.pow_succ, Nat.div_div_eq_div_mul]
  rw [e1, e1] at h
  omega
def cmpI (a b : Nat) : Int := if a < b then -1 else if b < a then 1 else 0
theorem div_of_dig (n : Nat) : n / 10000 ^ (dig n).length = 0 := Nat.div_eq_of_lt (dig_lt n)
theorem minus_step {a b k bo x y d bo' : Nat} {L : List Int} (hL : L.length = k) (hx : a / 10000 ^ k % 10000 = x) (hy : b / 10000 ^ k % 10000 = y)
    (h : nval L + b % 10000 ^ k = a % 10000 ^ k + 10000 ^ k * bo) (hd : d + y + bo = x + 10000 * bo') :
    nval (L ++ [(d : Int)]) + b % 10000 ^ (k + 1) = a % 10000 ^ (k + 1) + 10000 ^ (k + 1) * bo' := by
  rw [nval_append, hL, mod_pow_succ, mod_pow_succ, hx, hy]
  simp only [nval, Nat.pow_succ, Int.toNat_natCast]
  generalize a % 10000 ^ k = p at *
  generalize b % 10000 ^ k = q at *
  generalize 10000 ^ k = t at *
  grind
end Go.Proofs.YtmndipnifjpdjaaGreatDoor
namespace Go.Proofs.YtmndipnifjpdjaaGreatDoor
open Go Go.RowKit
set_option linter.unusedVariables false
theorem made_ints (n : Nat) : (madeCells (Value.int .i64 0).cells (n * 1)).toList = (List.replicate n (0 : Int)).map (Value.int .i64) := by
  show (madeCells #[.int .i64 0] (n * 1)).toList = _
  rw [toList_madeCells_one]; simp
set_option maxHeartbeats 800000 in
set_option maxRecDepth 100000 in
theorem half_any (n : Nat) (v : Value) (w : World) (h : Big w v (dig n)) (hl : (dig n).length ≤ 100000000) :
    Calls Tryz.prog 131 #[v] w fun e w' => ∃ v', e = .returned v' ∧ Big w' v' (dig (n / 2)) ∧ Below w.heap.size w w' := by
  obtain ⟨g, cap, rfl, h2, h3, h4, h5⟩ := h
  unfold maxLen at h3
  obtain ⟨i0, hi, hz0, hz1, hz2⟩ := info_parts Tryz.info3
  have Hn := hide (Nat.div_eq_of_lt (dig_lt n))
  have Hlt := hide (dig_lt n)
  generalize (dig n).length = len at *
  go_enter Tryz.func131, Tryz.ntmps131
  go_wp2_with (first
    | (at_make; refine wpList_make_full _ rfl _ _ 126 rfl w.heap.size 3 i0 (.int .i64 0) 1 Tryz.underlying126 hi hz0 hz1 _ _ _ _ len rfl rfl rfl rfl (by rw [hz2]; omega) (by unfold maxLen; omega) (Nat.le_refl _) ?_; intro w1 hown hgrow)
    | go_in)
  have hb1 : Below w.heap.size w w1 := (Below.refl _ _).grown hgrow (Nat.le_refl _) (fun _ h => by cases h)
  rw [made_ints, ← halfTo_start n] at hown
  clear hgrow
  go_wp2
  go_loopw [4, 5] (fun c i wr => ∃ j : Nat, j ≤ len ∧ i = .int .i64 ((j : Int) - 1) ∧ c = .int .i64 ((n / 10000 ^ j % 2 : Nat) : Int) ∧
      wr.ownsRow w.heap.size 3 1 (.slice (some ⟨w.heap.size, 0, none⟩) len len) len ((halfTo n len j).map (Value.int .i64)) ∧ Below w.heap.size w wr) (fun _ i _ => (intOf i + 1).toNat)
  case atStart => exact ⟨len, Nat.le_refl _, rfl, by rw [Hn.out]; rfl, hown, hb1⟩
  case round =>
    clear hown hb1
    obtain ⟨j, hj, rfl, rfl, hown, hb⟩ := hrel
    cases j with
    | zero =>
      have hbig := big_of_owns (L := halfTo n len 0) (by rw [halfTo_length]; exact hown) (fun h => by cases h)
      rw [halfTo_end] at hbig
      go_wp2_with (go_at_call 128; refine (trim_any (digs (n / 2) len) _ _ hbig (by rw [digs_length]; omega) (digs_ok _ _)).mono ?_; rintro e w' ⟨v', rfl, hbig', rfl⟩)
      go_ret
      refine ⟨_, rfl, ?_, hb⟩
      rw [nval_digs, Nat.mod_eq_of_lt (by have := Hlt.out; omega)] at hbig'
      exact hbig'
    | succ k =>
      have hcx : wr.cell? ⟨g, k, none⟩ = some (.int .i64 ((dig n).getD k 0)) := (hb.cell (by exact h4)).trans (h5 k (by omega))
      rw [dig_getD] at hcx
      have hfr := hown.frozenAt k
      have hx := hown.stored k (.int .i64 ((n / 2 / 10000 ^ k % 10000 : Nat) : Int))
      have Hd := hide (half_digit n k)
      have Hc := hide (half_carry n k)
      have hd1 : n / 10000 ^ k % 10000 < 10000 := by omega
      have hd2 : n / 10000 ^ (k + 1) % 2 < 2 := by omega
      generalize n / 10000 ^ k % 10000 = d at *
      generalize n / 10000 ^ (k + 1) % 2 = c at *
      obtain ⟨u, hu⟩ : ∃ u, wr.cell? ⟨w.heap.size, k, none⟩ = some u := by
        rw [hown.cellAt k (by omega), List.getElem?_map, List.getElem?_eq_getElem (by rw [halfTo_length]; omega)]; exact ⟨_, rfl⟩
      have R : (wr.setCell ⟨w.heap.size, k, none⟩ (.int .i64 (((c * 10000 + d) / 2 : Nat) : Int))).ownsRow w.heap.size 3 1 (.slice (some ⟨w.heap.size, 0, none⟩) len len) len ((halfTo n len k).map (Value.int .i64)) ∧
          Below w.heap.size w (wr.setCell ⟨w.heap.size, k, none⟩ (.int .i64 (((c * 10000 + d) / 2 : Nat) : Int))) := by
        rw [Hd.out, ← halfTo_step n len k, List.map_set]
        exact ⟨hx.1, hb.setCell (Nat.le_refl _) _⟩
      clear hown hx Hd
      go_wp2
      go_roundw
      case rel => exact ⟨k, by omega, rfl, by rw [← Hc.out]; rfl, R.1, R.2⟩
      case measure => simp [intOf]
end Go.Proofs.YtmndipnifjpdjaaGreatDoor
namespace Go.Proofs.YtmndipnifjpdjaaGreatDoor
open Go Go.RowKit
set_option linter.unusedVariables false
theorem cmpI_lt {x y : Nat} (h : x < y) : cmpI x y = -1 := by simp [cmpI, h]
theorem cmpI_gt {x y : Nat} (h : y < x) : cmpI x y = 1 := by unfold cmpI; rw [if_neg (by omega), if_pos h]
theorem cmpI_eq {x y : Nat} (h : x = y) : cmpI x y = 0 := by subst h; simp [cmpI]
set_option maxHeartbeats 800000 in
set_option maxRecDepth 100000 in
theorem cmp_any (x y : Nat) (va vb : Value) (w : World) (ha : Big w va (dig x)) (hb : Big w vb (dig y)) (hl : (dig x).length ≤ 100000000) (hl2 : (dig y).length ≤ 100000000) :
    Calls Tryz.prog 130 #[va, vb] w fun e w' => e = .returned (.int .i64 (cmpI x y)) ∧ Below w.heap.size w w' := by
  obtain ⟨g, cap, rfl, h2, h3, h4, h5⟩ := ha
  obtain ⟨g', cap', rfl, h2', h3', h4', h5'⟩ := hb
  unfold maxLen at h3 h3'
  have Hx := hide (div_of_dig x)
  have Hy := hide (div_of_dig y)
  have Hxy := hide (@lt_of_dig_length x y)
  have Hyx := hide (@lt_of_dig_length y x)
  generalize (dig x).length = len at *
  generalize (dig y).length = len' at *
  by_cases hne : len = len'
  · subst hne
    clear Hxy Hyx
    go_enter Tryz.func130, Tryz.ntmps130
    go_wp2
    go_loopw [5] (fun i wr => ∃ j : Nat, j ≤ len ∧ i = .int .i64 ((j : Int) - 1) ∧ Hid (x / 10000 ^ j = y / 10000 ^ j) ∧ Below w.heap.size w wr) (fun i _ => (intOf i + 1).toNat)
    case atStart => exact ⟨len, Nat.le_refl _, rfl, hide (by rw [Hx.out, Hy.out]), Below.refl _ _⟩
    case round =>
      obtain ⟨j, hj, rfl, he, hbe⟩ := hrel
      cases j with
      | zero =>
        go_wp2
        go_ret
        exact ⟨ret_int (cmpI_eq (by simpa using he.out)).symm, hbe⟩
      | succ k =>
        have hcx : wr.cell? ⟨g, k, none⟩ = some (.int .i64 ((dig x).getD k 0)) := (hbe.cell (by exact h4)).trans (h5 k (by omega))
        have hcy : wr.cell? ⟨g', k, none⟩ = some (.int .i64 ((dig y).getD k 0)) := (hbe.cell (by exact h4')).trans (h5' k (by omega))
        rw [dig_getD] at hcx hcy
        have K1 := hide (@cmp_lt x y k he.out)
        have K2 := hide (@cmp_lt y x k he.out.symm)
        have K3 := hide (@cmp_eq x y k he.out)
        generalize x / 10000 ^ k % 10000 = dx at *
        generalize y / 10000 ^ k % 10000 = dy at *
        clear he
        rcases Nat.lt_trichotomy dx dy with h | h | h
        · have hn1 : ((dx : Int) != dy) = true := by rw [bne_iff_ne]; omega
          go_wp2
          go_quiet (fail)
          go_wp2
          go_quiet (fail)
          go_wp2
          go_ret
          exact ⟨ret_int (cmpI_lt (K1.out h)).symm, below_drewN (below_drewN hbe _) _⟩
        · have hn1 : ((dx : Int) != dy) = false := by subst h; simp
          go_wp2
          go_quiet (fail)
          go_wp2
          go_roundw
          case rel => exact ⟨k, by omega, rfl, hide (K3.out h), below_drewN hbe _⟩
          case measure => simp [intOf]
        · have hn1 : ((dx : Int) != dy) = true := by rw [bne_iff_ne]; omega
          go_wp2
          go_quiet (fail)
          go_wp2
          go_quiet (fail)
          go_wp2
          go_ret
          exact ⟨ret_int (cmpI_gt (K2.out h)).symm, below_drewN (below_drewN hbe _) _⟩
  · go_enter Tryz.func130, Tryz.ntmps130
    have hn1 : ((len : Int) != len') = true := by rw [bne_iff_ne]; omega
    by_cases hlt : len < len'
    · go_wp2
      go_ret
      exact ⟨ret_int (cmpI_lt (Hxy.out hlt)).symm, Below.refl _ _⟩
    · go_wp2
      go_ret
      exact ⟨ret_int (cmpI_gt (Hyx.out (by omega))).symm, Below.refl _ _⟩
theorem news_one (wr : World) (u0 : Value) : ∀ j u, [u0][j]? = some u → (wr.alloc (.cells #[u0] 3)).cell? ((⟨wr.heap.size, 0, none⟩ : Addr).add j) = some u := by
  intro j u hj
  match j, hj with
  | 0, hj => simp at hj; subst hj; simp [Addr.add]
def OwnI (w : World) (base : Nat) (v : Value) (L : List Int) : Prop := w.ownsRow base 3 1 v L.length (L.map (Value.int .i64)) ∧ v ≠ .slice none 0 0
theorem OwnI.big {w : World} {base : Nat} {v : Value} {L : List Int} (h : OwnI w base v L) : Big w v L := big_of_owns h.1 h.2
theorem ownI_empty (w : World) : OwnI (w.alloc (.cells #[] 3)) w.heap.size (.slice (some ⟨w.heap.size, 0, none⟩) 0 0) [] :=
  ⟨World.ownsRow_made w #[] 0 (Nat.le_refl _) (by simp [maxLen]) rfl, fun h => by cases h⟩
theorem app_int {wr : World} {ops : Array Oper} {rest : List Oper} {o : Oper} {a : Act} {Q : Exit → Act → World → Prop} (hgd : o.guard = none) (s x : Operand)
    (ho : o.op = .call { callee := .builtin .append, args := #[s, x], argTypes := #[126, 126] }) (base : Nat) (v : Value) (L : List Int) (z : Int) (hown : OwnI wr base v L) (hs : a.eval s = v) (hx : a.eval x = .slice (some ⟨wr.heap.size, 0, none⟩) 1 1)
    (hlen : L.length ≤ 10000000000) (hbase : base ≤ wr.heap.size)
    (h : ∀ v' w', OwnI w' base v' (L ++ [z]) → (∀ B w0, Below B w0 wr → B ≤ base → Below B w0 w') → wpList Tryz.prog ops Q rest (a.put o.dst v') w') :
    wpList Tryz.prog ops Q (o :: rest) a (wr.alloc (.cells #[.int .i64 z] 3)) := by
  obtain ⟨i0, hi, hz0, hz1, hz2⟩ := info_parts Tryz.info3
  refine wpList_append_own _ hgd s x 126 ho base 3 i0 (.int .i64 0) 1 8 Tryz.underlying126 hi hz0 hz1 hz2 rfl (by decide) v L.length (L.map (Value.int .i64)) hs (hown.1.alloc _) ⟨wr.heap.size, 0, none⟩ 1 1 [.int .i64 z] hx rfl (news_one _ _)
    (fun u hu => by simp at hu; subst hu; rfl) (by unfold maxLen; omega) (by omega) (by simp; omega) ?_
  intro v' w' h1 h2 h3
  refine h v' w' ⟨by simpa using h1, fun hh => hown.2 (h3.1 hh).1⟩ (fun B w0 hb hB => (hb.alloc (by omega) _).grown h2 (by simp; omega) (fun q hq => ?_))
  have := (hown.1.lt q hq).1
  omega
set_option maxHeartbeats 1600000 in
set_option maxRecDepth 100000 in
theorem minus_any (x y : Nat) (va vb : Value) (w : World) (ha : Big w va (dig x)) (hb : Big w vb (dig y)) (hl : (dig x).length ≤ 100000000) (hyx : y ≤ x) :
    Calls Tryz.prog 132 #[va, vb] w fun e w' => ∃ v', e = .returned v' ∧ Big w' v' (dig (x - y)) ∧ Below w.heap.size w w' := by
  obtain ⟨g, cap, rfl, h2, h3, h4, h5⟩ := ha
  obtain ⟨g', cap', rfl, h2', h3', h4', h5'⟩ := hb
  unfold maxLen at h3 h3'
  have hll := dig_length_mono hyx
  have Hx := hide (mod_all x)
  have Hy := hide (div_of_dig y)
  have Hy2 := hide (Nat.lt_of_le_of_lt hyx (dig_lt x))
  have Hyx := hide hyx
  clear hyx
  generalize (dig x).length = len at *
  generalize hlen : (dig y).length = len' at *
  have Hlen := hide hlen
  clear hlen
  go_enter Tryz.func132, Tryz.ntmps132
  go_wp2
  go_loopw [5, 6, 12] (fun o c i wr => ∃ (k bo : Nat) (L : List Int), k ≤ len ∧ i = .int .i64 k ∧ c = .int .i64 bo ∧ bo ≤ 1 ∧ L.length = k ∧ OwnI wr w.heap.size o L ∧
      OkD L ∧ nval L + y % 10000 ^ k = x % 10000 ^ k + 10000 ^ k * bo ∧ Below w.heap.size w wr) (fun _ _ i _ => len - (intOf i).toNat)
  case atStart =>
    refine ⟨0, 0, [], Nat.zero_le _, rfl, rfl, by omega, rfl, ownI_empty w, ?_, ?_, (Below.refl _ _).alloc (Nat.le_refl _) _⟩
    · intro d hd; cases hd
    · simp [nval, Nat.mod_one]
  case round =>
    obtain ⟨k, bo, L, hk, rfl, rfl, hbo, hLk, hown, hok, hval, hb⟩ := hrel
    have hbs := hb.size
    by_cases hlt : k < len
    · have hcx : wr.cell? ⟨g, k, none⟩ = some (.int .i64 ((dig x).getD k 0)) := (hb.cell (by exact h4)).trans (h5 k (by omega))
      have hcy : k < len' → wr.cell? ⟨g', k, none⟩ = some (.int .i64 ((dig y).getD k 0)) := fun hk' => (hb.cell (by exact h4')).trans (h5' k hk')
      rw [dig_getD] at hcx hcy
      have hyz : len' ≤ k → y / 10000 ^ k % 10000 = 0 := fun hh => by
        have : y / 10000 ^ k = 0 := Nat.div_eq_of_lt (Nat.lt_of_lt_of_le (dig_lt y) (by rw [Hlen.out]; exact Nat.pow_le_pow_right (by omega) hh))
        omega
      have S := fun d bo' => @minus_step x y k bo _ _ d bo' L hLk rfl rfl hval
      have hdx : x / 10000 ^ k % 10000 < 10000 := by omega
      have hdy : y / 10000 ^ k % 10000 < 10000 := by omega
      generalize x / 10000 ^ k % 10000 = dx at *
      generalize y / 10000 ^ k % 10000 = dy at *
      have HS := hide S
      have HLk := hide hLk
      have Hyz := hide hyz
      clear hval hLk S hyz h5 h5'
      obtain ⟨d, bo', hdd, hd1, hbo', hsg⟩ : ∃ d bo' : Nat, (d : Int) + dy + bo = dx + 10000 * bo' ∧ d < 10000 ∧ bo' ≤ 1 ∧ (bo' = 1 ↔ (dx : Int) - bo - dy < 0) := by
        by_cases hneg : (dx : Int) - bo - dy < 0
        · exact ⟨dx + 10000 - bo - dy, 1, by omega, by omega, by omega, by omega⟩
        · exact ⟨dx - bo - dy, 0, by omega, by omega, by omega, by omega⟩
      have Hdd := hide hdd
      have Hsg := hide hsg
      clear hdd hsg
      by_cases hin : k < len'
      · have hcy' := hcy hin
        by_cases hneg : (dx : Int) - bo - dy < 0
        · go_wp2_with (first
            | (at_builtin; (refine app_int rfl _ _ rfl w.heap.size _ L ((dx : Int) - bo - dy + 10000) hown rfl rfl (by have := HLk.out; omega) hbs ?_; intro v' w1 hown' hgrow))
            | go_in)
          have hde : (dx : Int) - bo - dy + 10000 = ((d : Nat) : Int) ∧ bo' = 1 := by have := Hdd.out; have := Hsg.out; omega
          have R : OwnI w1 w.heap.size v' (L ++ [(d : Int)]) ∧ Below w.heap.size w w1 := ⟨by rw [hde.1] at hown'; exact hown', hgrow _ _ hb (Nat.le_refl _)⟩
          have T := hide (HS.out d bo' (by have := Hdd.out; omega))
          have Hbo := hide hde.2
          clear hown' hgrow hown hde
          go_wp2
          go_roundw
          case rel => exact ⟨k + 1, bo', L ++ [(d : Int)], by omega, by go_num, by rw [Hbo.out]; rfl, hbo', by have := HLk.out; simp; omega, R.1, okD_snoc hok (by omega) (by omega), T.out, R.2⟩
          case measure => simp [intOf]; omega
        · go_wp2_with (first
            | (at_builtin; refine app_int rfl _ _ rfl w.heap.size _ L ((dx : Int) - bo - dy) hown rfl rfl (by have := HLk.out; omega) hbs ?_; intro v' w1 hown' hgrow)
            | go_in)
          have hde : (dx : Int) - bo - dy = ((d : Nat) : Int) ∧ bo' = 0 := by have := Hdd.out; have := Hsg.out; omega
          have R : OwnI w1 w.heap.size v' (L ++ [(d : Int)]) ∧ Below w.heap.size w w1 := ⟨by rw [hde.1] at hown'; exact hown', hgrow _ _ hb (Nat.le_refl _)⟩
          have T := hide (HS.out d bo' (by have := Hdd.out; omega))
          have Hbo := hide hde.2
          clear hown' hgrow hown hde
          go_wp2
          go_roundw
          case rel => exact ⟨k + 1, bo', L ++ [(d : Int)], by omega, by go_num, by rw [Hbo.out]; rfl, hbo', by have := HLk.out; simp; omega, R.1, okD_snoc hok (by omega) (by omega), T.out, R.2⟩
          case measure => simp [intOf]; omega
      · have hdy0 := Hyz.out (by omega)
        subst hdy0
        by_cases hneg : (dx : Int) - bo < 0
        · go_wp2_with (first
            | (at_builtin; refine app_int rfl _ _ rfl w.heap.size _ L ((dx : Int) - bo + 10000) hown rfl rfl (by have := HLk.out; omega) hbs ?_; intro v' w1 hown' hgrow)
            | go_in)
          have hde : (dx : Int) - bo + 10000 = ((d : Nat) : Int) ∧ bo' = 1 := by have := Hdd.out; have := Hsg.out; omega
          have R : OwnI w1 w.heap.size v' (L ++ [(d : Int)]) ∧ Below w.heap.size w w1 := ⟨by rw [hde.1] at hown'; exact hown', hgrow _ _ hb (Nat.le_refl _)⟩
          have T := hide (HS.out d bo' (by have := Hdd.out; omega))
          have Hbo := hide hde.2
          clear hown' hgrow hown hde
          go_wp2
          go_roundw
          case rel => exact ⟨k + 1, bo', L ++ [(d : Int)], by omega, by go_num, by rw [Hbo.out]; rfl, hbo', by have := HLk.out; simp; omega, R.1, okD_snoc hok (by omega) (by omega), T.out, R.2⟩
          case measure => simp [intOf]; omega
        · go_wp2_with (first
            | (at_builtin; refine app_int rfl _ _ rfl w.heap.size _ L ((dx : Int) - bo) hown rfl rfl (by have := HLk.out; omega) hbs ?_; intro v' w1 hown' hgrow)
            | go_in)
          have hde : (dx : Int) - bo = ((d : Nat) : Int) ∧ bo' = 0 := by have := Hdd.out; have := Hsg.out; omega
          have R : OwnI w1 w.heap.size v' (L ++ [(d : Int)]) ∧ Below w.heap.size w w1 := ⟨by rw [hde.1] at hown'; exact hown', hgrow _ _ hb (Nat.le_refl _)⟩
          have T := hide (HS.out d bo' (by have := Hdd.out; omega))
          have Hbo := hide hde.2
          clear hown' hgrow hown hde
          go_wp2
          go_roundw
          case rel => exact ⟨k + 1, bo', L ++ [(d : Int)], by omega, by go_num, by rw [Hbo.out]; rfl, hbo', by have := HLk.out; simp; omega, R.1, okD_snoc hok (by omega) (by omega), T.out, R.2⟩
          case measure => simp [intOf]; omega
    · have hkl : k = len := by omega
      subst hkl
      have hv : nval L = x - y ∧ bo = 0 := by
        rw [Hx.out, Nat.mod_eq_of_lt Hy2.out] at hval
        have h1 := nval_lt hok
        rw [hLk] at h1
        have h2 := Hyx.out
        have h3 := Hy2.out
        by_cases hb0 : bo = 0
        · subst hb0; simp at hval; omega
        · have : bo = 1 := by omega
          subst this; omega
      have Hv := hide hv.1
      have hbig := hown.big
      clear hv hval
      go_wp2_with (go_at_call 128; refine (trim_any L _ _ hbig (by omega) hok).mono ?_; rintro e w' ⟨v', rfl, hbig', rfl⟩)
      go_ret
      exact ⟨_, rfl, by rw [← Hv.out]; exact hbig', hb⟩
end Go.Proofs.YtmndipnifjpdjaaGreatDoor
namespace Go.Proofs.YtmndipnifjpdjaaGreatDoor
open Go Go.RowKit
set_option linter.unusedVariables false
theorem times_int (n m c0 : Nat) (M C : Int) (hM : M = (m : Int)) (hC : C = (c0 : Int)) (v : Value) (w : World) (h : Big w v (dig n)) (hl : (dig n).length ≤ 100000) (hm : m ≤ 10000) (hc0 : c0 ≤ 100000000) :
    Calls Tryz.prog 94 #[v, .int .i64 M, .int .i64 C] w fun e w' => ∃ v', e = .returned v' ∧ Big w' v' (dig (n * m + c0)) ∧ Below w.heap.size w w' := by
  subst hM; subst hC; exact times_any n m c0 v w h hl hm hc0
theorem dig_length_mul {n m k : Nat} (h : m ≤ 10000 ^ k) : (dig (n * m)).length ≤ (dig n).length + k := by
  refine dig_length_le ?_
  rw [Nat.pow_add]
  have h1 := dig_lt n
  rcases Nat.eq_zero_or_pos m with rfl | hm
  · rw [Nat.mul_zero]; exact Nat.mul_pos (Nat.pow_pos (by omega)) (Nat.pow_pos (by omega))
  · exact Nat.lt_of_lt_of_le (Nat.mul_lt_mul_of_pos_right h1 hm) (Nat.mul_le_mul_left _ h)
theorem dig_length_two (n j : Nat) : (dig (n * 2 ^ j)).length ≤ (dig n).length + j :=
  dig_length_mul (Nat.pow_le_pow_left (by omega) j)
theorem dig_length_ten (n j : Nat) : (dig (n * 10 ^ j)).length ≤ (dig n).length + j :=
  dig_length_mul (Nat.pow_le_pow_left (by omega) j)
set_option maxHeartbeats 800000 in
set_option maxRecDepth 100000 in
theorem two_any (n k : Nat) (v : Value) (w : World) (h : Big w v (dig n)) (hl : (dig n).length + k ≤ 100000) :
    Calls Tryz.prog 129 #[v, .int .i64 k] w fun e w' => ∃ v', e = .returned v' ∧ Big w' v' (dig (n * 2 ^ k)) ∧ Below w.heap.size w w' := by
  have HL := hide (dig_length_two n)
  generalize (dig n).length = len at *
  go_enter Tryz.func129, Tryz.ntmps129
  go_wp2
  go_loopw [0, 1] (fun a i wr => ∃ j r : Nat, j + r ≤ k ∧ k ≤ j + r ∧ i = .int .i64 r ∧ Big wr a (dig (n * 2 ^ j)) ∧ Below w.heap.size w wr) (fun _ i _ => (intOf i).toNat)
  case atStart => exact ⟨0, k, by omega, by omega, rfl, by simpa using h, Below.refl _ _⟩
  case round =>
    obtain ⟨j, r, hj1, hj2, rfl, hbig, hb⟩ := hrel
    have hlj := HL.out j
    by_cases hr : 12 ≤ r
    · go_wp2_with (go_at_call 94; refine (times_int (n * 2 ^ j) 4096 0 _ _ rfl rfl _ _ hbig (by omega) (by omega) (by omega)).mono ?_; rintro e w' ⟨v', rfl, hbig', hb'⟩)
      go_roundw
      case rel => exact ⟨j + 12, r - 12, by omega, by omega, by go_num, by rw [Nat.pow_add, ← Nat.mul_assoc]; simpa using hbig', hb.trans (hb'.mono hb.size)⟩
      case measure => simp [intOf]; omega
    · go_wp2
      go_loopw [0, 1] (fun a i wr => ∃ j r : Nat, j + r ≤ k ∧ k ≤ j + r ∧ i = .int .i64 r ∧ Big wr a (dig (n * 2 ^ j)) ∧ Below w.heap.size w wr) (fun _ i _ => (intOf i).toNat)
      case atStart => exact ⟨j, r, hj1, hj2, rfl, hbig, hb⟩
      case round =>
        clear hbig hb hlj hj1 hj2 hr
        obtain ⟨j, r, hj1, hj2, rfl, hbig, hb⟩ := hrel
        have hlj := HL.out j
        by_cases hr : 0 < r
        · go_wp2_with (go_at_call 94; refine (times_int (n * 2 ^ j) 2 0 _ _ rfl rfl _ _ hbig (by omega) (by omega) (by omega)).mono ?_; rintro e w' ⟨v', rfl, hbig', hb'⟩)
          go_roundw
          case rel => exact ⟨j + 1, r - 1, by omega, by omega, by go_num, by rw [Nat.pow_add, ← Nat.mul_assoc]; simpa using hbig', hb.trans (hb'.mono hb.size)⟩
          case measure => simp [intOf]; omega
        · have hjk : j = k := by omega
          go_wp2
          go_ret
          exact ⟨_, rfl, by rw [← hjk]; exact hbig, hb⟩
end Go.Proofs.YtmndipnifjpdjaaGreatDoor
namespace Go.Proofs.YtmndipnifjpdjaaGreatDoor
open Go Go.RowKit
set_option linter.unusedVariables false
theorem dig_mul_10000 {n : Nat} (h : n ≠ 0) : dig (n * 10000) = 0 :: dig n := by
  rw [dig_pos (by omega)]
  have e1 : n * 10000 % 10000 = 0 := by omega
  have e2 : n * 10000 / 10000 = n := by omega
  rw [e1, e2]; rfl
theorem big_cells {w : World} {g : Nat} {l : List Int} (h5 : ∀ j, j < l.length → w.cell? ⟨g, j, none⟩ = some (.int .i64 (l.getD j 0))) (o : Obj) (hg : g < w.heap.size) :
    ∀ j u, (l.map (Value.int .i64))[j]? = some u → (w.alloc o).cell? ((⟨g, 0, none⟩ : Addr).add j) = some u := by
  intro j u hj
  rw [List.getElem?_map] at hj
  cases hx : l[j]? with
  | none => rw [hx] at hj; simp at hj
  | some x =>
    rw [hx] at hj
    simp at hj
    subst hj
    obtain ⟨hlt, hxx⟩ := List.getElem?_eq_some_iff.1 hx
    have := h5 j hlt
    rw [getD_lt hlt, hxx] at this
    rw [← this]
    have hb : Below w.heap.size w (w.alloc o) := (Below.refl _ _).alloc (Nat.le_refl _) o
    rw [← hb.cell (p := ⟨g, j, none⟩) hg]
    simp only [Addr.add]
    by_cases e : j = 0
    · subst e; simp
    · simp [e]
theorem app_zero {wr : World} {ops : Array Oper} {rest : List Oper} {o : Oper} {a : Act} {Q : Exit → Act → World → Prop} (hgd : o.guard = none) (s x : Operand)
    (ho : o.op = .call { callee := .builtin .append, args := #[s, x], argTypes := #[126, 126] }) (v : Value) (L : List Int) (hbig : Big wr v L) (hx : a.eval x = v) (hs : a.eval s = .slice (some ⟨wr.heap.size, 0, none⟩) 1 1)
    (hlen : L.length ≤ 10000000000)
    (h : ∀ v' w', Big w' v' (0 :: L) → Below wr.heap.size wr w' → wpList Tryz.prog ops Q rest (a.put o.dst v') w') :
    wpList Tryz.prog ops Q (o :: rest) a (wr.alloc (.cells #[.int .i64 0] 3)) := by
  obtain ⟨i0, hi, hz0, hz1, hz2⟩ := info_parts Tryz.info3
  obtain ⟨g, cap, rfl, h2, h3, h4, h5⟩ := hbig
  have hown := World.ownsRow_lit (base := wr.heap.size) (e := 3) (size := 1) wr #[.int .i64 0] 1 (Nat.le_refl _) (by simp [maxLen]) rfl
  refine wpList_append_own _ hgd s x 126 ho wr.heap.size 3 i0 (.int .i64 0) 1 8 Tryz.underlying126 hi hz0 hz1 hz2 rfl (by decide) _ 1 _ hs hown ⟨g, 0, none⟩ L.length cap (L.map (Value.int .i64)) hx (by simp) (big_cells h5 _ h4)
    (ints_oneCell _ _) (by unfold maxLen; omega) (by omega) (by simp) ?_
  intro v' w' h1 h2 h3
  refine h v' w' (big_of_owns (B := wr.heap.size) (L := 0 :: L) ?_ (fun hh => by have := (h3.1 hh).1; cases this)) (((Below.refl _ _).alloc (Nat.le_refl _) _).grown h2 (by simp) (fun q hq => by cases hq; exact Nat.le_refl _))
  have e : (0 :: L).length = 1 + L.length := by simp; omega
  rw [e]; simpa using h1
set_option maxHeartbeats 800000 in
set_option maxRecDepth 100000 in
theorem pow10_any (n k : Nat) (v : Value) (w : World) (h : Big w v (dig n)) (hn : n ≠ 0) (hl : (dig n).length + k ≤ 100000) :
    Calls Tryz.prog 95 #[v, .int .i64 k] w fun e w' => ∃ v', e = .returned v' ∧ Big w' v' (dig (n * 10 ^ k)) ∧ Below w.heap.size w w' := by
  have HL := hide (dig_length_ten n)
  have Hn := hide hn
  clear hn
  generalize (dig n).length = len at *
  go_enter Tryz.func95, Tryz.ntmps95
  go_wp2
  go_loopw [0, 1] (fun a i wr => ∃ j r : Nat, j + r ≤ k ∧ k ≤ j + r ∧ i = .int .i64 r ∧ Big wr a (dig (n * 10 ^ j)) ∧ Below w.heap.size w wr) (fun _ i _ => (intOf i).toNat)
  case atStart => exact ⟨0, k, by omega, by omega, rfl, by simpa using h, Below.refl _ _⟩
  case round =>
    obtain ⟨j, r, hj1, hj2, rfl, hbig, hb⟩ := hrel
    have hlj := HL.out j
    by_cases hr : 4 ≤ r
    · go_wp2_with (first
        | (at_builtin; refine app_zero rfl _ _ rfl _ _ hbig rfl rfl (by omega) ?_; intro v' w1 hbig' hb')
        | go_in)
      have Hz := hide (dig_mul_10000 (n := n * 10 ^ j) (by have := Hn.out; exact Nat.mul_ne_zero this (Nat.pos_iff_ne_zero.1 (Nat.pow_pos (by omega)))))
      go_wp2
      go_roundw
      case rel => exact ⟨j + 4, r - 4, by omega, by omega, by go_num, by rw [Nat.pow_add, ← Nat.mul_assoc]; rw [← Hz.out] at hbig'; exact hbig', hb.trans (hb'.mono hb.size)⟩
      case measure => simp [intOf]; omega
    · go_wp2
      go_loopw [0, 1] (fun a i wr => ∃ j r : Nat, j + r ≤ k ∧ k ≤ j + r ∧ i = .int .i64 r ∧ Big wr a (dig (n * 10 ^ j)) ∧ Below w.heap.size w wr) (fun _ i _ => (intOf i).toNat)
      case atStart => exact ⟨j, r, hj1, hj2, rfl, hbig, hb⟩
      case round =>
        clear hbig hb hlj hj1 hj2 hr
        obtain ⟨j, r, hj1, hj2, rfl, hbig, hb⟩ := hrel
        have hlj := HL.out j
        by_cases hr : 0 < r
        · go_wp2_with (go_at_call 94; refine (times_int (n * 10 ^ j) 10 0 _ _ rfl rfl _ _ hbig (by omega) (by omega) (by omega)).mono ?_; rintro e w' ⟨v', rfl, hbig', hb'⟩)
          go_roundw
          case rel => exact ⟨j + 1, r - 1, by omega, by omega, by go_num, by rw [Nat.pow_add, ← Nat.mul_assoc]; simpa using hbig', hb.trans (hb'.mono hb.size)⟩
          case measure => simp [intOf]; omega
        · have hjk : j = k := by omega
          subst hjk
          go_wp2_with (go_at_call 128; refine (trim_any _ _ _ hbig (by omega) (dig_ok _)).mono ?_; rintro e w' ⟨v', rfl, hbig', rfl⟩)
          go_ret
          exact ⟨_, rfl, by rw [nval_dig] at hbig'; exact hbig', hb⟩
end Go.Proofs.YtmndipnifjpdjaaGreatDoor
namespace Go.Proofs.YtmndipnifjpdjaaGreatDoor
def rq (N D : Nat) : Nat := N / D + (if D < 2 * (N % D) ∨ (2 * (N % D) = D ∧ N / D % 2 = 1) then 1 else 0)
def infW : Nat := 9218868437227405312
def IsRnd (N d W : Nat) : Prop := ∃ k, N < d * 2 ^ (53 + k) ∧ (k = 0 ∨ d * 2 ^ (52 + k) ≤ N) ∧ W = min (k * 4503599627370496 + rq N (d * 2 ^ k)) infW
theorem rq_scale {N D c : Nat} (hc : 0 < c) : rq (N * c) (D * c) = rq N D := by
  unfold rq
  rw [Nat.mul_div_mul_right _ _ hc, Nat.mul_mod_mul_right]
  congr 1
  have e1 : (D * c < 2 * (N % D * c)) ↔ (D < 2 * (N % D)) := by
    rw [← Nat.mul_assoc]
    exact Nat.mul_lt_mul_right hc
  have e2 : (2 * (N % D * c) = D * c) ↔ (2 * (N % D) = D) := by
    rw [← Nat.mul_assoc]
    exact ⟨fun h => Nat.eq_of_mul_eq_mul_right hc h, fun h => by rw [h]⟩
  simp only [e1, e2]
theorem IsRnd.scale {N d W c : Nat} (hc : 0 < c) : IsRnd (N * c) (d * c) W ↔ IsRnd N d W := by
  unfold IsRnd
  have e : ∀ k, (N * c < d * c * 2 ^ (53 + k) ∧ (k = 0 ∨ d * c * 2 ^ (52 + k) ≤ N * c) ∧ W = min (k * 4503599627370496 + rq (N * c) (d * c * 2 ^ k)) infW) ↔
      (N < d * 2 ^ (53 + k) ∧ (k = 0 ∨ d * 2 ^ (52 + k) ≤ N) ∧ W = min (k * 4503599627370496 + rq N (d * 2 ^ k)) infW) := by
    intro k
    have r1 : d * c * 2 ^ (53 + k) = d * 2 ^ (53 + k) * c := by rw [Nat.mul_right_comm]
    have r2 : d * c * 2 ^ (52 + k) = d * 2 ^ (52 + k) * c := by rw [Nat.mul_right_comm]
    have r3 : d * c * 2 ^ k = d * 2 ^ k * c := by rw [Nat.mul_right_comm]
    rw [r1, r2, r3, rq_scale hc]
    rw [Nat.mul_lt_mul_right hc, Nat.mul_le_mul_right_iff hc]
  exact ⟨fun ⟨k, h⟩ => ⟨k, (e k).1 h⟩, fun ⟨k, h⟩ => ⟨k, (e k).2 h⟩⟩
theorem IsRnd.unique {N d W W' : Nat} (h : IsRnd N d W) (h' : IsRnd N d W') : W = W' := by
  obtain ⟨k, h1, h2, h3⟩ := h
  obtain ⟨k', h1', h2', h3'⟩ := h'
  have key : ∀ a b : Nat, N < d * 2 ^ (53 + a) → (b = 0 ∨ d * 2 ^ (52 + b) ≤ N) → b ≤ a := by
    intro a b ha hb
    rcases hb with hb | hb
    · omega
    · refine Nat.le_of_not_lt fun hlt => ?_
      have : d * 2 ^ (53 + a) ≤ d * 2 ^ (52 + b) := Nat.mul_le_mul_left _ (Nat.pow_le_pow_right (by omega) (by omega))
      omega
  have e1 := key k k' h1 h2'
  have e2 := key k' k h1' h2
  have : k = k' := by omega
  subst this
  rw [h3, h3']
theorem isRnd_of {n d i j A B k : Nat} (hA : k + j + B = A + i) (hlt : n * 2 ^ j < d * 2 ^ i * 2 ^ 53) (hge : k = 0 ∨ d * 2 ^ i * 2 ^ 52 ≤ n * 2 ^ j) :
    IsRnd (n * 2 ^ A) (d * 2 ^ B) (min (k * 4503599627370496 + rq (n * 2 ^ j) (d * 2 ^ i)) infW) := by
  have p : ∀ x : Nat, 0 < 2 ^ x := fun x => Nat.pow_pos (by omega)
  refine ⟨k, ?_, ?_, ?_⟩
  · have h := Nat.mul_lt_mul_of_pos_right hlt (p A)
    have e1 : d * 2 ^ i * 2 ^ 53 * 2 ^ A = d * 2 ^ B * 2 ^ (53 + k) * 2 ^ j := by
      rw [Nat.mul_assoc, Nat.mul_assoc, ← Nat.pow_add, ← Nat.pow_add, Nat.mul_assoc, Nat.mul_assoc, ← Nat.pow_add, ← Nat.pow_add]
      congr 2; omega
    have e2 : n * 2 ^ j * 2 ^ A = n * 2 ^ A * 2 ^ j := by rw [Nat.mul_right_comm]
    rw [e1, e2] at h
    exact Nat.lt_of_mul_lt_mul_right h
  · rcases hge with hge | hge
    · left; exact hge
    · right
      have h := Nat.mul_le_mul_right (2 ^ A) hge
      have e1 : d * 2 ^ i * 2 ^ 52 * 2 ^ A = d * 2 ^ B * 2 ^ (52 + k) * 2 ^ j := by
        rw [Nat.mul_assoc, Nat.mul_assoc, ← Nat.pow_add, ← Nat.pow_add, Nat.mul_assoc, Nat.mul_assoc, ← Nat.pow_add, ← Nat.pow_add]
        congr 2; omega
      have e2 : n * 2 ^ j * 2 ^ A = n * 2 ^ A * 2 ^ j := by rw [Nat.mul_right_comm]
      rw [e1, e2] at h
      exact Nat.le_of_mul_le_mul_right h (p j)
  · have e : rq (n * 2 ^ j) (d * 2 ^ i) = rq (n * 2 ^ A) (d * 2 ^ B * 2 ^ k) := by
      rw [← rq_scale (N := n * 2 ^ j) (p A), ← rq_scale (N := n * 2 ^ A) (p j)]
      congr 1
      · rw [Nat.mul_right_comm]
      · rw [Nat.mul_assoc, ← Nat.pow_add, Nat.mul_assoc, Nat.mul_assoc, ← Nat.pow_add, ← Nat.pow_add]
        congr 2; omega
    rw [e]
theorem word_bit {d n n2 q b : Nat} (h1 : n2 = q * d + n) (h2 : n < d * 2 ^ (b + 1)) (h3 : q + 2 ^ (b + 1) ≤ 9007199254740992) :
    (d * 2 ^ b ≤ n → n2 = (q + 2 ^ b) * d + (n - d * 2 ^ b) ∧ n - d * 2 ^ b < d * 2 ^ b ∧ q + 2 ^ b + 2 ^ b ≤ 9007199254740992) ∧
    (¬ d * 2 ^ b ≤ n → n < d * 2 ^ b ∧ q + 2 ^ b ≤ 9007199254740992) := by
  have e : d * 2 ^ (b + 1) = 2 * (d * 2 ^ b) := by rw [Nat.pow_succ]; grind
  have e3 : 2 ^ (b + 1) = 2 ^ b + 2 ^ b := by rw [Nat.pow_succ]; omega
  rw [e] at h2
  rw [e3] at h3
  generalize 2 ^ b = p at *
  refine ⟨fun h => ⟨?_, by omega, by omega⟩, fun h => ⟨by omega, by omega⟩⟩
  have : (q + p) * d = q * d + d * p := by grind
  omega
theorem quot_rest {d n n2 q : Nat} (h1 : n2 = q * d + n) (h2 : n < d) : n2 / d = q ∧ n2 % d = n := by
  subst h1
  have hd : 0 < d := by omega
  constructor
  · rw [Nat.mul_comm, Nat.mul_add_div hd, Nat.div_eq_of_lt h2]; omega
  · rw [Nat.mul_comm, Nat.mul_add_mod, Nat.mod_eq_of_lt h2]
def Up (c z q' : Int) : Prop := (q' = z + 1 ∧ (0 < c ∨ (c = 0 ∧ z % 2 = 1))) ∨ (q' = z ∧ (c < 0 ∨ (c = 0 ∧ z % 2 ≠ 1)))
theorem up1 {c z : Int} (h : 0 < c) : Up c z (z + 1) := .inl ⟨rfl, .inl h⟩
theorem up2 {c z : Int} (h : c = 0) (h2 : (z % 2 == 1) = true) : Up c z (z + 1) := .inl ⟨rfl, .inr ⟨h, eq_of_beq h2⟩⟩
theorem up3 {c z : Int} (h : c = 0) (h2 : (z % 2 == 1) = false) : Up c z z := .inr ⟨rfl, .inr ⟨h, ne_of_beq_false h2⟩⟩
theorem up4 {c z : Int} (h : ¬ c = 0) (h2 : c ≤ 0) : Up c z z := .inr ⟨rfl, .inl (by omega)⟩
structure WEnd (E z c : Int) (q D M2 : Nat) : Prop where
  he : -1074 ≤ E
  hk : E = -1074 ∨ 4503599627370496 ≤ q
  hqz : (q : Int) = z
  hz : z ≤ 9007199254740991
  hc : (D < M2 ∧ c = 1) ∨ (M2 = D ∧ c = 0) ∨ (M2 < D ∧ c = -1)
theorem up_if {E z c q' : Int} {q D M2 : Nat} (h : WEnd E z c q D M2) (hu : Up c z q') : ((q + if D < M2 ∨ (M2 = D ∧ q % 2 = 1) then 1 else 0 : Nat) : Int) = q' := by
  obtain ⟨he, hk, hqz, hz, hc⟩ := h
  unfold Up at hu
  split
  · rename_i h1; omega
  · rename_i h1; omega
theorem wend_A {E z c q' : Int} {q D M2 : Nat} (h : WEnd E z c q D M2) (hu : Up c z q') (h1 : (q' == 9007199254740992) = true) (h2 : 971 < E + 1) :
    9218868437227405312 = ((min ((E + 1074).toNat * 4503599627370496 + (q + if D < M2 ∨ (M2 = D ∧ q % 2 = 1) then 1 else 0)) infW : Nat) : Int) := by
  have e := up_if h hu
  have := eq_of_beq h1
  generalize (q + if D < M2 ∨ (M2 = D ∧ q % 2 = 1) then 1 else 0) = x at *
  have := h.he
  clear h hu h1
  unfold infW; omega
theorem wend_B {E z c q' : Int} {q D M2 : Nat} (h : WEnd E z c q D M2) (hu : Up c z q') (h1 : (q' == 9007199254740992) = true) (h2 : E + 1 ≤ 971) :
    (E + 1 + 1075) * 4503599627370496 = ((min ((E + 1074).toNat * 4503599627370496 + (q + if D < M2 ∨ (M2 = D ∧ q % 2 = 1) then 1 else 0)) infW : Nat) : Int) := by
  have e := up_if h hu
  have := eq_of_beq h1
  generalize (q + if D < M2 ∨ (M2 = D ∧ q % 2 = 1) then 1 else 0) = x at *
  have := h.he
  clear h hu h1
  unfold infW; omega
theorem wend_C {E z c q' : Int} {q D M2 : Nat} (h : WEnd E z c q D M2) (hu : Up c z q') (h2 : 971 < E) :
    9218868437227405312 = ((min ((E + 1074).toNat * 4503599627370496 + (q + if D < M2 ∨ (M2 = D ∧ q % 2 = 1) then 1 else 0)) infW : Nat) : Int) := by
  have e := up_if h hu
  have hx : q ≤ (q + if D < M2 ∨ (M2 = D ∧ q % 2 = 1) then 1 else 0) := by omega
  generalize (q + if D < M2 ∨ (M2 = D ∧ q % 2 = 1) then 1 else 0) = x at *
  have := h.he
  have := h.hk
  clear h hu
  unfold infW; omega
theorem wend_D {E z c q' : Int} {q D M2 : Nat} (h : WEnd E z c q D M2) (hu : Up c z q') (h2 : q' < 4503599627370496) :
    q' = ((min ((E + 1074).toNat * 4503599627370496 + (q + if D < M2 ∨ (M2 = D ∧ q % 2 = 1) then 1 else 0)) infW : Nat) : Int) := by
  have e := up_if h hu
  have hx : q ≤ (q + if D < M2 ∨ (M2 = D ∧ q % 2 = 1) then 1 else 0) := by omega
  generalize (q + if D < M2 ∨ (M2 = D ∧ q % 2 = 1) then 1 else 0) = x at *
  have := h.he
  have := h.hk
  clear h hu
  unfold infW; omega
theorem wend_F {E z c q' : Int} {q D M2 : Nat} (h : WEnd E z c q D M2) (hu : Up c z q') (h1 : E ≤ 971) (h2 : (q' == 9007199254740992) = false) :
    (E + 1075) * 4503599627370496 + q' - 4503599627370496 = ((min ((E + 1074).toNat * 4503599627370496 + (q + if D < M2 ∨ (M2 = D ∧ q % 2 = 1) then 1 else 0)) infW : Nat) : Int) := by
  have e := up_if h hu
  have hx : (q + if D < M2 ∨ (M2 = D ∧ q % 2 = 1) then 1 else 0) ≤ q + 1 := by split <;> omega
  generalize (q + if D < M2 ∨ (M2 = D ∧ q % 2 = 1) then 1 else 0) = x at *
  have := h.he
  have := h.hz
  have := h.hqz
  have := ne_of_beq_false h2
  clear h hu h2
  unfold infW; omega
end Go.Proofs.YtmndipnifjpdjaaGreatDoor
