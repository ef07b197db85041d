import Derived.Test.YtamdnnkdnhkghaaGreatDoorRows
import Derived.WalkKit
import Derived.ProofKit
import Derived.OpenShut
import Derived.Test.YtamdnnkdnhkghaaGreatDoorQ01
import Derived.Deep.QuietTactic
import Derived.BigQuiet
namespace Go.Proofs.YtamdnnkdnhkghaaGreatDoor
open Go Go.RowKit
set_option linter.unusedVariables false

theorem hide {p : Prop} (h : p) : Hid p := h

def isDig (c : Int) : Bool := decide (48 ≤ c ∧ c ≤ 57)

theorem digit_any (c : Int) (w : World) (h0 : 0 ≤ c) (h1 : c < 256) :
    Calls Tryz.prog 115 #[.int .u8 c] w fun e w' => e = .returned (.bool (isDig c)) ∧ w' = w := by
  go_enter Tryz.func115, Tryz.ntmps115
  go_wp2
  all_goals go_ret
  all_goals refine ⟨?_, rfl⟩
  all_goals (simp [isDig]; try omega)

def hexVal (c : Int) : Int :=
  if 48 ≤ c ∧ c ≤ 57 then c - 48 else if 97 ≤ c ∧ c ≤ 102 then c - 87 else if 65 ≤ c ∧ c ≤ 70 then c - 55 else -1

theorem ret_int {k : IntKind} {a b : Int} (h : a = b) : Ending.returned (.int k a) = .returned (.int k b) := by rw [h]

theorem isDig_t {c : Int} (h : 48 ≤ c ∧ c ≤ 57) : isDig c = true := by simp [isDig, h]
theorem isDig_f {c : Int} (h : ¬ (48 ≤ c ∧ c ≤ 57)) : isDig c = false := by simp [isDig]; omega

theorem hexDigit_any (c : Int) (w : World) (h0 : 0 ≤ c) (h1 : c < 256) :
    Calls Tryz.prog 166 #[.int .u8 c] w fun e w' => e = .returned (.int .i64 (hexVal c)) ∧ w' = w := by
  by_cases hd : 48 ≤ c ∧ c ≤ 57
  · have hd' := isDig_t hd
    go_enter Tryz.func166, Tryz.ntmps166
    go_wp2_with (go_at_call 115; refine (digit_any _ _ h0 h1).mono ?_; rintro e w' ⟨rfl, rfl⟩)
    all_goals go_ret
    all_goals refine ⟨ret_int ?_, rfl⟩
    all_goals (unfold hexVal; split <;> omega)
  · have hd' := isDig_f hd
    go_enter Tryz.func166, Tryz.ntmps166
    go_wp2_with (go_at_call 115; refine (digit_any _ _ h0 h1).mono ?_; rintro e w' ⟨rfl, rfl⟩)
    all_goals go_ret
    all_goals refine ⟨ret_int ?_, rfl⟩
    all_goals (unfold hexVal; rw [if_neg hd]; repeat (first | omega | split))
end Go.Proofs.YtamdnnkdnhkghaaGreatDoor

namespace Go.Proofs.YtamdnnkdnhkghaaGreatDoor
open Go Go.RowKit
set_option linter.unusedVariables false

/-- The slice v holds the numbers l, from the head of a block on. -/
def Big (w : World) (v : Value) (l : List Int) : Prop :=
  ∃ g cap, v = .slice (some ⟨g, 0, none⟩) l.length cap ∧ l.length ≤ cap ∧ cap ≤ maxLen ∧ g < w.heap.size ∧
    ∀ j, j < l.length → w.cell? ⟨g, j, none⟩ = some (.int .i64 (l.getD j 0))

theorem Big.below {w w' : World} {v : Value} {l : List Int} (h : Big w v l) (hb : Below w.heap.size w w') : Big w' v l := by
  obtain ⟨g, cap, h1, h2, h3, h4, h5⟩ := h
  exact ⟨g, cap, h1, h2, h3, Nat.lt_of_lt_of_le h4 hb.size, fun j hj => (hb.cell (p := ⟨g, j, none⟩) h4).trans (h5 j hj)⟩

theorem trim_end {l : List Int} {k g cap : Nat} {w : World} (hd : OkD l) (hk : k ≤ l.length) (hz : ∀ j, k ≤ j → j < l.length → l.getD j 0 = 0) (ht : k = 0 ∨ l.getD (k - 1) 0 ≠ 0)
    (h2 : l.length ≤ cap) (h3 : cap ≤ 2 ^ 63 - 1) (h4 : g < w.heap.size) (h5 : ∀ j, j < l.length → w.cell? ⟨g, j, none⟩ = some (.int .i64 (l.getD j 0))) :
    Big w (.slice (some ⟨g, 0, none⟩) k cap) (dig (nval l)) := by
  have e := take_trim hd hk hz ht
  have el : (dig (nval l)).length = k := by rw [← e, List.length_take]; omega
  refine ⟨g, cap, by rw [el], by omega, by unfold maxLen; exact h3, h4, fun j hj => ?_⟩
  rw [h5 j (by omega), ← e]
  rw [List.getD_eq_getElem?_getD, List.getD_eq_getElem?_getD, List.getElem?_take_of_lt (by omega)]

set_option maxHeartbeats 400000 in
theorem trim_any (l : List Int) (v : Value) (w : World) (h : Big w v l) (hl : l.length ≤ 1000000000) (hd : OkD l) :
    Calls Tryz.prog 172 #[v] w fun e w' => ∃ v', e = .returned v' ∧ Big w v' (dig (nval l)) ∧ w' = w := by
  obtain ⟨g, cap, rfl, h2, h3, h4, h5⟩ := h
  unfold maxLen at h3
  go_enter Tryz.func172, Tryz.ntmps172
  go_wp2
  go_loop [0] (fun a => ∃ k : Nat, k ≤ l.length ∧ a = .slice (some ⟨g, 0, none⟩) k cap ∧ ∀ j, k ≤ j → j < l.length → l.getD j 0 = 0) (fun a => match a with | .slice _ k _ => k | _ => 0)
  case atStart => exact ⟨l.length, Nat.le_refl _, rfl, fun j h1 h2 => by omega⟩
  case round =>
    obtain ⟨k, hk, rfl, hz⟩ := hrel
    by_cases hk0 : 0 < k
    · have hc := h5 (k - 1) (by omega)
      have hk1 : ((k : Int) - 1).toNat = k - 1 := by omega
      go_wp2
      · have hv : (l[k - 1]?.getD 0 == 0) = true := by assumption
        have hv' : l.getD (k - 1) 0 = 0 := by rw [List.getD_eq_getElem?_getD]; simpa using hv
        go_round
        case rel => exact ⟨k - 1, by omega, rfl, fun j h1 h2 => by
          by_cases e : j = k - 1
          · subst e; exact hv'
          · exact hz j (by omega) h2⟩
        case measure => simp; omega
      · have hv : (l[k - 1]?.getD 0 == 0) = false := by assumption
        have hv' : l.getD (k - 1) 0 ≠ 0 := by rw [List.getD_eq_getElem?_getD]; simpa using hv
        go_ret
        exact ⟨_, rfl, trim_end hd hk hz (.inr hv') h2 h3 h4 h5, rfl⟩
    · go_wp2
      go_ret
      exact ⟨_, rfl, trim_end hd hk hz (.inl (by omega)) h2 h3 h4 h5, rfl⟩
end Go.Proofs.YtamdnnkdnhkghaaGreatDoor

namespace Go.Proofs.YtamdnnkdnhkghaaGreatDoor
open Go Go.RowKit
set_option linter.unusedVariables false

theorem Tryz.info3 : (Tryz.prog.info? 3).map (fun i => (i.zero, i.size, i.bytes)) = some (some (.int .i64 0), 1, 8) := by kernel_rfl

theorem big_of_owns {w : World} {B : Nat} {v : Value} {L : List Int} (h : w.ownsRow B 3 1 v L.length (L.map (Value.int .i64))) (hv : v ≠ .slice none 0 0) : Big w v L := by
  obtain ⟨h1, h2⟩ := h
  rcases h2 with ⟨rfl, _⟩ | ⟨g, cap, cur, rfl, hB, hh, hn, hc, hs, ht⟩
  · exact absurd rfl hv
  · have hown : w.ownsRow B 3 1 (.slice (some ⟨g, 0, none⟩) L.length cap) L.length (L.map (Value.int .i64)) := ⟨h1, .inr ⟨g, cap, cur, rfl, hB, hh, hn, hc, hs, ht⟩⟩
    refine ⟨g, cap, rfl, hn, hc, (hown.lt g rfl).2, fun j hj => ?_⟩
    rw [hown.cellAt j (by omega), List.getElem?_map, List.getElem?_eq_getElem hj, getD_lt hj]; rfl

set_option maxHeartbeats 800000 in
set_option maxRecDepth 100000 in
theorem times_any (n m c0 : Nat) (v : Value) (w : World) (h : Big w v (dig n)) (hl : (dig n).length ≤ 100000) (hm : m ≤ 10000) (hc0 : c0 ≤ 100000000) :
    Calls Tryz.prog 158 #[v, .int .i64 m, .int .i64 c0] w fun e w' => ∃ v', e = .returned v' ∧ Big w' v' (dig (n * m + c0)) ∧ Below w.heap.size w w' := by
  obtain ⟨g, cap, rfl, h2, h3, h4, h5⟩ := h
  unfold maxLen at h3
  obtain ⟨i0, hi, hz0, hz1, hz2⟩ := info_parts Tryz.info3
  generalize hlen : (dig n).length = len at *
  have Hlen := hide hlen
  clear hlen
  go_enter Tryz.func158, Tryz.ntmps158
  go_wp2
  go_loopw [2, 7, 13] (fun c o i wr => ∃ (k cN : Nat) (L : List Int), k ≤ len ∧ i = .int .i64 k ∧ c = .int .i64 cN ∧ cN ≤ 100000000 ∧ L.length = k ∧ wr.ownsRow w.heap.size 3 1 o L.length (L.map (Value.int .i64)) ∧ o ≠ .slice none 0 0 ∧
      OkD L ∧ nval L + 10000 ^ k * cN = n % 10000 ^ k * m + c0 ∧ Below w.heap.size w wr) (fun _ _ i _ => len - (intOf i).toNat)
  case atStart =>
    refine ⟨0, c0, [], Nat.zero_le _, rfl, rfl, hc0, rfl, World.ownsRow_made w #[] 0 (Nat.le_refl _) (by simp [maxLen]) rfl, ?_, ?_, ?_, (Below.refl _ _).alloc (Nat.le_refl _) _⟩
    · intro h; cases h
    · intro d hd; cases hd
    · simp [nval, Nat.mod_one]
  case round =>
    obtain ⟨k, cN, L, hk, rfl, rfl, hcN, hLk, hown, hne, hok, hval, hb⟩ := hrel
    by_cases hlt : k < len
    · have hcx : wr.cell? ⟨g, k, none⟩ = some (.int .i64 ((dig n).getD k 0)) := (hb.cell (by exact h4)).trans (h5 k (by omega))
      rw [dig_getD] at hcx
      generalize hdd : n / 10000 ^ k % 10000 = d at *
      have hd1 : d < 10000 := by omega
      have Hval := hide hval
      have Hdd := hide hdd
      have HLk := hide hLk
      have hdm : d * m ≤ 99990000 := by have := Nat.mul_le_mul (show d ≤ 9999 by omega) hm; omega
      have hdm1 : (0 : Int) ≤ (d : Int) * (m : Int) := by rw [← Int.natCast_mul]; omega
      have hdm2 : (d : Int) * (m : Int) ≤ 99990000 := by rw [← Int.natCast_mul]; omega
      have hbs := hb.size
      have Hdm := hide hdm
      clear hval hdd hLk hdm
      go_wp2_with (first
        | (at_builtin; refine wpList_append_own _ rfl _ _ 121 rfl w.heap.size 3 i0 (.int .i64 0) 1 8 Tryz.underlying121 hi hz0 hz1 hz2 rfl (by decide) _ _ _ rfl (hown.alloc _) ⟨wr.heap.size, 0, none⟩ 1 1 [.int .i64 (((cN : Int) + d * m) % 10000)] rfl rfl ?c1 ?c2 ?c3 ?c4 ?c5 ?_)
        | go_in)
      case c1 =>
        intro j u hj
        match j, hj with
        | 0, hj => simp at hj; subst hj; simp [Addr.add]
      case c2 => intro u hu; simp at hu; subst hu; rfl
      case c3 => have := HLk.out; unfold maxLen; omega
      case c4 => have := HLk.out; omega
      case c5 => simp; omega
      intro v' w1 hown' hgrow hnn
      have R : w1.ownsRow w.heap.size 3 1 v' (L ++ [(((cN + d * m) % 10000 : Nat) : Int)]).length ((L ++ [(((cN + d * m) % 10000 : Nat) : Int)]).map (Value.int .i64)) ∧ v' ≠ .slice none 0 0 ∧ Below w.heap.size w w1 :=
        ⟨by simpa using hown', fun h => hnn h, (hb.alloc hbs _).grown hgrow (by simp; omega) (fun q hq => (hown.lt q hq).1)⟩
      have S := hide (times_step HLk.out Hdd.out Hval.out)
      clear hown' hgrow hnn hown hcx Hval
      go_wp2
      go_roundw
      case rel => exact ⟨k + 1, (cN + d * m) / 10000, L ++ [(((cN + d * m) % 10000 : Nat) : Int)], by omega, by go_num, by go_num, by have := Hdm.out; omega, by have := HLk.out; simp; omega, R.1, R.2.1, okD_snoc hok (by omega) (by omega), S.out, R.2.2⟩
      case measure => simp [intOf]; omega
    · have hkl : k = len := by omega
      subst hkl
      have hN : nval L + 10000 ^ L.length * cN = n * m + c0 := by rw [hLk, hval, ← Hlen.out, mod_all]
      generalize hNN : n * m + c0 = N at *
      have HNN := hide hNN
      have HN := hide hN
      have HLk := hide hLk
      clear hval hN hLk h5 hNN
      go_wp2
      go_loopw [2, 7] (fun c o wq => ∃ (cN : Nat) (L : List Int), c = .int .i64 cN ∧ L.length + cN ≤ k + 100000000 ∧ wq.ownsRow w.heap.size 3 1 o L.length (L.map (Value.int .i64)) ∧ o ≠ .slice none 0 0 ∧
        OkD L ∧ nval L + 10000 ^ L.length * cN = N ∧ Below w.heap.size w wq) (fun c _ _ => (intOf c).toNat)
      case atStart => exact ⟨cN, L, rfl, by have := HLk.out; omega, hown, hne, hok, HN.out, hb⟩
      case round =>
        clear hown hne hok HN hb HLk hk hcN
        obtain ⟨cM, M, rfl, hcM, hown, hne, hok, hval, hb⟩ := hrel
        have Hval := hide hval
        have hbs := hb.size
        clear hval
        by_cases hc : 0 < cM
        · go_wp2_with (first
            | (at_builtin; refine wpList_append_own _ rfl _ _ 121 rfl w.heap.size 3 i0 (.int .i64 0) 1 8 Tryz.underlying121 hi hz0 hz1 hz2 rfl (by decide) _ _ _ rfl (hown.alloc _) ⟨wr.heap.size, 0, none⟩ 1 1 [.int .i64 ((cM : Int) % 10000)] rfl rfl ?d1 ?d2 ?d3 ?d4 ?d5 ?_)
            | go_in)
          case d1 =>
            intro j u hj
            match j, hj with
            | 0, hj => simp at hj; subst hj; simp [Addr.add]
          case d2 => intro u hu; simp at hu; subst hu; rfl
          case d3 => unfold maxLen; omega
          case d4 => omega
          case d5 => simp; omega
          intro v' w1 hown' hgrow hnn
          have R : w1.ownsRow w.heap.size 3 1 v' (M ++ [((cM % 10000 : Nat) : Int)]).length ((M ++ [((cM % 10000 : Nat) : Int)]).map (Value.int .i64)) ∧ v' ≠ .slice none 0 0 ∧ Below w.heap.size w w1 :=
            ⟨by simpa using hown', fun h => hnn h, (hb.alloc hbs _).grown hgrow (by simp; omega) (fun q hq => (hown.lt q hq).1)⟩
          have S := hide (carry_step rfl Hval.out)
          clear hown' hgrow hnn hown Hval
          go_wp2
          go_roundw
          case rel => exact ⟨cM / 10000, M ++ [((cM % 10000 : Nat) : Int)], by go_num, by simp; omega, R.1, R.2.1, okD_snoc hok (by omega) (by omega), by simpa using S.out, R.2.2⟩
          case measure => simp [intOf]; omega
        · have hcz : cM = 0 := by omega
          subst hcz
          have hbig := big_of_owns hown hne
          have hvv : nval M = N := by simpa using Hval.out
          have Hvv := hide hvv
          clear hvv Hval
          go_wp2_with (go_at_call 172; refine (trim_any M _ _ hbig (by omega) hok).mono ?_; rintro e w' ⟨v', rfl, hbig', rfl⟩)
          go_ret
          exact ⟨_, rfl, by rw [HNN.out, ← Hvv.out]; exact hbig', hb⟩
end Go.Proofs.YtamdnnkdnhkghaaGreatDoor

namespace Go.Proofs.YtamdnnkdnhkghaaGreatDoor
open Go Go.RowKit
set_option linter.unusedVariables false

theorem made_ints (n : Nat) : (madeCells (Value.int .i64 0).cells (n * 1)).toList = (List.replicate n (0 : Int)).map (Value.int .i64) := by
  show (madeCells #[.int .i64 0] (n * 1)).toList = _
  rw [toList_madeCells_one]; simp

set_option maxHeartbeats 800000 in
set_option maxRecDepth 100000 in
theorem half_any (n : Nat) (v : Value) (w : World) (h : Big w v (dig n)) (hl : (dig n).length ≤ 100000000) :
    Calls Tryz.prog 159 #[v] w fun e w' => ∃ v', e = .returned v' ∧ Big w' v' (dig (n / 2)) ∧ Below w.heap.size w w' := by
  obtain ⟨g, cap, rfl, h2, h3, h4, h5⟩ := h
  unfold maxLen at h3
  obtain ⟨i0, hi, hz0, hz1, hz2⟩ := info_parts Tryz.info3
  have Hn := hide (Nat.div_eq_of_lt (dig_lt n))
  have Hlt := hide (dig_lt n)
  generalize (dig n).length = len at *
  go_enter Tryz.func159, Tryz.ntmps159
  go_wp2_with (first
    | (at_make; refine wpList_make_full _ rfl _ _ 121 rfl w.heap.size 3 i0 (.int .i64 0) 1 Tryz.underlying121 hi hz0 hz1 _ _ _ _ len rfl rfl rfl rfl (by rw [hz2]; omega) (by unfold maxLen; omega) (Nat.le_refl _) ?_; intro w1 hown hgrow)
    | go_in)
  have hb1 : Below w.heap.size w w1 := (Below.refl _ _).grown hgrow (Nat.le_refl _) (fun _ h => by cases h)
  rw [made_ints, ← halfTo_start n] at hown
  clear hgrow
  go_wp2
  go_loopw [4, 5] (fun c i wr => ∃ j : Nat, j ≤ len ∧ i = .int .i64 ((j : Int) - 1) ∧ c = .int .i64 ((n / 10000 ^ j % 2 : Nat) : Int) ∧
      wr.ownsRow w.heap.size 3 1 (.slice (some ⟨w.heap.size, 0, none⟩) len len) len ((halfTo n len j).map (Value.int .i64)) ∧ Below w.heap.size w wr) (fun _ i _ => (intOf i + 1).toNat)
  case atStart => exact ⟨len, Nat.le_refl _, rfl, by rw [Hn.out]; rfl, hown, hb1⟩
  case round =>
    clear hown hb1
    obtain ⟨j, hj, rfl, rfl, hown, hb⟩ := hrel
    cases j with
    | zero =>
      have hbig := big_of_owns (L := halfTo n len 0) (by rw [halfTo_length]; exact hown) (fun h => by cases h)
      rw [halfTo_end] at hbig
      go_wp2_with (go_at_call 172; refine (trim_any (digs (n / 2) len) _ _ hbig (by rw [digs_length]; omega) (digs_ok _ _)).mono ?_; rintro e w' ⟨v', rfl, hbig', rfl⟩)
      go_ret
      refine ⟨_, rfl, ?_, hb⟩
      rw [nval_digs, Nat.mod_eq_of_lt (by have := Hlt.out; omega)] at hbig'
      exact hbig'
    | succ k =>
      have hcx : wr.cell? ⟨g, k, none⟩ = some (.int .i64 ((dig n).getD k 0)) := (hb.cell (by exact h4)).trans (h5 k (by omega))
      rw [dig_getD] at hcx
      have hfr := hown.frozenAt k
      have hx := hown.stored k (.int .i64 ((n / 2 / 10000 ^ k % 10000 : Nat) : Int))
      have Hd := hide (half_digit n k)
      have Hc := hide (half_carry n k)
      have hd1 : n / 10000 ^ k % 10000 < 10000 := by omega
      have hd2 : n / 10000 ^ (k + 1) % 2 < 2 := by omega
      generalize n / 10000 ^ k % 10000 = d at *
      generalize n / 10000 ^ (k + 1) % 2 = c at *
      obtain ⟨u, hu⟩ : ∃ u, wr.cell? ⟨w.heap.size, k, none⟩ = some u := by
        rw [hown.cellAt k (by omega), List.getElem?_map, List.getElem?_eq_getElem (by rw [halfTo_length]; omega)]; exact ⟨_, rfl⟩
      have R : (wr.setCell ⟨w.heap.size, k, none⟩ (.int .i64 (((c * 10000 + d) / 2 : Nat) : Int))).ownsRow w.heap.size 3 1 (.slice (some ⟨w.heap.size, 0, none⟩) len len) len ((halfTo n len k).map (Value.int .i64)) ∧
          Below w.heap.size w (wr.setCell ⟨w.heap.size, k, none⟩ (.int .i64 (((c * 10000 + d) / 2 : Nat) : Int))) := by
        rw [Hd.out, ← halfTo_step n len k, List.map_set]
        exact ⟨hx.1, hb.setCell (Nat.le_refl _) _⟩
      clear hown hx Hd
      go_wp2
      go_roundw
      case rel => exact ⟨k, by omega, rfl, by rw [← Hc.out]; rfl, R.1, R.2⟩
      case measure => simp [intOf]
end Go.Proofs.YtamdnnkdnhkghaaGreatDoor
