import Derived.Test.YtamdnnkdnhkghaaGreatDoorP02
import Derived.Test.YtamdnnkdnhkghaaGreatDoorP03
import Derived.RowKit
namespace Go.Proofs.YtamdnnkdnhkghaaGreatDoor

theorem exists_rnd (N : Nat) {d : Nat} (hd : 0 < d) : ∃ W, IsRnd N d W := by
  have key : ∀ m, (∃ k, k ≤ m ∧ N < d * 2 ^ (53 + k)) → ∃ k, N < d * 2 ^ (53 + k) ∧ (k = 0 ∨ d * 2 ^ (52 + k) ≤ N) := by
    intro m
    induction m with
    | zero => rintro ⟨k, hk, h⟩; exact ⟨k, h, .inl (by omega)⟩
    | succ m ih =>
      rintro ⟨k, hk, h⟩
      by_cases h0 : k = 0
      · exact ⟨k, h, .inl h0⟩
      · by_cases hle : d * 2 ^ (52 + k) ≤ N
        · exact ⟨k, h, .inr hle⟩
        · refine ih ⟨k - 1, by omega, ?_⟩
          have : 53 + (k - 1) = 52 + k := by omega
          rw [this]; omega
  obtain ⟨k, h1, h2⟩ := key N ⟨N, Nat.le_refl _, by
    have h1 : N < 2 ^ N := Nat.lt_two_pow_self
    have h2 : 2 ^ N ≤ 2 ^ (53 + N) := Nat.pow_le_pow_right (by omega) (by omega)
    have h3 : 1 * 2 ^ (53 + N) ≤ d * 2 ^ (53 + N) := Nat.mul_le_mul_right _ hd
    omega⟩
  exact ⟨_, k, h1, h2, rfl⟩

theorem rq_ge (N D : Nat) : N / D ≤ rq N D := by unfold rq; omega

theorem rnd_small {N d : Nat} (h : 2 * N < d) : IsRnd N d 0 := by
  refine ⟨0, ?_, .inl rfl, ?_⟩
  · have : d * 1 ≤ d * 2 ^ (53 + 0) := Nat.mul_le_mul_left _ (Nat.one_le_two_pow)
    omega
  · have e1 : d * 2 ^ 0 = d := by simp
    rw [e1]
    unfold rq
    rw [Nat.div_eq_of_lt (by omega), Nat.mod_eq_of_lt (by omega), if_neg (by omega)]
    simp

theorem rnd_great {N d W a : Nat} (hd : 0 < d) (ha : 2098 ≤ a) (h : d * 2 ^ a ≤ N) (hw : IsRnd N d W) : W = infW := by
  obtain ⟨k, h1, h2, h3⟩ := hw
  have hk : 2046 ≤ k := by
    refine Nat.le_of_not_lt fun hlt => ?_
    have hka : 53 + k ≤ a := by clear h h1 h2 h3; omega
    have : d * 2 ^ (53 + k) ≤ d * 2 ^ a := Nat.mul_le_mul_left _ (Nat.pow_le_pow_right (Nat.succ_pos 1) hka)
    exact Nat.lt_irrefl _ (Nat.lt_of_lt_of_le h1 (Nat.le_trans this h))
  have h4 : d * 2 ^ (52 + k) ≤ N := by
    rcases h2 with h2 | h2
    · clear h h1 h3; omega
    · exact h2
  clear h h1 h2
  have h5 : 4503599627370496 ≤ N / (d * 2 ^ k) := by
    rw [Nat.le_div_iff_mul_le (Nat.mul_pos hd (Nat.pow_pos (Nat.succ_pos 1)))]
    have e : 4503599627370496 * (d * 2 ^ k) = d * 2 ^ (52 + k) := by
      rw [Nat.pow_add]; exact Nat.mul_left_comm _ _ _
    rw [e]; exact h4
  have h6 := rq_ge N (d * 2 ^ k)
  generalize rq N (d * 2 ^ k) = x at *
  generalize N / (d * 2 ^ k) = y at *
  clear h4 hd
  rw [h3]
  unfold infW
  omega

/-- The number that decimal digits (as bytes) tell. -/
def dval (l : List Int) : Nat := l.foldl (fun a c => a * 10 + (c - 48).toNat) 0

theorem dval_snoc (l : List Int) (c : Int) : dval (l ++ [c]) = dval l * 10 + (c - 48).toNat := by simp [dval, List.foldl_append]

/-- How many digits a number has, none for nought. -/
def size10 (n : Nat) : Nat := if h : n = 0 then 0 else size10 (n / 10) + 1
termination_by n
decreasing_by omega

theorem size10_zero : size10 0 = 0 := by rw [size10]; simp

theorem size10_pos {n : Nat} (h : n ≠ 0) : size10 n = size10 (n / 10) + 1 := by rw [size10]; simp [h]

theorem size10_step (n c : Nat) (hc : c < 10) : size10 (n * 10 + c) = if n * 10 + c = 0 then 0 else size10 n + 1 := by
  by_cases h : n * 10 + c = 0
  · rw [h, size10_zero]; simp
  · rw [size10_pos h, if_neg h]
    have : (n * 10 + c) / 10 = n := by omega
    rw [this]

theorem size10_lt (n : Nat) : n < 10 ^ size10 n := by
  induction n using Nat.strongRecOn with
  | ind n ih =>
    by_cases h : n = 0
    · subst h; rw [size10_zero]; simp
    · rw [size10_pos h, Nat.pow_succ]
      have := ih (n / 10) (by omega)
      omega

theorem size10_ge {n : Nat} (h : n ≠ 0) : 10 ^ (size10 n - 1) ≤ n := by
  induction n using Nat.strongRecOn with
  | ind n ih =>
    rw [size10_pos h]
    by_cases h2 : n / 10 = 0
    · rw [h2, size10_zero]; simp; omega
    · have := ih (n / 10) (by omega) h2
      have hp : size10 (n / 10) ≠ 0 := by rw [size10_pos h2]; omega
      obtain ⟨m, hm⟩ := Nat.exists_eq_succ_of_ne_zero hp
      rw [hm] at this ⊢
      simp only [Nat.succ_eq_add_one, Nat.add_sub_cancel, Nat.pow_succ] at this ⊢
      omega

theorem size10_le_length (l : List Int) (h : ∀ c ∈ l, 48 ≤ c ∧ c ≤ 57) : size10 (dval l) ≤ l.length := by
  have key : ∀ (l : List Int) (a : Nat), (∀ c ∈ l, 48 ≤ c ∧ c ≤ 57) → size10 (l.foldl (fun a c => a * 10 + (c - 48).toNat) a) ≤ size10 a + l.length := by
    intro l
    induction l with
    | nil => intro a _; simp
    | cons c r ih =>
      intro a hc
      have h1 := hc c (by simp)
      have h2 := ih (a * 10 + (c - 48).toNat) (fun x hx => hc x (by simp [hx]))
      have h3 := size10_step a (c - 48).toNat (by omega)
      simp only [List.foldl_cons, List.length_cons]
      split at h3 <;> omega
  have := key l 0 h
  rw [size10_zero] at this
  unfold dval
  omega

theorem rnd_under' {N a b : Nat} {E : Int} (h3 : 2 * 2 ^ b < 10 ^ a) (h : (size10 N : Int) + E < -(a : Int)) : IsRnd (N * 10 ^ E.toNat * 2 ^ b) (10 ^ (-E).toNat) 0 := by
  refine rnd_small ?_
  have hE : E.toNat = 0 := by omega
  rw [hE, Nat.pow_zero, Nat.mul_one]
  have h1 := size10_lt N
  have h2 : 10 ^ size10 N * 10 ^ a ≤ 10 ^ (-E).toNat := by
    rw [← Nat.pow_add]; exact Nat.pow_le_pow_right (by omega) (by omega)
  refine Nat.lt_of_lt_of_le ?_ h2
  have e : 2 * (N * 2 ^ b) = N * (2 * 2 ^ b) := Nat.mul_left_comm _ _ _
  rw [e]
  exact Nat.lt_of_le_of_lt (Nat.mul_le_mul_right _ (Nat.le_of_lt h1)) (Nat.mul_lt_mul_of_pos_left h3 (Nat.pow_pos (by omega)))

theorem pow_fact1 : 2 * 2 ^ 1074 < 10 ^ 330 := by decide +kernel

/-- Below 10^-330 a number rounds to nought. -/
theorem rnd_under {N : Nat} {E : Int} (h : (size10 N : Int) + E < -330) : IsRnd (N * 10 ^ E.toNat * 2 ^ 1074) (10 ^ (-E).toNat) 0 :=
  rnd_under' (a := 330) (b := 1074) pow_fact1 (by omega)

theorem rnd_over' {N W a b c : Nat} {E : Int} (hc : 2098 ≤ c) (h3 : 2 ^ c ≤ 10 ^ a * 2 ^ b) (hN : N ≠ 0) (h : (a : Int) < (size10 N : Int) + E) (hw : IsRnd (N * 10 ^ E.toNat * 2 ^ b) (10 ^ (-E).toNat) W) : W = infW := by
  refine rnd_great (Nat.pow_pos (by omega)) hc ?_ hw
  have h1 := size10_ge hN
  have h4 : 10 ^ (-E).toNat * 10 ^ a ≤ 10 ^ (size10 N - 1) * 10 ^ E.toNat := by
    rw [← Nat.pow_add, ← Nat.pow_add]; exact Nat.pow_le_pow_right (by omega) (by omega)
  refine Nat.le_trans (Nat.mul_le_mul_left _ h3) ?_
  rw [← Nat.mul_assoc]
  exact Nat.le_trans (Nat.mul_le_mul_right _ h4) (Nat.mul_le_mul_right _ (Nat.mul_le_mul_right _ h1))

theorem pow_fact2 : 2 ^ 2098 ≤ 10 ^ 310 * 2 ^ 1074 := by decide +kernel

/-- From 10^310 on a number rounds to what is too great. -/
theorem rnd_over {N W : Nat} {E : Int} (hN : N ≠ 0) (h : 310 < (size10 N : Int) + E) (hw : IsRnd (N * 10 ^ E.toNat * 2 ^ 1074) (10 ^ (-E).toNat) W) : W = infW :=
  rnd_over' (a := 310) (b := 1074) (c := 2098) (by omega) pow_fact2 hN (by omega) hw

end Go.Proofs.YtamdnnkdnhkghaaGreatDoor

namespace Go.Proofs.YtamdnnkdnhkghaaGreatDoor

open Go Go.RowKit

set_option linter.unusedVariables false

/-- The slice v holds the bytes l, from the head of a block on. -/
def Byt (w : World) (v : Value) (l : List Int) : Prop :=
  ∃ g cap, v = .slice (some ⟨g, 0, none⟩) l.length cap ∧ l.length ≤ cap ∧ cap ≤ maxLen ∧ g < w.heap.size ∧
    ∀ j, j < l.length → w.cell? ⟨g, j, none⟩ = some (.int .u8 (l.getD j 0))

/-- W is the word of the float nearest to N * 10^E. -/
def DecRnd (N : Nat) (E : Int) (W : Nat) : Prop := IsRnd (N * 10 ^ E.toNat * 2 ^ 1074) (10 ^ (-E).toNat) W

theorem isRnd_zero (a b d : Nat) (hd : 0 < d) : IsRnd (0 * a * b) d 0 := by
  rw [Nat.zero_mul, Nat.zero_mul]; exact rnd_small (by omega)

theorem decRnd_zero (E : Int) : DecRnd 0 E 0 := isRnd_zero _ _ _ (Nat.pow_pos (by omega))

theorem decRnd_under {N : Nat} {E : Int} (h : (size10 N : Int) + E < -330) : DecRnd N E 0 := rnd_under h

theorem decRnd_over {N : Nat} {E : Int} (hN : N ≠ 0) (h : 310 < (size10 N : Int) + E) : DecRnd N E infW := by
  obtain ⟨W, hW⟩ := exists_rnd (N * 10 ^ E.toNat * 2 ^ 1074) (d := 10 ^ (-E).toNat) (Nat.pow_pos (by omega))
  have := rnd_over hN h hW
  subst this
  exact hW

theorem word_rnd {N : Nat} {E : Int} {W : Nat} (h : IsRnd (N * 10 ^ E.toNat * 2 ^ ((0 : Int) + 1074).toNat) (10 ^ (-E).toNat * 2 ^ (-1074 - (0 : Int)).toNat) W) : DecRnd N E W := by
  unfold DecRnd
  have e1 : ((0 : Int) + 1074).toNat = 1074 := rfl
  have e2 : (-1074 - (0 : Int)).toNat = 0 := rfl
  rw [e1, e2, Nat.pow_zero, Nat.mul_one] at h
  exact h

theorem len_ten {N a k : Nat} (h : size10 N + a ≤ k) : (dig (N * 10 ^ a)).length ≤ k := by
  have h0 := size10_lt N
  have h1 : N * 10 ^ a < 10 ^ (size10 N + a) := by rw [Nat.pow_add]; exact Nat.mul_lt_mul_of_pos_right h0 (Nat.pow_pos (by omega))
  exact dig_length_le (Nat.lt_of_lt_of_le h1 (Nat.le_trans (Nat.pow_le_pow_right (by omega) h) (Nat.pow_le_pow_left (by omega) k)))

theorem getD_mem {l : List Int} {k : Nat} (h : k < l.length) : l.getD k 0 ∈ l := by rw [getD_lt h]; exact List.getElem_mem h

theorem dval_take {l : List Int} {k : Nat} (h : k < l.length) : dval (l.take (k + 1)) = dval (l.take k) * 10 + (l.getD k 0 - 48).toNat := by
  rw [List.take_succ_eq_append_getElem h, dval_snoc, getD_lt h]

theorem dig_size_pos {n : Nat} : 0 < (dig n).length ↔ n ≠ 0 := by
  constructor
  · intro h e; subst e; rw [dig_zero] at h; simp at h
  · intro h; rw [dig_pos h]; simp

theorem big_one (w : World) : Big (w.alloc (.cells #[.int .i64 1] 3)) (.slice (some ⟨w.heap.size, 0, none⟩) 1 1) (dig 1) := by
  have e : dig 1 = [1] := by rw [dig_pos (by omega)]; simp [dig_zero]
  rw [e]
  exact big_of_owns (B := w.heap.size) (World.ownsRow_lit (base := w.heap.size) (e := 3) (size := 1) w #[.int .i64 1] 1 (Nat.le_refl _) (by simp [maxLen]) rfl) (fun h => by cases h)

theorem pow10_int (n k : Nat) (K : Int) (hK : K = (k : Int)) (v : Value) (w : World) (h : Big w v (dig n)) (hn : n ≠ 0) (hl : (dig n).length + k ≤ 100000) :
    Calls Tryz.prog 167 #[v, .int .i64 K] w fun e w' => ∃ v', e = .returned v' ∧ Big w' v' (dig (n * 10 ^ k)) ∧ Below w.heap.size w w' := by
  subst hK; exact pow10_any n k v w h hn hl

/-- What 'l01Nearest' hands back for N * 10^E. -/
def NearR (w : World) (N : Nat) (E : Int) (e : Ending) (w' : World) : Prop :=
  ∃ (W : Nat) (ok : Bool) (W0 : Nat), e = .returned (.tuple #[.int .u64 W, .bool ok]) ∧ DecRnd N E W0 ∧ ok = (W0 != infW) ∧ (ok = true → W = W0) ∧ Below w.heap.size w w'

theorem nearR_mk {w : World} {N : Nat} {E : Int} {e : Ending} {w' : World} (W : Nat) (ok : Bool) (W0 : Nat) (h1 : e = .returned (.tuple #[.int .u64 W, .bool ok])) (h2 : DecRnd N E W0) (h3 : ok = (W0 != infW)) (h4 : ok = true → W = W0)
    (h5 : Below w.heap.size w w') : NearR w N E e w' := ⟨W, ok, W0, h1, h2, h3, h4, h5⟩

set_option maxHeartbeats 1600000 in
set_option maxRecDepth 100000 in
theorem nearest_any (l : List Int) (E : Int) (v : Value) (w : World) (h : Byt w v l) (hl : l.length ≤ 101) (hd : ∀ c ∈ l, 48 ≤ c ∧ c ≤ 57) (hE1 : -1200 ≤ E) (hE2 : E ≤ 1200) :
    Calls Tryz.prog 118 #[v, .int .i64 E] w fun e w' => NearR w (dval l) E e w' := by
  obtain ⟨g, cap, rfl, h2, h3, h4, h5⟩ := h
  unfold maxLen at h3
  have Hd := hide hd
  have Hsz := hide (size10_le_length l hd)
  clear hd
  have Htl : Hid (l.take l.length = l) := hide (List.take_length)
  generalize hlen : l.length = len at *
  have Hlen := hide hlen
  clear hlen
  go_enter Tryz.func118, Tryz.ntmps118
  go_wp2
  go_loopw [6, 7, 15] (fun nv sv iv wr => ∃ k N s : Nat, k ≤ len ∧ iv = .int .i64 k ∧ Hid (N = dval (l.take k)) ∧ Big wr nv (dig N) ∧ sv = .int .i64 s ∧ s ≤ k ∧ Hid (s = size10 N) ∧ (dig N).length ≤ k ∧ Below w.heap.size w wr) (fun _ _ iv _ => len - (intOf iv).toNat)
  case atStart =>
    exact ⟨0, 0, 0, Nat.zero_le _, rfl, hide rfl, by rw [dig_zero]; exact (ownI_empty w).big, rfl, Nat.le_refl _, hide (by rw [size10_zero]), by rw [dig_zero]; simp, (Below.refl _ _).alloc (Nat.le_refl _) _⟩
  case round =>
    obtain ⟨k, N, s, hk, rfl, HN, hbig, rfl, hsk, Hs, hlN, hb⟩ := hrel
    by_cases hlt : k < len
    · have hcx : wr.cell? ⟨g, k, none⟩ = some (.int .u8 (l.getD k 0)) := (hb.cell (by exact h4)).trans (h5 k (by omega))
      have hc := Hd.out _ (getD_mem (l := l) (k := k) (by rw [Hlen.out]; exact hlt))
      have HS := hide (dval_take (l := l) (k := k) (by rw [Hlen.out]; exact hlt))
      generalize l.getD k 0 = c at *
      go_wp2_with fail
      refine (times_int N 10 (c - 48).toNat _ _ rfl (by omega) _ _ hbig (by omega) (by omega) (by omega)).mono ?_
      rintro e w1 ⟨v1, rfl, hbig1, hb1⟩
      have hlen1 : (dig (N * 10 + (c - 48).toNat)).length ≤ k + 1 := dig_length_le (by
        have h1 := dig_lt N
        have h2 : 10000 ^ (dig N).length ≤ 10000 ^ k := Nat.pow_le_pow_right (by omega) hlN
        rw [Nat.pow_succ]; omega)
      have HN1 : Hid (N * 10 + (c - 48).toNat = dval (l.take (k + 1))) := hide (by rw [HS.out, HN.out])
      have Hs1 := hide (size10_step N (c - 48).toNat (by omega))
      have Hp := hide (dig_size_pos (n := N * 10 + (c - 48).toNat))
      have HNz : Hid (N * 10 + (c - 48).toNat = 0 → N = 0) := hide (by omega)
      generalize N * 10 + (c - 48).toNat = N1 at *
      obtain ⟨g1, cap1, hv1⟩ := hbig1.len
      subst hv1
      by_cases hp : 0 < (dig N1).length
      · go_wp2
        go_roundw
        case rel => exact ⟨k + 1, N1, s + 1, by omega, by go_num, HN1, hbig1, by go_num, by omega, hide (by rw [Hs1.out, if_neg (Hp.out.1 hp), Hs.out]), hlen1, hb.trans (hb1.mono hb.size)⟩
        case measure => simp [intOf]; omega
      · have hN0 : N1 = 0 := Decidable.byContradiction fun hh => hp (Hp.out.2 hh)
        have HN0 := hide hN0
        clear hN0
        have Hs0 : Hid (s = size10 N1) := hide (by
          have h1 := HNz.out HN0.out
          rw [Hs.out, HN0.out, h1])
        go_wp2
        go_roundw
        case rel => exact ⟨k + 1, N1, s, by omega, by go_num, HN1, hbig1, rfl, by omega, Hs0, hlen1, hb.trans (hb1.mono hb.size)⟩
        case measure => simp [intOf]; omega
    · have hkl : k = len := by omega
      subst hkl
      have HNl : Hid (N = dval l) := hide (by rw [HN.out, Htl.out])
      obtain ⟨g1, cap1, hv1⟩ := hbig.len
      subst hv1
      by_cases hN0 : N = 0
      · have hz : (((dig N).length : Int) == 0) = true := by rw [hN0, dig_zero]; rfl
        have HN0 := hide hN0
        clear hN0
        go_wp2
        go_ret2
        exact nearR_mk 0 true 0 rfl (by rw [← HNl.out, HN0.out]; exact decRnd_zero E) rfl (fun _ => rfl) hb
      · have hpos := dig_size_pos.2 hN0
        have hz : (((dig N).length : Int) == 0) = false := by rw [beq_eq_false_iff_ne]; omega
        have HN0 := hide hN0
        clear hN0
        by_cases hlo : (s : Int) + E < -330
        · go_wp2
          go_ret2
          exact nearR_mk 0 true 0 rfl (by rw [← HNl.out]; exact decRnd_under (by rw [← Hs.out]; exact hlo)) rfl (fun _ => rfl) hb
        · by_cases hhi : 310 < (s : Int) + E
          · go_wp2
            go_ret2
            exact nearR_mk 0 false infW rfl (by rw [← HNl.out]; exact decRnd_over HN0.out (by rw [← Hs.out]; exact hhi)) (by simp) (fun h => by cases h) hb
          · by_cases hE : 0 ≤ E
            · go_wp2_with fail
              refine (pow10_int N E.toNat _ (by omega) _ _ (hbig.below ((Below.refl _ _).alloc (Nat.le_refl _) _)) HN0.out (by omega)).mono ?_
              rintro e w1 ⟨v1, rfl, hg1, hb1⟩
              have hlen1 : (dig (N * 10 ^ E.toNat)).length ≤ 1000 := Nat.le_trans (len_ten (N := N) (a := E.toNat) (k := 310) (by rw [← Hs.out]; omega)) (by omega)
              have hone := (big_one wr).below hb1
              go_wp2_with fail
              refine (word_any (N * 10 ^ E.toNat) 1 0 _ _ _ hg1 hone (by omega) hlen1 (by have := dig_length_le (n := 1) (k := 1) (by omega); omega) (by omega) (by omega) (Nat.mul_ne_zero HN0.out (Nat.pos_iff_ne_zero.1 (Nat.pow_pos (by omega))))).mono ?_
              rintro e w2 ⟨W, rfl, hW, hb2⟩
              have HW : Hid (DecRnd (dval l) E W) := hide (by
                refine word_rnd (N := dval l) (E := E) ?_
                have e1 : (-E).toNat = 0 := by omega
                rw [e1, ← HNl.out]
                exact hW)
              clear hW
              have hb012 : Below wr.heap.size wr w2 := ((((Below.refl _ _).alloc (Nat.le_refl _) _).trans (hb1.mono (by simp))).trans (hb2.mono (by have := hb1.size; simp at this; omega)))
              by_cases hWi : W = infW
              · have hwb : ((W : Int) != 9218868437227405312) = false := by rw [hWi]; rfl
                have HWi := hide hWi
                clear hWi
                go_wp2
                go_ret2
                exact nearR_mk W false W rfl HW.out (by rw [HWi.out]; simp) (fun h => by cases h) (hb.trans (hb012.mono hb.size))
              · have hwb : ((W : Int) != 9218868437227405312) = true := by rw [bne_iff_ne]; unfold infW at hWi; omega
                have HWi := hide hWi
                clear hWi
                go_wp2
                go_ret2
                exact nearR_mk W true W rfl HW.out (by have := HWi.out; simp [this]) (fun _ => rfl) (hb.trans (hb012.mono hb.size))
            · go_wp2_with fail
              refine (pow10_int 1 (-E).toNat _ (by omega) _ _ (big_one wr) (by omega) (by have := dig_length_le (n := 1) (k := 1) (by omega); omega)).mono ?_
              rintro e w1 ⟨v1, rfl, hg1, hb1⟩
              have hlen1 : (dig (1 * 10 ^ (-E).toNat)).length ≤ 2000 := by
                have h1 := dig_length_ten 1 (-E).toNat
                have h2 := dig_length_le (n := 1) (k := 1) (by omega)
                omega
              have hn1 := (hbig.below ((Below.refl _ _).alloc (Nat.le_refl _) (.cells #[.int .i64 1] 3))).below hb1
              go_wp2_with fail
              refine (word_any N (1 * 10 ^ (-E).toNat) 0 _ _ _ hn1 hg1 (Nat.mul_ne_zero (by omega) (Nat.pos_iff_ne_zero.1 (Nat.pow_pos (by omega)))) (by omega) hlen1 (by omega) (by omega) HN0.out).mono ?_
              rintro e w2 ⟨W, rfl, hW, hb2⟩
              have HW : Hid (DecRnd (dval l) E W) := hide (by
                refine word_rnd (N := dval l) (E := E) ?_
                have e1 : E.toNat = 0 := by omega
                rw [e1, ← HNl.out, Nat.pow_zero, Nat.mul_one]
                rw [Nat.one_mul] at hW
                exact hW)
              clear hW
              have hb012 : Below wr.heap.size wr w2 := ((((Below.refl _ _).alloc (Nat.le_refl _) _).trans (hb1.mono (by simp))).trans (hb2.mono (by have := hb1.size; simp at this; omega)))
              by_cases hWi : W = infW
              · have hwb : ((W : Int) != 9218868437227405312) = false := by rw [hWi]; rfl
                have HWi := hide hWi
                clear hWi
                go_wp2
                go_ret2
                exact nearR_mk W false W rfl HW.out (by rw [HWi.out]; simp) (fun h => by cases h) (hb.trans (hb012.mono hb.size))
              · have hwb : ((W : Int) != 9218868437227405312) = true := by rw [bne_iff_ne]; unfold infW at hWi; omega
                have HWi := hide hWi
                clear hWi
                go_wp2
                go_ret2
                exact nearR_mk W true W rfl HW.out (by have := HWi.out; simp [this]) (fun _ => rfl) (hb.trans (hb012.mono hb.size))

end Go.Proofs.YtamdnnkdnhkghaaGreatDoor

namespace Go.Proofs.YtamdnnkdnhkghaaGreatDoor

open Go Go.RowKit

set_option linter.unusedVariables false

theorem dval_le_append (l r : List Int) : dval l ≤ dval (l ++ r) := by
  have key : ∀ (r : List Int) (a : Nat), a ≤ r.foldl (fun a c => a * 10 + (c - 48).toNat) a := by
    intro r
    induction r with
    | nil => intro a; exact Nat.le_refl _
    | cons c r ih => intro a; exact Nat.le_trans (show a ≤ a * 10 + (c - 48).toNat by omega) (ih _)
  unfold dval
  rw [List.foldl_append]
  exact key r _

theorem dval_take_le (l : List Int) (k : Nat) : dval (l.take k) ≤ dval l := by
  have := dval_le_append (l.take k) (l.drop k)
  rwa [List.take_append_drop] at this

end Go.Proofs.YtamdnnkdnhkghaaGreatDoor

namespace Go.Proofs.YtamdnnkdnhkghaaGreatDoor

open Go Go.RowKit

/-- The bytes of a string, as integers. -/
def bs (s : ByteArray) : List Int := s.data.toList.map fun b => ((b.toNat : Nat) : Int)

theorem bs_length (s : ByteArray) : (bs s).length = s.size := by
  unfold bs
  rw [List.length_map, Array.length_toList]
  rfl

theorem bs_getD {s : ByteArray} {k : Nat} (h : k < s.size) : (bs s).getD k 0 = ((s[k].toNat : Nat) : Int) := by
  have h' : k < (bs s).length := by rw [bs_length]; exact h
  rw [getD_lt h']
  simp only [bs, List.getElem_map]
  rfl

def hexV (c : Int) : Int :=
  if 48 ≤ c ∧ c ≤ 57 then c - 48 else if 97 ≤ c ∧ c ≤ 102 then c - 87 else if 65 ≤ c ∧ c ≤ 70 then c - 55 else -1

/-- The number of hexadecimal digits. -/
def hexN (l : List Int) : Nat := l.foldl (fun a c => a * 16 + (hexV c).toNat) 0

def allHex (l : List Int) : Bool := l.all fun c => decide (0 ≤ hexV c)

def isDigI (c : Int) : Bool := decide (48 ≤ c ∧ c ≤ 57)

def allDig (l : List Int) : Bool := l.all isDigI

/-- The digits of an exponent. -/
def expB (l : List Int) : Option Int := if 1 ≤ l.length ∧ l.length ≤ 3 ∧ allDig l = true then some (dval l) else none

/-- What stands behind the letter of an exponent. -/
def expS (l : List Int) : Option Int :=
  if l.getD 0 0 = 45 then (expB (l.drop 1)).map (fun x => -x) else if l.getD 0 0 = 43 then expB (l.drop 1) else expB l

/-- An exponent with its letter. -/
def expV (l : List Int) : Option Int := if l.getD 0 0 = 101 ∨ l.getD 0 0 = 69 then expS (l.drop 1) else none

end Go.Proofs.YtamdnnkdnhkghaaGreatDoor

namespace Go.Proofs.YtamdnnkdnhkghaaGreatDoor

open Go Go.RowKit

set_option linter.unusedVariables false

def numV (f : Bool) (i : Int) (b : Int) : Value := .agg #[.bool f, .int .i64 i, .int .u64 b]

def hexR (s : ByteArray) : Value := .tuple #[numV false (if allHex (bs s) = true then wrap64 (hexN (bs s)) else 0) 0, .bool (allHex (bs s) && decide (0 < s.size))]

end Go.Proofs.YtamdnnkdnhkghaaGreatDoor

namespace Go.Proofs.YtamdnnkdnhkghaaGreatDoor

open Go Go.RowKit

def isDP (c : Int) : Bool := isDigI c || c == 46

/-- What has been read of a decimal numeral: its digits, how many of them stand behind a point, how many points. -/
def dstep (s : List Int × Nat × Nat) (c : Int) : List Int × Nat × Nat := if c = 46 then (s.1, s.2.1, s.2.2 + 1) else (s.1 ++ [c], s.2.1 + s.2.2, s.2.2)

def dscan (l : List Int) : List Int × Nat × Nat := l.foldl dstep ([], 0, 0)

theorem dscan_take {l : List Int} {k : Nat} (h : k < l.length) : dscan (l.take (k + 1)) = dstep (dscan (l.take k)) (l.getD k 0) := by
  unfold dscan
  rw [List.take_succ_eq_append_getElem h, List.foldl_append, getD_lt h]
  rfl

/-- How long the digits and points at the beginning are. -/
def mlen : List Int → Nat
  | [] => 0
  | c :: r => if isDP c = true then mlen r + 1 else 0

theorem dscan_len (l : List Int) : (dscan l).1.length ≤ l.length ∧ (dscan l).2.2 ≤ l.length := by
  have key : ∀ (l : List Int) (s : List Int × Nat × Nat), (l.foldl dstep s).1.length ≤ s.1.length + l.length ∧ (l.foldl dstep s).2.2 ≤ s.2.2 + l.length := by
    intro l
    induction l with
    | nil => intro s; simp
    | cons c r ih =>
      intro s
      have := ih (dstep s c)
      simp only [List.foldl_cons, List.length_cons]
      unfold dstep at this ⊢
      split at this
      · rename_i h; rw [if_pos h]; simp at this ⊢; omega
      · rename_i h; rw [if_neg h]; simp at this ⊢; omega
  have := key l ([], 0, 0)
  unfold dscan
  simpa using this

theorem dscan_digits {l : List Int} (h : ∀ c ∈ l, isDP c = true) : ∀ c ∈ (dscan l).1, 48 ≤ c ∧ c ≤ 57 := by
  have key : ∀ (l : List Int) (s : List Int × Nat × Nat), (∀ c ∈ l, isDP c = true) → (∀ c ∈ s.1, 48 ≤ c ∧ c ≤ 57) → ∀ c ∈ (l.foldl dstep s).1, 48 ≤ c ∧ c ≤ 57 := by
    intro l
    induction l with
    | nil => intro s _ hs; exact hs
    | cons c r ih =>
      intro s hl hs
      refine ih (dstep s c) (fun x hx => hl x (by simp [hx])) ?_
      unfold dstep
      split
      · exact hs
      · rename_i hc
        intro x hx
        rcases List.mem_append.1 hx with hx | hx
        · exact hs x hx
        · have hxc : x = c := by simpa using hx
          have h1 := hl c (by simp)
          rw [hxc]
          simp [isDP, isDigI, hc] at h1
          exact h1
  exact key l ([], 0, 0) h (fun c hc => by cases hc)

end Go.Proofs.YtamdnnkdnhkghaaGreatDoor

namespace Go.Proofs.YtamdnnkdnhkghaaGreatDoor

open Go Go.RowKit

set_option linter.unusedVariables false

theorem Tryz.info5 : (Tryz.prog.info? 5).map (fun i => (i.zero, i.size, i.bytes)) = some (some (.int .u8 0), 1, 1) := by kernel_rfl

/-- The slice v is the call's own (blocks from base on), not nil, and holds the bytes L. -/
def OwnB (w : World) (base : Nat) (v : Value) (L : List Int) : Prop := w.ownsRow base 5 1 v L.length (L.map (Value.int .u8)) ∧ v ≠ .slice none 0 0

theorem OwnB.byt {w : World} {base : Nat} {v : Value} {L : List Int} (h : OwnB w base v L) : Byt w v L := by
  obtain ⟨⟨h1, h2⟩, hv⟩ := h
  rcases h2 with ⟨rfl, _⟩ | ⟨g, cap, cur, rfl, hB, hh, hn, hc, hs, ht⟩
  · exact absurd rfl hv
  · have hown : w.ownsRow base 5 1 (.slice (some ⟨g, 0, none⟩) L.length cap) L.length (L.map (Value.int .u8)) := ⟨h1, .inr ⟨g, cap, cur, rfl, hB, hh, hn, hc, hs, ht⟩⟩
    refine ⟨g, cap, rfl, hn, hc, (hown.lt g rfl).2, fun j hj => ?_⟩
    rw [hown.cellAt j (by omega), List.getElem?_map, List.getElem?_eq_getElem hj, getD_lt hj]; rfl

theorem ownB_empty (w : World) : OwnB (w.alloc (.cells #[] 5)) w.heap.size (.slice (some ⟨w.heap.size, 0, none⟩) 0 0) [] :=
  ⟨World.ownsRow_made w #[] 0 (Nat.le_refl _) (by simp [maxLen]) rfl, fun h => by cases h⟩

theorem news_one5 (wr : World) (u0 : Value) : ∀ j u, [u0][j]? = some u → (wr.alloc (.cells #[u0] 5)).cell? ((⟨wr.heap.size, 0, none⟩ : Addr).add j) = some u := by
  intro j u hj
  match j, hj with
  | 0, hj => simp at hj; subst hj; simp [Addr.add]

def zeroR : Value := .tuple #[numV false 0 0, .bool false]

/-- Behind the digits and points: what a decimal numeral comes to, ds its digits, b of them behind the point, x its exponent. -/
def FloatR (N : Nat) (E : Int) (r : Value) : Prop := ∃ W, DecRnd N E W ∧ r = if W = infW then zeroR else .tuple #[numV true 0 W, .bool true]

def DecR (l : List Int) (r : Value) : Prop :=
  if (dscan (l.take (mlen l))).1 = [] ∨ 1 < (dscan (l.take (mlen l))).2.2 then r = zeroR
  else if mlen l = l.length ∧ (dscan (l.take (mlen l))).2.2 = 0 ∧ dval (dscan (l.take (mlen l))).1 < 9223372036854775808 then r = .tuple #[numV false (dval (dscan (l.take (mlen l))).1) 0, .bool true]
  else match (if mlen l < l.length then expV (l.drop (mlen l)) else some 0) with
    | none => r = zeroR
    | some x => FloatR (dval (dscan (l.take (mlen l))).1) (x - (dscan (l.take (mlen l))).2.1) r

def isHexP (l : List Int) : Bool := decide (1 < l.length) && l.getD 0 0 == 48 && (l.getD 1 0 == 120 || l.getD 1 0 == 88)

/-- What 'ParseNumber' hands back for a text. -/
def PNR (s : ByteArray) (r : Value) : Prop :=
  if 100 < s.size then r = zeroR else if isHexP (bs s) = true then r = hexR (s.extract 2 s.size) else DecR (bs s) r

end Go.Proofs.YtamdnnkdnhkghaaGreatDoor

namespace Go.Proofs.YtamdnnkdnhkghaaGreatDoor

open Go Go.RowKit

set_option linter.unusedVariables false

theorem scan_dig {s : ByteArray} {k b p : Nat} {ds : List Int} (hk : k < s.size) (h : dscan ((bs s).take k) = (ds, b, p)) (hd : isDig ((s[k].toNat : Nat) : Int) = true) :
    dscan ((bs s).take (k + 1)) = (ds ++ [((s[k].toNat : Nat) : Int)], b + p, p) := by
  rw [dscan_take (by rw [bs_length]; exact hk), h, bs_getD hk]
  unfold dstep
  rw [if_neg]
  intro e
  simp [isDig] at hd
  omega

theorem scan_point {s : ByteArray} {k b p : Nat} {ds : List Int} (hk : k < s.size) (h : dscan ((bs s).take k) = (ds, b, p)) (hd : ((s[k].toNat : Nat) : Int) = 46) :
    dscan ((bs s).take (k + 1)) = (ds, b, p + 1) := by
  rw [dscan_take (by rw [bs_length]; exact hk), h, bs_getD hk]
  unfold dstep
  rw [if_pos hd]

theorem rnd_le {N d W : Nat} (h : IsRnd N d W) : W ≤ infW := by obtain ⟨k, _, _, rfl⟩ := h; exact Nat.min_le_right _ _

end Go.Proofs.YtamdnnkdnhkghaaGreatDoor

namespace Go.Proofs.YtamdnnkdnhkghaaGreatDoor

open Go Go.RowKit

set_option linter.unusedVariables false

theorem FloatR.unique {N : Nat} {E : Int} {r r' : Value} (h : FloatR N E r) (h' : FloatR N E r') : r = r' := by
  obtain ⟨W, h1, rfl⟩ := h
  obtain ⟨W', h1', rfl⟩ := h'
  have : W = W' := IsRnd.unique h1 h1'
  rw [this]

/-- There is one answer. -/
theorem PNR.unique {s : ByteArray} {r r' : Value} (h : PNR s r) (h' : PNR s r') : r = r' := by
  unfold PNR at h h'
  split at h
  · rename_i c; rw [if_pos c] at h'; rw [h, h']
  · rename_i c
    rw [if_neg c] at h'
    split at h
    · rename_i c2; rw [if_pos c2] at h'; rw [h, h']
    · rename_i c2
      rw [if_neg c2] at h'
      unfold DecR at h h'
      split at h
      · rename_i c3; rw [if_pos c3] at h'; rw [h, h']
      · rename_i c3
        rw [if_neg c3] at h'
        split at h
        · rename_i c4; rw [if_pos c4] at h'; rw [h, h']
        · rename_i c4
          rw [if_neg c4] at h'
          split at h
          · rename_i c5; rw [c5] at h'; rw [h]; exact h'.symm
          · rename_i x c5; rw [c5] at h'; exact FloatR.unique h h'

end Go.Proofs.YtamdnnkdnhkghaaGreatDoor
