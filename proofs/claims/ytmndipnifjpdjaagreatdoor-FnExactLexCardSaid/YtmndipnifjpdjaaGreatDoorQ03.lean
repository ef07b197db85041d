import Derived.Test.YtmndipnifjpdjaaGreatDoorQ01
import Derived.Test.YtmndipnifjpdjaaGreatDoorQ02
import Derived.RowKit
namespace Go.Proofs.YtmndipnifjpdjaaGreatDoor
theorem exists_rnd (N : Nat) {d : Nat} (hd : 0 < d) : ∃ W, IsRnd N d W := by
  have key : ∀ m, (∃ k, k ≤ m ∧ N < d * 2 ^ (53 + k)) → ∃ k, N < d * 2 ^ (53 + k) ∧ (k = 0 ∨ d * 2 ^ (52 + k) ≤ N) := by
    intro m
    induction m with
    | zero => rintro ⟨k, hk, h⟩; exact ⟨k, h, .inl (by omega)⟩
    | succ m ih =>
      rintro ⟨k, hk, h⟩
      by_cases h0 : k = 0
      · exact ⟨k, h, .inl h0⟩
      · by_cases hle : d * 2 ^ (52 + k) ≤ N
        · exact ⟨k, h, .inr hle⟩
        · refine ih ⟨k - 1, by omega, ?_⟩
          have : 53 + (k - 1) = 52 + k := by omega
          rw [this]; omega
  obtain ⟨k, h1, h2⟩ := key N ⟨N, Nat.le_refl _, by
    have h1 : N < 2 ^ N := Nat.lt_two_pow_self
    have h2 : 2 ^ N ≤ 2 ^ (53 + N) := Nat.pow_le_pow_right (by omega) (by omega)
    have h3 : 1 * 2 ^ (53 + N) ≤ d * 2 ^ (53 + N) := Nat.mul_le_mul_right _ hd
    omega⟩
  exact ⟨_, k, h1, h2, rfl⟩
theorem rq_ge (N D : Nat) : N / D ≤ rq N D := by unfold rq; omega
theorem rnd_small {N d : Nat} (h : 2 * N < d) : IsRnd N d 0 := by
  refine ⟨0, ?_, .inl rfl, ?_⟩
  · have : d * 1 ≤ d * 2 ^ (53 + 0) := Nat.mul_le_mul_left _ (Nat.one_le_two_pow)
    omega
  · have e1 : d * 2 ^ 0 = d := by simp
    rw [e1]
    unfold rq
    rw [Nat.div_eq_of_lt (by omega), Nat.mod_eq_of_lt (by omega), if_neg (by omega)]
    simp
theorem rnd_great {N d W a : Nat} (hd : 0 < d) (ha : 2098 ≤ a) (h : d * 2 ^ a ≤ N) (hw : IsRnd N d W) : W = infW := by
  obtain ⟨k, h1, h2, h3⟩ := hw
  have hk : 2046 ≤ k := by
    refine Nat.le_of_not_lt fun hlt => ?_
    have hka : 53 + k ≤ a := by clear h h1 h2 h3; omega
    have : d * 2 ^ (53 + k) ≤ d * 2 ^ a := Nat.mul_le_mul_left _ (Nat.pow_le_pow_right (Nat.succ_pos 1) hka)
    exact Nat.lt_irrefl _ (Nat.lt_of_lt_of_le h1 (Nat.le_trans this h))
  have h4 : d * 2 ^ (52 + k) ≤ N := by
    rcases h2 with h2 | h2
    · clear h h1 h3; omega
    · exact h2
  clear h h1 h2
  have h5 : 4503599627370496 ≤ N / (d * 2 ^ k) := by
    rw [Nat.le_div_iff_mul_le (Nat.mul_pos hd (Nat.pow_pos (Nat.succ_pos 1)))]
    have e : 4503599627370496 * (d * 2 ^ k) = d * 2 ^ (52 + k) := by
      rw [Nat.pow_add]; exact Nat.mul_left_comm _ _ _
    rw [e]; exact h4
  have h6 := rq_ge N (d * 2 ^ k)
  generalize rq N (d * 2 ^ k) = x at *
  generalize N / (d * 2 ^ k) = y at *
  clear h4 hd
  rw [h3]
  unfold infW
  omega
def dval (l : List Int) : Nat := l.foldl (fun a c => a * 10 + (c - 48).toNat) 0
theorem dval_snoc (l : List Int) (c : Int) : dval (l ++ [c]) = dval l * 10 + (c - 48).toNat := by simp [dval, List.foldl_append]
def size10 (n : Nat) : Nat := if h : n = 0 then 0 else size10 (n / 10) + 1
termination_by n
decreasing_by omega
theorem size10_zero : size10 0 = 0 := by rw [size10]; simp
theorem size10_pos {n : Nat} (h : n ≠ 0) : size10 n = size10 (n / 10) + 1 := by rw [size10]; simp [h]
theorem size10_step (n c : Nat) (hc : c < 10) : size10 (n * 10 + c) = if n * 10 + c = 0 then 0 else size10 n + 1 := by
  by_cases h : n * 10 + c = 0
  · rw [h, size10_zero]; simp
  · rw [size10_pos h, if_neg h]
    have : (n * 10 + c) / 10 = n := by omega
    rw [this]
theorem size10_lt (n : Nat) : n < 10 ^ size10 n := by
  induction n using Nat.strongRecOn with
  | ind n ih =>
    by_cases h : n = 0
    · subst h; rw [size10_zero]; simp
    · rw [size10_pos h, Nat.pow_succ]
      have := ih (n / 10) (by omega)
      omega
theorem size10_ge {n : Nat} (h : n ≠ 0) : 10 ^ (size10 n - 1) ≤ n := by
  induction n using Nat.strongRecOn with
  | ind n ih =>
    rw [size10_pos h]
    by_cases h2 : n / 10 = 0
    · rw [h2, size10_zero]; simp; omega
    · have := ih (n / 10) (by omega) h2
      have hp : size10 (n / 10) ≠ 0 := by rw [size10_pos h2]; omega
      obtain ⟨m, hm⟩ := Nat.exists_eq_succ_of_ne_zero hp
      rw [hm] at this ⊢
      simp only [Nat.succ_eq_add_one, Nat.add_sub_cancel, Nat.pow_succ] at this ⊢
      omega
theorem size10_le_length (l : List Int) (h : ∀ c ∈ l, 48 ≤ c ∧ c ≤ 57) : size10 (dval l) ≤ l.length := by
  have key : ∀ (l : List Int) (a : Nat), (∀ c ∈ l, 48 ≤ c ∧ c ≤ 57) → size10 (l.foldl (fun a c => a * 10 + (c - 48).toNat) a) ≤ size10 a + l.length := by
    intro l
    induction l with
    | nil => intro a _; simp
    | cons c r ih =>
      intro a hc
      have h1 := hc c (by simp)
      have h2 := ih (a * 10 + (c - 48).toNat) (fun x hx => hc x (by simp [hx]))
      have h3 := size10_step a (c - 48).toNat (by omega)
      simp only [List.foldl_cons, List.length_cons]
      split at h3 <;> omega
  have := key l 0 h
  rw [size10_zero] at this
  unfold dval
  omega
theorem rnd_under' {N a b : Nat} {E : Int} (h3 : 2 * 2 ^ b < 10 ^ a) (h : (size10 N : Int) + E < -(a : Int)) : IsRnd (N * 10 ^ E.toNat * 2 ^ b) (10 ^ (-E).toNat) 0 := by
  refine rnd_small ?_
  have hE : E.toNat = 0 := by omega
  rw [hE, Nat.pow_zero, Nat.mul_one]
  have h1 := size10_lt N
  have h2 : 10 ^ size10 N * 10 ^ a ≤ 10 ^ (-E).toNat := by
    rw [← Nat.pow_add]; exact Nat.pow_le_pow_right (by omega) (by omega)
  refine Nat.lt_of_lt_of_le ?_ h2
  have e : 2 * (N * 2 ^ b) = N * (2 * 2 ^ b) := Nat.mul_left_comm _ _ _
  rw [e]
  exact Nat.lt_of_le_of_lt (Nat.mul_le_mul_right _ (Nat.le_of_lt h1)) (Nat.mul_lt_mul_of_pos_left h3 (Nat.pow_pos (by omega)))
theorem pow_fact1 : 2 * 2 ^ 1074 < 10 ^ 330 := by decide +kernel
theorem rnd_under {N : Nat} {E : Int} (h : (size10 N : Int) + E < -330) : IsRnd (N * 10 ^ E.toNat * 2 ^ 1074) (10 ^ (-E).toNat) 0 :=
  rnd_under' (a := 330) (b := 1074) pow_fact1 (by omega)
theorem rnd_over' {N W a b c : Nat} {E : Int} (hc : 2098 ≤ c) (h3 : 2 ^ c ≤ 10 ^ a * 2 ^ b) (hN : N ≠ 0) (h : (a : Int) < (size10 N : Int) + E) (hw : IsRnd (N * 10 ^ E.toNat * 2 ^ b) (10 ^ (-E).toNat) W) : W = infW := by
  refine rnd_great (Nat.pow_pos (by omega)) hc ?_ hw
  have h1 := size10_ge hN
  have h4 : 10 ^ (-E).toNat * 10 ^ a ≤ 10 ^ (size10 N - 1) * 10 ^ E.toNat := by
    rw [← Nat.pow_add, ← Nat.pow_add]; exact Nat.pow_le_pow_right (by omega) (by omega)
  refine Nat.le_trans (Nat.mul_le_mul_left _ h3) ?_
  rw [← Nat.mul_assoc]
  exact Nat.le_trans (Nat.mul_le_mul_right _ h4) (Nat.mul_le_mul_right _ (Nat.mul_le_mul_right _ h1))
theorem pow_fact2 : 2 ^ 2098 ≤ 10 ^ 310 * 2 ^ 1074 := by decide +kernel
theorem rnd_over {N W : Nat} {E : Int} (hN : N ≠ 0) (h : 310 < (size10 N : Int) + E) (hw : IsRnd (N * 10 ^ E.toNat * 2 ^ 1074) (10 ^ (-E).toNat) W) : W = infW :=
  rnd_over' (a := 310) (b := 1074) (c := 2098) (by omega) pow_fact2 hN (by omega) hw
end Go.Proofs.YtmndipnifjpdjaaGreatDoor
namespace Go.Proofs.YtmndipnifjpdjaaGreatDoor
open Go Go.RowKit
set_option linter.unusedVariables false
def Byt (w : World) (v : Value) (l : List Int) : Prop :=
  ∃ g cap, v = .slice (some ⟨g, 0, none⟩) l.length cap ∧ l.length ≤ cap ∧ cap ≤ maxLen ∧ g < w.heap.size ∧
    ∀ j, j < l.length → w.cell? ⟨g, j, none⟩ = some (.int .u8 (l.getD j 0))
def DecRnd (N : Nat) (E : Int) (W : Nat) : Prop := IsRnd (N * 10 ^ E.toNat * 2 ^ 1074) (10 ^ (-E).toNat) W
theorem isRnd_zero (a b d : Nat) (hd : 0 < d) : IsRnd (0 * a * b) d 0 := by
  rw [Nat.zero_mul, Nat.zero_mul]; exact rnd_small (by omega)
theorem decRnd_zero (E : Int) : DecRnd 0 E 0 := isRnd_zero _ _ _ (Nat.pow_pos (by omega))
theorem decRnd_under {N : Nat} {E : Int} (h : (size10 N : Int) + E < -330) : DecRnd N E 0 := rnd_under h
theorem decRnd_over {N : Nat} {E : Int} (hN : N ≠ 0) (h : 310 < (size10 N : Int) + E) : DecRnd N E infW := by
  obtain ⟨W, hW⟩ := exists_rnd (N * 10 ^ E.toNat * 2 ^ 1074) (d := 10 ^ (-E).toNat) (Nat.pow_pos (by omega))
  have := rnd_over hN h hW
  subst this
  exact hW
theorem word_rnd {N : Nat} {E : Int} {W : Nat} (h : IsRnd (N * 10 ^ E.toNat * 2 ^ ((0 : Int) + 1074).toNat) (10 ^ (-E).toNat * 2 ^ (-1074 - (0 : Int)).toNat) W) : DecRnd N E W := by
  unfold DecRnd
  have e1 : ((0 : Int) + 1074).toNat = 1074 := rfl
  have e2 : (-1074 - (0 : Int)).toNat = 0 := rfl
  rw [e1, e2, Nat.pow_zero, Nat.mul_one] at h
  exact h
theorem len_ten {N a k : Nat} (h : size10 N + a ≤ k) : (dig (N * 10 ^ a)).length ≤ k := by
  have h0 := size10_lt N
  have h1 : N * 10 ^ a < 10 ^ (size10 N + a) := by rw [Nat.pow_add]; exact Nat.mul_lt_mul_of_pos_right h0 (Nat.pow_pos (by omega))
  exact dig_length_le (Nat.lt_of_lt_of_le h1 (Nat.le_trans (Nat.pow_le_pow_right (by omega) h) (Nat.pow_le_pow_left (by omega) k)))
theorem getD_mem {l : List Int} {k : Nat} (h : k < l.length) : l.getD k 0 ∈ l := by rw [getD_lt h]; exact List.getElem_mem h
theorem dval_take {l : List Int} {k : Nat} (h : k < l.length) : dval (l.take (k + 1)) = dval (l.take k) * 10 + (l.getD k 0 - 48).toNat := by
  rw [List.take_succ_eq_append_getElem h, dval_snoc, getD_lt h]
theorem dig_size_pos {n : Nat} : 0 < (dig n).length ↔ n ≠ 0 := by
  constructor
  · intro h e; subst e; rw [dig_zero] at h; simp at h
  · intro h; rw [dig_pos h]; simp
theorem big_one (w : World) : Big (w.alloc (.cells #[.int .i64 1] 3)) (.slice (some ⟨w.heap.size, 0, none⟩) 1 1) (dig 1) := by
  have e : dig 1 = [1] := by rw [dig_pos (by omega)]; simp [dig_zero]
  rw [e]
  exact big_of_owns (B := w.heap.size) (World.ownsRow_lit (base := w.heap.size) (e := 3) (size := 1) w #[.int .i64 1] 1 (Nat.le_refl _) (by simp [maxLen]) rfl) (fun h => by cases h)
theorem pow10_int (n k : Nat) (K : Int) (hK : K = (k : Int)) (v : Value) (w : World) (h : Big w v (dig n)) (hn : n ≠ 0) (hl : (dig n).length + k ≤ 100000) :
    Calls Tryz.prog 95 #[v, .int .i64 K] w fun e w' => ∃ v', e = .returned v' ∧ Big w' v' (dig (n * 10 ^ k)) ∧ Below w.heap.size w w' := by
  subst hK; exact pow10_any n k v w h hn hl
def NearR (w : World) (N : Nat) (E : Int) (e : Ending) (w' : World) : Prop :=
  ∃ (W : Nat) (ok : Bool) (W0 : Nat), e = .returned (.tuple #[.int .u64 W, .bool ok]) ∧ DecRnd N E W0 ∧ ok = (W0 != infW) ∧ (ok = true → W = W0) ∧ Below w.heap.size w w'
theorem nearR_mk {w : World} {N : Nat} {E : Int} {e : Ending} {w' : World} (W : Nat) (ok : Bool) (W0 : Nat) (h1 : e = .returned (.tuple #[.int .u64 W, .bool ok])) (h2 : DecRnd N E W0) (h3 : ok = (W0 != infW)) (h4 : ok = true → W = W0)
    (h5 : Below w.heap.size w w') : NearR w N E e w' := ⟨W, ok, W0, h1, h2, h3, h4, h5⟩
set_option maxHeartbeats 1600000 in
set_option maxRecDepth 100000 in
theorem nearest_any (l : List Int) (E : Int) (v : Value) (w : World) (h : Byt w v l) (hl : l.length ≤ 101) (hd : ∀ c ∈ l, 48 ≤ c ∧ c ≤ 57) (hE1 : -1200 ≤ E) (hE2 : E ≤ 1200) :
    Calls Tryz.prog 64 #[v, .int .i64 E] w fun e w' => NearR w (dval l) E e w' := by
  obtain ⟨g, cap, rfl, h2, h3, h4, h5⟩ := h
  unfold maxLen at h3
  have Hd := hide hd
  have Hsz := hide (size10_le_length l hd)
  clear hd
  have Htl : Hid (l.take l.length = l) := hide (List.take_length)
  generalize hlen : l.length = len at *
  have Hlen := hide hlen
  clear hlen
  go_enter Tryz.func64, Tryz.ntmps64
  go_wp2
  go_loopw [6, 7, 15] (fun nv sv iv wr => ∃ k N s : Nat, k ≤ len ∧ iv = .int .i64 k ∧ Hid (N = dval (l.take k)) ∧ Big wr nv (dig N) ∧ sv = .int .i64 s ∧ s ≤ k ∧ Hid (s = size10 N) ∧ (dig N).length ≤ k ∧ Below w.heap.size w wr) (fun _ _ iv _ => len - (intOf iv).toNat)
  case atStart =>
    exact ⟨0, 0, 0, Nat.zero_le _, rfl, hide rfl, by rw [dig_zero]; exact (ownI_empty w).big, rfl, Nat.le_refl _, hide (by rw [size10_zero]), by rw [dig_zero]; simp, (Below.refl _ _).alloc (Nat.le_refl _) _⟩
  case round =>
    obtain ⟨k, N, s, hk, rfl, HN, hbig, rfl, hsk, Hs, hlN, hb⟩ := hrel
    by_cases hlt : k < len
    · have hcx : wr.cell? ⟨g, k, none⟩ = some (.int .u8 (l.getD k 0)) := (hb.cell (by exact h4)).trans (h5 k (by omega))
      have hc := Hd.out _ (getD_mem (l := l) (k := k) (by rw [Hlen.out]; exact hlt))
      have HS := hide (dval_take (l := l) (k := k) (by rw [Hlen.out]; exact hlt))
      generalize l.getD k 0 = c at *
      go_wp2_with fail
      refine (times_int N 10 (c - 48).toNat _ _ rfl (by omega) _ _ hbig (by omega) (by omega) (by omega)).mono ?_
      rintro e w1 ⟨v1, rfl, hbig1, hb1⟩
      have hlen1 : (dig (N * 10 + (c - 48).toNat)).length ≤ k + 1 := dig_length_le (by
        have h1 := dig_lt N
        have h2 : 10000 ^ (dig N).length ≤ 10000 ^ k := Nat.pow_le_pow_right (by omega) hlN
        rw [Nat.pow_succ]; omega)
      have HN1 : Hid (N * 10 + (c - 48).toNat = dval (l.take (k + 1))) := hide (by rw [HS.out, HN.out])
      have Hs1 := hide (size10_step N (c - 48).toNat (by omega))
      have Hp := hide (dig_size_pos (n := N * 10 + (c - 48).toNat))
      have HNz : Hid (N * 10 + (c - 48).toNat = 0 → N = 0) := hide (by omega)
      generalize N * 10 + (c - 48).toNat = N1 at *
      obtain ⟨g1, cap1, hv1⟩ := hbig1.len
      subst hv1
      by_cases hp : 0 < (dig N1).length
      · go_wp2
        go_roundw
        case rel => exact ⟨k + 1, N1, s + 1, by omega, by go_num, HN1, hbig1, by go_num, by omega, hide (by rw [Hs1.out, if_neg (Hp.out.1 hp), Hs.out]), hlen1, hb.trans (hb1.mono hb.size)⟩
        case measure => simp [intOf]; omega
      · have hN0 : N1 = 0 := Decidable.byContradiction fun hh => hp (Hp.out.2 hh)
        have HN0 := hide hN0
        clear hN0
        have Hs0 : Hid (s = size10 N1) := hide (by
          have h1 := HNz.out HN0.out
          rw [Hs.out, HN0.out, h1])
        go_wp2
        go_roundw
        case rel => exact ⟨k + 1, N1, s, by omega, by go_num, HN1, hbig1, rfl, by omega, Hs0, hlen1, hb.trans (hb1.mono hb.size)⟩
        case measure => simp [intOf]; omega
    · have hkl : k = len := by omega
      subst hkl
      have HNl : Hid (N = dval l) := hide (by rw [HN.out, Htl.out])
      obtain ⟨g1, cap1, hv1⟩ := hbig.len
      subst hv1
      by_cases hN0 : N = 0
      · have hz : (((dig N).length : Int) == 0) = true := by rw [hN0, dig_zero]; rfl
        have HN0 := hide hN0
        clear hN0
        go_wp2
        go_ret2
        exact nearR_mk 0 true 0 rfl (by rw [← HNl.out, HN0.out]; exact decRnd_zero E) rfl (fun _ => rfl) hb
      · have hpos := dig_size_pos.2 hN0
        have hz : (((dig N).length : Int) == 0) = false := by rw [beq_eq_false_iff_ne]; omega
        have HN0 := hide hN0
        clear hN0
        by_cases hlo : (s : Int) + E < -330
        · go_wp2
          go_ret2
          exact nearR_mk 0 true 0 rfl (by rw [← HNl.out]; exact decRnd_under (by rw [← Hs.out]; exact hlo)) rfl (fun _ => rfl) hb
        · by_cases hhi : 310 < (s : Int) + E
          · go_wp2
            go_ret2
            exact nearR_mk 0 false infW rfl (by rw [← HNl.out]; exact decRnd_over HN0.out (by rw [← Hs.out]; exact hhi)) (by simp) (fun h => by cases h) hb
          · by_cases hE : 0 ≤ E
            · go_wp2_with fail
              refine (pow10_int N E.toNat _ (by omega) _ _ (hbig.below ((Below.refl _ _).alloc (Nat.le_refl _) _)) HN0.out (by omega)).mono ?_
              rintro e w1 ⟨v1, rfl, hg1, hb1⟩
              have hlen1 : (dig (N * 10 ^ E.toNat)).length ≤ 1000 := Nat.le_trans (len_ten (N := N) (a := E.toNat) (k := 310) (by rw [← Hs.out]; omega)) (by omega)
              have hone := (big_one wr).below hb1
              go_wp2_with fail
              refine (word_any (N * 10 ^ E.toNat) 1 0 _ _ _ hg1 hone (by omega) hlen1 (by have := dig_length_le (n := 1) (k := 1) (by omega); omega) (by omega) (by omega) (Nat.mul_ne_zero HN0.out (Nat.pos_iff_ne_zero.1 (Nat.pow_pos (by omega))))).mono ?_
              rintro e w2 ⟨W, rfl, hW, hb2⟩
              have HW : Hid (DecRnd (dval l) E W) := hide (by
                refine word_rnd (N := dval l) (E := E) ?_
                have e1 : (-E).toNat = 0 := by omega
                rw [e1, ← HNl.out]
                exact hW)
              clear hW
              have hb012 : Below wr.heap.size wr w2 := ((((Below.refl _ _).alloc (Nat.le_refl _) _).trans (hb1.mono (by simp))).trans (hb2.mono (by have := hb1.size; simp at this; omega)))
              by_cases hWi : W = infW
              · have hwb : ((W : Int) != 9218868437227405312) = false := by rw [hWi]; rfl
                have HWi := hide hWi
                clear hWi
                go_wp2
                go_ret2
                exact nearR_mk W false W rfl HW.out (by rw [HWi.out]; simp) (fun h => by cases h) (hb.trans (hb012.mono hb.size))
              · have hwb : ((W : Int) != 9218868437227405312) = true := by rw [bne_iff_ne]; unfold infW at hWi; omega
                have HWi := hide hWi
                clear hWi
                go_wp2
                go_ret2
                exact nearR_mk W true W rfl HW.out (by have := HWi.out; simp [this]) (fun _ => rfl) (hb.trans (hb012.mono hb.size))
            · go_wp2_with fail
              refine (pow10_int 1 (-E).toNat _ (by omega) _ _ (big_one wr) (by omega) (by have := dig_length_le (n := 1) (k := 1) (by omega); omega)).mono ?_
              rintro e w1 ⟨v1, rfl, hg1, hb1⟩
              have hlen1 : (dig (1 * 10 ^ (-E).toNat)).length ≤ 2000 := by
                have h1 := dig_length_ten 1 (-E).toNat
                have h2 := dig_length_le (n := 1) (k := 1) (by omega)
                omega
              have hn1 := (hbig.below ((Below.refl _ _).alloc (Nat.le_refl _) (.cells #[.int .i64 1] 3))).below hb1
              go_wp2_with fail
              refine (word_any N (1 * 10 ^ (-E).toNat) 0 _ _ _ hn1 hg1 (Nat.mul_ne_zero (by omega) (Nat.pos_iff_ne_zero.1 (Nat.pow_pos (by omega)))) (by omega) hlen1 (by omega) (by omega) HN0.out).mono ?_
              rintro e w2 ⟨W, rfl, hW, hb2⟩
              have HW : Hid (DecRnd (dval l) E W) := hide (by
                refine word_rnd (N := dval l) (E := E) ?_
                have e1 : E.toNat = 0 := by omega
                rw [e1, ← HNl.out, Nat.pow_zero, Nat.mul_one]
                rw [Nat.one_mul] at hW
                exact hW)
              clear hW
              have hb012 : Below wr.heap.size wr w2 := ((((Below.refl _ _).alloc (Nat.le_refl _) _).trans (hb1.mono (by simp))).trans (hb2.mono (by have := hb1.size; simp at this; omega)))
              by_cases hWi : W = infW
              · have hwb : ((W : Int) != 9218868437227405312) = false := by rw [hWi]; rfl
                have HWi := hide hWi
                clear hWi
                go_wp2
                go_ret2
                exact nearR_mk W false W rfl HW.out (by rw [HWi.out]; simp) (fun h => by cases h) (hb.trans (hb012.mono hb.size))
              · have hwb : ((W : Int) != 9218868437227405312) = true := by rw [bne_iff_ne]; unfold infW at hWi; omega
                have HWi := hide hWi
                clear hWi
                go_wp2
                go_ret2
                exact nearR_mk W true W rfl HW.out (by have := HWi.out; simp [this]) (fun _ => rfl) (hb.trans (hb012.mono hb.size))
end Go.Proofs.YtmndipnifjpdjaaGreatDoor
namespace Go.Proofs.YtmndipnifjpdjaaGreatDoor
open Go Go.RowKit
set_option linter.unusedVariables false
theorem int_any (i : Int) (w : World) : Calls Tryz.prog 62 #[.int .i64 i] w fun e w' => e = .returned (.agg #[.bool false, .int .i64 i, .int .u64 0]) ∧ Below w.heap.size w w' := by
  go_enter Tryz.func62, Tryz.ntmps62
  go_wp2
  exact bodyPost_ret (v := .agg #[.bool false, .int .i64 i, .int .u64 0]) (by simp [results, Tryz.results62, go_sem]) rfl ⟨rfl, (Below.refl _ _).alloc (Nat.le_refl _) _⟩
theorem isNan_any (x : Int) (w : World) (h0 : 0 ≤ x) (h1 : x ≤ 9218868437227405312) :
    Calls Tryz.prog 74 #[.int .u64 x] w fun e w' => e = .returned (.bool false) ∧ w' = w := by
  go_enter Tryz.func74, Tryz.ntmps74
  have hd : decide (9218868437227405312 < x % 9223372036854775808) = false := by simp; omega
  go_wp2
  all_goals go_ret
  exact ⟨rfl, rfl⟩
theorem float_any (x : Int) (w : World) (h0 : 0 ≤ x) (h1 : x ≤ 9218868437227405312) :
    Calls Tryz.prog 46 #[.int .u64 x] w fun e w' => e = .returned (.agg #[.bool true, .int .i64 0, .int .u64 x]) ∧ Below w.heap.size w w' := by
  go_enter Tryz.func46, Tryz.ntmps46
  go_wp2_with (go_at_call 74; refine (isNan_any x _ h0 h1).mono ?_; rintro e w' ⟨rfl, rfl⟩)
  exact bodyPost_ret (v := .agg #[.bool true, .int .i64 0, .int .u64 x]) (by simp [results, Tryz.results46, go_sem]) rfl ⟨rfl, (Below.refl _ _).alloc (Nat.le_refl _) _⟩
theorem dval_le_append (l r : List Int) : dval l ≤ dval (l ++ r) := by
  have key : ∀ (r : List Int) (a : Nat), a ≤ r.foldl (fun a c => a * 10 + (c - 48).toNat) a := by
    intro r
    induction r with
    | nil => intro a; exact Nat.le_refl _
    | cons c r ih => intro a; exact Nat.le_trans (show a ≤ a * 10 + (c - 48).toNat by omega) (ih _)
  unfold dval
  rw [List.foldl_append]
  exact key r _
theorem dval_take_le (l : List Int) (k : Nat) : dval (l.take k) ≤ dval l := by
  have := dval_le_append (l.take k) (l.drop k)
  rwa [List.take_append_drop] at this
def WholeR (N : Nat) (e : Ending) : Prop := ∃ (v : Int) (ok : Bool), e = .returned (.tuple #[.int .i64 v, .bool ok]) ∧ ok = decide (N < 9223372036854775808) ∧ (ok = true → v = (N : Int))
theorem wholeR_mk {N : Nat} {e : Ending} (v : Int) (ok : Bool) (h1 : e = .returned (.tuple #[.int .i64 v, .bool ok])) (h2 : ok = decide (N < 9223372036854775808)) (h3 : ok = true → v = (N : Int)) : WholeR N e := ⟨v, ok, h1, h2, h3⟩
set_option maxHeartbeats 800000 in
set_option maxRecDepth 100000 in
theorem whole_any (l : List Int) (v : Value) (w : World) (h : Byt w v l) (hl : l.length ≤ 101) (hd : ∀ c ∈ l, 48 ≤ c ∧ c ≤ 57) :
    Calls Tryz.prog 61 #[v] w fun e w' => WholeR (dval l) e ∧ w' = w := by
  obtain ⟨g, cap, rfl, h2, h3, h4, h5⟩ := h
  unfold maxLen at h3
  have Hd := hide hd
  clear hd
  have Htl : Hid (l.take l.length = l) := hide (List.take_length)
  generalize hlen : l.length = len at *
  have Hlen := hide hlen
  have H5 := hide h5
  clear hlen h5
  go_enter Tryz.func61, Tryz.ntmps61
  go_wp2
  go_loop [4, 10] (fun vv iv => ∃ (k : Nat) (x : Int), k ≤ len ∧ iv = .int .i64 k ∧ vv = .int .i64 x ∧ Hid (x = (dval (l.take k) : Int)) ∧ 0 ≤ x ∧ x ≤ 9223372036854775807) (fun _ iv => len - (intOf iv).toNat)
  case atStart => exact ⟨0, 0, Nat.zero_le _, rfl, rfl, hide rfl, by omega, by omega⟩
  case round =>
    obtain ⟨k, x, hk, rfl, rfl, Hx, hx0, hx1⟩ := hrel
    by_cases hlt : k < len
    · have hcx : w.cell? ⟨g, k, none⟩ = some (.int .u8 (l.getD k 0)) := H5.out k (by omega)
      have hc := Hd.out _ (getD_mem (l := l) (k := k) (by rw [Hlen.out]; exact hlt))
      have HS := hide (dval_take (l := l) (k := k) (by rw [Hlen.out]; exact hlt))
      generalize l.getD k 0 = c at *
      by_cases hbig : x > (9223372036854775807 - (c - 48)) / 10
      · go_wp2
        go_ret2
        refine ⟨wholeR_mk 0 false rfl ?_ (fun h => by cases h), rfl⟩
        have h1 := dval_take_le l (k + 1)
        have h2 := HS.out
        have h3 := Hx.out
        symm
        rw [decide_eq_false_iff_not]
        omega
      · have hm : x * 10 + (c - 48) ≤ 9223372036854775807 := by omega
        go_wp2
        go_round
        case rel => exact ⟨k + 1, x * 10 + (c - 48), by omega, by go_num, rfl, hide (by rw [HS.out]; have := Hx.out; omega), by omega, by omega⟩
        case measure => simp [intOf]; omega
    · have hkl : k = len := by omega
      subst hkl
      go_wp2
      go_ret2
      refine ⟨wholeR_mk x true rfl ?_ (fun _ => by rw [Hx.out, Htl.out]), rfl⟩
      have h3 := Hx.out
      rw [Htl.out] at h3
      symm
      rw [decide_eq_true_iff]
      omega
end Go.Proofs.YtmndipnifjpdjaaGreatDoor
namespace Go.Proofs.YtmndipnifjpdjaaGreatDoor
open Go Go.RowKit
def bs (s : ByteArray) : List Int := s.data.toList.map fun b => ((b.toNat : Nat) : Int)
theorem bs_length (s : ByteArray) : (bs s).length = s.size := by
  unfold bs
  rw [List.length_map, Array.length_toList]
  rfl
theorem bs_getD {s : ByteArray} {k : Nat} (h : k < s.size) : (bs s).getD k 0 = ((s[k].toNat : Nat) : Int) := by
  have h' : k < (bs s).length := by rw [bs_length]; exact h
  rw [getD_lt h']
  simp only [bs, List.getElem_map]
  rfl
theorem bs_extract (s : ByteArray) (a b : Nat) : bs (s.extract a b) = ((bs s).drop a).take (b - a) := by
  simp [bs, ByteArray.data_extract, List.map_drop, List.map_take]
def hexV (c : Int) : Int :=
  if 48 ≤ c ∧ c ≤ 57 then c - 48 else if 97 ≤ c ∧ c ≤ 102 then c - 87 else if 65 ≤ c ∧ c ≤ 70 then c - 55 else -1
theorem hexV_lt (c : Int) : hexV c < 16 := by unfold hexV; split <;> (try split) <;> (try split) <;> omega
theorem hexV_ge (c : Int) : -1 ≤ hexV c := by unfold hexV; split <;> (try split) <;> (try split) <;> omega
def hexN (l : List Int) : Nat := l.foldl (fun a c => a * 16 + (hexV c).toNat) 0
theorem hexN_snoc (l : List Int) (c : Int) : hexN (l ++ [c]) = hexN l * 16 + (hexV c).toNat := by simp [hexN, List.foldl_append]
def allHex (l : List Int) : Bool := l.all fun c => decide (0 ≤ hexV c)
theorem hexN_take {l : List Int} {k : Nat} (h : k < l.length) : hexN (l.take (k + 1)) = hexN (l.take k) * 16 + (hexV (l.getD k 0)).toNat := by
  rw [List.take_succ_eq_append_getElem h, hexN_snoc, getD_lt h]
theorem wrap_hex {y d : Int} : wrap64 (wrap64 (wrap64 y * 16) + d) = wrap64 (y * 16 + d) := by unfold wrap64; omega
def isDigI (c : Int) : Bool := decide (48 ≤ c ∧ c ≤ 57)
def allDig (l : List Int) : Bool := l.all isDigI
def expB (l : List Int) : Option Int := if 1 ≤ l.length ∧ l.length ≤ 3 ∧ allDig l = true then some (dval l) else none
def expS (l : List Int) : Option Int :=
  if l.getD 0 0 = 45 then (expB (l.drop 1)).map (fun x => -x) else if l.getD 0 0 = 43 then expB (l.drop 1) else expB l
def expV (l : List Int) : Option Int := if l.getD 0 0 = 101 ∨ l.getD 0 0 = 69 then expS (l.drop 1) else none
theorem allDig_false {l : List Int} {k : Nat} (h : k < l.length) (hd : isDigI (l.getD k 0) = false) : allDig l = false := by
  unfold allDig
  rw [List.all_eq_false]
  exact ⟨l.getD k 0, by rw [getD_lt h]; exact List.getElem_mem h, by rw [hd]; decide⟩
theorem allHex_false {l : List Int} {k : Nat} (h : k < l.length) (hd : hexV (l.getD k 0) < 0) : allHex l = false := by
  unfold allHex
  rw [List.all_eq_false]
  exact ⟨l.getD k 0, by rw [getD_lt h]; exact List.getElem_mem h, by rw [decide_eq_false (by omega)]; decide⟩
theorem allHex_true {l : List Int} (h : ∀ k, k < l.length → 0 ≤ hexV (l.getD k 0)) : allHex l = true := by
  unfold allHex
  rw [List.all_eq_true]
  intro c hc
  obtain ⟨i, hi, rfl⟩ := List.getElem_of_mem hc
  have := h i hi
  rw [getD_lt hi] at this
  simpa using this
theorem allDig_true {l : List Int} (h : ∀ k, k < l.length → isDigI (l.getD k 0) = true) : allDig l = true := by
  unfold allDig
  rw [List.all_eq_true]
  intro c hc
  obtain ⟨i, hi, rfl⟩ := List.getElem_of_mem hc
  have := h i hi
  rwa [getD_lt hi] at this
end Go.Proofs.YtmndipnifjpdjaaGreatDoor
namespace Go.Proofs.YtmndipnifjpdjaaGreatDoor
open Go Go.RowKit
set_option linter.unusedVariables false
theorem hexDigit_v (c : Int) (w : World) (h0 : 0 ≤ c) (h1 : c < 256) :
    Calls Tryz.prog 93 #[.int .u8 c] w fun e w' => e = .returned (.int .i64 (hexV c)) ∧ w' = w := hexDigit_any c w h0 h1
def numV (f : Bool) (i : Int) (b : Int) : Value := .agg #[.bool f, .int .i64 i, .int .u64 b]
theorem wrap_hexN {N : Nat} {x d : Int} (h : x = wrap64 (N : Int)) (h0 : 0 ≤ d) : wrap64 (wrap64 (x * 16) + d) = wrap64 ((N * 16 + d.toNat : Nat) : Int) := by
  subst h
  rw [wrap_hex]
  have e : ((N * 16 + d.toNat : Nat) : Int) = (N : Int) * 16 + d := by omega
  rw [e]
theorem wrap_zero : (0 : Int) = wrap64 ((0 : Nat) : Int) := by unfold wrap64; omega
theorem bcell {W w1 : World} (hb : Below W.heap.size W w1) : (∀ b o, b < W.heap.size → w1.cell? ⟨b, o, none⟩ = W.cell? ⟨b, o, none⟩) ∧ (∀ b o, b < W.heap.size → w1.frozen? ⟨b, o, none⟩ = W.frozen? ⟨b, o, none⟩) :=
  ⟨fun b o h => hb.cell (p := ⟨b, o, none⟩) h, fun b o h => hb.frozen (p := ⟨b, o, none⟩) h⟩
def hexR (s : ByteArray) : Value := .tuple #[numV false (if allHex (bs s) = true then wrap64 (hexN (bs s)) else 0) 0, .bool (allHex (bs s) && decide (0 < s.size))]
theorem hexR_no {s : ByteArray} (h : allHex (bs s) = false) : hexR s = .tuple #[numV false 0 0, .bool false] := by unfold hexR; rw [h, if_neg (by decide), Bool.false_and]
theorem hexR_yes {s : ByteArray} (h : allHex (bs s) = true) : hexR s = .tuple #[numV false (wrap64 (hexN (bs s))) 0, .bool (decide (0 < s.size))] := by unfold hexR; rw [h, if_pos rfl, Bool.true_and]
set_option maxHeartbeats 800000 in
set_option maxRecDepth 100000 in
theorem hex_any (s : ByteArray) (w : World) (hs : s.size ≤ 100) :
    Calls Tryz.prog 60 #[.string s] w fun e w' => e = .returned (hexR s) ∧ Below w.heap.size w w' := by
  have Hl := hide (bs_length s)
  go_enter Tryz.func60, Tryz.ntmps60
  go_wp2
  go_loop [4, 5] (fun vv iv => ∃ (k : Nat) (x : Int), k ≤ s.size ∧ iv = .int .i64 k ∧ vv = .int .i64 x ∧ Hid (x = wrap64 (hexN ((bs s).take k))) ∧ Hid (∀ j, j < k → 0 ≤ hexV ((bs s).getD j 0))) (fun _ iv => s.size - (intOf iv).toNat)
  case atStart => exact ⟨0, 0, Nat.zero_le _, rfl, rfl, hide wrap_zero, hide (fun j hj => by omega)⟩
  case round =>
    obtain ⟨k, x, hk, rfl, rfl, Hx, Ha⟩ := hrel
    by_cases hlt : k < s.size
    · have hgd := bs_getD hlt
      have HT := hide (hexN_take (l := bs s) (k := k) (by rw [Hl.out]; exact hlt))
      have hb1 : ((s[k].toNat : Nat) : Int) < 256 := by have := s[k].toNat_lt; omega
      have hb0 : (0 : Int) ≤ ((s[k].toNat : Nat) : Int) := by omega
      have hv1 := hexV_lt ((s[k].toNat : Nat) : Int)
      have hv0 := hexV_ge ((s[k].toNat : Nat) : Int)
      have Hg := hide hgd
      clear hgd
      by_cases hneg : hexV ((s[k].toNat : Nat) : Int) < 0
      · have Hf := hide (allHex_false (l := bs s) (k := k) (by rw [Hl.out]; exact hlt) (by rw [Hg.out]; exact hneg))
        go_wp2_with (go_at_call 93; refine (hexDigit_v _ _ hb0 hb1).mono ?_; rintro e w' ⟨rfl, rfl⟩)
        refine bodyPost_ret (v := .tuple #[numV false 0 0, .bool false]) (by simp [results, Tryz.results60, go_sem, numV]) rfl ⟨by rw [hexR_no Hf.out], ?_⟩
        exact (Below.refl _ _).alloc (Nat.le_refl _) _
      · go_wp2_with (go_at_call 93; refine (hexDigit_v _ _ hb0 hb1).mono ?_; rintro e w' ⟨rfl, rfl⟩)
        go_round
        case rel => exact ⟨k + 1, wrap64 (wrap64 (x * 16) + hexV ((s[k].toNat : Nat) : Int)), by omega, by go_num, rfl, hide (by rw [HT.out, Hg.out]; exact wrap_hexN Hx.out (by omega)), hide (fun j hj => by
          by_cases e : j = k
          · subst e; rw [Hg.out]; omega
          · exact Ha.out j (by omega))⟩
        case measure => simp [intOf]; omega
    · have hkl : k = s.size := by omega
      have HA : Hid (allHex (bs s) = true) := hide (allHex_true (fun j hj => Ha.out j (by rw [Hl.out] at hj; omega)))
      have HX : Hid (x = wrap64 (hexN (bs s))) := hide (by rw [Hx.out, hkl, ← Hl.out, List.take_length])
      have Hk := hide hkl
      clear hkl
      go_wp2_with (go_at_call 62; refine (int_any x _).mono ?_; rintro e w' ⟨rfl, hb'⟩; obtain ⟨hc, hf⟩ := bcell hb')
      have hsz : w.heap.size < w'.heap.size := by have := hb'.size; simp at this; omega
      refine bodyPost_ret (v := .tuple #[numV false x 0, .bool (decide (0 < s.size))]) ?_ rfl ⟨by rw [hexR_yes HA.out, HX.out], ?_⟩
      · simp [results, Tryz.results60, go_sem, numV, hc]
      · refine Below.setCell (Below.setCell (Below.setCell ?_ ?_ _) ?_ _) ?_ _
        · exact ((Below.refl _ _).alloc (Nat.le_refl _) _).trans (hb'.mono (by simp))
        all_goals simp
end Go.Proofs.YtmndipnifjpdjaaGreatDoor
namespace Go.Proofs.YtmndipnifjpdjaaGreatDoor
open Go Go.RowKit
set_option linter.unusedVariables false
def optR (o : Option Int) : Value := match o with | some x => .tuple #[.int .i64 x, .bool true] | none => .tuple #[.int .i64 0, .bool false]
theorem optR_none : optR none = .tuple #[.int .i64 0, .bool false] := rfl
theorem optR_some (x : Int) : optR (some x) = .tuple #[.int .i64 x, .bool true] := rfl
theorem bs_tail (s : ByteArray) : bs (s.extract 1 s.size) = (bs s).drop 1 := by
  rw [bs_extract, List.take_of_length_le (by rw [List.length_drop, bs_length]; omega)]
theorem size_tail (s : ByteArray) : (s.extract 1 s.size).size = s.size - 1 := by simp
theorem bs_tail2 (s : ByteArray) : bs ((s.extract 1 s.size).extract 1 (s.size - 1)) = ((bs s).drop 1).drop 1 := by
  have := bs_tail (s.extract 1 s.size)
  rw [size_tail, bs_tail] at this
  exact this
theorem size_tail2 (s : ByteArray) : ((s.extract 1 s.size).extract 1 (s.size - 1)).size = s.size - 2 := by
  have h := bs_length ((s.extract 1 s.size).extract 1 (s.size - 1))
  rw [bs_tail2, List.length_drop, List.length_drop, bs_length] at h
  omega
theorem dval_bound {l : List Int} (hd : ∀ c ∈ l, 48 ≤ c ∧ c ≤ 57) (hl : l.length ≤ 3) : dval l ≤ 999 := by
  have h := size10_le_length l hd
  have h2 := size10_lt (dval l)
  have h3 : 10 ^ size10 (dval l) ≤ 10 ^ 3 := Nat.pow_le_pow_right (by omega) (by omega)
  omega
def ExpRel (d : ByteArray) (vv iv : Value) : Prop :=
  ∃ (k : Nat) (x : Int), k ≤ d.size ∧ iv = .int .i64 k ∧ vv = .int .i64 x ∧ 0 ≤ x ∧ x ≤ 999 ∧ Hid (x = (dval ((bs d).take k) : Int)) ∧ Hid (∀ j, j < k → isDigI ((bs d).getD j 0) = true)
theorem expRel_next {d : ByteArray} {k : Nat} {x : Int} (hd : d.size ≤ 3) (hk : k < d.size) (Hx : x = (dval ((bs d).take k) : Int)) (Ha : ∀ j, j < k → isDigI ((bs d).getD j 0) = true) (hc : isDigI ((d[k].toNat : Nat) : Int) = true) :
    x * 10 + ((d[k].toNat : Nat) : Int) - 48 = (dval ((bs d).take (k + 1)) : Int) ∧ x * 10 + ((d[k].toNat : Nat) : Int) - 48 ≤ 999 ∧ (∀ j, j < k + 1 → isDigI ((bs d).getD j 0) = true) := by
  have h1 := dval_take (l := bs d) (k := k) (by rw [bs_length]; exact hk)
  rw [bs_getD hk] at h1
  have h2 : 48 ≤ ((d[k].toNat : Nat) : Int) ∧ ((d[k].toNat : Nat) : Int) ≤ 57 := by simpa [isDigI] using hc
  have h3 : ∀ j, j < k + 1 → isDigI ((bs d).getD j 0) = true := fun j hj => by
    by_cases e : j = k
    · subst e; rw [bs_getD hk]; exact hc
    · exact Ha j (by omega)
  have h4 : dval ((bs d).take (k + 1)) ≤ 999 := dval_bound (fun c hcm => by
    obtain ⟨i, hi, rfl⟩ := List.getElem_of_mem hcm
    rw [List.length_take] at hi
    have := h3 i (by omega)
    rw [List.getElem_take]
    rw [getD_lt (by omega)] at this
    simpa [isDigI] using this) (by rw [List.length_take, bs_length]; omega)
  refine ⟨by omega, by omega, h3⟩
theorem expB_yes {d : ByteArray} {x : Int} (h1 : 1 ≤ d.size) (h3 : d.size ≤ 3) (Hx : x = (dval ((bs d).take d.size) : Int)) (Ha : ∀ j, j < d.size → isDigI ((bs d).getD j 0) = true) : expB (bs d) = some x := by
  have hl := bs_length d
  unfold expB
  rw [if_pos ⟨by omega, by omega, allDig_true (fun j hj => Ha j (by omega))⟩, Hx, ← hl, List.take_length]
theorem expB_no {d : ByteArray} {k : Nat} (hk : k < d.size) (hc : isDigI ((d[k].toNat : Nat) : Int) = false) : expB (bs d) = none := by
  unfold expB
  rw [if_neg]
  rintro ⟨_, _, h⟩
  rw [allDig_false (l := bs d) (k := k) (by rw [bs_length]; exact hk) (by rw [bs_getD hk]; exact hc)] at h
  cases h
theorem expB_len {l : List Int} (h : l.length < 1 ∨ 3 < l.length) : expB l = none := by
  unfold expB; rw [if_neg (by omega)]
end Go.Proofs.YtmndipnifjpdjaaGreatDoor
