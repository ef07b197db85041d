import Derived.Test.YtamdnnkdnhkghaaGreatDoorT06
import Derived.Test.YtamdnnkdnhkghaaGreatDoorT01
import Derived.RowKit
import Derived.Laws.BitsAllLaws
import Derived.Lib.Strings
namespace Go.Proofs.YtamdnnkdnhkghaaGreatDoor

open Go Go.RowKit

set_option linter.unusedVariables false

/-- The slice v holds the bytes l, from the head of a block on. -/
def Byt (w : World) (v : Value) (l : List Int) : Prop :=
  ∃ g cap, v = .slice (some ⟨g, 0, none⟩) l.length cap ∧ l.length ≤ cap ∧ cap ≤ maxLen ∧ g < w.heap.size ∧
    ∀ j, j < l.length → w.cell? ⟨g, j, none⟩ = some (.int .u8 (l.getD j 0))

/-- W is the word of the float nearest to N * 10^E. -/
def DecRnd (N : Nat) (E : Int) (W : Nat) : Prop := IsRnd (N * 10 ^ E.toNat * 2 ^ 1074) (10 ^ (-E).toNat) W

theorem isRnd_zero (a b d : Nat) (hd : 0 < d) : IsRnd (0 * a * b) d 0 := by
  rw [Nat.zero_mul, Nat.zero_mul]; exact rnd_small (by omega)

theorem decRnd_zero (E : Int) : DecRnd 0 E 0 := isRnd_zero _ _ _ (Nat.pow_pos (by omega))

theorem decRnd_under {N : Nat} {E : Int} (h : (size10 N : Int) + E < -330) : DecRnd N E 0 := rnd_under h

theorem decRnd_over {N : Nat} {E : Int} (hN : N ≠ 0) (h : 310 < (size10 N : Int) + E) : DecRnd N E infW := by
  obtain ⟨W, hW⟩ := exists_rnd (N * 10 ^ E.toNat * 2 ^ 1074) (d := 10 ^ (-E).toNat) (Nat.pow_pos (by omega))
  have := rnd_over hN h hW
  subst this
  exact hW

theorem word_rnd {N : Nat} {E : Int} {W : Nat} (h : IsRnd (N * 10 ^ E.toNat * 2 ^ ((0 : Int) + 1074).toNat) (10 ^ (-E).toNat * 2 ^ (-1074 - (0 : Int)).toNat) W) : DecRnd N E W := by
  unfold DecRnd
  have e1 : ((0 : Int) + 1074).toNat = 1074 := rfl
  have e2 : (-1074 - (0 : Int)).toNat = 0 := rfl
  rw [e1, e2, Nat.pow_zero, Nat.mul_one] at h
  exact h

theorem len_ten {N a k : Nat} (h : size10 N + a ≤ k) : (dig (N * 10 ^ a)).length ≤ k := by
  have h0 := size10_lt N
  have h1 : N * 10 ^ a < 10 ^ (size10 N + a) := by rw [Nat.pow_add]; exact Nat.mul_lt_mul_of_pos_right h0 (Nat.pow_pos (by omega))
  exact dig_length_le (Nat.lt_of_lt_of_le h1 (Nat.le_trans (Nat.pow_le_pow_right (by omega) h) (Nat.pow_le_pow_left (by omega) k)))

theorem getD_mem {l : List Int} {k : Nat} (h : k < l.length) : l.getD k 0 ∈ l := by rw [getD_lt h]; exact List.getElem_mem h

theorem dval_take {l : List Int} {k : Nat} (h : k < l.length) : dval (l.take (k + 1)) = dval (l.take k) * 10 + (l.getD k 0 - 48).toNat := by
  rw [List.take_succ_eq_append_getElem h, dval_snoc, getD_lt h]

theorem dig_size_pos {n : Nat} : 0 < (dig n).length ↔ n ≠ 0 := by
  constructor
  · intro h e; subst e; rw [dig_zero] at h; simp at h
  · intro h; rw [dig_pos h]; simp

theorem big_one (w : World) : Big (w.alloc (.cells #[.int .i64 1] 3)) (.slice (some ⟨w.heap.size, 0, none⟩) 1 1) (dig 1) := by
  have e : dig 1 = [1] := by rw [dig_pos (by omega)]; simp [dig_zero]
  rw [e]
  exact big_of_owns (B := w.heap.size) (World.ownsRow_lit (base := w.heap.size) (e := 3) (size := 1) w #[.int .i64 1] 1 (Nat.le_refl _) (by simp [maxLen]) rfl) (fun h => by cases h)

theorem pow10_int (n k : Nat) (K : Int) (hK : K = (k : Int)) (v : Value) (w : World) (h : Big w v (dig n)) (hn : n ≠ 0) (hl : (dig n).length + k ≤ 100000) :
    Calls Tryz.prog 167 #[v, .int .i64 K] w fun e w' => ∃ v', e = .returned v' ∧ Big w' v' (dig (n * 10 ^ k)) ∧ Below w.heap.size w w' := by
  subst hK; exact pow10_any n k v w h hn hl

/-- What 'l01Nearest' hands back for N * 10^E. -/
def NearR (w : World) (N : Nat) (E : Int) (e : Ending) (w' : World) : Prop :=
  ∃ (W : Nat) (ok : Bool) (W0 : Nat), e = .returned (.tuple #[.int .u64 W, .bool ok]) ∧ DecRnd N E W0 ∧ ok = (W0 != infW) ∧ (ok = true → W = W0) ∧ Below w.heap.size w w'

theorem nearR_mk {w : World} {N : Nat} {E : Int} {e : Ending} {w' : World} (W : Nat) (ok : Bool) (W0 : Nat) (h1 : e = .returned (.tuple #[.int .u64 W, .bool ok])) (h2 : DecRnd N E W0) (h3 : ok = (W0 != infW)) (h4 : ok = true → W = W0)
    (h5 : Below w.heap.size w w') : NearR w N E e w' := ⟨W, ok, W0, h1, h2, h3, h4, h5⟩

set_option maxHeartbeats 1600000 in
set_option maxRecDepth 100000 in
theorem nearest_any (l : List Int) (E : Int) (v : Value) (w : World) (h : Byt w v l) (hl : l.length ≤ 101) (hd : ∀ c ∈ l, 48 ≤ c ∧ c ≤ 57) (hE1 : -1200 ≤ E) (hE2 : E ≤ 1200) :
    Calls Tryz.prog 118 #[v, .int .i64 E] w fun e w' => NearR w (dval l) E e w' := by
  obtain ⟨g, cap, rfl, h2, h3, h4, h5⟩ := h
  unfold maxLen at h3
  have Hd := hide hd
  have Hsz := hide (size10_le_length l hd)
  clear hd
  have Htl : Hid (l.take l.length = l) := hide (List.take_length)
  generalize hlen : l.length = len at *
  have Hlen := hide hlen
  clear hlen
  go_enter Tryz.func118, Tryz.ntmps118
  go_wp2
  go_loopw [6, 7, 15] (fun nv sv iv wr => ∃ k N s : Nat, k ≤ len ∧ iv = .int .i64 k ∧ Hid (N = dval (l.take k)) ∧ Big wr nv (dig N) ∧ sv = .int .i64 s ∧ s ≤ k ∧ Hid (s = size10 N) ∧ (dig N).length ≤ k ∧ Below w.heap.size w wr) (fun _ _ iv _ => len - (intOf iv).toNat)
  case atStart =>
    exact ⟨0, 0, 0, Nat.zero_le _, rfl, hide rfl, by rw [dig_zero]; exact (ownI_empty w).big, rfl, Nat.le_refl _, hide (by rw [size10_zero]), by rw [dig_zero]; simp, (Below.refl _ _).alloc (Nat.le_refl _) _⟩
  case round =>
    obtain ⟨k, N, s, hk, rfl, HN, hbig, rfl, hsk, Hs, hlN, hb⟩ := hrel
    by_cases hlt : k < len
    · have hcx : wr.cell? ⟨g, k, none⟩ = some (.int .u8 (l.getD k 0)) := (hb.cell (by exact h4)).trans (h5 k (by omega))
      have hc := Hd.out _ (getD_mem (l := l) (k := k) (by rw [Hlen.out]; exact hlt))
      have HS := hide (dval_take (l := l) (k := k) (by rw [Hlen.out]; exact hlt))
      generalize l.getD k 0 = c at *
      go_wp2_with fail
      refine (times_int N 10 (c - 48).toNat _ _ rfl (by omega) _ _ hbig (by omega) (by omega) (by omega)).mono ?_
      rintro e w1 ⟨v1, rfl, hbig1, hb1⟩
      have hlen1 : (dig (N * 10 + (c - 48).toNat)).length ≤ k + 1 := dig_length_le (by
        have h1 := dig_lt N
        have h2 : 10000 ^ (dig N).length ≤ 10000 ^ k := Nat.pow_le_pow_right (by omega) hlN
        rw [Nat.pow_succ]; omega)
      have HN1 : Hid (N * 10 + (c - 48).toNat = dval (l.take (k + 1))) := hide (by rw [HS.out, HN.out])
      have Hs1 := hide (size10_step N (c - 48).toNat (by omega))
      have Hp := hide (dig_size_pos (n := N * 10 + (c - 48).toNat))
      have HNz : Hid (N * 10 + (c - 48).toNat = 0 → N = 0) := hide (by omega)
      generalize N * 10 + (c - 48).toNat = N1 at *
      obtain ⟨g1, cap1, hv1⟩ := hbig1.len
      subst hv1
      by_cases hp : 0 < (dig N1).length
      · go_wp2
        go_roundw
        case rel => exact ⟨k + 1, N1, s + 1, by omega, by go_num, HN1, hbig1, by go_num, by omega, hide (by rw [Hs1.out, if_neg (Hp.out.1 hp), Hs.out]), hlen1, hb.trans (hb1.mono hb.size)⟩
        case measure => simp [intOf]; omega
      · have hN0 : N1 = 0 := Decidable.byContradiction fun hh => hp (Hp.out.2 hh)
        have HN0 := hide hN0
        clear hN0
        have Hs0 : Hid (s = size10 N1) := hide (by
          have h1 := HNz.out HN0.out
          rw [Hs.out, HN0.out, h1])
        go_wp2
        go_roundw
        case rel => exact ⟨k + 1, N1, s, by omega, by go_num, HN1, hbig1, rfl, by omega, Hs0, hlen1, hb.trans (hb1.mono hb.size)⟩
        case measure => simp [intOf]; omega
    · have hkl : k = len := by omega
      subst hkl
      have HNl : Hid (N = dval l) := hide (by rw [HN.out, Htl.out])
      obtain ⟨g1, cap1, hv1⟩ := hbig.len
      subst hv1
      by_cases hN0 : N = 0
      · have hz : (((dig N).length : Int) == 0) = true := by rw [hN0, dig_zero]; rfl
        have HN0 := hide hN0
        clear hN0
        go_wp2
        go_ret2
        exact nearR_mk 0 true 0 rfl (by rw [← HNl.out, HN0.out]; exact decRnd_zero E) rfl (fun _ => rfl) hb
      · have hpos := dig_size_pos.2 hN0
        have hz : (((dig N).length : Int) == 0) = false := by rw [beq_eq_false_iff_ne]; omega
        have HN0 := hide hN0
        clear hN0
        by_cases hlo : (s : Int) + E < -330
        · go_wp2
          go_ret2
          exact nearR_mk 0 true 0 rfl (by rw [← HNl.out]; exact decRnd_under (by rw [← Hs.out]; exact hlo)) rfl (fun _ => rfl) hb
        · by_cases hhi : 310 < (s : Int) + E
          · go_wp2
            go_ret2
            exact nearR_mk 0 false infW rfl (by rw [← HNl.out]; exact decRnd_over HN0.out (by rw [← Hs.out]; exact hhi)) (by simp) (fun h => by cases h) hb
          · by_cases hE : 0 ≤ E
            · go_wp2_with fail
              refine (pow10_int N E.toNat _ (by omega) _ _ (hbig.below ((Below.refl _ _).alloc (Nat.le_refl _) _)) HN0.out (by omega)).mono ?_
              rintro e w1 ⟨v1, rfl, hg1, hb1⟩
              have hlen1 : (dig (N * 10 ^ E.toNat)).length ≤ 1000 := Nat.le_trans (len_ten (N := N) (a := E.toNat) (k := 310) (by rw [← Hs.out]; omega)) (by omega)
              have hone := (big_one wr).below hb1
              go_wp2_with fail
              refine (word_any (N * 10 ^ E.toNat) 1 0 _ _ _ hg1 hone (by omega) hlen1 (by have := dig_length_le (n := 1) (k := 1) (by omega); omega) (by omega) (by omega) (Nat.mul_ne_zero HN0.out (Nat.pos_iff_ne_zero.1 (Nat.pow_pos (by omega))))).mono ?_
              rintro e w2 ⟨W, rfl, hW, hb2⟩
              have HW : Hid (DecRnd (dval l) E W) := hide (by
                refine word_rnd (N := dval l) (E := E) ?_
                have e1 : (-E).toNat = 0 := by omega
                rw [e1, ← HNl.out]
                exact hW)
              clear hW
              have hb012 : Below wr.heap.size wr w2 := ((((Below.refl _ _).alloc (Nat.le_refl _) _).trans (hb1.mono (by simp))).trans (hb2.mono (by have := hb1.size; simp at this; omega)))
              by_cases hWi : W = infW
              · have hwb : ((W : Int) != 9218868437227405312) = false := by rw [hWi]; rfl
                have HWi := hide hWi
                clear hWi
                go_wp2
                go_ret2
                exact nearR_mk W false W rfl HW.out (by rw [HWi.out]; simp) (fun h => by cases h) (hb.trans (hb012.mono hb.size))
              · have hwb : ((W : Int) != 9218868437227405312) = true := by rw [bne_iff_ne]; unfold infW at hWi; omega
                have HWi := hide hWi
                clear hWi
                go_wp2
                go_ret2
                exact nearR_mk W true W rfl HW.out (by have := HWi.out; simp [this]) (fun _ => rfl) (hb.trans (hb012.mono hb.size))
            · go_wp2_with fail
              refine (pow10_int 1 (-E).toNat _ (by omega) _ _ (big_one wr) (by omega) (by have := dig_length_le (n := 1) (k := 1) (by omega); omega)).mono ?_
              rintro e w1 ⟨v1, rfl, hg1, hb1⟩
              have hlen1 : (dig (1 * 10 ^ (-E).toNat)).length ≤ 2000 := by
                have h1 := dig_length_ten 1 (-E).toNat
                have h2 := dig_length_le (n := 1) (k := 1) (by omega)
                omega
              have hn1 := (hbig.below ((Below.refl _ _).alloc (Nat.le_refl _) (.cells #[.int .i64 1] 3))).below hb1
              go_wp2_with fail
              refine (word_any N (1 * 10 ^ (-E).toNat) 0 _ _ _ hn1 hg1 (Nat.mul_ne_zero (by omega) (Nat.pos_iff_ne_zero.1 (Nat.pow_pos (by omega)))) (by omega) hlen1 (by omega) (by omega) HN0.out).mono ?_
              rintro e w2 ⟨W, rfl, hW, hb2⟩
              have HW : Hid (DecRnd (dval l) E W) := hide (by
                refine word_rnd (N := dval l) (E := E) ?_
                have e1 : E.toNat = 0 := by omega
                rw [e1, ← HNl.out, Nat.pow_zero, Nat.mul_one]
                rw [Nat.one_mul] at hW
                exact hW)
              clear hW
              have hb012 : Below wr.heap.size wr w2 := ((((Below.refl _ _).alloc (Nat.le_refl _) _).trans (hb1.mono (by simp))).trans (hb2.mono (by have := hb1.size; simp at this; omega)))
              by_cases hWi : W = infW
              · have hwb : ((W : Int) != 9218868437227405312) = false := by rw [hWi]; rfl
                have HWi := hide hWi
                clear hWi
                go_wp2
                go_ret2
                exact nearR_mk W false W rfl HW.out (by rw [HWi.out]; simp) (fun h => by cases h) (hb.trans (hb012.mono hb.size))
              · have hwb : ((W : Int) != 9218868437227405312) = true := by rw [bne_iff_ne]; unfold infW at hWi; omega
                have HWi := hide hWi
                clear hWi
                go_wp2
                go_ret2
                exact nearR_mk W true W rfl HW.out (by have := HWi.out; simp [this]) (fun _ => rfl) (hb.trans (hb012.mono hb.size))

end Go.Proofs.YtamdnnkdnhkghaaGreatDoor

namespace Go.Proofs.YtamdnnkdnhkghaaGreatDoor

open Go Go.RowKit

set_option linter.unusedVariables false

theorem dval_le_append (l r : List Int) : dval l ≤ dval (l ++ r) := by
  have key : ∀ (r : List Int) (a : Nat), a ≤ r.foldl (fun a c => a * 10 + (c - 48).toNat) a := by
    intro r
    induction r with
    | nil => intro a; exact Nat.le_refl _
    | cons c r ih => intro a; exact Nat.le_trans (show a ≤ a * 10 + (c - 48).toNat by omega) (ih _)
  unfold dval
  rw [List.foldl_append]
  exact key r _

theorem dval_take_le (l : List Int) (k : Nat) : dval (l.take k) ≤ dval l := by
  have := dval_le_append (l.take k) (l.drop k)
  rwa [List.take_append_drop] at this

end Go.Proofs.YtamdnnkdnhkghaaGreatDoor

namespace Go.Proofs.YtamdnnkdnhkghaaGreatDoor

open Go Go.RowKit

/-- The bytes of a string, as integers. -/
def bs (s : ByteArray) : List Int := s.data.toList.map fun b => ((b.toNat : Nat) : Int)

theorem bs_length (s : ByteArray) : (bs s).length = s.size := by
  unfold bs
  rw [List.length_map, Array.length_toList]
  rfl

theorem bs_getD {s : ByteArray} {k : Nat} (h : k < s.size) : (bs s).getD k 0 = ((s[k].toNat : Nat) : Int) := by
  have h' : k < (bs s).length := by rw [bs_length]; exact h
  rw [getD_lt h']
  simp only [bs, List.getElem_map]
  rfl

theorem bs_extract (s : ByteArray) (a b : Nat) : bs (s.extract a b) = ((bs s).drop a).take (b - a) := by
  simp [bs, ByteArray.data_extract, List.map_drop, List.map_take]

def hexV (c : Int) : Int :=
  if 48 ≤ c ∧ c ≤ 57 then c - 48 else if 97 ≤ c ∧ c ≤ 102 then c - 87 else if 65 ≤ c ∧ c ≤ 70 then c - 55 else -1

theorem hexV_lt (c : Int) : hexV c < 16 := by unfold hexV; split <;> (try split) <;> (try split) <;> omega

theorem hexV_ge (c : Int) : -1 ≤ hexV c := by unfold hexV; split <;> (try split) <;> (try split) <;> omega

/-- The number of hexadecimal digits. -/
def hexN (l : List Int) : Nat := l.foldl (fun a c => a * 16 + (hexV c).toNat) 0

theorem hexN_snoc (l : List Int) (c : Int) : hexN (l ++ [c]) = hexN l * 16 + (hexV c).toNat := by simp [hexN, List.foldl_append]

def allHex (l : List Int) : Bool := l.all fun c => decide (0 ≤ hexV c)

theorem hexN_take {l : List Int} {k : Nat} (h : k < l.length) : hexN (l.take (k + 1)) = hexN (l.take k) * 16 + (hexV (l.getD k 0)).toNat := by
  rw [List.take_succ_eq_append_getElem h, hexN_snoc, getD_lt h]

def isDigI (c : Int) : Bool := decide (48 ≤ c ∧ c ≤ 57)

def allDig (l : List Int) : Bool := l.all isDigI

/-- The digits of an exponent. -/
def expB (l : List Int) : Option Int := if 1 ≤ l.length ∧ l.length ≤ 3 ∧ allDig l = true then some (dval l) else none

/-- What stands behind the letter of an exponent. -/
def expS (l : List Int) : Option Int :=
  if l.getD 0 0 = 45 then (expB (l.drop 1)).map (fun x => -x) else if l.getD 0 0 = 43 then expB (l.drop 1) else expB l

/-- An exponent with its letter. -/
def expV (l : List Int) : Option Int := if l.getD 0 0 = 101 ∨ l.getD 0 0 = 69 then expS (l.drop 1) else none

theorem allDig_false {l : List Int} {k : Nat} (h : k < l.length) (hd : isDigI (l.getD k 0) = false) : allDig l = false := by
  unfold allDig
  rw [List.all_eq_false]
  exact ⟨l.getD k 0, by rw [getD_lt h]; exact List.getElem_mem h, by rw [hd]; decide⟩

theorem allHex_false {l : List Int} {k : Nat} (h : k < l.length) (hd : hexV (l.getD k 0) < 0) : allHex l = false := by
  unfold allHex
  rw [List.all_eq_false]
  exact ⟨l.getD k 0, by rw [getD_lt h]; exact List.getElem_mem h, by rw [decide_eq_false (by omega)]; decide⟩

theorem allHex_true {l : List Int} (h : ∀ k, k < l.length → 0 ≤ hexV (l.getD k 0)) : allHex l = true := by
  unfold allHex
  rw [List.all_eq_true]
  intro c hc
  obtain ⟨i, hi, rfl⟩ := List.getElem_of_mem hc
  have := h i hi
  rw [getD_lt hi] at this
  simpa using this

theorem allDig_true {l : List Int} (h : ∀ k, k < l.length → isDigI (l.getD k 0) = true) : allDig l = true := by
  unfold allDig
  rw [List.all_eq_true]
  intro c hc
  obtain ⟨i, hi, rfl⟩ := List.getElem_of_mem hc
  have := h i hi
  rwa [getD_lt hi] at this

end Go.Proofs.YtamdnnkdnhkghaaGreatDoor

namespace Go.Proofs.YtamdnnkdnhkghaaGreatDoor

open Go Go.RowKit

set_option linter.unusedVariables false

def numV (f : Bool) (i : Int) (b : Int) : Value := .agg #[.bool f, .int .i64 i, .int .u64 b]

theorem bcell {W w1 : World} (hb : Below W.heap.size W w1) : (∀ b o, b < W.heap.size → w1.cell? ⟨b, o, none⟩ = W.cell? ⟨b, o, none⟩) ∧ (∀ b o, b < W.heap.size → w1.frozen? ⟨b, o, none⟩ = W.frozen? ⟨b, o, none⟩) :=
  ⟨fun b o h => hb.cell (p := ⟨b, o, none⟩) h, fun b o h => hb.frozen (p := ⟨b, o, none⟩) h⟩

def hexR (s : ByteArray) : Value := .tuple #[numV false (if allHex (bs s) = true then wrap64 (hexN (bs s)) else 0) 0, .bool (allHex (bs s) && decide (0 < s.size))]

theorem hexR_no {s : ByteArray} (h : allHex (bs s) = false) : hexR s = .tuple #[numV false 0 0, .bool false] := by unfold hexR; rw [h, if_neg (by decide), Bool.false_and]

theorem hexR_yes {s : ByteArray} (h : allHex (bs s) = true) : hexR s = .tuple #[numV false (wrap64 (hexN (bs s))) 0, .bool (decide (0 < s.size))] := by unfold hexR; rw [h, if_pos rfl, Bool.true_and]

end Go.Proofs.YtamdnnkdnhkghaaGreatDoor

namespace Go.Proofs.YtamdnnkdnhkghaaGreatDoor

open Go Go.RowKit

set_option linter.unusedVariables false

theorem bs_tail (s : ByteArray) : bs (s.extract 1 s.size) = (bs s).drop 1 := by
  rw [bs_extract, List.take_of_length_le (by rw [List.length_drop, bs_length]; omega)]

theorem size_tail (s : ByteArray) : (s.extract 1 s.size).size = s.size - 1 := by simp

theorem expB_len {l : List Int} (h : l.length < 1 ∨ 3 < l.length) : expB l = none := by
  unfold expB; rw [if_neg (by omega)]

end Go.Proofs.YtamdnnkdnhkghaaGreatDoor

namespace Go.Proofs.YtamdnnkdnhkghaaGreatDoor

open Go Go.RowKit

def isDP (c : Int) : Bool := isDigI c || c == 46

/-- What has been read of a decimal numeral: its digits, how many of them stand behind a point, how many points. -/
def dstep (s : List Int × Nat × Nat) (c : Int) : List Int × Nat × Nat := if c = 46 then (s.1, s.2.1, s.2.2 + 1) else (s.1 ++ [c], s.2.1 + s.2.2, s.2.2)

def dscan (l : List Int) : List Int × Nat × Nat := l.foldl dstep ([], 0, 0)

theorem dscan_take {l : List Int} {k : Nat} (h : k < l.length) : dscan (l.take (k + 1)) = dstep (dscan (l.take k)) (l.getD k 0) := by
  unfold dscan
  rw [List.take_succ_eq_append_getElem h, List.foldl_append, getD_lt h]
  rfl

/-- How long the digits and points at the beginning are. -/
def mlen : List Int → Nat
  | [] => 0
  | c :: r => if isDP c = true then mlen r + 1 else 0

theorem mlen_of {l : List Int} {k : Nat} (hk : k ≤ l.length) (h : ∀ j, j < k → isDP (l.getD j 0) = true) (he : k = l.length ∨ isDP (l.getD k 0) = false) : mlen l = k := by
  induction l generalizing k with
  | nil => simp at hk; subst hk; rfl
  | cons c r ih =>
    cases k with
    | zero =>
      rcases he with he | he
      · simp at he
      · have : isDP c = false := by simpa using he
        simp [mlen, this]
    | succ k =>
      have h0 : isDP c = true := by simpa using h 0 (by omega)
      have hr := ih (k := k) (by simpa using hk) (fun j hj => by simpa using h (j + 1) (by omega)) (by
        rcases he with he | he
        · left; simpa using he
        · right; simpa using he)
      simp [mlen, h0, hr]

theorem dscan_len (l : List Int) : (dscan l).1.length ≤ l.length ∧ (dscan l).2.2 ≤ l.length := by
  have key : ∀ (l : List Int) (s : List Int × Nat × Nat), (l.foldl dstep s).1.length ≤ s.1.length + l.length ∧ (l.foldl dstep s).2.2 ≤ s.2.2 + l.length := by
    intro l
    induction l with
    | nil => intro s; simp
    | cons c r ih =>
      intro s
      have := ih (dstep s c)
      simp only [List.foldl_cons, List.length_cons]
      unfold dstep at this ⊢
      split at this
      · rename_i h; rw [if_pos h]; simp at this ⊢; omega
      · rename_i h; rw [if_neg h]; simp at this ⊢; omega
  have := key l ([], 0, 0)
  unfold dscan
  simpa using this

theorem dscan_digits {l : List Int} (h : ∀ c ∈ l, isDP c = true) : ∀ c ∈ (dscan l).1, 48 ≤ c ∧ c ≤ 57 := by
  have key : ∀ (l : List Int) (s : List Int × Nat × Nat), (∀ c ∈ l, isDP c = true) → (∀ c ∈ s.1, 48 ≤ c ∧ c ≤ 57) → ∀ c ∈ (l.foldl dstep s).1, 48 ≤ c ∧ c ≤ 57 := by
    intro l
    induction l with
    | nil => intro s _ hs; exact hs
    | cons c r ih =>
      intro s hl hs
      refine ih (dstep s c) (fun x hx => hl x (by simp [hx])) ?_
      unfold dstep
      split
      · exact hs
      · rename_i hc
        intro x hx
        rcases List.mem_append.1 hx with hx | hx
        · exact hs x hx
        · have hxc : x = c := by simpa using hx
          have h1 := hl c (by simp)
          rw [hxc]
          simp [isDP, isDigI, hc] at h1
          exact h1
  exact key l ([], 0, 0) h (fun c hc => by cases hc)

end Go.Proofs.YtamdnnkdnhkghaaGreatDoor

namespace Go.Proofs.YtamdnnkdnhkghaaGreatDoor

open Go Go.RowKit

set_option linter.unusedVariables false

theorem Tryz.info5 : (Tryz.prog.info? 5).map (fun i => (i.zero, i.size, i.bytes)) = some (some (.int .u8 0), 1, 1) := by kernel_rfl

/-- The slice v is the call's own (blocks from base on), not nil, and holds the bytes L. -/
def OwnB (w : World) (base : Nat) (v : Value) (L : List Int) : Prop := w.ownsRow base 5 1 v L.length (L.map (Value.int .u8)) ∧ v ≠ .slice none 0 0

theorem OwnB.byt {w : World} {base : Nat} {v : Value} {L : List Int} (h : OwnB w base v L) : Byt w v L := by
  obtain ⟨⟨h1, h2⟩, hv⟩ := h
  rcases h2 with ⟨rfl, _⟩ | ⟨g, cap, cur, rfl, hB, hh, hn, hc, hs, ht⟩
  · exact absurd rfl hv
  · have hown : w.ownsRow base 5 1 (.slice (some ⟨g, 0, none⟩) L.length cap) L.length (L.map (Value.int .u8)) := ⟨h1, .inr ⟨g, cap, cur, rfl, hB, hh, hn, hc, hs, ht⟩⟩
    refine ⟨g, cap, rfl, hn, hc, (hown.lt g rfl).2, fun j hj => ?_⟩
    rw [hown.cellAt j (by omega), List.getElem?_map, List.getElem?_eq_getElem hj, getD_lt hj]; rfl

theorem ownB_empty (w : World) : OwnB (w.alloc (.cells #[] 5)) w.heap.size (.slice (some ⟨w.heap.size, 0, none⟩) 0 0) [] :=
  ⟨World.ownsRow_made w #[] 0 (Nat.le_refl _) (by simp [maxLen]) rfl, fun h => by cases h⟩

theorem news_one5 (wr : World) (u0 : Value) : ∀ j u, [u0][j]? = some u → (wr.alloc (.cells #[u0] 5)).cell? ((⟨wr.heap.size, 0, none⟩ : Addr).add j) = some u := by
  intro j u hj
  match j, hj with
  | 0, hj => simp at hj; subst hj; simp [Addr.add]

def zeroR : Value := .tuple #[numV false 0 0, .bool false]

/-- Behind the digits and points: what a decimal numeral comes to, ds its digits, b of them behind the point, x its exponent. -/
def FloatR (N : Nat) (E : Int) (r : Value) : Prop := ∃ W, DecRnd N E W ∧ r = if W = infW then zeroR else .tuple #[numV true 0 W, .bool true]

def DecR (l : List Int) (r : Value) : Prop :=
  if (dscan (l.take (mlen l))).1 = [] ∨ 1 < (dscan (l.take (mlen l))).2.2 then r = zeroR
  else if mlen l = l.length ∧ (dscan (l.take (mlen l))).2.2 = 0 ∧ dval (dscan (l.take (mlen l))).1 < 9223372036854775808 then r = .tuple #[numV false (dval (dscan (l.take (mlen l))).1) 0, .bool true]
  else match (if mlen l < l.length then expV (l.drop (mlen l)) else some 0) with
    | none => r = zeroR
    | some x => FloatR (dval (dscan (l.take (mlen l))).1) (x - (dscan (l.take (mlen l))).2.1) r

def isHexP (l : List Int) : Bool := decide (1 < l.length) && l.getD 0 0 == 48 && (l.getD 1 0 == 120 || l.getD 1 0 == 88)

/-- What 'ParseNumber' hands back for a text. -/
def PNR (s : ByteArray) (r : Value) : Prop :=
  if 100 < s.size then r = zeroR else if isHexP (bs s) = true then r = hexR (s.extract 2 s.size) else DecR (bs s) r

end Go.Proofs.YtamdnnkdnhkghaaGreatDoor

namespace Go.Proofs.YtamdnnkdnhkghaaGreatDoor

open Go Go.RowKit

set_option linter.unusedVariables false

/-- The cells of the result, in a world that has grown since. -/
structure ResC (w wr : World) : Prop where
  c0 : wr.cell? ⟨w.heap.size, 0, none⟩ = some (.bool false)
  c1 : wr.cell? ⟨w.heap.size, 1, none⟩ = some (.int .i64 0)
  c2 : wr.cell? ⟨w.heap.size, 2, none⟩ = some (.int .u64 0)
  f0 : wr.frozen? ⟨w.heap.size, 0, none⟩ = false
  f1 : wr.frozen? ⟨w.heap.size, 1, none⟩ = false
  f2 : wr.frozen? ⟨w.heap.size, 2, none⟩ = false

theorem resC {w wr : World} (h : Below (w.heap.size + 1) (w.alloc (.cells #[.bool false, .int .i64 0, .int .u64 0] 26)) wr) : ResC w wr := by
  refine ⟨?_, ?_, ?_, ?_, ?_, ?_⟩
  · rw [h.cell (p := ⟨w.heap.size, 0, none⟩) (by simp)]; simp
  · rw [h.cell (p := ⟨w.heap.size, 1, none⟩) (by simp)]; simp
  · rw [h.cell (p := ⟨w.heap.size, 2, none⟩) (by simp)]; simp
  · rw [h.frozen (p := ⟨w.heap.size, 0, none⟩) (by simp)]; simp
  · rw [h.frozen (p := ⟨w.heap.size, 1, none⟩) (by simp)]; simp
  · rw [h.frozen (p := ⟨w.heap.size, 2, none⟩) (by simp)]; simp

theorem below_res {w wr : World} (h : Below (w.heap.size + 1) (w.alloc (.cells #[.bool false, .int .i64 0, .int .u64 0] 26)) wr) : Below w.heap.size w wr :=
  ((Below.refl _ _).alloc (Nat.le_refl _) _).trans (h.mono (by omega))

theorem scan_dig {s : ByteArray} {k b p : Nat} {ds : List Int} (hk : k < s.size) (h : dscan ((bs s).take k) = (ds, b, p)) (hd : isDig ((s[k].toNat : Nat) : Int) = true) :
    dscan ((bs s).take (k + 1)) = (ds ++ [((s[k].toNat : Nat) : Int)], b + p, p) := by
  rw [dscan_take (by rw [bs_length]; exact hk), h, bs_getD hk]
  unfold dstep
  rw [if_neg]
  intro e
  simp [isDig] at hd
  omega

theorem scan_point {s : ByteArray} {k b p : Nat} {ds : List Int} (hk : k < s.size) (h : dscan ((bs s).take k) = (ds, b, p)) (hd : ((s[k].toNat : Nat) : Int) = 46) :
    dscan ((bs s).take (k + 1)) = (ds, b, p + 1) := by
  rw [dscan_take (by rw [bs_length]; exact hk), h, bs_getD hk]
  unfold dstep
  rw [if_pos hd]

theorem rnd_le {N d W : Nat} (h : IsRnd N d W) : W ≤ infW := by obtain ⟨k, _, _, rfl⟩ := h; exact Nat.min_le_right _ _

end Go.Proofs.YtamdnnkdnhkghaaGreatDoor

namespace Go.Proofs.YtamdnnkdnhkghaaGreatDoor

open Go Go.RowKit

set_option linter.unusedVariables false

theorem FloatR.unique {N : Nat} {E : Int} {r r' : Value} (h : FloatR N E r) (h' : FloatR N E r') : r = r' := by
  obtain ⟨W, h1, rfl⟩ := h
  obtain ⟨W', h1', rfl⟩ := h'
  have : W = W' := IsRnd.unique h1 h1'
  rw [this]

/-- There is one answer. -/
theorem PNR.unique {s : ByteArray} {r r' : Value} (h : PNR s r) (h' : PNR s r') : r = r' := by
  unfold PNR at h h'
  split at h
  · rename_i c; rw [if_pos c] at h'; rw [h, h']
  · rename_i c
    rw [if_neg c] at h'
    split at h
    · rename_i c2; rw [if_pos c2] at h'; rw [h, h']
    · rename_i c2
      rw [if_neg c2] at h'
      unfold DecR at h h'
      split at h
      · rename_i c3; rw [if_pos c3] at h'; rw [h, h']
      · rename_i c3
        rw [if_neg c3] at h'
        split at h
        · rename_i c4; rw [if_pos c4] at h'; rw [h, h']
        · rename_i c4
          rw [if_neg c4] at h'
          split at h
          · rename_i c5; rw [c5] at h'; rw [h]; exact h'.symm
          · rename_i x c5; rw [c5] at h'; exact FloatR.unique h h'

end Go.Proofs.YtamdnnkdnhkghaaGreatDoor

namespace Go.Proofs.YtamdnnkdnhkghaaGreatDoor

open Go Go.RowKit

set_option linter.unusedVariables false

theorem isEmpty_size (s : ByteArray) : (!s.toList.isEmpty) = decide (0 < s.size) := by
  rw [Lib.size_eq, Lib.toList_data]
  cases h : s.data.toList <;> simp

theorem or_low {a d : Nat} (hd : d < 16) : 16 * a ||| d = 16 * a + d := by
  have := Nat.two_pow_add_eq_or_of_lt (i := 4) (b := d) (by omega) a
  simpa using this.symm

theorem hex_or {x d : Int} (hx0 : 0 ≤ x) (hd0 : 0 ≤ d) (hd1 : d < 16) : bits .or .u64 (IntKind.u64.wrap (x * 16)) d = (x * 16) % 18446744073709551616 + d := by
  have e1 : IntKind.u64.wrap (x * 16) = (x * 16) % 18446744073709551616 := by simp [IntKind.wrap, IntKind.signed, IntKind.bits]
  rw [e1]
  obtain ⟨n, hn⟩ : ∃ n : Nat, (x * 16) % 18446744073709551616 = ((16 * n : Nat) : Int) := ⟨((x * 16) % 18446744073709551616 / 16).toNat, by omega⟩
  obtain ⟨m, rfl⟩ : ∃ m : Nat, d = (m : Int) := ⟨d.toNat, by omega⟩
  rw [hn, u64_or_nat _ _ (by omega) (by omega), or_low (by omega)]
  omega

theorem hex_step {N : Nat} {x d : Int} (h : x = (N : Int) % 18446744073709551616) (h0 : 0 ≤ d) (h1 : d < 16) : (x * 16) % 18446744073709551616 + d = ((N * 16 + d.toNat : Nat) : Int) % 18446744073709551616 := by omega

theorem hex_end {N : Nat} {x : Int} (h : x = (N : Int) % 18446744073709551616) : wrap64 x = wrap64 (N : Int) := by unfold wrap64; omega

/-- What impl.hexDigit hands back. -/
def hexD (c : Int) : Value := if 0 ≤ hexV c then .tuple #[.int .u8 (hexV c), .bool true] else .tuple #[.int .u8 0, .bool false]

theorem hexD_yes {c v : Int} (h : hexV c = v) (h0 : 0 ≤ v) : hexD c = .tuple #[.int .u8 v, .bool true] := by unfold hexD; rw [h, if_pos h0]

theorem hexD_no {c : Int} (h : hexV c = -1) : hexD c = .tuple #[.int .u8 0, .bool false] := by unfold hexD; rw [h, if_neg (by omega)]

theorem implHexDigit_any (c : Int) (w : World) (h0 : 0 ≤ c) (h1 : c < 256) :
    Calls Tryz.prog 62 #[.int .u8 c] w fun e w' => e = .returned (hexD c) ∧ w' = w := by
  by_cases a1 : 48 ≤ c ∧ c ≤ 57
  · have H := hide (hexD_yes (c := c) (v := c - 48) (by unfold hexV; rw [if_pos a1]) (by omega))
    obtain ⟨a2, a3⟩ := a1
    go_enter Tryz.func62, Tryz.ntmps62
    go_wp2
    go_ret2
    exact ⟨by rw [H.out]; rfl, rfl⟩
  · by_cases b1 : 97 ≤ c ∧ c ≤ 102
    · have H := hide (hexD_yes (c := c) (v := c - 97 + 10) (by unfold hexV; rw [if_neg a1, if_pos b1]; omega) (by omega))
      obtain ⟨b2, b3⟩ := b1
      go_enter Tryz.func62, Tryz.ntmps62
      go_wp2
      go_ret2
      exact ⟨by rw [H.out]; rfl, rfl⟩
    · by_cases c1 : 65 ≤ c ∧ c ≤ 70
      · have H := hide (hexD_yes (c := c) (v := c - 65 + 10) (by unfold hexV; rw [if_neg a1, if_neg b1, if_pos c1]; omega) (by omega))
        obtain ⟨c2, c3⟩ := c1
        go_enter Tryz.func62, Tryz.ntmps62
        go_wp2
        go_ret2
        exact ⟨by rw [H.out]; rfl, rfl⟩
      · have H := hide (hexD_no (c := c) (by unfold hexV; rw [if_neg a1, if_neg b1, if_neg c1]))
        go_enter Tryz.func62, Tryz.ntmps62
        go_wp2
        all_goals go_ret2
        all_goals exact ⟨by rw [H.out]; rfl, rfl⟩

theorem implInt_any (i : Int) (w : World) : Calls Tryz.prog 63 #[.int .i64 i] w fun e w' => e = .returned (.agg #[.bool false, .int .i64 i, .int .u64 0]) ∧ Below w.heap.size w w' := by
  go_enter Tryz.func63, Tryz.ntmps63
  go_wp2
  exact bodyPost_ret (v := .agg #[.bool false, .int .i64 i, .int .u64 0]) (by simp [results, Tryz.results63, go_sem]) rfl ⟨rfl, (Below.refl _ _).alloc (Nat.le_refl _) _⟩

set_option maxHeartbeats 800000 in
set_option maxRecDepth 100000 in
theorem implHex_any (s : ByteArray) (w : World) (hs : s.size ≤ 100) :
    Calls Tryz.prog 34 #[.string s] w fun e w' => e = .returned (hexR s) ∧ Below w.heap.size w w' := by
  have Hl := hide (bs_length s)
  go_enter Tryz.func34, Tryz.ntmps34
  go_wp2
  go_loop [4, 10] (fun vv iv => ∃ (k : Nat) (x : Int), k ≤ s.size ∧ iv = .int .i64 k ∧ vv = .int .u64 x ∧ 0 ≤ x ∧ x < 18446744073709551616 ∧ Hid (x = (hexN ((bs s).take k) : Int) % 18446744073709551616) ∧ Hid (∀ j, j < k → 0 ≤ hexV ((bs s).getD j 0))) (fun _ iv => s.size - (intOf iv).toNat)
  case atStart => exact ⟨0, 0, Nat.zero_le _, rfl, rfl, by omega, by omega, hide (by simp [hexN]), hide (fun j hj => by omega)⟩
  case round =>
    obtain ⟨k, x, hk, rfl, rfl, hx0, hx1, Hx, Ha⟩ := hrel
    by_cases hlt : k < s.size
    · have hgd := bs_getD hlt
      have HT := hide (hexN_take (l := bs s) (k := k) (by rw [Hl.out]; exact hlt))
      have hb1 : ((s[k].toNat : Nat) : Int) < 256 := by have := s[k].toNat_lt; omega
      have hb0 : (0 : Int) ≤ ((s[k].toNat : Nat) : Int) := by omega
      have hv1 := hexV_lt ((s[k].toNat : Nat) : Int)
      have hv0 := hexV_ge ((s[k].toNat : Nat) : Int)
      have Hg := hide hgd
      clear hgd
      by_cases hneg : hexV ((s[k].toNat : Nat) : Int) < 0
      · have Hf := hide (allHex_false (l := bs s) (k := k) (by rw [Hl.out]; exact hlt) (by rw [Hg.out]; exact hneg))
        have HD := hide (hexD_no (c := ((s[k].toNat : Nat) : Int)) (by omega))
        go_wp2_with (go_at_call 62; refine (implHexDigit_any _ _ hb0 hb1).mono ?_; rintro e w' ⟨rfl, rfl⟩; rw [HD.out])
        refine bodyPost_ret (v := .tuple #[numV false 0 0, .bool false]) (by simp [results, Tryz.results34, go_sem, numV]) rfl ⟨by rw [hexR_no Hf.out], ?_⟩
        exact (Below.refl _ _).alloc (Nat.le_refl _) _
      · have HD := hide (hexD_yes (c := ((s[k].toNat : Nat) : Int)) rfl (by omega))
        have hv2 : 0 ≤ hexV ((s[k].toNat : Nat) : Int) := by omega
        generalize hdd : hexV ((s[k].toNat : Nat) : Int) = d at *
        have Hdd := hide hdd
        clear hdd
        go_wp2_with (go_at_call 62; refine (implHexDigit_any _ _ hb0 hb1).mono ?_; rintro e w' ⟨rfl, rfl⟩; rw [HD.out])
        have HO := hide (hex_or hx0 hv2 hv1)
        have HS := hide (hex_step Hx.out hv2 hv1)
        have hlo : 0 ≤ (x * 16) % 18446744073709551616 + d := by omega
        have hhi : (x * 16) % 18446744073709551616 + d < 18446744073709551616 := by omega
        go_round
        case rel => exact ⟨k + 1, (x * 16) % 18446744073709551616 + d, by omega, by go_num, by rw [HO.out], hlo, hhi, hide (by rw [HT.out, Hg.out, Hdd.out]; exact HS.out), hide (fun j hj => by
          by_cases e : j = k
          · subst e; rw [Hg.out, Hdd.out]; exact hv2
          · exact Ha.out j (by omega))⟩
        case measure => simp [intOf]; omega
    · have hkl : k = s.size := by omega
      have HA : Hid (allHex (bs s) = true) := hide (allHex_true (fun j hj => Ha.out j (by rw [Hl.out] at hj; omega)))
      have HX : Hid (wrap64 x = wrap64 (hexN (bs s))) := hide (by
        have h1 := Hx.out
        rw [hkl, ← Hl.out, List.take_length] at h1
        exact hex_end h1)
      have Hk := hide hkl
      clear hkl
      go_wp2_with fail
      refine (implInt_any (wrap64 x) _).mono ?_
      rintro e w' ⟨rfl, hb'⟩
      obtain ⟨hc, hf⟩ := bcell hb'
      go_wp2
      refine bodyPost_ret (v := .tuple #[numV false (wrap64 x) 0, .bool (!s.toList.isEmpty)]) ?_ rfl ⟨by rw [hexR_yes HA.out, HX.out, isEmpty_size], ?_⟩
      · simp [results, Tryz.results34, go_sem, numV, hc]
      · refine Below.setCell (Below.setCell (Below.setCell ?_ ?_ _) ?_ _) ?_ _
        · exact ((Below.refl _ _).alloc (Nat.le_refl _) _).trans (hb'.mono (by simp))
        all_goals simp

end Go.Proofs.YtamdnnkdnhkghaaGreatDoor

namespace Go.Proofs.YtamdnnkdnhkghaaGreatDoor

open Go Go.RowKit

set_option linter.unusedVariables false

set_option maxHeartbeats 800000 in
theorem areDigits_any (s : ByteArray) (w : World) (hs : s.size ≤ 140737488351232) :
    Calls Tryz.prog 65 #[.string s] w fun e w' => e = .returned (.bool (allDig (bs s))) ∧ w' = w := by
  have Hl := hide (bs_length s)
  go_enter Tryz.func65, Tryz.ntmps65
  go_wp2
  go_loop [6] (fun iv => ∃ (k : Nat), k ≤ s.size ∧ iv = .int .i64 k ∧ Hid (∀ j, j < k → isDigI ((bs s).getD j 0) = true)) (fun iv => s.size - (intOf iv).toNat)
  case atStart => exact ⟨0, Nat.zero_le _, rfl, hide (fun j hj => by omega)⟩
  case round =>
    obtain ⟨k, hk, rfl, Ha⟩ := hrel
    by_cases hlt : k < s.size
    · have Hg := hide (bs_getD hlt)
      have hb0 : (0 : Int) ≤ ((s[k].toNat : Nat) : Int) := by omega
      by_cases hd : 48 ≤ ((s[k].toNat : Nat) : Int) ∧ ((s[k].toNat : Nat) : Int) ≤ 57
      · have Hd : Hid (isDigI ((s[k].toNat : Nat) : Int) = true) := hide (by simp [isDigI, hd])
        obtain ⟨hd1, hd2⟩ := hd
        go_wp2
        go_round
        case rel => exact ⟨k + 1, by omega, by go_num, hide (fun j hj => by
          by_cases e : j = k
          · subst e; rw [Hg.out]; exact Hd.out
          · exact Ha.out j (by omega))⟩
        case measure => simp [intOf]; omega
      · have Hf := hide (allDig_false (l := bs s) (k := k) (by rw [Hl.out]; exact hlt) (by rw [Hg.out]; simp [isDigI]; omega))
        go_wp2
        all_goals go_ret
        all_goals exact ⟨by rw [Hf.out]; rfl, rfl⟩
    · have HA : Hid (allDig (bs s) = true) := hide (allDig_true (fun j hj => Ha.out j (by rw [Hl.out] at hj; omega)))
      go_wp2
      go_ret
      exact ⟨by rw [HA.out]; rfl, rfl⟩

end Go.Proofs.YtamdnnkdnhkghaaGreatDoor

namespace Go.Proofs.YtamdnnkdnhkghaaGreatDoor

open Go Go.RowKit

set_option linter.unusedVariables false

theorem expB_some (l : List Int) : (expB l).isSome = (decide (1 ≤ l.length) && decide (l.length ≤ 3) && allDig l) := by
  unfold expB
  split
  · rename_i h; simp [h.1, h.2.1, h.2.2]
  · rename_i h
    symm
    simp only [Option.isSome_none, Bool.and_eq_false_iff, decide_eq_false_iff_not]
    by_cases h1 : 1 ≤ l.length
    · by_cases h2 : l.length ≤ 3
      · right
        cases h3 : allDig l
        · rfl
        · exact absurd ⟨h1, h2, h3⟩ h
      · left; right; exact h2
    · left; left; exact h1

theorem expB_out {d : ByteArray} (h : d.size < 1 ∨ 3 < d.size) : (expB (bs d)).isSome = false := by
  rw [expB_len (by rw [bs_length]; exact h)]; rfl

theorem expB_in {d : ByteArray} (h1 : 1 ≤ d.size) (h3 : d.size ≤ 3) : (expB (bs d)).isSome = allDig (bs d) := by
  rw [expB_some, bs_length]; simp [h1, h3]

theorem isEmpty_true {s : ByteArray} (h : s.size = 0) : s.toList.isEmpty = true := by
  have := isEmpty_size s
  rw [h] at this
  simpa using this

theorem isEmpty_false {s : ByteArray} (h : 0 < s.size) : s.toList.isEmpty = false := by
  have := isEmpty_size s
  rw [decide_eq_true h] at this
  simpa using this

set_option maxHeartbeats 800000 in
theorem isExp_0 (s : ByteArray) (w : World) (h0 : s.size = 0) :
    Calls Tryz.prog 111 #[.string s] w fun e w' => e = .returned (.bool (expS (bs s)).isSome) ∧ w' = w := by
  have he := isEmpty_true h0
  have HR : Hid ((expS (bs s)).isSome = false) := hide (by
    have : bs s = [] := List.eq_nil_of_length_eq_zero (by rw [bs_length]; exact h0)
    rw [this]; rfl)
  have hle : s.size < 1 := by omega
  clear h0
  go_enter Tryz.func111, Tryz.ntmps111
  go_wp2
  all_goals go_ret
  all_goals exact ⟨by rw [HR.out]; rfl, rfl⟩

set_option maxHeartbeats 1600000 in
theorem isExp_sign (s : ByteArray) (w : World) (hs : s.size ≤ 100) (h0 : 0 < s.size)
    (hc : (((s[0].toNat : Nat) : Int) == 43) = true ∨ ((((s[0].toNat : Nat) : Int) == 43) = false ∧ (((s[0].toNat : Nat) : Int) == 45) = true))
    (HR : Hid ((expS (bs s)).isSome = (expB (bs (s.extract 1 s.size))).isSome)) :
    Calls Tryz.prog 111 #[.string s] w fun e w' => e = .returned (.bool (expS (bs s)).isSome) ∧ w' = w := by
  have he := isEmpty_false h0
  have hsz := size_tail s
  have Hsz := hide hsz
  by_cases hg : 2 ≤ s.size ∧ s.size ≤ 4
  · obtain ⟨hg1, hg2⟩ := hg
    have HB : Hid ((expB (bs (s.extract 1 s.size))).isSome = allDig (bs (s.extract 1 s.size))) := hide (expB_in (by rw [hsz]; omega) (by rw [hsz]; omega))
    have hle : (s.extract 1 s.size).size ≤ 140737488351232 := by rw [hsz]; omega
    clear hsz
    rcases hc with hc | ⟨hc1, hc2⟩
    all_goals go_enter Tryz.func111, Tryz.ntmps111
    all_goals go_wp2_with (go_at_call 65; refine (areDigits_any (s.extract 1 s.size) _ hle).mono ?_; rintro e w' ⟨rfl, rfl⟩)
    all_goals go_ret
    all_goals exact ⟨by rw [HR.out, HB.out]; rfl, rfl⟩
  · have HB : Hid ((expB (bs (s.extract 1 s.size))).isSome = false) := hide (expB_out (by rw [hsz]; omega))
    clear hsz
    by_cases hg1 : s.size < 2
    all_goals rcases hc with hc | ⟨hc1, hc2⟩
    all_goals go_enter Tryz.func111, Tryz.ntmps111
    all_goals go_wp2_with fail
    all_goals go_ret
    all_goals exact ⟨by rw [HR.out, HB.out]; rfl, rfl⟩

set_option maxHeartbeats 1600000 in
theorem isExp_plain (s : ByteArray) (w : World) (hs : s.size ≤ 100) (h0 : 0 < s.size)
    (hc1 : (((s[0].toNat : Nat) : Int) == 43) = false) (hc2 : (((s[0].toNat : Nat) : Int) == 45) = false)
    (HR : Hid ((expS (bs s)).isSome = (expB (bs s)).isSome)) :
    Calls Tryz.prog 111 #[.string s] w fun e w' => e = .returned (.bool (expS (bs s)).isSome) ∧ w' = w := by
  have he := isEmpty_false h0
  by_cases hg : s.size ≤ 3
  · have HB : Hid ((expB (bs s)).isSome = allDig (bs s)) := hide (expB_in (by omega) hg)
    have hle : s.size ≤ 140737488351232 := by omega
    go_enter Tryz.func111, Tryz.ntmps111
    go_wp2_with (go_at_call 65; refine (areDigits_any s _ hle).mono ?_; rintro e w' ⟨rfl, rfl⟩)
    go_ret
    exact ⟨by rw [HR.out, HB.out]; rfl, rfl⟩
  · have HB : Hid ((expB (bs s)).isSome = false) := hide (expB_out (by omega))
    go_enter Tryz.func111, Tryz.ntmps111
    go_wp2_with fail
    go_ret
    exact ⟨by rw [HR.out, HB.out]; rfl, rfl⟩

theorem isExp_any (s : ByteArray) (w : World) (hs : s.size ≤ 100) :
    Calls Tryz.prog 111 #[.string s] w fun e w' => e = .returned (.bool (expS (bs s)).isSome) ∧ w' = w := by
  by_cases h0 : s.size = 0
  · exact isExp_0 s w h0
  · have h1 : 0 < s.size := by omega
    have hg := bs_getD h1
    by_cases m1 : ((s[0].toNat : Nat) : Int) = 45
    · refine isExp_sign s w hs h1 (.inr ⟨by rw [m1]; rfl, by rw [m1]; rfl⟩) (hide ?_)
      unfold expS; rw [hg, if_pos m1, bs_tail]; simp
    · by_cases m2 : ((s[0].toNat : Nat) : Int) = 43
      · refine isExp_sign s w hs h1 (.inl (by rw [m2]; rfl)) (hide ?_)
        unfold expS; rw [hg, if_neg m1, if_pos m2, bs_tail]
      · refine isExp_plain s w hs h1 (by rw [beq_eq_false_iff_ne]; exact m2) (by rw [beq_eq_false_iff_ne]; exact m1) (hide ?_)
        unfold expS; rw [hg, if_neg m1, if_neg m2]

end Go.Proofs.YtamdnnkdnhkghaaGreatDoor
