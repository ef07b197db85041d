import Derived.Test.YtamdnnkdnhkghaaGreatDoorT38
import Derived.Test.YtamdnnkdnhkghaaGreatDoorT39
import Derived.Test.YtamdnnkdnhkghaaGreatDoorT40
import Derived.Lib.QuietBelow
import Derived.Test.YtamdnnkdnhkghaaGreatDoorT27
import Derived.Lib.Replace
import Derived.Test.YtamdnnkdnhkghaaGreatDoorT24
namespace Go.Proofs.YtamdnnkdnhkghaaGreatDoor

open Go Go.RowKit

set_option linter.unusedVariables false

theorem two_ten (a : Nat) : 2 ^ (3 * a) ≤ 10 ^ a := by
  rw [Nat.pow_mul]
  exact Nat.pow_le_pow_left (by omega) a

theorem wV_top {r e : Nat} (hr : r < infW) (he : e = 700) : wV r < 10 ^ e := by
  have hk := wK_lt hr
  have hm := wM_lt r
  unfold wV
  have h1 : wM r * 2 ^ wK r < 2 ^ 53 * 2 ^ wK r := Nat.mul_lt_mul_of_pos_right (by have : (2 : Nat) ^ 53 = 9007199254740992 := rfl; omega) (Nat.pow_pos (by omega))
  rw [← Nat.pow_add] at h1
  have h2 : 2 ^ (53 + wK r) ≤ 2 ^ (3 * e) := Nat.pow_le_pow_right (by omega) (by omega)
  exact Nat.lt_of_lt_of_le h1 (Nat.le_trans h2 (two_ten e))

theorem Ex.range {r c N P l : Nat} (hc : c = 1074) (h0 : 0 < r) (hr : r < infW) (h : Ex (wV r) c N P l) : l ≤ P + 700 ∧ P < l + 400 := by
  obtain ⟨e, he⟩ : ∃ e, e = 700 := ⟨_, rfl⟩
  obtain ⟨f, hf⟩ : ∃ f, f = 400 := ⟨_, rfl⟩
  have hV := wV_top hr he
  have hV0 : 0 < wV r := wV_pos (by omega)
  have hv := h.val
  have hlo := h.lo
  have hhi := h.hi
  have hcf : 2 ^ c ≤ 10 ^ f := Nat.le_trans (Nat.pow_le_pow_right (by omega) (by omega)) (two_ten f)
  have hc1 : 0 < 2 ^ c := Nat.pow_pos (by omega)
  rw [← he, ← hf]
  clear hc hr h0 h
  refine ⟨?_, ?_⟩
  · rcases Nat.lt_or_ge (P + e) l with g | g
    · exfalso
      have a1 : 10 ^ (P + e) ≤ 10 ^ (l - 1) := Nat.pow_le_pow_right (by omega) (by omega)
      rw [Nat.pow_add] at a1
      have a2 : 10 ^ P * 10 ^ e ≤ N := Nat.le_trans a1 hlo
      have a3 : N ≤ N * 2 ^ c := Nat.le_mul_of_pos_right _ hc1
      have a4 : wV r * 10 ^ P < 10 ^ e * 10 ^ P := Nat.mul_lt_mul_of_pos_right hV (Nat.pow_pos (by omega))
      rw [Nat.mul_comm] at a2
      clear hf he hcf hhi hlo a1
      generalize 10 ^ e * 10 ^ P = z at *
      generalize wV r * 10 ^ P = y at *
      generalize N * 2 ^ c = x at *
      omega
    · exact g
  · rcases Nat.lt_or_ge P (l + f) with g | g
    · exact g
    · exfalso
      have a1 : 10 ^ (l + f) ≤ 10 ^ P := Nat.pow_le_pow_right (by omega) g
      rw [Nat.pow_add] at a1
      have a2 : N * 2 ^ c < 10 ^ l * 2 ^ c := Nat.mul_lt_mul_of_pos_right hhi hc1
      have a3 : 10 ^ l * 2 ^ c ≤ 10 ^ l * 10 ^ f := Nat.mul_le_mul_left _ hcf
      have a4 : 10 ^ P ≤ wV r * 10 ^ P := Nat.le_mul_of_pos_left _ hV0
      clear he hf hcf hV hlo
      generalize 10 ^ l * 10 ^ f = z at *
      generalize 10 ^ l * 2 ^ c = z2 at *
      generalize wV r * 10 ^ P = y at *
      generalize N * 2 ^ c = x at *
      omega

/-- What 'l01Short' hands back. -/
def SShoR (r c : Nat) (w : World) (e : Ending) (w' : World) : Prop :=
  ∃ (n d : Nat) (q : Int) (v' : Value), e = .returned (.tuple #[v', .int .i64 ((n : Int) - 1 - q)]) ∧ Byt w' v' (digL d n) ∧ First r c n d q ∧ -400 ≤ (n : Int) - 1 - q ∧ (n : Int) - 1 - q ≤ 700 ∧ Below w.heap.size w w'

end Go.Proofs.YtamdnnkdnhkghaaGreatDoor

namespace Go.Proofs.YtamdnnkdnhkghaaGreatDoor

open Go Go.RowKit

set_option linter.unusedVariables false

theorem Byt.under {w w' : World} {v : Value} {l : List Int} (h : Byt w v l) (hb : Below w.heap.size w w') : Byt w' v l := by
  obtain ⟨g, cap, rfl, h2, h3, h4, h5⟩ := h
  exact ⟨g, cap, rfl, h2, h3, Nat.lt_of_lt_of_le h4 hb.size, fun j hj => (hb.cell (p := ⟨g, j, none⟩) h4).trans (h5 j hj)⟩

theorem digL_range (d n : Nat) : ∀ c ∈ digL d n, 48 ≤ c ∧ c ≤ 57 := fun c hc => digL_byte c hc

set_option maxHeartbeats 6400000 in
set_option maxRecDepth 100000 in
theorem sshort_any (r c : Nat) (w : World) (hc : c = 1074) (h0 : 0 < r) (hr : r < infW) :
    Calls Tryz.prog 92 #[.int .u64 r] w fun e w' => SShoR r c w e w' := by
  have HE := hide (fun w => exa_any r w h0 hr)
  have Hr := hide hr
  have H0 := hide h0
  have Hc := hide hc
  clear hr h0 hc
  go_enter Tryz.func92, Tryz.ntmps92
  go_wp2_with fail
  refine (HE.out _).mono ?_
  rintro e w1 ⟨v, N, P, rfl, hbyt, hval, hN0, hP, hlen, hb1⟩
  obtain ⟨l, hl1, hlo, hhi⟩ := digN_size hN0
  rw [digN_digL hl1 hlo hhi] at hbyt hlen
  rw [digL_len] at hlen
  have HX : Hid (Ex (wV r) c N P l) := hide ⟨hl1, hlo, hhi, hval c Hc.out⟩
  have hrg := HX.out.range Hc.out H0.out Hr.out
  have Hhi := hide hhi
  have Hb1 := hide hb1
  clear hval hlo hhi hb1
  have HBY := hide hbyt
  obtain ⟨g, cap, hv, h2, h3, h4, h5⟩ := hbyt
  rw [digL_len] at hv h2 h5
  subst hv
  unfold maxLen at h3
  clear h5
  go_wp2
  go_loopw [7] (fun kv wr => ∃ k : Nat, kv = .int .i64 k ∧ 1 ≤ k ∧ k ≤ 17 ∧ k ≤ l ∧ Hid (∀ m d' q', 1 ≤ m → m < k → Fmt (wV r) c m d' q' → ¬ DecRnd d' (-q') r) ∧ Below w1.heap.size w1 wr) (fun kv _ => 18 - (intOf kv).toNat)
  case atStart => exact ⟨1, rfl, by omega, by omega, hl1, hide (fun m d' q' h1 h2 => by omega), Below.refl _ _⟩
  case round =>
    obtain ⟨k, rfl, hk1, hk17, hkl, Hl, hb⟩ := hrel
    have Hb0 := hide hb
    have Hb := hide (Hb1.out.trans (hb.mono Hb1.out.size))
    by_cases hend : k = l
    · have Hby : Hid (Byt wr (.slice (some ⟨g, 0, none⟩) l cap) (digL N l)) := hide (HBY.out.under hb)
      clear hb
      subst hend
      go_wp2
      go_ret2
      exact ⟨k, N, P, _, rfl, Hby.out, ⟨hk1, hk17, HX.out.whole, HX.out.back Hc.out H0.out Hr.out, Hl.out⟩, by omega, by omega, Hb.out⟩
    · have HR := hide (rou_any N l k _ wr (HBY.out.under hb) Hhi.out hk1 (by omega) hk17 hlen)
      have Hrd := hide (HX.out.round hk1 hkl)
      have hlt : k < l := by omega
      clear hb hend
      go_wp2_with fail
      refine HR.out.mono ?_
      rintro e w2 hrou
      rcases hrou with ⟨hne, v', rfl, hby2, hb2⟩ | ⟨heq, v', rfl, hby2, hb2⟩
      · have Hf := hide (Hrd.out.2.2 hne)
        obtain ⟨d, hd⟩ : ∃ d, d = rq N (10 ^ (l - k)) := ⟨_, rfl⟩
        rw [← hd] at Hf
        clear hne
        have Hb2 := hide (Hb.out.trans (hb2.mono Hb.out.size))
        have Hc2 := hide (Hb0.out.trans (hb2.mono Hb0.out.size))
        have HB2 := hide hby2
        rw [← hd] at HB2
        obtain ⟨g2, c2, hv2, _⟩ := hby2
        rw [digL_len] at hv2
        subst hv2
        have HN := hide (fun E h1 h2 => nearest_any (digL d k) E _ w2 HB2.out (by rw [digL_len]; omega) (digL_range d k) h1 h2)
        rw [dval_digL Hf.out.hi] at HN
        have Hun : Hid (∀ d' q', Fmt (wV r) c k d' q' → d' = d ∧ q' = (P : Int) - l + k) := hide (fun d' q' h => h.unique hk1 Hf.out)
        clear hd hb2 HR Hrd
        go_wp2_with fail
        refine (HN.out _ (by omega) (by omega)).mono ?_
        rintro e w3 ⟨W, ok, W0, rfl, hdec, hok, hW, hb3⟩
        have eE : (l : Int) - 1 - P - k + 1 = -((P : Int) - l + k) := by omega
        rw [eE] at hdec
        have Hdec := hide hdec
        have Hb3 := hide (Hb2.out.trans (hb3.mono Hb2.out.size))
        have Hc3 := hide (Hc2.out.trans (hb3.mono Hc2.out.size))
        have HB3 : Hid (Byt w3 (.slice (some ⟨g2, 0, none⟩) k c2) (digL d k)) := hide (HB2.out.under hb3)
        clear hdec hb3 eE HN
        by_cases hWr : W0 = r
        · have hok2 : ok = true := by
            rw [hok, hWr]
            have := Hr.out
            simp
            omega
          have hW2 : W = r := (hW hok2).trans hWr
          rw [hWr] at Hdec
          clear hok hW hWr
          subst hok2 hW2
          go_wp2
          go_ret2
          refine ⟨k, d, (P : Int) - l + k, _, ?_, HB3.out, ⟨hk1, hk17, Hf.out, Hdec.out, Hl.out⟩, by omega, by omega, Hb3.out⟩
          have e9 : (k : Int) - 1 - ((P : Int) - l + k) = (l : Int) - 1 - P := by omega
          rw [e9]
          rfl
        · have Hstep : Hid (∀ m d' q', 1 ≤ m → m < k + 1 → Fmt (wV r) c m d' q' → ¬ DecRnd d' (-q') r) := hide (fun m d' q' h1 h2 hf hd => by
            rcases Nat.lt_or_ge m k with g | g
            · exact Hl.out m d' q' h1 g hf hd
            · obtain rfl : m = k := by omega
              obtain ⟨rfl, rfl⟩ := Hun.out d' q' hf
              exact hWr (Hdec.out.unique hd))
          have hk16 : k < 17 := by
            rcases Nat.lt_or_ge k 17 with g | g
            · exact g
            · exfalso
              obtain rfl : k = 17 := by omega
              exact hWr (Hdec.out.unique (Hf.out.back17 Hc.out H0.out Hr.out))
          cases ok with
          | false =>
            clear hok hW hWr
            go_wp2
            go_roundw
            case rel => exact ⟨k + 1, by go_num, by omega, by omega, by omega, Hstep, Hc3.out⟩
            case measure => simp [intOf]; omega
          | true =>
            have hW3 : ¬ ((W : Int) = (r : Int)) := fun hh => hWr (by rw [← hW rfl]; omega)
            clear hok hW hWr
            go_wp2
            go_roundw
            case rel => exact ⟨k + 1, by go_num, by omega, by omega, by omega, Hstep, Hc3.out⟩
            case measure => simp [intOf]; omega
      · have Hf := hide (Hrd.out.2.1 heq)
        obtain ⟨d, hd⟩ : ∃ d, d = 10 ^ (k - 1) := ⟨_, rfl⟩
        rw [← hd] at Hf
        clear heq
        have Hb2 := hide (Hb.out.trans (hb2.mono Hb.out.size))
        have Hc2 := hide (Hb0.out.trans (hb2.mono Hb0.out.size))
        have HB2 := hide hby2
        rw [← hd] at HB2
        obtain ⟨g2, c2, hv2, _⟩ := hby2
        rw [digL_len] at hv2
        subst hv2
        have HN := hide (fun E h1 h2 => nearest_any (digL d k) E _ w2 HB2.out (by rw [digL_len]; omega) (digL_range d k) h1 h2)
        rw [dval_digL Hf.out.hi] at HN
        have Hun : Hid (∀ d' q', Fmt (wV r) c k d' q' → d' = d ∧ q' = (P : Int) - l + k - 1) := hide (fun d' q' h => h.unique hk1 Hf.out)
        clear hd hb2 HR Hrd
        go_wp2_with fail
        refine (HN.out _ (by omega) (by omega)).mono ?_
        rintro e w3 ⟨W, ok, W0, rfl, hdec, hok, hW, hb3⟩
        have eE : (l : Int) - 1 - P + 1 - k + 1 = -((P : Int) - l + k - 1) := by omega
        rw [eE] at hdec
        have Hdec := hide hdec
        have Hb3 := hide (Hb2.out.trans (hb3.mono Hb2.out.size))
        have Hc3 := hide (Hc2.out.trans (hb3.mono Hc2.out.size))
        have HB3 : Hid (Byt w3 (.slice (some ⟨g2, 0, none⟩) k c2) (digL d k)) := hide (HB2.out.under hb3)
        clear hdec hb3 eE HN
        by_cases hWr : W0 = r
        · have hok2 : ok = true := by
            rw [hok, hWr]
            have := Hr.out
            simp
            omega
          have hW2 : W = r := (hW hok2).trans hWr
          rw [hWr] at Hdec
          clear hok hW hWr
          subst hok2 hW2
          go_wp2
          go_ret2
          refine ⟨k, d, (P : Int) - l + k - 1, _, ?_, HB3.out, ⟨hk1, hk17, Hf.out, Hdec.out, Hl.out⟩, by omega, by omega, Hb3.out⟩
          have e9 : (k : Int) - 1 - ((P : Int) - l + k - 1) = (l : Int) - 1 - P + 1 := by omega
          rw [e9]
          rfl
        · have Hstep : Hid (∀ m d' q', 1 ≤ m → m < k + 1 → Fmt (wV r) c m d' q' → ¬ DecRnd d' (-q') r) := hide (fun m d' q' h1 h2 hf hd => by
            rcases Nat.lt_or_ge m k with g | g
            · exact Hl.out m d' q' h1 g hf hd
            · obtain rfl : m = k := by omega
              obtain ⟨rfl, rfl⟩ := Hun.out d' q' hf
              exact hWr (Hdec.out.unique hd))
          have hk16 : k < 17 := by
            rcases Nat.lt_or_ge k 17 with g | g
            · exact g
            · exfalso
              obtain rfl : k = 17 := by omega
              exact hWr (Hdec.out.unique (Hf.out.back17 Hc.out H0.out Hr.out))
          cases ok with
          | false =>
            clear hok hW hWr
            go_wp2
            go_roundw
            case rel => exact ⟨k + 1, by go_num, by omega, by omega, by omega, Hstep, Hc3.out⟩
            case measure => simp [intOf]; omega
          | true =>
            have hW3 : ¬ ((W : Int) = (r : Int)) := fun hh => hWr (by rw [← hW rfl]; omega)
            clear hok hW hWr
            go_wp2
            go_roundw
            case rel => exact ⟨k + 1, by go_num, by omega, by omega, by omega, Hstep, Hc3.out⟩
            case measure => simp [intOf]; omega

end Go.Proofs.YtamdnnkdnhkghaaGreatDoor

namespace Go.Proofs.YtamdnnkdnhkghaaGreatDoor

open Go Go.RowKit

set_option linter.unusedVariables false

theorem isNaNF_any (A : Nat) (w : World) : Calls Tryz.prog 23 #[.float .f64 A] w fun e w' => e = .returned (.bool (FloatKind.f64.format.order A A != some .eq)) ∧ w' = w := by
  go_enter Tryz.func23, Tryz.ntmps23
  go_wp2
  all_goals go_ret
  all_goals exact ⟨rfl, rfl⟩

end Go.Proofs.YtamdnnkdnhkghaaGreatDoor

namespace Go.Proofs.YtamdnnkdnhkghaaGreatDoor

open Go

set_option linter.unusedVariables false

theorem index_no {c : UInt8} : ∀ {a : List UInt8}, c ∉ a → Lib.index a [c] = -1
  | [], _ => rfl
  | b :: l, h => by
    have hb : c ≠ b := fun e => h (by simp [e])
    have ih := index_no (a := l) (c := c) (fun e => h (by simp [e]))
    unfold Lib.index
    have : ([c] : List UInt8).isPrefixOf (b :: l) = false := by simp [List.isPrefixOf, hb]
    rw [this, ih]
    rfl

theorem index_one {c : UInt8} {b : List UInt8} : ∀ {a : List UInt8}, c ∉ a → Lib.index (a ++ c :: b) [c] = (a.length : Int)
  | [], _ => by
    show Lib.index (c :: b) [c] = _
    unfold Lib.index
    rw [if_pos (by simp [List.isPrefixOf])]
    rfl
  | x :: l, h => by
    have hb : c ≠ x := fun e => h (by simp [e])
    have ih := index_one (b := b) (a := l) (c := c) (fun e => h (by simp [e]))
    show Lib.index (x :: (l ++ c :: b)) [c] = _
    unfold Lib.index
    have h1 : ([c] : List UInt8).isPrefixOf (x :: (l ++ c :: b)) = false := by simp [List.isPrefixOf, hb]
    rw [h1, ih]
    have : (((l.length : Nat) : Int) == -1) = false := by rw [beq_eq_false_iff_ne]; omega
    simp [this]

theorem cut_one {c : UInt8} {a b : List UInt8} (h : c ∉ a) : Lib.cut (a ++ c :: b) [c] = (a, b, true) := by
  unfold Lib.cut
  rw [index_one h, if_pos (by omega)]
  simp

theorem replace_one {c : UInt8} {a b : List UInt8} (h : c ∉ a) : Lib.replace (a ++ c :: b) [c] [] 1 = a ++ b := by
  unfold Lib.replace
  have hne : (([c] : List UInt8) == []) = false := rfl
  have hc : 1 ≤ Lib.count (a ++ c :: b) [c] := by
    unfold Lib.count Lib.countFrom
    rw [index_one h]
    have : (((a.length : Nat) : Int) == -1) = false := by rw [beq_eq_false_iff_ne]; omega
    rw [this]
    simp
  have hn : Lib.replaceNum (a ++ c :: b) [c] 1 = 1 := by
    unfold Lib.replaceNum
    rw [if_neg (by omega)]
    rfl
  rw [hne, hn, Lib.replaceK_hit _ _ 0 _ _ (index_one h)]
  simp [Lib.replaceK]

theorem replace_no {c : UInt8} {a : List UInt8} (h : c ∉ a) : Lib.replace a [c] [] 1 = a := by
  unfold Lib.replace
  have hne : (([c] : List UInt8) == []) = false := rfl
  have hc : Lib.count a [c] = 0 := Lib.count_miss (index_no h)
  have hn : Lib.replaceNum a [c] 1 = 0 := by
    unfold Lib.replaceNum
    rw [hc, if_pos (by omega)]
  rw [hne, hn]
  rfl

end Go.Proofs.YtamdnnkdnhkghaaGreatDoor

namespace Go.Proofs.YtamdnnkdnhkghaaGreatDoor

open Go Go.RowKit

set_option linter.unusedVariables false

/-- What formatting and reading want of the world. -/
structure FE (w : World) : Prop where
  f : FEnv w
  e : ∃ G o P po C co ev m, Env w G o P po C co ev m

theorem FE.below {w w' : World} (h : FE w) (hb : Below w.heap.size w w') : FE w' := by
  obtain ⟨G, o, P, po, C, co, ev, m, hE⟩ := h.e
  exact ⟨h.f.below hb, G, o, P, po, C, co, ev, m, hE.below hb⟩

/-- What one try of 'shortestText' gives. -/
def FmtR (r c n : Nat) (w : World) (e : Ending) (w' : World) : Prop :=
  ∃ d q, e = .returned (.string (eStr d n ((n : Int) - 1 - q))) ∧ Fmt (wV r) c n d q ∧ -400 ≤ (n : Int) - 1 - q ∧ (n : Int) - 1 - q ≤ 400 ∧ Below w.heap.size w w'

theorem ff_fmt (r n c : Nat) (w : World) (hc : c = 1074) (h0 : 0 < r) (hr : r < infW) (hn1 : 1 ≤ n) (hn2 : n ≤ 17) (hF : FE w) :
    Calls Tryz.prog 95 #[.float .f64 r, .int .u8 101, .int .i64 ((n : Int) - 1), .int .i64 64] w fun e w' => FmtR r c n w e w' := by
  refine (ff_any r n w h0 hr hn1 hn2 hF.f).mono ?_
  rintro e w' ⟨d, q, rfl, hfix, hb⟩
  obtain ⟨_, hx1, hx2, _, _, hE1, hE2⟩ := xR_facts h0 hr
  have hX := fix_X hfix hE1 hE2
  exact ⟨d, q, rfl, hfix.fmt hc h0 hr hn1, hX.1, hX.2, hb⟩

theorem pf_eStr {d n : Nat} {q : Int} {w : World} (hF : FE w) (hn1 : 1 ≤ n) (hn2 : n ≤ 17) (hd : d < 10 ^ n) (h1 : -400 ≤ (n : Int) - 1 - q) (h2 : (n : Int) - 1 - q ≤ 400) :
    Calls Tryz.prog 67 #[.string (eStr d n ((n : Int) - 1 - q)), .int .i64 64] w fun e w'' => SpfR d (-q) w e w'' := by
  obtain ⟨G, o, P, po, C, co, ev, m, hE⟩ := hF.e
  have := spf_txt _ _ _ _ G o P po C co _ _ ev m w (eStr_txt (d := d) hn1 hn2 h1 h2) hE w (Below.refl _ _)
  have e : (n : Int) - 1 - q - ((n - 1 : Nat) : Int) = -q := by omega
  rw [dval_digL hd, e] at this
  exact this

/-- What 'shortestText' hands back. -/
def ShoR (r c : Nat) (w : World) (e : Ending) (w' : World) : Prop :=
  ∃ n d q, e = .returned (.string (eStr d n ((n : Int) - 1 - q))) ∧ First r c n d q ∧ -400 ≤ (n : Int) - 1 - q ∧ (n : Int) - 1 - q ≤ 400 ∧ Below w.heap.size w w'

set_option maxHeartbeats 1600000 in
set_option maxRecDepth 100000 in
theorem short_any (r c : Nat) (w : World) (hc : c = 1074) (h0 : 0 < r) (hr : r < infW) (hF : FE w) :
    Calls Tryz.prog 54 #[.float .f64 r] w fun e w' => ShoR r c w e w' := by
  have HFF := hide (fun (k : Nat) (w1 : World) (hb : Below w.heap.size w w1) (hk : k ≤ 16) => (show Calls Tryz.prog 95 #[.float .f64 r, .int .u8 101, .int .i64 (k : Int), .int .i64 64] w1 fun e w' => FmtR r c (k + 1) w1 e w' by
    have := ff_fmt r (k + 1) c w1 hc h0 hr (by omega) (by omega) (hF.below hb)
    have e : ((k + 1 : Nat) : Int) - 1 = k := by omega
    rw [e] at this
    exact this))
  have HPF := hide (fun (d n : Nat) (q : Int) (w1 : World) (hb : Below w.heap.size w w1) (hn1 : 1 ≤ n) (hn2 : n ≤ 17) (hd : d < 10 ^ n) (h1 : -400 ≤ (n : Int) - 1 - q) (h2 : (n : Int) - 1 - q ≤ 400) => pf_eStr (d := d) (n := n) (q := q) (hF.below hb) hn1 hn2 hd h1 h2)
  have Ho := hide (order_self hr)
  have Hr := hide hr
  have H0 := hide h0
  have Hc := hide hc
  clear hF hr h0 hc
  go_enter Tryz.func54, Tryz.ntmps54
  go_wp2_with fail
  go_loopw [7] (fun cv wr => ∃ k : Nat, cv = .int .i64 k ∧ k ≤ 16 ∧ Hid (∀ m d' q', 1 ≤ m → m ≤ k → Fmt (wV r) c m d' q' → ¬ DecRnd d' (-q') r) ∧ Below w.heap.size w wr) (fun cv _ => 16 - (intOf cv).toNat)
  case atStart => exact ⟨0, rfl, by omega, hide (fun m d' q' h1 h2 => by omega), Below.refl _ _⟩
  case round =>
    obtain ⟨k, rfl, hk, Hl, hb⟩ := hrel
    have Hb := hide hb
    clear hb
    by_cases hlt : k < 16
    · go_wp2_with fail
      refine (HFF.out k _ Hb.out (by omega)).mono ?_
      rintro e w1 ⟨d, q, rfl, hfmt, hX1, hX2, hb1⟩
      have Hfmt := hide hfmt
      have HX1 := hide hX1
      have HX2 := hide hX2
      have Hb1 := hide (Hb.out.trans (hb1.mono Hb.out.size))
      clear hfmt hX1 hX2 hb1
      have HP := HPF.out d (k + 1) q _ Hb1.out (by omega) (by omega) Hfmt.out.hi HX1.out HX2.out
      obtain ⟨T, hT⟩ : ∃ T, T = eStr d (k + 1) (((k + 1 : Nat) : Int) - 1 - q) := ⟨_, rfl⟩
      rw [← hT] at HP ⊢
      have HT := hide hT
      have HPt := hide HP
      clear hT HP
      have Hun : Hid (∀ d' q', Fmt (wV r) c (k + 1) d' q' → d' = d ∧ q' = q) := hide (fun d' q' h => h.unique (by omega) Hfmt.out)
      go_wp2_with fail
      refine HPt.out.mono ?_
      rintro e w2 ⟨W, hdec, hb2, hcase⟩
      have Hdec := hide hdec
      have Hb2 := hide (Hb1.out.trans (hb2.mono Hb1.out.size))
      clear hdec hb2
      have Hstep : Hid (W ≠ r → ∀ m d' q', 1 ≤ m → m ≤ k + 1 → Fmt (wV r) c m d' q' → ¬ DecRnd d' (-q') r) := hide (fun hne m d' q' h1 h2 hf hd => by
        rcases Nat.lt_or_ge m (k + 1) with g | g
        · exact Hl.out m d' q' h1 (by omega) hf hd
        · obtain rfl : m = k + 1 := by omega
          obtain ⟨rfl, rfl⟩ := Hun.out d' q' hf
          exact hne (Hdec.out.unique hd))
      rcases hcase with ⟨hfin, rfl⟩ | ⟨hinf, B, rfl⟩
      · by_cases hW : W = r
        · have Hfin := hide (hW ▸ Hdec.out)
          subst hW
          have ho : FloatKind.f64.format.order W W = some Ordering.eq := Ho.out
          go_wp2
          go_ret
          exact ⟨k + 1, d, q, by rw [← HT.out]; rfl, ⟨by omega, by omega, Hfmt.out, Hfin.out, fun m d' q' h1 h2 => Hl.out m d' q' h1 (by omega)⟩, HX1.out, HX2.out, Hb2.out⟩
        · have ho : (FloatKind.f64.format.order W r == some Ordering.eq) = false := by
            rw [beq_eq_false_iff_ne]
            intro h
            exact hW (words_eq (rnd_le Hdec.out) (Nat.le_of_lt Hr.out) h)
          have HW := hide hW
          clear hW hfin
          go_wp2
          go_roundw
          case rel => exact ⟨k + 1, by go_num, by omega, hide (Hstep.out HW.out), Hb2.out⟩
          case measure => simp [intOf]; omega
      · have HW : Hid (W ≠ r) := hide (fun h => by have := Hr.out; rw [hinf] at h; omega)
        clear hinf
        go_wp2
        go_roundw
        case rel => exact ⟨k + 1, by go_num, by omega, hide (Hstep.out HW.out), Hb2.out⟩
        case measure => simp [intOf]; omega
    · obtain rfl : k = 16 := by omega
      go_wp2_with fail
      refine (HFF.out 16 _ Hb.out (by omega)).mono ?_
      rintro e w1 ⟨d, q, rfl, hfmt, hX1, hX2, hb1⟩
      have Hfmt := hide hfmt
      have HX1 := hide hX1
      have HX2 := hide hX2
      have Hb1 := hide (Hb.out.trans (hb1.mono Hb.out.size))
      clear hfmt hX1 hX2 hb1
      go_wp2
      go_ret
      exact ⟨17, d, q, rfl, ⟨by omega, by omega, Hfmt.out, Hfmt.out.back17 Hc.out H0.out Hr.out, fun m d' q' h1 h2 => Hl.out m d' q' h1 (by omega)⟩, HX1.out, HX2.out, Hb1.out⟩

end Go.Proofs.YtamdnnkdnhkghaaGreatDoor

namespace Go.Proofs.YtamdnnkdnhkghaaGreatDoor

open Go Go.RowKit

set_option linter.unusedVariables false

/-- A list of bytes as a string. -/
def strL (L : List Int) : ByteArray := ⟨(txtB L).toArray⟩

theorem strL_size (L : List Int) : (strL L).size = L.length := by
  show (txtB L).toArray.size = _
  simp [txtB]

theorem txtB_append (a b : List Int) : txtB (a ++ b) = txtB a ++ txtB b := by simp [txtB]

theorem strL_append (a b : List Int) : strL a ++ strL b = strL (a ++ b) := by
  apply ByteArray.ext
  simp [strL, txtB_append]

theorem strL_extract (L : List Int) (a b : Nat) : (strL L).extract a b = strL ((L.drop a).take (b - a)) := by
  apply ByteArray.ext
  rw [ByteArray.data_extract]
  apply Array.ext'
  simp [strL, txtB]

theorem repeat_any (c : Nat) (w : World) (hc : c ≤ 1000) : Calls Tryz.prog 99 #[.string ⟨#[48]⟩, .int .i64 c] w fun e w' => e = .returned (.string (strL (List.replicate c 48))) ∧ Below w.heap.size w w' := by
  refine (Tryz.strings_Repeat ⟨#[48]⟩ c w (by omega) (by show 1 * c ≤ _; omega)).mono ?_
  rintro e w' ⟨rfl, hb⟩
  refine ⟨?_, hb⟩
  have h := Lib.repeatL_replicate 48 1 c
  have e : Lib.repeatL (ByteArray.mk #[48]).data.toList c = txtB (List.replicate c 48) := by
    rw [Nat.mul_one] at h
    have h1 : (ByteArray.mk #[48]).data.toList = List.replicate 1 48 := rfl
    rw [h1, h]
    simp [txtB]
  rw [e]
  rfl

/-- Digits, the first of them of the weight 10^X, without an exponent. -/
def plainL (D : List Int) (X : Int) : List Int :=
  if X < 0 then [48, 46] ++ List.replicate (-X - 1).toNat 48 ++ D
  else if X + 1 < D.length then D.take (X + 1).toNat ++ [46] ++ D.drop (X + 1).toNat
  else D ++ List.replicate (X + 1 - D.length).toNat 48 ++ [46, 48]

set_option maxHeartbeats 1600000 in
set_option maxRecDepth 100000 in
theorem plain_any (D : List Int) (X : Int) (w : World) (hD1 : 1 ≤ D.length) (hD2 : D.length ≤ 17) (hX1 : -5 ≤ X) (hX2 : X ≤ 16) :
    Calls Tryz.prog 57 #[.string (strL D), .int .i64 X] w fun e w' => e = .returned (.string (strL (plainL D X))) ∧ Below w.heap.size w w' := by
  have hsz := strL_size D
  by_cases h0 : X < 0
  · have HR := hide (fun w1 => repeat_any (-X - 1).toNat w1 (by omega))
    have e1 : (((-X - 1).toNat : Nat) : Int) = -X - 1 := by omega
    rw [e1] at HR
    clear e1
    have hr := strL_size (List.replicate (-X - 1).toNat 48)
    rw [List.length_replicate] at hr
    obtain ⟨R, hR⟩ : ∃ R, R = strL (List.replicate (-X - 1).toNat 48) := ⟨_, rfl⟩
    rw [← hR] at hr HR
    have HRR := hide hR
    clear hR
    go_enter Tryz.func57, Tryz.ntmps57
    go_wp2_with fail
    refine (HR.out _).mono ?_
    rintro e w1 ⟨rfl, hb1⟩
    have Hb1 := hide hb1
    clear hb1
    go_wp2
    go_ret
    refine ⟨?_, Hb1.out⟩
    unfold plainL
    rw [if_pos h0, ← strL_append, ← strL_append, ← HRR.out]
    rfl
  · by_cases h1 : X + 1 < D.length
    · obtain ⟨k, rfl⟩ : ∃ k : Nat, X = k := ⟨X.toNat, by omega⟩
      go_enter Tryz.func57, Tryz.ntmps57
      go_wp2
      go_quiet (fail)
      go_wp2
      go_ret
      refine ⟨?_, ?_⟩
      · unfold plainL
        rw [if_neg (by omega), if_pos (by omega), ← strL_append, ← strL_append]
        have a1 := strL_extract D 0 (k + 1)
        have a2 := strL_extract D (k + 1) D.length
        have n1 : ((k : Int) + 1).toNat = k + 1 := by omega
        rw [n1]
        rw [List.drop_zero, Nat.sub_zero] at a1
        rw [List.take_of_length_le (by rw [List.length_drop]; omega)] at a2
        rw [← a1, ← a2]
        rfl
      · exact below_drw (Below.refl _ _) _
    · have HR := hide (fun w1 => repeat_any (X + 1 - D.length).toNat w1 (by omega))
      have e1 : (((X + 1 - D.length).toNat : Nat) : Int) = X + 1 - D.length := by omega
      rw [e1] at HR
      clear e1
      have hr := strL_size (List.replicate (X + 1 - D.length).toNat 48)
      rw [List.length_replicate] at hr
      obtain ⟨R, hR⟩ : ∃ R, R = strL (List.replicate (X + 1 - D.length).toNat 48) := ⟨_, rfl⟩
      rw [← hR] at hr HR
      have HRR := hide hR
      clear hR
      go_enter Tryz.func57, Tryz.ntmps57
      go_wp2_with fail
      refine (HR.out _).mono ?_
      rintro e w1 ⟨rfl, hb1⟩
      have Hb1 := hide hb1
      clear hb1
      go_wp2
      go_ret
      refine ⟨?_, Hb1.out⟩
      unfold plainL
      rw [if_neg (by omega), if_neg (by omega), ← strL_append, ← strL_append, ← HRR.out]
      rfl

end Go.Proofs.YtamdnnkdnhkghaaGreatDoor

namespace Go.Proofs.YtamdnnkdnhkghaaGreatDoor

open Go Go.RowKit

set_option linter.unusedVariables false

theorem txtB_not {c : Nat} {L : List Int} (hc : c < 256) (h : ∀ z ∈ L, 0 ≤ z ∧ z < 256 ∧ z ≠ c) : UInt8.ofNat c ∉ txtB L := by
  intro hm
  unfold txtB at hm
  rw [List.mem_map] at hm
  obtain ⟨z, hz, e⟩ := hm
  obtain ⟨h1, h2, h3⟩ := h z hz
  have := congrArg UInt8.toNat e
  simp at this
  omega

theorem mantL_mem {d n : Nat} (h : 1 ≤ n) : ∀ z ∈ mantL d n, z = 46 ∨ (48 ≤ z ∧ z ≤ 57) := by
  intro z hz
  unfold mantL at hz
  rw [List.mem_append] at hz
  rcases hz with hz | hz
  · simp at hz
    have := dgA_range d n 0
    right; omega
  · split at hz
    · simp at hz
    · rw [List.mem_cons] at hz
      rcases hz with hz | hz
      · left; exact hz
      · have := digL_byte z (List.mem_of_mem_drop hz)
        right; omega

theorem cut_eTxt {d n : Nat} {X : Int} (h : 1 ≤ n) : Lib.cut (eStr d n X).data.toList (ByteArray.mk #[101]).data.toList = (txtB (mantL d n), txtB ((if X < 0 then 45 else 43) :: expL X.natAbs), true) := by
  have e : (eStr d n X).data.toList = txtB (mantL d n) ++ UInt8.ofNat 101 :: txtB ((if X < 0 then 45 else 43) :: expL X.natAbs) := by
    show txtB (eTxt d n X) = _
    unfold eTxt
    rw [List.append_assoc, txtB_append]
    rfl
  rw [e]
  exact cut_one (txtB_not (by decide) (fun z hz => by rcases mantL_mem h z hz with g | g <;> omega))

theorem atoi_pos : ∀ k, k < 401 → Lib.atoi (txtB (43 :: expL k)) = some (k : Int) := by decide +kernel

theorem atoi_neg : ∀ k, k < 401 → Lib.atoi (txtB (45 :: expL k)) = some (-(k : Int)) := by decide +kernel

theorem atoi_exp {X : Int} (h1 : -400 ≤ X) (h2 : X ≤ 400) : Lib.atoi (txtB ((if X < 0 then 45 else 43) :: expL X.natAbs)) = some X := by
  split
  · rw [atoi_neg _ (by omega)]; congr 1; omega
  · rw [atoi_pos _ (by omega)]; congr 1; omega

theorem replace_mant {d n : Nat} (h : 1 ≤ n) : Lib.replace (txtB (mantL d n)) (ByteArray.mk #[46]).data.toList (ByteArray.mk #[]).data.toList 1 = txtB (digL d n) := by
  have h0 := dgA_range d n 0
  by_cases h1 : n = 1
  · subst h1
    have e1 : mantL d 1 = digL d 1 := rfl
    rw [e1]
    exact replace_no (txtB_not (c := 46) (by decide) (fun z hz => by have := digL_byte z hz; omega))
  · rw [mantL_big (by omega), List.append_assoc, txtB_append]
    have e2 : digL d n = [dgA d n 0] ++ (digL d n).drop 1 := by conv => lhs; rw [digL_cons h]
                                                                rfl
    conv => rhs; rw [e2, txtB_append]
    exact replace_one (txtB_not (c := 46) (by decide) (fun z hz => by simp at hz; omega))

/-- The text of a magnitude. -/
def FT (d n : Nat) (X : Int) : List Int := if X < -5 ∨ X > 16 then eTxt d n X else plainL (digL d n) X

/-- What 'formatMagnitude' hands back. -/
def MagR (r c : Nat) (w : World) (e : Ending) (w' : World) : Prop :=
  ∃ n d q, e = .returned (.string (strL (FT d n ((n : Int) - 1 - q)))) ∧ First r c n d q ∧ -400 ≤ (n : Int) - 1 - q ∧ (n : Int) - 1 - q ≤ 400 ∧ Below w.heap.size w w'

theorem eTxt_len {d n : Nat} {X : Int} (h1 : 1 ≤ n) (h2 : n ≤ 17) : (eTxt d n X).length ≤ 30 := by
  unfold eTxt
  rw [List.length_append, List.length_append, mantL_len h1]
  have := expL_len X.natAbs
  simp
  split <;> omega

theorem cut_any (d n : Nat) (X m : Int) (w : World) (h1 : 1 ≤ n) (h2 : n ≤ 17) (hm : w.cell? ⟨7, 0, none⟩ = some (.int .i64 m)) :
    Calls Tryz.prog 55 #[.string (eStr d n X), .string ⟨#[101]⟩] w fun e w' => e = .returned (.tuple #[.string (strL (mantL d n)), .string (strL ((if X < 0 then 45 else 43) :: expL X.natAbs)), .bool true]) ∧ Below w.heap.size w w' := by
  have hsz : (eStr d n X).size ≤ 30 := by
    show (strL (eTxt d n X)).size ≤ 30
    rw [strL_size]
    exact eTxt_len h1 h2
  refine (Tryz.strings_Cut (eStr d n X) ⟨#[101]⟩ m w (by omega) hm).mono ?_
  rintro e w' ⟨rfl, k, rfl⟩
  rw [cut_eTxt h1]
  exact ⟨rfl, below_drw (Below.refl _ _) _⟩

theorem atoi_any (X : Int) (w : World) (h1 : -400 ≤ X) (h2 : X ≤ 400) :
    Calls Tryz.prog 56 #[.string (strL ((if X < 0 then 45 else 43) :: expL X.natAbs))] w fun e w' => e = .returned (.tuple #[.int .i64 X, .nilIface]) ∧ Below w.heap.size w w' := by
  have hsz : (strL ((if X < 0 then 45 else 43) :: expL X.natAbs)).size ≤ 18 := by
    rw [strL_size]
    have := expL_len X.natAbs
    simp
    omega
  refine (Tryz.strconv_Atoi _ X hsz (atoi_exp h1 h2) w).mono ?_
  rintro e w' ⟨rfl, t, rfl⟩
  exact ⟨rfl, below_bytes _ _⟩

theorem rep_any (d n : Nat) (m : Int) (w : World) (h1 : 1 ≤ n) (h2 : n ≤ 17) (hm : w.cell? ⟨7, 0, none⟩ = some (.int .i64 m)) :
    Calls Tryz.prog 58 #[.string (strL (mantL d n)), .string ⟨#[46]⟩, .string ⟨#[]⟩, .int .i64 1] w fun e w' => e = .returned (.string (strL (digL d n))) ∧ Below w.heap.size w w' := by
  have hsz : (strL (mantL d n)).size ≤ 18 := by
    rw [strL_size, mantL_len h1]
    split <;> omega
  refine (Tryz.strings_Replace (strL (mantL d n)) ⟨#[46]⟩ ⟨#[]⟩ 1 m w (by omega) hm (by decide) (by show _ + _ * 0 ≤ _; omega)).mono ?_
  rintro e w' ⟨rfl, hb⟩
  refine ⟨?_, hb⟩
  have := replace_mant (d := d) h1
  show Ending.returned (.string ⟨(Lib.replace (txtB (mantL d n)) (ByteArray.mk #[46]).data.toList (ByteArray.mk #[]).data.toList 1).toArray⟩) = _
  rw [this]
  rfl

set_option maxHeartbeats 1600000 in
set_option maxRecDepth 100000 in
theorem mag_any (r c : Nat) (w : World) (hc : c = 1074) (h0 : 0 < r) (hr : r < infW) (hF : FE w) :
    Calls Tryz.prog 26 #[.float .f64 r] w fun e w' => MagR r c w e w' := by
  obtain ⟨G, o, P, po, C, co, ev, m, hE⟩ := hF.e
  have Hml := hide (fun (w1 : World) (hb : Below w.heap.size w w1) => (hE.below hb).ml)
  have HS := hide (fun (w1 : World) => short_any r c w hc h0 hr hF)
  clear hE hc h0 hr hF
  go_enter Tryz.func26, Tryz.ntmps26
  go_wp2_with fail
  refine (HS.out w).mono ?_
  rintro e w1 ⟨n, d, q, rfl, hfirst, hX1, hX2, hb1⟩
  have Hfirst := hide hfirst
  have hn1 := hfirst.n1
  have hn2 := hfirst.n17
  have Hb1 := hide hb1
  clear hfirst hb1 HS
  have HX : Hid (∀ (X : Int), X = (n : Int) - 1 - q → ∀ w', Below w.heap.size w w' → MagR r c w (.returned (.string (strL (FT d n X)))) w') := hide (fun X hX w' hb' => ⟨n, d, q, by rw [hX], Hfirst.out, by omega, by omega, hb'⟩)
  obtain ⟨X, hX⟩ : ∃ X, X = (n : Int) - 1 - q := ⟨_, rfl⟩
  rw [← hX] at hX1 hX2 ⊢
  have HX := hide (HX.out X hX)
  clear hX
  have HC := hide (cut_any d n X m w1 hn1 hn2 (Hml.out w1 Hb1.out))
  obtain ⟨T, hT⟩ : ∃ T, T = eStr d n X := ⟨_, rfl⟩
  rw [← hT] at HC ⊢
  have HT := hide hT
  clear hT
  go_wp2_with fail
  refine HC.out.mono ?_
  rintro e w2 ⟨rfl, hb2⟩
  have Hb2 := hide (Hb1.out.trans (hb2.mono Hb1.out.size))
  clear hb2 HC
  have HA := hide (atoi_any X w2 hX1 hX2)
  obtain ⟨T2, hT2⟩ : ∃ T, T = strL ((if X < 0 then 45 else 43) :: expL X.natAbs) := ⟨_, rfl⟩
  rw [← hT2] at HA ⊢
  clear hT2
  go_wp2_with fail
  refine HA.out.mono ?_
  rintro e w3 ⟨rfl, hb3⟩
  have Hb3 := hide (Hb2.out.trans (hb3.mono Hb2.out.size))
  clear hb3 HA
  have HR := hide (fun w' hb' => rep_any d n m w' hn1 hn2 (Hml.out w' hb'))
  have HD := hide (digL_len d n)
  by_cases hw : X < -5 ∨ X > 16
  · have HFT : Hid (strL (FT d n X) = T) := hide (by unfold FT; rw [if_pos hw, HT.out]; rfl)
    rcases hw with hw | hw
    · go_wp2
      go_ret
      have := HX.out _ Hb3.out
      rw [HFT.out] at this
      exact this
    · go_wp2
      go_ret
      have := HX.out _ Hb3.out
      rw [HFT.out] at this
      exact this
  · have HFT : Hid (FT d n X = plainL (digL d n) X) := hide (by unfold FT; rw [if_neg hw])
    have hw1 : -5 ≤ X := by omega
    have hw2 : X ≤ 16 := by omega
    clear hw
    go_wp2_with fail
    refine (HR.out _ Hb3.out).mono ?_
    rintro e w4 ⟨rfl, hb4⟩
    have Hb4 := hide (Hb3.out.trans (hb4.mono Hb3.out.size))
    clear hb4 HR
    go_wp2_with fail
    refine (plain_any (digL d n) X w4 (by rw [HD.out]; exact hn1) (by rw [HD.out]; exact hn2) hw1 hw2).mono ?_
    rintro e w5 ⟨rfl, hb5⟩
    have Hb5 := hide (Hb4.out.trans (hb5.mono Hb4.out.size))
    clear hb5
    go_wp2
    go_ret
    have := HX.out _ Hb5.out
    rw [HFT.out] at this
    exact this

end Go.Proofs.YtamdnnkdnhkghaaGreatDoor

namespace Go.Proofs.YtamdnnkdnhkghaaGreatDoor

open Go Go.RowKit

set_option linter.unusedVariables false

set_option maxHeartbeats 1600000 in
set_option maxRecDepth 100000 in
theorem short_zero (w : World) (hF : FE w) :
    Calls Tryz.prog 54 #[.float .f64 0] w fun e w' => e = .returned (.string (eStr 0 1 0)) ∧ Below w.heap.size w w' := by
  have hs : 0 < w.heap.size := by
    obtain ⟨G, o, P, po, C, co, ev, m, hE⟩ := hF.e
    have := hE.vars.h12
    omega
  have HFF := hide (ff_zero w hs)
  have HPF := hide (fun (w1 : World) (hb : Below w.heap.size w w1) => pf_eStr (d := 0) (n := 1) (q := 0) (hF.below hb) (by omega) (by omega) (by decide) (by omega) (by omega))
  have Ho := hide (order_self (W := 0) (by decide))
  clear hF hs
  go_enter Tryz.func54, Tryz.ntmps54
  go_wp2_with fail
  go_loopw [7] (fun cv wr => cv = .int .i64 0 ∧ wr = w) (fun cv _ => 0)
  case atStart => exact ⟨rfl, rfl⟩
  case round =>
    obtain ⟨rfl, rfl⟩ := hrel
    go_wp2_with fail
    refine HFF.out.mono ?_
    rintro e w1 ⟨rfl, hb1⟩
    have Hb1 := hide hb1
    clear hb1
    have HP := HPF.out w1 Hb1.out
    have e0 : (((1 : Nat) : Int) - 1 - 0) = 0 := rfl
    rw [e0] at HP
    obtain ⟨T, hT⟩ : ∃ T, T = eStr 0 1 0 := ⟨_, rfl⟩
    rw [← hT] at HP ⊢
    have HT := hide hT
    clear hT e0
    have HPt := hide HP
    clear HP
    go_wp2_with fail
    refine HPt.out.mono ?_
    rintro e w2 ⟨W, hdec, hb2, hcase⟩
    have hW : W = 0 := hdec.unique (decRnd_zero _)
    subst hW
    have Hb2 := hide (Hb1.out.trans (hb2.mono Hb1.out.size))
    clear hdec hb2
    rcases hcase with ⟨hfin, rfl⟩ | ⟨hinf, B, rfl⟩
    · have ho : FloatKind.f64.format.order 0 0 = some Ordering.eq := Ho.out
      go_wp2
      go_ret
      exact ⟨by rw [← HT.out]; rfl, Hb2.out⟩
    · exact absurd hinf (by decide)

set_option maxHeartbeats 1600000 in
set_option maxRecDepth 100000 in
theorem mag_zero (w : World) (hF : FE w) :
    Calls Tryz.prog 26 #[.float .f64 0] w fun e w' => e = .returned (.string (strL [48, 46, 48])) ∧ Below w.heap.size w w' := by
  obtain ⟨G, o, P, po, C, co, ev, m, hE⟩ := hF.e
  have Hml := hide (fun (w1 : World) (hb : Below w.heap.size w w1) => (hE.below hb).ml)
  have HS := hide (short_zero w hF)
  clear hE hF
  go_enter Tryz.func26, Tryz.ntmps26
  go_wp2_with fail
  refine HS.out.mono ?_
  rintro e w1 ⟨rfl, hb1⟩
  have Hb1 := hide hb1
  clear hb1 HS
  have HC := hide (cut_any 0 1 0 m w1 (by omega) (by omega) (Hml.out w1 Hb1.out))
  obtain ⟨T, hT⟩ : ∃ T, T = eStr 0 1 0 := ⟨_, rfl⟩
  rw [← hT] at HC ⊢
  have HT := hide hT
  clear hT
  go_wp2_with fail
  refine HC.out.mono ?_
  rintro e w2 ⟨rfl, hb2⟩
  have Hb2 := hide (Hb1.out.trans (hb2.mono Hb1.out.size))
  clear hb2 HC
  have HA := hide (atoi_any 0 w2 (by omega) (by omega))
  obtain ⟨T2, hT2⟩ : ∃ T, T = strL ((if (0 : Int) < 0 then 45 else 43) :: expL (0 : Int).natAbs) := ⟨_, rfl⟩
  rw [← hT2] at HA ⊢
  clear hT2
  go_wp2_with fail
  refine HA.out.mono ?_
  rintro e w3 ⟨rfl, hb3⟩
  have Hb3 := hide (Hb2.out.trans (hb3.mono Hb2.out.size))
  clear hb3 HA
  have HR := hide (fun w' hb' => rep_any 0 1 m w' (by omega) (by omega) (Hml.out w' hb'))
  go_wp2_with fail
  refine (HR.out _ Hb3.out).mono ?_
  rintro e w4 ⟨rfl, hb4⟩
  have Hb4 := hide (Hb3.out.trans (hb4.mono Hb3.out.size))
  clear hb4 HR
  go_wp2_with fail
  refine (plain_any (digL 0 1) 0 w4 (by decide) (by decide) (by omega) (by omega)).mono ?_
  rintro e w5 ⟨rfl, hb5⟩
  have Hb5 := hide (Hb4.out.trans (hb5.mono Hb4.out.size))
  clear hb5
  go_wp2
  go_ret
  exact ⟨rfl, Hb5.out⟩

end Go.Proofs.YtamdnnkdnhkghaaGreatDoor

namespace Go.Proofs.YtamdnnkdnhkghaaGreatDoor

open Go Go.RowKit

set_option linter.unusedVariables false

theorem neg_wordS {s : Bool} {r : Nat} (h : r < 9223372036854775808) : Op.negFloat .f64 (wordS s r) = wordS (!s) r := by
  have e : Op.negFloat .f64 (wordS s r) = wordS s r ^^^ 2 ^ 63 := rfl
  have hx := xor_top (x := r) h
  rw [e]
  cases s with
  | false => exact hx
  | true =>
    have : wordS true r = r ^^^ 2 ^ 63 := hx.symm
    rw [this, Nat.xor_assoc, Nat.xor_self, Nat.xor_zero]
    rfl

theorem run_negS (s : Bool) (r : Nat) (h : r < 9223372036854775808) (w : World) : Sem.run Tryz.prog (Op.unary UnOp.neg (Value.float FloatKind.f64 (wordS s r))) w = Result.ok (Value.float FloatKind.f64 (wordS (!s) r)) w := by
  rw [← neg_wordS h]
  rfl

theorem isInf1_any (A : Nat) (w : World) : Calls Tryz.prog 24 #[.float .f64 A, .int .i64 1] w fun e w' => e = .returned (.bool (FloatKind.f64.format.order A 9218868437227405311 == some .gt)) ∧ w' = w := by
  go_enter Tryz.func24, Tryz.ntmps24
  go_wp2
  all_goals go_ret
  all_goals exact ⟨rfl, rfl⟩

theorem isInf2_any (A B : Nat) (w : World) (h : ∀ w, Sem.run Tryz.prog (Op.unary UnOp.neg (Value.float FloatKind.f64 A)) w = Result.ok (Value.float FloatKind.f64 B) w) : Calls Tryz.prog 24 #[.float .f64 A, .int .i64 (-1)] w fun e w' => e = .returned (.bool (FloatKind.f64.format.order B 9218868437227405311 == some .gt)) ∧ w' = w := by
  go_enter Tryz.func24, Tryz.ntmps24
  go_wp2
  all_goals go_ret
  all_goals exact ⟨rfl, rfl⟩

set_option maxRecDepth 100000 in
theorem signbit_any (A : Nat) (s : Bool) (w : World) (h : decide (wrap64 (A : Int) < 0) = s) : Calls Tryz.prog 25 #[.float .f64 A] w fun e w' => e = .returned (.bool s) ∧ w' = w := by
  have ht := run_f64bits A
  go_enter Tryz.func25, Tryz.ntmps25
  go_wp2
  all_goals go_ret
  all_goals exact ⟨by rw [← h]; rfl, rfl⟩

theorem sign_wrap {s : Bool} {r : Nat} (h : r < 9223372036854775808) : decide (wrap64 ((wordS s r : Nat) : Int) < 0) = s := by
  unfold wordS
  cases s <;> simp [wrap64] <;> omega

theorem inf_max {s : Bool} {r : Nat} (h : r ≤ infW) : (FloatKind.f64.format.order (wordS s r) 9218868437227405311 == some .gt) = (!s && decide (r = infW)) := by
  have ho := order_all (s := s) (t := false) (r := r) (q := 9218868437227405311) h (by decide)
  have e : wordS false 9218868437227405311 = 9218868437227405311 := rfl
  rw [e] at ho
  have hm : infW = 9218868437227405311 + 1 := rfl
  show (Ieee.double.order (wordS s r) 9218868437227405311 == some .gt) = _
  rw [ho]
  cases s with
  | true =>
    have hp : 0 < wV 9218868437227405311 := wV_pos (by omega)
    rw [icmp_lt (show sgZ true (wV r) < sgZ false (wV 9218868437227405311) by show -((wV r : Nat) : Int) < ((wV 9218868437227405311 : Nat) : Int); omega)]
    rfl
  | false =>
    by_cases hr : r = infW
    · have hl : wV 9218868437227405311 < wV r := wV_lt (by omega)
      rw [icmp_gt (show sgZ false (wV 9218868437227405311) < sgZ false (wV r) by show ((wV 9218868437227405311 : Nat) : Int) < ((wV r : Nat) : Int); omega)]
      simp [hr]
    · have hl : wV r ≤ wV 9218868437227405311 := wV_le (by omega)
      have hg : ¬ compare (sgZ false (wV r)) (sgZ false (wV 9218868437227405311)) = .gt := by
        intro hh
        rw [Int.compare_eq_gt] at hh
        change ((wV 9218868437227405311 : Nat) : Int) < ((wV r : Nat) : Int) at hh
        omega
      have : (some (compare (sgZ false (wV r)) (sgZ false (wV 9218868437227405311))) == some Ordering.gt) = false := by
        rw [beq_eq_false_iff_ne]
        intro hh
        exact hg (Option.some.inj hh)
      rw [this]
      simp [hr]

end Go.Proofs.YtamdnnkdnhkghaaGreatDoor
