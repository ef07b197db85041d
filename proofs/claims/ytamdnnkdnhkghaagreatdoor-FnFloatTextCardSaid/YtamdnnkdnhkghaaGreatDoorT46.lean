import Derived.Test.YtamdnnkdnhkghaaGreatDoorT45
import Derived.Test.YtamdnnkdnhkghaaGreatDoorT07
import Derived.Test.YtamdnnkdnhkghaaGreatDoorT44
import Derived.Test.YtamdnnkdnhkghaaGreatDoorT26
import Derived.Lib.LaidU8
namespace Go.Proofs.YtamdnnkdnhkghaaGreatDoor

open Go Go.RowKit

set_option linter.unusedVariables false

/-- A number as it is drawn. -/
def NumOk (f : Bool) (i u : Int) : Prop := -9223372036854775808 ≤ i ∧ i ≤ 9223372036854775807 ∧ 0 ≤ u ∧ u < 18446744073709551616 ∧ (f = true → i = 0) ∧ (f = false → u = 0)

/-- How 'L01Number' ends. -/
def LNR (B S : Nat) (w0 : World) (e : Ending) (w' : World) : Prop := ∃ f i u, e = .returned (.agg #[.bool f, .int .i64 i, .int .u64 u]) ∧ NumOk f i u ∧ Drew B S w0 w'

theorem nanW_any (W : Nat) (h : W < 18446744073709551616) : ∃ b, CB 46 #[.int .u64 W] b := ⟨_, fun w => isNanU_any (W : Int) w (by omega)⟩

abbrev resN (w : World) : World := w.alloc (.cells #[.bool false, .int .i64 0, .int .u64 0] 26)

/-- The cells of the result. -/
structure ResK (w : World) (w' : World) : Prop where
  c0 : w'.cell? ⟨w.heap.size, 0, none⟩ = some (.bool false)
  c1 : w'.cell? ⟨w.heap.size, 1, none⟩ = some (.int .i64 0)
  c2 : w'.cell? ⟨w.heap.size, 2, none⟩ = some (.int .u64 0)
  z0 : w'.frozen? ⟨w.heap.size, 0, none⟩ = false
  z1 : w'.frozen? ⟨w.heap.size, 1, none⟩ = false
  z2 : w'.frozen? ⟨w.heap.size, 2, none⟩ = false

theorem drew_res {B S : Nat} {w w' : World} (hB : B ≤ w.heap.size) (hSw : S < w.heap.size) (h : Drew B S (resN w) w') : ResK w w' := by
  have k := fun j => h.2.2 ⟨w.heap.size, j, none⟩ (by show w.heap.size ≠ S; omega) (by simp)
  exact ⟨(k 0).1.trans (by simp), (k 1).1.trans (by simp), (k 2).1.trans (by simp), (k 0).2.trans (by simp), (k 1).2.trans (by simp), (k 2).2.trans (by simp)⟩

/-- Writing the result. -/
theorem drew_put {B S : Nat} {w w' : World} (hS : Src B w S) (h : Drew B S (resN w) w') (a b c : Value) :
    Drew B S w (((w'.setCell ⟨w.heap.size, 0, none⟩ a).setCell ⟨w.heap.size, 1, none⟩ b).setCell ⟨w.heap.size, 2, none⟩ c) := by
  have h1 := (drew_low hS ((Below.refl w.heap.size w).alloc (Nat.le_refl _) _)).trans h
  have hSw := hS.2.1
  have hBS := hS.1
  have hb : Below w.heap.size w' (((w'.setCell ⟨w.heap.size, 0, none⟩ a).setCell ⟨w.heap.size, 1, none⟩ b).setCell ⟨w.heap.size, 2, none⟩ c) := by
    have b0 : Below w.heap.size w' w' := Below.refl _ _
    have b1 : Below w.heap.size w' (w'.setCell ⟨w.heap.size, 0, none⟩ a) := b0.setCell (Nat.le_refl _) a
    have b2 : Below w.heap.size w' ((w'.setCell ⟨w.heap.size, 0, none⟩ a).setCell ⟨w.heap.size, 1, none⟩ b) := b1.setCell (Nat.le_refl _) b
    exact b2.setCell (Nat.le_refl _) c
  obtain ⟨hB, hS2, v, n, i, x, hC, hn, hi, hx0, hx1, c0, c1, c2, z1, z2⟩ := h1.1
  refine ⟨⟨hB, Nat.lt_of_lt_of_le hS2 hb.size, v, n, i, x, hC.below (hb.mono (by omega)), hn, hi, hx0, hx1, (hb.cell (p := ⟨S, 0, none⟩) hSw).trans c0, (hb.cell (p := ⟨S, 1, none⟩) hSw).trans c1, (hb.cell (p := ⟨S, 2, none⟩) hSw).trans c2, (hb.frozen (p := ⟨S, 1, none⟩) hSw).trans z1, (hb.frozen (p := ⟨S, 2, none⟩) hSw).trans z2⟩, h1.2.1.trans (hb.mono (by omega)), fun p h2 h3 => ⟨(hb.cell h3).trans (h1.2.2 p h2 h3).1, (hb.frozen h3).trans (h1.2.2 p h2 h3).2⟩⟩

set_option maxHeartbeats 3200000 in
set_option maxRecDepth 100000 in
theorem lnumber_any (B S : Nat) (w : World) (h : Src B w S) :
    Calls Tryz.prog 11 #[.pointer (some ⟨S, 0, none⟩)] w fun e w' => LNR B S w e w' := by
  have h0 := Drew.refl (drew_low h ((Below.refl w.heap.size w).alloc (Nat.le_refl _) (.cells #[.bool false, .int .i64 0, .int .u64 0] 26))).1
  have HN := hide (fun k w1 hk hk2 h => drawN_drew B S k (resN w) w1 hk hk2 h)
  have HO := hide (fun k w1 hk hk2 h => one_any B S k (resN w) w1 hk hk2 h)
  have HW := hide (fun w1 h => wild_any B S (resN w) w1 h)
  have HD := hide (fun w1 h => dword_any B S (resN w) w1 h)
  have hBw : B ≤ w.heap.size := by have := h.1; have := h.2.1; omega
  have HR := hide (fun w' (hh : Drew B S (resN w) w') => drew_res hBw h.2.1 hh)
  have HE := hide (fun w' a b c (hh : Drew B S (resN w) w') => drew_put h hh a b c)
  have Hh := hide h0
  clear h h0
  go_enter Tryz.func11, Tryz.ntmps11
  go_wp2_with fail
  refine (HO.out 2 _ (by omega) (by omega) Hh.out).mono ?_
  rintro e w1 ⟨b, rfl, hd⟩
  have Hd := hide hd
  clear hd Hh
  cases b with
  | true =>
    go_wp2_with fail
    refine (HD.out _ Hd.out).mono ?_
    rintro e w2 ⟨W, rfl, hW, hd2⟩
    have Hd2 := hide hd2
    clear hd2
    obtain ⟨bb, hbb⟩ := nanW_any W hW
    have HF := hide (fun w => l01Float_any W bb w hW hbb)
    clear hbb hW
    go_wp2_with fail
    refine (HF.out _).mono ?_
    rintro e w3 ⟨⟨U, hU, rfl⟩, hb3⟩
    have Hd3 := hide (Hd2.out.low hb3)
    clear hb3
    obtain ⟨c0, c1, c2, z0, z1, z2⟩ := HR.out _ Hd3.out
    go_wp2
    refine bodyPost_ret (v := .agg #[.bool true, .int .i64 0, .int .u64 (U : Int)]) ?_ rfl ⟨true, 0, (U : Int), rfl, ⟨by omega, by omega, by omega, by omega, fun _ => rfl, fun h => (by cases h)⟩, HE.out _ _ _ _ Hd3.out⟩
    simp [results, Tryz.results11, go_sem, c0, c1, c2]
  | false =>
    go_wp2_with fail
    refine (HO.out 3 _ (by omega) (by omega) Hd.out).mono ?_
    rintro e w2 ⟨b2, rfl, hd2⟩
    have Hd2 := hide hd2
    clear hd2
    cases b2 with
    | true =>
      go_wp2_with fail
      refine (HW.out _ Hd2.out).mono ?_
      rintro e w3 ⟨v, rfl, hv0, hv1, hd3⟩
      have Hd3 := hide hd3
      clear hd3
      go_wp2_with fail
      refine (l01Int_any v _).mono ?_
      rintro e w4 ⟨rfl, hb4⟩
      have Hd4 := hide (Hd3.out.low hb4)
      clear hb4
      obtain ⟨c0, c1, c2, z0, z1, z2⟩ := HR.out _ Hd4.out
      go_wp2
      refine bodyPost_ret (v := .agg #[.bool false, .int .i64 v, .int .u64 0]) ?_ rfl ⟨false, v, 0, rfl, ⟨hv0, hv1, by omega, by omega, fun h => (by cases h), fun _ => rfl⟩, HE.out _ _ _ _ Hd4.out⟩
      simp [results, Tryz.results11, go_sem, c0, c1, c2]
    | false =>
      go_wp2_with fail
      refine (HN.out 200 _ (by omega) (by omega) Hd2.out).mono ?_
      rintro e w3 ⟨r3, rfl, h0, h1, hd3⟩
      have Hd3 := hide hd3
      clear hd3
      go_wp2_with fail
      refine (l01Int_any (r3 - 100) _).mono ?_
      rintro e w4 ⟨rfl, hb4⟩
      have Hd4 := hide (Hd3.out.low hb4)
      clear hb4
      obtain ⟨c0, c1, c2, z0, z1, z2⟩ := HR.out _ Hd4.out
      go_wp2
      refine bodyPost_ret (v := .agg #[.bool false, .int .i64 (r3 - 100), .int .u64 0]) ?_ rfl ⟨false, (r3 - 100), 0, rfl, ⟨by omega, by omega, by omega, by omega, fun h => (by cases h), fun _ => rfl⟩, HE.out _ _ _ _ Hd4.out⟩
      simp [results, Tryz.results11, go_sem, c0, c1, c2]

theorem ldraw_src {w : World} {v : Value} {n : Nat} {x : Int} (hC : CodeAt w.heap.size w v n) (hn : n ≤ 1048576) (h0 : 0 ≤ x) (h1 : x < 18446744073709551616) : Drew w.heap.size w.heap.size w (w.alloc (.cells #[v, .int .i64 0, .int .u64 x] 57)) := by
  have hb : Below w.heap.size w (w.alloc (.cells #[v, .int .i64 0, .int .u64 x] 57)) := (Below.refl _ _).alloc (Nat.le_refl _) _
  exact ⟨⟨Nat.le_refl _, by simp, v, n, 0, x, hC.below hb, hn, by omega, h0, h1, by simp, by simp, by simp, by simp, by simp⟩, hb, fun p _ h2 => ⟨hb.cell h2, hb.frozen h2⟩⟩

set_option maxHeartbeats 1600000 in
set_option maxRecDepth 100000 in
theorem ldraw_any (v : Value) (n : Nat) (w : World) (hC : CodeAt w.heap.size w v n) (hn : n ≤ 1048576) :
    Calls Tryz.prog 12 #[v] w fun e w' => ∃ S, e = .returned (.pointer (some ⟨S, 0, none⟩)) ∧ Drew w.heap.size S w w' := by
  have HC := hide hC
  rcases hC with ⟨rfl, a, cap, rfl⟩ | ⟨b, o, cap, rfl, hb, hc⟩
  · go_enter Tryz.func12, Tryz.ntmps12
    go_wp2
    go_ret
    exact ⟨w.heap.size, rfl, ldraw_src HC.out hn (by omega) (by omega)⟩
  · clear hc
    go_enter Tryz.func12, Tryz.ntmps12
    go_wp2
    go_ret
    exact ⟨w.heap.size, rfl, ldraw_src HC.out hn (by omega) (by omega)⟩

end Go.Proofs.YtamdnnkdnhkghaaGreatDoor

namespace Go.Proofs.YtamdnnkdnhkghaaGreatDoor

open Go Go.RowKit

set_option linter.unusedVariables false

theorem mlen_pre : ∀ (A R : List Int), (∀ z ∈ A, isDP z = true) → mlen (A ++ R) = A.length + mlen R
  | [], R, _ => by simp
  | c :: A, R, h => by
    have ih := mlen_pre A R (fun z hz => h z (by simp [hz]))
    show (if isDP c = true then mlen (A ++ R) + 1 else 0) = _
    rw [if_pos (h c (by simp)), ih, List.length_cons]
    omega

theorem isDP_rng {z : Int} (h : 48 ≤ z ∧ z ≤ 57) : isDP z = true := by
  unfold isDP isDigI
  rw [decide_eq_true h]
  rfl

theorem dscan_point (A1 A2 : List Int) (h1 : ∀ z ∈ A1, z ≠ 46) (h2 : ∀ z ∈ A2, z ≠ 46) : dscan (A1 ++ [46] ++ A2) = (A1 ++ A2, A2.length, 1) := by
  unfold dscan
  rw [List.foldl_append, List.foldl_append, fold_dig _ _ _ _ h1, List.foldl_cons, List.foldl_nil]
  have e : dstep ([] ++ A1, 0 + 0 * A1.length, 0) 46 = (A1, 0, 1) := by unfold dstep; rw [if_pos rfl]; simp
  rw [e, fold_dig _ _ _ _ h2]
  simp

theorem dscan_plain (A : List Int) (h : ∀ z ∈ A, z ≠ 46) : dscan A = (A, 0, 0) := by
  unfold dscan
  rw [fold_dig _ _ _ _ h]
  simp

/-- A text of digits and one point. -/
theorem decR_point {A1 A2 : List Int} {W : Nat} (h1 : ∀ z ∈ A1, 48 ≤ z ∧ z ≤ 57) (h2 : ∀ z ∈ A2, 48 ≤ z ∧ z ≤ 57) (hne : A2 ≠ []) (hW : DecRnd (dval (A1 ++ A2)) (-(A2.length : Int)) W) (hfin : W < infW) :
    DecR (A1 ++ [46] ++ A2) (.tuple #[numV true 0 W, .bool true]) := by
  have hdp : ∀ z ∈ A1 ++ [46] ++ A2, isDP z = true := by
    intro z hz
    rw [List.mem_append, List.mem_append] at hz
    rcases hz with (hz | hz) | hz
    · exact isDP_rng (h1 z hz)
    · simp at hz; subst hz; rfl
    · exact isDP_rng (h2 z hz)
  have hm : mlen (A1 ++ [46] ++ A2) = (A1 ++ [46] ++ A2).length := by
    have := mlen_pre (A1 ++ [46] ++ A2) [] hdp
    rw [List.append_nil] at this
    rw [this]
    rfl
  have hs := dscan_point A1 A2 (fun z hz e => by have := h1 z hz; omega) (fun z hz e => by have := h2 z hz; omega)
  unfold DecR
  rw [hm, List.take_length, hs]
  have hnil : ¬ (A1 ++ A2 = [] ∨ 1 < 1) := by
    rintro (h | h)
    · simp at h; exact hne h.2
    · omega
  rw [if_neg hnil, if_neg (by rintro ⟨_, h, _⟩; exact absurd (show 1 = 0 from h) (by omega)), if_neg (by omega)]
  refine ⟨W, ?_, ?_⟩
  · have e : (0 : Int) - ((A2.length : Nat) : Int) = -(A2.length : Int) := by omega
    rw [e]
    exact hW
  · rw [if_neg (by omega)]

/-- A text of digits, a point and an exponent, or digits and an exponent. -/
theorem decR_exp {d n : Nat} {X : Int} {W : Nat} (hn1 : 1 ≤ n) (hd : d < 10 ^ n) (h1 : -900 ≤ X) (h2 : X ≤ 900) (hW : DecRnd d (X - ((n - 1 : Nat) : Int)) W) (hfin : W < infW) :
    DecR (eTxt d n X) (.tuple #[numV true 0 W, .bool true]) := by
  have hdp : ∀ z ∈ mantL d n, isDP z = true := by
    intro z hz
    rcases mantL_byte z hz with g | g
    · exact isDP_rng g
    · subst g; rfl
  have hR : mlen ([101, if X < 0 then 45 else 43] ++ expL X.natAbs) = 0 := by
    show mlen (101 :: _) = 0
    unfold mlen
    rw [if_neg (by decide)]
  have hm : mlen (eTxt d n X) = (mantL d n).length := by
    unfold eTxt
    rw [List.append_assoc, mlen_pre _ _ hdp, hR]
    rfl
  have hl : (eTxt d n X).length = (mantL d n).length + 2 + (expL X.natAbs).length := by unfold eTxt; simp; omega
  have htk : (eTxt d n X).take (mantL d n).length = mantL d n := by unfold eTxt; rw [List.append_assoc, List.take_left]
  have hdr : (eTxt d n X).drop (mantL d n).length = [101, if X < 0 then 45 else 43] ++ expL X.natAbs := by unfold eTxt; rw [List.append_assoc, List.drop_left]
  have hx : expV ([101, if X < 0 then 45 else 43] ++ expL X.natAbs) = some X := by
    unfold expV
    rw [if_pos (by left; rfl)]
    unfold expS
    have ed : List.drop 1 ([101, if X < 0 then 45 else 43] ++ expL X.natAbs) = (if X < 0 then 45 else 43) :: expL X.natAbs := rfl
    rw [ed]
    have e0 : ((if X < 0 then 45 else 43) :: expL X.natAbs : List Int).getD 0 0 = if X < 0 then 45 else 43 := rfl
    have e1 : List.drop 1 ((if X < 0 then 45 else 43) :: expL X.natAbs : List Int) = expL X.natAbs := rfl
    rw [e0, e1, expB_expL (by omega)]
    by_cases hX : X < 0
    · rw [if_pos hX, if_pos rfl]
      simp
      omega
    · rw [if_neg hX, if_neg (by decide), if_pos rfl]
      congr 1
      omega
  unfold DecR
  rw [hm, htk, dscan_mantL hn1, dval_digL hd]
  have hnil : ¬ (digL d n = [] ∨ 1 < (if n = 1 then 0 else 1)) := by
    rintro (h | h)
    · rw [digL_cons hn1] at h; cases h
    · split at h <;> omega
  rw [if_neg hnil, if_neg (by omega), if_pos (by omega), hdr, hx]
  refine ⟨W, hW, ?_⟩
  rw [if_neg (by omega)]

/-- A text of digits alone. -/
theorem decR_int {A : List Int} (h : ∀ z ∈ A, 48 ≤ z ∧ z ≤ 57) (hne : A ≠ []) (hv : dval A < 9223372036854775808) : DecR A (.tuple #[numV false (dval A) 0, .bool true]) := by
  have hm : mlen A = A.length := by
    have := mlen_pre A [] (fun z hz => isDP_rng (h z hz))
    rw [List.append_nil] at this
    rw [this]
    rfl
  have hs := dscan_plain A (fun z hz e => by have := h z hz; omega)
  unfold DecR
  rw [hm, List.take_length, hs]
  rw [if_neg (by rintro (h | h); exact hne h; exact absurd (show 1 < 0 from h) (by omega)), if_pos ⟨rfl, rfl, hv⟩]

theorem decRnd_pow {d W : Nat} {E : Int} : ∀ k : Nat, DecRnd (d * 10 ^ k) E W ↔ DecRnd d (E + k) W
  | 0 => by simp
  | k + 1 => by
    have h1 := decRnd_ten (d := d * 10 ^ k) (W := W) (q := -E)
    have e1 : 10 * (d * 10 ^ k) = d * 10 ^ (k + 1) := by rw [Nat.pow_succ]; grind
    have e2 : -(-E) = E := by omega
    have e3 : -(-E - 1) = E + 1 := by omega
    rw [e1, e2, e3] at h1
    rw [h1, decRnd_pow k]
    have e4 : E + 1 + (k : Int) = E + ((k + 1 : Nat) : Int) := by omega
    rw [e4]

theorem dval_zeros (z : Nat) (L : List Int) : dval (List.replicate z 48 ++ L) = dval L := by
  induction z with
  | zero => simp
  | succ z ih =>
    rw [List.replicate_succ, List.cons_append, dval_zero, ih]

theorem dval_trail (L : List Int) : ∀ z : Nat, dval (L ++ List.replicate z 48) = dval L * 10 ^ z
  | 0 => by simp
  | z + 1 => by
    rw [List.replicate_succ', ← List.append_assoc, dval_snoc, dval_trail L z, Nat.pow_succ]
    have : ((48 : Int) - 48).toNat = 0 := rfl
    rw [this, ← Nat.mul_assoc]
    omega

theorem First.range {r c n d : Nat} {q : Int} (hc : c = 1074) (h0 : 0 < r) (hr : r < infW) (h : First r c n d q) : -900 ≤ (n : Int) - 1 - q ∧ (n : Int) - 1 - q ≤ 900 := by
  have hV : 0 < wV r := wV_pos (by omega)
  have hN : 0 < wV r * 5 ^ c := Nat.mul_pos hV (Nat.pow_pos (by omega))
  obtain ⟨l, h1, h2, h3⟩ := digN_size hN
  have hE : Ex (wV r) c (wV r * 5 ^ c) c l := ⟨h1, h2, h3, by rw [Nat.mul_assoc, ← Nat.mul_pow]⟩
  have hrg := hE.range hc h0 hr
  have hnl : n ≤ l := by
    rcases Nat.lt_or_ge l n with g | g
    · exact absurd (hE.back hc h0 hr) (h.least l _ _ h1 g hE.whole)
    · exact g
  have hrd := hE.round h.n1 hnl
  have hn1 := h.n1
  by_cases he : rq (wV r * 5 ^ c) (10 ^ (l - n)) = 10 ^ n
  · have hu := (hrd.2.1 he).unique hn1 h.fmt
    have := hu.2
    clear hrd hE h2 h3 hN hc hu
    omega
  · have hu := (hrd.2.2 he).unique hn1 h.fmt
    have := hu.2
    clear hrd hE h2 h3 hN hc hu
    omega

/-- The text of a magnitude reads as the magnitude. -/
theorem decR_mag {r c : Nat} {L : List Int} (hc : c = 1074) (hr : r < infW) (h : MagT r c L) : DecR L (.tuple #[numV true 0 r, .bool true]) := by
  rcases h with ⟨rfl, rfl⟩ | ⟨h0, n, d, q, hf, rfl⟩
  · have := decR_point (A1 := [48]) (A2 := [48]) (W := 0) (by intro z hz; simp at hz; omega) (by intro z hz; simp at hz; omega) (by simp) (decRnd_zero _) (by decide)
    exact this
  · have hn1 := hf.n1
    have hn17 := hf.n17
    have hd := hf.fmt.hi
    have hb := hf.back
    have hXX := hf.range hc h0 hr
    obtain ⟨X, hXe⟩ : ∃ X, X = (n : Int) - 1 - q := ⟨_, rfl⟩
    rw [← hXe] at hXX ⊢
    unfold FT
    by_cases hx : X < -5 ∨ X > 16
    · rw [if_pos hx]
      refine decR_exp hn1 hd hXX.1 hXX.2 ?_ hr
      have e : X - ((n - 1 : Nat) : Int) = -q := by omega
      rw [e]
      exact hb
    · rw [if_neg hx]
      unfold plainL
      rw [digL_len]
      by_cases hneg : X < 0
      · rw [if_pos hneg]
        have e : [48, 46] ++ List.replicate (-X - 1).toNat 48 ++ digL d n = [48] ++ [46] ++ (List.replicate (-X - 1).toNat 48 ++ digL d n) := by simp
        rw [e]
        refine decR_point (by intro z hz; simp at hz; omega) ?_ ?_ ?_ hr
        · intro z hz
          rw [List.mem_append] at hz
          rcases hz with hz | hz
          · have := List.eq_of_mem_replicate hz; omega
          · exact digL_byte z hz
        · intro hh
          simp at hh
          have := digL_len d n
          rw [hh.2] at this
          simp at this
          omega
        · rw [List.singleton_append, dval_zero, dval_zeros, dval_digL hd]
          have e2 : -(((List.replicate (-X - 1).toNat (48 : Int) ++ digL d n).length : Nat) : Int) = -q := by
            rw [List.length_append, List.length_replicate, digL_len]
            omega
          rw [e2]
          exact hb
      · rw [if_neg hneg]
        by_cases hmid : X + 1 < (n : Int)
        · rw [if_pos hmid]
          refine decR_point (fun z hz => digL_byte z (List.mem_of_mem_take hz)) (fun z hz => digL_byte z (List.mem_of_mem_drop hz)) ?_ ?_ hr
          · intro hh
            have := congrArg List.length hh
            rw [List.length_drop, digL_len] at this
            simp at this
            omega
          · rw [List.take_append_drop, dval_digL hd, List.length_drop, digL_len]
            have e2 : -(((n - (X + 1).toNat : Nat)) : Int) = -q := by omega
            rw [e2]
            exact hb
        · rw [if_neg hmid]
          have e : digL d n ++ List.replicate (X + 1 - (n : Int)).toNat 48 ++ [46, 48] = (digL d n ++ List.replicate (X + 1 - (n : Int)).toNat 48) ++ [46] ++ [48] := by simp
          rw [e]
          refine decR_point ?_ (by intro z hz; simp at hz; omega) (by simp) ?_ hr
          · intro z hz
            rw [List.mem_append] at hz
            rcases hz with hz | hz
            · exact digL_byte z hz
            · have := List.eq_of_mem_replicate hz; omega
          · have e3 : digL d n ++ List.replicate (X + 1 - (n : Int)).toNat 48 ++ [48] = digL d n ++ List.replicate ((X + 1 - (n : Int)).toNat + 1) 48 := by rw [List.replicate_succ', List.append_assoc]
            rw [e3, dval_trail, dval_digL hd, decRnd_pow]
            have e4 : -((([48] : List Int).length : Nat) : Int) + (((X + 1 - (n : Int)).toNat + 1 : Nat) : Int) = -q := by
              simp
              omega
            rw [e4]
            exact hb

end Go.Proofs.YtamdnnkdnhkghaaGreatDoor

namespace Go.Proofs.YtamdnnkdnhkghaaGreatDoor

open Go Go.RowKit

set_option linter.unusedVariables false

theorem bs_strL {L : List Int} (h : ∀ z ∈ L, 0 ≤ z ∧ z < 256) : bs (strL L) = L := by
  unfold strL
  rw [bs_of (l := txtB L) rfl]
  exact txtB_back h

theorem hex_no {L : List Int} (h : ∀ z ∈ L, z ≠ 120 ∧ z ≠ 88) : isHexP L = false := by
  unfold isHexP
  by_cases hl : 1 < L.length
  · have := h _ (getD_mem (l := L) (k := 1) hl)
    have e1 : (L.getD 1 0 == 120) = false := by rw [beq_eq_false_iff_ne]; exact this.1
    have e2 : (L.getD 1 0 == 88) = false := by rw [beq_eq_false_iff_ne]; exact this.2
    rw [e1, e2]
    simp
  · rw [decide_eq_false hl]
    rfl

/-- What a text reads as. -/
theorem pnr_of {L : List Int} {r r' : Value} (hb : ∀ z ∈ L, 0 ≤ z ∧ z < 256) (hx : ∀ z ∈ L, z ≠ 120 ∧ z ≠ 88) (hl : L.length ≤ 100) (h : DecR L r) (h' : PNR (strL L) r') : r' = r := by
  have hp : PNR (strL L) r := by
    unfold PNR
    rw [if_neg (by rw [strL_size]; omega), bs_strL hb, hex_no hx, if_neg (by decide)]
    exact h
  exact h'.unique hp

theorem FT_mem {d n : Nat} {X : Int} (h1 : -900 ≤ X) (h2 : X ≤ 900) (hn : 1 ≤ n) : ∀ z ∈ FT d n X, (48 ≤ z ∧ z ≤ 57) ∨ z = 46 ∨ z = 101 ∨ z = 43 ∨ z = 45 := by
  intro z hz
  unfold FT at hz
  split at hz
  · unfold eTxt at hz
    rw [List.mem_append, List.mem_append] at hz
    rcases hz with (hz | hz) | hz
    · rcases mantL_byte z hz with g | g
      · exact .inl g
      · exact .inr (.inl g)
    · simp at hz
      rcases hz with g | g
      · exact .inr (.inr (.inl g))
      · split at g
        · exact .inr (.inr (.inr (.inr g)))
        · exact .inr (.inr (.inr (.inl g)))
    · exact .inl (expL_byte (by omega) z hz)
  · unfold plainL at hz
    split at hz
    · rw [List.mem_append, List.mem_append] at hz
      rcases hz with (hz | hz) | hz
      · simp at hz; omega
      · have := List.eq_of_mem_replicate hz; omega
      · exact .inl (digL_byte z hz)
    · split at hz
      · rw [List.mem_append, List.mem_append] at hz
        rcases hz with (hz | hz) | hz
        · exact .inl (digL_byte z (List.mem_of_mem_take hz))
        · simp at hz; omega
        · exact .inl (digL_byte z (List.mem_of_mem_drop hz))
      · rw [List.mem_append, List.mem_append] at hz
        rcases hz with (hz | hz) | hz
        · exact .inl (digL_byte z hz)
        · have := List.eq_of_mem_replicate hz; omega
        · simp at hz; omega

theorem MagT.mem {r c : Nat} {L : List Int} (hc : c = 1074) (hr : r < infW) (h : MagT r c L) : ∀ z ∈ L, (48 ≤ z ∧ z ≤ 57) ∨ z = 46 ∨ z = 101 ∨ z = 43 ∨ z = 45 := by
  rcases h with ⟨_, rfl⟩ | ⟨h0, n, d, q, hf, rfl⟩
  · intro z hz; simp at hz; omega
  · have := hf.range hc h0 hr
    exact FT_mem this.1 this.2 hf.n1

theorem MagT.short {r c : Nat} {L : List Int} (h : MagT r c L) : 0 < L.length ∧ L.length ≤ 99 := by
  rcases h with ⟨_, rfl⟩ | ⟨_, n, d, q, hf, rfl⟩
  · decide
  · have h1 := hf.n1
    have h2 := hf.n17
    unfold FT
    split
    · have := eTxt_len (d := d) (X := (n : Int) - 1 - q) h1 h2
      refine ⟨?_, by omega⟩
      unfold eTxt
      simp
      omega
    · rename_i hX
      unfold plainL
      split
      · simp [digL_len]; omega
      · split
        · simp [digL_len]; omega
        · simp [digL_len]; omega

theorem decL_mem (k : Nat) : ∀ z ∈ decL k, 48 ≤ z ∧ z ≤ 57 := by
  induction k using Nat.strongRecOn with
  | _ k ih =>
    intro z hz
    by_cases h : k < 10
    · rw [decL_small h] at hz
      simp at hz
      omega
    · rw [decL_step h, List.mem_append] at hz
      rcases hz with hz | hz
      · exact ih (k / 10) (by omega) z hz
      · simp at hz; omega

theorem dval_decL (k : Nat) : dval (decL k) = k := by
  induction k using Nat.strongRecOn with
  | _ k ih =>
    by_cases h : k < 10
    · rw [decL_small h]
      simp [dval]
      omega
    · rw [decL_step h, dval_snoc, ih (k / 10) (by omega)]
      omega

theorem decL_ne (k : Nat) : decL k ≠ [] := by rw [decL_pre]; simp

/-- A text's first letter. -/
def headIs (t : ByteArray) (z : Int) : Prop := ∃ h : 0 < t.size, ((t[0]'h).toNat : Int) = z

theorem head_strL {z : Int} {L : List Int} (hz : 0 ≤ z ∧ z < 256) : headIs (strL (z :: L)) z := by
  have h : 0 < (strL (z :: L)).size := by rw [strL_size]; simp
  refine ⟨h, ?_⟩
  have e : (strL (z :: L))[0]'h = UInt8.ofNat z.toNat := by
    show ((txtB (z :: L)).toArray)[0]'(by simp [txtB]) = _
    simp [txtB]
  rw [e]
  simp
  omega

theorem itoa_neg {i : Int} (h : i < 0) : headIs ⟨(Lib.itoa i).toArray⟩ 45 := by
  have e : (⟨(Lib.itoa i).toArray⟩ : ByteArray) = ⟨(45 :: Lib.decDigits i.natAbs).toArray⟩ := by
    unfold Lib.itoa
    rw [if_pos h]
  rw [e]
  exact ⟨by show 0 < (45 :: Lib.decDigits i.natAbs).toArray.size; simp, rfl⟩

theorem numT_size {f : Bool} {i u : Int} {t : ByteArray} (hok : NumOk f i u) (h : NumT f i u t) : 0 < t.size ∧ t.size ≤ 100 := by
  unfold NumT at h
  cases f with
  | false =>
    rw [if_neg (by decide)] at h
    subst h
    by_cases hn : i < 0
    · have e : Lib.itoa i = 45 :: Lib.decDigits i.natAbs := by unfold Lib.itoa; rw [if_pos hn]
      have hl := decL_len (u := i.natAbs) (k := 20) (by have := hok.1; omega) (by omega)
      unfold decL at hl
      rw [List.length_map] at hl
      rw [e]
      show 0 < (45 :: Lib.decDigits i.natAbs).toArray.size ∧ (45 :: Lib.decDigits i.natAbs).toArray.size ≤ 100
      simp
      omega
    · obtain ⟨k, rfl⟩ : ∃ k : Nat, i = k := ⟨i.toNat, by omega⟩
      have hl := decL_len (u := k) (k := 20) (by have := hok.2.1; omega) (by omega)
      have hp : 0 < (decL k).length := List.length_pos_iff.2 (decL_ne k)
      rw [itoa_strL, strL_size]
      omega
  | true =>
    rw [if_pos rfl] at h
    obtain ⟨s, r, _, _, c, _, hT⟩ := h
    rcases hT with ⟨_, rfl⟩ | ⟨_, rfl⟩ | ⟨_, L, hL, rfl⟩
    · exact ⟨by decide, by decide⟩
    · cases s <;> exact ⟨by decide, by decide⟩
    · have := hL.short
      rw [strL_size, List.length_append]
      have : (sgL s).length ≤ 1 := by cases s <;> decide
      omega

/-- What is written of a number reads as it. -/
theorem num_reads {f : Bool} {i u : Int} {t : ByteArray} {r : Value} (hok : NumOk f i u) (hT : NumT f i u t) (hneg : ¬ headIs t 45) (hinf : t ≠ ⟨#[105, 110, 102]⟩) (hnan : t ≠ ⟨#[110, 97, 110]⟩) (h : PNR t r) :
    r = .tuple #[.agg #[.bool f, .int .i64 i, .int .u64 u], .bool true] := by
  obtain ⟨o1, o2, o3, o4, o5, o6⟩ := hok
  unfold NumT at hT
  cases f with
  | false =>
    rw [if_neg (by decide)] at hT
    subst hT
    have hi : ¬ i < 0 := fun hn => hneg (itoa_neg hn)
    obtain ⟨k, rfl⟩ : ∃ k : Nat, i = k := ⟨i.toNat, by omega⟩
    have hl := decL_len (u := k) (k := 20) (by omega) (by omega)
    rw [itoa_strL] at h
    have hd := decR_int (decL_mem k) (decL_ne k) (by rw [dval_decL]; omega)
    have hr := pnr_of (fun z hz => by have := decL_mem k z hz; omega) (fun z hz => by have := decL_mem k z hz; omega) (by omega) hd h
    rw [hr, dval_decL, o6 rfl]
    rfl
  | true =>
    rw [if_pos rfl] at hT
    obtain ⟨s, q, hu, hq, c, hc, hT⟩ := hT
    rcases hT with ⟨_, rfl⟩ | ⟨_, rfl⟩ | ⟨hlt, L, hL, rfl⟩
    · exact absurd rfl hnan
    · cases s with
      | false => exact absurd rfl hinf
      | true => exact absurd (head_strL (by omega)) hneg
    · cases s with
      | true => exact absurd (head_strL (L := L) (by omega)) hneg
      | false =>
        have hd := decR_mag hc hlt hL
        have hm := hL.mem hc hlt
        have hs := hL.short
        have hr := pnr_of (L := L) (fun z hz => by have := hm z hz; omega) (fun z hz => by have := hm z hz; omega) (by omega) hd h
        rw [hr, hu, o5 rfl]
        rfl

end Go.Proofs.YtamdnnkdnhkghaaGreatDoor

namespace Go.Proofs.YtamdnnkdnhkghaaGreatDoor

open Go Go.RowKit

set_option linter.unusedVariables false

theorem list_inf : (ByteArray.mk #[105, 110, 102]).toList = [105, 110, 102] := by kernel_rfl

theorem list_nan : (ByteArray.mk #[110, 97, 110]).toList = [110, 97, 110] := by kernel_rfl

set_option maxHeartbeats 3200000 in
set_option maxRecDepth 100000 in
theorem ftlaw_any (v : Value) (n : Nat) (w : World) (hC : CodeAt w.heap.size w v n) (hF : FE w) :
    Calls Tryz.prog 4 #[v] w fun e w' => e = .returned (.bool true) ∧ Below w.heap.size w w' := by
  have HC := hide hC
  have HD := hide (fun hn => ldraw_any v n w hC hn)
  have HF := hide hF
  have hlen : ∃ a cap, v = .slice a n cap := by
    rcases hC with ⟨rfl, a, cap, rfl⟩ | ⟨b, o, cap, rfl, _⟩
    · exact ⟨a, cap, rfl⟩
    · exact ⟨_, cap, rfl⟩
  obtain ⟨a, cap, rfl⟩ := hlen
  clear hC hF
  by_cases hn : n ≤ 1048576
  · have HD := hide (HD.out hn)
    go_enter Tryz.func4, Tryz.ntmps4
    go_wp2_with fail
    refine HD.out.mono ?_
    rintro e w1 ⟨S, rfl, hd1⟩
    have Hd1 := hide hd1
    have HL := hide (lnumber_any w.heap.size S w1 hd1.1)
    clear hd1 HD
    go_wp2_with fail
    refine HL.out.mono ?_
    rintro e w2 ⟨f, i, u, rfl, hok, hd2⟩
    have Hd2 := hide (Hd1.out.2.1.trans hd2.2.1)
    have Hok := hide hok
    obtain ⟨o1, o2, o3, o4, _, _⟩ := hok
    clear hd2 HL
    have HFN := hide (fun w3 (hb : Below w.heap.size w w3) => fnum_any f i u w3 o1 o2 o3 o4 (HF.out.below hb))
    have HSN := hide (fun w3 => sfn_any f i u (NumT f i u) w3 (fun w => snum_any f i u w o1 o2 o3 o4))
    obtain ⟨W2, hW2⟩ : ∃ W2, W2 = w2.alloc (.cells #[.bool f, .int .i64 i, .int .u64 u] 26) := ⟨_, rfl⟩
    have HB2 : Hid (Below w.heap.size w W2) := hide (by rw [hW2]; exact Hd2.out.alloc Hd2.out.size _)
    have HC2 : Hid (∀ w3, Below W2.heap.size W2 w3 → w3.cell? ⟨w2.heap.size, 0, none⟩ = some (.bool f) ∧ w3.cell? ⟨w2.heap.size, 1, none⟩ = some (.int .i64 i) ∧ w3.cell? ⟨w2.heap.size, 2, none⟩ = some (.int .u64 u)) := hide (fun w3 hb => by
      subst hW2
      exact ⟨(hb.cell (p := ⟨w2.heap.size, 0, none⟩) (by simp)).trans (by simp), (hb.cell (p := ⟨w2.heap.size, 1, none⟩) (by simp)).trans (by simp), (hb.cell (p := ⟨w2.heap.size, 2, none⟩) (by simp)).trans (by simp)⟩)
    have HFE := HF
    clear Hd1 HF
    go_wp2_with fail
    rw [← hW2]
    refine (HFN.out _ HB2.out).mono ?_
    rintro e w3 ⟨t, rfl, ht, hb3⟩
    have Hb3 := hide hb3
    have Ht := hide ht
    have Hsz := hide (numT_size Hok.out ht)
    obtain ⟨c0, c1, c2⟩ := HC2.out w3 hb3
    clear hb3 ht o1 o2 o3 o4 hW2 Hd2
    go_wp2_with fail
    refine (HSN.out _).mono ?_
    rintro e w4 ⟨t', rfl, ht', hb4⟩
    obtain rfl : t = t' := Ht.out.unique ht'
    have Hb4 := hide (Hb3.out.trans (hb4.mono Hb3.out.size))
    have hsz := Hsz.out.1
    have hsz2 := Hsz.out.2
    have HbW := hide (HB2.out.trans (Hb4.out.mono HB2.out.size))
    clear hb4 ht' c0 c1 c2
    by_cases h45 : ((t[0]'hsz).toNat : Int) = 45
    · go_wp2
      go_ret
      exact ⟨rfl, HbW.out⟩
    · have e45 : (((t[0]'hsz).toNat : Int) == 45) = false := by rw [beq_eq_false_iff_ne]; exact h45
      by_cases hinf : t.toList = [105, 110, 102]
      · have einf : (t.toList == [105, 110, 102]) = true := by rw [hinf]; rfl
        have Hinf := hide hinf
        clear hinf
        go_wp2
        go_ret
        exact ⟨rfl, HbW.out⟩
      · have einf : (t.toList == [105, 110, 102]) = false := by rw [beq_eq_false_iff_ne]; exact hinf
        by_cases hnan : t.toList = [110, 97, 110]
        · have enan : (t.toList == [110, 97, 110]) = true := by rw [hnan]; rfl
          have Hnan := hide hnan
          clear hnan
          go_wp2
          go_ret
          exact ⟨rfl, HbW.out⟩
        · have enan : (t.toList == [110, 97, 110]) = false := by rw [beq_eq_false_iff_ne]; exact hnan
          have HR := hide (fun r hr => num_reads Hok.out Ht.out (r := r) (fun ⟨h, e⟩ => h45 e) (fun e => hinf (by rw [e]; exact list_inf)) (fun e => hnan (by rw [e]; exact list_nan)) hr)
          obtain ⟨G, o, PP, po, C, co, ev, m, hE⟩ := (HFE.out.below HbW.out).e
          have HP := hide (impl_parse idx_any t G o PP po C co ev m w4 (by omega) hE)
          clear hE h45 hinf hnan
          go_wp2_with fail
          refine HP.out.mono ?_
          rintro e w5 ⟨r, rfl, hr, hb5⟩
          have hrr := HR.out r hr
          subst hrr
          have Hb5 := hide (HbW.out.trans (hb5.mono HbW.out.size))
          have hb6 := Hb4.out.trans (hb5.mono Hb4.out.size)
          obtain ⟨c0, c1, c2⟩ := HC2.out (w5.alloc (.cells #[.bool f, .int .i64 i, .int .u64 u] 26)) (hb6.alloc hb6.size _)
          clear hb5 hr HP HR hb6
          go_wp2
          go_ret
          refine ⟨?_, Hb5.out.alloc Hb5.out.size _⟩
          rfl
  · go_enter Tryz.func4, Tryz.ntmps4
    go_wp2
    go_ret
    exact ⟨rfl, Below.refl _ _⟩

end Go.Proofs.YtamdnnkdnhkghaaGreatDoor

namespace Go.Proofs.YtamdnnkdnhkghaaGreatDoor

open Go Go.RowKit Go.Lib

set_option linter.unusedVariables false

section

variable {H : Type} {enc : TypeId × Value → H} {P : Program} {w : World} {base : Nat} {sp : Nat → Bool} {held : Bool} {fuel : Nat}

theorem trod_float {t : TypeId} {k : FloatKind} {cs : List Value} {x : DataW H × List MemPlace} (ht : P.underlying t = some (.float k)) (h : DataW.trod enc P w base sp held fuel t cs = some x) : ∃ n, cs = [.float k n] ∧ x = (.lit (.float k n), []) := by
  cases fuel with
  | zero => simp [DataW.trod] at h
  | succ fuel =>
    unfold DataW.trod at h
    rw [ht] at h
    split at h <;> simp_all

/-- The elements of a listed slice: where they lie, what each reads as. -/
theorem slice_elems {t e : TypeId} {cs : List Value} {ds : List (DataW H)} {p : List MemPlace} (ht : P.underlying t = some (.slice e)) (hsp : ∀ b, sp b = true) (h : DataW.trod enc P w base sp held fuel t cs = some (.slice ds [], p)) :
    ∃ (a : Addr) (n : Nat), cs = [.slice (some a) ds.length ds.length] ∧ ∀ i d, ds[i]? = some d → ∃ cs' q, w.cells? base (a.add (i * P.cellsOf e)) (P.cellsOf e) = some cs' ∧ DataW.trod enc P w base sp held n e cs' = some (d, q) := by
  rcases DataW.trod_slice ht h with ⟨_, h2⟩ | ⟨a, len, cap, elems, rest, n, h1, h2, h3, h4, h5, h6, h7, h8, h9, h10⟩
  · cases h2
  · have e1 : elems.map (·.1) = ds := by have := congrArg Prod.fst h3; simp at this; exact this.1.symm
    have e2 : rest = [] := by have := congrArg Prod.fst h3; simp at this; exact this.2
    have e3 := (h9 (hsp _)).1
    rw [e2] at e3
    have hlen : ds.length = len := by rw [← e1, List.length_map]; exact h7
    have hcap : cap = len := by simp at e3; omega
    refine ⟨a, n, by rw [h2, hcap, hlen], fun i d hd => ?_⟩
    have hi : i < len := by
      have := (List.getElem?_eq_some_iff.1 hd).1
      omega
    have h11 := h8 i hi
    rw [← e1, List.getElem?_map] at hd
    cases he : elems[i]? with
    | none => rw [he] at hd; cases hd
    | some y =>
      rw [he] at hd h11
      obtain ⟨cs', hc1, hc2⟩ := Option.bind_eq_some_iff.1 h11
      refine ⟨cs', y.2, hc1, ?_⟩
      rw [hc2]
      have : y.1 = d := by simpa using hd
      rw [← this]

end

theorem cells_at {w : World} {base n : Nat} {a : Addr} {cs : List Value} (h : w.cells? base a n = some cs) {i : Nat} (hi : i < n) : w.cell? (a.add i) = cs[i]? := by
  unfold World.cells? at h
  split at h
  · obtain ⟨b, h1, h2⟩ := mapM_at h i i (by simp [hi])
    rw [h1, h2]
  · cases h

theorem cell_lt {w : World} {b o : Nat} {sp : Option Nat} {v : Value} (h : w.cell? ⟨b, o, sp⟩ = some v) : b < w.heap.size := by
  rcases Nat.lt_or_ge b w.heap.size with g | g
  · exact g
  · exfalso
    unfold World.cell? at h
    rw [Array.getElem?_eq_none g] at h
    cases h

theorem add_none (b o k : Nat) : (⟨b, o, none⟩ : Addr).add k = ⟨b, o + k, none⟩ := by
  unfold Addr.add
  split
  · rename_i h; subst h; rfl
  · rfl

theorem rd_optimize {L : List (String × DataW Unit)} {W : World} (h : laidMet Tryz.prog L W) (hm : ("internal/strconv.optimize", Rows.laid_internal_strconv_optimize) ∈ L)  : W.cell? ⟨12, 0, none⟩ = some (.bool true) := by
  obtain ⟨g, t, cs, fuel, p, hg, hty, hvar, hd⟩ := laidMet.reads h (n := "internal/strconv.optimize") (d := Rows.laid_internal_strconv_optimize) hm
  obtain rfl := Option.some.inj ((show Tryz.prog.globalNamed "internal/strconv.optimize" = some 12 by kernel_rfl).symm.trans hg)
  obtain rfl := Option.some.inj ((show (Tryz.prog.globals[12]?).map (·.type) = some 4 by kernel_rfl).symm.trans hty)
  obtain ⟨b, h1, h2⟩ := DataW.trod_bool Tryz.underlying4 hd
  have hb : b = true := by
    have := congrArg Prod.fst h2
    unfold Rows.laid_internal_strconv_optimize at this
    simp at this
    exact this
  rw [World.var?_cell hg hvar 0, ← Array.getElem?_toList, h1, hb]
  rfl

theorem rd_info {L : List (String × DataW Unit)} {W : World} (h : laidMet Tryz.prog L W) (hm : ("internal/strconv.float64info", Rows.laid_internal_strconv_float64info) ∈ L)  : W.cell? ⟨14, 0, none⟩ = some (.int .u64 52) ∧ W.cell? ⟨14, 1, none⟩ = some (.int .u64 11) ∧ W.cell? ⟨14, 2, none⟩ = some (.int .i64 (-1023)) := by
  obtain ⟨g, t, cs, fuel, p, hg, hty, hvar, hd⟩ := laidMet.reads h (n := "internal/strconv.float64info") (d := Rows.laid_internal_strconv_float64info) hm
  obtain rfl := Option.some.inj ((show Tryz.prog.globalNamed "internal/strconv.float64info" = some 14 by kernel_rfl).symm.trans hg)
  obtain rfl := Option.some.inj ((show (Tryz.prog.globals[14]?).map (·.type) = some 238 by kernel_rfl).symm.trans hty)
  obtain ⟨xs, n, rfl, hx, hl, hxl, hall⟩ := DataW.trod_struct Tryz.underlying238 hd
  have hxs : xs.map (·.1) = [.lit (.int .u64 52), .lit (.int .u64 11), .lit (.int .i64 (-1023))] := by
    have := congrArg Prod.fst hx
    unfold Rows.laid_internal_strconv_float64info at this
    simp at this
    exact this.symm
  have c47 : Tryz.prog.cellsOf 84 = 1 := by kernel_rfl
  have c3 : Tryz.prog.cellsOf 3 = 1 := by kernel_rfl
  have f0 : DataW.trod (fun _ => ()) Tryz.prog W 0 (fun _ => true) false n 84 ((cs.toList.drop 0).take (Tryz.prog.cellsOf 84)) = xs[0]? := hall 0 _ rfl
  have f1 : DataW.trod (fun _ => ()) Tryz.prog W 0 (fun _ => true) false n 84 ((cs.toList.drop 1).take (Tryz.prog.cellsOf 84)) = xs[1]? := hall 1 _ rfl
  have f2 : DataW.trod (fun _ => ()) Tryz.prog W 0 (fun _ => true) false n 3 ((cs.toList.drop 2).take (Tryz.prog.cellsOf 3)) = xs[2]? := hall 2 _ rfl
  rw [c47] at f0 f1
  rw [c3] at f2
  have g0 := congrArg (·[0]?) hxs
  have g1 := congrArg (·[1]?) hxs
  have g2 := congrArg (·[2]?) hxs
  simp only [List.getElem?_map] at g0 g1 g2
  obtain ⟨y0, hy0, e0⟩ := Option.map_eq_some_iff.1 g0
  obtain ⟨y1, hy1, e1⟩ := Option.map_eq_some_iff.1 g1
  obtain ⟨y2, hy2, e2⟩ := Option.map_eq_some_iff.1 g2
  rw [hy0] at f0
  rw [hy1] at f1
  rw [hy2] at f2
  obtain ⟨n0, k0, l0, _⟩ := DataW.trod_int Tryz.underlying84 f0
  obtain ⟨n1, k1, l1, _⟩ := DataW.trod_int Tryz.underlying84 f1
  obtain ⟨n2, k2, l2, _⟩ := DataW.trod_int Tryz.underlying3 f2
  rw [l0] at e0
  rw [l1] at e1
  rw [l2] at e2
  simp at e0 e1 e2
  subst e0 e1 e2
  refine ⟨?_, ?_, ?_⟩
  · rw [World.var?_cell hg hvar 0, ← Array.getElem?_toList]
    have := congrArg (·[0]?) k0
    simpa [List.getElem?_take, List.getElem?_drop] using this
  · rw [World.var?_cell hg hvar 1, ← Array.getElem?_toList]
    have := congrArg (·[0]?) k1
    simpa [List.getElem?_take, List.getElem?_drop] using this
  · rw [World.var?_cell hg hvar 2, ← Array.getElem?_toList]
    have := congrArg (·[0]?) k2
    simpa [List.getElem?_take, List.getElem?_drop] using this

theorem rd_powtab {L : List (String × DataW Unit)} {W : World} (h : laidMet Tryz.prog L W) (hm : ("internal/strconv.powtab", Rows.laid_internal_strconv_powtab) ∈ L)  : ∃ P po, W.cell? ⟨18, 0, none⟩ = some (.slice (some ⟨P, po, none⟩) 9 9) ∧ P < W.heap.size ∧ ∀ k, k < 9 → W.cell? ⟨P, po + k, none⟩ = some (.int .i64 (powRow.getD k 0 : Nat)) := by
  obtain ⟨g, t, cs, fuel, p, hg, hty, hvar, hd⟩ := laidMet.reads h (n := "internal/strconv.powtab") (d := Rows.laid_internal_strconv_powtab) hm
  obtain rfl := Option.some.inj ((show Tryz.prog.globalNamed "internal/strconv.powtab" = some 18 by kernel_rfl).symm.trans hg)
  obtain rfl := Option.some.inj ((show (Tryz.prog.globals[18]?).map (·.type) = some 121 by kernel_rfl).symm.trans hty)
  have hdat : (Rows.laid_internal_strconv_powtab : DataW Unit) = .slice (powRow.map fun z => .lit (.int .i64 (z : Nat))) [] := rfl
  rw [hdat] at hd
  obtain ⟨a, n, h1, h2⟩ := slice_elems Tryz.underlying121 (fun _ => rfl) hd
  have c3 : Tryz.prog.cellsOf 3 = 1 := by kernel_rfl
  rw [c3] at h2
  have key : ∀ k, k < 9 → W.cell? (a.add (k * 1)) = some (.int .i64 (powRow.getD k 0 : Nat)) := by
    intro k hk
    obtain ⟨cs', q, h3, h4⟩ := h2 k (.lit (.int .i64 (powRow.getD k 0 : Nat))) (by
      have : ∀ k : Fin 9, (powRow.map fun z => (DataW.lit (.int .i64 ((z : Nat) : Int)) : DataW Unit))[k.val]? = some (.lit (.int .i64 (powRow.getD k.val 0 : Nat))) := by
        intro k
        have hk : k.val < powRow.length := k.isLt
        rw [List.getElem?_map, List.getElem?_eq_getElem hk, List.getD_eq_getElem?_getD, List.getElem?_eq_getElem hk]
        rfl
      exact this ⟨k, hk⟩)
    obtain ⟨m, k1, l1, _⟩ := DataW.trod_int Tryz.underlying3 h4
    have := congrArg Prod.fst l1
    simp at this
    have h5 := cells_at h3 (i := 0) (by omega)
    rw [k1, ← this] at h5
    exact h5
  obtain ⟨P, po, sp⟩ := a
  have hsp : sp = none := cell_spot (key 0 (by omega))
  subst hsp
  refine ⟨P, po, ?_, cell_lt (key 0 (by omega)), fun k hk => ?_⟩
  · rw [World.var?_cell hg hvar 0, ← Array.getElem?_toList, h1]; rfl
  · have := key k hk
    rw [Nat.mul_one, add_none] at this
    exact this

end Go.Proofs.YtamdnnkdnhkghaaGreatDoor
