import Derived.Test.YtmndipnifjpdjaaGreatDoorQ38
import Derived.Test.YtmndipnifjpdjaaGreatDoorQ40
import Derived.Test.YtmndipnifjpdjaaGreatDoorQ45
import Derived.Test.YtmndipnifjpdjaaGreatDoorQ41
import Derived.BigRegion
import Derived.Deep.RegionWith
import Derived.Deep.QuietTactic
import Derived.BigQuiet
import Derived.StillTailTactics
namespace Go.Proofs.YtmndipnifjpdjaaGreatDoor
open Go Go.RowKit
set_option linter.unusedVariables false
theorem numB_head (f : Nat → Int) : numB f = isDig (if f 0 = 46 then f 1 else f 0) := by
  unfold numB
  by_cases h : f 0 = 46
  · rw [if_pos h, h]; simp [isDig]
  · rw [if_neg h, bq_f h]; simp
theorem beginsNumeral_any (t : ByteArray) (w : World) (ht : t.size ≤ 32768) :
    Calls Tryz.prog 104 #[.string t] w fun e w' => e = .returned (.bool (numB (hb t))) ∧ w' = w := by
  have hnh := numB_head (hb t)
  have HNH := hide hnh
  clear hnh
  go_enter Tryz.func104, Tryz.ntmps104
  go_wp2_with fail
  refine (Tryz.strings_TrimPrefix t ⟨#[46]⟩ _).mono ?_
  rintro e w1 ⟨rfl, hw1⟩
  rw [hw1]
  clear hw1 w1
  obtain ⟨D, hD⟩ : ∃ D : ByteArray, D = ⟨(Lib.trimPrefix t.data.toList (ByteArray.mk #[46]).data.toList).toArray⟩ := ⟨_, rfl⟩
  have hd0 : hb D 0 = if hb t 0 = 46 then hb t 1 else hb t 0 := by
    have hp := pre1 t 46 (by decide)
    have el : (ByteArray.mk #[46]).data.toList = [46] := rfl
    rw [el] at hD
    unfold Lib.trimPrefix at hD
    by_cases h : hb t 0 = 46
    · rw [hp.2 h, if_pos rfl] at hD
      rw [if_pos h, hD]
      exact hb_drop t 1 0
    · have : Lib.hasPrefix t.data.toList [46] = false := by
        cases hh : Lib.hasPrefix t.data.toList [46] with
        | false => rfl
        | true => exact absurd (hp.1 hh) h
      rw [this] at hD
      rw [if_neg h, hD]
      simp
  have hDs : D.size ≤ t.size := by
    rw [hD, Lib.size_mk, size_list t]
    unfold Lib.trimPrefix
    split
    · simp
    · exact Nat.le_refl _
  have HD0 : Hid (numB (hb t) = isDig (hb D 0)) := hide (by rw [HNH.out, hd0])
  rw [← hD]
  clear hD hd0 HNH
  have hne := isEmpty_size D
  by_cases h : 0 < D.size
  · rw [decide_eq_true h] at hne
    have hix := fun w' : World => idx_str D (i := 0) w' (by omega) (by omega)
    rw [show (0 : Int).toNat = 0 from rfl] at hix
    have hr := hb_rng D 0
    go_wp2_with fail
    refine (isDigit_any (hb D 0) _).mono ?_
    rintro e w1 ⟨rfl, hw1⟩
    rw [hw1]
    clear hw1 w1
    go_wp2
    go_ret
    exact ⟨by rw [HD0.out]; rfl, rfl⟩
  · rw [decide_eq_false h] at hne
    have HZ : Hid (isDig (hb D 0) = false) := hide (by rw [hb_out (by omega)]; rfl)
    go_wp2
    go_ret
    exact ⟨by rw [HD0.out, HZ.out]; rfl, rfl⟩
def EnvL (w : World) : Prop := ∃ G o P po C co ev m, Env w G o P po C co ev m
theorem EnvL.low {w w' : World} (h : EnvL w) (hb : Below w.heap.size w w') : EnvL w' := by
  obtain ⟨G, o, P, po, C, co, ev, m, h⟩ := h
  exact ⟨G, o, P, po, C, co, ev, m, h.below hb⟩
theorem EnvL.parse {w : World} (h : EnvL w) (s : ByteArray) (hs : s.size ≤ 32768) : Calls Tryz.prog 145 #[.string s] w fun e w' => ∃ r, e = .returned r ∧ PNR s r ∧ Below w.heap.size w w' := by
  obtain ⟨G, o, P, po, C, co, ev, m, h⟩ := h
  exact impl_parse idx_any s G o P po C co ev m w (by omega) h
def ReadNumR (t : ByteArray) (r : Value) : Prop :=
  ∃ (e : Nat) (fl : Bool) (i b : Int), NumE (hb t) e ∧ e ≤ t.size ∧ ((PNR (t.extract 0 e) (.tuple #[numV fl i b, .bool true]) ∧ r = pieceV (if fl = true then 4 else 3) ⟨#[]⟩ i b ((e : Nat) : Int) 0 0 0) ∨ (PNR (t.extract 0 e) (.tuple #[numV fl i b, .bool false]) ∧ r = pieceV 0 ⟨#[]⟩ 0 0 0 5 0 0))
theorem slc_upto (s : ByteArray) {j : Int} (w : World) (h0 : 0 ≤ j) (h1 : j ≤ s.size) : (Instr.slice 9 (.string s) none (some (.int .i64 j)) none).run Tryz.prog w = .ok (.string (s.extract 0 j.toNat)) w :=
  run_slice_string_h w 9 s Tryz.underlying9 .i64 j h0 h1
set_option maxHeartbeats 3200000 in
set_option maxRecDepth 100000 in
theorem readNumeral_any (t : ByteArray) (w : World) (ht : t.size ≤ 32768) (hE : EnvL w) :
    Calls Tryz.prog 105 #[.string t] w fun e w' => ∃ r, e = .returned r ∧ ReadNumR t r ∧ Below w.heap.size w w' := by
  have HE := hide hE
  clear hE
  obtain ⟨B, hB⟩ : ∃ B, w.heap.size = B := ⟨_, rfl⟩
  have HB := hide hB
  have HPB : Hid (PBlock B pieceZ (w.alloc (.cells pieceZ 98))) := hide (by rw [← hB]; exact pblock_new w pieceZ)
  have HBl : Hid (Below B w (w.alloc (.cells pieceZ 98))) := hide ((Below.refl _ _).alloc (by omega) _)
  have HBl0 : Hid (Below w.heap.size w (w.alloc (.cells pieceZ 98))) := hide ((Below.refl _ _).alloc (by omega) _)
  clear hB
  go_enter Tryz.func105, Tryz.ntmps105
  go_wp2_with fail
  change Calls _ _ _ (w.alloc (.cells pieceZ 98)) _
  rw [HB.out]
  generalize hw0 : w.alloc (.cells pieceZ 98) = w0
  rw [hw0] at HPB HBl HBl0
  clear hw0
  refine (numeralLength_any t _ ht).mono ?_
  rintro e w1 ⟨q, rfl, hN, hq, hb1⟩
  have HN := hide hN
  have HP1 := hide (HPB.out.low hb1 HPB.out.lt)
  have HB1 := hide (HBl.out.trans (hb1.mono (by have := HPB.out.lt; omega)))
  have HE1 := hide ((HE.out.low HBl0.out).low hb1)
  clear hN hb1 HPB HBl HBl0 HE
  have hsl := fun w' : World => slc_upto t (j := (q : Int)) w' (by omega) (by omega)
  rw [show ((q : Int)).toNat = q by omega] at hsl
  go_wp2_with fail
  refine (HE1.out.parse (t.extract 0 q) (by rw [ByteArray.size_extract]; omega)).mono ?_
  rintro e w2 ⟨r, rfl, hr, hb2⟩
  obtain ⟨fl, i, b, ok, rfl, hf1, hf2⟩ := hr.form2
  have HR := hide hr
  have HP2 := hide (HP1.out.low hb2 HP1.out.lt)
  have HB2 := hide (HB1.out.trans (hb2.mono (by have := HP1.out.lt; omega)))
  clear hr hb2 HP1 HB1 HE1
  have HP3 := hide (HP2.out.low ((Below.refl w2.heap.size w2).alloc (Nat.le_refl _) (.cells #[.bool fl, .int .i64 i, .int .u64 b] 67)) HP2.out.lt)
  have HB3 := hide (HB2.out.alloc (by have := HP2.out.lt; omega) (.cells #[.bool fl, .int .i64 i, .int .u64 b] 67))
  unfold numV
  have hn3 := num_cells (w := w2) (a := .bool fl) (b := .int .i64 i) (c := .int .u64 b)
  have HN3 := hide hn3
  clear hn3
  rename_i K1 a1 K0 a0
  have HK := hide a1
  clear a1
  go_wp2
  obtain ⟨D, hD⟩ : ∃ D, w2.heap.size = D := ⟨_, rfl⟩
  rw [hD] at HN3 ⊢
  generalize hw3 : w2.alloc (.cells #[.bool fl, .int .i64 i, .int .u64 b] 67) = w3
  rw [hw3] at HN3 HP3 HB3
  clear hw3 hD
  refine HK.out _ _ ?_
  obtain ⟨n0, n1, n2⟩ := HN3.out
  obtain ⟨c0, c1, c2, c3, c4, c5, c6, c7, c8, c9, z0, z1, z2, z3, z4, z5, z6, z7, z8, z9⟩ := HP3.out.cells
  cases ok with
  | false =>
    go_wp2
    refine bodyPost_ret (v := pieceV 0 ⟨#[]⟩ 0 0 0 5 0 0) (by simp [results, Tryz.results105, go_sem, pieceV, c0, c1, c2, c3, c4, c5, c6, c7, c8, c9]) rfl ⟨_, rfl, ⟨q, fl, i, b, HN.out, hq, .inr ⟨HR.out, rfl⟩⟩, ?_⟩
    rw [HB.out]
    exact below_set10 HB3.out (Nat.le_refl _) _ _ _ _ _ _ _ _ _ _
  | true =>
    cases fl with
    | true =>
      obtain rfl := hf1 rfl
      go_wp2
      refine bodyPost_ret (v := pieceV 4 ⟨#[]⟩ 0 b ((q : Nat) : Int) 0 0 0) (by simp [results, Tryz.results105, go_sem, pieceV, c0, c1, c2, c3, c4, c5, c6, c7, c8, c9]) rfl ⟨_, rfl, ⟨q, true, 0, b, HN.out, hq, .inl ⟨HR.out, rfl⟩⟩, ?_⟩
      rw [HB.out]
      exact below_set10 HB3.out (Nat.le_refl _) _ _ _ _ _ _ _ _ _ _
    | false =>
      obtain rfl := hf2 rfl
      go_wp2
      refine bodyPost_ret (v := pieceV 3 ⟨#[]⟩ i 0 ((q : Nat) : Int) 0 0 0) (by simp [results, Tryz.results105, go_sem, pieceV, c0, c1, c2, c3, c4, c5, c6, c7, c8, c9]) rfl ⟨_, rfl, ⟨q, false, i, 0, HN.out, hq, .inl ⟨HR.out, rfl⟩⟩, ?_⟩
      rw [HB.out]
      exact below_set10 HB3.out (Nat.le_refl _) _ _ _ _ _ _ _ _ _ _
end Go.Proofs.YtmndipnifjpdjaaGreatDoor
namespace Go.Proofs.YtmndipnifjpdjaaGreatDoor
open Go Go.RowKit
set_option linter.unusedVariables false
def Sc (s : ByteArray) (T M p : Nat) (v : Value) (w : World) : Prop :=
  w.heap[T]? = some (.cells #[.string s, .map (some M), .int .i64 p, .int .i64 ((nlc s p : Int) + 1), v] 72 (0, 0))
structure ScC (s : ByteArray) (T M p : Nat) (v : Value) (w : World) : Prop where
  s0 : w.cell? ⟨T, 0, none⟩ = some (.string s)
  s1 : w.cell? ⟨T, 1, none⟩ = some (.map (some M))
  s2 : w.cell? ⟨T, 2, none⟩ = some (.int .i64 p)
  s3 : w.cell? ⟨T, 3, none⟩ = some (.int .i64 ((nlc s p : Int) + 1))
  s4 : w.cell? ⟨T, 4, none⟩ = some v
  x2 : w.frozen? ⟨T, 2, none⟩ = false
  x3 : w.frozen? ⟨T, 3, none⟩ = false
  x4 : w.frozen? ⟨T, 4, none⟩ = false
theorem Sc.cells {s : ByteArray} {T M p : Nat} {v : Value} {w : World} (h : Sc s T M p v w) : ScC s T M p v w := by
  unfold Sc at h
  constructor <;> simp [World.cell?, World.frozen?, h]
theorem Sc.lt {s : ByteArray} {T M p : Nat} {v : Value} {w : World} (h : Sc s T M p v w) : T < w.heap.size := by
  rcases Nat.lt_or_ge T w.heap.size with g | g
  · exact g
  · unfold Sc at h; rw [Array.getElem?_eq_none g] at h; cases h
theorem Sc.low {s : ByteArray} {T M p b : Nat} {v : Value} {w w' : World} (h : Sc s T M p v w) (hb : Below b w w') (hT : T < b) : Sc s T M p v w' := by
  unfold Sc
  rw [hb.block T hT]
  exact h
theorem sign_head : ∀ t ∈ signsL, isLet (hb t 0) = false ∧ 1 ≤ t.size := by decide +kernel
theorem word_head : ∀ t ∈ wordsL, isLet (hb t 0) = true := by decide +kernel
theorem ext0_head {t : ByteArray} {q : Nat} (h : 1 ≤ q) (hq : q ≤ t.size) : hb (t.extract 0 q) 0 = hb t 0 := by
  have := hb_part t (a := 0) (b := q) (j := 0) hq (by omega)
  rw [this]
theorem one_cell {w : World} {a : Value} (ty : TypeId) : (w.alloc (.cells #[a] ty)).cell? ⟨w.heap.size, 0, none⟩ = some a := by simp
set_option maxHeartbeats 3200000 in
set_option maxRecDepth 100000 in
theorem readName_any (s : ByteArray) (T M p : Nat) (v : Value) (t : ByteArray) (w : World) (ht : t.size ≤ 32768) (h0 : isLet (hb t 0) = true) (hS : Sc s T M p v w) (hM : FixMap M w) :
    Calls Tryz.prog 103 #[.pointer (some ⟨T, 0, none⟩), .string t] w fun e w' => ∃ q : Nat, RunP isLD (hb t) q ∧ 1 ≤ q ∧ q ≤ t.size ∧ e = .returned (pieceV (wKind (t.extract 0 q)) (t.extract 0 q) 0 0 ((q : Nat) : Int) 0 0 0) ∧ Below w.heap.size w w' := by
  have H0 := hide h0
  have HS := hide hS
  have HM := hide hM
  clear h0 hS hM
  obtain ⟨B, hB⟩ : ∃ B, w.heap.size = B := ⟨_, rfl⟩
  have HB := hide hB
  have HPB : Hid (PBlock B pieceZ (w.alloc (.cells pieceZ 98))) := hide (by rw [← hB]; exact pblock_new w pieceZ)
  have HBl : Hid (Below B w (w.alloc (.cells pieceZ 98))) := hide ((Below.refl _ _).alloc (by omega) _)
  clear hB
  go_enter Tryz.func103, Tryz.ntmps103
  go_wp2_with fail
  change Calls _ _ _ (w.alloc (.cells pieceZ 98)) _
  rw [HB.out]
  generalize hw0 : w.alloc (.cells pieceZ 98) = w0
  rw [hw0] at HPB HBl
  clear hw0
  refine (nameLength_any t _ ht).mono ?_
  rintro e w1 ⟨q, rfl, hR, hq, hb1⟩
  have HR := hide hR
  have hq1 : 1 ≤ q := by
    rcases Nat.eq_zero_or_pos q with z | z
    · subst z
      have := hR.2
      rw [isLD_t2 H0.out] at this
      cases this
    · exact z
  have HP1 := hide (HPB.out.low hb1 HPB.out.lt)
  have HB1 := hide (HBl.out.trans (hb1.mono (by have := HPB.out.lt; omega)))
  clear hR hb1 HPB HBl
  have hsl := fun w' : World => slc_upto t (j := (q : Int)) w' (by omega) (by omega)
  rw [show ((q : Int)).toNat = q by omega] at hsl
  obtain ⟨X, hX⟩ : ∃ X, t.extract 0 q = X := ⟨_, rfl⟩
  have hXs : X.size = q := by rw [← hX, ByteArray.size_extract]; omega
  have HX0 : Hid (isLet (hb X 0) = true) := hide (by rw [← hX, ext0_head hq1 hq]; exact H0.out)
  have HX := hide hX
  rw [hX] at hsl
  clear hX
  go_wp2_with fail
  refine (clone_any X _ (by omega)).mono ?_
  rintro e w2 ⟨rfl, hb2⟩
  have HP2 := hide (HP1.out.low hb2 HP1.out.lt)
  have HB2 := hide (HB1.out.trans (hb2.mono (by have := HP1.out.lt; omega)))
  clear hb2 HP1 HB1
  have hbw : Below w.heap.size w w2 := by rw [HB.out]; exact HB2.out
  obtain ⟨s0, s1, s2, s3, s4, x2, x3, x4⟩ := (HS.out.low hbw HS.out.lt).cells
  have HM2 := hide (HM.out.low hbw)
  clear hbw s0 s2 s3 s4 x2 x3 x4
  obtain ⟨c, ok, kd, hlk, hkd⟩ : ∃ (c : Int) (ok : Bool) (kd : Int), (Instr.lookup 44 (.map (some M)) (.string X) true).run Tryz.prog w2 = .ok (.tuple #[.agg #[.int .i64 c], .bool ok]) w2 ∧ ((ok = true ∧ c = 2 ∧ wKind X = 2) ∨ (ok = false ∧ wKind X = 1)) := by
    rcases fix_look HM2.out X (by omega) with ⟨h1, h2⟩ | ⟨h1, h2⟩ | ⟨h1, h2, c, h3⟩
    · have := (sign_head X h1).1
      rw [HX0.out] at this
      cases this
    · exact ⟨2, true, 2, h2, .inl ⟨rfl, rfl, by unfold wKind; rw [if_pos h1]⟩⟩
    · exact ⟨c, false, 1, h3, .inr ⟨rfl, by unfold wKind; rw [if_neg h2]⟩⟩
  have HKD := hide hkd
  clear hkd
  have HN3 := hide (one_cell (w := w2) (a := .int .i64 c) 77)
  have HP3 := hide (HP2.out.low ((Below.refl w2.heap.size w2).alloc (Nat.le_refl _) (.cells #[.int .i64 c] 77)) HP2.out.lt)
  have HB3 := hide (HB2.out.alloc (by have := HP2.out.lt; omega) (.cells #[.int .i64 c] 77))
  rename_i K1 a1 K0 a0
  have HK := hide a1
  clear a1
  go_wp2
  refine HK.out _ _ ?_
  refine wp_seq_k fun K2 h2 => ?_
  have H2 := hide h2
  clear h2
  go_wp2
  refine H2.out _ _ ?_
  refine wp_seq_k fun K3 h3 => ?_
  have H3 := hide h3
  clear h3
  rcases HKD.out with ⟨rfl, rfl, hk⟩ | ⟨rfl, hk⟩
  · have HKK := hide hk
    clear hk
    go_wp2
    obtain ⟨D, hD⟩ : ∃ D, w2.heap.size = D := ⟨_, rfl⟩
    rw [hD] at HN3 ⊢
    generalize hw3 : w2.alloc (.cells #[.int .i64 2] 77) = w3
    rw [hw3] at HN3 HP3 HB3
    clear hw3 hD hlk s1
    refine H3.out _ _ ?_
    have n0 := HN3.out
    obtain ⟨c0, c1, c2, c3, c4, c5, c6, c7, c8, c9, z0, z1, z2, z3, z4, z5, z6, z7, z8, z9⟩ := HP3.out.cells
    go_wp2
    refine bodyPost_ret (v := pieceV 2 X 0 0 ((q : Nat) : Int) 0 0 0) (by simp [results, Tryz.results103, go_sem, pieceV, c0, c1, c2, c3, c4, c5, c6, c7, c8, c9]) rfl ⟨q, HR.out, hq1, hq, by rw [HX.out, HKK.out], ?_⟩
    rw [HB.out]
    exact below_set10 HB3.out (Nat.le_refl _) _ _ _ _ _ _ _ _ _ _
  · have HKK := hide hk
    clear hk
    go_wp2
    obtain ⟨D, hD⟩ : ∃ D, w2.heap.size = D := ⟨_, rfl⟩
    rw [hD] at HN3 ⊢
    generalize hw3 : w2.alloc (.cells #[.int .i64 c] 77) = w3
    rw [hw3] at HN3 HP3 HB3
    clear hw3 hD hlk s1
    refine H3.out _ _ ?_
    have n0 := HN3.out
    obtain ⟨c0, c1, c2, c3, c4, c5, c6, c7, c8, c9, z0, z1, z2, z3, z4, z5, z6, z7, z8, z9⟩ := HP3.out.cells
    go_wp2
    refine bodyPost_ret (v := pieceV 1 X 0 0 ((q : Nat) : Int) 0 0 0) (by simp [results, Tryz.results103, go_sem, pieceV, c0, c1, c2, c3, c4, c5, c6, c7, c8, c9]) rfl ⟨q, HR.out, hq1, hq, by rw [HX.out, HKK.out], ?_⟩
    rw [HB.out]
    exact below_set10 HB3.out (Nat.le_refl _) _ _ _ _ _ _ _ _ _ _
end Go.Proofs.YtmndipnifjpdjaaGreatDoor
namespace Go.Proofs.YtmndipnifjpdjaaGreatDoor
open Go Go.RowKit
set_option linter.unusedVariables false
def ReadSignR (t : ByteArray) (r : Value) : Prop :=
  ∃ k : Nat, SignN t 0 k ∧ ((1 ≤ k ∧ k ≤ t.size ∧ r = pieceV 6 (t.extract 0 k) 0 0 ((k : Nat) : Int) 0 0 0) ∨ (k = 0 ∧ r = pieceV 0 ⟨#[]⟩ 0 0 0 2 0 0))
def NoSign (t : ByteArray) (k : Nat) : Prop := ∀ m, k < m → m ≤ 3 → m ≤ t.size → t.extract 0 m ∉ signsL
set_option maxHeartbeats 8000000 in
set_option maxRecDepth 100000 in
theorem readSign_any (s : ByteArray) (T M p : Nat) (v : Value) (t : ByteArray) (w : World) (ht : t.size ≤ 32768) (h0 : isLet (hb t 0) = false) (hS : Sc s T M p v w) (hM : FixMap M w) :
    Calls Tryz.prog 107 #[.pointer (some ⟨T, 0, none⟩), .string t] w fun e w' => ∃ r, e = .returned r ∧ ReadSignR t r ∧ Below w.heap.size w w' := by
  have H0 := hide h0
  have HS := hide hS
  have HM := hide hM
  clear h0 hS hM
  obtain ⟨B, hB⟩ : ∃ B, w.heap.size = B := ⟨_, rfl⟩
  have HB := hide hB
  have HPB : Hid (PBlock B pieceZ (w.alloc (.cells pieceZ 98))) := hide (by rw [← hB]; exact pblock_new w pieceZ)
  have HBl : Hid (Below B w (w.alloc (.cells pieceZ 98))) := hide ((Below.refl _ _).alloc (by omega) _)
  clear hB
  obtain ⟨k0, hk0⟩ : ∃ k0 : Nat, k0 = min 3 t.size := ⟨_, rfl⟩
  have hk03 : k0 ≤ 3 := by omega
  have hk0t : k0 ≤ t.size := by omega
  have HN0 : Hid (NoSign t k0) := hide (fun m h1 h2 h3 => by omega)
  have hmin : min (3 : Int) (t.size : Int) = (k0 : Int) := by omega
  clear hk0
  go_enter Tryz.func107, Tryz.ntmps107
  go_wp2
  change Code.wp _ _ _ _ (w.alloc (.cells pieceZ 98))
  rw [HB.out]
  generalize hw0 : w.alloc (.cells pieceZ 98) = w0
  rw [hw0] at HPB HBl
  clear hw0 hmin
  go_loopw [5, 6, 7, 8] (fun kv _ _ _ wr => ∃ k : Nat, k ≤ 3 ∧ k ≤ t.size ∧ kv = .int .i64 k ∧ Hid (NoSign t k) ∧ Hid (PBlock B pieceZ wr) ∧ Hid (Below B w wr)) (fun kv _ _ _ _ => (intOf kv).toNat)
  case atStart => exact ⟨k0, hk03, hk0t, rfl, HN0, HPB, HBl⟩
  case round =>
    obtain ⟨k, hk3, hkt, rfl, HN, HP, HBw⟩ := hrel
    by_cases hk0 : 0 < k
    · have hsl := fun w' : World => slc_upto t (j := (k : Int)) w' (by omega) (by omega)
      rw [show ((k : Int)).toNat = k by omega] at hsl
      obtain ⟨X, hX⟩ : ∃ X, t.extract 0 k = X := ⟨_, rfl⟩
      have hXs : X.size = k := by rw [← hX, ByteArray.size_extract]; omega
      have HX0 : Hid (isLet (hb X 0) = false) := hide (by rw [← hX, ext0_head hk0 hkt]; exact H0.out)
      have HX := hide hX
      rw [hX] at hsl
      clear hX
      have hbw : Below w.heap.size w wr := by rw [HB.out]; exact HBw.out
      obtain ⟨s0, s1, s2, s3, s4, x2, x3, x4⟩ := (HS.out.low hbw HS.out.lt).cells
      have HMr := hide (HM.out.low hbw)
      clear hbw s0 s2 s3 s4 x2 x3 x4
      rcases fix_look HMr.out X (by omega) with ⟨h1, hlk⟩ | ⟨h1, h2⟩ | ⟨h1, h2, c, hlk⟩
      · have HSN : Hid (SignN t 0 k) := hide ⟨hk3, fun _ => ⟨by omega, by rw [Nat.zero_add, HX.out]; exact h1⟩, fun m a b c => by rw [Nat.zero_add] at c ⊢; exact HN.out m a b c⟩
        clear h1
        have HN3 := hide (one_cell (w := wr) (a := .int .i64 6) 77)
        have HP3 := hide (HP.out.low ((Below.refl wr.heap.size wr).alloc (Nat.le_refl _) (.cells #[.int .i64 6] 77)) HP.out.lt)
        have HB3 := hide (HBw.out.alloc (by have := HP.out.lt; omega) (.cells #[.int .i64 6] 77))
        go_wp2
        obtain ⟨D, hD⟩ : ∃ D, wr.heap.size = D := ⟨_, rfl⟩
        have HDl : Hid (D < (wr.alloc (.cells #[.int .i64 6] 77)).heap.size) := hide (by simp; omega)
        rw [hD] at HN3 ⊢
        generalize hw3 : wr.alloc (.cells #[.int .i64 6] 77) = w3
        rw [hw3] at HN3 HP3 HB3 HDl
        clear hw3 hD hlk s1
        have n0 := HN3.out
        have HND := hide n0
        go_region_with (go_at_call 139; refine (clone_any X _ (by omega)).mono ?_; rintro e w4 ⟨rfl, hb4⟩; have hb4' : Below w3.heap.size w3 w4 := ⟨hb4.os, hb4.tape, hb4.output, hb4.size, hb4.block⟩; have n4 : w4.cell? ⟨D, 0, none⟩ = some (.int .i64 6) := (hb4'.cell (p := ⟨D, 0, none⟩) HDl.out).trans HND.out; obtain ⟨c0, c1, c2, c3, c4, c5, c6, c7, c8, c9, z0, z1, z2, z3, z4, z5, z6, z7, z8, z9⟩ := (HP3.out.low hb4' HP3.out.lt).cells; have HB4 := hide (HB3.out.trans (hb4'.mono (by have := HP3.out.lt; omega))); clear hb4 hb4')
        all_goals go_wp2
        all_goals refine bodyPost_ret (v := pieceV 6 X 0 0 ((k : Nat) : Int) 0 0 0) (by simp [results, Tryz.results107, go_sem, pieceV, c0, c1, c2, c3, c4, c5, c6, c7, c8, c9]) rfl ⟨_, rfl, ⟨k, HSN.out, .inl ⟨hk0, hkt, by rw [HX.out]⟩⟩, ?_⟩
        all_goals rw [HB.out]
        all_goals exact below_set10 HB4.out (Nat.le_refl _) _ _ _ _ _ _ _ _ _ _
      · exfalso
        have := word_head X h1
        rw [HX0.out] at this
        cases this
      · have HN2 : Hid (NoSign t (k - 1)) := hide (fun m a b c => by
          by_cases e : m = k
          · subst e; rw [HX.out]; exact h1
          · exact HN.out m (by omega) b c)
        have HP3 := hide (HP.out.low ((Below.refl wr.heap.size wr).alloc (Nat.le_refl _) (.cells #[.int .i64 c] 77)) HP.out.lt)
        have HB3 := hide (HBw.out.alloc (by have := HP.out.lt; omega) (.cells #[.int .i64 c] 77))
        clear h1 h2
        go_wp2
        go_roundw
        case rel => exact ⟨k - 1, by omega, by omega, by congr 1; omega, HN2, HP3, HB3⟩
        case measure => simp [intOf]; omega
    · obtain rfl : k = 0 := by omega
      have HSN : Hid (SignN t 0 0) := hide ⟨by omega, fun h => by omega, fun m a b c => by rw [Nat.zero_add] at c ⊢; exact HN.out m a b c⟩
      obtain ⟨c0, c1, c2, c3, c4, c5, c6, c7, c8, c9, z0, z1, z2, z3, z4, z5, z6, z7, z8, z9⟩ := HP.out.cells
      go_wp2
      refine bodyPost_ret (v := pieceV 0 ⟨#[]⟩ 0 0 0 2 0 0) (by simp [results, Tryz.results107, go_sem, pieceV, c0, c1, c2, c3, c4, c5, c6, c7, c8, c9]) rfl ⟨_, rfl, ⟨0, HSN.out, .inr ⟨rfl, rfl⟩⟩, ?_⟩
      rw [HB.out]
      exact below_set10 HBw.out (Nat.le_refl _) _ _ _ _ _ _ _ _ _ _
end Go.Proofs.YtmndipnifjpdjaaGreatDoor
namespace Go.Proofs.YtmndipnifjpdjaaGreatDoor
open Go Go.RowKit
set_option linter.unusedVariables false
def ReadR (s : ByteArray) (p : Nat) (r : Value) : Prop :=
  (∃ (t : Tk) (k : Nat), Rd s p (.inl (t, k)) ∧ 1 ≤ k ∧ p + k ≤ s.size ∧ t.kind ≠ 0 ∧ r = pieceV t.kind t.text t.int t.bits ((k : Nat) : Int) 0 0 0) ∨
  (∃ (c : Int) (o : Nat), Rd s p (.inr (c, o)) ∧ c ≠ 0 ∧ p + o ≤ s.size ∧ r = pieceV 0 ⟨#[]⟩ 0 0 0 c 0 ((o : Nat) : Int))
theorem cls_1 {f : Nat → Int} (h : isLet (f 0) = true) : cls f = 1 := by unfold cls; rw [if_pos h]
theorem cls_2 {f : Nat → Int} (h1 : isLet (f 0) = false) (h2 : numB f = true) : cls f = 2 := by unfold cls; rw [if_neg (by rw [h1]; decide), if_pos h2]
theorem cls_3 {f : Nat → Int} (h1 : isLet (f 0) = false) (h2 : numB f = false) (h3 : f 0 = 34 ∨ f 0 = 39) : cls f = 3 := by unfold cls; rw [if_neg (by rw [h1]; decide), if_neg (by rw [h2]; decide), if_pos h3]
theorem cls_4 {f : Nat → Int} (h1 : isLet (f 0) = false) (h2 : numB f = false) (h3 : ¬ (f 0 = 34 ∨ f 0 = 39)) (h4 : ∃ n, LongOpen f n) : cls f = 4 := by unfold cls; rw [if_neg (by rw [h1]; decide), if_neg (by rw [h2]; decide), if_neg h3, if_pos h4]
theorem cls_5 {f : Nat → Int} (h1 : isLet (f 0) = false) (h2 : numB f = false) (h3 : ¬ (f 0 = 34 ∨ f 0 = 39)) (h4 : ¬ ∃ n, LongOpen f n) : cls f = 5 := by unfold cls; rw [if_neg (by rw [h1]; decide), if_neg (by rw [h2]; decide), if_neg h3, if_neg h4]
theorem wKind_nz (t : ByteArray) : wKind t ≠ 0 := by unfold wKind; split <;> decide
theorem rest_size (s : ByteArray) (p : Nat) : (s.extract p s.size).size = s.size - p := by rw [ByteArray.size_extract]; omega
theorem read_name {s : ByteArray} {p q : Nat} (hp : p < s.size) (h1 : isLet (hb (s.extract p s.size) 0) = true) (h : RunP isLD (hb (s.extract p s.size)) q) (hq1 : 1 ≤ q) (hq : q ≤ (s.extract p s.size).size) :
    ReadR s p (pieceV (wKind ((s.extract p s.size).extract 0 q)) ((s.extract p s.size).extract 0 q) 0 0 ((q : Nat) : Int) 0 0 0) := by
  rw [rest_size] at hq
  rw [hb_rest] at h1 h
  rw [ext_ext s (by omega), Nat.add_zero]
  exact .inl ⟨_, q, .name (cls_1 h1) h, hq1, by omega, wKind_nz _, rfl⟩
theorem numE_posC {f : Nat → Int} {e : Nat} (h : NumE f e) (h0 : okN f 0 = true) : 1 ≤ e := by
  rcases Nat.eq_zero_or_pos e with z | z
  · subst z; have := h.2; rw [h0] at this; cases this
  · exact z
theorem numB_ok {f : Nat → Int} (h : numB f = true) : okN f 0 = true ∧ (isLD (f 0) = true ∨ f 0 = 46) := by
  unfold numB at h
  rw [Bool.or_eq_true, Bool.and_eq_true] at h
  rcases h with h | ⟨h, _⟩
  · exact ⟨okN_A (.inl (isLD_t1 h)), .inl (isLD_t1 h)⟩
  · have : f 0 = 46 := by simpa using h
    exact ⟨okN_A (.inr this), .inr this⟩
theorem read_num {s : ByteArray} {p : Nat} {r : Value} (hp : p < s.size) (h1 : isLet (hb (s.extract p s.size) 0) = false) (h2 : numB (hb (s.extract p s.size)) = true) (h : ReadNumR (s.extract p s.size) r) : ReadR s p r := by
  rw [hb_rest] at h1 h2
  obtain ⟨e, fl, i, b, hN, he, h⟩ := h
  rw [rest_size] at he
  rw [hb_rest] at hN
  rw [ext_ext s (by omega), Nat.add_zero] at h
  have he1 := numE_posC hN (numB_ok h2).1
  rcases h with ⟨hP, rfl⟩ | ⟨hP, rfl⟩
  · exact .inl ⟨_, e, .num (cls_2 h1 h2) hN hP, he1, by omega, (by cases fl <;> simp), rfl⟩
  · exact .inr ⟨5, 0, .numBad (cls_2 h1 h2) hN hP, by decide, by omega, rfl⟩
theorem read_quo {s : ByteArray} {p : Nat} {r : Value} (hp : p < s.size) (h1 : isLet (hb (s.extract p s.size) 0) = false) (h2 : numB (hb (s.extract p s.size)) = false) (h3 : hb (s.extract p s.size) 0 = 34 ∨ hb (s.extract p s.size) 0 = 39) (h : ReadQuoR (s.extract p s.size) r) : ReadR s p r := by
  unfold ReadQuoR at h
  rw [rest_size, hb_rest] at h
  rw [hb_rest] at h1 h2 h3
  have e0 : fr s p 0 = hb s p := by unfold fr; rw [Nat.add_zero]
  have hc := cls_3 h1 h2 h3
  rw [e0] at h
  rcases h with ⟨l, k, hQ, hk2, hk, rfl⟩ | ⟨c, o, hQ, hc0, ho, rfl⟩
  · exact .inl ⟨_, k, .quo hc hQ, by omega, by omega, by simp, rfl⟩
  · exact .inr ⟨c, o, .quoBad hc hQ, hc0, by omega, rfl⟩
theorem read_long {s : ByteArray} {p n : Nat} {r : Value} (hp : p < s.size) (h1 : isLet (hb (s.extract p s.size) 0) = false) (h2 : numB (hb (s.extract p s.size)) = false) (h3 : ¬ (hb (s.extract p s.size) 0 = 34 ∨ hb (s.extract p s.size) 0 = 39)) (hO : LongOpen (hb (s.extract p s.size)) n) (h : ReadLongR (s.extract p s.size) n r) : ReadR s p r := by
  unfold ReadLongR at h
  rw [rest_size, hb_rest] at h
  rw [hb_rest] at h1 h2 h3 hO
  have hc := cls_4 h1 h2 h3 ⟨n, hO⟩
  rcases h with ⟨c, hF, hcs, rfl⟩ | ⟨hN, rfl⟩
  · rw [ext_ext s (by omega)]
    exact .inl ⟨_, c + n + 1, .long hc hO hF, by omega, by omega, by simp, rfl⟩
  · exact .inr ⟨6, 0, .longBad hc hO hN, by decide, by omega, rfl⟩
theorem read_sign {s : ByteArray} {p : Nat} {r : Value} (hp : p < s.size) (h1 : isLet (hb (s.extract p s.size) 0) = false) (h2 : numB (hb (s.extract p s.size)) = false) (h3 : ¬ (hb (s.extract p s.size) 0 = 34 ∨ hb (s.extract p s.size) 0 = 39)) (hO : ¬ ∃ n, LongOpen (hb (s.extract p s.size)) n) (h : ReadSignR (s.extract p s.size) r) : ReadR s p r := by
  rw [hb_rest] at h1 h2 h3 hO
  have hc := cls_5 h1 h2 h3 hO
  obtain ⟨k, hS, h⟩ := h
  have hS2 : SignN s p k := by
    refine ⟨hS.1, fun hk => ?_, fun m a b c hm => ?_⟩
    · obtain ⟨x, y⟩ := hS.2.1 hk
      rw [rest_size] at x
      rw [Nat.zero_add, ext_ext s (by omega), Nat.add_zero] at y
      exact ⟨by omega, y⟩
    · refine hS.2.2 m a b (by rw [rest_size]; omega) ?_
      rw [Nat.zero_add, ext_ext s (by omega), Nat.add_zero]
      exact hm
  rcases h with ⟨hk1, hk, rfl⟩ | ⟨rfl, rfl⟩
  · rw [rest_size] at hk
    rw [ext_ext s (by omega), Nat.add_zero]
    exact .inl ⟨_, k, .sign hc hk1 hS2, hk1, by omega, by simp, rfl⟩
  · exact .inr ⟨2, 0, .signBad hc hS2, by decide, by omega, rfl⟩
theorem ReadR.form {s : ByteArray} {p : Nat} {r : Value} (h : ReadR s p r) : ∃ (k : Int) (t : ByteArray) (i b len fc fa : Int), r = pieceV k t i b len fc 0 fa := by
  rcases h with ⟨_, _, _, _, _, _, rfl⟩ | ⟨_, _, _, _, _, rfl⟩
  · exact ⟨_, _, _, _, _, _, _, rfl⟩
  · exact ⟨_, _, _, _, _, _, _, rfl⟩
set_option maxHeartbeats 8000000 in
set_option maxRecDepth 100000 in
theorem read_any (s : ByteArray) (T M p : Nat) (v : Value) (m : Int) (w : World) (hs : s.size ≤ 32768) (hp : p < s.size) (hS : Sc s T M p v w) (hM : FixMap M w) (hE : EnvL w) (hX : MaxAt m w) :
    Calls Tryz.prog 71 #[.pointer (some ⟨T, 0, none⟩), .string (s.extract p s.size)] w fun e w' => ∃ r, e = .returned r ∧ ReadR s p r ∧ Below w.heap.size w w' := by
  obtain ⟨t, ht⟩ : ∃ t, s.extract p s.size = t := ⟨_, rfl⟩
  have hts : t.size = s.size - p := by rw [← ht]; exact rest_size s p
  have HT := hide ht
  rw [ht]
  clear ht
  have HS := hide hS
  have HM := hide hM
  have HE := hide hE
  have HX := hide hX
  clear hS hM hE hX
  obtain ⟨B, hB⟩ : ∃ B, w.heap.size = B := ⟨_, rfl⟩
  have HB := hide hB
  have HPB : Hid (PBlock B pieceZ (w.alloc (.cells pieceZ 98))) := hide (by rw [← hB]; exact pblock_new w pieceZ)
  have HBl : Hid (Below B w (w.alloc (.cells pieceZ 98))) := hide ((Below.refl _ _).alloc (by omega) _)
  have HBl0 : Hid (Below w.heap.size w (w.alloc (.cells pieceZ 98))) := hide ((Below.refl _ _).alloc (by omega) _)
  clear hB
  have hne : (t.toList.isEmpty) = false := by
    have := isEmpty_size t
    rw [decide_eq_true (by omega)] at this
    simpa using this
  have hix := fun w' : World => idx_str t (i := 0) w' (by omega) (by omega)
  rw [show (0 : Int).toNat = 0 from rfl] at hix
  have hr := hb_rng t 0
  obtain ⟨c, hc⟩ : ∃ c, hb t 0 = c := ⟨_, rfl⟩
  have Hc := hide hc
  rw [hc] at hix hr
  clear hc
  have htl : t.size ≤ 32768 := by omega
  have ht0 : 0 < t.size := by omega
  clear hts
  go_enter Tryz.func71, Tryz.ntmps71
  go_wp2_with fail
  change Calls _ _ _ (w.alloc (.cells pieceZ 98)) _
  rw [HB.out]
  generalize hw0 : w.alloc (.cells pieceZ 98) = w0
  rw [hw0] at HPB HBl HBl0
  clear hw0
  have HS0 := hide (HS.out.low HBl0.out HS.out.lt)
  have HM0 := hide (HM.out.low HBl0.out)
  have HE0 := hide (HE.out.low HBl0.out)
  have HX0 := hide (HX.out.low HBl0.out)
  clear HS HM HE HX HBl0
  refine (isLetter_any c _).mono ?_
  rintro e w1 ⟨rfl, hw1⟩
  rw [hw1]
  clear hw1 w1
  cases hl : isLet c with
  | true =>
    have HL : Hid (isLet (hb t 0) = true) := hide (by rw [Hc.out]; exact hl)
    clear hl
    go_wp2_with fail
    refine (readName_any s T M p v t _ htl HL.out HS0.out HM0.out).mono ?_
    rintro e w1 ⟨q, hR, hq1, hq, rfl, hb1⟩
    have HRES : Hid (ReadR s p (pieceV (wKind (t.extract 0 q)) (t.extract 0 q) 0 0 ((q : Nat) : Int) 0 0 0)) := hide (by
      rw [← HT.out] at hR hq ⊢
      exact read_name hp (by rw [HT.out]; exact HL.out) hR hq1 hq)
    generalize hrr : pieceV (wKind (t.extract 0 q)) (t.extract 0 q) 0 0 ((q : Nat) : Int) 0 0 0 = r
    rw [hrr] at HRES
    clear hR hq hq1 hrr
    have HP1 := hide (HPB.out.low hb1 HPB.out.lt)
    have HB1 := hide (HBl.out.trans (hb1.mono (by have := HPB.out.lt; omega)))
    clear hb1
    obtain ⟨kk, tt, ii, bb, ll, ff, aa, rfl⟩ := HRES.out.form
    obtain ⟨c0, c1, c2, c3, c4, c5, c6, c7, c8, c9, z0, z1, z2, z3, z4, z5, z6, z7, z8, z9⟩ := HP1.out.cells
    unfold pieceV
    go_wp2
    refine bodyPost_ret (v := pieceV kk tt ii bb ll ff 0 aa) (by simp [results, Tryz.results71, go_sem, pieceV, c0, c1, c2, c3, c4, c5, c6, c7, c8, c9]) rfl ⟨_, rfl, HRES.out, ?_⟩
    rw [HB.out]
    exact below_set10 HB1.out (Nat.le_refl _) _ _ _ _ _ _ _ _ _ _
  | false =>
    have HL : Hid (isLet (hb t 0) = false) := hide (by rw [Hc.out]; exact hl)
    clear hl
    go_wp2_with fail
    refine (beginsNumeral_any t _ htl).mono ?_
    rintro e w1 ⟨rfl, hw1⟩
    rw [hw1]
    clear hw1 w1
    cases hn : numB (hb t) with
    | true =>
      have HN := hide hn
      clear hn
      go_wp2_with fail
      refine (readNumeral_any t _ htl HE0.out).mono ?_
      rintro e w1 ⟨r, rfl, hR, hb1⟩
      have HRES : Hid (ReadR s p r) := hide (by
        rw [← HT.out] at hR
        exact read_num hp (by rw [HT.out]; exact HL.out) (by rw [HT.out]; exact HN.out) hR)
      clear hR
      have HP1 := hide (HPB.out.low hb1 HPB.out.lt)
      have HB1 := hide (HBl.out.trans (hb1.mono (by have := HPB.out.lt; omega)))
      clear hb1
      obtain ⟨kk, tt, ii, bb, ll, ff, aa, rfl⟩ := HRES.out.form
      obtain ⟨c0, c1, c2, c3, c4, c5, c6, c7, c8, c9, z0, z1, z2, z3, z4, z5, z6, z7, z8, z9⟩ := HP1.out.cells
      unfold pieceV
      go_wp2
      refine bodyPost_ret (v := pieceV kk tt ii bb ll ff 0 aa) (by simp [results, Tryz.results71, go_sem, pieceV, c0, c1, c2, c3, c4, c5, c6, c7, c8, c9]) rfl ⟨_, rfl, HRES.out, ?_⟩
      rw [HB.out]
      exact below_set10 HB1.out (Nat.le_refl _) _ _ _ _ _ _ _ _ _ _
    | false =>
      have HN := hide hn
      clear hn
      by_cases h34 : c = 34 ∨ c = 39
      · have H34 : Hid (hb t 0 = 34 ∨ hb t 0 = 39) := hide (by rw [Hc.out]; exact h34)
        rcases h34 with h | h
        · have hq := bq_t h
          clear h
          go_wp2_with fail
          refine (readQuoted_any t _ htl ht0 H34.out).mono ?_
          rintro e w1 ⟨r, rfl, hR, hb1⟩
          have HRES : Hid (ReadR s p r) := hide (by
            rw [← HT.out] at hR
            exact read_quo hp (by rw [HT.out]; exact HL.out) (by rw [HT.out]; exact HN.out) (by rw [HT.out]; exact H34.out) hR)
          clear hR
          have HP1 := hide (HPB.out.low hb1 HPB.out.lt)
          have HB1 := hide (HBl.out.trans (hb1.mono (by have := HPB.out.lt; omega)))
          clear hb1
          obtain ⟨kk, tt, ii, bb, ll, ff, aa, rfl⟩ := HRES.out.form
          obtain ⟨c0, c1, c2, c3, c4, c5, c6, c7, c8, c9, z0, z1, z2, z3, z4, z5, z6, z7, z8, z9⟩ := HP1.out.cells
          unfold pieceV
          go_wp2
          refine bodyPost_ret (v := pieceV kk tt ii bb ll ff 0 aa) (by simp [results, Tryz.results71, go_sem, pieceV, c0, c1, c2, c3, c4, c5, c6, c7, c8, c9]) rfl ⟨_, rfl, HRES.out, ?_⟩
          rw [HB.out]
          exact below_set10 HB1.out (Nat.le_refl _) _ _ _ _ _ _ _ _ _ _
        · have hq : (c == 34) = false := bq_f (by omega)
          have hq2 := bq_t h
          clear h
          go_wp2_with fail
          refine (readQuoted_any t _ htl ht0 H34.out).mono ?_
          rintro e w1 ⟨r, rfl, hR, hb1⟩
          have HRES : Hid (ReadR s p r) := hide (by
            rw [← HT.out] at hR
            exact read_quo hp (by rw [HT.out]; exact HL.out) (by rw [HT.out]; exact HN.out) (by rw [HT.out]; exact H34.out) hR)
          clear hR
          have HP1 := hide (HPB.out.low hb1 HPB.out.lt)
          have HB1 := hide (HBl.out.trans (hb1.mono (by have := HPB.out.lt; omega)))
          clear hb1
          obtain ⟨kk, tt, ii, bb, ll, ff, aa, rfl⟩ := HRES.out.form
          obtain ⟨c0, c1, c2, c3, c4, c5, c6, c7, c8, c9, z0, z1, z2, z3, z4, z5, z6, z7, z8, z9⟩ := HP1.out.cells
          unfold pieceV
          go_wp2
          refine bodyPost_ret (v := pieceV kk tt ii bb ll ff 0 aa) (by simp [results, Tryz.results71, go_sem, pieceV, c0, c1, c2, c3, c4, c5, c6, c7, c8, c9]) rfl ⟨_, rfl, HRES.out, ?_⟩
          rw [HB.out]
          exact below_set10 HB1.out (Nat.le_refl _) _ _ _ _ _ _ _ _ _ _
      · have H34 : Hid (¬ (hb t 0 = 34 ∨ hb t 0 = 39)) := hide (by rw [Hc.out]; exact h34)
        have hq : (c == 34) = false := bq_f (by omega)
        have hq2 : (c == 39) = false := bq_f (by omega)
        clear h34
        go_wp2_with fail
        refine (longLevel_any t _ htl).mono ?_
        rintro e w1 ⟨lv, rfl, hlv, hw1⟩
        rw [hw1]
        clear hw1 w1
        rcases hlv with ⟨rfl, hno⟩ | ⟨n, hO, hnu, rfl⟩
        · have HNO := hide hno
          clear hno
          go_wp2_with fail
          refine (readSign_any s T M p v t _ htl HL.out HS0.out HM0.out).mono ?_
          rintro e w1 ⟨r, rfl, hR, hb1⟩
          have HRES : Hid (ReadR s p r) := hide (by
            rw [← HT.out] at hR
            exact read_sign hp (by rw [HT.out]; exact HL.out) (by rw [HT.out]; exact HN.out) (by rw [HT.out]; exact H34.out) (by rw [HT.out]; exact HNO.out) hR)
          clear hR
          have HP1 := hide (HPB.out.low hb1 HPB.out.lt)
          have HB1 := hide (HBl.out.trans (hb1.mono (by have := HPB.out.lt; omega)))
          clear hb1
          obtain ⟨kk, tt, ii, bb, ll, ff, aa, rfl⟩ := HRES.out.form
          obtain ⟨c0, c1, c2, c3, c4, c5, c6, c7, c8, c9, z0, z1, z2, z3, z4, z5, z6, z7, z8, z9⟩ := HP1.out.cells
          unfold pieceV
          go_wp2
          refine bodyPost_ret (v := pieceV kk tt ii bb ll ff 0 aa) (by simp [results, Tryz.results71, go_sem, pieceV, c0, c1, c2, c3, c4, c5, c6, c7, c8, c9]) rfl ⟨_, rfl, HRES.out, ?_⟩
          rw [HB.out]
          exact below_set10 HB1.out (Nat.le_refl _) _ _ _ _ _ _ _ _ _ _
        · have HO := hide hO
          have hn1 := hO.1
          clear hO
          have hge : (0 : Int) ≤ (n : Int) - 1 := by omega
          go_wp2_with fail
          refine (readLong_any t n m _ htl HO.out HX0.out).mono ?_
          rintro e w1 ⟨r, rfl, hR, hb1⟩
          have HRES : Hid (ReadR s p r) := hide (by
            rw [← HT.out] at hR
            exact read_long hp (by rw [HT.out]; exact HL.out) (by rw [HT.out]; exact HN.out) (by rw [HT.out]; exact H34.out) (by rw [HT.out]; exact HO.out) hR)
          clear hR
          have HP1 := hide (HPB.out.low hb1 HPB.out.lt)
          have HB1 := hide (HBl.out.trans (hb1.mono (by have := HPB.out.lt; omega)))
          clear hb1
          obtain ⟨kk, tt, ii, bb, ll, ff, aa, rfl⟩ := HRES.out.form
          obtain ⟨c0, c1, c2, c3, c4, c5, c6, c7, c8, c9, z0, z1, z2, z3, z4, z5, z6, z7, z8, z9⟩ := HP1.out.cells
          unfold pieceV
          go_wp2
          refine bodyPost_ret (v := pieceV kk tt ii bb ll ff 0 aa) (by simp [results, Tryz.results71, go_sem, pieceV, c0, c1, c2, c3, c4, c5, c6, c7, c8, c9]) rfl ⟨_, rfl, HRES.out, ?_⟩
          rw [HB.out]
          exact below_set10 HB1.out (Nat.le_refl _) _ _ _ _ _ _ _ _ _ _
end Go.Proofs.YtmndipnifjpdjaaGreatDoor
namespace Go.Proofs.YtmndipnifjpdjaaGreatDoor
open Go Go.RowKit
set_option linter.unusedVariables false
theorem read_end (T : Nat) (w : World) :
    Calls Tryz.prog 71 #[.pointer (some ⟨T, 0, none⟩), .string ⟨#[]⟩] w fun e w' => e = .returned (pieceV 0 ⟨#[]⟩ 0 0 0 0 0 0) ∧ Below w.heap.size w w' := by
  go_enter Tryz.func71, Tryz.ntmps71
  go_wp2
  refine bodyPost_ret (v := pieceV 0 ⟨#[]⟩ 0 0 0 0 0 0) (by simp [results, Tryz.results71, go_sem, pieceV]) rfl ⟨rfl, ?_⟩
  exact (Below.refl _ _).alloc (Nat.le_refl _) _
end Go.Proofs.YtmndipnifjpdjaaGreatDoor
namespace Go.Proofs.YtmndipnifjpdjaaGreatDoor
open Go Go.RowKit
set_option linter.unusedVariables false
theorem count_nl (s : ByteArray) {a b : Nat} (hab : a ≤ b) (hb' : b ≤ s.size) : Lib.countByte (s.extract a b).data.toList 10 + nlc s a = nlc s b := by
  unfold Lib.countByte
  rw [ext_list]
  obtain ⟨d, rfl⟩ : ∃ d, b = a + d := ⟨b - a, by omega⟩
  clear hab
  rw [show a + d - a = d by omega]
  induction d with
  | zero => simp
  | succ d ih =>
    have ih' := ih (by omega)
    rw [List.take_add_one, List.count_append, List.getElem?_drop]
    have hlt : a + d < s.size := by omega
    have e : s.data.toList[a + d]? = some (s[a + d]'hlt) := Lib.data_getElem? s (a + d) hlt
    rw [e]
    have hv := hb_in hlt
    show _ = nlc s (a + d + 1)
    by_cases h10 : hb s (a + d) = 10
    · rw [nlc_nl h10]
      have : s[a + d]'hlt = 10 := by
        have : (s[a + d]'hlt).toNat = 10 := by omega
        exact UInt8.toNat_inj.1 this
      rw [this]
      simp
      omega
    · rw [nlc_no h10]
      have : s[a + d]'hlt ≠ 10 := by
        intro e
        rw [e] at hv
        exact h10 hv
      have h0 : List.count (10 : UInt8) (some (s[a + d]'hlt)).toList = 0 := by
        simp [this]
      rw [h0]
      omega
theorem Sc.pass {s : ByteArray} {T M p k : Nat} {v : Value} {w : World} (h : Sc s T M p v w) :
    Sc s T M (p + k) v ((w.setCell ⟨T, 3, none⟩ (.int .i64 ((nlc s (p + k) : Int) + 1))).setCell ⟨T, 2, none⟩ (.int .i64 ((p : Int) + k))) := by
  have h1 := heap_setCell_same w T 3 _ _ (.int .i64 ((nlc s (p + k) : Int) + 1)) h
  have h2 := heap_setCell_same _ T 2 _ _ (.int .i64 ((p : Int) + k)) h1
  unfold Sc
  rw [h2]
  simp
theorem grownR (w : World) (T : Nat) : w.grownBy w (some T) := ⟨rfl, rfl, rfl, Nat.le_refl _, fun _ _ _ => rfl⟩
theorem gst' {a w : World} {S : Nat} (h : a.grownBy w (some S)) (j : Nat) (v : Value) : a.grownBy (w.setCell ⟨S, j, none⟩ v) (some S) := gst h j v
theorem gdr' {a w : World} {r : Option Nat} (h : a.grownBy w r) : a.grownBy w.drew r := gdr h 1
set_option maxHeartbeats 3200000 in
set_option maxRecDepth 100000 in
theorem pass_any (s : ByteArray) (T M p k : Nat) (v : Value) (w : World) (hs : s.size ≤ 32768) (hp : p + k ≤ s.size) (hS : Sc s T M p v w) :
    Calls Tryz.prog 67 #[.pointer (some ⟨T, 0, none⟩), .int .i64 k] w fun e w' => e = .returned (.tuple #[]) ∧ Sc s T M (p + k) v w' ∧ w.grownBy w' (some T) := by
  have HP := hide (hS.pass (k := k))
  obtain ⟨s0, s1, s2, s3, s4, x2, x3, x4⟩ := hS.cells
  have hn1 := nlc_le s p
  have hn2 := nlc_le s (p + k)
  have hcn := count_nl s (a := p) (b := p + k) (by omega) hp
  have hco := fun w' : World => Tryz.strings_Count_one (s.extract p (p + k)) 10 w'
  obtain ⟨C, hC⟩ : ∃ C : Nat, Lib.countByte (s.extract p (p + k)).data.toList 10 = C := ⟨_, rfl⟩
  rw [hC] at hco hcn
  have HCO := hide hco
  clear hC hco
  have hsl := fun w' : World => slc_str s (i := (p : Int)) (j := (p : Int) + k) w' (by omega) (by omega) (by omega)
  rw [show ((p : Int)).toNat = p by omega, show ((p : Int) + k).toNat = p + k by omega] at hsl
  have hw1 : IntKind.i64.wrap ((p : Int) + k) = (p : Int) + k := wrap_id (by omega) (by omega)
  have hw2 : IntKind.i64.wrap ((nlc s p : Int) + 1 + (C : Int)) = (nlc s (p + k) : Int) + 1 := by rw [wrap_id (by omega) (by omega)]; omega
  clear hcn hS
  go_enter Tryz.func67, Tryz.ntmps67
  go_wp2
  refine wp_tail 21 (by kernel_rfl) (by kernel_rfl) (fun ops => ?_)
  simp only [List.take_succ_cons, List.take_zero, List.drop_succ_cons, List.drop_zero]
  iterate 19 (refine still_next rfl (fun K hK => ?_); go_simp; refine hK _ ?_; clear hK K)
  refine still_next rfl (fun K hK => ?_)
  go_simp
  refine ⟨_, HCO.out _, hK _ ?_⟩
  clear hK K
  refine still_next rfl (fun K hK => ?_)
  go_simp
  refine hK _ ?_
  clear hK K
  refine wpStill_nil ?_
  go_wp2
  go_end0
  exact ⟨rfl, HP.out, gdr' (gst' (gst' (grownR w T) _ _) _ _)⟩
end Go.Proofs.YtmndipnifjpdjaaGreatDoor
