import Derived.Test.YtamdnnkdnhkghaaGreatDoorP44
import Derived.Test.YtamdnnkdnhkghaaGreatDoorP45
import Derived.Lib.SmallJoins
import Derived.Test.YtamdnnkdnhkghaaGreatDoorP27
namespace Go.Proofs.YtamdnnkdnhkghaaGreatDoor

open Go Go.RowKit

set_option linter.unusedVariables false

set_option maxHeartbeats 1600000 in
set_option maxRecDepth 100000 in
theorem st_int (i u : Int) (w : World) (h0 : -9223372036854775808 ≤ i) (h1 : i ≤ 9223372036854775807) :
    Calls Tryz.prog 20 #[.agg #[.bool false, .int .i64 i, .int .u64 u]] w fun e w' => FNum (fun t => t = ⟨(Lib.itoa i).toArray⟩) w e w' := by
  have HI := hide (fun (w1 : World) => dec_any i w1 h0 h1)
  go_enter Tryz.func20, Tryz.ntmps20
  go_wp2_with fail
  refine (HI.out _).mono ?_
  rintro e w1 ⟨rfl, hb1⟩
  have Hb1 := hide hb1
  clear hb1
  go_wp2
  go_ret
  exact ⟨_, rfl, rfl, below_al Hb1.out⟩

set_option maxHeartbeats 1600000 in
set_option maxRecDepth 100000 in
theorem st_nan (i : Int) (W : Nat) (w : World) (h1 : CB 46 #[.int .u64 W] true) :
    Calls Tryz.prog 20 #[.agg #[.bool true, .int .i64 i, .int .u64 W]] w fun e w' => FNum (fun t => t = strL [110, 97, 110]) w e w' := by
  have G1 := hide h1
  clear h1
  go_enter Tryz.func20, Tryz.ntmps20
  go_wp2_with fail
  refine (G1.out _).mono ?_
  rintro e w2 ⟨rfl, rfl⟩
  go_wp2
  go_ret
  exact ⟨_, rfl, rfl, (Below.refl _ _).alloc (Nat.le_refl _) _⟩

set_option maxHeartbeats 1600000 in
set_option maxRecDepth 100000 in
theorem st_inf (i : Int) (W : Nat) (s : Bool) (w : World) (h1 : CB 46 #[.int .u64 W] false) (h2 : CB 47 #[.int .u64 W] s) (h3 : CB 48 #[.int .u64 W] true) :
    Calls Tryz.prog 20 #[.agg #[.bool true, .int .i64 i, .int .u64 W]] w fun e w' => FNum (fun t => t = strL (sgL s ++ [105, 110, 102])) w e w' := by
  have G1 := hide h1
  have G2 := hide h2
  have G3 := hide h3
  clear h1 h2 h3
  go_enter Tryz.func20, Tryz.ntmps20
  go_wp2_with fail
  refine (G1.out _).mono ?_
  rintro e w2 ⟨rfl, rfl⟩
  go_wp2_with fail
  refine (G2.out _).mono ?_
  rintro e w2 ⟨rfl, rfl⟩
  cases s with
  | false =>
    go_wp2_with fail
    refine (G3.out _).mono ?_
    rintro e w2 ⟨rfl, rfl⟩
    go_wp2
    go_ret
    exact ⟨_, rfl, rfl, (Below.refl _ _).alloc (Nat.le_refl _) _⟩
  | true =>
    go_wp2_with fail
    refine (G3.out _).mono ?_
    rintro e w2 ⟨rfl, rfl⟩
    go_wp2
    go_ret
    exact ⟨_, rfl, rfl, (Below.refl _ _).alloc (Nat.le_refl _) _⟩

set_option maxHeartbeats 1600000 in
set_option maxRecDepth 100000 in
theorem st_fin (i : Int) (W r : Nat) (s : Bool) (M : List Int → Prop) (w : World) (h1 : CB 46 #[.int .u64 W] false) (h2 : CB 47 #[.int .u64 W] s) (h3 : CB 48 #[.int .u64 W] false) (hm : (W : Int) % 9223372036854775808 = r)
    (HM : ∀ w1, Calls Tryz.prog 49 #[.int .u64 r] w1 fun e w' => ∃ L, e = .returned (.string (strL L)) ∧ M L ∧ Below w1.heap.size w1 w') (hML : ∀ L, M L → L.length ≤ 1000) :
    Calls Tryz.prog 20 #[.agg #[.bool true, .int .i64 i, .int .u64 W]] w fun e w' => FNum (fun t => ∃ L, M L ∧ t = strL (sgL s ++ L)) w e w' := by
  have G1 := hide h1
  have G2 := hide h2
  have G3 := hide h3
  have GM := hide HM
  have GL := hide hML
  clear h1 h2 h3 HM hML
  go_enter Tryz.func20, Tryz.ntmps20
  go_wp2_with fail
  refine (G1.out _).mono ?_
  rintro e w2 ⟨rfl, rfl⟩
  go_wp2_with fail
  refine (G2.out _).mono ?_
  rintro e w2 ⟨rfl, rfl⟩
  cases s with
  | false =>
    go_wp2_with fail
    refine (G3.out _).mono ?_
    rintro e w2 ⟨rfl, rfl⟩
    go_wp2_with fail
    refine (GM.out _).mono ?_
    rintro e w3 ⟨L, rfl, hL, hb3⟩
    have HL := hide hL
    have Hb3 := hide (below_al hb3)
    have hsz := strL_size L
    have hl1 := GL.out L hL
    clear hb3 hL
    go_wp2
    go_ret
    exact ⟨_, rfl, ⟨L, HL.out, strL_append [] L⟩, Hb3.out⟩
  | true =>
    go_wp2_with fail
    refine (G3.out _).mono ?_
    rintro e w2 ⟨rfl, rfl⟩
    go_wp2_with fail
    refine (GM.out _).mono ?_
    rintro e w3 ⟨L, rfl, hL, hb3⟩
    have HL := hide hL
    have Hb3 := hide (below_al hb3)
    have hsz := strL_size L
    have hl1 := GL.out L hL
    clear hb3 hL
    go_wp2
    go_ret
    exact ⟨_, rfl, ⟨L, HL.out, strL_append [45] L⟩, Hb3.out⟩

theorem MagT.len {r c : Nat} {L : List Int} (h : MagT r c L) : L.length ≤ 1000 := by
  rcases h with ⟨_, rfl⟩ | ⟨_, n, d, q, hf, rfl⟩
  · decide
  · have h1 := hf.n1
    have h2 := hf.n17
    unfold FT
    split
    · have := eTxt_len (d := d) (X := (n : Int) - 1 - q) h1 h2
      omega
    · rename_i hX
      unfold plainL
      split
      · simp [digL_len]; omega
      · split
        · simp [digL_len]; omega
        · simp [digL_len]; omega

/-- The document's 'FormatNumber' at a float. -/
theorem st_float (i : Int) (s : Bool) (r c : Nat) (w : World) (hr : r < 9223372036854775808)
    (HM : r < infW → ∀ w1, Calls Tryz.prog 49 #[.int .u64 r] w1 fun e w' => ∃ L, e = .returned (.string (strL L)) ∧ MagT r c L ∧ Below w1.heap.size w1 w') :
    Calls Tryz.prog 20 #[.agg #[.bool true, .int .i64 i, .int .u64 (wordS s r : Nat)]] w fun e w' => FNum (WordT s r c) w e w' := by
  have hA := asCalls (s := s) hr
  have c1 : CB 46 #[.int .u64 (wordS s r : Nat)] (decide (infW < r)) := hA.c1
  have c3 : CB 48 #[.int .u64 (wordS s r : Nat)] (decide (r = infW)) := hA.c2
  have c2 : CB 47 #[.int .u64 (wordS s r : Nat)] s := fun w => by
    have := minor_any ((wordS s r : Nat) : Int) w
    rw [wordS_minor hr] at this
    exact this
  by_cases hn : infW < r
  · rw [decide_eq_true hn] at c1
    refine (st_nan i _ w c1).mono ?_
    rintro e w' ⟨t, rfl, rfl, hb⟩
    exact ⟨_, rfl, .inl ⟨hn, rfl⟩, hb⟩
  · rw [decide_eq_false hn] at c1
    by_cases hi : r = infW
    · rw [decide_eq_true hi] at c3
      refine (st_inf i _ s w c1 c2 c3).mono ?_
      rintro e w' ⟨t, rfl, rfl, hb⟩
      exact ⟨_, rfl, .inr (.inl ⟨hi, rfl⟩), hb⟩
    · rw [decide_eq_false hi] at c3
      have hlt : r < infW := by omega
      refine (st_fin i _ r s (MagT r c) w c1 c2 c3 (wordS_mod hr) (HM hlt) (fun L h => h.len)).mono ?_
      rintro e w' ⟨t, rfl, ⟨L, hL, rfl⟩, hb⟩
      exact ⟨_, rfl, .inr (.inr ⟨hlt, L, hL, rfl⟩), hb⟩

end Go.Proofs.YtamdnnkdnhkghaaGreatDoor

namespace Go.Proofs.YtamdnnkdnhkghaaGreatDoor

open Go Go.RowKit

set_option linter.unusedVariables false

theorem ftext_all (r c : Nat) (w : World) (hc : c = 1074) (hr : r < infW) :
    Calls Tryz.prog 49 #[.int .u64 r] w fun e w' => ∃ L, e = .returned (.string (strL L)) ∧ MagT r c L ∧ Below w.heap.size w w' := by
  by_cases h0 : r = 0
  · subst h0
    refine (ftext_zero w).mono ?_
    rintro e w' ⟨rfl, rfl⟩
    exact ⟨_, rfl, .inl ⟨rfl, rfl⟩, Below.refl _ _⟩
  · exact ftext_any r c w hc (by omega) hr

/-- The text of a number. -/
def NumT (f : Bool) (i u : Int) (t : ByteArray) : Prop :=
  if f = true then ∃ s r, u = ((wordS s r : Nat) : Int) ∧ r < 9223372036854775808 ∧ ∃ c, c = 1074 ∧ WordT s r c t else t = ⟨(Lib.itoa i).toArray⟩

theorem wordS_inj {s s' : Bool} {r r' : Nat} (h : r < 9223372036854775808) (h' : r' < 9223372036854775808) (e : wordS s r = wordS s' r') : s = s' ∧ r = r' := by
  unfold wordS at e
  cases s <;> cases s' <;> simp at e ⊢ <;> omega

theorem NumT.unique {f : Bool} {i u : Int} {t t' : ByteArray} (h : NumT f i u t) (h' : NumT f i u t') : t = t' := by
  unfold NumT at h h'
  by_cases hf : f = true
  · rw [if_pos hf] at h h'
    obtain ⟨s, r, e, hr, c, hc, hT⟩ := h
    obtain ⟨s', r', e', hr', c', hc', hT'⟩ := h'
    obtain ⟨rfl, rfl⟩ := wordS_inj (s := s) (s' := s') hr hr' (by omega)
    subst hc hc'
    exact hT.unique hT'
  · rw [if_neg hf] at h h'
    rw [h, h']

theorem u64_split {u : Int} (h0 : 0 ≤ u) (h1 : u < 18446744073709551616) : ∃ s r, u = ((wordS s r : Nat) : Int) ∧ r < 9223372036854775808 := by
  have := word_split (W := u.toNat) (by omega)
  exact ⟨decide (9223372036854775808 ≤ u.toNat), u.toNat % 9223372036854775808, by rw [← this]; omega, Nat.mod_lt _ (by omega)⟩

theorem fnum_any (f : Bool) (i u : Int) (w : World) (hi0 : -9223372036854775808 ≤ i) (hi1 : i ≤ 9223372036854775807) (h0 : 0 ≤ u) (h1 : u < 18446744073709551616) (hF : FE w) :
    Calls Tryz.prog 10 #[.agg #[.bool f, .int .i64 i, .int .u64 u]] w fun e w' => FNum (NumT f i u) w e w' := by
  cases f with
  | false =>
    refine (fn_int i u w hi0 hi1 hF).mono ?_
    rintro e w' ⟨t, rfl, ht, hb⟩
    exact ⟨t, rfl, by unfold NumT; rw [if_neg (by decide)]; exact ht, hb⟩
  | true =>
    obtain ⟨s, r, rfl, hr⟩ := u64_split h0 h1
    obtain ⟨c, hc⟩ : ∃ c : Nat, c = 1074 := ⟨_, rfl⟩
    refine (fn_float i s r c w hc hr hF).mono ?_
    rintro e w' ⟨t, rfl, ht, hb⟩
    exact ⟨t, rfl, by unfold NumT; rw [if_pos rfl]; exact ⟨s, r, rfl, hr, c, hc, ht⟩, hb⟩

theorem snum_any (f : Bool) (i u : Int) (w : World) (hi0 : -9223372036854775808 ≤ i) (hi1 : i ≤ 9223372036854775807) (h0 : 0 ≤ u) (h1 : u < 18446744073709551616) :
    Calls Tryz.prog 20 #[.agg #[.bool f, .int .i64 i, .int .u64 u]] w fun e w' => FNum (NumT f i u) w e w' := by
  cases f with
  | false =>
    refine (st_int i u w hi0 hi1).mono ?_
    rintro e w' ⟨t, rfl, ht, hb⟩
    exact ⟨t, rfl, by unfold NumT; rw [if_neg (by decide)]; exact ht, hb⟩
  | true =>
    obtain ⟨s, r, rfl, hr⟩ := u64_split h0 h1
    obtain ⟨c, hc⟩ : ∃ c : Nat, c = 1074 := ⟨_, rfl⟩
    refine (st_float i s r c w hr (fun hlt w1 => ftext_all r c w1 hc hlt)).mono ?_
    rintro e w' ⟨t, rfl, ht, hb⟩
    exact ⟨t, rfl, by unfold NumT; rw [if_pos rfl]; exact ⟨s, r, rfl, hr, c, hc, ht⟩, hb⟩

set_option maxHeartbeats 1600000 in
set_option maxRecDepth 100000 in
theorem sfn_any (f : Bool) (i u : Int) (T : ByteArray → Prop) (w : World) (H : ∀ w, Calls Tryz.prog 20 #[.agg #[.bool f, .int .i64 i, .int .u64 u]] w fun e w' => FNum T w e w') :
    Calls Tryz.prog 8 #[.agg #[.bool f, .int .i64 i, .int .u64 u]] w fun e w' => FNum T w e w' := by
  have HH := hide H
  clear H
  go_enter Tryz.func8, Tryz.ntmps8
  go_wp2_with fail
  refine (HH.out _).mono ?_
  rintro e w1 ⟨t, rfl, ht, hb1⟩
  have Hb1 := hide hb1
  have Ht := hide ht
  clear hb1 ht
  go_wp2
  go_ret
  exact ⟨t, rfl, Ht.out, below_al Hb1.out⟩

set_option maxHeartbeats 1600000 in
set_option maxRecDepth 100000 in
theorem toNum_any (f : Bool) (i u : Int) (w : World) : Calls Tryz.prog 9 #[.agg #[.bool f, .int .i64 i, .int .u64 u]] w fun e w' => e = .returned (.agg #[.bool f, .int .i64 i, .int .u64 u]) ∧ Below w.heap.size w w' := by
  go_enter Tryz.func9, Tryz.ntmps9
  go_wp2
  refine bodyPost_ret (v := .agg #[.bool f, .int .i64 i, .int .u64 u]) ?_ rfl ⟨rfl, ?_⟩
  · simp [results, Tryz.results9, go_sem]
  · exact (((Below.refl _ _).alloc (Nat.le_refl _) _).alloc (by simp) _).alloc (by simp; omega) _

set_option maxHeartbeats 1600000 in
set_option maxRecDepth 100000 in
theorem fnlaw_any (f : Bool) (i u : Int) (w : World) (hi0 : -9223372036854775808 ≤ i) (hi1 : i ≤ 9223372036854775807) (h0 : 0 ≤ u) (h1 : u < 18446744073709551616) (hF : FE w) :
    Calls Tryz.prog 3 #[.agg #[.bool f, .int .i64 i, .int .u64 u]] w fun e w' => e = .returned (.bool true) ∧ Below w.heap.size w w' := by
  have HN := hide (fun w => toNum_any f i u w)
  have HS := hide (fun w => sfn_any f i u (NumT f i u) w (fun w => snum_any f i u w hi0 hi1 h0 h1))
  have HF := hide (fun (w1 : World) (hb : Below w.heap.size w w1) => fnum_any f i u w1 hi0 hi1 h0 h1 (hF.below hb))
  clear hF hi0 hi1 h0 h1
  go_enter Tryz.func3, Tryz.ntmps3
  go_wp2_with fail
  refine (HN.out _).mono ?_
  rintro e w1 ⟨rfl, hb1⟩
  have Hb1 := hide hb1
  clear hb1
  go_wp2_with fail
  refine (HS.out _).mono ?_
  rintro e w2 ⟨t, rfl, ht, hb2⟩
  have hb2' := Hb1.out.trans (hb2.mono Hb1.out.size)
  have Ht := hide ht
  have c0 : w2.cell? ⟨w.heap.size, 0, none⟩ = some (.bool f) := (hb2'.cell (p := ⟨w.heap.size, 0, none⟩) (by simp)).trans (by simp)
  have c1 : w2.cell? ⟨w.heap.size, 1, none⟩ = some (.int .i64 i) := (hb2'.cell (p := ⟨w.heap.size, 1, none⟩) (by simp)).trans (by simp)
  have c2 : w2.cell? ⟨w.heap.size, 2, none⟩ = some (.int .u64 u) := (hb2'.cell (p := ⟨w.heap.size, 2, none⟩) (by simp)).trans (by simp)
  have Hb2 := hide (below_al hb2')
  clear hb2 hb2' ht Hb1
  go_wp2_with fail
  refine (HN.out _).mono ?_
  rintro e w3 ⟨rfl, hb3⟩
  have Hb3 := hide (Hb2.out.trans (hb3.mono Hb2.out.size))
  clear hb3
  go_wp2_with fail
  refine (HF.out _ Hb3.out).mono ?_
  rintro e w4 ⟨t', rfl, ht', hb4⟩
  have Hb4 := hide (Hb3.out.trans (hb4.mono Hb3.out.size))
  obtain rfl : t = t' := Ht.out.unique ht'
  clear hb4 ht'
  go_wp2
  go_ret
  exact ⟨rfl, Hb4.out⟩

end Go.Proofs.YtamdnnkdnhkghaaGreatDoor

namespace Go.Proofs.YtamdnnkdnhkghaaGreatDoor

open Go.ChangeShapes Go.WideShapes Go.ChangeAt Go Go.RowKit Go.ChangeMaps Go.WideElems Go.Joins Go.Deep

set_option linter.unusedVariables false

abbrev laidFN := Rows.fnExactFormatNumberRow.laid

theorem listedFN : Listed laidFN := by
  constructor
  all_goals (unfold laidFN Rows.fnExactFormatNumberRow; simp only [List.mem_cons, true_or, or_true])

/-- What formatting wants, of a row's list. -/
theorem fe_of {L : List (String × DataW Unit)} {W : World} (h : laidMet Tryz.prog L W) (hL : Listed L) (hf : L.filter (fun x => x.1 == "internal/strconv.uint64pow10") = [("internal/strconv.uint64pow10", Lib.tabData .u64 Lib.pow10Tab)]) (hS : W.ShapedOpen Tryz.prog) : FE W := by
  obtain ⟨G, o, P, po, C, co, ev, m, hE⟩ := env_of h hL hS
  refine ⟨⟨?_, rd_pow10 h hL.pow10, rd_optimize h hL.opt, ?_⟩, G, o, P, po, C, co, ev, m, hE⟩
  · obtain ⟨C, co, hC⟩ := rd_cheats h hL.cheats
    exact hC.size
  · have h2 := laidMet.filter (fun x => x.1 == "internal/strconv.uint64pow10") h
    rw [hf] at h2
    exact Lib.tabIs_of_head (g := 6) (t := 183) (n := 20) (by kernel_rfl) (by kernel_rfl) (by kernel_rfl) Tryz.underlying22 (by kernel_rfl) (by kernel_rfl) h2

theorem num24 : ∃ f0 f1 f2 : Field, Tryz.prog.underlying 24 = some (.struct #[f0, f1, f2]) ∧ f0.type = 4 ∧ f1.type = 3 ∧ f2.type = 22 ∧ oneCellFields Tryz.prog #[f0, f1, f2] = true ∧ Tryz.prog.cellsOf 24 = 3 :=
  ⟨_, _, _, Tryz.underlying24, rfl, rfl, rfl, by kernel_rfl, by kernel_rfl⟩

set_option maxRecDepth 100000 in
/-- What the walks give, for every number and every world that holds the tables. -/
theorem fcontract (H : Type) (enc : TypeId × Value → H) (W : World) (base : Nat) (args : Array Value) (ds gs : List (DataW H)) (before : List MemPlace)
    (hval : ∀ (j : Nat) t v, Tryz.f3.params[j]? = some t → args[j]? = some v → Value.okWide Tryz.prog W .any base t v)
    (hW : DataW.Whole enc Tryz.prog Tryz.f3.params.toList Rows.fnExactFormatNumberSpec.vars false W args.toList ds gs before) (hL : laidMetH Tryz.prog Rows.fnExactFormatNumberRow.laid W) (hS : W.ShapedOpen Tryz.prog) :
    Calls Tryz.prog 3 args W fun e W' => ∃ v, e = .returned v ∧ Rows.fnExactFormatNumberSpec.post enc Tryz.prog Tryz.f3 false true false false W args v W' := by
  have hW' := hW
  obtain ⟨p, q, hA0, hV, rfl, hfz, hnd⟩ := hW
  have hA : DataW.TrodAll enc Tryz.prog W 0 (fun _ => true) true Tryz.f3.params.toList args.toList ds p := hA0
  rw [Tryz.params3] at hA hval
  obtain ⟨v0, vs0, d0, ds0, p0, q0, hargs, rfl, rfl, h0, r0⟩ := trodAll_cons hA
  obtain ⟨rfl, rfl, rfl⟩ := trodAll_nil r0
  obtain rfl : args = #[v0] := by cases args; simp_all
  obtain ⟨f0, f1, f2, hu, t0, t1, t2, hone, hcells⟩ := num24
  obtain ⟨c0, c1, c2, y0, y1, y2, m, rfl, rfl, rfl, hy0, hy1, hy2⟩ := open_agg3 hu hone hcells (hval 0 24 v0 rfl rfl) h0
  rw [t0] at hy0
  rw [t1] at hy1
  rw [t2] at hy2
  obtain ⟨f, e0, rfl⟩ := DataW.trod_bool Tryz.underlying4 hy0
  obtain ⟨i, e1, rfl, wi⟩ := DataW.trod_int Tryz.underlying3 hy1
  obtain ⟨u, e2, rfl, wu⟩ := DataW.trod_int Tryz.underlying22 hy2
  simp at e0 e1 e2
  subst e0 e1 e2
  clear hA0
  obtain ⟨rfl, rfl⟩ := trodVars_none hV
  have ri : -9223372036854775808 ≤ i ∧ i ≤ 9223372036854775807 := by
    have := wi
    have m1 : IntKind.i64.min = -9223372036854775808 := by decide
    have m2 : IntKind.i64.max = 9223372036854775807 := by decide
    simp only [Lit.wf, Bool.and_eq_true, decide_eq_true_eq, m1, m2] at this
    omega
  have ru : 0 ≤ u ∧ u < 18446744073709551616 := by
    have := wu
    have m1 : IntKind.u64.min = 0 := by decide
    have m2 : IntKind.u64.max = 18446744073709551615 := by decide
    simp only [Lit.wf, Bool.and_eq_true, decide_eq_true_eq, m1, m2] at this
    omega
  have hL' : laidMet Tryz.prog laidFN W := hL
  have hF : FE W := fe_of hL' listedFN rfl hS
  refine (fnlaw_any f i u W ri.1 ri.2 ru.1 ru.2 hF).mono fun e W' ⟨he, hb⟩ => ?_
  subst he
  have hst : ∀ (sp : Nat → Bool), DataW.Trod enc Tryz.prog W' 0 sp true 24 (.agg #[.bool f, .int .i64 i, .int .u64 u]) (.agg [.lit (.bool f), .lit (.int .i64 i), .lit (.int .u64 u)]) [] := fun sp => by
    have := shut_agg3 (enc := enc) (w := W') (base := 0) (spare := sp) (held := true) (v0 := .bool f) (v1 := .int .i64 i) (v2 := .int .u64 u) (y0 := (.lit (.bool f), [])) (y1 := (.lit (.int .i64 i), [])) (y2 := (.lit (.int .u64 u), [])) hu hone hcells ⟨1, by rw [t0]; simp [DataW.trod, Tryz.underlying4]⟩ ⟨1, by rw [t1]; simp [DataW.trod, Tryz.underlying3, wi]⟩ ⟨1, by rw [t2]; simp [DataW.trod, Tryz.underlying22, wu]⟩
    simpa using this
  refine ⟨_, rfl, post_low hW' (pa := []) (pv := []) (fun _ _ _ => trodAll_cons_mk (shut_bool Tryz.underlying4 _) trodAll_mk0) (fun sp _ => trodAll_cons_mk (hst sp) trodAll_mk0)
    (fun sp hsp => rfl) (by simp) hb (ok_one (by kernel_rfl) rfl (okWide_bool_mk Tryz.underlying4 _))⟩

end Go.Proofs.YtamdnnkdnhkghaaGreatDoor
