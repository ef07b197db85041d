import Derived.Test.YtamdnnkdnhkghaaGreatDoorT42
import Derived.Test.YtamdnnkdnhkghaaGreatDoorT43
import Derived.Test.YtamdnnkdnhkghaaGreatDoorT27
namespace Go.Proofs.YtamdnnkdnhkghaaGreatDoor

open Go Go.RowKit

set_option linter.unusedVariables false

set_option maxHeartbeats 1600000 in
set_option maxRecDepth 100000 in
theorem st_int (i u : Int) (w : World) (h0 : -9223372036854775808 ≤ i) (h1 : i ≤ 9223372036854775807) :
    Calls Tryz.prog 20 #[.agg #[.bool false, .int .i64 i, .int .u64 u]] w fun e w' => FNum (fun t => t = ⟨(Lib.itoa i).toArray⟩) w e w' := by
  have HI := hide (fun (w1 : World) => dec_any i w1 h0 h1)
  go_enter Tryz.func20, Tryz.ntmps20
  go_wp2_with fail
  refine (HI.out _).mono ?_
  rintro e w1 ⟨rfl, hb1⟩
  have Hb1 := hide hb1
  clear hb1
  go_wp2
  go_ret
  exact ⟨_, rfl, rfl, below_al Hb1.out⟩

set_option maxHeartbeats 1600000 in
set_option maxRecDepth 100000 in
theorem st_nan (i : Int) (W : Nat) (w : World) (h1 : CB 46 #[.int .u64 W] true) :
    Calls Tryz.prog 20 #[.agg #[.bool true, .int .i64 i, .int .u64 W]] w fun e w' => FNum (fun t => t = strL [110, 97, 110]) w e w' := by
  have G1 := hide h1
  clear h1
  go_enter Tryz.func20, Tryz.ntmps20
  go_wp2_with fail
  refine (G1.out _).mono ?_
  rintro e w2 ⟨rfl, rfl⟩
  go_wp2
  go_ret
  exact ⟨_, rfl, rfl, (Below.refl _ _).alloc (Nat.le_refl _) _⟩

set_option maxHeartbeats 1600000 in
set_option maxRecDepth 100000 in
theorem st_inf (i : Int) (W : Nat) (s : Bool) (w : World) (h1 : CB 46 #[.int .u64 W] false) (h2 : CB 47 #[.int .u64 W] s) (h3 : CB 48 #[.int .u64 W] true) :
    Calls Tryz.prog 20 #[.agg #[.bool true, .int .i64 i, .int .u64 W]] w fun e w' => FNum (fun t => t = strL (sgL s ++ [105, 110, 102])) w e w' := by
  have G1 := hide h1
  have G2 := hide h2
  have G3 := hide h3
  clear h1 h2 h3
  go_enter Tryz.func20, Tryz.ntmps20
  go_wp2_with fail
  refine (G1.out _).mono ?_
  rintro e w2 ⟨rfl, rfl⟩
  go_wp2_with fail
  refine (G2.out _).mono ?_
  rintro e w2 ⟨rfl, rfl⟩
  cases s with
  | false =>
    go_wp2_with fail
    refine (G3.out _).mono ?_
    rintro e w2 ⟨rfl, rfl⟩
    go_wp2
    go_ret
    exact ⟨_, rfl, rfl, (Below.refl _ _).alloc (Nat.le_refl _) _⟩
  | true =>
    go_wp2_with fail
    refine (G3.out _).mono ?_
    rintro e w2 ⟨rfl, rfl⟩
    go_wp2
    go_ret
    exact ⟨_, rfl, rfl, (Below.refl _ _).alloc (Nat.le_refl _) _⟩

set_option maxHeartbeats 1600000 in
set_option maxRecDepth 100000 in
theorem st_fin (i : Int) (W r : Nat) (s : Bool) (M : List Int → Prop) (w : World) (h1 : CB 46 #[.int .u64 W] false) (h2 : CB 47 #[.int .u64 W] s) (h3 : CB 48 #[.int .u64 W] false) (hm : (W : Int) % 9223372036854775808 = r)
    (HM : ∀ w1, Calls Tryz.prog 49 #[.int .u64 r] w1 fun e w' => ∃ L, e = .returned (.string (strL L)) ∧ M L ∧ Below w1.heap.size w1 w') (hML : ∀ L, M L → L.length ≤ 1000) :
    Calls Tryz.prog 20 #[.agg #[.bool true, .int .i64 i, .int .u64 W]] w fun e w' => FNum (fun t => ∃ L, M L ∧ t = strL (sgL s ++ L)) w e w' := by
  have G1 := hide h1
  have G2 := hide h2
  have G3 := hide h3
  have GM := hide HM
  have GL := hide hML
  clear h1 h2 h3 HM hML
  go_enter Tryz.func20, Tryz.ntmps20
  go_wp2_with fail
  refine (G1.out _).mono ?_
  rintro e w2 ⟨rfl, rfl⟩
  go_wp2_with fail
  refine (G2.out _).mono ?_
  rintro e w2 ⟨rfl, rfl⟩
  cases s with
  | false =>
    go_wp2_with fail
    refine (G3.out _).mono ?_
    rintro e w2 ⟨rfl, rfl⟩
    go_wp2_with fail
    refine (GM.out _).mono ?_
    rintro e w3 ⟨L, rfl, hL, hb3⟩
    have HL := hide hL
    have Hb3 := hide (below_al hb3)
    have hsz := strL_size L
    have hl1 := GL.out L hL
    clear hb3 hL
    go_wp2
    go_ret
    exact ⟨_, rfl, ⟨L, HL.out, strL_append [] L⟩, Hb3.out⟩
  | true =>
    go_wp2_with fail
    refine (G3.out _).mono ?_
    rintro e w2 ⟨rfl, rfl⟩
    go_wp2_with fail
    refine (GM.out _).mono ?_
    rintro e w3 ⟨L, rfl, hL, hb3⟩
    have HL := hide hL
    have Hb3 := hide (below_al hb3)
    have hsz := strL_size L
    have hl1 := GL.out L hL
    clear hb3 hL
    go_wp2
    go_ret
    exact ⟨_, rfl, ⟨L, HL.out, strL_append [45] L⟩, Hb3.out⟩

theorem MagT.len {r c : Nat} {L : List Int} (h : MagT r c L) : L.length ≤ 1000 := by
  rcases h with ⟨_, rfl⟩ | ⟨_, n, d, q, hf, rfl⟩
  · decide
  · have h1 := hf.n1
    have h2 := hf.n17
    unfold FT
    split
    · have := eTxt_len (d := d) (X := (n : Int) - 1 - q) h1 h2
      omega
    · rename_i hX
      unfold plainL
      split
      · simp [digL_len]; omega
      · split
        · simp [digL_len]; omega
        · simp [digL_len]; omega

/-- The document's 'FormatNumber' at a float. -/
theorem st_float (i : Int) (s : Bool) (r c : Nat) (w : World) (hr : r < 9223372036854775808)
    (HM : r < infW → ∀ w1, Calls Tryz.prog 49 #[.int .u64 r] w1 fun e w' => ∃ L, e = .returned (.string (strL L)) ∧ MagT r c L ∧ Below w1.heap.size w1 w') :
    Calls Tryz.prog 20 #[.agg #[.bool true, .int .i64 i, .int .u64 (wordS s r : Nat)]] w fun e w' => FNum (WordT s r c) w e w' := by
  have hA := asCalls (s := s) hr
  have c1 : CB 46 #[.int .u64 (wordS s r : Nat)] (decide (infW < r)) := hA.c1
  have c3 : CB 48 #[.int .u64 (wordS s r : Nat)] (decide (r = infW)) := hA.c2
  have c2 : CB 47 #[.int .u64 (wordS s r : Nat)] s := fun w => by
    have := minor_any ((wordS s r : Nat) : Int) w
    rw [wordS_minor hr] at this
    exact this
  by_cases hn : infW < r
  · rw [decide_eq_true hn] at c1
    refine (st_nan i _ w c1).mono ?_
    rintro e w' ⟨t, rfl, rfl, hb⟩
    exact ⟨_, rfl, .inl ⟨hn, rfl⟩, hb⟩
  · rw [decide_eq_false hn] at c1
    by_cases hi : r = infW
    · rw [decide_eq_true hi] at c3
      refine (st_inf i _ s w c1 c2 c3).mono ?_
      rintro e w' ⟨t, rfl, rfl, hb⟩
      exact ⟨_, rfl, .inr (.inl ⟨hi, rfl⟩), hb⟩
    · rw [decide_eq_false hi] at c3
      have hlt : r < infW := by omega
      refine (st_fin i _ r s (MagT r c) w c1 c2 c3 (wordS_mod hr) (HM hlt) (fun L h => h.len)).mono ?_
      rintro e w' ⟨t, rfl, ⟨L, hL, rfl⟩, hb⟩
      exact ⟨_, rfl, .inr (.inr ⟨hlt, L, hL, rfl⟩), hb⟩

end Go.Proofs.YtamdnnkdnhkghaaGreatDoor

namespace Go.Proofs.YtamdnnkdnhkghaaGreatDoor

open Go Go.RowKit

set_option linter.unusedVariables false

theorem ftext_all (r c : Nat) (w : World) (hc : c = 1074) (hr : r < infW) :
    Calls Tryz.prog 49 #[.int .u64 r] w fun e w' => ∃ L, e = .returned (.string (strL L)) ∧ MagT r c L ∧ Below w.heap.size w w' := by
  by_cases h0 : r = 0
  · subst h0
    refine (ftext_zero w).mono ?_
    rintro e w' ⟨rfl, rfl⟩
    exact ⟨_, rfl, .inl ⟨rfl, rfl⟩, Below.refl _ _⟩
  · exact ftext_any r c w hc (by omega) hr

/-- The text of a number. -/
def NumT (f : Bool) (i u : Int) (t : ByteArray) : Prop :=
  if f = true then ∃ s r, u = ((wordS s r : Nat) : Int) ∧ r < 9223372036854775808 ∧ ∃ c, c = 1074 ∧ WordT s r c t else t = ⟨(Lib.itoa i).toArray⟩

theorem wordS_inj {s s' : Bool} {r r' : Nat} (h : r < 9223372036854775808) (h' : r' < 9223372036854775808) (e : wordS s r = wordS s' r') : s = s' ∧ r = r' := by
  unfold wordS at e
  cases s <;> cases s' <;> simp at e ⊢ <;> omega

theorem NumT.unique {f : Bool} {i u : Int} {t t' : ByteArray} (h : NumT f i u t) (h' : NumT f i u t') : t = t' := by
  unfold NumT at h h'
  by_cases hf : f = true
  · rw [if_pos hf] at h h'
    obtain ⟨s, r, e, hr, c, hc, hT⟩ := h
    obtain ⟨s', r', e', hr', c', hc', hT'⟩ := h'
    obtain ⟨rfl, rfl⟩ := wordS_inj (s := s) (s' := s') hr hr' (by omega)
    subst hc hc'
    exact hT.unique hT'
  · rw [if_neg hf] at h h'
    rw [h, h']

theorem u64_split {u : Int} (h0 : 0 ≤ u) (h1 : u < 18446744073709551616) : ∃ s r, u = ((wordS s r : Nat) : Int) ∧ r < 9223372036854775808 := by
  have := word_split (W := u.toNat) (by omega)
  exact ⟨decide (9223372036854775808 ≤ u.toNat), u.toNat % 9223372036854775808, by rw [← this]; omega, Nat.mod_lt _ (by omega)⟩

theorem fnum_any (f : Bool) (i u : Int) (w : World) (hi0 : -9223372036854775808 ≤ i) (hi1 : i ≤ 9223372036854775807) (h0 : 0 ≤ u) (h1 : u < 18446744073709551616) (hF : FE w) :
    Calls Tryz.prog 10 #[.agg #[.bool f, .int .i64 i, .int .u64 u]] w fun e w' => FNum (NumT f i u) w e w' := by
  cases f with
  | false =>
    refine (fn_int i u w hi0 hi1 hF).mono ?_
    rintro e w' ⟨t, rfl, ht, hb⟩
    exact ⟨t, rfl, by unfold NumT; rw [if_neg (by decide)]; exact ht, hb⟩
  | true =>
    obtain ⟨s, r, rfl, hr⟩ := u64_split h0 h1
    obtain ⟨c, hc⟩ : ∃ c : Nat, c = 1074 := ⟨_, rfl⟩
    refine (fn_float i s r c w hc hr hF).mono ?_
    rintro e w' ⟨t, rfl, ht, hb⟩
    exact ⟨t, rfl, by unfold NumT; rw [if_pos rfl]; exact ⟨s, r, rfl, hr, c, hc, ht⟩, hb⟩

theorem snum_any (f : Bool) (i u : Int) (w : World) (hi0 : -9223372036854775808 ≤ i) (hi1 : i ≤ 9223372036854775807) (h0 : 0 ≤ u) (h1 : u < 18446744073709551616) :
    Calls Tryz.prog 20 #[.agg #[.bool f, .int .i64 i, .int .u64 u]] w fun e w' => FNum (NumT f i u) w e w' := by
  cases f with
  | false =>
    refine (st_int i u w hi0 hi1).mono ?_
    rintro e w' ⟨t, rfl, ht, hb⟩
    exact ⟨t, rfl, by unfold NumT; rw [if_neg (by decide)]; exact ht, hb⟩
  | true =>
    obtain ⟨s, r, rfl, hr⟩ := u64_split h0 h1
    obtain ⟨c, hc⟩ : ∃ c : Nat, c = 1074 := ⟨_, rfl⟩
    refine (st_float i s r c w hr (fun hlt w1 => ftext_all r c w1 hc hlt)).mono ?_
    rintro e w' ⟨t, rfl, ht, hb⟩
    exact ⟨t, rfl, by unfold NumT; rw [if_pos rfl]; exact ⟨s, r, rfl, hr, c, hc, ht⟩, hb⟩

set_option maxHeartbeats 1600000 in
set_option maxRecDepth 100000 in
theorem sfn_any (f : Bool) (i u : Int) (T : ByteArray → Prop) (w : World) (H : ∀ w, Calls Tryz.prog 20 #[.agg #[.bool f, .int .i64 i, .int .u64 u]] w fun e w' => FNum T w e w') :
    Calls Tryz.prog 8 #[.agg #[.bool f, .int .i64 i, .int .u64 u]] w fun e w' => FNum T w e w' := by
  have HH := hide H
  clear H
  go_enter Tryz.func8, Tryz.ntmps8
  go_wp2_with fail
  refine (HH.out _).mono ?_
  rintro e w1 ⟨t, rfl, ht, hb1⟩
  have Hb1 := hide hb1
  have Ht := hide ht
  clear hb1 ht
  go_wp2
  go_ret
  exact ⟨t, rfl, Ht.out, below_al Hb1.out⟩

end Go.Proofs.YtamdnnkdnhkghaaGreatDoor

namespace Go.Proofs.YtamdnnkdnhkghaaGreatDoor

open Go Go.RowKit

set_option linter.unusedVariables false

/-- The code that is drawn from. -/
def CodeAt (B : Nat) (w : World) (v : Value) (n : Nat) : Prop :=
  (n = 0 ∧ ∃ a cap, v = .slice a 0 cap) ∨ ∃ b o cap, v = .slice (some ⟨b, o, none⟩) n cap ∧ b < B ∧ ∀ j, j < n → ∃ c : Int, 0 ≤ c ∧ c ≤ 255 ∧ w.cell? ⟨b, o + j, none⟩ = some (.int .u8 c)

/-- A source of draws in block S. -/
def Src (B : Nat) (w : World) (S : Nat) : Prop :=
  B ≤ S ∧ S < w.heap.size ∧ ∃ (v : Value) (n i : Nat) (x : Int), CodeAt B w v n ∧ n ≤ 1048576 ∧ i ≤ n ∧ 0 ≤ x ∧ x < 18446744073709551616 ∧
    w.cell? ⟨S, 0, none⟩ = some v ∧ w.cell? ⟨S, 1, none⟩ = some (.int .i64 i) ∧ w.cell? ⟨S, 2, none⟩ = some (.int .u64 x) ∧ w.frozen? ⟨S, 1, none⟩ = false ∧ w.frozen? ⟨S, 2, none⟩ = false

theorem CodeAt.below {B : Nat} {w w' : World} {v : Value} {n : Nat} (h : CodeAt B w v n) (hb : Below B w w') : CodeAt B w' v n := by
  rcases h with h | ⟨b, o, cap, rfl, hbB, hc⟩
  · exact .inl h
  · refine .inr ⟨b, o, cap, rfl, hbB, fun j hj => ?_⟩
    obtain ⟨c, h0, h1, h2⟩ := hc j hj
    exact ⟨c, h0, h1, (hb.cell (p := ⟨b, o + j, none⟩) hbB).trans h2⟩

theorem draw_range {X k : Int} (h0 : 0 ≤ X) (h1 : X < 18446744073709551616) (hk : 1 < k) (hk2 : k ≤ 9223372036854775807) : 0 ≤ wrap64 ((X / 8589934592).tmod k) ∧ wrap64 ((X / 8589934592).tmod k) < k := by
  have hq : 0 ≤ X / 8589934592 := Int.ediv_nonneg h0 (by omega)
  rw [Int.tmod_eq_emod_of_nonneg hq]
  have a1 := Int.emod_nonneg (X / 8589934592) (show k ≠ 0 by omega)
  have a2 := Int.emod_lt_of_pos (X / 8589934592) (show 0 < k by omega)
  have : wrap64 (X / 8589934592 % k) = X / 8589934592 % k := by
    generalize X / 8589934592 % k = y at *
    simp [wrap64]
    omega
  rw [this]
  exact ⟨a1, a2⟩

theorem u64_range (X : Int) : 0 ≤ IntKind.u64.wrap X ∧ IntKind.u64.wrap X < 18446744073709551616 := by
  rw [IntKind.wrap_u64]
  omega

theorem src_put2 {B S : Nat} {w : World} (h : Src B w S) (m : Nat) (X : Int) (hX0 : 0 ≤ X) (hX1 : X < 18446744073709551616) : Src B ((w.drewN m).setCell ⟨S, 2, none⟩ (.int .u64 X)) S ∧ Below B w ((w.drewN m).setCell ⟨S, 2, none⟩ (.int .u64 X)) := by
  obtain ⟨hB, hS, v, n, i, x, hC, hn, hi, hx0, hx1, c0, c1, c2, z1, z2⟩ := h
  have hbl : Below B w ((w.drewN m).setCell ⟨S, 2, none⟩ (.int .u64 X)) := (below_drw (Below.refl B w) m).setCell hB _
  have e0 : (w.drewN m).cell? ⟨S, 0, none⟩ = some v := c0
  have e1 : (w.drewN m).cell? ⟨S, 1, none⟩ = some (.int .i64 i) := c1
  have e2 : (w.drewN m).cell? ⟨S, 2, none⟩ = some (.int .u64 x) := c2
  have y1 : (w.drewN m).frozen? ⟨S, 1, none⟩ = false := z1
  have y2 : (w.drewN m).frozen? ⟨S, 2, none⟩ = false := z2
  refine ⟨⟨hB, Nat.lt_of_lt_of_le hS (by simp), v, n, i, X, hC.below hbl, hn, hi, hX0, hX1, ?_, ?_, ?_, ?_, ?_⟩, hbl⟩
  · exact (World.cell?_setCell_other _ _ _ _ (by simp)).trans e0
  · exact (World.cell?_setCell_other _ _ _ _ (by simp)).trans e1
  · exact World.cell?_setCell_same _ _ _ e2
  · rw [World.frozen?_setCell]; exact y1
  · rw [World.frozen?_setCell]; exact y2

theorem src_put1 {B S : Nat} {w : World} (h : Src B w S) (m k : Nat) (hk : ∀ v n i, w.cell? ⟨S, 0, none⟩ = some v → CodeAt B w v n → w.cell? ⟨S, 1, none⟩ = some (.int .i64 i) → k ≤ n) : Src B ((w.drewN m).setCell ⟨S, 1, none⟩ (.int .i64 k)) S ∧ Below B w ((w.drewN m).setCell ⟨S, 1, none⟩ (.int .i64 k)) := by
  obtain ⟨hB, hS, v, n, i, x, hC, hn, hi, hx0, hx1, c0, c1, c2, z1, z2⟩ := h
  have hbl : Below B w ((w.drewN m).setCell ⟨S, 1, none⟩ (.int .i64 k)) := (below_drw (Below.refl B w) m).setCell hB _
  have e0 : (w.drewN m).cell? ⟨S, 0, none⟩ = some v := c0
  have e1 : (w.drewN m).cell? ⟨S, 1, none⟩ = some (.int .i64 i) := c1
  have e2 : (w.drewN m).cell? ⟨S, 2, none⟩ = some (.int .u64 x) := c2
  have y1 : (w.drewN m).frozen? ⟨S, 1, none⟩ = false := z1
  have y2 : (w.drewN m).frozen? ⟨S, 2, none⟩ = false := z2
  refine ⟨⟨hB, Nat.lt_of_lt_of_le hS (by simp), v, n, k, x, hC.below hbl, hn, hk v n i c0 hC c1, hx0, hx1, ?_, ?_, ?_, ?_, ?_⟩, hbl⟩
  · exact (World.cell?_setCell_other _ _ _ _ (by simp)).trans e0
  · exact World.cell?_setCell_same _ _ _ e1
  · exact (World.cell?_setCell_other _ _ _ _ (by simp)).trans e2
  · rw [World.frozen?_setCell]; exact y1
  · rw [World.frozen?_setCell]; exact y2

theorem codeAt_len {B : Nat} {w : World} {v : Value} {n m : Nat} (h : CodeAt B w v n) (h' : CodeAt B w v m) : n = m := by
  rcases h with ⟨rfl, a, cap, rfl⟩ | ⟨b, o, cap, rfl, _⟩
  · rcases h' with ⟨rfl, _⟩ | ⟨b', o', cap', e, _⟩
    · rfl
    · cases e; rfl
  · rcases h' with ⟨rfl, a', cap', e⟩ | ⟨b', o', cap', e, _⟩
    · cases e; rfl
    · cases e; rfl

set_option maxHeartbeats 1600000 in
set_option maxRecDepth 100000 in
theorem drawN_any (B S : Nat) (k : Int) (w : World) (hk : 1 < k) (hk2 : k ≤ 9223372036854775807) (h : Src B w S) :
    Calls Tryz.prog 32 #[.pointer (some ⟨S, 0, none⟩), .int .i64 k] w fun e w' => ∃ r : Int, e = .returned (.int .i64 r) ∧ 0 ≤ r ∧ r < k ∧ Src B w' S ∧ Below B w w' ∧ ∀ p : Addr, p.block ≠ S → w'.cell? p = w.cell? p ∧ w'.frozen? p = w.frozen? p := by
  have HSrc := hide h
  obtain ⟨hB, hS, v, n, i, x, hC, hn, hi, hx0, hx1, c0, c1, c2, z1, z2⟩ := h
  have HC := hide hC
  have hk1 : ¬ k ≤ 1 := by omega
  rcases hC with ⟨rfl, a, cap, rfl⟩ | ⟨b, o, cap, rfl, hb, hc⟩
  · obtain rfl : i = 0 := by omega
    go_enter Tryz.func32, Tryz.ntmps32
    go_wp2
    go_quiet (fail)
    go_wp2
    go_ret
    have hr := u64_range (IntKind.u64.wrap (x * 6364136223846793005) + 1442695040888963407)
    have hd := draw_range hr.1 hr.2 hk hk2
    have hp := src_put2 HSrc.out nq _ hr.1 hr.2
    exact ⟨_, rfl, hd.1, hd.2, hp.1, hp.2, fun p hp => ⟨World.cell?_setCell_other _ _ _ _ (fun e => hp (by rw [← e])), World.frozen?_setCell _ _ _ _⟩⟩
  · by_cases hin : i < n
    · obtain ⟨c, hc0, hc1, hcc⟩ := hc i hin
      have HP := hide (fun m => src_put1 HSrc.out m (i + 1) (fun v' n' i' e0 hC' e1 => by
        rw [c0] at e0
        cases e0
        have := codeAt_len hC' HC.out
        omega))
      go_enter Tryz.func32, Tryz.ntmps32
      go_wp2
      go_quiet (fail)
      go_wp2
      go_quiet (fail)
      go_wp2
      go_ret
      have hr := u64_range (IntKind.u64.wrap (IntKind.u64.wrap (x + (c + 1)) * 6364136223846793005) + 1442695040888963407)
      have hd := draw_range hr.1 hr.2 hk hk2
      refine ⟨_, rfl, hd.1, hd.2, ?_⟩
      have hall : ∀ m, Src B (((w.drewN m).setCell ⟨S, 1, none⟩ (.int .i64 ((i + 1 : Nat) : Int))).setCell ⟨S, 2, none⟩ (.int .u64 (IntKind.u64.wrap (IntKind.u64.wrap (IntKind.u64.wrap (x + (c + 1)) * 6364136223846793005) + 1442695040888963407)))) S ∧ Below B w (((w.drewN m).setCell ⟨S, 1, none⟩ (.int .i64 ((i + 1 : Nat) : Int))).setCell ⟨S, 2, none⟩ (.int .u64 (IntKind.u64.wrap (IntKind.u64.wrap (IntKind.u64.wrap (x + (c + 1)) * 6364136223846793005) + 1442695040888963407)))) ∧ ∀ p : Addr, p.block ≠ S → (((w.drewN m).setCell ⟨S, 1, none⟩ (.int .i64 ((i + 1 : Nat) : Int))).setCell ⟨S, 2, none⟩ (.int .u64 (IntKind.u64.wrap (IntKind.u64.wrap (IntKind.u64.wrap (x + (c + 1)) * 6364136223846793005) + 1442695040888963407)))).cell? p = w.cell? p ∧ (((w.drewN m).setCell ⟨S, 1, none⟩ (.int .i64 ((i + 1 : Nat) : Int))).setCell ⟨S, 2, none⟩ (.int .u64 (IntKind.u64.wrap (IntKind.u64.wrap (IntKind.u64.wrap (x + (c + 1)) * 6364136223846793005) + 1442695040888963407)))).frozen? p = w.frozen? p := fun m => by
        have h1 := HP.out m
        have h2 := src_put2 h1.1 0 _ hr.1 hr.2
        exact ⟨h2.1, (h1.2.trans h2.2), fun p hp => ⟨(World.cell?_setCell_other _ _ _ _ (fun e => hp (by rw [← e]))).trans (World.cell?_setCell_other _ _ _ _ (fun e => hp (by rw [← e]))), (World.frozen?_setCell _ _ _ _).trans (World.frozen?_setCell _ _ _ _)⟩⟩
      exact hall _
    · go_enter Tryz.func32, Tryz.ntmps32
      go_wp2
      go_quiet (fail)
      go_wp2
      go_ret
      have hr := u64_range (IntKind.u64.wrap (x * 6364136223846793005) + 1442695040888963407)
      have hd := draw_range hr.1 hr.2 hk hk2
      have hp := src_put2 HSrc.out nq _ hr.1 hr.2
      exact ⟨_, rfl, hd.1, hd.2, hp.1, hp.2, fun p hp => ⟨World.cell?_setCell_other _ _ _ _ (fun e => hp (by rw [← e])), World.frozen?_setCell _ _ _ _⟩⟩

end Go.Proofs.YtamdnnkdnhkghaaGreatDoor

namespace Go.Proofs.YtamdnnkdnhkghaaGreatDoor

open Go Go.RowKit

set_option linter.unusedVariables false

theorem Src.below {B S : Nat} {w w' : World} (h : Src B w S) (hb : Below w.heap.size w w') : Src B w' S ∧ Below B w w' := by
  obtain ⟨hB, hS, v, n, i, x, hC, hn, hi, hx0, hx1, c0, c1, c2, z1, z2⟩ := h
  have hb' : Below B w w' := hb.mono (by omega)
  exact ⟨⟨hB, Nat.lt_of_lt_of_le hS hb.size, v, n, i, x, hC.below hb', hn, hi, hx0, hx1, (hb.cell (p := ⟨S, 0, none⟩) hS).trans c0, (hb.cell (p := ⟨S, 1, none⟩) hS).trans c1, (hb.cell (p := ⟨S, 2, none⟩) hS).trans c2,
    (hb.frozen (p := ⟨S, 1, none⟩) hS).trans z1, (hb.frozen (p := ⟨S, 2, none⟩) hS).trans z2⟩, hb'⟩

/-- A draw that goes on: what lies elsewhere stays. -/
def Drew (B S : Nat) (w w' : World) : Prop := Src B w' S ∧ Below B w w' ∧ ∀ p : Addr, p.block ≠ S → p.block < w.heap.size → w'.cell? p = w.cell? p ∧ w'.frozen? p = w.frozen? p

theorem Drew.refl {B S : Nat} {w : World} (h : Src B w S) : Drew B S w w := ⟨h, Below.refl _ _, fun _ _ _ => ⟨rfl, rfl⟩⟩

theorem Drew.trans {B S : Nat} {a b c : World} (h : Drew B S a b) (h' : Drew B S b c) : Drew B S a c :=
  ⟨h'.1, h.2.1.trans h'.2.1, fun p h1 h2 => ⟨(h'.2.2 p h1 (Nat.lt_of_lt_of_le h2 h.2.1.size)).1.trans (h.2.2 p h1 h2).1, (h'.2.2 p h1 (Nat.lt_of_lt_of_le h2 h.2.1.size)).2.trans (h.2.2 p h1 h2).2⟩⟩

theorem drew_low {B S : Nat} {b c : World} (h : Src B b S) (h' : Below b.heap.size b c) : Drew B S b c := ⟨(h.below h').1, (h.below h').2, fun p _ h2 => ⟨h'.cell h2, h'.frozen h2⟩⟩

theorem Drew.low {B S : Nat} {a b c : World} (h : Drew B S a b) (h' : Below b.heap.size b c) : Drew B S a c := h.trans (drew_low h.1 h')

theorem drawN_drew (B S : Nat) (k : Int) (w0 w : World) (hk : 1 < k) (hk2 : k ≤ 9223372036854775807) (h : Drew B S w0 w) :
    Calls Tryz.prog 32 #[.pointer (some ⟨S, 0, none⟩), .int .i64 k] w fun e w' => ∃ r : Int, e = .returned (.int .i64 r) ∧ 0 ≤ r ∧ r < k ∧ Drew B S w0 w' := by
  refine (drawN_any B S k w hk hk2 h.1).mono ?_
  rintro e w' ⟨r, rfl, h0, h1, hs, hb, hf⟩
  exact ⟨r, rfl, h0, h1, h.trans ⟨hs, hb, fun p hp _ => hf p hp⟩⟩

set_option maxHeartbeats 1600000 in
set_option maxRecDepth 100000 in
theorem one_any (B S : Nat) (k : Int) (w0 w : World) (hk : 1 < k) (hk2 : k ≤ 9223372036854775807) (h : Drew B S w0 w) :
    Calls Tryz.prog 27 #[.pointer (some ⟨S, 0, none⟩), .int .i64 k] w fun e w' => ∃ b : Bool, e = .returned (.bool b) ∧ Drew B S w0 w' := by
  have HN := hide (drawN_drew B S k w0 w hk hk2 h)
  clear h
  go_enter Tryz.func27, Tryz.ntmps27
  go_wp2_with fail
  refine HN.out.mono ?_
  rintro e w1 ⟨r, rfl, h0, h1, hd⟩
  have Hd := hide hd
  clear hd HN
  go_wp2
  go_ret
  exact ⟨_, rfl, Hd.out⟩

/-- How 'Wild' ends. -/
def WildR (B S : Nat) (w0 : World) (e : Ending) (w' : World) : Prop := ∃ v : Int, e = .returned (.int .i64 v) ∧ -9223372036854775808 ≤ v ∧ v ≤ 9223372036854775807 ∧ Drew B S w0 w'

theorem wrap_rng (x : Int) : -9223372036854775808 ≤ wrap64 x ∧ wrap64 x ≤ 9223372036854775807 := by
  simp only [wrap64]
  omega

set_option maxHeartbeats 1600000 in
set_option maxRecDepth 100000 in
theorem wild_any (B S : Nat) (w0 w : World) (h : Drew B S w0 w) :
    Calls Tryz.prog 31 #[.pointer (some ⟨S, 0, none⟩)] w fun e w' => WildR B S w0 e w' := by
  have HN := hide (fun k w hk hk2 h => drawN_drew B S k w0 w hk hk2 h)
  have Hh := hide h
  clear h
  go_enter Tryz.func31, Tryz.ntmps31
  go_wp2_with fail
  refine (HN.out _ _ (by omega) (by omega) Hh.out).mono ?_
  rintro e w1 ⟨r, rfl, h0, h1, hd⟩
  have Hd := hide hd
  clear hd Hh
  have hr : r = 0 ∨ r = 1 ∨ r = 2 ∨ r = 3 ∨ r = 4 ∨ r = 5 ∨ r = 6 := by omega
  clear h0 h1
  rcases hr with rfl | rfl | rfl | rfl | rfl | rfl | rfl
  · go_wp2
    go_ret
    exact ⟨_, rfl, by omega, by omega, Hd.out⟩
  · go_wp2
    go_ret
    exact ⟨_, rfl, by omega, by omega, Hd.out⟩
  · go_wp2
    go_ret
    exact ⟨_, rfl, by omega, by omega, Hd.out⟩
  · go_wp2_with fail
    refine (HN.out _ _ (by omega) (by omega) Hd.out).mono ?_
    rintro e w2 ⟨r2, rfl, h0, h1, hd2⟩
    have Hd2 := hide hd2
    clear hd2
    go_wp2
    go_ret
    exact ⟨_, rfl, by omega, by omega, Hd2.out⟩
  · go_wp2_with fail
    refine (HN.out _ _ (by omega) (by omega) Hd.out).mono ?_
    rintro e w2 ⟨r2, rfl, h0, h1, hd2⟩
    have Hd2 := hide hd2
    clear hd2
    go_wp2
    go_ret
    exact ⟨_, rfl, by omega, by omega, Hd2.out⟩
  · go_wp2_with fail
    refine (HN.out _ _ (by omega) (by omega) Hd.out).mono ?_
    rintro e w2 ⟨r2, rfl, h0, h1, hd2⟩
    have Hd2 := hide hd2
    clear hd2
    go_wp2_with fail
    refine (HN.out _ _ (by omega) (by omega) Hd2.out).mono ?_
    rintro e w3 ⟨r3, rfl, h2, h3, hd3⟩
    have Hd3 := hide hd3
    clear hd3 h0 h1 h2 h3
    go_wp2
    go_ret
    exact ⟨_, rfl, (wrap_rng _).1, (wrap_rng _).2, Hd3.out⟩
  · go_wp2_with fail
    refine (HN.out _ _ (by omega) (by omega) Hd.out).mono ?_
    rintro e w2 ⟨r2, rfl, h0, h1, hd2⟩
    have Hd2 := hide hd2
    clear hd2
    go_wp2
    go_ret
    exact ⟨_, rfl, by omega, by omega, Hd2.out⟩

set_option maxHeartbeats 1600000 in
set_option maxRecDepth 100000 in
theorem l01Int_any (i : Int) (w : World) : Calls Tryz.prog 30 #[.int .i64 i] w fun e w' => e = .returned (.agg #[.bool false, .int .i64 i, .int .u64 0]) ∧ Below w.heap.size w w' := by
  go_enter Tryz.func30, Tryz.ntmps30
  go_wp2
  refine bodyPost_ret (v := .agg #[.bool false, .int .i64 i, .int .u64 0]) ?_ rfl ⟨rfl, (Below.refl _ _).alloc (Nat.le_refl _) _⟩
  simp [results, Tryz.results30, go_sem]

set_option maxHeartbeats 1600000 in
set_option maxRecDepth 100000 in
theorem l01Float_any (W : Nat) (b : Bool) (w : World) (hW : W < 18446744073709551616) (h : CB 46 #[.int .u64 W] b) : Calls Tryz.prog 28 #[.int .u64 W] w fun e w' => (∃ U : Nat, U < 18446744073709551616 ∧ e = .returned (.agg #[.bool true, .int .i64 0, .int .u64 U])) ∧ Below w.heap.size w w' := by
  have G := hide h
  clear h
  go_enter Tryz.func28, Tryz.ntmps28
  go_wp2_with fail
  refine (G.out _).mono ?_
  rintro e w1 ⟨rfl, rfl⟩
  cases b with
  | false =>
    go_wp2
    refine bodyPost_ret (v := .agg #[.bool true, .int .i64 0, .int .u64 (W : Int)]) ?_ rfl ⟨⟨W, hW, rfl⟩, (Below.refl _ _).alloc (Nat.le_refl _) _⟩
    simp [results, Tryz.results28, go_sem]
  | true =>
    go_wp2
    refine bodyPost_ret (v := .agg #[.bool true, .int .i64 0, .int .u64 ((9221120237041090560 : Nat) : Int)]) ?_ rfl ⟨⟨9221120237041090560, by omega, rfl⟩, (Below.refl _ _).alloc (Nat.le_refl _) _⟩
    simp [results, Tryz.results28, go_sem]

end Go.Proofs.YtamdnnkdnhkghaaGreatDoor

namespace Go.Proofs.YtamdnnkdnhkghaaGreatDoor

open Go Go.RowKit

set_option linter.unusedVariables false

theorem wM_zero {r : Nat} : wM r = 0 ↔ r = 0 := by
  have := w_parts r
  unfold wM wK at *
  split at this <;> split <;> omega

theorem signedW_any (W : Nat) (b : Bool) (w : World) (h : W < 9223372036854775808) : Calls Tryz.prog 109 #[.int .u64 W, .bool b] w fun e w' => e = .returned (.int .u64 (wordS b W : Nat)) ∧ w' = w := by
  cases b with
  | false =>
    go_enter Tryz.func109, Tryz.ntmps109
    go_wp2
    go_ret
    exact ⟨rfl, rfl⟩
  | true =>
    have e : ((wordS true W : Nat) : Int) = (W : Int) + 9223372036854775808 := by unfold wordS; simp; omega
    rw [e]
    go_enter Tryz.func109, Tryz.ntmps109
    go_wp2
    go_ret
    exact ⟨rfl, rfl⟩

theorem word_all (n d : Nat) (e0 : Int) (vn vd : Value) (w : World) (hn : Big w vn (dig n)) (hd : Big w vd (dig d)) (hd0 : d ≠ 0) (hln : (dig n).length ≤ 1000) (hld : (dig d).length ≤ 2000) (he1 : -5000 ≤ e0) (he2 : e0 ≤ 5000) :
    Calls Tryz.prog 106 #[vn, vd, .int .i64 e0] w fun e w' => ∃ W : Nat, e = .returned (.int .u64 W) ∧ IsRnd (n * 2 ^ (e0 + 1074).toNat) (d * 2 ^ (-1074 - e0).toNat) W ∧ Below w.heap.size w w' := by
  by_cases h0 : n = 0
  · subst h0
    refine (word_zero vd vn w hn e0).mono ?_
    rintro e w' ⟨rfl, rfl⟩
    refine ⟨0, rfl, ?_, Below.refl _ _⟩
    rw [Nat.zero_mul]
    exact rnd_small (Nat.mul_pos (by omega) (Nat.pow_pos (by omega)))
  · exact word_any n d e0 vn vd w hn hd hd0 hln hld he1 he2 h0

/-- The looks at a word of a finite float. -/
structure FinC (W : Nat) (s z : Bool) : Prop where
  nan : CB 46 #[.int .u64 W] false
  minor : CB 47 #[.int .u64 W] s
  inf : CB 48 #[.int .u64 W] false
  zero : CB 108 #[.int .u64 W] z

theorem finC {s : Bool} {r : Nat} (hr : r < infW) : FinC (wordS s r) s (decide (r = 0)) := by
  have hr2 : r < 9223372036854775808 := by unfold infW at hr; omega
  have hA := asCalls (s := s) hr2
  have e1 : decide (infW < r) = false := decide_eq_false (by omega)
  have e2 : decide (r = infW) = false := decide_eq_false (by omega)
  rw [e1, e2] at hA
  refine ⟨hA.c1, fun w => ?_, hA.c2, fun w => ?_⟩
  · have := minor_any ((wordS s r : Nat) : Int) w
    rw [wordS_minor hr2] at this
    exact this
  · have := isZero_any ((wordS s r : Nat) : Int) w (by omega)
    rw [wordS_mod hr2] at this
    have e : (((r : Nat) : Int) == 0) = decide (r = 0) := by
      by_cases h : r = 0
      · subst h; rfl
      · rw [decide_eq_false h, beq_eq_false_iff_ne]; omega
    rw [e] at this
    exact this

set_option maxHeartbeats 1600000 in
set_option maxRecDepth 100000 in
theorem div_walk (A C r q : Nat) (s t : Bool) (z : Bool) (w : World) (hA : FinC A s z) (hC : FinC C t false) (hmA : (A : Int) % 9223372036854775808 = r) (hmC : (C : Int) % 9223372036854775808 = q) (hr : r < infW) (hq : q < infW) (hq0 : 0 < q) :
    Calls Tryz.prog 60 #[.int .u64 A, .int .u64 C] w fun e w' => ∃ W : Nat, e = .returned (.int .u64 (wordS (s != t) W : Nat)) ∧ IsRnd (wM r * 2 ^ (wE r - wE q + 1074).toNat) (wM q * 2 ^ (-1074 - (wE r - wE q)).toNat) W ∧ Below w.heap.size w w' := by
  have GA := hide hA
  have GC := hide hC
  have P1 := hide (fun w => parts_any r w hr)
  have P2 := hide (fun w => parts_any q w hq)
  have m1 := wM_lt r
  have m2 := wM_lt q
  have k1 := wK_lt hr
  have k2 := wK_lt hq
  have E1 : -1074 ≤ wE r ∧ wE r ≤ 972 := by unfold wE; omega
  have E2 : -1074 ≤ wE q ∧ wE q ≤ 972 := by unfold wE; omega
  have M0 : wM q ≠ 0 := fun h => by have := wM_zero.1 h; omega
  have O1 := hide (fun w => of_any (wM r) w (by omega))
  have O2 := hide (fun w => of_any (wM q) w (by omega))
  have L1 : (dig (wM r)).length ≤ 5 := dig_len5 (by omega)
  have L2 : (dig (wM q)).length ≤ 5 := dig_len5 (by omega)
  have Wd := hide (fun vn vd w hn hd => word_all (wM r) (wM q) (wE r - wE q) vn vd w hn hd M0 (by omega) (by omega) (by omega) (by omega))
  clear hA hC k1 k2 L1 L2 hr hq hq0
  generalize wM r = a1 at *
  generalize wM q = a2 at *
  generalize wE r = b1 at *
  generalize wE q = b2 at *
  go_enter Tryz.func60, Tryz.ntmps60
  cases z with
  | false =>
    go_wp2_with fail
    refine (GA.out.nan _).mono ?_
    rintro e w2 ⟨rfl, rfl⟩
    go_wp2_with fail
    refine (GC.out.nan _).mono ?_
    rintro e w2 ⟨rfl, rfl⟩
    go_wp2_with fail
    refine (GA.out.inf _).mono ?_
    rintro e w2 ⟨rfl, rfl⟩
    go_wp2_with fail
    refine (GA.out.zero _).mono ?_
    rintro e w2 ⟨rfl, rfl⟩
    go_wp2_with fail
    refine (GA.out.minor _).mono ?_
    rintro e w2 ⟨rfl, rfl⟩
    go_wp2_with fail
    refine (GC.out.minor _).mono ?_
    rintro e w2 ⟨rfl, rfl⟩
    go_wp2_with fail
    refine (GA.out.inf _).mono ?_
    rintro e w2 ⟨rfl, rfl⟩
    go_wp2_with fail
    refine (GC.out.zero _).mono ?_
    rintro e w2 ⟨rfl, rfl⟩
    go_wp2_with fail
    refine (GC.out.inf _).mono ?_
    rintro e w2 ⟨rfl, rfl⟩
    go_wp2_with fail
    refine (P1.out _).mono ?_
    rintro e w2 ⟨rfl, rfl⟩
    go_wp2_with fail
    refine (P2.out _).mono ?_
    rintro e w2 ⟨rfl, rfl⟩
    go_wp2_with fail
    refine (O1.out _).mono ?_
    rintro e w3 ⟨v3, rfl, hg3, hb3⟩
    go_wp2_with fail
    refine (O2.out _).mono ?_
    rintro e w4 ⟨v4, rfl, hg4, hb4⟩
    have Hw := hide (Wd.out v3 v4 w4 (hg3.below hb4) hg4)
    have Hb4 := hide (hb3.trans (hb4.mono hb3.size))
    clear hg3 hg4 hb3 hb4
    go_wp2_with fail
    refine Hw.out.mono ?_
    rintro e w5 ⟨W, rfl, hW, hb5⟩
    have Hb5 := hide (Hb4.out.trans (hb5.mono Hb4.out.size))
    have HW := hide hW
    have hWle := isRnd_le hW
    have Hs := hide (fun w => signedW_any W (s != t) w (by unfold infW at hWle; omega))
    clear hb5 hW hWle Hw
    go_wp2_with fail
    refine (Hs.out _).mono ?_
    rintro e w6 ⟨rfl, rfl⟩
    go_wp2
    go_ret
    exact ⟨W, rfl, HW.out, Hb5.out⟩
  | true =>
    go_wp2_with fail
    refine (GA.out.nan _).mono ?_
    rintro e w2 ⟨rfl, rfl⟩
    go_wp2_with fail
    refine (GC.out.nan _).mono ?_
    rintro e w2 ⟨rfl, rfl⟩
    go_wp2_with fail
    refine (GA.out.inf _).mono ?_
    rintro e w2 ⟨rfl, rfl⟩
    go_wp2_with fail
    refine (GA.out.zero _).mono ?_
    rintro e w2 ⟨rfl, rfl⟩
    go_wp2_with fail
    refine (GC.out.zero _).mono ?_
    rintro e w2 ⟨rfl, rfl⟩
    go_wp2_with fail
    refine (GA.out.minor _).mono ?_
    rintro e w2 ⟨rfl, rfl⟩
    go_wp2_with fail
    refine (GC.out.minor _).mono ?_
    rintro e w2 ⟨rfl, rfl⟩
    go_wp2_with fail
    refine (GA.out.inf _).mono ?_
    rintro e w2 ⟨rfl, rfl⟩
    go_wp2_with fail
    refine (GC.out.zero _).mono ?_
    rintro e w2 ⟨rfl, rfl⟩
    go_wp2_with fail
    refine (GC.out.inf _).mono ?_
    rintro e w2 ⟨rfl, rfl⟩
    go_wp2_with fail
    refine (P1.out _).mono ?_
    rintro e w2 ⟨rfl, rfl⟩
    go_wp2_with fail
    refine (P2.out _).mono ?_
    rintro e w2 ⟨rfl, rfl⟩
    go_wp2_with fail
    refine (O1.out _).mono ?_
    rintro e w3 ⟨v3, rfl, hg3, hb3⟩
    go_wp2_with fail
    refine (O2.out _).mono ?_
    rintro e w4 ⟨v4, rfl, hg4, hb4⟩
    have Hw := hide (Wd.out v3 v4 w4 (hg3.below hb4) hg4)
    have Hb4 := hide (hb3.trans (hb4.mono hb3.size))
    clear hg3 hg4 hb3 hb4
    go_wp2_with fail
    refine Hw.out.mono ?_
    rintro e w5 ⟨W, rfl, hW, hb5⟩
    have Hb5 := hide (Hb4.out.trans (hb5.mono Hb4.out.size))
    have HW := hide hW
    have hWle := isRnd_le hW
    have Hs := hide (fun w => signedW_any W (s != t) w (by unfold infW at hWle; omega))
    clear hb5 hW hWle Hw
    go_wp2_with fail
    refine (Hs.out _).mono ?_
    rintro e w6 ⟨rfl, rfl⟩
    go_wp2
    go_ret
    exact ⟨W, rfl, HW.out, Hb5.out⟩

end Go.Proofs.YtamdnnkdnhkghaaGreatDoor
