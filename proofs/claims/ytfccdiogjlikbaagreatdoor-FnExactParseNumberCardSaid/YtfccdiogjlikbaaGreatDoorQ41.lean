import Derived.Test.YtfccdiogjlikbaaGreatDoorQ40
namespace Go.Proofs.YtfccdiogjlikbaaGreatDoor
open Go Go.RowKit
set_option linter.unusedVariables false

theorem ipn_large (s : ByteArray) (w : World) (hs : 100 < s.size) (hr : s.size ≤ 140737488351232) :
    Calls Tryz.prog 5 #[.string s] w fun e w' => e = .returned zeroR ∧ Below w.heap.size w w' := by
  go_enter Tryz.func5, Tryz.ntmps5
  go_wp2
  refine bodyPost_ret (v := zeroR) (by simp [results, Tryz.results5, go_sem, numV, zeroR]) rfl ⟨rfl, ?_⟩
  exact (Below.refl _ _).alloc (Nat.le_refl _) _

set_option maxHeartbeats 800000 in
theorem ipn_hex (s : ByteArray) (w : World) (hs : s.size ≤ 100) (hx : 1 < s.size)
    (hq1 : Lib.hasPrefix s.data.toList [48, 120] = true ∨ (Lib.hasPrefix s.data.toList [48, 120] = false ∧ Lib.hasPrefix s.data.toList [48, 88] = true)) :
    Calls Tryz.prog 5 #[.string s] w fun e w' => e = .returned (hexR (s.extract 2 s.size)) ∧ Below w.heap.size w w' := by
  have hsz : (s.extract 2 s.size).size ≤ 100 := by simp; omega
  have P1 := fun (w' : World) => Tryz.strings_HasPrefix s ⟨#[48, 120]⟩ w'
  have P2 := fun (w' : World) => Tryz.strings_HasPrefix s ⟨#[48, 88]⟩ w'
  have hx2 : (2 : Int) ≤ (s.size : Int) := by omega
  rcases hq1 with hq1 | ⟨hq1, hq2⟩
  · have P1' : ∀ w', Calls Tryz.prog 14 #[.string s, .string ⟨#[48, 120]⟩] w' fun e w'' => e = .returned (.bool true) ∧ w'' = w' := fun w' => by
      have := P1 w'
      rw [show (⟨#[48, 120]⟩ : ByteArray).data.toList = [48, 120] from rfl, hq1] at this
      exact this
    have H1 := hide P1'
    clear P1 P2 P1' hq1
    go_enter Tryz.func5, Tryz.ntmps5
    go_wp2_with fail
    refine (H1.out _).mono ?_
    rintro e w0 ⟨rfl, rfl⟩
    go_wp2_with fail
    refine (implHex_any (s.extract 2 s.size) _ hsz).mono ?_
    rintro e w1 ⟨rfl, hb⟩
    have hb' : Below (w.heap.size + 1) (w.alloc (.cells #[.bool false, .int .i64 0, .int .u64 0] 24)) w1 := hb.mono (by simp)
    obtain ⟨c0, c1, c2, f0, f1, f2⟩ := resC hb'
    obtain ⟨x, ok, hh⟩ : ∃ x ok, hexR (s.extract 2 s.size) = .tuple #[.agg #[.bool false, .int .i64 x, .int .u64 0], .bool ok] := ⟨_, _, by unfold hexR numV; exact Eq.refl _⟩
    have Hh := hide hh
    rw [hh]
    clear hh
    go_wp2
    refine bodyPost_ret (v := .tuple #[.agg #[.bool false, .int .i64 x, .int .u64 0], .bool ok]) ?_ rfl ⟨by rw [Hh.out], ?_⟩
    · simp [results, Tryz.results5, go_sem, c0, c1, c2]
    · refine Below.setCell (Below.setCell (Below.setCell (below_res hb') ?_ _) ?_ _) ?_ _
      all_goals simp
  · have P1' : ∀ w', Calls Tryz.prog 14 #[.string s, .string ⟨#[48, 120]⟩] w' fun e w'' => e = .returned (.bool false) ∧ w'' = w' := fun w' => by
      have := P1 w'
      rw [show (⟨#[48, 120]⟩ : ByteArray).data.toList = [48, 120] from rfl, hq1] at this
      exact this
    have P2' : ∀ w', Calls Tryz.prog 14 #[.string s, .string ⟨#[48, 88]⟩] w' fun e w'' => e = .returned (.bool true) ∧ w'' = w' := fun w' => by
      have := P2 w'
      rw [show (⟨#[48, 88]⟩ : ByteArray).data.toList = [48, 88] from rfl, hq2] at this
      exact this
    have H1 := hide P1'
    have H2 := hide P2'
    clear P1 P2 P1' P2' hq1 hq2
    go_enter Tryz.func5, Tryz.ntmps5
    go_wp2_with fail
    refine (H1.out _).mono ?_
    rintro e w0 ⟨rfl, rfl⟩
    go_wp2_with fail
    refine (H2.out _).mono ?_
    rintro e w0 ⟨rfl, rfl⟩
    go_wp2_with fail
    refine (implHex_any (s.extract 2 s.size) _ hsz).mono ?_
    rintro e w1 ⟨rfl, hb⟩
    have hb' : Below (w.heap.size + 1) (w.alloc (.cells #[.bool false, .int .i64 0, .int .u64 0] 24)) w1 := hb.mono (by simp)
    obtain ⟨c0, c1, c2, f0, f1, f2⟩ := resC hb'
    obtain ⟨x, ok, hh⟩ : ∃ x ok, hexR (s.extract 2 s.size) = .tuple #[.agg #[.bool false, .int .i64 x, .int .u64 0], .bool ok] := ⟨_, _, by unfold hexR numV; exact Eq.refl _⟩
    have Hh := hide hh
    rw [hh]
    clear hh
    go_wp2
    refine bodyPost_ret (v := .tuple #[.agg #[.bool false, .int .i64 x, .int .u64 0], .bool ok]) ?_ rfl ⟨by rw [Hh.out], ?_⟩
    · simp [results, Tryz.results5, go_sem, c0, c1, c2]
    · refine Below.setCell (Below.setCell (Below.setCell (below_res hb') ?_ _) ?_ _) ?_ _
      all_goals simp
end Go.Proofs.YtfccdiogjlikbaaGreatDoor

namespace Go.Proofs.YtfccdiogjlikbaaGreatDoor
open Go Go.RowKit
set_option linter.unusedVariables false

/-- A number and whether there is one. -/
def NumForm (r : Value) : Prop := ∃ (f : Bool) (i u : Int) (ok : Bool), r = .tuple #[.agg #[.bool f, .int .i64 i, .int .u64 u], .bool ok]

theorem zeroR_form : NumForm zeroR := ⟨false, 0, 0, false, rfl⟩
theorem FloatR.form {N : Nat} {E : Int} {r : Value} (h : FloatR N E r) : NumForm r := by
  obtain ⟨W, _, rfl⟩ := h
  split
  · exact zeroR_form
  · exact ⟨_, _, _, _, rfl⟩
theorem DecR.form {l : List Int} {r : Value} (h : DecR l r) : NumForm r := by
  unfold DecR at h
  split at h
  · rw [h]; exact zeroR_form
  · split at h
    · rw [h]; exact ⟨_, _, _, _, rfl⟩
    · split at h
      · rw [h]; exact zeroR_form
      · exact h.form
theorem PNR.form {s : ByteArray} {r : Value} (h : PNR s r) : NumForm r := by
  unfold PNR at h
  split at h
  · rw [h]; exact zeroR_form
  · split at h
    · rw [h]; exact ⟨_, _, _, _, rfl⟩
    · exact h.form

set_option maxHeartbeats 1600000 in
set_option maxRecDepth 100000 in
theorem ipn_dec (hX : IdxAny) (s : ByteArray) (G o P po C co : Nat) (ev : Value) (m : Int) (w : World) (hs : s.size ≤ 100) (hE : Env w G o P po C co ev m)
    (hq1 : Lib.hasPrefix s.data.toList [48, 120] = false) (hq2 : Lib.hasPrefix s.data.toList [48, 88] = false) :
    Calls Tryz.prog 5 #[.string s] w fun e w' => ∃ r, e = .returned r ∧ DecR (bs s) r ∧ Below w.heap.size w w' := by
  have P1' : ∀ w', Calls Tryz.prog 14 #[.string s, .string ⟨#[48, 120]⟩] w' fun e w'' => e = .returned (.bool false) ∧ w'' = w' := fun w' => by
    have := Tryz.strings_HasPrefix s ⟨#[48, 120]⟩ w'
    rw [show (⟨#[48, 120]⟩ : ByteArray).data.toList = [48, 120] from rfl, hq1] at this
    exact this
  have P2' : ∀ w', Calls Tryz.prog 14 #[.string s, .string ⟨#[48, 88]⟩] w' fun e w'' => e = .returned (.bool false) ∧ w'' = w' := fun w' => by
    have := Tryz.strings_HasPrefix s ⟨#[48, 88]⟩ w'
    rw [show (⟨#[48, 88]⟩ : ByteArray).data.toList = [48, 88] from rfl, hq2] at this
    exact this
  have D := pd_any hX s G o P po C co ev m (resW w) hs (hE.below (resW_below w))
  have H1 := hide P1'
  have H2 := hide P2'
  have HD := hide D
  clear P1' P2' hq1 hq2 D hE hX
  go_enter Tryz.func5, Tryz.ntmps5
  go_wp2_with fail
  refine (H1.out _).mono ?_
  rintro e w0 ⟨rfl, rfl⟩
  go_wp2_with fail
  refine (H2.out _).mono ?_
  rintro e w0 ⟨rfl, rfl⟩
  go_wp2_with fail
  refine HD.out.mono ?_
  rintro e w1 ⟨r, rfl, hr, hb⟩
  have hb' : Below (w.heap.size + 1) (w.alloc (.cells #[.bool false, .int .i64 0, .int .u64 0] 24)) w1 := hb.mono (by simp)
  obtain ⟨c0, c1, c2, f0, f1, f2⟩ := resC hb'
  have Hr := hide hr
  obtain ⟨f, i, u, ok, rfl⟩ := hr.form
  clear hr
  go_wp2
  refine bodyPost_ret (v := .tuple #[.agg #[.bool f, .int .i64 i, .int .u64 u], .bool ok]) ?_ rfl ⟨_, rfl, Hr.out, ?_⟩
  · simp [results, Tryz.results5, go_sem, c0, c1, c2]
  · refine Below.setCell (Below.setCell (Below.setCell (below_res hb') ?_ _) ?_ _) ?_ _
    all_goals simp

theorem hasPre2 (l : List UInt8) (c d : UInt8) : Lib.hasPrefix l [c, d] = (decide (1 < l.length) && l.getD 0 0 == c && l.getD 1 0 == d) := by
  unfold Lib.hasPrefix
  match l with
  | [] => rfl
  | [x] => simp [List.isPrefixOf]
  | x :: y :: r =>
    simp only [List.isPrefixOf, Bool.and_true, List.length_cons]
    rw [decide_eq_true (by omega), Bool.true_and]
    show (c == x && d == y) = (x == c && y == d)
    rw [Bool.beq_comm (a := c), Bool.beq_comm (a := d)]

theorem isHexP_pre (s : ByteArray) : isHexP (bs s) = (Lib.hasPrefix s.data.toList [48, 120] || Lib.hasPrefix s.data.toList [48, 88]) := by
  rw [hasPre2, hasPre2, bs_eq]
  unfold isHexP
  generalize s.data.toList = l
  have hb : ∀ (x : UInt8) (n : Nat) (hn : n < 256), (b2i x == (n : Int)) = (x == UInt8.ofNat n) := by
    intro x n hn
    unfold b2i
    by_cases e : x = UInt8.ofNat n
    · subst e
      simp
      omega
    · have : ((x.toNat : Nat) : Int) ≠ (n : Int) := fun h => e (UInt8.toNat_inj.1 (by simp; omega))
      rw [bq this]
      simp [e]
  match l with
  | [] => rfl
  | [x] => simp
  | x :: y :: r =>
    show (decide (1 < ((x :: y :: r).map b2i).length) && (b2i x == 48) && ((b2i y == 120) || (b2i y == 88))) = (decide (1 < (x :: y :: r).length) && (x == 48) && (y == 120) || decide (1 < (x :: y :: r).length) && (x == 48) && (y == 88))
    have e1 : (b2i x == 48) = (x == 48) := hb x 48 (by omega)
    have e2 : (b2i y == 120) = (y == 120) := hb y 120 (by omega)
    have e3 : (b2i y == 88) = (y == 88) := hb y 88 (by omega)
    rw [List.length_map, e1, e2, e3, decide_eq_true (by simp), Bool.true_and, Bool.and_or_distrib_left]

/-- What 'impl.ParseNumber' hands back. -/
theorem impl_parse (hX : IdxAny) (s : ByteArray) (G o P po C co : Nat) (ev : Value) (m : Int) (w : World) (hr : s.size ≤ 140737488351232) (hE : Env w G o P po C co ev m) :
    Calls Tryz.prog 5 #[.string s] w fun e w' => ∃ r, e = .returned r ∧ PNR s r ∧ Below w.heap.size w w' := by
  by_cases hl : 100 < s.size
  · refine (ipn_large s w hl hr).mono ?_
    rintro e w' ⟨rfl, hb⟩
    exact ⟨_, rfl, by unfold PNR; rw [if_pos hl], hb⟩
  · have hs : s.size ≤ 100 := by omega
    have hp := isHexP_pre s
    have hlen : ∀ c d, Lib.hasPrefix s.data.toList [c, d] = true → 1 < s.size := by
      intro c d h
      rw [hasPre2, Bool.and_eq_true, Bool.and_eq_true, decide_eq_true_eq, ← size_list] at h
      exact h.1.1
    cases h1 : Lib.hasPrefix s.data.toList [48, 120] with
    | true =>
      rw [h1, Bool.true_or] at hp
      refine (ipn_hex s w hs (hlen _ _ h1) (.inl h1)).mono ?_
      rintro e w' ⟨rfl, hb⟩
      exact ⟨_, rfl, by unfold PNR; rw [if_neg hl, if_pos hp], hb⟩
    | false =>
      cases h2 : Lib.hasPrefix s.data.toList [48, 88] with
      | true =>
        rw [h1, h2, Bool.false_or] at hp
        refine (ipn_hex s w hs (hlen _ _ h2) (.inr ⟨h1, h2⟩)).mono ?_
        rintro e w' ⟨rfl, hb⟩
        exact ⟨_, rfl, by unfold PNR; rw [if_neg hl, if_pos hp], hb⟩
      | false =>
        rw [h1, h2, Bool.false_or] at hp
        refine (ipn_dec hX s G o P po C co ev m w hs hE h1 h2).mono ?_
        rintro e w' ⟨r, rfl, hd, hb⟩
        exact ⟨_, rfl, by unfold PNR; rw [if_neg hl, if_neg (by rw [hp]; decide)]; exact hd, hb⟩

set_option maxHeartbeats 1600000 in
set_option maxRecDepth 100000 in
theorem eqNumber_any (f : Bool) (i u : Int) (w : World) : Calls Tryz.prog 6 #[.agg #[.bool f, .int .i64 i, .int .u64 u], .agg #[.bool f, .int .i64 i, .int .u64 u]] w fun e w' => e = .returned (.bool true) ∧ Below w.heap.size w w' := by
  go_enter Tryz.func6, Tryz.ntmps6
  go_wp2
  go_ret
  exact ⟨rfl, ((Below.refl _ _).alloc (Nat.le_refl _) _).alloc (by simp) _⟩

set_option maxHeartbeats 1600000 in
set_option maxRecDepth 100000 in
/-- The law. -/
theorem law_any (hX : IdxAny) (s : ByteArray) (G o P po C co : Nat) (ev : Value) (m : Int) (w : World) (hE : Env w G o P po C co ev m) :
    Calls Tryz.prog 3 #[.string s] w fun e w' => e = .returned (.bool true) ∧ Below w.heap.size w w' := by
  by_cases hbig : 1048576 < s.size
  · have hbI : (1048576 : Int) < (s.size : Int) := by omega
    clear hE hX
    go_enter Tryz.func3, Tryz.ntmps3
    go_wp2
    go_ret
    exact ⟨rfl, Below.refl _ _⟩
  · have hbI : (s.size : Int) ≤ 1048576 := by omega
    have A := fun (w' : World) => spec_parse s w' (by omega)
    have B := fun (w' : World) (hb : Below w.heap.size w w') => impl_parse hX s G o P po C co ev m w' (by omega) (hE.below hb)
    have HA := hide A
    have HB := hide B
    clear A B hE hX
    go_enter Tryz.func3, Tryz.ntmps3
    go_wp2_with fail
    refine (HA.out _).mono ?_
    rintro e w1 ⟨r, rfl, h1, hb1⟩
    have H1 := hide h1
    have Hb1 := hide hb1
    obtain ⟨f, i, u, ok, rfl⟩ := h1.form
    clear h1 hb1
    go_wp2_with fail
    refine (HB.out _ (Hb1.out.alloc Hb1.out.size _)).mono ?_
    rintro e w2 ⟨r, rfl, h2, hb2⟩
    have e2 := PNR.unique h2 H1.out
    subst e2
    have Hb2 := hide ((Hb1.out.alloc Hb1.out.size _).trans (hb2.mono (Nat.le_trans Hb1.out.size (by simp))))
    have hlt : w1.heap.size < w2.heap.size := by have := hb2.size; simp at this; omega
    have k0 : w2.cell? ⟨w1.heap.size, 0, none⟩ = some (.bool f) := (hb2.cell (by simp)).trans (World.cell?_alloc_at _ _ _ _ rfl)
    have k1 : w2.cell? ⟨w1.heap.size, 1, none⟩ = some (.int .i64 i) := (hb2.cell (by simp)).trans (World.cell?_alloc_at _ _ _ _ rfl)
    have k2 : w2.cell? ⟨w1.heap.size, 2, none⟩ = some (.int .u64 u) := (hb2.cell (by simp)).trans (World.cell?_alloc_at _ _ _ _ rfl)
    clear h2 hb2 H1
    go_wp2_with fail
    refine (eqNumber_any f i u _).mono ?_
    rintro e w3 ⟨rfl, hb3⟩
    have Hb3 := hide ((Hb2.out.alloc Hb2.out.size _).trans (hb3.mono (Nat.le_trans Hb2.out.size (by simp))))
    clear hb3
    go_wp2
    go_ret
    exact ⟨rfl, Hb3.out⟩
end Go.Proofs.YtfccdiogjlikbaaGreatDoor
