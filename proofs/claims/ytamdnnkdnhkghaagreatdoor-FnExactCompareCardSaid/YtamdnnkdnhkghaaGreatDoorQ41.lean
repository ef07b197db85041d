import Derived.Test.YtamdnnkdnhkghaaGreatDoorQ40
namespace Go.Proofs.YtamdnnkdnhkghaaGreatDoor
open Go Go.RowKit
set_option linter.unusedVariables false

theorem ipn_large (s : ByteArray) (w : World) (hs : 100 < s.size) (hr : s.size ≤ 140737488351232) :
    Calls Tryz.prog 13 #[.string s] w fun e w' => e = .returned zeroR ∧ Below w.heap.size w w' := by
  go_enter Tryz.func13, Tryz.ntmps13
  go_wp2
  refine bodyPost_ret (v := zeroR) (by simp [results, Tryz.results13, go_sem, numV, zeroR]) rfl ⟨rfl, ?_⟩
  exact (Below.refl _ _).alloc (Nat.le_refl _) _

set_option maxHeartbeats 800000 in
theorem ipn_hex (s : ByteArray) (w : World) (hs : s.size ≤ 100) (hx : 1 < s.size)
    (hq1 : Lib.hasPrefix s.data.toList [48, 120] = true ∨ (Lib.hasPrefix s.data.toList [48, 120] = false ∧ Lib.hasPrefix s.data.toList [48, 88] = true)) :
    Calls Tryz.prog 13 #[.string s] w fun e w' => e = .returned (hexR (s.extract 2 s.size)) ∧ Below w.heap.size w w' := by
  have hsz : (s.extract 2 s.size).size ≤ 100 := by simp; omega
  have P1 := fun (w' : World) => Tryz.strings_HasPrefix s ⟨#[48, 120]⟩ w'
  have P2 := fun (w' : World) => Tryz.strings_HasPrefix s ⟨#[48, 88]⟩ w'
  have hx2 : (2 : Int) ≤ (s.size : Int) := by omega
  rcases hq1 with hq1 | ⟨hq1, hq2⟩
  · have P1' : ∀ w', Calls Tryz.prog 33 #[.string s, .string ⟨#[48, 120]⟩] w' fun e w'' => e = .returned (.bool true) ∧ w'' = w' := fun w' => by
      have := P1 w'
      rw [show (⟨#[48, 120]⟩ : ByteArray).data.toList = [48, 120] from rfl, hq1] at this
      exact this
    have H1 := hide P1'
    clear P1 P2 P1' hq1
    go_enter Tryz.func13, Tryz.ntmps13
    go_wp2_with fail
    refine (H1.out _).mono ?_
    rintro e w0 ⟨rfl, rfl⟩
    go_wp2_with fail
    refine (implHex_any (s.extract 2 s.size) _ hsz).mono ?_
    rintro e w1 ⟨rfl, hb⟩
    have hb' : Below (w.heap.size + 1) (w.alloc (.cells #[.bool false, .int .i64 0, .int .u64 0] 26)) w1 := hb.mono (by simp)
    obtain ⟨c0, c1, c2, f0, f1, f2⟩ := resC hb'
    obtain ⟨x, ok, hh⟩ : ∃ x ok, hexR (s.extract 2 s.size) = .tuple #[.agg #[.bool false, .int .i64 x, .int .u64 0], .bool ok] := ⟨_, _, by unfold hexR numV; exact Eq.refl _⟩
    have Hh := hide hh
    rw [hh]
    clear hh
    go_wp2
    refine bodyPost_ret (v := .tuple #[.agg #[.bool false, .int .i64 x, .int .u64 0], .bool ok]) ?_ rfl ⟨by rw [Hh.out], ?_⟩
    · simp [results, Tryz.results13, go_sem, c0, c1, c2]
    · refine Below.setCell (Below.setCell (Below.setCell (below_res hb') ?_ _) ?_ _) ?_ _
      all_goals simp
  · have P1' : ∀ w', Calls Tryz.prog 33 #[.string s, .string ⟨#[48, 120]⟩] w' fun e w'' => e = .returned (.bool false) ∧ w'' = w' := fun w' => by
      have := P1 w'
      rw [show (⟨#[48, 120]⟩ : ByteArray).data.toList = [48, 120] from rfl, hq1] at this
      exact this
    have P2' : ∀ w', Calls Tryz.prog 33 #[.string s, .string ⟨#[48, 88]⟩] w' fun e w'' => e = .returned (.bool true) ∧ w'' = w' := fun w' => by
      have := P2 w'
      rw [show (⟨#[48, 88]⟩ : ByteArray).data.toList = [48, 88] from rfl, hq2] at this
      exact this
    have H1 := hide P1'
    have H2 := hide P2'
    clear P1 P2 P1' P2' hq1 hq2
    go_enter Tryz.func13, Tryz.ntmps13
    go_wp2_with fail
    refine (H1.out _).mono ?_
    rintro e w0 ⟨rfl, rfl⟩
    go_wp2_with fail
    refine (H2.out _).mono ?_
    rintro e w0 ⟨rfl, rfl⟩
    go_wp2_with fail
    refine (implHex_any (s.extract 2 s.size) _ hsz).mono ?_
    rintro e w1 ⟨rfl, hb⟩
    have hb' : Below (w.heap.size + 1) (w.alloc (.cells #[.bool false, .int .i64 0, .int .u64 0] 26)) w1 := hb.mono (by simp)
    obtain ⟨c0, c1, c2, f0, f1, f2⟩ := resC hb'
    obtain ⟨x, ok, hh⟩ : ∃ x ok, hexR (s.extract 2 s.size) = .tuple #[.agg #[.bool false, .int .i64 x, .int .u64 0], .bool ok] := ⟨_, _, by unfold hexR numV; exact Eq.refl _⟩
    have Hh := hide hh
    rw [hh]
    clear hh
    go_wp2
    refine bodyPost_ret (v := .tuple #[.agg #[.bool false, .int .i64 x, .int .u64 0], .bool ok]) ?_ rfl ⟨by rw [Hh.out], ?_⟩
    · simp [results, Tryz.results13, go_sem, c0, c1, c2]
    · refine Below.setCell (Below.setCell (Below.setCell (below_res hb') ?_ _) ?_ _) ?_ _
      all_goals simp
end Go.Proofs.YtamdnnkdnhkghaaGreatDoor

namespace Go.Proofs.YtamdnnkdnhkghaaGreatDoor
open Go Go.RowKit
set_option linter.unusedVariables false

/-- A number and whether there is one. -/
def NumForm (r : Value) : Prop := ∃ (f : Bool) (i u : Int) (ok : Bool), r = .tuple #[.agg #[.bool f, .int .i64 i, .int .u64 u], .bool ok]

theorem zeroR_form : NumForm zeroR := ⟨false, 0, 0, false, rfl⟩
theorem FloatR.form {N : Nat} {E : Int} {r : Value} (h : FloatR N E r) : NumForm r := by
  obtain ⟨W, _, rfl⟩ := h
  split
  · exact zeroR_form
  · exact ⟨_, _, _, _, rfl⟩
theorem DecR.form {l : List Int} {r : Value} (h : DecR l r) : NumForm r := by
  unfold DecR at h
  split at h
  · rw [h]; exact zeroR_form
  · split at h
    · rw [h]; exact ⟨_, _, _, _, rfl⟩
    · split at h
      · rw [h]; exact zeroR_form
      · exact h.form
theorem PNR.form {s : ByteArray} {r : Value} (h : PNR s r) : NumForm r := by
  unfold PNR at h
  split at h
  · rw [h]; exact zeroR_form
  · split at h
    · rw [h]; exact ⟨_, _, _, _, rfl⟩
    · exact h.form

set_option maxHeartbeats 1600000 in
set_option maxRecDepth 100000 in
theorem ipn_dec (hX : IdxAny) (s : ByteArray) (G o P po C co : Nat) (ev : Value) (m : Int) (w : World) (hs : s.size ≤ 100) (hE : Env w G o P po C co ev m)
    (hq1 : Lib.hasPrefix s.data.toList [48, 120] = false) (hq2 : Lib.hasPrefix s.data.toList [48, 88] = false) :
    Calls Tryz.prog 13 #[.string s] w fun e w' => ∃ r, e = .returned r ∧ DecR (bs s) r ∧ Below w.heap.size w w' := by
  have P1' : ∀ w', Calls Tryz.prog 33 #[.string s, .string ⟨#[48, 120]⟩] w' fun e w'' => e = .returned (.bool false) ∧ w'' = w' := fun w' => by
    have := Tryz.strings_HasPrefix s ⟨#[48, 120]⟩ w'
    rw [show (⟨#[48, 120]⟩ : ByteArray).data.toList = [48, 120] from rfl, hq1] at this
    exact this
  have P2' : ∀ w', Calls Tryz.prog 33 #[.string s, .string ⟨#[48, 88]⟩] w' fun e w'' => e = .returned (.bool false) ∧ w'' = w' := fun w' => by
    have := Tryz.strings_HasPrefix s ⟨#[48, 88]⟩ w'
    rw [show (⟨#[48, 88]⟩ : ByteArray).data.toList = [48, 88] from rfl, hq2] at this
    exact this
  have D := pd_any hX s G o P po C co ev m (resW w) hs (hE.below (resW_below w))
  have H1 := hide P1'
  have H2 := hide P2'
  have HD := hide D
  clear P1' P2' hq1 hq2 D hE hX
  go_enter Tryz.func13, Tryz.ntmps13
  go_wp2_with fail
  refine (H1.out _).mono ?_
  rintro e w0 ⟨rfl, rfl⟩
  go_wp2_with fail
  refine (H2.out _).mono ?_
  rintro e w0 ⟨rfl, rfl⟩
  go_wp2_with fail
  refine HD.out.mono ?_
  rintro e w1 ⟨r, rfl, hr, hb⟩
  have hb' : Below (w.heap.size + 1) (w.alloc (.cells #[.bool false, .int .i64 0, .int .u64 0] 26)) w1 := hb.mono (by simp)
  obtain ⟨c0, c1, c2, f0, f1, f2⟩ := resC hb'
  have Hr := hide hr
  obtain ⟨f, i, u, ok, rfl⟩ := hr.form
  clear hr
  go_wp2
  refine bodyPost_ret (v := .tuple #[.agg #[.bool f, .int .i64 i, .int .u64 u], .bool ok]) ?_ rfl ⟨_, rfl, Hr.out, ?_⟩
  · simp [results, Tryz.results13, go_sem, c0, c1, c2]
  · refine Below.setCell (Below.setCell (Below.setCell (below_res hb') ?_ _) ?_ _) ?_ _
    all_goals simp

theorem hasPre2 (l : List UInt8) (c d : UInt8) : Lib.hasPrefix l [c, d] = (decide (1 < l.length) && l.getD 0 0 == c && l.getD 1 0 == d) := by
  unfold Lib.hasPrefix
  match l with
  | [] => rfl
  | [x] => simp [List.isPrefixOf]
  | x :: y :: r =>
    simp only [List.isPrefixOf, Bool.and_true, List.length_cons]
    rw [decide_eq_true (by omega), Bool.true_and]
    show (c == x && d == y) = (x == c && y == d)
    rw [Bool.beq_comm (a := c), Bool.beq_comm (a := d)]

theorem isHexP_pre (s : ByteArray) : isHexP (bs s) = (Lib.hasPrefix s.data.toList [48, 120] || Lib.hasPrefix s.data.toList [48, 88]) := by
  rw [hasPre2, hasPre2, bs_eq]
  unfold isHexP
  generalize s.data.toList = l
  have hb : ∀ (x : UInt8) (n : Nat) (hn : n < 256), (b2i x == (n : Int)) = (x == UInt8.ofNat n) := by
    intro x n hn
    unfold b2i
    by_cases e : x = UInt8.ofNat n
    · subst e
      simp
      omega
    · have : ((x.toNat : Nat) : Int) ≠ (n : Int) := fun h => e (UInt8.toNat_inj.1 (by simp; omega))
      rw [bq this]
      simp [e]
  match l with
  | [] => rfl
  | [x] => simp
  | x :: y :: r =>
    show (decide (1 < ((x :: y :: r).map b2i).length) && (b2i x == 48) && ((b2i y == 120) || (b2i y == 88))) = (decide (1 < (x :: y :: r).length) && (x == 48) && (y == 120) || decide (1 < (x :: y :: r).length) && (x == 48) && (y == 88))
    have e1 : (b2i x == 48) = (x == 48) := hb x 48 (by omega)
    have e2 : (b2i y == 120) = (y == 120) := hb y 120 (by omega)
    have e3 : (b2i y == 88) = (y == 88) := hb y 88 (by omega)
    rw [List.length_map, e1, e2, e3, decide_eq_true (by simp), Bool.true_and, Bool.and_or_distrib_left]

/-- What 'impl.ParseNumber' hands back. -/
theorem impl_parse (hX : IdxAny) (s : ByteArray) (G o P po C co : Nat) (ev : Value) (m : Int) (w : World) (hr : s.size ≤ 140737488351232) (hE : Env w G o P po C co ev m) :
    Calls Tryz.prog 13 #[.string s] w fun e w' => ∃ r, e = .returned r ∧ PNR s r ∧ Below w.heap.size w w' := by
  by_cases hl : 100 < s.size
  · refine (ipn_large s w hl hr).mono ?_
    rintro e w' ⟨rfl, hb⟩
    exact ⟨_, rfl, by unfold PNR; rw [if_pos hl], hb⟩
  · have hs : s.size ≤ 100 := by omega
    have hp := isHexP_pre s
    have hlen : ∀ c d, Lib.hasPrefix s.data.toList [c, d] = true → 1 < s.size := by
      intro c d h
      rw [hasPre2, Bool.and_eq_true, Bool.and_eq_true, decide_eq_true_eq, ← size_list] at h
      exact h.1.1
    cases h1 : Lib.hasPrefix s.data.toList [48, 120] with
    | true =>
      rw [h1, Bool.true_or] at hp
      refine (ipn_hex s w hs (hlen _ _ h1) (.inl h1)).mono ?_
      rintro e w' ⟨rfl, hb⟩
      exact ⟨_, rfl, by unfold PNR; rw [if_neg hl, if_pos hp], hb⟩
    | false =>
      cases h2 : Lib.hasPrefix s.data.toList [48, 88] with
      | true =>
        rw [h1, h2, Bool.false_or] at hp
        refine (ipn_hex s w hs (hlen _ _ h2) (.inr ⟨h1, h2⟩)).mono ?_
        rintro e w' ⟨rfl, hb⟩
        exact ⟨_, rfl, by unfold PNR; rw [if_neg hl, if_pos hp], hb⟩
      | false =>
        rw [h1, h2, Bool.false_or] at hp
        refine (ipn_dec hX s G o P po C co ev m w hs hE h1 h2).mono ?_
        rintro e w' ⟨r, rfl, hd, hb⟩
        exact ⟨_, rfl, by unfold PNR; rw [if_neg hl, if_neg (by rw [hp]; decide)]; exact hd, hb⟩

end Go.Proofs.YtamdnnkdnhkghaaGreatDoor
