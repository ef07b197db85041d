import Derived.Test.YtmndipnifjpdjaaGreatDoorQ37
import Derived.Laws.RangeAny
import Derived.Laws.RangeString
import Derived.Laws.Runes
import Derived.Laws.Strings3
import Derived.Deep.LoopGhost
import Derived.Test.YtmndipnifjpdjaaGreatDoorQ14
import Derived.Test.YtmndipnifjpdjaaGreatDoorQ45
namespace Go.Proofs.YtmndipnifjpdjaaGreatDoor
open Go Go.RowKit
set_option linter.unusedVariables false
def IdxAny : Prop := ∀ (s : ByteArray) (w : World), s.size ≤ 100 → Calls Tryz.prog 236 #[.string s, .string ⟨#[101, 69]⟩] w fun e w' => e = .returned (.int .i64 (Lib.indexAny s.data.toList [101, 69])) ∧ Below w.heap.size w w'
structure Env (w : World) (G o P po C co : Nat) (ev : Value) (m : Int) : Prop where
  vars : Vars w G o P po C co
  er : w.cell? ⟨6, 0, none⟩ = some ev
  er2 : ev = .nilIface ∨ ∃ te pe, ev = .iface te pe
  ml : w.cell? ⟨3, 0, none⟩ = some (.int .i64 m)
theorem Vars.below {w w' : World} {G o P po C co : Nat} (h : Vars w G o P po C co) (hb : Below w.heap.size w w') : Vars w' G o P po C co := by
  have h12 := h.h12
  have hsz := hb.size
  have c : ∀ {x : Addr}, x.block < w.heap.size → w'.cell? x = w.cell? x := fun hx => hb.cell hx
  exact ⟨⟨by omega, Nat.lt_of_lt_of_le h.tabs.hG hsz, (c (by show 13 < _; omega)).trans h.tabs.mant, (c (by show 18 < _; omega)).trans h.tabs.slice, fun k hk => (c h.tabs.hG).trans (h.tabs.tens k hk), fun i hi => (c (by show 14 < _; omega)).trans (h.tabs.rows0 i hi), fun i hi => (c (by show 14 < _; omega)).trans (h.tabs.rows1 i hi)⟩,
    by omega, Nat.lt_of_lt_of_le h.hP hsz, (c (by show 11 < _; omega)).trans h.opt, (c (by show 13 < _; omega)).trans h.expb, (c (by show 13 < _; omega)).trans h.bias, (c (by show 17 < _; omega)).trans h.slice, fun k hk => (c h.hP).trans (h.tab k hk), h.cheats.below hb h12 h.cheats.hG⟩
theorem Env.below {w w' : World} {G o P po C co : Nat} {ev : Value} {m : Int} (h : Env w G o P po C co ev m) (hb : Below w.heap.size w w') : Env w' G o P po C co ev m := by
  have h12 := h.vars.h12
  exact ⟨h.vars.below hb, (hb.cell (by show 6 < _; omega)).trans h.er, h.er2, (hb.cell (by show 3 < _; omega)).trans h.ml⟩
theorem resW_below (w : World) : Below w.heap.size w (resW w) := (Below.refl _ _).alloc (Nat.le_refl _) _
theorem spf_txt (s : ByteArray) (k b p G o P po C co : Nat) (ds : List Int) (x : Int) (ev : Value) (m : Int) (w : World) (hT : Txt s k ds b p x) (hE : Env w G o P po C co ev m) :
    ∀ w', Below w.heap.size w w' → Calls Tryz.prog 157 #[.string s, .int .i64 64] w' fun e w'' => SpfR (dval ds) (x - b) w' e w'' := by
  intro w' hb
  have hE' := hE.below hb
  have h12 := hE'.vars.h12
  exact spf_any _ _ s w' ev hT.hs (by omega) hE'.er hE'.er2 (at_any s k b p G o P po C co ds x w' hT hE'.vars)
theorem allDig_parts {m : List Int} (h : m.all isDP = true) : allDig m = true ↔ (dscan m).2.2 = 0 := by
  obtain ⟨h1, h2⟩ := dscan_parts m
  rw [h2]
  constructor
  · intro hd
    refine List.count_eq_zero.2 (fun hc => ?_)
    have := allDig_no hc
    rw [hd] at this
    cases this
  · intro hc
    rw [← all_dp (fun c hc' e => List.count_eq_zero.1 hc (e ▸ hc'))]
    exact h
theorem digits_scan {m : List Int} (h : allDig m = true) : (dscan m).1 = m := by
  obtain ⟨h1, h2⟩ := dscan_parts m
  rw [h1]
  refine List.filter_eq_self.2 (fun c hc => ?_)
  have : c ≠ 46 := fun e => by
    have := allDig_no (e ▸ hc)
    rw [h] at this
    cases this
  simp [this]
theorem pd_any (hX : IdxAny) (s : ByteArray) (G o P po C co : Nat) (ev : Value) (m : Int) (w : World) (hs : s.size ≤ 100) (hE : Env w G o P po C co ev m) :
    Calls Tryz.prog 182 #[.string s] w fun e w' => ∃ r, e = .returned r ∧ DecR (bs s) r ∧ Below w.heap.size w w' := by
  have h12 := hE.vars.h12
  have hE1 := hE.below (resW_below w)
  have hsz := (resW_below w).size
  have hD := idec_any s m (resW w) hs (by omega) hE1.ml (hX s (resW w) hs)
  rcases ix_char s.data.toList with ⟨h1, h2⟩ | ⟨a, y, b, h1, h2, h4, h5⟩
  · have hr : isDec s.data.toList = decM (bs s) := by unfold isDec; rw [if_pos h1]; rfl
    rw [hr] at hD
    have hEs : ∀ c ∈ bs s, isE c = false := fun c hc => by obtain ⟨d, hd, rfl⟩ := List.mem_map.1 hc; exact h2 d hd
    cases hm : decM (bs s) with
    | false =>
      rw [hm] at hD
      refine (pd_no s w hD).mono ?_
      rintro e w' ⟨rfl, hb⟩
      exact ⟨_, rfl, plain_no hEs hm, hb⟩
    | true =>
      rw [hm] at hD
      have hall := (decM_true hm).1
      have hT := txt_of (s := s) (m := bs s) (r := []) (x := 0) hs (by rw [List.append_nil]) hm (.inl ⟨rfl, rfl⟩)
      have h0 : 0 < s.size := by have := hT.k0; rw [bs_length] at this; omega
      have hml : mlen (bs s ++ []) = (bs s).length := by rw [List.append_nil]; exact mlen_all hall
      have hS := spf_txt s _ _ _ G o P po C co _ _ ev m w hT hE
      cases had : allDig (bs s) with
      | true =>
        have e1 := digits_scan had
        have e2 := (allDig_parts hall).1 had
        by_cases hN : dval (bs s) < 9223372036854775808
        · refine (pd_int s w hs h0 hD had hN).mono ?_
          rintro e w' ⟨rfl, hb⟩
          refine ⟨_, rfl, ?_, hb⟩
          have := decR_yes (x := 0) (v := .tuple #[numV false (dval (bs s)) 0, .bool true]) hm hml (.inl ⟨rfl, rfl⟩) (by rw [e1, if_pos ⟨rfl, e2, hN⟩])
          rwa [List.append_nil] at this
        · refine (pd_big s _ _ w hs h0 hD had hN ev (by omega) hE.er hE.er2 hS).mono ?_
          rintro e w' ⟨r, rfl, hf, hb⟩
          refine ⟨_, rfl, ?_, hb⟩
          have := decR_yes (x := 0) (v := r) hm hml (.inl ⟨rfl, rfl⟩) (by rw [e1, if_neg (fun hh => hN hh.2.2)]; rw [e1] at hf; exact hf)
          rwa [List.append_nil] at this
      | false =>
        refine (pd_flt s _ _ w hs h0 hD had hS).mono ?_
        rintro e w' ⟨r, rfl, hf, hb⟩
        refine ⟨_, rfl, ?_, hb⟩
        have := decR_yes (x := 0) (v := r) hm hml (.inl ⟨rfl, rfl⟩) (by
          rw [if_neg (fun hh => by have := (allDig_parts hall).2 hh.2.1; rw [had] at this; cases this)]
          exact hf)
        rwa [List.append_nil] at this
  · have ej : ((a.length : Nat) : Int).toNat = a.length := by omega
    have hl : bs s = a.map b2i ++ b2i y :: b.map b2i := by rw [bs_eq, h1, List.map_append, List.map_cons]
    have hr : isDec s.data.toList = ((expS (b.map b2i)).isSome && decM (a.map b2i)) := by
      unfold isDec
      rw [if_neg (by rw [h2]; omega), h2, ej, h1]
      congr 3
      · rw [show a.length + 1 = (a ++ [y]).length by simp, show a ++ y :: b = (a ++ [y]) ++ b by simp, List.drop_left]
      · rw [List.take_left]
    rw [hr] at hD
    have hEs : ∀ c ∈ a.map b2i, isE c = false := fun c hc => by obtain ⟨d, hd, rfl⟩ := List.mem_map.1 hc; exact h5 d hd
    rw [hl]
    cases hm : (decM (a.map b2i) && (expS (b.map b2i)).isSome) with
    | false =>
      rw [Bool.and_comm, hm] at hD
      refine (pd_no s w hD).mono ?_
      rintro e w' ⟨rfl, hb⟩
      exact ⟨_, rfl, exp_no hEs h4 hm, hb⟩
    | true =>
      rw [Bool.and_comm, hm] at hD
      rw [Bool.and_eq_true] at hm
      obtain ⟨hm1, hm2⟩ := hm
      obtain ⟨x, hx⟩ := Option.isSome_iff_exists.1 hm2
      have hx' : expV (b2i y :: b.map b2i) = some x := by rw [expV_E h4]; exact hx
      have hT := txt_of (s := s) (m := a.map b2i) (r := b2i y :: b.map b2i) (x := x) hs hl hm1 (.inr ⟨by simp, hx'⟩)
      have h0 : 0 < s.size := by have := hT.k0; have := hT.hk; omega
      have hml : mlen (a.map b2i ++ b2i y :: b.map b2i) = (a.map b2i).length := mlen_stop (decM_true hm1).1 (isE_dp h4)
      have hS := spf_txt s _ _ _ G o P po C co _ _ ev m w hT hE
      have had : allDig (bs s) = false := by
        cases hh : allDig (bs s) with
        | false => rfl
        | true =>
          unfold allDig at hh
          rw [List.all_eq_true] at hh
          have h7 := hh (b2i y) (by rw [hl]; simp)
          have h8 := isE_dp h4
          unfold isDP at h8
          rw [h7] at h8
          cases h8
      refine (pd_flt s _ _ w hs h0 hD had hS).mono ?_
      rintro e w' ⟨r, rfl, hf, hb⟩
      exact ⟨_, rfl, decR_yes hm1 hml (.inr ⟨by simp, hx'⟩) (by rw [if_neg (fun hh => by cases hh.1)]; exact hf), hb⟩
end Go.Proofs.YtmndipnifjpdjaaGreatDoor
namespace Go.Proofs.YtmndipnifjpdjaaGreatDoor
open Go Go.RowKit
set_option linter.unusedVariables false
theorem ipn_large (s : ByteArray) (w : World) (hs : 100 < s.size) (hr : s.size ≤ 140737488351232) :
    Calls Tryz.prog 145 #[.string s] w fun e w' => e = .returned zeroR ∧ Below w.heap.size w w' := by
  go_enter Tryz.func145, Tryz.ntmps145
  go_wp2
  refine bodyPost_ret (v := zeroR) (by simp [results, Tryz.results145, go_sem, numV, zeroR]) rfl ⟨rfl, ?_⟩
  exact (Below.refl _ _).alloc (Nat.le_refl _) _
set_option maxHeartbeats 800000 in
theorem ipn_hex (s : ByteArray) (w : World) (hs : s.size ≤ 100) (hx : 1 < s.size)
    (hq1 : Lib.hasPrefix s.data.toList [48, 120] = true ∨ (Lib.hasPrefix s.data.toList [48, 120] = false ∧ Lib.hasPrefix s.data.toList [48, 88] = true)) :
    Calls Tryz.prog 145 #[.string s] w fun e w' => e = .returned (hexR (s.extract 2 s.size)) ∧ Below w.heap.size w w' := by
  have hsz : (s.extract 2 s.size).size ≤ 100 := by simp; omega
  have P1 := fun (w' : World) => Tryz.strings_HasPrefix s ⟨#[48, 120]⟩ w'
  have P2 := fun (w' : World) => Tryz.strings_HasPrefix s ⟨#[48, 88]⟩ w'
  have hx2 : (2 : Int) ≤ (s.size : Int) := by omega
  rcases hq1 with hq1 | ⟨hq1, hq2⟩
  · have P1' : ∀ w', Calls Tryz.prog 68 #[.string s, .string ⟨#[48, 120]⟩] w' fun e w'' => e = .returned (.bool true) ∧ w'' = w' := fun w' => by
      have := P1 w'
      rw [show (⟨#[48, 120]⟩ : ByteArray).data.toList = [48, 120] from rfl, hq1] at this
      exact this
    have H1 := hide P1'
    clear P1 P2 P1' hq1
    go_enter Tryz.func145, Tryz.ntmps145
    go_wp2_with fail
    refine (H1.out _).mono ?_
    rintro e w0 ⟨rfl, rfl⟩
    go_wp2_with fail
    refine (implHex_any (s.extract 2 s.size) _ hsz).mono ?_
    rintro e w1 ⟨rfl, hb⟩
    have hb' : Below (w.heap.size + 1) (w.alloc (.cells #[.bool false, .int .i64 0, .int .u64 0] 67)) w1 := hb.mono (by simp)
    obtain ⟨c0, c1, c2, f0, f1, f2⟩ := resC hb'
    obtain ⟨x, ok, hh⟩ : ∃ x ok, hexR (s.extract 2 s.size) = .tuple #[.agg #[.bool false, .int .i64 x, .int .u64 0], .bool ok] := ⟨_, _, by unfold hexR numV; exact Eq.refl _⟩
    have Hh := hide hh
    rw [hh]
    clear hh
    go_wp2
    refine bodyPost_ret (v := .tuple #[.agg #[.bool false, .int .i64 x, .int .u64 0], .bool ok]) ?_ rfl ⟨by rw [Hh.out], ?_⟩
    · simp [results, Tryz.results145, go_sem, c0, c1, c2]
    · refine Below.setCell (Below.setCell (Below.setCell (below_res hb') ?_ _) ?_ _) ?_ _
      all_goals simp
  · have P1' : ∀ w', Calls Tryz.prog 68 #[.string s, .string ⟨#[48, 120]⟩] w' fun e w'' => e = .returned (.bool false) ∧ w'' = w' := fun w' => by
      have := P1 w'
      rw [show (⟨#[48, 120]⟩ : ByteArray).data.toList = [48, 120] from rfl, hq1] at this
      exact this
    have P2' : ∀ w', Calls Tryz.prog 68 #[.string s, .string ⟨#[48, 88]⟩] w' fun e w'' => e = .returned (.bool true) ∧ w'' = w' := fun w' => by
      have := P2 w'
      rw [show (⟨#[48, 88]⟩ : ByteArray).data.toList = [48, 88] from rfl, hq2] at this
      exact this
    have H1 := hide P1'
    have H2 := hide P2'
    clear P1 P2 P1' P2' hq1 hq2
    go_enter Tryz.func145, Tryz.ntmps145
    go_wp2_with fail
    refine (H1.out _).mono ?_
    rintro e w0 ⟨rfl, rfl⟩
    go_wp2_with fail
    refine (H2.out _).mono ?_
    rintro e w0 ⟨rfl, rfl⟩
    go_wp2_with fail
    refine (implHex_any (s.extract 2 s.size) _ hsz).mono ?_
    rintro e w1 ⟨rfl, hb⟩
    have hb' : Below (w.heap.size + 1) (w.alloc (.cells #[.bool false, .int .i64 0, .int .u64 0] 67)) w1 := hb.mono (by simp)
    obtain ⟨c0, c1, c2, f0, f1, f2⟩ := resC hb'
    obtain ⟨x, ok, hh⟩ : ∃ x ok, hexR (s.extract 2 s.size) = .tuple #[.agg #[.bool false, .int .i64 x, .int .u64 0], .bool ok] := ⟨_, _, by unfold hexR numV; exact Eq.refl _⟩
    have Hh := hide hh
    rw [hh]
    clear hh
    go_wp2
    refine bodyPost_ret (v := .tuple #[.agg #[.bool false, .int .i64 x, .int .u64 0], .bool ok]) ?_ rfl ⟨by rw [Hh.out], ?_⟩
    · simp [results, Tryz.results145, go_sem, c0, c1, c2]
    · refine Below.setCell (Below.setCell (Below.setCell (below_res hb') ?_ _) ?_ _) ?_ _
      all_goals simp
end Go.Proofs.YtmndipnifjpdjaaGreatDoor
namespace Go.Proofs.YtmndipnifjpdjaaGreatDoor
open Go Go.RowKit
set_option linter.unusedVariables false
def NumForm (r : Value) : Prop := ∃ (f : Bool) (i u : Int) (ok : Bool), r = .tuple #[.agg #[.bool f, .int .i64 i, .int .u64 u], .bool ok]
theorem zeroR_form : NumForm zeroR := ⟨false, 0, 0, false, rfl⟩
theorem FloatR.form {N : Nat} {E : Int} {r : Value} (h : FloatR N E r) : NumForm r := by
  obtain ⟨W, _, rfl⟩ := h
  split
  · exact zeroR_form
  · exact ⟨_, _, _, _, rfl⟩
theorem DecR.form {l : List Int} {r : Value} (h : DecR l r) : NumForm r := by
  unfold DecR at h
  split at h
  · rw [h]; exact zeroR_form
  · split at h
    · rw [h]; exact ⟨_, _, _, _, rfl⟩
    · split at h
      · rw [h]; exact zeroR_form
      · exact h.form
set_option maxHeartbeats 1600000 in
set_option maxRecDepth 100000 in
theorem ipn_dec (hX : IdxAny) (s : ByteArray) (G o P po C co : Nat) (ev : Value) (m : Int) (w : World) (hs : s.size ≤ 100) (hE : Env w G o P po C co ev m)
    (hq1 : Lib.hasPrefix s.data.toList [48, 120] = false) (hq2 : Lib.hasPrefix s.data.toList [48, 88] = false) :
    Calls Tryz.prog 145 #[.string s] w fun e w' => ∃ r, e = .returned r ∧ DecR (bs s) r ∧ Below w.heap.size w w' := by
  have P1' : ∀ w', Calls Tryz.prog 68 #[.string s, .string ⟨#[48, 120]⟩] w' fun e w'' => e = .returned (.bool false) ∧ w'' = w' := fun w' => by
    have := Tryz.strings_HasPrefix s ⟨#[48, 120]⟩ w'
    rw [show (⟨#[48, 120]⟩ : ByteArray).data.toList = [48, 120] from rfl, hq1] at this
    exact this
  have P2' : ∀ w', Calls Tryz.prog 68 #[.string s, .string ⟨#[48, 88]⟩] w' fun e w'' => e = .returned (.bool false) ∧ w'' = w' := fun w' => by
    have := Tryz.strings_HasPrefix s ⟨#[48, 88]⟩ w'
    rw [show (⟨#[48, 88]⟩ : ByteArray).data.toList = [48, 88] from rfl, hq2] at this
    exact this
  have D := pd_any hX s G o P po C co ev m (resW w) hs (hE.below (resW_below w))
  have H1 := hide P1'
  have H2 := hide P2'
  have HD := hide D
  clear P1' P2' hq1 hq2 D hE hX
  go_enter Tryz.func145, Tryz.ntmps145
  go_wp2_with fail
  refine (H1.out _).mono ?_
  rintro e w0 ⟨rfl, rfl⟩
  go_wp2_with fail
  refine (H2.out _).mono ?_
  rintro e w0 ⟨rfl, rfl⟩
  go_wp2_with fail
  refine HD.out.mono ?_
  rintro e w1 ⟨r, rfl, hr, hb⟩
  have hb' : Below (w.heap.size + 1) (w.alloc (.cells #[.bool false, .int .i64 0, .int .u64 0] 67)) w1 := hb.mono (by simp)
  obtain ⟨c0, c1, c2, f0, f1, f2⟩ := resC hb'
  have Hr := hide hr
  obtain ⟨f, i, u, ok, rfl⟩ := hr.form
  clear hr
  go_wp2
  refine bodyPost_ret (v := .tuple #[.agg #[.bool f, .int .i64 i, .int .u64 u], .bool ok]) ?_ rfl ⟨_, rfl, Hr.out, ?_⟩
  · simp [results, Tryz.results145, go_sem, c0, c1, c2]
  · refine Below.setCell (Below.setCell (Below.setCell (below_res hb') ?_ _) ?_ _) ?_ _
    all_goals simp
theorem hasPre2 (l : List UInt8) (c d : UInt8) : Lib.hasPrefix l [c, d] = (decide (1 < l.length) && l.getD 0 0 == c && l.getD 1 0 == d) := by
  unfold Lib.hasPrefix
  match l with
  | [] => rfl
  | [x] => simp [List.isPrefixOf]
  | x :: y :: r =>
    simp only [List.isPrefixOf, Bool.and_true, List.length_cons]
    rw [decide_eq_true (by omega), Bool.true_and]
    show (c == x && d == y) = (x == c && y == d)
    rw [Bool.beq_comm (a := c), Bool.beq_comm (a := d)]
theorem isHexP_pre (s : ByteArray) : isHexP (bs s) = (Lib.hasPrefix s.data.toList [48, 120] || Lib.hasPrefix s.data.toList [48, 88]) := by
  rw [hasPre2, hasPre2, bs_eq]
  unfold isHexP
  generalize s.data.toList = l
  have hb : ∀ (x : UInt8) (n : Nat) (hn : n < 256), (b2i x == (n : Int)) = (x == UInt8.ofNat n) := by
    intro x n hn
    unfold b2i
    by_cases e : x = UInt8.ofNat n
    · subst e
      simp
      omega
    · have : ((x.toNat : Nat) : Int) ≠ (n : Int) := fun h => e (UInt8.toNat_inj.1 (by simp; omega))
      rw [bq this]
      simp [e]
  match l with
  | [] => rfl
  | [x] => simp
  | x :: y :: r =>
    show (decide (1 < ((x :: y :: r).map b2i).length) && (b2i x == 48) && ((b2i y == 120) || (b2i y == 88))) = (decide (1 < (x :: y :: r).length) && (x == 48) && (y == 120) || decide (1 < (x :: y :: r).length) && (x == 48) && (y == 88))
    have e1 : (b2i x == 48) = (x == 48) := hb x 48 (by omega)
    have e2 : (b2i y == 120) = (y == 120) := hb y 120 (by omega)
    have e3 : (b2i y == 88) = (y == 88) := hb y 88 (by omega)
    rw [List.length_map, e1, e2, e3, decide_eq_true (by simp), Bool.true_and, Bool.and_or_distrib_left]
theorem impl_parse (hX : IdxAny) (s : ByteArray) (G o P po C co : Nat) (ev : Value) (m : Int) (w : World) (hr : s.size ≤ 140737488351232) (hE : Env w G o P po C co ev m) :
    Calls Tryz.prog 145 #[.string s] w fun e w' => ∃ r, e = .returned r ∧ PNR s r ∧ Below w.heap.size w w' := by
  by_cases hl : 100 < s.size
  · refine (ipn_large s w hl hr).mono ?_
    rintro e w' ⟨rfl, hb⟩
    exact ⟨_, rfl, by unfold PNR; rw [if_pos hl], hb⟩
  · have hs : s.size ≤ 100 := by omega
    have hp := isHexP_pre s
    have hlen : ∀ c d, Lib.hasPrefix s.data.toList [c, d] = true → 1 < s.size := by
      intro c d h
      rw [hasPre2, Bool.and_eq_true, Bool.and_eq_true, decide_eq_true_eq, ← size_list] at h
      exact h.1.1
    cases h1 : Lib.hasPrefix s.data.toList [48, 120] with
    | true =>
      rw [h1, Bool.true_or] at hp
      refine (ipn_hex s w hs (hlen _ _ h1) (.inl h1)).mono ?_
      rintro e w' ⟨rfl, hb⟩
      exact ⟨_, rfl, by unfold PNR; rw [if_neg hl, if_pos hp], hb⟩
    | false =>
      cases h2 : Lib.hasPrefix s.data.toList [48, 88] with
      | true =>
        rw [h1, h2, Bool.false_or] at hp
        refine (ipn_hex s w hs (hlen _ _ h2) (.inr ⟨h1, h2⟩)).mono ?_
        rintro e w' ⟨rfl, hb⟩
        exact ⟨_, rfl, by unfold PNR; rw [if_neg hl, if_pos hp], hb⟩
      | false =>
        rw [h1, h2, Bool.false_or] at hp
        refine (ipn_dec hX s G o P po C co ev m w hs hE h1 h2).mono ?_
        rintro e w' ⟨r, rfl, hd, hb⟩
        exact ⟨_, rfl, by unfold PNR; rw [if_neg hl, if_neg (by rw [hp]; decide)]; exact hd, hb⟩
end Go.Proofs.YtmndipnifjpdjaaGreatDoor
namespace Go.Proofs.YtmndipnifjpdjaaGreatDoor
open Go Go.RowKit
set_option linter.unusedVariables false
def eE : ByteArray := ⟨#[101, 69]⟩
theorem below_iter (w : World) (s : ByteArray) (i : Nat) : Below w.heap.size w (w.iter s i) := (Below.refl _ _).alloc (Nat.le_refl _) _
set_option maxHeartbeats 1600000 in
set_option maxRecDepth 100000 in
theorem ir_error (w : World) : Calls Tryz.prog 164 #[.string eE, .int .i32 65533] w fun e w' => e = .returned (.int .i64 (-1)) ∧ Below w.heap.size w w' := by
  have n0 : ∀ ty, (Instr.next (.pointer (some ⟨w.heap.size, 0, none⟩)) true ty).run Tryz.prog (w.iter eE 0) = .ok (.tuple #[.bool true, .int .i64 0, .int .i32 101]) (w.iter eE 1) := fun ty => run_next_ascii (P := Tryz.prog) w eE 0 ty (by decide) (by decide)
  have n1 : ∀ ty, (Instr.next (.pointer (some ⟨w.heap.size, 0, none⟩)) true ty).run Tryz.prog (w.iter eE 1) = .ok (.tuple #[.bool true, .int .i64 1, .int .i32 69]) (w.iter eE 2) := fun ty => run_next_ascii (P := Tryz.prog) w eE 1 ty (by decide) (by decide)
  have n2 := fun ty => run_next_end (P := Tryz.prog) w eE 2 ty (by decide)
  go_enter Tryz.func164, Tryz.ntmps164
  go_wp2
  go_loopg [5, 6] 2 (fun g _ _ wx => ∃ i : Nat, i + g = 2 ∧ wx = w.iter eE i)
  case atStart => exact ⟨0, by omega, rfl⟩
  case round =>
    obtain ⟨i, hig, rfl⟩ := hrel
    rcases (show i = 0 ∨ i = 1 ∨ i = 2 by omega) with rfl | rfl | rfl
    · go_wp2
      go_roundg 1
      case rel => exact ⟨1, by omega, rfl⟩
      case measure => omega
    · go_wp2
      go_roundg 0
      case rel => exact ⟨2, by omega, rfl⟩
      case measure => omega
    · go_wp2
      go_ret
      exact ⟨rfl, below_iter _ _ _⟩
set_option maxHeartbeats 1600000 in
set_option maxRecDepth 100000 in
theorem ir_bad (r : Int) (w : World) (h1 : 128 ≤ r) (h2 : r ≠ 65533) (hv : Lib.validRune r = false) : Calls Tryz.prog 164 #[.string eE, .int .i32 r] w fun e w' => e = .returned (.int .i64 (-1)) ∧ Below w.heap.size w w' := by
  have V := fun (w' : World) => Tryz.utf8_ValidRune r w'
  rw [hv] at V
  have HV := hide V
  have hne : (r == 65533) = false := bq h2
  clear V hv h2
  go_enter Tryz.func164, Tryz.ntmps164
  go_wp2_with fail
  refine (HV.out _).mono ?_
  rintro e w' ⟨rfl, rfl⟩
  go_wp2
  go_ret
  exact ⟨rfl, Below.refl _ _⟩
set_option maxHeartbeats 1600000 in
set_option maxRecDepth 100000 in
theorem ir_good (r : Int) (w : World) (h1 : 128 ≤ r) (h2 : r ≠ 65533) (hv : Lib.validRune r = true) (hu : Utf8.valid r = true) : Calls Tryz.prog 164 #[.string eE, .int .i32 r] w fun e w' => e = .returned (.int .i64 (-1)) ∧ Below w.heap.size w w' := by
  have V := fun (w' : World) => Tryz.utf8_ValidRune r w'
  rw [hv] at V
  have HV := hide V
  have hne : (r == 65533) = false := bq h2
  obtain ⟨f1, f2, f3⟩ := encode_facts r hu h1
  obtain ⟨rs, hrs⟩ : ∃ rs, Utf8.encode r = rs := ⟨_, rfl⟩
  simp only [hrs] at f1 f2 f3
  have f3' := f3 (by omega)
  have f1I : (2 : Int) ≤ (rs.size : Int) := by omega
  have f2I : (rs.size : Int) ≤ 4 := by omega
  have hlast : ((rs.size : Int) - 1).toNat = rs.size - 1 := by omega
  clear V hv h2 hu f3
  go_enter Tryz.func164, Tryz.ntmps164
  go_wp2_with fail
  refine (HV.out _).mono ?_
  rintro e w' ⟨rfl, rfl⟩
  go_wp2
  go_step3
  go_wp2
  have hsz : eE.size = 2 := rfl
  by_cases c2 : rs.size = 2
  · have c2I : (rs.size : Int) = 2 := by omega
    have B : ∀ (c : Int) (w' : World), Calls Tryz.prog 101 #[.string ByteArray.empty, .int .u8 c] w' fun e w'' => e = .returned (.int .i64 (-1)) ∧ ∃ m, w'' = w'.drewN m := fun c w' => by
      refine (Tryz.strings_IndexByte ByteArray.empty c w').mono ?_
      rintro e w'' ⟨rfl, rfl⟩
      exact ⟨rfl, 0, rfl⟩
    have HB := hide B
    have hw2 : IntKind.i64.wrap 2 = 2 := by decide
    have hlt1 : rs.size - 1 = 1 := by omega
    have hl1 : 1 < rs.size := by omega
    have hlb : 128 ≤ (rs[1]'hl1).toNat := by
      have := f3'
      simp only [hlt1] at this
      exact this
    have hneb : ((69 : Int) == (((rs[1]'hl1).toNat : Nat) : Int)) = false := bq (by omega)
    have he1 : (((eE[1]'(by decide)).toNat : Nat) : Int) = 69 := rfl
    clear f3' B hlast hlt1
    go_loopg [9, 10] 0 (fun g iv fv wx => iv = .int .i64 1 ∧ wx = w')
    case atStart => exact ⟨by simp [c2I], rfl⟩
    case round =>
      obtain ⟨rfl, rfl⟩ := hrel
      go_wp2
      go_step3
      go_wp2
      go_quiet (fail)
      go_wp2_with fail
      generalize hwz : World.drewN wr nq = wz
      have Hwz := hide hwz
      clear hwz
      go_quiet ((go_at_call 101; exact Calls.quiet_of (HB.out _ _)))
      go_wp2
      simp only [Exit.noGoto_ret, Exit.inBlock, Exit.then]
      go_ret
      exact ⟨rfl, below_drewN (by rw [← Hwz.out]; exact below_drewN (Below.refl _ _) _) _⟩
  · have c3I : (3 : Int) ≤ (rs.size : Int) := by omega
    go_loopg [9, 10] 0 (fun g iv fv wx => iv = .int .i64 ((rs.size : Int) - 1) ∧ wx = w')
    case atStart => exact ⟨rfl, rfl⟩
    case round =>
      obtain ⟨rfl, rfl⟩ := hrel
      have h2I : (2 : Int) ≤ (rs.size : Int) - 1 := by omega
      go_wp2
      rw [Exit.noGoto_ret]
      go_ret
      exact ⟨rfl, Below.refl _ _⟩
end Go.Proofs.YtmndipnifjpdjaaGreatDoor
namespace Go.Proofs.YtmndipnifjpdjaaGreatDoor
open Go Go.RowKit
set_option linter.unusedVariables false
theorem ir_any (r : Int) (w : World) (h1 : 128 ≤ r) : Calls Tryz.prog 164 #[.string eE, .int .i32 r] w fun e w' => e = .returned (.int .i64 (-1)) ∧ Below w.heap.size w w' := by
  by_cases h2 : r = 65533
  · subst h2; exact ir_error w
  · cases hv : Lib.validRune r with
    | false => exact ir_bad r w h1 h2 hv
    | true =>
      refine ir_good r w h1 h2 hv ?_
      unfold Lib.validRune at hv
      rw [decide_eq_true_eq] at hv
      unfold Utf8.valid
      simp
      omega
def stepW (wx : World) (b : Nat) (s : ByteArray) (p : Nat) : World := { wx with heap := wx.heap.setIfInBounds b (.stringIter s p) }
theorem stepW_heap {wx : World} {b : Nat} {s : ByteArray} {p q : Nat} (h : wx.heap[b]? = some (.stringIter s q)) : (stepW wx b s p).heap[b]? = some (.stringIter s p) := by
  have hb : b < wx.heap.size := by
    rcases Nat.lt_or_ge b wx.heap.size with g | g
    · exact g
    · rw [Array.getElem?_eq_none g] at h; cases h
  show (wx.heap.setIfInBounds b (.stringIter s p))[b]? = _
  rw [Array.getElem?_setIfInBounds_self_of_lt hb]
theorem stepW_below {w wx : World} {b B : Nat} {s : ByteArray} {p : Nat} (h : Below B w wx) (hb : B ≤ b) : Below B w (stepW wx b s p) := by
  refine ⟨h.os, h.tape, h.output, ?_, fun k hk => ?_⟩
  · show w.heap.size ≤ (wx.heap.setIfInBounds b (.stringIter s p)).size
    rw [Array.size_setIfInBounds]
    exact h.size
  · show (wx.heap.setIfInBounds b (.stringIter s p))[k]? = _
    rw [Array.getElem?_setIfInBounds_ne (by omega)]
    exact h.block k hk
theorem run_next_gen {P : Program} (wx : World) (b : Nat) (s : ByteArray) (pos : Nat) (ty : TypeId) (hb : wx.heap[b]? = some (.stringIter s pos)) (h : pos < s.size) :
    (Instr.next (.pointer (some ⟨b, 0, none⟩)) true ty).run P wx = .ok (.tuple #[.bool true, .int .i64 pos, .int .i32 (Utf8.decode s pos).1]) (stepW wx b s (pos + (Utf8.decode s pos).2)) := by
  simp only [Instr.next, getObj, setObj, Sem.run_bind, Sem.run, hb, Result.andThen, h, if_true]
  simp [goInt, stepW]
theorem run_next_gend {P : Program} (wx : World) (b : Nat) (s : ByteArray) (pos : Nat) (ty : TypeId) (hb : wx.heap[b]? = some (.stringIter s pos)) (h : ¬ pos < s.size) :
    (Instr.next (.pointer (some ⟨b, 0, none⟩)) true ty).run P wx = .ok (.tuple #[.bool false]) wx := by
  simp [Instr.next, getObj, Sem.run, hb, h]
theorem get_lt {s : ByteArray} {k : Nat} (h : k < s.size) : s.get! k = s[k] := by
  simp [ByteArray.get!, getElem!_pos, h]
  rfl
theorem decode_span (s : ByteArray) (pos : Nat) (h : pos < s.size) (ha : 128 ≤ (s[pos]'h).toNat) :
    1 ≤ (Utf8.decode s pos).2 ∧ pos + (Utf8.decode s pos).2 ≤ s.size ∧ ∀ j, j < (Utf8.decode s pos).2 → 128 ≤ (s.get! (pos + j)).toNat := by
  have h0 : 128 ≤ (s.get! (pos + 0)).toNat := by rw [get_at s pos h]; exact ha
  have hn : ¬ (s[pos]'h).toNat < 128 := by omega
  have key : ∀ d : Nat × Nat, d = Utf8.decode s pos → 1 ≤ d.2 ∧ pos + d.2 ≤ s.size ∧ ∀ j, j < d.2 → 128 ≤ (s.get! (pos + j)).toNat := by
    intro d hd
    have one : ∀ j, j < 1 → 128 ≤ (s.get! (pos + j)).toNat := fun j hj => by rw [show j = 0 by omega]; exact h0
    simp only [Utf8.decode, get_at s pos h, hn, if_false] at hd
    split at hd
    · rename_i c
      simp only [Bool.and_eq_true, decide_eq_true_eq, beq_iff_eq] at c
      split at hd
      · subst hd
        refine ⟨by show 1 ≤ 2; omega, by show pos + 2 ≤ _; omega, fun j hj => ?_⟩
        rcases (show j = 0 ∨ j = 1 by have : j < 2 := hj; omega) with rfl | rfl
        · exact h0
        · omega
      · subst hd; exact ⟨Nat.le_refl _, by show pos + 1 ≤ _; omega, one⟩
    · split at hd
      · rename_i c
        simp only [Bool.and_eq_true, decide_eq_true_eq, beq_iff_eq] at c
        split at hd
        · subst hd
          refine ⟨by show 1 ≤ 3; omega, by show pos + 3 ≤ _; omega, fun j hj => ?_⟩
          rcases (show j = 0 ∨ j = 1 ∨ j = 2 by have : j < 3 := hj; omega) with rfl | rfl | rfl
          · exact h0
          · omega
          · omega
        · subst hd; exact ⟨Nat.le_refl _, by show pos + 1 ≤ _; omega, one⟩
      · split at hd
        · rename_i c
          simp only [Bool.and_eq_true, decide_eq_true_eq, beq_iff_eq] at c
          split at hd
          · subst hd
            refine ⟨by show 1 ≤ 4; omega, by show pos + 4 ≤ _; omega, fun j hj => ?_⟩
            rcases (show j = 0 ∨ j = 1 ∨ j = 2 ∨ j = 3 by have : j < 4 := hj; omega) with rfl | rfl | rfl | rfl
            · exact h0
            · omega
            · omega
            · omega
          · subst hd; exact ⟨Nat.le_refl _, by show pos + 1 ≤ _; omega, one⟩
        · subst hd; exact ⟨Nat.le_refl _, by show pos + 1 ≤ _; omega, one⟩
  exact key _ rfl
end Go.Proofs.YtmndipnifjpdjaaGreatDoor
namespace Go.Proofs.YtmndipnifjpdjaaGreatDoor
open Go Go.RowKit
set_option linter.unusedVariables false
theorem eE_list : eE.data.toList = [101, 69] := rfl
theorem noAny_span {s : ByteArray} {i d : Nat} (h : Lib.NoAny s.data.toList [101, 69] i) (hd : i + d ≤ s.size) (hb : ∀ j, j < d → 128 ≤ (s.get! (i + j)).toNat) : Lib.NoAny s.data.toList [101, 69] (i + d) := by
  intro j b hj hjb
  by_cases e : j < i
  · exact h j b e hjb
  · have hlt : j < s.size := by omega
    have h1 := hb (j - i) (by omega)
    rw [show i + (j - i) = j by omega, get_lt hlt] at h1
    have h2 : s.data.toList[j]? = some s[j] := Lib.data_getElem? s j hlt
    rw [h2] at hjb
    have h3 : s[j] = b := Option.some.inj hjb
    rw [h3] at h1
    rw [← isE_byte]
    unfold isE b2i
    rw [bq (by omega), bq (by omega)]
    rfl
set_option maxHeartbeats 4000000 in
set_option maxRecDepth 100000 in
theorem ia_short (s : ByteArray) (w : World) (h8 : s.size ≤ 8) :
    Calls Tryz.prog 236 #[.string s, .string eE] w fun e w' => e = .returned (.int .i64 (Lib.indexAny s.data.toList [101, 69])) ∧ Below w.heap.size w w' := by
  have hemp : eE.toList.isEmpty = false := isEmpty_false (by decide)
  have hsz : eE.size = 2 := rfl
  have U := fun (w' : World) => Tryz.strings_shouldUseASCIISet (s.size : Int) w'
  have h8z : decide ((8 : Int) < (s.size : Int)) = false := decide_eq_false (by omega)
  rw [h8z] at U
  have HU := hide U
  clear U h8z
  go_enter Tryz.func236, Tryz.ntmps236
  go_wp2_with fail
  refine (HU.out _).mono ?_
  rintro e w0 ⟨rfl, rfl⟩
  go_wp2
  go_loopg [9, 10] s.size (fun g _ _ wx => ∃ i : Nat, i + g = s.size ∧ Hid (wx.heap[w0.heap.size]? = some (.stringIter s i)) ∧ Hid (Below w0.heap.size w0 wx) ∧ Hid (Lib.NoAny s.data.toList [101, 69] i))
  case atStart => exact ⟨0, by omega, hide (World.iter_heap _ _ _), hide (below_iter _ _ _), hide (Lib.NoAny.zero _ _)⟩
  case round =>
    obtain ⟨i, hig, Hh, Hb, HN⟩ := hrel
    by_cases hlt : i < s.size
    · have hnx := fun ty => run_next_gen (P := Tryz.prog) wr w0.heap.size s i ty Hh.out hlt
      by_cases ha : (s[i]'hlt).toNat < 128
      · rw [decode_ascii s i hlt ha] at hnx
        simp only at hnx
        have Hst := hide (stepW_heap (p := i + 1) Hh.out)
        have Hsb := hide (stepW_below (s := s) (p := i + 1) Hb.out (Nat.le_refl _))
        obtain ⟨x, hx⟩ : ∃ x : UInt8, s[i]'hlt = x := ⟨_, rfl⟩
        have hxl : s.data.toList[i]? = some x := by rw [← hx]; exact Lib.data_getElem? s i hlt
        have Hx := hide hxl
        rw [hx] at ha hnx
        clear hx hxl
        have R := fun (w' : World) => Tryz.strings_IndexRune_ascii eE ((x.toNat : Nat) : Int) w' (by omega) (by omega)
        have hback : (((x.toNat : Nat) : Int)).toNat.toUInt8 = x := by simp
        rw [hback, eE_list] at R
        have hcon := Lib.contains_iff_indexByte [101, 69] x
        have HR := hide R
        clear R hback
        generalize stepW wr w0.heap.size s (i + 1) = ws at *
        cases hin : ([101, 69] : List UInt8).contains x with
        | false =>
          rw [hin] at hcon
          have hlt0 : ¬ ((0 : Int) ≤ Lib.indexByte [101, 69] x) := of_decide_eq_false hcon.symm
          have Hin := hide hin
          clear hcon hin
          go_wp2_with fail
          refine (HR.out _).mono ?_
          rintro e w2 ⟨rfl, rfl⟩
          go_wp2
          go_roundg (gk - 1)
          case rel => exact ⟨i + 1, by omega, Hst, Hsb, hide (HN.out.succ Hx.out Hin.out)⟩
          case measure => omega
        | true =>
          rw [hin] at hcon
          have hge : (0 : Int) ≤ Lib.indexByte [101, 69] x := of_decide_eq_true hcon.symm
          have HI := hide (Lib.indexAny_hit HN.out Hx.out hin)
          clear hcon hin
          go_wp2_with fail
          refine (HR.out _).mono ?_
          rintro e w2 ⟨rfl, rfl⟩
          go_wp2
          go_ret
          exact ⟨by rw [HI.out]; rfl, Hsb.out⟩
      · have ha' : 128 ≤ (s[i]'hlt).toNat := by omega
        obtain ⟨d1, d2, d3⟩ := decode_span s i hlt ha'
        have hhi := (decode_high s i hlt ha').1
        have hle := decode_le s i
        have Hst := hide (stepW_heap (p := i + (Utf8.decode s i).2) Hh.out)
        have Hsb := hide (stepW_below (s := s) (p := i + (Utf8.decode s i).2) Hb.out (Nat.le_refl _))
        have HN2 := hide (noAny_span HN.out d2 d3)
        generalize (Utf8.decode s i).2 = wd at *
        generalize (Utf8.decode s i).1 = rn at *
        generalize stepW wr w0.heap.size s (i + wd) = ws at *
        have R := ir_any (rn : Int) ws (by omega)
        have HR := hide R
        clear R d3
        have hrI : (rn : Int) ≤ 2147483647 := by omega
        go_wp2_with fail
        refine (HR.out).mono ?_
        rintro e w2 ⟨rfl, hb2⟩
        have Hst2 : Hid (w2.heap[w0.heap.size]? = some (.stringIter s (i + wd))) := hide (by
          have hlt2 : w0.heap.size < ws.heap.size := by
            rcases Nat.lt_or_ge w0.heap.size ws.heap.size with g | g
            · exact g
            · have := Hst.out; rw [Array.getElem?_eq_none g] at this; cases this
          rw [hb2.block _ hlt2]
          exact Hst.out)
        have Hb3 := hide (Hsb.out.trans (hb2.mono Hsb.out.size))
        clear hb2
        go_wp2
        go_roundg (gk - wd)
        case rel => exact ⟨i + wd, by omega, Hst2, Hb3, HN2⟩
        case measure => omega
    · have hnx := fun ty => run_next_gend (P := Tryz.prog) wr w0.heap.size s i ty Hh.out hlt
      have HR : Hid (Lib.indexAny s.data.toList [101, 69] = -1) := hide (Lib.indexAny_none (by rw [← size_list, show s.size = i by omega]; exact HN.out))
      go_wp2
      go_ret
      exact ⟨by rw [HR.out]; rfl, Hb.out⟩
theorem z68 : Tryz.zeroCells114 = Array.replicate 256 (Value.bool false) := by kernel_rfl
theorem idx_any : IdxAny := by
  intro s w hs
  by_cases h8 : s.size ≤ 8
  · exact ia_short s w h8
  · refine (Tryz.strings_IndexAny_long (fun w' => by rw [Tryz.zeroValue114 w', z68]) s ⟨#[101, 69]⟩ w (by decide) (by omega) (by omega) (by decide) (fun j b hj => ?_)).mono ?_
    · match j, hj with
      | 0, hj => cases hj; decide
      | 1, hj => cases hj; decide
      | j + 2, hj => cases hj
    · rintro e w' ⟨rfl, rfl⟩
      exact ⟨rfl, ((Below.refl _ _).alloc (Nat.le_refl _) _).alloc (by simp) _⟩
end Go.Proofs.YtmndipnifjpdjaaGreatDoor
namespace Go.Proofs.YtmndipnifjpdjaaGreatDoor
open Go Go.RowKit
set_option linter.unusedVariables false
theorem isLetter_any (c : Int) (w : World) :
    Calls Tryz.prog 102 #[.int .i32 c] w fun e w' => e = .returned (.bool (isLet c)) ∧ w' = w := by
  go_enter Tryz.func102, Tryz.ntmps102
  go_wp2
  all_goals go_ret
  all_goals refine ⟨?_, rfl⟩
  all_goals (refine ret_bool ?_; unfold isLet; rw [Bool.eq_iff_iff]; simp; omega)
theorem isDigit_any (c : Int) (w : World) :
    Calls Tryz.prog 143 #[.int .i32 c] w fun e w' => e = .returned (.bool (isDig c)) ∧ w' = w := by
  go_enter Tryz.func143, Tryz.ntmps143
  go_wp2
  all_goals go_ret
  all_goals refine ⟨?_, rfl⟩
  all_goals (refine ret_bool ?_; unfold isDig; rw [Bool.eq_iff_iff]; simp; try omega)
def NextR (t : ByteArray) (i : Nat) (r : Int) (wd : Nat) : Prop := 0 ≤ r ∧ r ≤ 2147483647 ∧ ((r = hb t i ∧ wd = 1 ∧ hb t i < 128) ∨ (128 ≤ r ∧ 128 ≤ hb t i))
theorem next_any {wr : World} {b : Nat} {t : ByteArray} {i : Nat} (hh : wr.heap[b]? = some (.stringIter t i)) (h : i < t.size) :
    ∃ (r : Int) (wd : Nat) (ws : World), (∀ ty, (Instr.next (.pointer (some ⟨b, 0, none⟩)) true ty).run Tryz.prog wr = .ok (.tuple #[.bool true, .int .i64 i, .int .i32 r]) ws) ∧
      ws.heap[b]? = some (.stringIter t (i + wd)) ∧ (∀ w0 B, Below B w0 wr → B ≤ b → Below B w0 ws) ∧ NextR t i r wd := by
  have hv := hb_in h
  by_cases ha : (t[i]'h).toNat < 128
  · refine ⟨((t[i].toNat : Nat) : Int), 1, stepW wr b t (i + 1), fun ty => ?_, stepW_heap hh, fun w0 B hb hB => stepW_below hb hB, by omega, by omega, .inl ⟨hv.symm, rfl, by omega⟩⟩
    have := run_next_gen (P := Tryz.prog) wr b t i ty hh h
    rw [decode_ascii t i h ha] at this
    exact this
  · have ha' : 128 ≤ (t[i]'h).toNat := by omega
    have hhi := (decode_high t i h ha').1
    have hle := decode_le t i
    refine ⟨(((Utf8.decode t i).1 : Nat) : Int), (Utf8.decode t i).2, stepW wr b t (i + (Utf8.decode t i).2), fun ty => ?_, stepW_heap hh, fun w0 B hb hB => stepW_below hb hB, by omega, by omega, .inr ⟨by omega, by omega⟩⟩
    exact run_next_gen (P := Tryz.prog) wr b t i ty hh h
theorem next_end {wr : World} {b : Nat} {t : ByteArray} {i : Nat} (hh : wr.heap[b]? = some (.stringIter t i)) (h : ¬ i < t.size) (ty : TypeId) :
    (Instr.next (.pointer (some ⟨b, 0, none⟩)) true ty).run Tryz.prog wr = .ok (.tuple #[.bool false]) wr := run_next_gend (P := Tryz.prog) wr b t i ty hh h
theorem isBl_f {c : Int} (h1 : c ≠ 9) (h2 : c ≠ 10) (h3 : c ≠ 13) (h4 : c ≠ 32) : isBl c = false := by simp [isBl, *]
theorem bn_f {a b : Int} (h : a = b) : (a != b) = false := by simp [h]
theorem bn_t {a b : Int} (h : a ≠ b) : (a != b) = true := by simp [h]
set_option maxHeartbeats 3200000 in
theorem blankLength_any (t : ByteArray) (w : World) (ht : t.size ≤ 32768) :
    Calls Tryz.prog 66 #[.string t] w fun e w' => ∃ q : Nat, e = .returned (.int .i64 q) ∧ RunP isBl (hb t) q ∧ q ≤ t.size ∧ Below w.heap.size w w' := by
  go_enter Tryz.func66, Tryz.ntmps66
  go_wp2
  go_loopg [3, 4] t.size (fun g _ _ wx => ∃ i : Nat, i + g = t.size ∧ Hid (wx.heap[w.heap.size]? = some (.stringIter t i)) ∧ Hid (Below w.heap.size w wx) ∧ Hid (AllP isBl (hb t) i))
  case atStart => exact ⟨0, by omega, hide (World.iter_heap _ _ _), hide (below_iter _ _ _), hide (fun j hj => by omega)⟩
  case round =>
    obtain ⟨i, hig, Hh, Hb, HA⟩ := hrel
    by_cases hlt : i < t.size
    · obtain ⟨r, wd, ws, hnx, hst, hbl, hr0, hr1, hcase⟩ := next_any Hh.out hlt
      have Hst := hide hst
      have Hsb := hide (hbl _ _ Hb.out (Nat.le_refl _))
      clear hst hbl
      rcases hcase with ⟨h1, h2, h3⟩ | ⟨h1, h2⟩
      · have HR := hide h1
        subst h2
        clear h1 h3
        by_cases h9 : r = 9
        · have hq9 := bn_f h9
          have HA2 := hide (HA.out.next (by rw [← HR.out, h9]; rfl))
          clear h9
          go_wp2
          go_roundg (gk - 1)
          case rel => exact ⟨i + 1, by omega, Hst, Hsb, HA2⟩
          case measure => omega
        · have hq9 := bn_t h9
          by_cases h10 : r = 10
          · have hq10 := bn_f h10
            have HA2 := hide (HA.out.next (by rw [← HR.out, h10]; rfl))
            clear h10 h9
            go_wp2
            go_roundg (gk - 1)
            case rel => exact ⟨i + 1, by omega, Hst, Hsb, HA2⟩
            case measure => omega
          · have hq10 := bn_t h10
            by_cases h13 : r = 13
            · have hq13 := bn_f h13
              have HA2 := hide (HA.out.next (by rw [← HR.out, h13]; rfl))
              clear h10 h9 h13
              go_wp2
              go_roundg (gk - 1)
              case rel => exact ⟨i + 1, by omega, Hst, Hsb, HA2⟩
              case measure => omega
            · have hq13 := bn_t h13
              by_cases h32 : r = 32
              · have hq32 := bn_f h32
                have HA2 := hide (HA.out.next (by rw [← HR.out, h32]; rfl))
                clear h10 h9 h13 h32
                go_wp2
                go_roundg (gk - 1)
                case rel => exact ⟨i + 1, by omega, Hst, Hsb, HA2⟩
                case measure => omega
              · have hq32 := bn_t h32
                have HF := hide (isBl_f h9 h10 h13 h32)
                clear h10 h9 h13 h32
                go_wp2
                go_ret
                exact ⟨i, rfl, ⟨HA.out, by rw [← HR.out]; exact HF.out⟩, by omega, Hsb.out⟩
      · have hq9 : (r != 9) = true := bn_t (by omega)
        have hq10 : (r != 10) = true := bn_t (by omega)
        have hq13 : (r != 13) = true := bn_t (by omega)
        have hq32 : (r != 32) = true := bn_t (by omega)
        have HF : Hid (isBl (hb t i) = false) := hide (isBl_f (by omega) (by omega) (by omega) (by omega))
        go_wp2
        go_ret
        exact ⟨i, rfl, ⟨HA.out, HF.out⟩, by omega, Hsb.out⟩
    · have hnx := next_end Hh.out hlt
      obtain rfl : i = t.size := by omega
      have HF : Hid (isBl (hb t t.size) = false) := hide (by rw [hb_out (Nat.le_refl _)]; rfl)
      go_wp2
      go_ret
      exact ⟨t.size, rfl, ⟨HA.out, HF.out⟩, by omega, Hb.out⟩
theorem isDig_rng' {c : Int} (h : isDig c = true) : 48 ≤ c ∧ c ≤ 57 := by simpa [isDig] using h
theorem high_LD {c : Int} (h : 128 ≤ c) : isLD c = false := by
  unfold isLD isLet isDig
  rw [decide_eq_false (by omega), decide_eq_false (by omega), decide_eq_false (by omega), decide_eq_false (by omega)]
  rfl
set_option maxHeartbeats 3200000 in
theorem nameLength_any (t : ByteArray) (w : World) (ht : t.size ≤ 32768) :
    Calls Tryz.prog 142 #[.string t] w fun e w' => ∃ q : Nat, e = .returned (.int .i64 q) ∧ RunP isLD (hb t) q ∧ q ≤ t.size ∧ Below w.heap.size w w' := by
  go_enter Tryz.func142, Tryz.ntmps142
  go_wp2
  go_loopg [3, 4] t.size (fun g _ _ wx => ∃ i : Nat, i + g = t.size ∧ Hid (wx.heap[w.heap.size]? = some (.stringIter t i)) ∧ Hid (Below w.heap.size w wx) ∧ Hid (AllP isLD (hb t) i))
  case atStart => exact ⟨0, by omega, hide (World.iter_heap _ _ _), hide (below_iter _ _ _), hide (fun j hj => by omega)⟩
  case round =>
    obtain ⟨i, hig, Hh, Hb, HA⟩ := hrel
    by_cases hlt : i < t.size
    · obtain ⟨r, wd, ws, hnx, hst, hbl, hr0, hr1, hcase⟩ := next_any Hh.out hlt
      have Hst := hide hst
      have Hsb := hide (hbl _ _ Hb.out (Nat.le_refl _))
      have HC := hide hcase
      clear hst hbl hcase
      go_wp2_with fail
      refine (isLetter_any r _).mono ?_
      rintro e w1 ⟨rfl, rfl⟩
      cases hl : isLet r with
      | true =>
        have h128 : r < 128 := by
          unfold isLet at hl
          simp at hl
          omega
        obtain ⟨h1, h2⟩ : r = hb t i ∧ wd = 1 := by
          rcases HC.out with ⟨a, b, c⟩ | ⟨a, b⟩
          · exact ⟨a, b⟩
          · omega
        subst h2
        have HA2 := hide (HA.out.next (by rw [← h1]; exact isLD_t2 hl))
        clear h1 hl
        go_wp2
        go_roundg (gk - 1)
        case rel => exact ⟨i + 1, by omega, Hst, Hsb, HA2⟩
        case measure => omega
      | false =>
        go_wp2_with fail
        refine (isDigit_any r _).mono ?_
        rintro e w1 ⟨rfl, rfl⟩
        cases hd : isDig r with
        | true =>
          have h128 := (isDig_rng' hd).2
          obtain ⟨h1, h2⟩ : r = hb t i ∧ wd = 1 := by
            rcases HC.out with ⟨a, b, c⟩ | ⟨a, b⟩
            · exact ⟨a, b⟩
            · omega
          subst h2
          have HA2 := hide (HA.out.next (by rw [← h1]; exact isLD_t1 hd))
          clear h1 hl hd
          go_wp2
          go_roundg (gk - 1)
          case rel => exact ⟨i + 1, by omega, Hst, Hsb, HA2⟩
          case measure => omega
        | false =>
          have HF : Hid (isLD (hb t i) = false) := hide (by
            rcases HC.out with ⟨a, b, c⟩ | ⟨a, b⟩
            · rw [← a]; exact isLD_f hd hl
            · exact high_LD b)
          clear hl hd
          go_wp2
          go_ret
          exact ⟨i, rfl, ⟨HA.out, HF.out⟩, by omega, Hsb.out⟩
    · have hnx := next_end Hh.out hlt
      obtain rfl : i = t.size := by omega
      have HF : Hid (isLD (hb t t.size) = false) := hide (by rw [hb_out (Nat.le_refl _)]; rfl)
      go_wp2
      go_ret
      exact ⟨t.size, rfl, ⟨HA.out, HF.out⟩, by omega, Hb.out⟩
end Go.Proofs.YtmndipnifjpdjaaGreatDoor
