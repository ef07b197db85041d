import Derived.Test.YtamdnnkdnhkghaaGreatDoorT07
import Derived.Test.YtamdnnkdnhkghaaGreatDoorT26
import Derived.Test.YtamdnnkdnhkghaaGreatDoorT25
import Derived.Laws.IdiomStrings
import Derived.LaidEql
import Derived.Stop.Asserts
import Derived.RowKitTokens
import Derived.Lib.AppendIntMem
import Derived.Test.YtamdnnkdnhkghaaGreatDoorT05
import Derived.Maps.AppendAt
namespace Go.Proofs.YtamdnnkdnhkghaaGreatDoor

open Go Go.RowKit

set_option linter.unusedVariables false

theorem dval_cons (c : Int) (l : List Int) : dval (c :: l) = (c - 48).toNat * 10 ^ l.length + dval l := by
  have key : ∀ (l : List Int) (a : Nat), l.foldl (fun a c => a * 10 + (c - 48).toNat) a = a * 10 ^ l.length + l.foldl (fun a c => a * 10 + (c - 48).toNat) 0 := by
    intro l
    induction l with
    | nil => intro a; simp
    | cons c l ih =>
      intro a
      rw [List.foldl_cons, List.foldl_cons, ih, ih (0 * 10 + (c - 48).toNat), List.length_cons, Nat.pow_succ, Nat.zero_mul, Nat.zero_add, Nat.add_mul]
      generalize 10 ^ l.length = p
      grind
  unfold dval
  rw [List.foldl_cons, key, Nat.zero_mul, Nat.zero_add]

theorem dig_cons {c : Int} {l : List Int} (h : allDig (c :: l) = true) : 48 ≤ c ∧ c ≤ 57 ∧ allDig l = true := by
  unfold allDig at h ⊢
  rw [List.all_cons, Bool.and_eq_true] at h
  have := of_decide_eq_true h.1
  exact ⟨this.1, this.2, h.2⟩

theorem dval_lt {l : List Int} (h : allDig l = true) : dval l < 10 ^ l.length := by
  induction l with
  | nil => simp [dval]
  | cons c l ih =>
    obtain ⟨h1, h2, h3⟩ := dig_cons h
    have h4 := ih h3
    rw [dval_cons, List.length_cons, Nat.pow_succ]
    have h5 : (c - 48).toNat ≤ 9 := by omega
    have h6 := Nat.mul_le_mul_right (10 ^ l.length) h5
    omega

theorem dval_inj : ∀ {l m : List Int}, allDig l = true → allDig m = true → l.length = m.length → dval l = dval m → l = m
  | [], [], _, _, _, _ => rfl
  | [], _ :: _, _, _, h, _ => by cases h
  | _ :: _, [], _, _, h, _ => by cases h
  | c :: l, d :: m, h1, h2, h3, h4 => by
    obtain ⟨a1, a2, a3⟩ := dig_cons h1
    obtain ⟨b1, b2, b3⟩ := dig_cons h2
    have hl : l.length = m.length := by simpa using h3
    rw [dval_cons, dval_cons, hl] at h4
    have e1 := dval_lt a3
    have e2 := dval_lt b3
    rw [hl] at e1
    have hp : 0 < 10 ^ m.length := Nat.pow_pos (by omega)
    have hc : (c - 48).toNat = (d - 48).toNat := by
      have x1 : ((c - 48).toNat * 10 ^ m.length + dval l) / 10 ^ m.length = (c - 48).toNat := by
        rw [Nat.add_comm, Nat.add_mul_div_right _ _ hp, Nat.div_eq_of_lt e1, Nat.zero_add]
      have x2 : ((d - 48).toNat * 10 ^ m.length + dval m) / 10 ^ m.length = (d - 48).toNat := by
        rw [Nat.add_comm, Nat.add_mul_div_right _ _ hp, Nat.div_eq_of_lt e2, Nat.zero_add]
      rw [← x1, h4, x2]
    have hv : dval l = dval m := by rw [hc] at h4; omega
    have hcd : c = d := by omega
    rw [hcd, dval_inj a3 b3 hl hv]

theorem dval_zero (l : List Int) : dval (48 :: l) = dval l := by rw [dval_cons]; simp

/-- What a minus ahead of a numeral makes of it. -/
def negOut (s : ByteArray) (v : Value) : Value := if allDig (bs s) = true ∧ dval (bs s) = 9223372036854775808 then intV (-9223372036854775808) else v

end Go.Proofs.YtamdnnkdnhkghaaGreatDoor

namespace Go.Proofs.YtamdnnkdnhkghaaGreatDoor

open Go Go.RowKit

set_option linter.unusedVariables false

abbrev numG (f : Bool) (i u : Int) : Value := .agg #[.bool f, .int .i64 i, .int .u64 u]

abbrev resG (f : Bool) (i u : Int) (ok : Bool) : Value := .tuple #[numG f i u, .bool ok]

/-- What is sure of a numeral's number. -/
def NumOK (f : Bool) (i u : Int) : Prop := (f = false ∧ u = 0 ∧ -9223372036854775808 ≤ i ∧ i ≤ 9223372036854775807) ∨ (f = true ∧ i = 0 ∧ ∃ W : Nat, W < infW ∧ u = W)

theorem wrap_range (x : Int) : -9223372036854775808 ≤ wrap64 x ∧ wrap64 x ≤ 9223372036854775807 := by unfold wrap64; omega

theorem resG_inj {f g : Bool} {i j u v : Int} {a b : Bool} (h : resG f i u a = resG g j v b) : f = g ∧ i = j ∧ u = v ∧ a = b := by
  simp at h
  exact ⟨h.1.1, h.1.2.1, h.1.2.2, h.2⟩

theorem FloatR.ok {N : Nat} {E : Int} {f : Bool} {i u : Int} (h : FloatR N E (resG f i u true)) : f = true ∧ i = 0 ∧ ∃ W : Nat, W < infW ∧ u = W := by
  obtain ⟨W, hW, h⟩ := h
  split at h
  · have := (resG_inj (show resG f i u true = resG false 0 0 false from h)).2.2.2
    cases this
  · obtain ⟨h1, h2, h3, _⟩ := resG_inj (show resG f i u true = resG true 0 W true from h)
    exact ⟨h1, h2, W, by have := isRnd_le hW; omega, h3⟩

theorem DecR.ok {l : List Int} {f : Bool} {i u : Int} (h : DecR l (resG f i u true)) : NumOK f i u := by
  unfold DecR at h
  split at h
  · have := (resG_inj (show resG f i u true = resG false 0 0 false from h)).2.2.2
    cases this
  · split at h
    · rename_i hc
      obtain ⟨h1, h2, h3, _⟩ := resG_inj (show resG f i u true = resG false _ 0 true from h)
      exact .inl ⟨h1, h3, by omega, by omega⟩
    · split at h
      · have := (resG_inj (show resG f i u true = resG false 0 0 false from h)).2.2.2
        cases this
      · exact .inr h.ok

theorem PNR.ok {s : ByteArray} {f : Bool} {i u : Int} (h : PNR s (resG f i u true)) : NumOK f i u ∧ s.size ≤ 100 := by
  unfold PNR at h
  split at h
  · have := (resG_inj (show resG f i u true = resG false 0 0 false from h)).2.2.2
    cases this
  · refine ⟨?_, by omega⟩
    split at h
    · obtain ⟨h1, h2, h3, _⟩ := resG_inj (show resG f i u true = resG false _ 0 _ from h)
      refine .inl ⟨h1, h3, ?_⟩
      rw [h2]
      split
      · exact wrap_range _
      · omega
    · exact h.ok

/-- The number with the other sign. -/
def negN (f : Bool) (i u : Int) : Value := if f then numG true 0 (9223372036854775808 + u) else numG false (wrap64 (-i)) 0

/-- What a text comes to as a number: none if it is no number. -/
def OpR (t : ByteArray) (o : Option Value) : Prop :=
  if t.data.toList = [110, 97, 110] then o = some (fltV 9221120237041090560)
  else if t.data.toList = [105, 110, 102] then o = some (fltV infW)
  else if t.data.toList = [45, 105, 110, 102] then o = some (fltV (9223372036854775808 + infW))
  else if (bs t).getD 0 0 = 45 then ∃ f i u ok, PNR (t.extract 1 t.size) (resG f i u ok) ∧ o = if ok then some (negOut (t.extract 1 t.size) (negN f i u)) else none
  else ∃ f i u ok, PNR t (resG f i u ok) ∧ o = if ok then some (numG f i u) else none

theorem OpR.unique {t : ByteArray} {o o' : Option Value} (h : OpR t o) (h' : OpR t o') : o = o' := by
  unfold OpR at h h'
  by_cases h1 : t.data.toList = [110, 97, 110]
  · rw [if_pos h1] at h h'; rw [h, h']
  · rw [if_neg h1] at h h'
    by_cases h2 : t.data.toList = [105, 110, 102]
    · rw [if_pos h2] at h h'; rw [h, h']
    · rw [if_neg h2] at h h'
      by_cases h3 : t.data.toList = [45, 105, 110, 102]
      · rw [if_pos h3] at h h'; rw [h, h']
      · rw [if_neg h3] at h h'
        by_cases h4 : (bs t).getD 0 0 = 45
        · rw [if_pos h4] at h h'
          obtain ⟨f, i, u, ok, hp, rfl⟩ := h
          obtain ⟨f', i', u', ok', hp', rfl⟩ := h'
          obtain ⟨rfl, rfl, rfl, rfl⟩ := resG_inj (hp.unique hp')
          rfl
        · rw [if_neg h4] at h h'
          obtain ⟨f, i, u, ok, hp, rfl⟩ := h
          obtain ⟨f', i', u', ok', hp', rfl⟩ := h'
          obtain ⟨rfl, rfl, rfl, rfl⟩ := resG_inj (hp.unique hp')
          rfl

end Go.Proofs.YtamdnnkdnhkghaaGreatDoor

namespace Go.Proofs.YtamdnnkdnhkghaaGreatDoor

open Go Go.RowKit

set_option linter.unusedVariables false

theorem FloatR.ex (N : Nat) (E : Int) : ∃ r, FloatR N E r := by
  obtain ⟨W, hW⟩ := DecRnd.ex N E
  exact ⟨_, W, hW, rfl⟩

theorem DecR.ex (l : List Int) : ∃ r, DecR l r := by
  unfold DecR
  split
  · exact ⟨_, rfl⟩
  · split
    · exact ⟨_, rfl⟩
    · split
      · exact ⟨_, rfl⟩
      · exact FloatR.ex _ _

theorem PNR.ex (s : ByteArray) : ∃ f i u ok, PNR s (resG f i u ok) := by
  have : ∃ r, PNR s r := by
    unfold PNR
    split
    · exact ⟨_, rfl⟩
    · split
      · exact ⟨_, rfl⟩
      · exact DecR.ex _
  obtain ⟨r, hr⟩ := this
  obtain ⟨f, i, u, ok, rfl⟩ := hr.form
  exact ⟨f, i, u, ok, hr⟩

/-- What is true of a world for the program's 'ParseNumber'. -/
structure Ready (w : World) (ev1 ev5 : Value) : Prop where
  env : ∃ G o P po C co ev m, Env w G o P po C co ev m
  e1 : w.cell? ⟨1, 0, none⟩ = some ev1
  e5 : w.cell? ⟨5, 0, none⟩ = some ev5

theorem Ready.size {w : World} {ev1 ev5 : Value} (h : Ready w ev1 ev5) : 21 < w.heap.size := by
  obtain ⟨G, o, P, po, C, co, ev, m, hE⟩ := h.env
  exact hE.vars.h12

theorem Ready.below {w w' : World} {ev1 ev5 : Value} (h : Ready w ev1 ev5) (hb : Below w.heap.size w w') : Ready w' ev1 ev5 := by
  have hs := h.size
  obtain ⟨G, o, P, po, C, co, ev, m, hE⟩ := h.env
  exact ⟨⟨G, o, P, po, C, co, ev, m, hE.below hb⟩, (hb.cell (p := ⟨1, 0, none⟩) (show 1 < w.heap.size by omega)).trans h.e1, (hb.cell (p := ⟨5, 0, none⟩) (show 5 < w.heap.size by omega)).trans h.e5⟩

end Go.Proofs.YtamdnnkdnhkghaaGreatDoor

namespace Go.Proofs.YtamdnnkdnhkghaaGreatDoor

open Go Go.RowKit

set_option linter.unusedVariables false

theorem bs_of {t : ByteArray} {l : List UInt8} (h : t.data.toList = l) : bs t = l.map fun b => ((b.toNat : Nat) : Int) := by unfold bs; rw [h]

end Go.Proofs.YtamdnnkdnhkghaaGreatDoor

namespace Go.Proofs.YtamdnnkdnhkghaaGreatDoor

open Go Go.RowKit

set_option linter.unusedVariables false

theorem byt_cells {w : World} {g : Nat} {l : List Int} (h5 : ∀ j, j < l.length → w.cell? ⟨g, j, none⟩ = some (.int .u8 (l.getD j 0))) (o : Obj) (hg : g < w.heap.size) :
    ∀ j u, (l.map (Value.int .u8))[j]? = some u → (w.alloc o).cell? ((⟨g, 0, none⟩ : Addr).add j) = some u := by
  intro j u hj
  rw [List.getElem?_map] at hj
  cases hx : l[j]? with
  | none => rw [hx] at hj; simp at hj
  | some x =>
    rw [hx] at hj
    simp at hj
    subst hj
    obtain ⟨hlt, hxx⟩ := List.getElem?_eq_some_iff.1 hx
    have := h5 j hlt
    rw [getD_lt hlt, hxx] at this
    rw [← this]
    have hb : Below w.heap.size w (w.alloc o) := (Below.refl _ _).alloc (Nat.le_refl _) o
    rw [← hb.cell (p := ⟨g, j, none⟩) hg]
    simp only [Addr.add]
    by_cases e : j = 0
    · subst e; simp
    · simp [e]

/-- 'append([]byte{c}, a...)'. -/
theorem app_head {wr : World} {ops : Array Oper} {rest : List Oper} {o : Oper} {a : Act} {Q : Exit → Act → World → Prop} (hgd : o.guard = none) (s x : Operand)
    (ho : o.op = .call { callee := .builtin .append, args := #[s, x], argTypes := #[29, 29] }) (v : Value) (c : Int) (L : List Int) (hbig : Byt wr v L) (hx : a.eval x = v) (hs : a.eval s = .slice (some ⟨wr.heap.size, 0, none⟩) 1 1)
    (hlen : L.length ≤ 10000000000)
    (h : ∀ v' w', Byt w' v' (c :: L) → Below wr.heap.size wr w' → wpList Tryz.prog ops Q rest (a.put o.dst v') w') :
    wpList Tryz.prog ops Q (o :: rest) a (wr.alloc (.cells #[.int .u8 c] 5)) := by
  obtain ⟨i0, hi, hz0, hz1, hz2⟩ := info_parts Tryz.info5
  obtain ⟨g, cap, rfl, h2, h3, h4, h5⟩ := hbig
  have hown := World.ownsRow_lit (base := wr.heap.size) (e := 5) (size := 1) wr #[.int .u8 c] 1 (Nat.le_refl _) (by simp [maxLen]) rfl
  refine wpList_append_own _ hgd s x 29 ho wr.heap.size 5 i0 (.int .u8 0) 1 1 Tryz.underlying29 hi hz0 hz1 hz2 rfl (by decide) _ 1 _ hs hown ⟨g, 0, none⟩ L.length cap (L.map (Value.int .u8)) hx (by simp) (byt_cells h5 _ h4)
    (ints_oneCell _ _) (by unfold maxLen; omega) (by omega) (by simp) ?_
  intro v' w' h1 h2 h3
  refine h v' w' (OwnB.byt (base := wr.heap.size) (L := c :: L) ⟨?_, (fun hh => by have := (h3.1 hh).1; cases this)⟩) (((Below.refl _ _).alloc (Nat.le_refl _) _).grown h2 (by simp) (fun q hq => by cases hq; exact Nat.le_refl _))
  have e : (c :: L).length = 1 + L.length := by simp; omega
  rw [e]; simpa using h1

/-- The digits of a number as bytes. -/
def decL (u : Nat) : List Int := (Lib.decDigits u).map fun b => ((b.toNat : Nat) : Int)

theorem byte_digit {k : Nat} (h : k < 10) : (((UInt8.ofNat (48 + k)).toNat : Nat) : Int) = 48 + k := by
  rw [UInt8.toNat_ofNat']
  omega

theorem decL_small {u : Nat} (h : u < 10) : decL u = [48 + ((u % 10 : Nat) : Int)] := by
  unfold decL
  rw [Lib.decDigits, dif_pos h]
  simp only [List.map_cons, List.map_nil]
  rw [byte_digit h, Nat.mod_eq_of_lt h]

theorem decL_step {u : Nat} (h : ¬ u < 10) : decL u = decL (u / 10) ++ [48 + ((u % 10 : Nat) : Int)] := by
  unfold decL
  rw [Lib.decDigits, dif_neg h, List.map_append]
  simp only [List.map_cons, List.map_nil]
  rw [byte_digit (show u % 10 < 10 by omega)]

/-- What stands ahead of the last digit. -/
def aheadL (u : Nat) : List Int := if u < 10 then [] else decL (u / 10)

theorem decL_pre (u : Nat) : decL u = aheadL u ++ [48 + ((u % 10 : Nat) : Int)] := by
  unfold aheadL
  split
  · rw [decL_small (by assumption)]; rfl
  · rw [decL_step (by assumption)]

theorem decL_len {u : Nat} {k : Nat} (h : u < 10 ^ k) (hk : 1 ≤ k) : (decL u).length ≤ k := by
  induction k generalizing u with
  | zero => omega
  | succ k ih =>
    by_cases hu : u < 10
    · rw [decL_small hu]; simp
    · by_cases hk0 : k = 0
      · subst hk0; simp at h; omega
      · rw [decL_step hu, List.length_append]
        have := ih (u := u / 10) (by rw [Nat.pow_succ] at h; omega) (by omega)
        simp
        exact this

theorem byt_string {w : World} {v : Value} {l : List UInt8} (h : Byt w v (l.map fun b => ((b.toNat : Nat) : Int))) : (convert 29 9 v).run Tryz.prog w = .ok (.string ⟨l.toArray⟩) w := by
  obtain ⟨g, cap, rfl, h2, h3, h4, h5⟩ := h
  rw [List.length_map] at h5 ⊢
  refine run_convert_bytes_back w 29 9 5 ⟨g, 0, none⟩ cap l Tryz.underlying29 Tryz.underlying5 Tryz.underlying9 (fun j hj => ?_)
  have e : (⟨g, 0, none⟩ : Addr).add j = ⟨g, j, none⟩ := by
    simp only [Addr.add]
    by_cases e : j = 0
    · subst e; simp
    · simp [e]
  rw [e, h5 j hj, getD_lt (by rw [List.length_map]; exact hj)]
  simp

theorem byt_one (w : World) (c : Int) : Byt (w.alloc (.cells #[.int .u8 c] 5)) (.slice (some ⟨w.heap.size, 0, none⟩) 1 1) [c] := by
  refine ⟨w.heap.size, 1, rfl, by simp, by simp [maxLen], by simp, fun j hj => ?_⟩
  have : j = 0 := by simpa using hj
  subst this
  simp

set_option maxHeartbeats 1600000 in
set_option maxRecDepth 100000 in
theorem dec_any (v : Int) (w : World) (h0 : -9223372036854775808 ≤ v) (h1 : v ≤ 9223372036854775807) :
    Calls Tryz.prog 38 #[.int .i64 v] w fun e w' => e = .returned (.string ⟨(Lib.itoa v).toArray⟩) ∧ Below w.heap.size w w' := by
  by_cases hn : v < 0
  · obtain ⟨U, hU⟩ : ∃ U : Nat, v = -(U : Int) := ⟨v.natAbs, by omega⟩
    subst hU
    have hu1 : U ≤ 9223372036854775808 := by omega
    have hu0 : 0 < U := by omega
    have HL := hide (decL_len (u := U) (k := 20) (by omega) (by omega))
    have HI : Hid ((Lib.itoa (-(U : Int))).map (fun b => ((b.toNat : Nat) : Int)) = 45 :: decL U) := hide (by
      unfold Lib.itoa
      rw [if_pos hn]
      have : (-(U : Int)).natAbs = U := by omega
      rw [this]
      rfl)
    generalize Lib.itoa (-(U : Int)) = out at *
    have hw : IntKind.u64.wrap (-IntKind.u64.wrap (-(U : Int))) = U := by rw [IntKind.wrap_u64, IntKind.wrap_u64]; omega
    go_enter Tryz.func38, Tryz.ntmps38
    go_wp2
    go_loopw [3, 4] (fun uv ov wr => ∃ (x : Nat) (L : List Int), uv = .int .u64 x ∧ x ≤ 9223372036854775808 ∧ Byt wr ov L ∧ Hid (decL U = aheadL x ++ L) ∧ Below w.heap.size w wr) (fun uv _ _ => (intOf uv).toNat)
    case atStart =>
      exact ⟨U, [48 + ((U % 10 : Nat) : Int)], rfl, hu1, byt_one w _, hide (decL_pre U), (Below.refl _ _).alloc (Nat.le_refl _) _⟩
    case round =>
      obtain ⟨x, L, rfl, hx, hbyt, He, hb⟩ := hrel
      have hlen : L.length ≤ 20 := by
        have := HL.out
        rw [He.out, List.length_append] at this
        omega
      by_cases hx10 : 10 ≤ x
      · have Hn : Hid (decL U = aheadL (x / 10) ++ ((48 + ((x / 10 % 10 : Nat) : Int)) :: L)) := hide (by
          rw [He.out]
          have : aheadL x = decL (x / 10) := by unfold aheadL; rw [if_neg (by omega)]
          rw [this, decL_pre, List.append_assoc]
          rfl)
        clear He
        go_wp2_with (first
          | (at_builtin; (refine app_head rfl _ _ rfl _ (48 + (x : Int) / 10 % 10) L hbyt rfl rfl (by omega) ?_; intro v' w1 hbyt' hb'))
          | go_in)
        go_wp2
        go_roundw
        case rel => exact ⟨x / 10, (48 + ((x / 10 % 10 : Nat) : Int)) :: L, by go_num, by omega, hbyt', Hn, hb.trans (hb'.mono hb.size)⟩
        case measure => simp [intOf]; omega
      · have Hn : Hid (decL U = L) := hide (by
          rw [He.out]
          have : aheadL x = [] := by unfold aheadL; rw [if_pos (by omega)]
          rw [this]
          rfl)
        clear He
        go_wp2_with (first
          | (at_builtin; (refine app_head rfl _ _ rfl _ 45 L hbyt rfl rfl (by omega) ?_; intro v' w1 hbyt' hb'))
          | go_in)
        rw [← Hn.out, ← HI.out] at hbyt'
        have hcv := byt_string hbyt'
        rw [hcv]
        go_wp2
        go_ret
        exact ⟨rfl, hb.trans (hb'.mono hb.size)⟩
  · obtain ⟨U, hU⟩ : ∃ U : Nat, v = (U : Int) := ⟨v.toNat, by omega⟩
    subst hU
    have hu1 : U ≤ 9223372036854775808 := by omega
    have HL := hide (decL_len (u := U) (k := 20) (by omega) (by omega))
    have HI : Hid ((Lib.itoa (U : Int)).map (fun b => ((b.toNat : Nat) : Int)) = decL U) := hide (by
      unfold Lib.itoa
      rw [if_neg hn]
      rfl)
    generalize Lib.itoa (U : Int) = out at *
    go_enter Tryz.func38, Tryz.ntmps38
    go_wp2
    go_loopw [3, 4] (fun uv ov wr => ∃ (x : Nat) (L : List Int), uv = .int .u64 x ∧ x ≤ 9223372036854775808 ∧ Byt wr ov L ∧ Hid (decL U = aheadL x ++ L) ∧ Below w.heap.size w wr) (fun uv _ _ => (intOf uv).toNat)
    case atStart =>
      exact ⟨U, [48 + ((U % 10 : Nat) : Int)], rfl, hu1, byt_one w _, hide (decL_pre U), (Below.refl _ _).alloc (Nat.le_refl _) _⟩
    case round =>
      obtain ⟨x, L, rfl, hx, hbyt, He, hb⟩ := hrel
      have hlen : L.length ≤ 20 := by
        have := HL.out
        rw [He.out, List.length_append] at this
        omega
      by_cases hx10 : 10 ≤ x
      · have Hn : Hid (decL U = aheadL (x / 10) ++ ((48 + ((x / 10 % 10 : Nat) : Int)) :: L)) := hide (by
          rw [He.out]
          have : aheadL x = decL (x / 10) := by unfold aheadL; rw [if_neg (by omega)]
          rw [this, decL_pre, List.append_assoc]
          rfl)
        clear He
        go_wp2_with (first
          | (at_builtin; (refine app_head rfl _ _ rfl _ (48 + (x : Int) / 10 % 10) L hbyt rfl rfl (by omega) ?_; intro v' w1 hbyt' hb'))
          | go_in)
        go_wp2
        go_roundw
        case rel => exact ⟨x / 10, (48 + ((x / 10 % 10 : Nat) : Int)) :: L, by go_num, by omega, hbyt', Hn, hb.trans (hb'.mono hb.size)⟩
        case measure => simp [intOf]; omega
      · have Hn : Hid (decL U = L) := hide (by
          rw [He.out]
          have : aheadL x = [] := by unfold aheadL; rw [if_pos (by omega)]
          rw [this]
          rfl)
        clear He
        have hbyt' := hbyt
        rw [← Hn.out, ← HI.out] at hbyt'
        have hcv := byt_string hbyt'
        go_wp2
        go_ret
        exact ⟨rfl, hb⟩

end Go.Proofs.YtamdnnkdnhkghaaGreatDoor

namespace Go.Proofs.YtamdnnkdnhkghaaGreatDoor

open Go Go.RowKit

set_option linter.unusedVariables false

abbrev senV (a : Addr) : Value := .iface 228 (.pointer (some a))

/-- Two errors of the program's own, apart. -/
structure Apart (w : World) (a b : Addr) : Prop where
  ne : a ≠ b
  ha : ∃ c t, w.heap[a.block]? = some (.cells c t (0, 0))
  hb : ∃ c t, w.heap[b.block]? = some (.cells c t (0, 0))

theorem heap_lt {w : World} {b : Nat} {o : Obj} (h : w.heap[b]? = some o) : b < w.heap.size := (Array.getElem?_eq_some_iff.1 h).1

theorem Apart.below {w w' : World} {a b : Addr} (h : Apart w a b) (hb : Below w.heap.size w w') : Apart w' a b := by
  obtain ⟨h1, ⟨c, t, h2⟩, ⟨c', t', h3⟩⟩ := h
  exact ⟨h1, ⟨c, t, by rw [hb.block _ (heap_lt h2)]; exact h2⟩, ⟨c', t', by rw [hb.block _ (heap_lt h3)]; exact h3⟩⟩

/-- The five errors. -/
structure Sents (w : World) (a1 a2 a3 a4 a5 : Addr) : Prop where
  g1 : w.cell? ⟨1, 0, none⟩ = some (senV a1)
  g2 : w.cell? ⟨2, 0, none⟩ = some (senV a2)
  g3 : w.cell? ⟨3, 0, none⟩ = some (senV a3)
  g4 : w.cell? ⟨4, 0, none⟩ = some (senV a4)
  g5 : w.cell? ⟨5, 0, none⟩ = some (senV a5)
  d1 : Apart w a5 a1
  d2 : Apart w a5 a2
  d3 : Apart w a5 a3
  d4 : Apart w a5 a4

theorem Sents.below {w w' : World} {a1 a2 a3 a4 a5 : Addr} (h : Sents w a1 a2 a3 a4 a5) (hs : 5 < w.heap.size) (hb : Below w.heap.size w w') : Sents w' a1 a2 a3 a4 a5 :=
  ⟨(hb.cell (p := ⟨1, 0, none⟩) (show 1 < w.heap.size by omega)).trans h.g1, (hb.cell (p := ⟨2, 0, none⟩) (show 2 < w.heap.size by omega)).trans h.g2, (hb.cell (p := ⟨3, 0, none⟩) (show 3 < w.heap.size by omega)).trans h.g3,
   (hb.cell (p := ⟨4, 0, none⟩) (show 4 < w.heap.size by omega)).trans h.g4, (hb.cell (p := ⟨5, 0, none⟩) hs).trans h.g5, h.d1.below hb, h.d2.below hb, h.d3.below hb, h.d4.below hb⟩

end Go.Proofs.YtamdnnkdnhkghaaGreatDoor

namespace Go.Proofs.YtamdnnkdnhkghaaGreatDoor

open Go Go.RowKit

set_option linter.unusedVariables false

/-- All that the program's own side reads. -/
structure Full (w : World) (a1 a2 a3 a4 a5 : Addr) : Prop where
  env : ∃ G o P po C co ev m, Env w G o P po C co ev m
  sents : Sents w a1 a2 a3 a4 a5
  tab : Lib.TabIs Tryz.prog w "internal/strconv.uint64pow10" .u64 Lib.pow10Tab

theorem Full.ready {w : World} {a1 a2 a3 a4 a5 : Addr} (h : Full w a1 a2 a3 a4 a5) : Ready w (senV a1) (senV a5) := ⟨h.env, h.sents.g1, h.sents.g5⟩

theorem Full.below {w w' : World} {a1 a2 a3 a4 a5 : Addr} (h : Full w a1 a2 a3 a4 a5) (hb : Below w.heap.size w w') : Full w' a1 a2 a3 a4 a5 := by
  have hs := h.ready.size
  exact ⟨(h.ready.below hb).env, h.sents.below (by omega) hb, Lib.tabBelow_of_tabIs h.tab w' hb⟩

theorem itoa_any (k : Int) (h0 : -9223372036854775808 ≤ k) (h1 : k ≤ 9223372036854775807) (w : World) (ht : Lib.TabIs Tryz.prog w "internal/strconv.uint64pow10" .u64 Lib.pow10Tab) :
    Calls Tryz.prog 21 #[.int .i64 k] w fun e w' => e = .returned (.string ⟨(Lib.itoa k).toArray⟩) ∧ Below w.heap.size w w' := by
  refine (Tryz.strconv_Itoa k h0 h1 w ht).mono ?_
  rintro e w' ⟨rfl, n, os, rfl⟩
  exact ⟨rfl, Lib.below_grow _ _ (Nat.le_refl _) _ _⟩

end Go.Proofs.YtamdnnkdnhkghaaGreatDoor

namespace Go.Proofs.YtamdnnkdnhkghaaGreatDoor

open Go Go.RowKit

set_option linter.unusedVariables false

theorem isZero_any (x : Int) (w : World) (h0 : 0 ≤ x) : Calls Tryz.prog 108 #[.int .u64 x] w fun e w' => e = .returned (.bool (x % 9223372036854775808 == 0)) ∧ w' = w := by
  go_enter Tryz.func108, Tryz.ntmps108
  go_wp2
  all_goals go_ret
  all_goals exact ⟨rfl, rfl⟩

end Go.Proofs.YtamdnnkdnhkghaaGreatDoor

namespace Go.Proofs.YtamdnnkdnhkghaaGreatDoor

open Go Go.RowKit

set_option linter.unusedVariables false

/-- The word of an integer. -/
def intW (i : Int) : Nat := wordS (decide (i < 0)) (Ieee.double.nearest false i.natAbs 0)

theorem word_val {n W : Nat} (h : IsRnd (n * 2 ^ ((0 : Int) + 1074).toNat) (1 * 2 ^ (-1074 - (0 : Int)).toNat) W) : W = Ieee.double.nearest false n 0 := by
  obtain ⟨c, hc⟩ : ∃ c : Nat, c = 1074 := ⟨_, rfl⟩
  have e1 : ((0 : Int) + 1074).toNat = c := by omega
  have e2 : (-1074 - (0 : Int)).toNat = 0 := by decide
  rw [e1, e2, Nat.pow_zero, Nat.mul_one] at h
  by_cases h0 : n = 0
  · subst h0
    rw [Nat.zero_mul] at h
    have h1 : IsRnd 0 1 0 := rnd_small (by omega)
    rw [IsRnd.unique h h1]
    decide +kernel
  · have h1 := nearest_rnd (mag := n) (place := 0) h0 (A := c) (B := 0) (by omega)
    rw [Nat.pow_zero] at h1
    exact IsRnd.unique h h1

set_option maxHeartbeats 1600000 in
set_option maxRecDepth 100000 in
theorem fromInt_val (i : Int) (w : World) (h0 : -9223372036854775808 < i) (h1 : i ≤ 9223372036854775807) :
    Calls Tryz.prog 59 #[.int .i64 i] w fun e w' => e = .returned (.int .u64 (intW i : Nat)) ∧ Below w.heap.size w w' := by
  have hb : (i == -9223372036854775808) = false := by rw [beq_eq_false_iff_ne]; omega
  by_cases hn : i < 0
  · obtain ⟨n, hni, hn2⟩ : ∃ n : Nat, -i = n ∧ n < 9223372036854775808 := ⟨(-i).toNat, by omega, by omega⟩
    have hw : Ieee.double.nearest false n 0 ≤ infW := nearest_le n 0
    have hI : (intW i : Nat) = 9223372036854775808 + Ieee.double.nearest false n 0 := by
      unfold intW wordS
      have : i.natAbs = n := by omega
      rw [this, decide_eq_true hn, if_pos rfl]
    rw [hI]
    have O := hide (fun w' => of_any n w' hn2)
    have Wd := hide (fun w' vn vd h hd => word_int n w' vn vd hn2 h hd)
    clear hI
    generalize hW : Ieee.double.nearest false n 0 = V at *
    have HW := hide hW
    have hw1 : (V : Int) ≤ 9218868437227405312 := by unfold infW at hw; omega
    clear hW hw
    rw [Int.natCast_add]
    go_enter Tryz.func59, Tryz.ntmps59
    go_wp2_with fail
    refine (O.out _).mono ?_
    rintro e w1 ⟨v1, rfl, hbig, hb1⟩
    go_wp2_with fail
    refine (Wd.out _ _ _ (hbig.below ((Below.refl _ _).alloc (Nat.le_refl _) _)) (big_one w1)).mono ?_
    rintro e w2 ⟨W, rfl, hrnd, hb2⟩
    have hWV : W = V := by rw [← HW.out]; exact word_val hrnd
    subst hWV
    clear hrnd
    go_wp2
    go_ret
    exact ⟨rfl, hb1.trans (((Below.refl w1.heap.size w1).alloc (Nat.le_refl _) _).trans (hb2.mono (by simp)) |>.mono hb1.size)⟩
  · obtain ⟨n, hni, hn2⟩ : ∃ n : Nat, i = n ∧ n < 9223372036854775808 := ⟨i.toNat, by omega, by omega⟩
    subst hni
    have hI : (intW (n : Int) : Nat) = Ieee.double.nearest false n 0 := by
      unfold intW wordS
      rw [decide_eq_false hn, if_neg (by decide)]
      rfl
    rw [hI]
    have O := hide (fun w' => of_any n w' hn2)
    have Wd := hide (fun w' vn vd h hd => word_int n w' vn vd hn2 h hd)
    clear hI
    generalize hW : Ieee.double.nearest false n 0 = V at *
    have HW := hide hW
    clear hW
    go_enter Tryz.func59, Tryz.ntmps59
    go_wp2_with fail
    refine (O.out _).mono ?_
    rintro e w1 ⟨v1, rfl, hbig, hb1⟩
    go_wp2_with fail
    refine (Wd.out _ _ _ (hbig.below ((Below.refl _ _).alloc (Nat.le_refl _) _)) (big_one w1)).mono ?_
    rintro e w2 ⟨W, rfl, hrnd, hb2⟩
    have hWV : W = V := by rw [← HW.out]; exact word_val hrnd
    subst hWV
    clear hrnd
    go_wp2
    go_ret
    exact ⟨rfl, hb1.trans (((Below.refl w1.heap.size w1).alloc (Nat.le_refl _) _).trans (hb2.mono (by simp)) |>.mono hb1.size)⟩

end Go.Proofs.YtamdnnkdnhkghaaGreatDoor

namespace Go.Proofs.YtamdnnkdnhkghaaGreatDoor

open Go Go.RowKit

set_option linter.unusedVariables false

/-- 'out = append(out, z)' beside a block that is no part of out. -/
theorem app_beside {wr : World} {ops : Array Oper} {rest : List Oper} {o : Oper} {a : Act} {Q : Exit → Act → World → Prop} (hgd : o.guard = none) (s x : Operand)
    (ho : o.op = .call { callee := .builtin .append, args := #[s, x], argTypes := #[29, 29] }) (base lit : Nat) (v : Value) (L : List Int) (z : Int) (hown : OwnB wr base v L) (hne : v.ownBlock ≠ some lit) (hlit : lit < wr.heap.size) (hs : a.eval s = v) (hx : a.eval x = .slice (some ⟨wr.heap.size, 0, none⟩) 1 1)
    (hlen : L.length ≤ 10000000000) (hbase : base ≤ wr.heap.size)
    (h : ∀ v' w', OwnB w' base v' (L ++ [z]) → v'.ownBlock ≠ some lit → lit < w'.heap.size → (∀ q u, wr.cell? ⟨lit, q, none⟩ = some u → w'.cell? ⟨lit, q, none⟩ = some u) → (∀ B w0, Below B w0 wr → B ≤ base → Below B w0 w') → wpList Tryz.prog ops Q rest (a.put o.dst v') w') :
    wpList Tryz.prog ops Q (o :: rest) a (wr.alloc (.cells #[.int .u8 z] 5)) := by
  obtain ⟨i0, hi, hz0, hz1, hz2⟩ := info_parts Tryz.info5
  refine wpList_append_own_at _ hgd s x 29 ho base 5 i0 (.int .u8 0) 1 1 Tryz.underlying29 hi hz0 hz1 hz2 rfl (by decide) v L.length (L.map (Value.int .u8)) hs (hown.1.alloc _) ⟨wr.heap.size, 0, none⟩ 1 1 [.int .u8 z] hx rfl (news_one5 _ _)
    (fun u hu => by simp at hu; subst hu; rfl) (by unfold maxLen; omega) (by omega) (by simp; omega) ?_
  intro v' w' h1 h2 h3 h4
  refine h v' w' ⟨by simpa using h1, fun hh => hown.2 (h3.1 hh).1⟩ ?_ ?_ ?_ (fun B w0 hb hB => (hb.alloc (by omega) _).grown h2 (by simp; omega) (fun q hq => ?_))
  · rcases h4 with h4 | h4
    · rw [h4]; exact hne
    · rw [h4]; simp; omega
  · have := h2.size
    simp at this
    omega
  · intro q u hu
    refine h2.cell (a := ⟨lit, q, none⟩) ?_ (fun hh => hne hh.symm)
    have hb : Below wr.heap.size wr (wr.alloc (.cells #[.int .u8 z] 5)) := (Below.refl _ _).alloc (Nat.le_refl _) _
    rw [hb.cell (p := ⟨lit, q, none⟩) hlit]
    exact hu
  · have := (hown.1.lt q hq).1
    omega

end Go.Proofs.YtamdnnkdnhkghaaGreatDoor
