import Derived.Laws.IdiomStrings
import Derived.Test.YtamdnnkdnhkghaaGreatDoorP26
import Derived.LaidEql
import Derived.Stop.Asserts
import Derived.RowKitTokens
import Derived.Lib.AppendIntMem
import Derived.Test.YtamdnnkdnhkghaaGreatDoorP01
import Derived.Stop.LaidTwo
import Derived.LaidSub
import Derived.WalkKit
import Derived.ProofKit
import Derived.OpenShut
import Derived.Deep.DeepHandedRow
import Derived.ChangeMaps5
import Derived.Carry
import Derived.ChangeOld
import Derived.Laws.FloatArith
import Derived.Maps.AppendAt
namespace Go.Proofs.YtamdnnkdnhkghaaGreatDoor

open Go Go.RowKit

set_option linter.unusedVariables false

theorem byt_cells {w : World} {g : Nat} {l : List Int} (h5 : ∀ j, j < l.length → w.cell? ⟨g, j, none⟩ = some (.int .u8 (l.getD j 0))) (o : Obj) (hg : g < w.heap.size) :
    ∀ j u, (l.map (Value.int .u8))[j]? = some u → (w.alloc o).cell? ((⟨g, 0, none⟩ : Addr).add j) = some u := by
  intro j u hj
  rw [List.getElem?_map] at hj
  cases hx : l[j]? with
  | none => rw [hx] at hj; simp at hj
  | some x =>
    rw [hx] at hj
    simp at hj
    subst hj
    obtain ⟨hlt, hxx⟩ := List.getElem?_eq_some_iff.1 hx
    have := h5 j hlt
    rw [getD_lt hlt, hxx] at this
    rw [← this]
    have hb : Below w.heap.size w (w.alloc o) := (Below.refl _ _).alloc (Nat.le_refl _) o
    rw [← hb.cell (p := ⟨g, j, none⟩) hg]
    simp only [Addr.add]
    by_cases e : j = 0
    · subst e; simp
    · simp [e]

/-- 'append([]byte{c}, a...)'. -/
theorem app_head {wr : World} {ops : Array Oper} {rest : List Oper} {o : Oper} {a : Act} {Q : Exit → Act → World → Prop} (hgd : o.guard = none) (s x : Operand)
    (ho : o.op = .call { callee := .builtin .append, args := #[s, x], argTypes := #[29, 29] }) (v : Value) (c : Int) (L : List Int) (hbig : Byt wr v L) (hx : a.eval x = v) (hs : a.eval s = .slice (some ⟨wr.heap.size, 0, none⟩) 1 1)
    (hlen : L.length ≤ 10000000000)
    (h : ∀ v' w', Byt w' v' (c :: L) → Below wr.heap.size wr w' → wpList Tryz.prog ops Q rest (a.put o.dst v') w') :
    wpList Tryz.prog ops Q (o :: rest) a (wr.alloc (.cells #[.int .u8 c] 5)) := by
  obtain ⟨i0, hi, hz0, hz1, hz2⟩ := info_parts Tryz.info5
  obtain ⟨g, cap, rfl, h2, h3, h4, h5⟩ := hbig
  have hown := World.ownsRow_lit (base := wr.heap.size) (e := 5) (size := 1) wr #[.int .u8 c] 1 (Nat.le_refl _) (by simp [maxLen]) rfl
  refine wpList_append_own _ hgd s x 29 ho wr.heap.size 5 i0 (.int .u8 0) 1 1 Tryz.underlying29 hi hz0 hz1 hz2 rfl (by decide) _ 1 _ hs hown ⟨g, 0, none⟩ L.length cap (L.map (Value.int .u8)) hx (by simp) (byt_cells h5 _ h4)
    (ints_oneCell _ _) (by unfold maxLen; omega) (by omega) (by simp) ?_
  intro v' w' h1 h2 h3
  refine h v' w' (OwnB.byt (base := wr.heap.size) (L := c :: L) ⟨?_, (fun hh => by have := (h3.1 hh).1; cases this)⟩) (((Below.refl _ _).alloc (Nat.le_refl _) _).grown h2 (by simp) (fun q hq => by cases hq; exact Nat.le_refl _))
  have e : (c :: L).length = 1 + L.length := by simp; omega
  rw [e]; simpa using h1

/-- The digits of a number as bytes. -/
def decL (u : Nat) : List Int := (Lib.decDigits u).map fun b => ((b.toNat : Nat) : Int)

theorem byte_digit {k : Nat} (h : k < 10) : (((UInt8.ofNat (48 + k)).toNat : Nat) : Int) = 48 + k := by
  rw [UInt8.toNat_ofNat']
  omega

theorem decL_small {u : Nat} (h : u < 10) : decL u = [48 + ((u % 10 : Nat) : Int)] := by
  unfold decL
  rw [Lib.decDigits, dif_pos h]
  simp only [List.map_cons, List.map_nil]
  rw [byte_digit h, Nat.mod_eq_of_lt h]

theorem decL_step {u : Nat} (h : ¬ u < 10) : decL u = decL (u / 10) ++ [48 + ((u % 10 : Nat) : Int)] := by
  unfold decL
  rw [Lib.decDigits, dif_neg h, List.map_append]
  simp only [List.map_cons, List.map_nil]
  rw [byte_digit (show u % 10 < 10 by omega)]

/-- What stands ahead of the last digit. -/
def aheadL (u : Nat) : List Int := if u < 10 then [] else decL (u / 10)

theorem decL_pre (u : Nat) : decL u = aheadL u ++ [48 + ((u % 10 : Nat) : Int)] := by
  unfold aheadL
  split
  · rw [decL_small (by assumption)]; rfl
  · rw [decL_step (by assumption)]

theorem decL_len {u : Nat} {k : Nat} (h : u < 10 ^ k) (hk : 1 ≤ k) : (decL u).length ≤ k := by
  induction k generalizing u with
  | zero => omega
  | succ k ih =>
    by_cases hu : u < 10
    · rw [decL_small hu]; simp
    · by_cases hk0 : k = 0
      · subst hk0; simp at h; omega
      · rw [decL_step hu, List.length_append]
        have := ih (u := u / 10) (by rw [Nat.pow_succ] at h; omega) (by omega)
        simp
        exact this

theorem byt_string {w : World} {v : Value} {l : List UInt8} (h : Byt w v (l.map fun b => ((b.toNat : Nat) : Int))) : (convert 29 9 v).run Tryz.prog w = .ok (.string ⟨l.toArray⟩) w := by
  obtain ⟨g, cap, rfl, h2, h3, h4, h5⟩ := h
  rw [List.length_map] at h5 ⊢
  refine run_convert_bytes_back w 29 9 5 ⟨g, 0, none⟩ cap l Tryz.underlying29 Tryz.underlying5 Tryz.underlying9 (fun j hj => ?_)
  have e : (⟨g, 0, none⟩ : Addr).add j = ⟨g, j, none⟩ := by
    simp only [Addr.add]
    by_cases e : j = 0
    · subst e; simp
    · simp [e]
  rw [e, h5 j hj, getD_lt (by rw [List.length_map]; exact hj)]
  simp

theorem byt_one (w : World) (c : Int) : Byt (w.alloc (.cells #[.int .u8 c] 5)) (.slice (some ⟨w.heap.size, 0, none⟩) 1 1) [c] := by
  refine ⟨w.heap.size, 1, rfl, by simp, by simp [maxLen], by simp, fun j hj => ?_⟩
  have : j = 0 := by simpa using hj
  subst this
  simp

set_option maxHeartbeats 1600000 in
set_option maxRecDepth 100000 in
theorem dec_any (v : Int) (w : World) (h0 : -9223372036854775808 ≤ v) (h1 : v ≤ 9223372036854775807) :
    Calls Tryz.prog 38 #[.int .i64 v] w fun e w' => e = .returned (.string ⟨(Lib.itoa v).toArray⟩) ∧ Below w.heap.size w w' := by
  by_cases hn : v < 0
  · obtain ⟨U, hU⟩ : ∃ U : Nat, v = -(U : Int) := ⟨v.natAbs, by omega⟩
    subst hU
    have hu1 : U ≤ 9223372036854775808 := by omega
    have hu0 : 0 < U := by omega
    have HL := hide (decL_len (u := U) (k := 20) (by omega) (by omega))
    have HI : Hid ((Lib.itoa (-(U : Int))).map (fun b => ((b.toNat : Nat) : Int)) = 45 :: decL U) := hide (by
      unfold Lib.itoa
      rw [if_pos hn]
      have : (-(U : Int)).natAbs = U := by omega
      rw [this]
      rfl)
    generalize Lib.itoa (-(U : Int)) = out at *
    have hw : IntKind.u64.wrap (-IntKind.u64.wrap (-(U : Int))) = U := by rw [IntKind.wrap_u64, IntKind.wrap_u64]; omega
    go_enter Tryz.func38, Tryz.ntmps38
    go_wp2
    go_loopw [3, 4] (fun uv ov wr => ∃ (x : Nat) (L : List Int), uv = .int .u64 x ∧ x ≤ 9223372036854775808 ∧ Byt wr ov L ∧ Hid (decL U = aheadL x ++ L) ∧ Below w.heap.size w wr) (fun uv _ _ => (intOf uv).toNat)
    case atStart =>
      exact ⟨U, [48 + ((U % 10 : Nat) : Int)], rfl, hu1, byt_one w _, hide (decL_pre U), (Below.refl _ _).alloc (Nat.le_refl _) _⟩
    case round =>
      obtain ⟨x, L, rfl, hx, hbyt, He, hb⟩ := hrel
      have hlen : L.length ≤ 20 := by
        have := HL.out
        rw [He.out, List.length_append] at this
        omega
      by_cases hx10 : 10 ≤ x
      · have Hn : Hid (decL U = aheadL (x / 10) ++ ((48 + ((x / 10 % 10 : Nat) : Int)) :: L)) := hide (by
          rw [He.out]
          have : aheadL x = decL (x / 10) := by unfold aheadL; rw [if_neg (by omega)]
          rw [this, decL_pre, List.append_assoc]
          rfl)
        clear He
        go_wp2_with (first
          | (at_builtin; (refine app_head rfl _ _ rfl _ (48 + (x : Int) / 10 % 10) L hbyt rfl rfl (by omega) ?_; intro v' w1 hbyt' hb'))
          | go_in)
        go_wp2
        go_roundw
        case rel => exact ⟨x / 10, (48 + ((x / 10 % 10 : Nat) : Int)) :: L, by go_num, by omega, hbyt', Hn, hb.trans (hb'.mono hb.size)⟩
        case measure => simp [intOf]; omega
      · have Hn : Hid (decL U = L) := hide (by
          rw [He.out]
          have : aheadL x = [] := by unfold aheadL; rw [if_pos (by omega)]
          rw [this]
          rfl)
        clear He
        go_wp2_with (first
          | (at_builtin; (refine app_head rfl _ _ rfl _ 45 L hbyt rfl rfl (by omega) ?_; intro v' w1 hbyt' hb'))
          | go_in)
        rw [← Hn.out, ← HI.out] at hbyt'
        have hcv := byt_string hbyt'
        rw [hcv]
        go_wp2
        go_ret
        exact ⟨rfl, hb.trans (hb'.mono hb.size)⟩
  · obtain ⟨U, hU⟩ : ∃ U : Nat, v = (U : Int) := ⟨v.toNat, by omega⟩
    subst hU
    have hu1 : U ≤ 9223372036854775808 := by omega
    have HL := hide (decL_len (u := U) (k := 20) (by omega) (by omega))
    have HI : Hid ((Lib.itoa (U : Int)).map (fun b => ((b.toNat : Nat) : Int)) = decL U) := hide (by
      unfold Lib.itoa
      rw [if_neg hn]
      rfl)
    generalize Lib.itoa (U : Int) = out at *
    go_enter Tryz.func38, Tryz.ntmps38
    go_wp2
    go_loopw [3, 4] (fun uv ov wr => ∃ (x : Nat) (L : List Int), uv = .int .u64 x ∧ x ≤ 9223372036854775808 ∧ Byt wr ov L ∧ Hid (decL U = aheadL x ++ L) ∧ Below w.heap.size w wr) (fun uv _ _ => (intOf uv).toNat)
    case atStart =>
      exact ⟨U, [48 + ((U % 10 : Nat) : Int)], rfl, hu1, byt_one w _, hide (decL_pre U), (Below.refl _ _).alloc (Nat.le_refl _) _⟩
    case round =>
      obtain ⟨x, L, rfl, hx, hbyt, He, hb⟩ := hrel
      have hlen : L.length ≤ 20 := by
        have := HL.out
        rw [He.out, List.length_append] at this
        omega
      by_cases hx10 : 10 ≤ x
      · have Hn : Hid (decL U = aheadL (x / 10) ++ ((48 + ((x / 10 % 10 : Nat) : Int)) :: L)) := hide (by
          rw [He.out]
          have : aheadL x = decL (x / 10) := by unfold aheadL; rw [if_neg (by omega)]
          rw [this, decL_pre, List.append_assoc]
          rfl)
        clear He
        go_wp2_with (first
          | (at_builtin; (refine app_head rfl _ _ rfl _ (48 + (x : Int) / 10 % 10) L hbyt rfl rfl (by omega) ?_; intro v' w1 hbyt' hb'))
          | go_in)
        go_wp2
        go_roundw
        case rel => exact ⟨x / 10, (48 + ((x / 10 % 10 : Nat) : Int)) :: L, by go_num, by omega, hbyt', Hn, hb.trans (hb'.mono hb.size)⟩
        case measure => simp [intOf]; omega
      · have Hn : Hid (decL U = L) := hide (by
          rw [He.out]
          have : aheadL x = [] := by unfold aheadL; rw [if_pos (by omega)]
          rw [this]
          rfl)
        clear He
        have hbyt' := hbyt
        rw [← Hn.out, ← HI.out] at hbyt'
        have hcv := byt_string hbyt'
        go_wp2
        go_ret
        exact ⟨rfl, hb⟩

end Go.Proofs.YtamdnnkdnhkghaaGreatDoor

namespace Go.Proofs.YtamdnnkdnhkghaaGreatDoor

open Go Go.RowKit

set_option linter.unusedVariables false

abbrev senV (a : Addr) : Value := .iface 228 (.pointer (some a))

/-- Two errors of the program's own, apart. -/
structure Apart (w : World) (a b : Addr) : Prop where
  ne : a ≠ b
  ha : ∃ c t, w.heap[a.block]? = some (.cells c t (0, 0))
  hb : ∃ c t, w.heap[b.block]? = some (.cells c t (0, 0))

theorem heap_lt {w : World} {b : Nat} {o : Obj} (h : w.heap[b]? = some o) : b < w.heap.size := (Array.getElem?_eq_some_iff.1 h).1

theorem Apart.below {w w' : World} {a b : Addr} (h : Apart w a b) (hb : Below w.heap.size w w') : Apart w' a b := by
  obtain ⟨h1, ⟨c, t, h2⟩, ⟨c', t', h3⟩⟩ := h
  exact ⟨h1, ⟨c, t, by rw [hb.block _ (heap_lt h2)]; exact h2⟩, ⟨c', t', by rw [hb.block _ (heap_lt h3)]; exact h3⟩⟩

/-- The five errors. -/
structure Sents (w : World) (a1 a2 a3 a4 a5 : Addr) : Prop where
  g1 : w.cell? ⟨1, 0, none⟩ = some (senV a1)
  g2 : w.cell? ⟨2, 0, none⟩ = some (senV a2)
  g3 : w.cell? ⟨3, 0, none⟩ = some (senV a3)
  g4 : w.cell? ⟨4, 0, none⟩ = some (senV a4)
  g5 : w.cell? ⟨5, 0, none⟩ = some (senV a5)
  d1 : Apart w a5 a1
  d2 : Apart w a5 a2
  d3 : Apart w a5 a3
  d4 : Apart w a5 a4

theorem Sents.below {w w' : World} {a1 a2 a3 a4 a5 : Addr} (h : Sents w a1 a2 a3 a4 a5) (hs : 5 < w.heap.size) (hb : Below w.heap.size w w') : Sents w' a1 a2 a3 a4 a5 :=
  ⟨(hb.cell (p := ⟨1, 0, none⟩) (show 1 < w.heap.size by omega)).trans h.g1, (hb.cell (p := ⟨2, 0, none⟩) (show 2 < w.heap.size by omega)).trans h.g2, (hb.cell (p := ⟨3, 0, none⟩) (show 3 < w.heap.size by omega)).trans h.g3,
   (hb.cell (p := ⟨4, 0, none⟩) (show 4 < w.heap.size by omega)).trans h.g4, (hb.cell (p := ⟨5, 0, none⟩) hs).trans h.g5, h.d1.below hb, h.d2.below hb, h.d3.below hb, h.d4.below hb⟩

end Go.Proofs.YtamdnnkdnhkghaaGreatDoor

namespace Go.Proofs.YtamdnnkdnhkghaaGreatDoor

open Go Go.RowKit

set_option linter.unusedVariables false

/-- All that the program's own side reads. -/
structure Full (w : World) (a1 a2 a3 a4 a5 : Addr) : Prop where
  env : ∃ G o P po C co ev m, Env w G o P po C co ev m
  sents : Sents w a1 a2 a3 a4 a5
  tab : Lib.TabIs Tryz.prog w "internal/strconv.uint64pow10" .u64 Lib.pow10Tab

theorem Full.ready {w : World} {a1 a2 a3 a4 a5 : Addr} (h : Full w a1 a2 a3 a4 a5) : Ready w (senV a1) (senV a5) := ⟨h.env, h.sents.g1, h.sents.g5⟩

theorem Full.below {w w' : World} {a1 a2 a3 a4 a5 : Addr} (h : Full w a1 a2 a3 a4 a5) (hb : Below w.heap.size w w') : Full w' a1 a2 a3 a4 a5 := by
  have hs := h.ready.size
  exact ⟨(h.ready.below hb).env, h.sents.below (by omega) hb, Lib.tabBelow_of_tabIs h.tab w' hb⟩

theorem itoa_any (k : Int) (h0 : -9223372036854775808 ≤ k) (h1 : k ≤ 9223372036854775807) (w : World) (ht : Lib.TabIs Tryz.prog w "internal/strconv.uint64pow10" .u64 Lib.pow10Tab) :
    Calls Tryz.prog 21 #[.int .i64 k] w fun e w' => e = .returned (.string ⟨(Lib.itoa k).toArray⟩) ∧ Below w.heap.size w w' := by
  refine (Tryz.strconv_Itoa k h0 h1 w ht).mono ?_
  rintro e w' ⟨rfl, n, os, rfl⟩
  exact ⟨rfl, Lib.below_grow _ _ (Nat.le_refl _) _ _⟩

end Go.Proofs.YtamdnnkdnhkghaaGreatDoor

namespace Go.Proofs.YtamdnnkdnhkghaaGreatDoor

open Go.ChangeShapes Go.WideShapes Go.ChangeAt Go Go.RowKit Go.ChangeMaps Go.WideElems

set_option linter.unusedVariables false

/-- The promise where nothing below the heap's old size has turned. -/
theorem post_low {H : Type} {enc : TypeId × Value → H} {P : Program} {f : Func} {s : ChangeSpec} {apart fresh handsOn again : Bool} {W W' : World} {args : Array Value} {v : Value} {ds gs : List (DataW H)} {before pa pv : List MemPlace}
    (hW : DataW.Whole enc P f.params.toList s.vars apart W args.toList ds gs before)
    (hres : ∀ (b : Nat) (sp : Nat → Bool) (hd : Bool), DataW.TrodAll enc P W' b sp hd f.resultTypes.toList (v.resultList f.resultTypes.size) (s.fn H (ds ++ gs)).results [])
    (hargs : ∀ sp : Nat → Bool, (∀ p ∈ before, sp p.block = true) → DataW.TrodAll enc P W' 0 sp true f.params.toList args.toList (s.fn H (ds ++ gs)).args pa)
    (hvars : ∀ sp : Nat → Bool, (∀ p ∈ before, sp p.block = true) → DataW.TrodVars enc P W' sp s.vars (s.fn H (ds ++ gs)).vars pv)
    (hps : before = pa ++ pv) (hb : Below W.heap.size W W')
    (hok : ∀ (j : Nat) (t : TypeId) (r : Value), f.resultTypes[j]? = some t → (v.resultList f.resultTypes.size)[j]? = some r → Value.okWide P W' .any 0 t r) :
    s.post enc P f apart fresh handsOn again W args v W' := by
  have hlt := hW.lt
  have hold : ∀ p ∈ before, (fun b => decide (b < W.heap.size)) p.block = true := fun p hp => by simpa using hlt p hp
  refine ⟨ds, gs, before, [], pa, pv, hW, hres _ _ _, hargs _ hold, hvars _ hold, World.keptBut_mono (fun p hp => ⟨hp, ?_⟩) (hb.frame _), fun _ => ?_⟩
  · rw [hps, List.mem_append] at hp
    exact Or.inr hp
  · obtain ⟨_, _, _, _, _, hz, hn⟩ := hW
    refine ⟨hok, _, _, ([] ++ pa) ++ pv, ⟨[] ++ pa, pv, trodAll_append (hargs _ (fun _ _ => rfl)) (hres _ _ _), hvars _ (fun _ _ => rfl), rfl, ?_, ?_⟩, ?_⟩
    · intro b off hp
      have hp' : MemPlace.cell b off ∈ before := by rw [hps]; simpa using hp
      rw [hb.frozen (p := ⟨b, off, none⟩) (hlt _ hp')]
      exact hz b off hp'
    · intro ha
      have := hn ha
      rw [hps] at this
      simpa using this
    · intro p hp _
      rw [hps]
      simpa using hp

theorem own : ownKnob Tryz.prog.godebug = none := by kernel_rfl

end Go.Proofs.YtamdnnkdnhkghaaGreatDoor

namespace Go.Proofs.YtamdnnkdnhkghaaGreatDoor

set_option maxHeartbeats 100000

/-- A rung's magnitude in units of the least. -/
def wV (r : Nat) : Nat := wM r * 2 ^ wK r

theorem wK_mono {r q : Nat} (h : r ≤ q) : wK r ≤ wK q := by unfold wK; omega

theorem wV_lt {r q : Nat} (h : r < q) : wV r < wV q := by
  unfold wV
  have hk := wK_mono (Nat.le_of_lt h)
  have p : ∀ x : Nat, 0 < 2 ^ x := fun x => Nat.pow_pos (by omega)
  rcases Nat.lt_or_ge (wK r) (wK q) with hlt | hge
  · have h1 := wM_lt r
    have h2 := wM_ge (r := q) (by omega)
    have h3 : wM r * 2 ^ wK r < 9007199254740992 * 2 ^ wK r := Nat.mul_lt_mul_of_pos_right h1 (p _)
    have h4 : 4503599627370496 * 2 ^ wK q ≤ wM q * 2 ^ wK q := Nat.mul_le_mul_right _ h2
    have h5 : 9007199254740992 * 2 ^ wK r = 4503599627370496 * 2 ^ (wK r + 1) := by rw [Nat.pow_succ]; omega
    have h6 : 2 ^ (wK r + 1) ≤ 2 ^ wK q := Nat.pow_le_pow_right (by omega) hlt
    have h7 := Nat.mul_le_mul_left 4503599627370496 h6
    omega
  · have he : wK r = wK q := Nat.le_antisymm hk hge
    rw [he]
    have h1 := w_parts r
    have h2 := w_parts q
    rw [he] at h1
    exact Nat.mul_lt_mul_of_pos_right (by omega) (p _)

theorem wV_le {r q : Nat} (h : r ≤ q) : wV r ≤ wV q := by
  rcases Nat.lt_or_eq_of_le h with h | h
  · exact Nat.le_of_lt (wV_lt h)
  · rw [h]; exact Nat.le_refl _

theorem wV_zero : wV 0 = 0 := by unfold wV; rw [show wM 0 = 0 from rfl, Nat.zero_mul]

theorem wV_pos {r : Nat} (h : r ≠ 0) : 0 < wV r := by
  have := wV_lt (r := 0) (q := r) (by omega)
  rw [wV_zero] at this
  exact this

theorem sgZ_mul (s : Bool) (a c : Nat) : sgZ s (a * c) = sgZ s a * (c : Int) := by
  unfold sgZ
  cases s with
  | false => simp only [Bool.false_eq_true, if_false]; rw [Int.natCast_mul]
  | true => simp only [if_true]; rw [Int.natCast_mul, Int.neg_mul]

theorem cmp_scale {a b : Int} {c : Nat} (hc : 0 < c) : compare (a * (c : Int)) (b * (c : Int)) = compare a b := by
  have hc' : (0 : Int) < c := by omega
  rcases Int.lt_trichotomy a b with h | h | h
  · rw [icmp_lt h, icmp_lt (Int.mul_lt_mul_of_pos_right h hc')]
  · rw [h, icmp_eq rfl, icmp_eq rfl]
  · rw [icmp_gt h, icmp_gt (Int.mul_lt_mul_of_pos_right h hc')]

theorem order_finV {s t : Bool} {r q : Nat} (hr : r < infW) (hq : q < infW) :
    Ieee.double.order (wordS s r) (wordS t q) = some (compare (sgZ s (wV r)) (sgZ t (wV q))) := by
  unfold Ieee.Format.order
  rw [read_finS hr, read_finS hq]
  unfold Ieee.Datum.order
  simp only [signed_up]
  obtain ⟨b, hb⟩ : ∃ b, b = min (wK r) (wK q) := ⟨_, rfl⟩
  have e0 : min (wE r) (wE q) = (b : Int) - 1074 := by unfold wE; omega
  rw [e0]
  have e1 : (wE r - ((b : Int) - 1074)).toNat = wK r - b := by unfold wE; omega
  have e2 : (wE q - ((b : Int) - 1074)).toNat = wK q - b := by unfold wE; omega
  rw [e1, e2]
  have v1 : wV r = wM r * 2 ^ (wK r - b) * 2 ^ b := by
    unfold wV
    rw [Nat.mul_assoc, ← Nat.pow_add]
    congr 2
    omega
  have v2 : wV q = wM q * 2 ^ (wK q - b) * 2 ^ b := by
    unfold wV
    rw [Nat.mul_assoc, ← Nat.pow_add]
    congr 2
    omega
  rw [v1, v2, sgZ_mul s (wM r * 2 ^ (wK r - b)), sgZ_mul t (wM q * 2 ^ (wK q - b)), cmp_scale (Nat.pow_pos (by omega))]

/-- Floats that are no nans stand to each other as these numbers. -/
theorem order_all {s t : Bool} {r q : Nat} (hr : r ≤ infW) (hq : q ≤ infW) :
    Ieee.double.order (wordS s r) (wordS t q) = some (compare (sgZ s (wV r)) (sgZ t (wV q))) := by
  rcases Nat.lt_or_eq_of_le hr with hr1 | hr1
  · rcases Nat.lt_or_eq_of_le hq with hq1 | hq1
    · exact order_finV hr1 hq1
    · subst hq1
      have hlt := wV_lt hr1
      unfold Ieee.Format.order
      rw [read_finS hr1, read_infS]
      generalize wV infW = Y at *
      generalize wV r = X at *
      cases t with
      | false =>
        rw [icmp_lt]
        · rfl
        · unfold sgZ; cases s <;> simp <;> omega
      | true =>
        rw [icmp_gt]
        · rfl
        · unfold sgZ; cases s <;> simp <;> omega
  · subst hr1
    rcases Nat.lt_or_eq_of_le hq with hq1 | hq1
    · have hlt := wV_lt hq1
      unfold Ieee.Format.order
      rw [read_finS hq1, read_infS]
      generalize wV infW = Y at *
      generalize wV q = X at *
      cases s with
      | false =>
        rw [icmp_gt]
        · rfl
        · unfold sgZ; cases t <;> simp <;> omega
      | true =>
        rw [icmp_lt]
        · rfl
        · unfold sgZ; cases t <;> simp <;> omega
    · subst hq1
      have hp := wV_pos (r := infW) (by decide)
      unfold Ieee.Format.order
      rw [read_infS, read_infS]
      generalize wV infW = Y at *
      cases s <;> cases t
      · rw [icmp_eq rfl]; rfl
      · rw [icmp_gt]
        · rfl
        · unfold sgZ; simp; omega
      · rw [icmp_lt]
        · rfl
        · unfold sgZ; simp; omega
      · rw [icmp_eq rfl]; rfl

end Go.Proofs.YtamdnnkdnhkghaaGreatDoor

namespace Go.Proofs.YtamdnnkdnhkghaaGreatDoor

open Go Go.RowKit

set_option linter.unusedVariables false

/-- 'out = append(out, z)' beside a block that is no part of out. -/
theorem app_beside {wr : World} {ops : Array Oper} {rest : List Oper} {o : Oper} {a : Act} {Q : Exit → Act → World → Prop} (hgd : o.guard = none) (s x : Operand)
    (ho : o.op = .call { callee := .builtin .append, args := #[s, x], argTypes := #[29, 29] }) (base lit : Nat) (v : Value) (L : List Int) (z : Int) (hown : OwnB wr base v L) (hne : v.ownBlock ≠ some lit) (hlit : lit < wr.heap.size) (hs : a.eval s = v) (hx : a.eval x = .slice (some ⟨wr.heap.size, 0, none⟩) 1 1)
    (hlen : L.length ≤ 10000000000) (hbase : base ≤ wr.heap.size)
    (h : ∀ v' w', OwnB w' base v' (L ++ [z]) → v'.ownBlock ≠ some lit → lit < w'.heap.size → (∀ q u, wr.cell? ⟨lit, q, none⟩ = some u → w'.cell? ⟨lit, q, none⟩ = some u) → (∀ B w0, Below B w0 wr → B ≤ base → Below B w0 w') → wpList Tryz.prog ops Q rest (a.put o.dst v') w') :
    wpList Tryz.prog ops Q (o :: rest) a (wr.alloc (.cells #[.int .u8 z] 5)) := by
  obtain ⟨i0, hi, hz0, hz1, hz2⟩ := info_parts Tryz.info5
  refine wpList_append_own_at _ hgd s x 29 ho base 5 i0 (.int .u8 0) 1 1 Tryz.underlying29 hi hz0 hz1 hz2 rfl (by decide) v L.length (L.map (Value.int .u8)) hs (hown.1.alloc _) ⟨wr.heap.size, 0, none⟩ 1 1 [.int .u8 z] hx rfl (news_one5 _ _)
    (fun u hu => by simp at hu; subst hu; rfl) (by unfold maxLen; omega) (by omega) (by simp; omega) ?_
  intro v' w' h1 h2 h3 h4
  refine h v' w' ⟨by simpa using h1, fun hh => hown.2 (h3.1 hh).1⟩ ?_ ?_ ?_ (fun B w0 hb hB => (hb.alloc (by omega) _).grown h2 (by simp; omega) (fun q hq => ?_))
  · rcases h4 with h4 | h4
    · rw [h4]; exact hne
    · rw [h4]; simp; omega
  · have := h2.size
    simp at this
    omega
  · intro q u hu
    refine h2.cell (a := ⟨lit, q, none⟩) ?_ (fun hh => hne hh.symm)
    have hb : Below wr.heap.size wr (wr.alloc (.cells #[.int .u8 z] 5)) := (Below.refl _ _).alloc (Nat.le_refl _) _
    rw [hb.cell (p := ⟨lit, q, none⟩) hlit]
    exact hu
  · have := (hown.1.lt q hq).1
    omega

end Go.Proofs.YtamdnnkdnhkghaaGreatDoor
