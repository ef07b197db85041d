import Derived.Lib.TrimByte
import Derived.Lib.IndexMore
import Derived.Test.YtmndipnifjpdjaaGreatDoorQ39
namespace Go.Proofs.YtmndipnifjpdjaaGreatDoor
open Go Go.RowKit
set_option linter.unusedVariables false
theorem hb_list (t : ByteArray) (k : Nat) : hb t k = ((t.data.toList[k]?.map fun b => ((b.toNat : Nat) : Int)).getD 0) := by
  unfold hb bs
  rw [List.getD_eq_getElem?_getD, List.getElem?_map]
theorem hb_iff {t : ByteArray} {k : Nat} {c : UInt8} (hc : c.toNat ≠ 0) : t.data.toList[k]? = some c ↔ hb t k = ((c.toNat : Nat) : Int) := by
  rw [hb_list]
  constructor
  · intro h; rw [h]; rfl
  · intro h
    cases e : t.data.toList[k]? with
    | none => rw [e] at h; simp at h; omega
    | some b =>
      rw [e] at h
      simp at h
      have : b.toNat = c.toNat := by omega
      rw [UInt8.toNat_inj.1 this]
theorem pre1 (t : ByteArray) (c : UInt8) (hc : c.toNat ≠ 0) : (Lib.hasPrefix t.data.toList [c] = true) ↔ hb t 0 = ((c.toNat : Nat) : Int) := by
  rw [← hb_iff hc]
  unfold Lib.hasPrefix
  cases h : t.data.toList with
  | nil => simp
  | cons a l =>
    simp
    constructor
    · intro e; exact e.symm
    · intro e; exact e.symm
theorem hb_drop (t : ByteArray) (k j : Nat) : hb ⟨(t.data.toList.drop k).toArray⟩ j = hb t (k + j) := by
  rw [hb_list, hb_list]
  show Option.getD (Option.map _ ((t.data.toList.drop k).toArray.toList[j]?)) 0 = _
  rw [List.toList_toArray, List.getElem?_drop]
theorem eqRun (t : ByteArray) : ∃ n, 1 ≤ n ∧ (n ≤ t.size ∨ n = 1) ∧ (∀ j, 1 ≤ j → j < n → hb t j = 61) ∧ hb t n ≠ 61 := by
  have key : ∀ d n, 1 ≤ n → n + d = t.size + 1 → (n ≤ t.size ∨ n = 1) → (∀ j, 1 ≤ j → j < n → hb t j = 61) → ∃ n, 1 ≤ n ∧ (n ≤ t.size ∨ n = 1) ∧ (∀ j, 1 ≤ j → j < n → hb t j = 61) ∧ hb t n ≠ 61 := by
    intro d
    induction d with
    | zero => intro n h1 h2 hn h3; exact ⟨n, h1, hn, h3, by rw [hb_out (by omega)]; decide⟩
    | succ d ih =>
      intro n h1 h2 hn h3
      by_cases h : hb t n = 61
      · have hlt := hb_lt (s := t) (k := n) (by omega)
        exact ih (n + 1) (by omega) (by omega) (.inl hlt) (fun j a b => by
          by_cases e : j = n
          · subst e; exact h
          · exact h3 j a (by omega))
      · exact ⟨n, h1, hn, h3, h⟩
  exact key t.size 1 (Nat.le_refl _) (by omega) (.inr rfl) (fun j a b => by omega)
theorem no_long1' {f : Nat → Int} (h : f 0 ≠ 91) : ¬ ∃ n, LongOpen f n := fun ⟨n, hn⟩ => h hn.2.1
theorem no_long2' {f : Nat → Int} {n : Nat} (h1 : 1 ≤ n) (h2 : ∀ j, 1 ≤ j → j < n → f j = 61) (h3 : f n ≠ 61) (h4 : f n ≠ 91) : ¬ ∃ n, LongOpen f n := by
  rintro ⟨m, hm⟩
  rcases Nat.lt_trichotomy n m with g | g | g
  · exact h3 (hm.2.2.1 n h1 g)
  · subst g; exact h4 hm.2.2.2
  · have := h2 m hm.1 g; rw [hm.2.2.2] at this; omega
def LevelR (t : ByteArray) (lv : Int) : Prop := (lv = -1 ∧ ¬ ∃ n, LongOpen (hb t) n) ∨ ∃ n : Nat, LongOpen (hb t) n ∧ n < t.size ∧ lv = (n : Int) - 1
theorem longLevel_any (t : ByteArray) (w : World) (ht : t.size ≤ 32768) :
    Calls Tryz.prog 99 #[.string t] w fun e w' => ∃ lv : Int, e = .returned (.int .i64 lv) ∧ LevelR t lv ∧ w' = w := by
  obtain ⟨n, hn1, hn2, hn3, hn4⟩ := eqRun t
  have Hn3 := hide hn3
  have Hn4 := hide hn4
  clear hn3 hn4
  have hp := pre1 t 91 (by decide)
  have Hsz := hide (size_list t)
  go_enter Tryz.func99, Tryz.ntmps99
  go_wp2_with fail
  refine (Tryz.strings_CutPrefix t ⟨#[91]⟩ _).mono ?_
  rintro e w1 ⟨rfl, hw1⟩
  rw [hw1]
  clear hw1 w1
  have el : (ByteArray.mk #[91]).data.toList = [91] := rfl
  rw [el]
  clear el
  cases h1 : Lib.hasPrefix t.data.toList [91] with
  | false =>
    have HN : Hid (LevelR t (-1)) := hide (.inl ⟨rfl, no_long1' (fun e => by rw [hp.2 e] at h1; cases h1)⟩)
    clear hp
    go_wp2
    go_ret
    exact ⟨-1, rfl, HN.out, rfl⟩
  | true =>
    have H0 : Hid (hb t 0 = 91) := hide (hp.1 h1)
    have hlt : 0 < t.size := hb_lt (by rw [H0.out]; decide)
    have et : Lib.trimPrefix t.data.toList [91] = t.data.toList.drop 1 := by unfold Lib.trimPrefix; rw [h1]; rfl
    rw [et]
    clear et hp h1
    obtain ⟨b, hb'⟩ : ∃ b : ByteArray, b = ⟨(t.data.toList.drop 1).toArray⟩ := ⟨_, rfl⟩
    have hbs : b.size = t.size - 1 := by rw [hb', Lib.size_mk, List.length_drop, ← Hsz.out]
    have Hb := hide hb'
    rw [← hb']
    clear hb'
    go_wp2_with fail
    refine (Tryz.strings_TrimLeft_one b 61 (by decide) _).mono ?_
    rintro e w1 ⟨rfl, hw1⟩
    rw [hw1]
    clear hw1 w1
    have etl : Lib.trimLeftB b.data.toList 61 = t.data.toList.drop n := by
      have e1 : b.data.toList = t.data.toList.drop 1 := by rw [Hb.out]
      rw [e1, Lib.trimLeftB_drop _ _ (n - 1) (by rw [List.length_drop, ← Hsz.out]; omega) (fun j c hj hc => ?_) (fun c hc => ?_), List.drop_drop, show 1 + (n - 1) = n by omega]
      · rw [List.getElem?_drop] at hc
        have := Hn3.out (1 + j) (by omega) (by omega)
        have h2 := (hb_iff (t := t) (k := 1 + j) (c := 61) (by decide)).2 this
        rw [hc] at h2
        cases h2
        rfl
      · rw [List.getElem?_drop, show 1 + (n - 1) = n by omega] at hc
        intro e
        subst e
        exact Hn4.out ((hb_iff (by decide)).1 hc)
    rw [etl]
    clear etl
    obtain ⟨i, hi'⟩ : ∃ i : ByteArray, i = ⟨(t.data.toList.drop n).toArray⟩ := ⟨_, rfl⟩
    have his : i.size = t.size - n := by rw [hi', Lib.size_mk, List.length_drop, ← Hsz.out]
    have h0i : hb i 0 = hb t n := by rw [hi', hb_drop, Nat.add_zero]
    have H0i := hide h0i
    rw [← hi']
    clear hi' h0i
    go_wp2_with fail
    refine (Tryz.strings_HasPrefix i ⟨#[91]⟩ _).mono ?_
    rintro e w1 ⟨rfl, hw1⟩
    rw [hw1]
    clear hw1 w1
    have el : (ByteArray.mk #[91]).data.toList = [91] := rfl
    rw [el]
    clear el
    have hp := pre1 i 91 (by decide)
    rw [H0i.out] at hp
    cases h1 : Lib.hasPrefix i.data.toList [91] with
    | false =>
      have HN : Hid (LevelR t (-1)) := hide (.inl ⟨rfl, no_long2' hn1 Hn3.out Hn4.out (fun e => by rw [hp.2 e] at h1; cases h1)⟩)
      clear hp h1
      go_wp2
      go_ret
      exact ⟨-1, rfl, HN.out, rfl⟩
    | true =>
      have h91 := hp.1 h1
      have hnlt : n < t.size := hb_lt (by rw [h91]; decide)
      have HN : Hid (LevelR t ((n : Int) - 1)) := hide (.inr ⟨n, ⟨hn1, H0.out, Hn3.out, h91⟩, hnlt, rfl⟩)
      clear hp h1 h91
      go_wp2
      go_ret
      refine ⟨_, rfl, ?_, rfl⟩
      have e1 : (((t.size - 1 : Nat) : Int)) - ((t.size - n : Nat) : Int) = (n : Int) - 1 := by omega
      rw [e1]
      exact HN.out
theorem clone_any (t : ByteArray) (w : World) (ht : t.size ≤ 32768) :
    Calls Tryz.prog 139 #[.string t] w fun e w' => e = .returned (.string t) ∧ Below w.heap.size w w' := by
  go_enter Tryz.func139, Tryz.ntmps139
  go_wp2_with fail
  refine (Tryz.stringslite_Clone t _ (by omega)).mono ?_
  rintro e w1 ⟨rfl, hb⟩
  go_wp2
  go_ret
  exact ⟨rfl, hb⟩
def pieceV (k : Int) (t : ByteArray) (i b len fc fl fa : Int) : Value := .agg #[.int .i64 k, .int .i64 0, .int .i64 0, .string t, .int .i64 i, .int .u64 b, .int .i64 len, .int .i64 fc, .int .i64 fl, .int .i64 fa]
def closeL (n : Nat) : List UInt8 := 93 :: (List.replicate (n - 1) 61 ++ [93])
theorem closeL_len {n : Nat} (hn : 1 ≤ n) : (closeL n).length = n + 1 := by simp [closeL]; omega
theorem closeL_get {n j : Nat} (hn : 1 ≤ n) (hj : j < n + 1) : (closeL n)[j]? = some (if j = 0 ∨ j = n then 93 else 61) := by
  unfold closeL
  by_cases h0 : j = 0
  · subst h0; simp
  · obtain ⟨i, rfl⟩ : ∃ i, j = i + 1 := ⟨j - 1, by omega⟩
    rw [List.getElem?_cons_succ]
    by_cases h1 : i < n - 1
    · rw [List.getElem?_append_left (by simpa using h1), List.getElem?_replicate, if_pos h1, if_neg (by omega)]
    · obtain rfl : i = n - 1 := by omega
      rw [List.getElem?_append_right (by simp), if_pos (by omega)]
      simp
theorem occ_close (t : ByteArray) {n i : Nat} (hn : 1 ≤ n) : (Lib.occAt (t.data.toList.drop (n + 1)) (closeL n) i = true) ↔ CloseAt (hb t) n (n + 1 + i) := by
  unfold Lib.occAt
  rw [List.isPrefixOf_iff_prefix, List.prefix_iff_getElem?, List.drop_drop]
  have hl := closeL_len hn
  constructor
  · intro h
    have g : ∀ j, j < n + 1 → hb t (n + 1 + i + j) = if j = 0 ∨ j = n then 93 else 61 := by
      intro j hj
      have a := h j (by omega)
      have b := closeL_get hn hj
      rw [List.getElem?_eq_getElem (by omega)] at b
      have b' := Option.some.inj b
      rw [List.getElem?_drop, b'] at a
      by_cases e : j = 0 ∨ j = n
      · rw [if_pos e] at a ⊢
        exact (hb_iff (by decide)).1 a
      · rw [if_neg e] at a ⊢
        exact (hb_iff (by decide)).1 a
    refine ⟨?_, fun j h1 h2 => ?_, ?_⟩
    · have := g 0 (by omega); rw [if_pos (.inl rfl)] at this; exact this
    · have := g j (by omega); rw [if_neg (by omega)] at this; exact this
    · have := g n (by omega); rw [if_pos (.inr rfl)] at this; exact this
  · intro h j hj
    rw [hl] at hj
    have b := closeL_get hn hj
    rw [List.getElem?_eq_getElem (by omega)] at b
    have b' := Option.some.inj b
    rw [List.getElem?_drop, b']
    by_cases e : j = 0 ∨ j = n
    · rw [if_pos e]
      refine (hb_iff (by decide)).2 ?_
      rcases e with e | e
      · subst e; exact h.1
      · subst e; exact h.2.2
    · rw [if_neg e]
      exact (hb_iff (by decide)).2 (h.2.1 j (by omega) (by omega))
def ReadLongR (t : ByteArray) (n : Nat) (r : Value) : Prop :=
  (∃ c, FirstClose (hb t) n c ∧ c + n + 1 ≤ t.size ∧ r = pieceV 5 (t.extract (longFrom (hb t) n) c) 0 0 ((c + n + 1 : Nat) : Int) 0 0 0) ∨ (NoClose (hb t) n ∧ r = pieceV 0 ⟨#[]⟩ 0 0 0 6 0 0)
theorem cut_miss {t : ByteArray} {n : Nat} (hn : 1 ≤ n) (hnt : n < t.size) (h : Lib.index (t.data.toList.drop (n + 1)) (closeL n) = -1) : NoClose (hb t) n := by
  intro c hc g
  obtain ⟨i, rfl⟩ : ∃ i, c = n + 1 + i := ⟨c - (n + 1), by omega⟩
  rcases Lib.index_spec (t.data.toList.drop (n + 1)) (closeL n) with ⟨_, h2⟩ | ⟨i', h1, _⟩
  · have hlt : n + 1 + i < t.size := hb_lt (by rw [g.1]; decide)
    have := h2 i (by rw [List.length_drop, ← size_list]; omega)
    rw [(occ_close t hn).2 g] at this
    cases this
  · rw [h] at h1; omega
theorem cut_hit {t : ByteArray} {n i : Nat} (hn : 1 ≤ n) (h : Lib.index (t.data.toList.drop (n + 1)) (closeL n) = (i : Int)) : FirstClose (hb t) n (n + 1 + i) := by
  rcases Lib.index_spec (t.data.toList.drop (n + 1)) (closeL n) with ⟨h1, _⟩ | ⟨i', h1, h2, h3, h4⟩
  · rw [h] at h1; omega
  · obtain rfl : i' = i := by rw [h] at h1; omega
    refine ⟨by omega, (occ_close t hn).1 h3, fun c hc hlt g => ?_⟩
    obtain ⟨j, rfl⟩ : ∃ j, c = n + 1 + j := ⟨c - (n + 1), by omega⟩
    have := h4 j (by omega)
    rw [(occ_close t hn).2 g] at this
    cases this
end Go.Proofs.YtmndipnifjpdjaaGreatDoor
namespace Go.Proofs.YtmndipnifjpdjaaGreatDoor
open Go Go.RowKit
set_option linter.unusedVariables false
def pieceZ : Array Value := #[.int .i64 0, .int .i64 0, .int .i64 0, .string ⟨#[]⟩, .int .i64 0, .int .u64 0, .int .i64 0, .int .i64 0, .int .i64 0, .int .i64 0]
def PBlock (B : Nat) (cs : Array Value) (w : World) : Prop := w.heap[B]? = some (.cells cs 98 (0, 0))
theorem PBlock.low {B b : Nat} {cs : Array Value} {w w' : World} (h : PBlock B cs w) (hb : Below b w w') (hB : B < b) : PBlock B cs w' := by
  unfold PBlock
  rw [hb.block B hB]
  exact h
theorem pblock_new (w : World) (cs : Array Value) : PBlock w.heap.size cs (w.alloc (.cells cs 98)) := heap_alloc_new w _
structure PcC (B : Nat) (v0 v1 v2 v3 v4 v5 v6 v7 v8 v9 : Value) (w : World) : Prop where
  c0 : w.cell? ⟨B, 0, none⟩ = some v0
  c1 : w.cell? ⟨B, 1, none⟩ = some v1
  c2 : w.cell? ⟨B, 2, none⟩ = some v2
  c3 : w.cell? ⟨B, 3, none⟩ = some v3
  c4 : w.cell? ⟨B, 4, none⟩ = some v4
  c5 : w.cell? ⟨B, 5, none⟩ = some v5
  c6 : w.cell? ⟨B, 6, none⟩ = some v6
  c7 : w.cell? ⟨B, 7, none⟩ = some v7
  c8 : w.cell? ⟨B, 8, none⟩ = some v8
  c9 : w.cell? ⟨B, 9, none⟩ = some v9
  z0 : w.frozen? ⟨B, 0, none⟩ = false
  z1 : w.frozen? ⟨B, 1, none⟩ = false
  z2 : w.frozen? ⟨B, 2, none⟩ = false
  z3 : w.frozen? ⟨B, 3, none⟩ = false
  z4 : w.frozen? ⟨B, 4, none⟩ = false
  z5 : w.frozen? ⟨B, 5, none⟩ = false
  z6 : w.frozen? ⟨B, 6, none⟩ = false
  z7 : w.frozen? ⟨B, 7, none⟩ = false
  z8 : w.frozen? ⟨B, 8, none⟩ = false
  z9 : w.frozen? ⟨B, 9, none⟩ = false
theorem PBlock.cells {B : Nat} {v0 v1 v2 v3 v4 v5 v6 v7 v8 v9 : Value} {w : World} (h : PBlock B #[v0, v1, v2, v3, v4, v5, v6, v7, v8, v9] w) : PcC B v0 v1 v2 v3 v4 v5 v6 v7 v8 v9 w := by
  unfold PBlock at h
  constructor <;> simp [World.cell?, World.frozen?, h]
theorem PBlock.lt {B : Nat} {cs : Array Value} {w : World} (h : PBlock B cs w) : B < w.heap.size := by
  rcases Nat.lt_or_ge B w.heap.size with g | g
  · exact g
  · unfold PBlock at h; rw [Array.getElem?_eq_none g] at h; cases h
def set10 (w : World) (B : Nat) (v0 v1 v2 v3 v4 v5 v6 v7 v8 v9 : Value) : World :=
  (((((((((w.setCell ⟨B, 0, none⟩ v0).setCell ⟨B, 1, none⟩ v1).setCell ⟨B, 2, none⟩ v2).setCell ⟨B, 3, none⟩ v3).setCell ⟨B, 4, none⟩ v4).setCell ⟨B, 5, none⟩ v5).setCell ⟨B, 6, none⟩ v6).setCell ⟨B, 7, none⟩ v7).setCell ⟨B, 8, none⟩ v8).setCell ⟨B, 9, none⟩ v9
theorem below_set10 {b B : Nat} {w0 w : World} (h : Below b w0 w) (hB : b ≤ B) (v0 v1 v2 v3 v4 v5 v6 v7 v8 v9 : Value) : Below b w0 (set10 w B v0 v1 v2 v3 v4 v5 v6 v7 v8 v9) := by
  unfold set10
  exact (((((((((h.setCell (p := ⟨B, 0, none⟩) hB v0).setCell (p := ⟨B, 1, none⟩) hB v1).setCell (p := ⟨B, 2, none⟩) hB v2).setCell (p := ⟨B, 3, none⟩) hB v3).setCell (p := ⟨B, 4, none⟩) hB v4).setCell (p := ⟨B, 5, none⟩) hB v5).setCell (p := ⟨B, 6, none⟩) hB v6).setCell (p := ⟨B, 7, none⟩) hB v7).setCell (p := ⟨B, 8, none⟩) hB v8).setCell (p := ⟨B, 9, none⟩) hB v9
def MaxAt (m : Int) (w : World) : Prop := w.cell? ⟨3, 0, none⟩ = some (.int .i64 m) ∧ 3 < w.heap.size
theorem MaxAt.low {m : Int} {w w' : World} (h : MaxAt m w) (hb : Below w.heap.size w w') : MaxAt m w' := ⟨(hb.cell (p := ⟨3, 0, none⟩) h.2).trans h.1, Nat.lt_of_lt_of_le h.2 hb.size⟩
theorem rep61 (k : Nat) : Lib.repeatL (ByteArray.mk #[61]).data.toList k = List.replicate k 61 := by
  have := Lib.repeatL_replicate 61 1 k
  rw [Nat.mul_one] at this
  exact this
theorem close_bytes {n : Nat} : (ByteArray.mk #[93] ++ ⟨(List.replicate (n - 1) 61).toArray⟩ ++ ByteArray.mk #[93]).data.toList = closeL n := by
  simp [closeL]
theorem ext_list (t : ByteArray) (a b : Nat) : (t.extract a b).data.toList = (t.data.toList.drop a).take (b - a) := by
  rw [ByteArray.data_extract]
  simp
set_option maxHeartbeats 3200000 in
set_option maxRecDepth 100000 in
theorem readLong_any (t : ByteArray) (n : Nat) (m : Int) (w : World) (ht : t.size ≤ 32768) (hO : LongOpen (hb t) n) (hm : MaxAt m w) :
    Calls Tryz.prog 100 #[.string t] w fun e w' => ∃ r, e = .returned r ∧ ReadLongR t n r ∧ Below w.heap.size w w' := by
  have HO := hide hO
  have hn1 := hO.1
  have hnt : n < t.size := hb_lt (by rw [hO.2.2.2]; decide)
  have HM := hide hm
  clear hO hm
  go_enter Tryz.func100, Tryz.ntmps100
  go_wp2_with fail
  refine (longLevel_any t _ ht).mono ?_
  rintro e w1 ⟨lv, rfl, hlv, hw1⟩
  rw [hw1]
  clear hw1 w1
  obtain rfl : lv = ((n - 1 : Nat) : Int) := by
    rcases hlv with ⟨_, h2⟩ | ⟨n', h1, _, h3⟩
    · exact absurd ⟨n, HO.out⟩ h2
    · have := h1.unique HO.out
      omega
  clear hlv
  have HPB := hide (pblock_new w pieceZ)
  go_wp2_with fail
  refine (Tryz.strings_Repeat ⟨#[61]⟩ (n - 1) _ (by omega) (by show 1 * (n - 1) ≤ _; omega)).mono ?_
  rintro e w2 ⟨rfl, hb2⟩
  rw [rep61]
  have hb2' : Below (w.heap.size + 1) (w.alloc (.cells pieceZ 98)) w2 := hb2.mono (by simp)
  have HPB2 := hide (HPB.out.low hb2' (by omega))
  have HB2 := hide (((Below.refl w.heap.size w).alloc (Nat.le_refl _) (.cells pieceZ 98)).trans (hb2'.mono (by omega)))
  clear hb2 hb2' HPB
  obtain ⟨E, hE⟩ : ∃ E : ByteArray, E = ⟨(List.replicate (n - 1) 61).toArray⟩ := ⟨_, rfl⟩
  have hEs : E.size = n - 1 := by rw [hE, Lib.size_mk, List.length_replicate]
  have HE := hide hE
  rw [← hE]
  clear hE
  obtain ⟨C, hC⟩ : ∃ C : ByteArray, C = ByteArray.mk #[93] ++ E ++ ByteArray.mk #[93] := ⟨_, rfl⟩
  have hCs : C.size = n + 1 := by rw [hC, ByteArray.size_append, ByteArray.size_append, hEs]; show 1 + (n - 1) + 1 = _; omega
  have HCL : Hid (C.data.toList = closeL n) := hide (by rw [hC, HE.out]; exact close_bytes)
  have HC := hide hC
  clear hC
  go_wp2_with fail
  rw [← HC.out]
  have hl1 : (t.extract (n + 1) t.size).data.toList = t.data.toList.drop (n + 1) := by rw [Lib.extract_from]
  refine (Tryz.strings_Cut (t.extract (n + 1) t.size) C m _ (by rw [ByteArray.size_extract]; omega) (HM.out.low HB2.out).1).mono ?_
  rintro e w3 ⟨rfl, q3, rfl⟩
  rw [hl1, HCL.out]
  clear hl1
  rcases Lib.index_spec (t.data.toList.drop (n + 1)) (closeL n) with ⟨h1, _⟩ | ⟨i, h1, h2, _, _⟩
  · have HNo := hide (cut_miss hn1 hnt h1)
    have ec : Lib.cut (t.data.toList.drop (n + 1)) (closeL n) = (t.data.toList.drop (n + 1), [], false) := by unfold Lib.cut; rw [h1]; rfl
    rw [ec]
    clear ec h1
    obtain ⟨c0, c1, c2, c3, c4, c5, c6, c7, c8, c9, z0, z1, z2, z3, z4, z5, z6, z7, z8, z9⟩ := HPB2.out.cells
    go_wp2
    refine bodyPost_ret (v := pieceV 0 ⟨#[]⟩ 0 0 0 6 0 0) (by simp [results, Tryz.results100, go_sem, pieceV, c0, c1, c2, c3, c4, c5, c6, c7, c8, c9]) rfl ⟨_, rfl, .inr ⟨HNo.out, rfl⟩, ?_⟩
    exact below_set10 (below_drewN HB2.out _) (Nat.le_refl _) _ _ _ _ _ _ _ _ _ _
  · have HCl := hide (cut_hit hn1 h1)
    have hroom : i + (n + 1) ≤ t.size - (n + 1) := by
      have := Lib.index_room (t.data.toList.drop (n + 1)) (closeL n) (by rw [h1]; omega)
      rw [h1, closeL_len hn1, List.length_drop, ← size_list] at this
      omega
    have ec : Lib.cut (t.data.toList.drop (n + 1)) (closeL n) = ((t.data.toList.drop (n + 1)).take i, (t.data.toList.drop (n + 1)).drop (i + (closeL n).length), true) := by unfold Lib.cut; rw [h1, if_pos (by omega)]; simp
    rw [ec]
    clear ec h1 h2
    obtain ⟨T, hT⟩ : ∃ T : ByteArray, T = ⟨((t.data.toList.drop (n + 1)).take i).toArray⟩ := ⟨_, rfl⟩
    have hTe : T = t.extract (n + 1) (n + 1 + i) := by
      rw [hT]
      apply ByteArray.ext
      rw [ByteArray.data_extract]
      apply Array.ext'
      simp
    have hTs : T.size = i := by rw [hTe, ByteArray.size_extract]; omega
    have HTe := hide hTe
    rw [← hT]
    clear hT hTe
    go_wp2_with fail
    refine (Tryz.strings_TrimPrefix T ⟨#[10]⟩ _).mono ?_
    rintro e w4 ⟨rfl, hw4⟩
    rw [hw4]
    clear hw4 w4
    have HTX : Hid ((⟨(Lib.trimPrefix T.data.toList (ByteArray.mk #[10]).data.toList).toArray⟩ : ByteArray) = t.extract (longFrom (hb t) n) (n + 1 + i)) := hide (by
      have hp := pre1 T 10 (by decide)
      have e10 : (ByteArray.mk #[10]).data.toList = [10] := rfl
      rw [e10]
      unfold Lib.trimPrefix
      by_cases h10 : hb t (n + 1) = 10
      · have hi : 0 < i := by
          rcases Nat.eq_zero_or_pos i with z | z
          · subst z
            have := HCl.out.2.1.1
            rw [Nat.add_zero] at this
            omega
          · exact z
        have e0 : hb T 0 = hb t (n + 1) := by rw [HTe.out, hb_part t (by omega) (by omega), Nat.add_zero]
        rw [hp.2 (by rw [e0, h10]; rfl), if_pos rfl]
        have el : longFrom (hb t) n = n + 2 := by unfold longFrom; rw [if_pos h10]
        rw [el, HTe.out]
        apply ByteArray.ext
        apply Array.ext'
        rw [ext_list, ext_list, List.toList_toArray, List.drop_take, List.drop_drop]
        congr 1
      · have hp' : Lib.hasPrefix T.data.toList [10] = false := by
          cases hh : Lib.hasPrefix T.data.toList [10] with
          | false => rfl
          | true =>
            exfalso
            have e0 := hp.1 hh
            have hi : 0 < T.size := hb_lt (by rw [e0]; decide)
            rw [HTe.out, hb_part t (by omega) (by omega), Nat.add_zero] at e0
            exact h10 e0
        have el : longFrom (hb t) n = n + 1 := by unfold longFrom; rw [if_neg h10]
        rw [hp', el, ← HTe.out]
        simp)
    rw [HTX.out]
    go_wp2_with fail
    refine (clone_any (t.extract (longFrom (hb t) n) (n + 1 + i)) _ (by rw [ByteArray.size_extract]; omega)).mono ?_
    rintro e w5 ⟨rfl, hb5⟩
    have HB5 := hide ((below_drewN HB2.out q3).trans (hb5.mono (by have := HB2.out.size; exact this)))
    have HPB5 := hide (PBlock.low (w := w2.drewN q3) HPB2.out hb5 HPB2.out.lt)
    clear hb5
    obtain ⟨c0, c1, c2, c3, c4, c5, c6, c7, c8, c9, z0, z1, z2, z3, z4, z5, z6, z7, z8, z9⟩ := HPB5.out.cells
    obtain ⟨X, hX⟩ : ∃ X, X = t.extract (longFrom (hb t) n) (n + 1 + i) := ⟨_, rfl⟩
    rw [← hX]
    have HX := hide hX
    clear hX
    go_wp2
    refine bodyPost_ret (v := pieceV 5 X 0 0 ((n + 1 + i + n + 1 : Nat) : Int) 0 0 0) ?_ rfl ⟨_, rfl, .inl ⟨n + 1 + i, HCl.out, by omega, by rw [HX.out]⟩, ?_⟩
    · simp [results, Tryz.results100, go_sem, pieceV, c0, c1, c2, c3, c4, c5, c6, c7, c8, c9]
      try omega
    · exact below_set10 HB5.out (Nat.le_refl _) _ _ _ _ _ _ _ _ _ _
end Go.Proofs.YtmndipnifjpdjaaGreatDoor
