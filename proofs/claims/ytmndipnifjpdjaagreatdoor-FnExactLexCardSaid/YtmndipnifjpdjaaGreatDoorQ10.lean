import Derived.Test.YtmndipnifjpdjaaGreatDoorQ04
import Derived.Test.YtmndipnifjpdjaaGreatDoorQ05
import Derived.Test.YtmndipnifjpdjaaGreatDoorQ06
import Derived.Test.YtmndipnifjpdjaaGreatDoorQ07
import Derived.Test.YtmndipnifjpdjaaGreatDoorQ08
import Derived.Test.YtmndipnifjpdjaaGreatDoorQ09
import Derived.Test.YtmndipnifjpdjaaGreatDoorQ03
namespace Go.Proofs.YtmndipnifjpdjaaGreatDoor
open Go Go.RowKit
set_option linter.unusedVariables false
theorem exp_any (s : ByteArray) (w : World) (hs : s.size ≤ 100) (h0 : 0 < s.size) :
    Calls Tryz.prog 63 #[.string s] w fun e w' => e = .returned (optR (expV (bs s))) ∧ w' = w := by
  have hg := bs_getD h0
  have hbt := bs_tail s
  have hbt2 := bs_tail2 s
  by_cases hL : ((s[0].toNat : Nat) : Int) = 101 ∨ ((s[0].toNat : Nat) : Int) = 69
  · have HV : Hid (expV (bs s) = expS ((bs s).drop 1)) := hide (by unfold expV; rw [hg, if_pos hL])
    by_cases hs1 : s.size ≤ 1
    · have HV0 : Hid (expV (bs s) = none) := hide (by
        rw [HV.out]
        have e : (bs s).drop 1 = [] := List.drop_eq_nil_of_le (by rw [bs_length]; omega)
        rw [e]; rfl)
      by_cases hE : ((s[0].toNat : Nat) : Int) = 101
      · exact exp_e_0 s w h0 hs1 (by rw [hE]; rfl) HV0
      · exact exp_E_0 s w h0 hs1 (by rw [bne_iff_ne]; exact hE) (by rw [hL.resolve_left hE]; rfl) HV0
    · have hx : 0 < (s.extract 1 s.size).size := by rw [size_tail]; omega
      have hg1 := bs_getD hx
      rw [hbt] at hg1
      have hs2 : 2 ≤ s.size := by omega
      by_cases m1 : (((s.extract 1 s.size)[0]'hx).toNat : Int) = 45
      · have HB : Hid (expS ((bs s).drop 1) = (expB (bs ((s.extract 1 s.size).extract 1 (s.size - 1)))).map (fun x => -x)) := hide (by unfold expS; rw [hg1, if_pos m1, hbt2])
        by_cases hE : ((s[0].toNat : Nat) : Int) = 101
        · exact exp_e_m s w hs h0 hs2 hx (by rw [hE]; rfl) (by rw [m1]; rfl) HV HB
        · exact exp_E_m s w hs h0 hs2 hx (by rw [bne_iff_ne]; exact hE) (by rw [hL.resolve_left hE]; rfl) (by rw [m1]; rfl) HV HB
      · have b1 : ((((s.extract 1 s.size)[0]'hx).toNat : Int) == 45) = false := by rw [beq_eq_false_iff_ne]; exact m1
        by_cases m2 : (((s.extract 1 s.size)[0]'hx).toNat : Int) = 43
        · have HB : Hid (expS ((bs s).drop 1) = expB (bs ((s.extract 1 s.size).extract 1 (s.size - 1)))) := hide (by unfold expS; rw [hg1, if_neg m1, if_pos m2, hbt2])
          by_cases hE : ((s[0].toNat : Nat) : Int) = 101
          · exact exp_e_p s w hs h0 hs2 hx (by rw [hE]; rfl) b1 (by rw [m2]; rfl) HV HB
          · exact exp_E_p s w hs h0 hs2 hx (by rw [bne_iff_ne]; exact hE) (by rw [hL.resolve_left hE]; rfl) b1 (by rw [m2]; rfl) HV HB
        · have b2 : ((((s.extract 1 s.size)[0]'hx).toNat : Int) == 43) = false := by rw [beq_eq_false_iff_ne]; exact m2
          have HB : Hid (expS ((bs s).drop 1) = expB (bs (s.extract 1 s.size))) := hide (by unfold expS; rw [hg1, if_neg m1, if_neg m2, hbt])
          by_cases hE : ((s[0].toNat : Nat) : Int) = 101
          · exact exp_e_o s w hs h0 hs2 hx (by rw [hE]; rfl) b1 b2 HV HB
          · exact exp_E_o s w hs h0 hs2 hx (by rw [bne_iff_ne]; exact hE) (by rw [hL.resolve_left hE]; rfl) b1 b2 HV HB
  · have hE1 : (((s[0].toNat : Nat) : Int) != 101) = true := by rw [bne_iff_ne]; omega
    have hE3 : (((s[0].toNat : Nat) : Int) != 69) = true := by rw [bne_iff_ne]; omega
    have HV : Hid (expV (bs s) = none) := hide (by unfold expV; rw [hg, if_neg hL])
    clear hg hbt hbt2 hL
    go_enter Tryz.func63, Tryz.ntmps63
    go_wp2
    go_ret2
    refine ⟨?_, rfl⟩
    rw [HV.out, optR_none]
    rfl
end Go.Proofs.YtmndipnifjpdjaaGreatDoor
namespace Go.Proofs.YtmndipnifjpdjaaGreatDoor
open Go Go.RowKit
def isDP (c : Int) : Bool := isDigI c || c == 46
def dstep (s : List Int × Nat × Nat) (c : Int) : List Int × Nat × Nat := if c = 46 then (s.1, s.2.1, s.2.2 + 1) else (s.1 ++ [c], s.2.1 + s.2.2, s.2.2)
def dscan (l : List Int) : List Int × Nat × Nat := l.foldl dstep ([], 0, 0)
theorem dscan_take {l : List Int} {k : Nat} (h : k < l.length) : dscan (l.take (k + 1)) = dstep (dscan (l.take k)) (l.getD k 0) := by
  unfold dscan
  rw [List.take_succ_eq_append_getElem h, List.foldl_append, getD_lt h]
  rfl
def mlen : List Int → Nat
  | [] => 0
  | c :: r => if isDP c = true then mlen r + 1 else 0
theorem mlen_of {l : List Int} {k : Nat} (hk : k ≤ l.length) (h : ∀ j, j < k → isDP (l.getD j 0) = true) (he : k = l.length ∨ isDP (l.getD k 0) = false) : mlen l = k := by
  induction l generalizing k with
  | nil => simp at hk; subst hk; rfl
  | cons c r ih =>
    cases k with
    | zero =>
      rcases he with he | he
      · simp at he
      · have : isDP c = false := by simpa using he
        simp [mlen, this]
    | succ k =>
      have h0 : isDP c = true := by simpa using h 0 (by omega)
      have hr := ih (k := k) (by simpa using hk) (fun j hj => by simpa using h (j + 1) (by omega)) (by
        rcases he with he | he
        · left; simpa using he
        · right; simpa using he)
      simp [mlen, h0, hr]
theorem dscan_len (l : List Int) : (dscan l).1.length ≤ l.length ∧ (dscan l).2.2 ≤ l.length := by
  have key : ∀ (l : List Int) (s : List Int × Nat × Nat), (l.foldl dstep s).1.length ≤ s.1.length + l.length ∧ (l.foldl dstep s).2.2 ≤ s.2.2 + l.length := by
    intro l
    induction l with
    | nil => intro s; simp
    | cons c r ih =>
      intro s
      have := ih (dstep s c)
      simp only [List.foldl_cons, List.length_cons]
      unfold dstep at this ⊢
      split at this
      · rename_i h; rw [if_pos h]; simp at this ⊢; omega
      · rename_i h; rw [if_neg h]; simp at this ⊢; omega
  have := key l ([], 0, 0)
  unfold dscan
  simpa using this
theorem dscan_digits {l : List Int} (h : ∀ c ∈ l, isDP c = true) : ∀ c ∈ (dscan l).1, 48 ≤ c ∧ c ≤ 57 := by
  have key : ∀ (l : List Int) (s : List Int × Nat × Nat), (∀ c ∈ l, isDP c = true) → (∀ c ∈ s.1, 48 ≤ c ∧ c ≤ 57) → ∀ c ∈ (l.foldl dstep s).1, 48 ≤ c ∧ c ≤ 57 := by
    intro l
    induction l with
    | nil => intro s _ hs; exact hs
    | cons c r ih =>
      intro s hl hs
      refine ih (dstep s c) (fun x hx => hl x (by simp [hx])) ?_
      unfold dstep
      split
      · exact hs
      · rename_i hc
        intro x hx
        rcases List.mem_append.1 hx with hx | hx
        · exact hs x hx
        · have hxc : x = c := by simpa using hx
          have h1 := hl c (by simp)
          rw [hxc]
          simp [isDP, isDigI, hc] at h1
          exact h1
  exact key l ([], 0, 0) h (fun c hc => by cases hc)
theorem dscan_behind1 {l : List Int} (h : (dscan l).2.2 ≤ 1) : (dscan l).2.1 ≤ (dscan l).1.length := by
  have key : ∀ (l : List Int) (s : List Int × Nat × Nat), (l.foldl dstep s).2.2 ≤ 1 → s.2.1 ≤ s.1.length → s.2.2 ≤ (l.foldl dstep s).2.2 ∧ (l.foldl dstep s).2.1 ≤ (l.foldl dstep s).1.length := by
    intro l
    induction l with
    | nil => intro s _ h; exact ⟨Nat.le_refl _, h⟩
    | cons c r ih =>
      intro s h1 h2
      have mono : ∀ (r : List Int) (s : List Int × Nat × Nat), s.2.2 ≤ (r.foldl dstep s).2.2 := by
        intro r
        induction r with
        | nil => intro s; exact Nat.le_refl _
        | cons c r ih => intro s; refine Nat.le_trans ?_ (ih (dstep s c)); unfold dstep; split <;> simp
      have hm := mono r (dstep s c)
      simp only [List.foldl_cons] at h1 ⊢
      have h3 : (dstep s c).2.1 ≤ (dstep s c).1.length := by
        unfold dstep at hm ⊢
        split
        · exact h2
        · rename_i hc; rw [if_neg hc] at hm; simp at hm ⊢; have : s.2.2 ≤ 1 := by unfold dstep at h1; rw [if_neg hc] at h1; omega
          omega
      have h4 := ih (dstep s c) h1 h3
      refine ⟨Nat.le_trans ?_ h4.1, h4.2⟩
      unfold dstep; split <;> simp
  exact (key l ([], 0, 0) h (by simp)).2
end Go.Proofs.YtmndipnifjpdjaaGreatDoor
namespace Go.Proofs.YtmndipnifjpdjaaGreatDoor
open Go Go.RowKit
set_option linter.unusedVariables false
theorem Tryz.info5 : (Tryz.prog.info? 5).map (fun i => (i.zero, i.size, i.bytes)) = some (some (.int .u8 0), 1, 1) := by kernel_rfl
def OwnB (w : World) (base : Nat) (v : Value) (L : List Int) : Prop := w.ownsRow base 5 1 v L.length (L.map (Value.int .u8)) ∧ v ≠ .slice none 0 0
theorem OwnB.byt {w : World} {base : Nat} {v : Value} {L : List Int} (h : OwnB w base v L) : Byt w v L := by
  obtain ⟨⟨h1, h2⟩, hv⟩ := h
  rcases h2 with ⟨rfl, _⟩ | ⟨g, cap, cur, rfl, hB, hh, hn, hc, hs, ht⟩
  · exact absurd rfl hv
  · have hown : w.ownsRow base 5 1 (.slice (some ⟨g, 0, none⟩) L.length cap) L.length (L.map (Value.int .u8)) := ⟨h1, .inr ⟨g, cap, cur, rfl, hB, hh, hn, hc, hs, ht⟩⟩
    refine ⟨g, cap, rfl, hn, hc, (hown.lt g rfl).2, fun j hj => ?_⟩
    rw [hown.cellAt j (by omega), List.getElem?_map, List.getElem?_eq_getElem hj, getD_lt hj]; rfl
theorem ownB_empty (w : World) : OwnB (w.alloc (.cells #[] 5)) w.heap.size (.slice (some ⟨w.heap.size, 0, none⟩) 0 0) [] :=
  ⟨World.ownsRow_made w #[] 0 (Nat.le_refl _) (by simp [maxLen]) rfl, fun h => by cases h⟩
theorem news_one5 (wr : World) (u0 : Value) : ∀ j u, [u0][j]? = some u → (wr.alloc (.cells #[u0] 5)).cell? ((⟨wr.heap.size, 0, none⟩ : Addr).add j) = some u := by
  intro j u hj
  match j, hj with
  | 0, hj => simp at hj; subst hj; simp [Addr.add]
theorem app_byte {wr : World} {ops : Array Oper} {rest : List Oper} {o : Oper} {a : Act} {Q : Exit → Act → World → Prop} (hgd : o.guard = none) (s x : Operand)
    (ho : o.op = .call { callee := .builtin .append, args := #[s, x], argTypes := #[33, 33] }) (base : Nat) (v : Value) (L : List Int) (z : Int) (hown : OwnB wr base v L) (hs : a.eval s = v) (hx : a.eval x = .slice (some ⟨wr.heap.size, 0, none⟩) 1 1)
    (hlen : L.length ≤ 10000000000) (hbase : base ≤ wr.heap.size)
    (h : ∀ v' w', OwnB w' base v' (L ++ [z]) → (∀ B w0, Below B w0 wr → B ≤ base → Below B w0 w') → wpList Tryz.prog ops Q rest (a.put o.dst v') w') :
    wpList Tryz.prog ops Q (o :: rest) a (wr.alloc (.cells #[.int .u8 z] 5)) := by
  obtain ⟨i0, hi, hz0, hz1, hz2⟩ := info_parts Tryz.info5
  refine wpList_append_own _ hgd s x 33 ho base 5 i0 (.int .u8 0) 1 1 Tryz.underlying33 hi hz0 hz1 hz2 rfl (by decide) v L.length (L.map (Value.int .u8)) hs (hown.1.alloc _) ⟨wr.heap.size, 0, none⟩ 1 1 [.int .u8 z] hx rfl (news_one5 _ _)
    (fun u hu => by simp at hu; subst hu; rfl) (by unfold maxLen; omega) (by omega) (by simp; omega) ?_
  intro v' w' h1 h2 h3
  refine h v' w' ⟨by simpa using h1, fun hh => hown.2 (h3.1 hh).1⟩ (fun B w0 hb hB => (hb.alloc (by omega) _).grown h2 (by simp; omega) (fun q hq => ?_))
  have := (hown.1.lt q hq).1
  omega
def zeroR : Value := .tuple #[numV false 0 0, .bool false]
def FloatR (N : Nat) (E : Int) (r : Value) : Prop := ∃ W, DecRnd N E W ∧ r = if W = infW then zeroR else .tuple #[numV true 0 W, .bool true]
def DecR (l : List Int) (r : Value) : Prop :=
  if (dscan (l.take (mlen l))).1 = [] ∨ 1 < (dscan (l.take (mlen l))).2.2 then r = zeroR
  else if mlen l = l.length ∧ (dscan (l.take (mlen l))).2.2 = 0 ∧ dval (dscan (l.take (mlen l))).1 < 9223372036854775808 then r = .tuple #[numV false (dval (dscan (l.take (mlen l))).1) 0, .bool true]
  else match (if mlen l < l.length then expV (l.drop (mlen l)) else some 0) with
    | none => r = zeroR
    | some x => FloatR (dval (dscan (l.take (mlen l))).1) (x - (dscan (l.take (mlen l))).2.1) r
def isHexP (l : List Int) : Bool := decide (1 < l.length) && l.getD 0 0 == 48 && (l.getD 1 0 == 120 || l.getD 1 0 == 88)
def PNR (s : ByteArray) (r : Value) : Prop :=
  if 100 < s.size then r = zeroR else if isHexP (bs s) = true then r = hexR (s.extract 2 s.size) else DecR (bs s) r
end Go.Proofs.YtmndipnifjpdjaaGreatDoor
namespace Go.Proofs.YtmndipnifjpdjaaGreatDoor
open Go Go.RowKit
set_option linter.unusedVariables false
structure ResC (w wr : World) : Prop where
  c0 : wr.cell? ⟨w.heap.size, 0, none⟩ = some (.bool false)
  c1 : wr.cell? ⟨w.heap.size, 1, none⟩ = some (.int .i64 0)
  c2 : wr.cell? ⟨w.heap.size, 2, none⟩ = some (.int .u64 0)
  f0 : wr.frozen? ⟨w.heap.size, 0, none⟩ = false
  f1 : wr.frozen? ⟨w.heap.size, 1, none⟩ = false
  f2 : wr.frozen? ⟨w.heap.size, 2, none⟩ = false
theorem resC {w wr : World} (h : Below (w.heap.size + 1) (w.alloc (.cells #[.bool false, .int .i64 0, .int .u64 0] 67)) wr) : ResC w wr := by
  refine ⟨?_, ?_, ?_, ?_, ?_, ?_⟩
  · rw [h.cell (p := ⟨w.heap.size, 0, none⟩) (by simp)]; simp
  · rw [h.cell (p := ⟨w.heap.size, 1, none⟩) (by simp)]; simp
  · rw [h.cell (p := ⟨w.heap.size, 2, none⟩) (by simp)]; simp
  · rw [h.frozen (p := ⟨w.heap.size, 0, none⟩) (by simp)]; simp
  · rw [h.frozen (p := ⟨w.heap.size, 1, none⟩) (by simp)]; simp
  · rw [h.frozen (p := ⟨w.heap.size, 2, none⟩) (by simp)]; simp
theorem below_res {w wr : World} (h : Below (w.heap.size + 1) (w.alloc (.cells #[.bool false, .int .i64 0, .int .u64 0] 67)) wr) : Below w.heap.size w wr :=
  ((Below.refl _ _).alloc (Nat.le_refl _) _).trans (h.mono (by omega))
def DecRel (w : World) (s : ByteArray) (dv bv pv kv : Value) (wr : World) : Prop :=
  ∃ (k b p : Nat) (ds : List Int), k ≤ s.size ∧ kv = .int .i64 k ∧ bv = .int .i64 b ∧ pv = .int .i64 p ∧ Hid (dscan ((bs s).take k) = (ds, b, p)) ∧ Hid (∀ j, j < k → isDP ((bs s).getD j 0) = true) ∧
    b ≤ k * 100 ∧ p ≤ k ∧ ds.length ≤ k ∧ OwnB wr (w.heap.size + 1) dv ds ∧ Below (w.heap.size + 1) (w.alloc (.cells #[.bool false, .int .i64 0, .int .u64 0] 67)) wr
theorem isDP_dig {c : Int} (h : isDig c = true) : isDP c = true := by
  have : isDigI c = true := h
  simp [isDP, this]
theorem isDP_no {c : Int} (h : isDig c = false) (h2 : ¬ c = 46) : isDP c = false := by
  have : isDigI c = false := h
  simp [isDP, this, h2]
theorem scan_dig {s : ByteArray} {k b p : Nat} {ds : List Int} (hk : k < s.size) (h : dscan ((bs s).take k) = (ds, b, p)) (hd : isDig ((s[k].toNat : Nat) : Int) = true) :
    dscan ((bs s).take (k + 1)) = (ds ++ [((s[k].toNat : Nat) : Int)], b + p, p) := by
  rw [dscan_take (by rw [bs_length]; exact hk), h, bs_getD hk]
  unfold dstep
  rw [if_neg]
  intro e
  simp [isDig] at hd
  omega
theorem scan_point {s : ByteArray} {k b p : Nat} {ds : List Int} (hk : k < s.size) (h : dscan ((bs s).take k) = (ds, b, p)) (hd : ((s[k].toNat : Nat) : Int) = 46) :
    dscan ((bs s).take (k + 1)) = (ds, b, p + 1) := by
  rw [dscan_take (by rw [bs_length]; exact hk), h, bs_getD hk]
  unfold dstep
  rw [if_pos hd]
theorem all_next {s : ByteArray} {k : Nat} (hk : k < s.size) (h : ∀ j, j < k → isDP ((bs s).getD j 0) = true) (hd : isDP ((s[k].toNat : Nat) : Int) = true) : ∀ j, j < k + 1 → isDP ((bs s).getD j 0) = true := by
  intro j hj
  by_cases e : j = k
  · subst e; rw [bs_getD hk]; exact hd
  · exact h j (by omega)
structure DecEnd (s : ByteArray) (k b p : Nat) (ds : List Int) : Prop where
  hm : mlen (bs s) = k
  hs : dscan ((bs s).take k) = (ds, b, p)
  hd : ∀ c ∈ ds, 48 ≤ c ∧ c ≤ 57
theorem decEnd_mk {s : ByteArray} {k b p : Nat} {ds : List Int} (hk : k ≤ s.size) (h : dscan ((bs s).take k) = (ds, b, p)) (ha : ∀ j, j < k → isDP ((bs s).getD j 0) = true) (he : k = s.size ∨ isDP ((bs s).getD k 0) = false) : DecEnd s k b p ds := by
  have hl := bs_length s
  refine ⟨mlen_of (by omega) ha (by rw [hl]; exact he), h, ?_⟩
  have := dscan_digits (l := (bs s).take k) (fun c hc => by
    obtain ⟨i, hi, rfl⟩ := List.getElem_of_mem hc
    rw [List.length_take] at hi
    rw [List.getElem_take]
    have := ha i (by omega)
    rwa [getD_lt (by omega)] at this)
  rw [h] at this
  exact this
theorem DecEnd.behind {s : ByteArray} {k b p : Nat} {ds : List Int} (h : DecEnd s k b p ds) (hp : p ≤ 1) : b ≤ ds.length := by
  have := dscan_behind1 (l := (bs s).take k) (by rw [h.hs]; exact hp)
  rwa [h.hs] at this
theorem decR_1 {s : ByteArray} {k b p : Nat} {ds : List Int} (h : DecEnd s k b p ds) (h1 : ds = [] ∨ 1 < p) : DecR (bs s) zeroR := by
  unfold DecR; rw [h.hm, h.hs, if_pos h1]
theorem decR_2 {s : ByteArray} {k b p : Nat} {ds : List Int} (h : DecEnd s k b p ds) (h1 : ¬ (ds = [] ∨ 1 < p)) (hk : k = s.size) (hp : p = 0) (hN : dval ds < 9223372036854775808) :
    DecR (bs s) (.tuple #[numV false (dval ds) 0, .bool true]) := by
  unfold DecR; rw [h.hm, h.hs, if_neg h1, if_pos ⟨by rw [bs_length]; exact hk, hp, hN⟩]
theorem decR_3 {s : ByteArray} {k b p : Nat} {ds : List Int} {r : Value} (h : DecEnd s k b p ds) (h1 : ¬ (ds = [] ∨ 1 < p)) (hk : k = s.size) (hp : p = 0 → ¬ dval ds < 9223372036854775808) (hr : FloatR (dval ds) (-(b : Int)) r) : DecR (bs s) r := by
  unfold DecR; rw [h.hm, h.hs, if_neg h1, if_neg (fun hh => hp hh.2.1 hh.2.2), if_neg (by rw [bs_length]; omega)]
  show FloatR (dval ds) (0 - (b : Int)) r
  rw [Int.zero_sub]
  exact hr
theorem decR_4 {s : ByteArray} {k b p : Nat} {ds : List Int} (h : DecEnd s k b p ds) (h1 : ¬ (ds = [] ∨ 1 < p)) (hk : k < s.size) (he : expV (bs (s.extract k s.size)) = none) : DecR (bs s) zeroR := by
  have e : bs (s.extract k s.size) = (bs s).drop k := by rw [bs_extract, List.take_of_length_le (by rw [List.length_drop, bs_length]; omega)]
  unfold DecR; rw [h.hm, h.hs, if_neg h1, if_neg (by rw [bs_length]; omega), if_pos (by rw [bs_length]; exact hk), ← e, he]
theorem decR_5 {s : ByteArray} {k b p : Nat} {ds : List Int} {r : Value} {x : Int} (h : DecEnd s k b p ds) (h1 : ¬ (ds = [] ∨ 1 < p)) (hk : k < s.size) (he : expV (bs (s.extract k s.size)) = some x) (hr : FloatR (dval ds) (x - b) r) : DecR (bs s) r := by
  have e : bs (s.extract k s.size) = (bs s).drop k := by rw [bs_extract, List.take_of_length_le (by rw [List.length_drop, bs_length]; omega)]
  unfold DecR; rw [h.hm, h.hs, if_neg h1, if_neg (by rw [bs_length]; omega), if_pos (by rw [bs_length]; exact hk), ← e, he]
  exact hr
theorem floatR_no {N : Nat} {E : Int} {W0 : Nat} (h : DecRnd N E W0) (hok : false = (W0 != infW)) : FloatR N E zeroR :=
  ⟨W0, h, by rw [if_pos (by simpa using hok.symm)]⟩
theorem floatR_yes {N : Nat} {E : Int} {W0 W : Nat} (h : DecRnd N E W0) (hok : true = (W0 != infW)) (hW : W = W0) : FloatR N E (.tuple #[numV true 0 W, .bool true]) :=
  ⟨W0, h, by rw [if_neg (by simpa using hok.symm), hW]⟩
theorem rnd_le {N d W : Nat} (h : IsRnd N d W) : W ≤ infW := by obtain ⟨k, _, _, rfl⟩ := h; exact Nat.min_le_right _ _
theorem expV_bound {l : List Int} {x : Int} (h : expV l = some x) : -999 ≤ x ∧ x ≤ 999 := by
  have hB : ∀ (l : List Int) (y : Int), expB l = some y → 0 ≤ y ∧ y ≤ 999 := by
    intro l y hy
    unfold expB at hy
    split at hy
    · rename_i hc
      have := dval_bound (l := l) (fun c hcm => by have := (List.all_eq_true.1 hc.2.2) c hcm; simpa [isDigI] using this) hc.2.1
      cases hy
      omega
    · cases hy
  unfold expV at h
  split at h
  · unfold expS at h
    split at h
    · cases he : expB ((l.drop 1).drop 1) with
      | none => rw [he] at h; cases h
      | some y => rw [he, Option.map_some] at h; have := hB _ _ he; have h2 := Option.some.inj h; omega
    · split at h
      · have := hB _ _ h; omega
      · have := hB _ _ h; omega
  · cases h
end Go.Proofs.YtmndipnifjpdjaaGreatDoor
namespace Go.Proofs.YtmndipnifjpdjaaGreatDoor
open Go Go.RowKit
set_option linter.unusedVariables false
set_option maxHeartbeats 1600000 in
set_option maxRecDepth 100000 in
theorem pn_dec1 (s : ByteArray) (w : World) (hs : s.size ≤ 100) (hx : s.size ≤ 1) :
    Calls Tryz.prog 37 #[.string s] w fun e w' => ∃ r, e = .returned r ∧ DecR (bs s) r ∧ Below w.heap.size w w' := by
  go_enter Tryz.func37, Tryz.ntmps37
  go_wp2
  go_loopw [4, 5, 6, 7] (DecRel w s) (fun _ _ _ kv _ => s.size - (intOf kv).toNat)
  case atStart =>
    refine ⟨0, 0, 0, [], Nat.zero_le _, rfl, rfl, rfl, hide rfl, hide (fun j hj => by omega), by omega, by omega, by simp, ?_, (Below.refl _ _).alloc (by simp) _⟩
    have := ownB_empty (w.alloc (.cells #[.bool false, .int .i64 0, .int .u64 0] 67))
    simpa using this
  case round =>
    obtain ⟨k, b, p, ds, hk, rfl, rfl, rfl, Hsc, Hall, hb100, hpk, hdk, hown, hb⟩ := hrel
    have hbs := hb.size
    simp at hbs
    by_cases hlt : k < s.size
    · have hc0 : (0 : Int) ≤ ((s[k].toNat : Nat) : Int) := by omega
      have hc1 : ((s[k].toNat : Nat) : Int) < 256 := by have := s[k].toNat_lt; omega
      by_cases hdg : isDig ((s[k].toNat : Nat) : Int) = true
      · have HN := hide (scan_dig hlt Hsc.out hdg)
        have HA := hide (all_next hlt Hall.out (isDP_dig hdg))
        have hn46 : (((s[k].toNat : Nat) : Int) == 46) = false := by rw [beq_eq_false_iff_ne]; intro e; simp [isDig] at hdg; omega
        go_wp2_with (first
          | (go_at_call 34; refine (digit_any _ _ hc0 hc1).mono ?_; rintro e w' ⟨rfl, rfl⟩)
          | (at_builtin; refine app_byte rfl _ _ rfl (w.heap.size + 1) _ ds ((s[k].toNat : Nat) : Int) hown rfl rfl (by omega) (by omega) ?_; intro v' w1 hown' hgrow)
          | go_in)
        go_roundw
        case rel => exact ⟨k + 1, b + p, p, ds ++ [((s[k].toNat : Nat) : Int)], by omega, by go_num, by go_num, rfl, hide HN.out, hide HA.out, by omega, by omega, by simp; omega, hown', hgrow _ _ hb (Nat.le_refl _)⟩
        case measure => simp [intOf]; omega
      · have hdf : isDig ((s[k].toNat : Nat) : Int) = false := by simpa using hdg
        clear hdg
        by_cases h46 : ((s[k].toNat : Nat) : Int) = 46
        · have hy46 : (((s[k].toNat : Nat) : Int) == 46) = true := by rw [h46]; rfl
          have HN := hide (scan_point hlt Hsc.out h46)
          have HA := hide (all_next hlt Hall.out (by simp [isDP, h46]))
          clear h46
          go_wp2_with (go_at_call 34; refine (digit_any _ _ hc0 hc1).mono ?_; rintro e w' ⟨rfl, rfl⟩)
          go_roundw
          case rel => exact ⟨k + 1, b, p + 1, ds, by omega, by go_num, rfl, by go_num, hide HN.out, hide HA.out, by omega, by omega, by omega, hown, hb⟩
          case measure => simp [intOf]; omega
        · have hn46 : (((s[k].toNat : Nat) : Int) == 46) = false := by rw [beq_eq_false_iff_ne]; exact h46
          have Hend := hide (decEnd_mk (by omega) Hsc.out Hall.out (.inr (by rw [bs_getD hlt]; exact isDP_no hdf h46)))
          have HBX := hb
          have hown2 := hown
          obtain ⟨g, cap, hv⟩ : ∃ g cap, u4 = .slice (some ⟨g, 0, none⟩) ds.length cap := by obtain ⟨g, cap, hv, _⟩ := hown.byt; exact ⟨g, cap, hv⟩
          subst hv
          obtain ⟨c0, c1, c2, f0, f1, f2⟩ := resC hb
          by_cases hd0 : ds.length = 0
          · have hz : ((ds.length : Int) == 0) = true := by simp [hd0]
            have HD1 : Hid (DecR (bs s) zeroR) := hide (decR_1 Hend.out (.inl (List.eq_nil_of_length_eq_zero hd0)))
            clear hd0
            go_wp2_with (go_at_call 34; refine (digit_any _ _ hc0 hc1).mono ?_; rintro e w' ⟨rfl, rfl⟩)
            all_goals (refine bodyPost_ret (v := zeroR) ?_ rfl ⟨_, rfl, HD1.out, ?_⟩; (simp [results, Tryz.results37, go_sem, numV, zeroR, c0, c1, c2]); refine Below.setCell (Below.setCell (Below.setCell (below_res hb) ?_ _) ?_ _) ?_ _; all_goals simp)
          · exact absurd (show ds.length = 0 by omega) hd0
    · have hkl : k = s.size := by omega
      have Hend := hide (decEnd_mk hk Hsc.out Hall.out (.inl hkl))
      have HBX := hb
      have hown2 := hown
      obtain ⟨g, cap, hv⟩ : ∃ g cap, u4 = .slice (some ⟨g, 0, none⟩) ds.length cap := by obtain ⟨g, cap, hv, _⟩ := hown.byt; exact ⟨g, cap, hv⟩
      subst hv
      obtain ⟨c0, c1, c2, f0, f1, f2⟩ := resC hb
      have Hkl := hide hkl
      by_cases hd0 : ds.length = 0
      · have hz : ((ds.length : Int) == 0) = true := by simp [hd0]
        have HD1 : Hid (DecR (bs s) zeroR) := hide (decR_1 Hend.out (.inl (List.eq_nil_of_length_eq_zero hd0)))
        clear hd0 hkl
        go_wp2
        all_goals (refine bodyPost_ret (v := zeroR) ?_ rfl ⟨_, rfl, HD1.out, ?_⟩; (simp [results, Tryz.results37, go_sem, numV, zeroR, c0, c1, c2]); refine Below.setCell (Below.setCell (Below.setCell (below_res hb) ?_ _) ?_ _) ?_ _; all_goals simp)
      · have hz : ((ds.length : Int) == 0) = false := by rw [beq_eq_false_iff_ne]; omega
        by_cases hp1 : 1 < p
        · have HD1 : Hid (DecR (bs s) zeroR) := hide (decR_1 Hend.out (.inr hp1))
          clear hkl
          go_wp2
          all_goals (refine bodyPost_ret (v := zeroR) ?_ rfl ⟨_, rfl, HD1.out, ?_⟩; (simp [results, Tryz.results37, go_sem, numV, zeroR, c0, c1, c2]); refine Below.setCell (Below.setCell (Below.setCell (below_res hb) ?_ _) ?_ _) ?_ _; all_goals simp)
        · have Hn1 : Hid (¬ (ds = [] ∨ 1 < p)) := hide (by rintro (h | h); exact hd0 (by rw [h]; rfl); exact hp1 h)
          have hbl := Hend.out.behind (by omega)
          have hks : ((k : Int) == s.size) = true := by simp [hkl]
          by_cases hp0 : p = 0
          · have hpz : ((p : Int) == 0) = true := by simp [hp0]
            have Hp0 := hide hp0
            clear hp0 hkl
            go_wp2_with fail
            refine (whole_any ds _ _ hown2.byt (by omega) Hend.out.hd).mono ?_
            rintro e w2 ⟨hwh, rfl⟩
            obtain ⟨x, ok, rfl, hok, hxv⟩ := hwh
            cases ok with
            | true =>
              have Hok : Hid (dval ds < 9223372036854775808) := hide (by simpa using hok.symm)
              have Hx := hide (hxv rfl)
              have HR : Hid (DecR (bs s) (.tuple #[numV false x 0, .bool true])) := hide (by rw [Hx.out]; exact decR_2 Hend.out Hn1.out Hkl.out Hp0.out Hok.out)
              clear hok hxv c0 c1 c2 f0 f1 f2
              go_wp2_with (go_at_call 62; refine (int_any x _).mono ?_; rintro e w3 ⟨rfl, hb3⟩; have hb34 := HBX.trans (hb3.mono hbs); obtain ⟨c0, c1, c2, f0, f1, f2⟩ := resC hb34)
              all_goals (refine bodyPost_ret (v := .tuple #[numV false x 0, .bool true]) ?_ rfl ⟨_, rfl, HR.out, ?_⟩; (simp [results, Tryz.results37, go_sem, numV, c0, c1, c2]); refine Below.setCell (Below.setCell (Below.setCell (below_res hb34) ?_ _) ?_ _) ?_ _; all_goals simp)
            | false =>
              have HokW : Hid (¬ dval ds < 9223372036854775808) := hide (by simpa using hok.symm)
              clear hok hxv
              go_wp2_with fail
              refine (nearest_any ds (-(b : Int)) _ _ hown2.byt (by omega) Hend.out.hd (by omega) (by omega)).mono ?_
              rintro e w3 hNear
              obtain ⟨W, ok, W0, rfl, hD, hok, hW, hbn⟩ := hNear
              have hb3 := HBX.trans (hbn.mono hbs)
              obtain ⟨d0, d1, d2, g0, g1, g2⟩ := resC hb3
              have hWle := rnd_le hD
              have HD := hide hD
              clear hD c0 c1 c2 f0 f1 f2
              cases ok with
              | false =>
                have Hok := hide hok
                clear hok hW
                have HR : Hid (DecR (bs s) zeroR) := hide (decR_3 Hend.out Hn1.out Hkl.out (fun _ => HokW.out) (floatR_no HD.out Hok.out))
                go_wp2
                all_goals (refine bodyPost_ret (v := zeroR) ?_ rfl ⟨_, rfl, HR.out, ?_⟩; (simp [results, Tryz.results37, go_sem, numV, zeroR, d0, d1, d2]); refine Below.setCell (Below.setCell (Below.setCell (below_res hb3) ?_ _) ?_ _) ?_ _; all_goals simp)
              | true =>
                have HW := hide (hW rfl)
                have Hok := hide hok
                clear hok hW
                have HR : Hid (DecR (bs s) (.tuple #[numV true 0 W, .bool true])) := hide (decR_3 Hend.out Hn1.out Hkl.out (fun _ => HokW.out) (floatR_yes HD.out Hok.out HW.out))
                have hWle2 : (W : Int) ≤ 9218868437227405312 := by have := HW.out; unfold infW at hWle; omega
                have hbs3 := hb3.size
                simp at hbs3
                go_wp2_with (go_at_call 46; refine (float_any W _ (by omega) hWle2).mono ?_; rintro e w4 ⟨rfl, hb4⟩; have hb34 := hb3.trans (hb4.mono hbs3); obtain ⟨c0, c1, c2, f0, f1, f2⟩ := resC hb34)
                all_goals (refine bodyPost_ret (v := .tuple #[numV true 0 W, .bool true]) ?_ rfl ⟨_, rfl, HR.out, ?_⟩; (simp [results, Tryz.results37, go_sem, numV, c0, c1, c2]); refine Below.setCell (Below.setCell (Below.setCell (below_res hb34) ?_ _) ?_ _) ?_ _; all_goals simp)
          · have hpz : ((p : Int) == 0) = false := by rw [beq_eq_false_iff_ne]; omega
            have Hp0 := hide hp0
            clear hp0 hkl
            go_wp2_with fail
            refine (nearest_any ds (-(b : Int)) _ _ hown2.byt (by omega) Hend.out.hd (by omega) (by omega)).mono ?_
            rintro e w3 hNear
            obtain ⟨W, ok, W0, rfl, hD, hok, hW, hbn⟩ := hNear
            have hb3 := HBX.trans (hbn.mono hbs)
            obtain ⟨d0, d1, d2, g0, g1, g2⟩ := resC hb3
            have hWle := rnd_le hD
            have HD := hide hD
            clear hD c0 c1 c2 f0 f1 f2
            cases ok with
            | false =>
              have Hok := hide hok
              clear hok hW
              have HR : Hid (DecR (bs s) zeroR) := hide (decR_3 Hend.out Hn1.out Hkl.out (fun h => absurd h Hp0.out) (floatR_no HD.out Hok.out))
              go_wp2
              all_goals (refine bodyPost_ret (v := zeroR) ?_ rfl ⟨_, rfl, HR.out, ?_⟩; (simp [results, Tryz.results37, go_sem, numV, zeroR, d0, d1, d2]); refine Below.setCell (Below.setCell (Below.setCell (below_res hb3) ?_ _) ?_ _) ?_ _; all_goals simp)
            | true =>
              have HW := hide (hW rfl)
              have Hok := hide hok
              clear hok hW
              have HR : Hid (DecR (bs s) (.tuple #[numV true 0 W, .bool true])) := hide (decR_3 Hend.out Hn1.out Hkl.out (fun h => absurd h Hp0.out) (floatR_yes HD.out Hok.out HW.out))
              have hWle2 : (W : Int) ≤ 9218868437227405312 := by have := HW.out; unfold infW at hWle; omega
              have hbs3 := hb3.size
              simp at hbs3
              go_wp2_with (go_at_call 46; refine (float_any W _ (by omega) hWle2).mono ?_; rintro e w4 ⟨rfl, hb4⟩; have hb34 := hb3.trans (hb4.mono hbs3); obtain ⟨c0, c1, c2, f0, f1, f2⟩ := resC hb34)
              all_goals (refine bodyPost_ret (v := .tuple #[numV true 0 W, .bool true]) ?_ rfl ⟨_, rfl, HR.out, ?_⟩; (simp [results, Tryz.results37, go_sem, numV, c0, c1, c2]); refine Below.setCell (Below.setCell (Below.setCell (below_res hb34) ?_ _) ?_ _) ?_ _; all_goals simp)
end Go.Proofs.YtmndipnifjpdjaaGreatDoor
