import Derived.Test.YtplfgfdlcfdfdaaCD
import Derived.Test.YtplfgfdlcfdfdaaBF
import Derived.Deep.Slices
import Derived.Lib.SmallJoins
namespace Go.Proofs.Ytplfgfdlcfdfdaa
open Go Go.RowKit Go.Joins
set_option linter.unusedVariables false

def BytesL (L : List Int) : Prop := ∀ x ∈ L, 0 ≤ x ∧ x ≤ 255
theorem BytesL.app {L M : List Int} (h : BytesL L) (g : BytesL M) : BytesL (L ++ M) := fun x hx => by
  rcases List.mem_append.1 hx with h1 | h1
  · exact h x h1
  · exact g x h1
theorem BytesL.join {F : Nat → List Int} (i : Nat) (h : ∀ k, BytesL (F k)) : BytesL (joinL F i) := fun x hx => by
  obtain ⟨k, -, hk⟩ := List.mem_flatMap.1 hx
  exact h k x hk
theorem BytesL.u64n (v : Int) (n : Nat) : BytesL (u64n v n) := fun x hx => by
  obtain ⟨k, -, rfl⟩ := List.mem_map.1 hx
  omega
theorem BytesL.one {z : Int} (h0 : 0 ≤ z) (h1 : z ≤ 255) : BytesL [z] := fun x hx => by
  have e := List.mem_singleton.1 hx
  omega
theorem BytesL.flag (b : Bool) : BytesL [flagI b] := BytesL.one (by unfold flagI; split <;> omega) (by unfold flagI; split <;> omega)
theorem BytesL.tx (s : ByteArray) : BytesL (txL s) := fun x hx => by
  obtain ⟨c, -, rfl⟩ := List.mem_map.1 hx
  have := c.toNat_lt
  omega
theorem BytesL.co (p : PV) (k : Nat) : BytesL (coL p k) := by
  refine BytesL.app (BytesL.one (by rw [IntKind.wrap_u8]; omega) (by rw [IntKind.wrap_u8]; omega)) ?_
  split
  · exact BytesL.u64n _ _
  · split
    · exact BytesL.u64n _ _
    · exact (BytesL.u64n _ _).app (BytesL.tx _)
theorem BytesL.pb (p : PV) : BytesL (pbL p) := by
  refine BytesL.app (BytesL.app (BytesL.app (BytesL.app (BytesL.app ?_ ?_) (BytesL.u64n _ _)) ?_) (BytesL.u64n _ _)) ?_
  · exact (BytesL.u64n _ _).app ((BytesL.flag _).app ((BytesL.u64n _ _).app ((BytesL.u64n _ _).app (BytesL.u64n _ _))))
  · exact BytesL.join _ fun k => (BytesL.flag _).app (BytesL.u64n _ _)
  · exact BytesL.join _ fun k => BytesL.co p k
  · exact BytesL.join _ fun k => (BytesL.u64n _ _).app ((BytesL.u64n _ _).app ((BytesL.u64n _ _).app ((BytesL.u64n _ _).app (BytesL.u64n _ _))))

def magic : List Int := [99, 104, 117, 110, 107, 45, 48, 49]
/-- The first i functions of a file, behind its head. -/
def chL (n : Nat) (P : Nat → PV) (i : Nat) : List Int := (magic ++ u64n n 2) ++ joinL (fun k => pbL (P k)) i
theorem chL_1 (n : Nat) (P : Nat → PV) (i : Nat) : chL n P i ++ pbL (P i) = chL n P (i + 1) := by rw [chL, List.append_assoc, joinL_step (fun k => pbL (P k)) i]; rfl
theorem chL_0 (n : Nat) (P : Nat → PV) : chL n P 0 = magic ++ u64n n 2 := by simp [chL, joinL]
theorem BytesL.ch (n : Nat) (P : Nat → PV) (i : Nat) : BytesL (chL n P i) :=
  BytesL.app (BytesL.app (fun x hx => by simp [magic] at hx; omega) (BytesL.u64n _ _)) (BytesL.join _ fun k => BytesL.pb _)
theorem pbL_len (p : PV) : (pbL p).length ≤ 12 + 14 * p.weight := by
  have := S3_len p p.ni
  unfold PV.weight pbL at *
  omega
theorem chL_len (n : Nat) (P : Nat → PV) (i : Nat) : (chL n P i).length ≤ 10 + 12 * i + 14 * wts P i := by
  induction i with
  | zero => rw [chL_0]; simp [magic, u64n_len]
  | succ i ih =>
    have := pbL_len (P i)
    rw [← chL_1, List.length_append, wts_1]
    omega
theorem wts_mono (P : Nat → PV) {i n : Nat} (h : i ≤ n) : wts P i ≤ wts P n := by
  induction h with
  | refl => exact Nat.le_refl _
  | step _ ih => exact Nat.le_trans ih (by rw [wts_1]; omega)
/-- A list of bytes as numbers. -/
def natF (L : List Int) (j : Nat) : Nat := (L.getD j 0).toNat
/-- The sum of bytes. -/
def crcL (L : List Int) : Nat := crcN (natF L) L.length ^^^ 4294967295
theorem OwnL.byA {w : World} {base : Nat} {v : Value} {L : List Int} (h : OwnL w base v L) (hB : BytesL L) : ByA w v L.length (natF L) := by
  obtain ⟨b, o, cap, rfl, h1, h2⟩ := h.part
  have hcap : L.length ≤ cap := by
    obtain ⟨⟨-, h3⟩, -⟩ := h
    rcases h3 with ⟨h4, -⟩ | ⟨g, c, cur, h4, -, -, h5, -⟩
    · cases h4
    · cases h4; exact h5
  refine .inr ⟨b, o, cap, rfl, h1, hcap, fun j hj => ?_⟩
  have hm : L.getD j 0 ∈ L := by
    rw [List.getD_eq_getElem?_getD, List.getElem?_eq_getElem hj]
    exact List.getElem_mem hj
  obtain ⟨y0, y1⟩ := hB _ hm
  refine ⟨by unfold natF; omega, ?_⟩
  rw [h2 j hj, natF, Int.toNat_of_nonneg y0]
def allPlain (n : Nat) (P : Nat → PV) : Prop := n ≤ 65535 ∧ ∀ k, k < n → plainOk (P k)
/-- The file of a chunk. -/
def fileL (n : Nat) (P : Nat → PV) : List Int := chL n P n ++ u64n (wrap64 (crcL (chL n P n))) 4
/-- What WriteChunk hands back: the bytes, of the call's own, or none and the code. -/
def WrR (w : World) (base : Nat) (n : Nat) (P : Nat → PV) (v : Value) (c : Int) : Prop := (allPlain n P ∧ c = 0 ∧ OwnL w base v (fileL n P)) ∨ (¬ allPlain n P ∧ c = 12 ∧ v = .slice none 0 0)

/-- The number in a counter. -/
def ivN : Value → Nat
  | .int _ x => x.toNat
  | _ => 0
def magA : Array Value := #[.int .u8 99, .int .u8 104, .int .u8 117, .int .u8 110, .int .u8 107, .int .u8 45, .int .u8 48, .int .u8 49]
theorem own_magic (w : World) (fr : Nat × Nat) (g : Nat) (hg : g = w.heap.size) : PartA (w.alloc (.cells magA 5 fr)) (.slice (some ⟨g, 0, none⟩) 8 8) magic := by
  refine ⟨g, 0, 8, rfl, by simp [hg], fun j hj => ?_⟩
  rw [Nat.zero_add, cell_alloc_mark_at w magA 5 fr g j hg]
  match j, hj with
  | 0, _ => rfl
  | 1, _ => rfl
  | 2, _ => rfl
  | 3, _ => rfl
  | 4, _ => rfl
  | 5, _ => rfl
  | 6, _ => rfl
  | 7, _ => rfl

set_option maxHeartbeats 1600000 in
set_option maxRecDepth 100000 in
theorem specWrite_any (v : Value) (n : Nat) (P : Nat → PV) (w : World) (hn : n ≤ 1048576) (hf : allFit n P 1048576) (hbit : allBits n P) (hwt : wts P n ≤ 1048576) (h : ProsA w v n P) :
    Calls Try.prog 5 #[.agg #[v]] w fun e w' => ∃ v' c, e = .returned (.tuple #[v', .int .i64 c]) ∧ WrR w' w.heap.size n P v' c ∧ Below w.heap.size w w' := by
  have HF := hide hf
  have HBit := hide hbit
  have HWt := hide hwt
  clear hf hbit hwt
  obtain ⟨a, cap, rfl⟩ := h.val
  have HA := hide (h.low (b_1 w (.cells #[.slice a n cap] 31)) (Nat.le_refl _))
  have HB0 := hide (b_1 w (.cells #[.slice a n cap] 31))
  have HR0 := hide (RowF.mk' w 31 #[.slice a n cap])
  clear h
  by_cases hbig : 65535 < n
  · have hbi : (65535 : Int) < (n : Int) := by omega
    go_enter Try.func5, Try.ntmps5
    go_wp2
    refine bodyPost_ret (v := .tuple #[.slice none 0 0, .int .i64 12]) ?_ rfl ⟨_, _, rfl, .inr ⟨fun h => by have := h.1; omega, rfl, rfl⟩, HB0.out⟩
    simp [results, Try.results5, go_sem]
  · have hbi : ¬ (65535 : Int) < (n : Int) := by omega
    go_enter Try.func5, Try.ntmps5
    have HM := hide (own_magic (w.alloc (.cells #[.slice a n cap] 31)) (8, 9) (w.heap.size + 1) (by simp))
    have HBm := hide (b_1 (w.alloc (.cells #[.slice a n cap] 31)) (.cells magA 5 (8, 9)))
    have hcv := run_convert_bytes_const_at (P := Try.prog) (w.alloc (.cells #[.slice a n cap] 31)) 26 5 magA 8 8 (w.heap.size + 1) (by simp) Try.underlying26 Try.underlying5
    unfold magA at hcv
    simp only [List.size_toArray, List.length_cons, List.length_nil, Nat.zero_add, Nat.reduceAdd] at hcv
    go_wp2_with fail
    clear hcv
    have HBm2 := hide (HB0.out.trans (HBm.out.mono (by simp)))
    have HR1 := hide (HR0.out.low HBm.out HR0.out.lt)
    have HA1 := hide (HA.out.low HBm.out (Nat.le_refl _))
    unfold magA at *
    generalize (w.alloc (.cells #[.slice a n cap] 31)).alloc (.cells #[.int .u8 99, .int .u8 104, .int .u8 117, .int .u8 110, .int .u8 107, .int .u8 45, .int .u8 48, .int .u8 49] 5 (8, 9)) = w1 at *
    clear HR0 HA HB0 HBm
    refine (put_any (n : Int) 2 w1 (by omega)).mono ?_
    rintro e w2 ⟨v2, rfl, ho, hb⟩
    obtain ⟨b2, o2, c2, rfl, -⟩ := ho.part
    have HP2 := hide ho.part
    have HM2 := hide (HM.out.low hb (Nat.le_refl _))
    have HB2 := hide hb
    clear ho hb HM
    go_wp2_with fail
    refine (join2 HM2.out HP2.out (by simp [magic]) (by rw [leI_len]; omega)).mono ?_
    rintro e w3 ⟨v3, rfl, ho, hb⟩
    have HB3 := hide (HB2.out.trans (hb.mono HB2.out.size))
    have HO3 := hide (show OwnL w3 w1.heap.size v3 (chL n P 0) from by rw [chL_0]; exact ho.mono HB2.out.size)
    have hl1 := HR1.out.lt
    have HR3 := hide (HR1.out.low HB3.out hl1)
    have r3 : w3.cell? ⟨w.heap.size, 0, none⟩ = some (.slice a n cap) := HR3.out.cell (j := 0) (by simp)
    clear ho hb HM2 HP2 HB2
    go_wp2_with fail
    rename_i K1 a1
    have HK1 := hide a1
    clear a1 r3
    go_loopw [4, 22] (fun ov iv wr => ∃ i : Nat, i ≤ n ∧ iv = .int .i64 i ∧ Hid (OwnL wr w1.heap.size ov (chL n P i)) ∧ Hid (∀ k, k < i → plainOk (P k)) ∧ Hid (Below w1.heap.size w1 wr)) (fun _ iv _ => n - ivN iv)
    case atStart => exact ⟨0, by omega, rfl, HO3, hide (fun k hk => by omega), HB3⟩
    case round =>
      clear HO3 HB3 HR3
      obtain ⟨i, hi9, rfl, HOw, HPl, HBw⟩ := hrel
      by_cases hin : i < n
      · rcases HA1.out with ⟨h9, _⟩ | ⟨b, o, cap', e, hb, hcap, hc⟩
        · omega
        · cases e
          obtain ⟨s4, s5, s6, s7, hc8, hpva⟩ := hc i hin
          obtain ⟨a4, k4, rfl⟩ := hpva.u.val
          obtain ⟨a5, k5, rfl⟩ := hpva.c.val
          obtain ⟨a6, k6, rfl⟩ := hpva.i.val
          obtain ⟨a7, k7, rfl⟩ := hpva.l.val
          have HP := hide (hpva.low HBw.out (Nat.le_refl _))
          obtain ⟨c0, c1, c2, c3, c4, c5, c6, c7⟩ := hc8.low HBw.out hb
          clear hc8 hpva hc
          have HLw := hide (chL_len n P i)
          have HWi := hide (wts_mono P (Nat.le_of_lt hin))
          have HWj := hide (wts_mono P hin)
          obtain ⟨L, hLL⟩ : ∃ L, L = chL n P i := ⟨_, rfl⟩
          rw [← hLL] at HOw HLw
          have HLL := hide hLL
          clear hLL
          obtain ⟨g8, k8, rfl, hg8, hg9⟩ := HOw.out.blk
          go_wp2_with fail
          have HPC := hide (PC.mk wr 46 (P i) (.slice a4 (P i).nu k4) (.slice a5 (P i).nc k5) (.slice a6 (P i).ni k6) (.slice a7 (P i).nl k7))
          have HBx := hide (HBw.out.alloc HBw.out.size (.cells #[.int .i64 (P i).params, .int .i64 (P i).regs, .int .i64 (P i).line, .bool (P i).dots, .slice a4 (P i).nu k4, .slice a5 (P i).nc k5, .slice a6 (P i).ni k6, .slice a7 (P i).nl k7] 46))
          have hbx := b_1 wr (.cells #[.int .i64 (P i).params, .int .i64 (P i).regs, .int .i64 (P i).line, .bool (P i).dots, .slice a4 (P i).nu k4, .slice a5 (P i).nc k5, .slice a6 (P i).ni k6, .slice a7 (P i).nl k7] 46)
          have HOx := hide (HOw.out.low hbx (Nat.le_refl _))
          have HPx := hide (HP.out.low hbx (Nat.le_refl _))
          clear hbx HP HOw c0 c1 c2 c3 c4 c5 c6 c7
          generalize wr.alloc (.cells #[.int .i64 (P i).params, .int .i64 (P i).regs, .int .i64 (P i).line, .bool (P i).dots, .slice a4 (P i).nu k4, .slice a5 (P i).nc k5, .slice a6 (P i).ni k6, .slice a7 (P i).nl k7] 46) = wx at *
          refine (l07Plain_any (P i) _ _ _ _ wx (HF.out i hin) (HBit.out i hin) HPx.out).mono ?_
          rintro e w4 ⟨r, rfl, hr, hb⟩
          have HB4 := hide (HBx.out.trans (hb.mono HBx.out.size))
          have HO4 := hide (HOx.out.low hb (Nat.le_refl _))
          have HP4 := hide (HPx.out.low hb (Nat.le_refl _))
          have HC4 := hide (HPC.out.low hb HPC.out.1)
          clear hb HBx HOx HPx HPC
          rcases hr with ⟨rfl, hr⟩ | ⟨rfl, hr⟩
          · have HQ := hide hr
            clear hr
            obtain ⟨-, d0, d1, d2, d3, d4, d5, d6, d7⟩ := HC4.out
            go_wp2_with fail
            clear d0 d1 d2 d3 d4 d5 d6 d7
            refine (pb_any (P i) _ _ _ _ w4 (HF.out i hin) HQ.out.1.2.2.2.2.2.2 (HBit.out i hin) HP4.out).mono ?_
            rintro e w5 ⟨v5, rfl, ho, hb⟩
            obtain ⟨b5, o5, c5, rfl, -⟩ := ho.part
            have HB5 := hide (HB4.out.trans (hb.mono HB4.out.size))
            have HO5 := hide (HO4.out.low hb (Nat.le_refl _))
            have HJ5 := hide ho.part
            clear ho hb HO4 HP4 HC4
            go_wp2_with (
              at_builtin
              refine app_bytes rfl _ _ rfl w1.heap.size _ _ L (pbL (P i)) HO5.out HJ5.out rfl rfl (by have := HLw.out; have := HWi.out; have := HWj.out; have := HWt.out; have h9 := pbL_len (P i); rw [wts_1] at *; omega) HB5.out.size ?_
              intro v6 w6 ho hgrow _
              have HB6 := hide (hgrow _ _ HB5.out (Nat.le_refl _))
              have HO6 := hide (show OwnL w6 w1.heap.size v6 (chL n P (i + 1)) from by rw [← chL_1, ← HLL.out]; exact ho)
              clear ho hgrow)
            go_roundw
            case rel =>
             refine ⟨_, _, _, _, _, _, _, _, _, _, _, _, _, _, _, _, ?_, rfl⟩
             exact ⟨i + 1, by omega, by simp, HO6, hide (fun k hk => by
               rcases Nat.lt_succ_iff_lt_or_eq.1 hk with h | rfl
               · exact HPl.out k h
               · exact HQ.out), HB6⟩
            case measure => show n - ivN (.int .i64 _) < n - ivN (.int .i64 _); simp [ivN]; omega
          · have HQ := hide hr
            clear hr
            go_wp2_with fail
            refine bodyPost_ret (v := .tuple #[.slice none 0 0, .int .i64 12]) ?_ rfl ⟨_, _, rfl, .inr ⟨fun h => HQ.out (h.2 i hin), rfl, rfl⟩, HBm2.out.trans (HB4.out.mono HBm2.out.size)⟩
            simp [results, Try.results5, go_sem]
      · obtain rfl : i = n := by omega
        go_wp2
        refine HK1.out _ _ ?_
        clear HK1
        have HLw := hide (chL_len i P i)
        have HBy := hide (BytesL.ch i P i)
        obtain ⟨L, hLL⟩ : ∃ L, L = chL i P i := ⟨_, rfl⟩
        rw [← hLL] at HOw HLw HBy
        have HLL := hide hLL
        clear hLL
        rename_i u4 _
        obtain ⟨g8, k8, hv8, hg8, hg9⟩ := HOw.out.blk
        subst hv8
        go_wp2_with fail
        refine (specCrc_any _ L.length (natF L) wr (by have := HLw.out; have := HWt.out; omega) (HOw.out.byA HBy.out)).mono ?_
        rintro e w4 ⟨rfl, hb⟩
        have HB4 := hide (HBw.out.trans (hb.mono HBw.out.size))
        have HO4 := hide (HOw.out.low hb (Nat.le_refl _))
        have HCr := hide (show crcN (natF L) L.length ^^^ 4294967295 = crcL L from rfl)
        clear hb HOw HBw
        generalize crcN (natF L) L.length ^^^ 4294967295 = cr at *
        go_wp2_with fail
        refine (put_any (wrap64 cr) 4 w4 (by omega)).mono ?_
        rintro e w5 ⟨v5, rfl, ho, hb⟩
        obtain ⟨b5, o5, c5, rfl, -⟩ := ho.part
        have HB5 := hide (HB4.out.trans (hb.mono HB4.out.size))
        have HO5 := hide (HO4.out.low hb (Nat.le_refl _))
        have HJ5 := hide ho.part
        clear ho hb HO4 HB4
        go_wp2_with (
          at_builtin
          refine app_bytes rfl _ _ rfl w1.heap.size _ _ L (u64n (wrap64 cr) 4) HO5.out HJ5.out rfl rfl (by have := HLw.out; have := HWt.out; rw [u64n_len]; omega) HB5.out.size ?_
          intro v6 w6 ho hgrow _
          have HB6 := hide (hgrow _ _ HB5.out (Nat.le_refl _))
          have HO6 := hide (show OwnL w6 w.heap.size v6 (fileL i P) from by rw [fileL, ← HLL.out, ← HCr.out]; exact ho.mono HBm2.out.size)
          clear ho hgrow)
        refine bodyPost_ret (v := .tuple #[v6, .int .i64 0]) ?_ rfl ⟨_, _, rfl, .inl ⟨⟨by omega, HPl.out⟩, rfl, HO6.out⟩, HBm2.out.trans (HB6.out.mono HBm2.out.size)⟩
        simp [results, Try.results5, go_sem]

end Go.Proofs.Ytplfgfdlcfdfdaa
