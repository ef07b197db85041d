import Derived.Test.YtcpeabchaimkaaaDoorRG
import Derived.Deep.RegionLaw
namespace Go.Proofs.YtcpeabchaimkaaaDoor
open Go Go.RowKit
set_option linter.unusedVariables false

def SumR (R : Nat) (l : List Int) (w : World) (e : Ending) (w' : World) : Prop :=
  Keeps w w' (fun b => b = R) ∧ ((∃ t, l = t ++ u64n (wrap64 (crcL t)) 4 ∧ e = .returned (.tuple #[]) ∧ RdP w' R t) ∨ ((∀ t, l ≠ t ++ u64n (wrap64 (crcL t)) 4) ∧ e = PanE))
theorem SlB.byA {w : World} {B : Nat} {v : Value} {l : List Int} (h : SlB w B v l) (hB : BytesL l) (hs : B ≤ w.heap.size) : ByA w v l.length (natF l) := by
  rcases h with ⟨rfl, a, cap, rfl, _⟩ | ⟨b, o, cap, rfl, h1, h2, h3⟩
  · exact .inl ⟨rfl, a, cap, rfl⟩
  · refine .inr ⟨b, o, cap, rfl, by omega, h2, fun j hj => ?_⟩
    have hb0 : 0 ≤ l.getD j 0 ∧ l.getD j 0 ≤ 255 := hB _ (by rw [List.getD_eq_getElem?_getD, List.getElem?_eq_getElem hj]; exact List.getElem_mem _)
    refine ⟨by unfold natF; omega, ?_⟩
    rw [h3 j hj, natF, Int.toNat_of_nonneg hb0.1]
theorem keeps_two {w w1 w2 : World} {R g : Nat} (h : Keeps w w1 (fun b => b = R)) (k : Keeps w1 w2 (fun b => b = g)) (hg : w.heap.size ≤ g) : Keeps w w2 (fun b => b = R) :=
  ⟨k.os.trans h.os, k.tape.trans h.tape, k.output.trans h.output, Nat.le_trans h.size k.size, fun b hb hn => (k.block b (Nat.lt_of_lt_of_le hb h.size) (by omega)).trans (h.block b hb hn)⟩
theorem one_row (v : Value) {j : Nat} (hj : j < 1) : #[v].getD j (.bool false) = v := by
  obtain rfl : j = 0 := by omega
  rfl
theorem crcL_len {l : List Int} {m : Nat} (h : l.length = m) : crcN (natF l) m ^^^ 4294967295 = crcL l := by subst h; rfl
theorem wr64 (x : Int) : IntKind.i64.wrap x = wrap64 x := by rw [IntKind.wrap_i64, wrap64]
theorem crc_p (v : Value) (m : Nat) (l : List Int) (w : World) (C : Nat) (hn : m ≤ 1099511627776) (hl : l.length = m) (hC : crcL l = C) (h : ByA w v m (natF l)) :
    Calls Tryd.prog 49 #[v] w fun e w' => e = .returned (.int .u32 (C : Int)) ∧ Below w.heap.size w w' := by
  refine (implCrc_any v m (natF l) w hn h).mono ?_
  rintro e w' ⟨rfl, hb⟩
  rw [crcL_len hl, hC]
  exact ⟨rfl, hb⟩
theorem num_q (R m : Nat) (l : List Int) (w : World) (V : Int) (hm : m ≤ 8) (hl : l.length = m) (hV : wrap64 (leV l) = V) (h : RdP w R l) :
    Calls Tryd.prog 31 #[.pointer (some ⟨R, 0, none⟩), .int .i64 m] w fun e w' => Keeps w w' (fun b => b = R) ∧ e = .returned (.int .i64 V) := by
  refine (pnum_any R m l w hm h).mono ?_
  rintro e w' ⟨hk, ⟨hle, rfl, hr⟩ | ⟨hlt, _⟩⟩
  · rw [List.take_of_length_le (by omega), hV]
    exact ⟨hk, rfl⟩
  · omega
theorem crcL_lt {l : List Int} (h : BytesL l) : crcL l < 4294967296 := by
  unfold crcL
  refine Nat.xor_lt_two_pow (n := 32) (crcN_lt _ _ fun j hj => ?_) (by omega)
  have hb0 : 0 ≤ l.getD j 0 ∧ l.getD j 0 ≤ 255 := h _ (by rw [List.getD_eq_getElem?_getD, List.getElem?_eq_getElem hj]; exact List.getElem_mem _)
  unfold natF
  omega
theorem sum_eq {l : List Int} {m : Nat} (hm : l.length = m + 4) (hB : BytesL l) (q : wrap64 (leV (l.drop m)) = wrap64 (crcL (l.take m))) : l = l.take m ++ u64n (wrap64 (crcL (l.take m))) 4 := by
  have hld : (l.drop m).length = 4 := by rw [List.length_drop]; omega
  have e := u64_leV (t := l.drop m) (fun x hx => hB x (List.mem_of_mem_drop hx)) (by omega)
  rw [hld, q] at e
  rw [e, List.take_append_drop]
theorem sum_ne {l : List Int} {m : Nat} (hm : l.length = m + 4) (hB : BytesL l) (q : ¬ wrap64 (leV (l.drop m)) = wrap64 (crcL (l.take m))) : ∀ t, l ≠ t ++ u64n (wrap64 (crcL t)) 4 := by
  intro t e
  have ht : t.length = m := by have := congrArg List.length e; rw [List.length_append, u64n_len] at this; omega
  have e1 : l.take m = t := by rw [e, ← ht, List.take_left]
  have e2 : l.drop m = u64n (wrap64 (crcL t)) 4 := by rw [e, ← ht, List.drop_left]
  refine q ?_
  have hc := crcL_lt (l := t) (fun x hx => hB x (by rw [e]; exact List.mem_append_left _ hx))
  rw [e1, e2, u64n, le4, w64_eq]
  congr 1
  omega

set_option maxHeartbeats 1600000 in
set_option maxRecDepth 100000 in
theorem checkSum_p (R : Nat) (l : List Int) (w : World) (hl20 : l.length ≤ 1048576) (h : RdP w R l) :
    Calls Tryd.prog 28 #[.pointer (some ⟨R, 0, none⟩)] w fun e w' => SumR R l w e w' := by
  have hRl := h.lt
  obtain ⟨⟨v, hR, hS⟩, hBy, hl⟩ := h
  have c0 := hR.cell (j := 0) (by omega)
  have z0 := hR.frz 0
  have HR := hide hR
  have HBy := hide hBy
  obtain ⟨a, cap, hv⟩ : ∃ a cap, v = .slice a l.length cap := by
    rcases hS with ⟨rfl, a, cap, rfl, _⟩ | ⟨b, o, cap, rfl, _⟩
    · exact ⟨_, _, rfl⟩
    · exact ⟨_, _, rfl⟩
  have HS := hide hS
  clear hR hS hBy
  by_cases hle : 4 ≤ l.length
  · rcases HS.out with ⟨rfl, _⟩ | ⟨b, o, cap, rfl, hb, hcap, hc⟩
    · simp at hle
    have HC := hide hc
    clear hc hv
    obtain ⟨m, hm⟩ : ∃ m, l.length = m + 4 := ⟨l.length - 4, by omega⟩
    have i1 : wrap64 (((m + 4 : Nat) : Int) - 4) = (m : Int) := by unfold wrap64; omega
    have hlt : (l.take m).length = m := by rw [List.length_take]; omega
    have hld : (l.drop m).length = 4 := by rw [List.length_drop]; omega
    have hBt : BytesL (l.take m) := fun x hx => HBy.out x (List.mem_of_mem_take hx)
    have hBd : BytesL (l.drop m) := fun x hx => HBy.out x (List.mem_of_mem_drop hx)
    have hcm : ¬ cap - m = 0 := by omega
    have HSt := hide (show SlB w R (.slice (some ⟨b, o, none⟩) m cap) (l.take m) from .inr ⟨b, o, cap, by rw [hlt], hb, by omega, fun j hj => by rw [getD_take (by omega)]; exact HC.out j (by omega)⟩)
    have HSd := hide (show SlB w R (.slice (some ⟨b, o + m, none⟩) 4 (cap - m)) (l.drop m) from .inr ⟨b, o + m, cap - m, by rw [hld], hb, by omega, fun j hj => by rw [getD_drop, Nat.add_assoc]; exact HC.out (m + j) (by omega)⟩)
    have hsz : (w.setCell ⟨R, 0, none⟩ (.slice (some ⟨b, o, none⟩) m cap)).heap.size = w.heap.size := by simp
    have kB : Keeps w ((w.setCell ⟨R, 0, none⟩ (.slice (some ⟨b, o, none⟩) m cap)).alloc (.cells #[.slice (some ⟨b, o + m, none⟩) 4 (cap - m)] 51)) (fun b => b = R) := ((Keeps.refl w (fun b => b = R)).setCell (g := R) (j := 0) rfl (.slice (some ⟨b, o, none⟩) m cap)).trans (Keeps.of (b_1 (w.setCell ⟨R, 0, none⟩ (.slice (some ⟨b, o, none⟩) m cap)) _) (Nat.le_refl _) _)
    have lB : Below R w ((w.setCell ⟨R, 0, none⟩ (.slice (some ⟨b, o, none⟩) m cap)).alloc (.cells #[.slice (some ⟨b, o + m, none⟩) 4 (cap - m)] 51)) := ((Below.refl R w).setCell (p := ⟨R, 0, none⟩) (Nat.le_refl _) _).trans ((b_1 (w.setCell ⟨R, 0, none⟩ (.slice (some ⟨b, o, none⟩) m cap)) _).mono (by rw [hsz]; omega))
    have hrA := RowF.mk' (w.setCell ⟨R, 0, none⟩ (.slice (some ⟨b, o, none⟩) m cap)) 51 #[.slice (some ⟨b, o + m, none⟩) 4 (cap - m)]
    rw [hsz] at hrA
    have hrB := (HR.out.set (j := 0) (by omega) (.slice (some ⟨b, o, none⟩) m cap)).low (b_1 (w.setCell ⟨R, 0, none⟩ (.slice (some ⟨b, o, none⟩) m cap)) (.cells #[.slice (some ⟨b, o + m, none⟩) 4 (cap - m)] 51)) (by rw [hsz]; exact hRl)
    have HRd := hide (show RdP ((w.setCell ⟨R, 0, none⟩ (.slice (some ⟨b, o, none⟩) m cap)).alloc (.cells #[.slice (some ⟨b, o + m, none⟩) 4 (cap - m)] 51)) R (l.take m) from
      ⟨⟨_, hrB.congr (fun j hj => by rw [if_pos (by omega)]), HSt.out.low lB (Nat.le_refl _)⟩, hBt, by omega⟩)
    have HRs := hide (show RdP ((w.setCell ⟨R, 0, none⟩ (.slice (some ⟨b, o, none⟩) m cap)).alloc (.cells #[.slice (some ⟨b, o + m, none⟩) 4 (cap - m)] 51)) w.heap.size (l.drop m) from
      ⟨⟨.slice (some ⟨b, o + m, none⟩) 4 (cap - m), hrA.congr (fun j hj => one_row _ hj), by
        rcases HSd.out.low lB (Nat.le_refl _) with h | ⟨b1, o1, c1, h1, h2, h3⟩
        · exact .inl h
        · exact .inr ⟨b1, o1, c1, h1, by omega, h3⟩⟩, hBd, by omega⟩)
    have HK := hide kB
    have hc2 := hrB.cell (j := 0) (by omega)
    rw [if_pos rfl] at hc2
    have HC2 := hide hc2
    have HM := hide hm
    rw [hm] at c0
    clear kB lB hrA hrB HSd hc2 hsz
    go_enter Tryd.func28, Tryd.ntmps28
    go_wp2_with fail
    refine (require_any _ _ _).mono ?_
    rintro e w3 ⟨hw, ⟨-, rfl⟩ | ⟨hq, -⟩⟩
    case inr => simp at hq
    obtain rfl := hw.symm
    go_wp2_with fail
    have hsm := HRs.out.lt
    obtain ⟨C, hC⟩ : ∃ C, crcL (l.take m) = C := ⟨_, rfl⟩
    obtain ⟨V, hV⟩ : ∃ V, wrap64 (leV (l.drop m)) = V := ⟨_, rfl⟩
    have HCr := hide hC
    have HV := hide hV
    clear hC hV
    generalize ((w.setCell ⟨R, 0, none⟩ (.slice (some ⟨b, o, none⟩) m cap)).alloc (.cells #[.slice (some ⟨b, o + m, none⟩) 4 (cap - m)] 51)) = w4 at *
    have HRs := hide (HRs.out.low (Below.refl w4.heap.size w4).drew HRs.out.lt)
    have HRd := hide (HRd.out.low (Below.refl w4.heap.size w4).drew HRd.out.lt)
    have HK := hide (HK.out.trans (Keeps.of (Below.refl w4.heap.size w4).drew (Nat.le_refl _) _))
    have c2 : w4.drew.cell? ⟨R, 0, none⟩ = some (.slice (some ⟨b, o, none⟩) m cap) := ((Below.refl w4.heap.size w4).drew.cell (p := ⟨R, 0, none⟩) (show R < _ by omega)).trans HC2.out
    go_region_law
      (first
      | (go_simp
         go_at_call 31
         refine (num_q w.heap.size 4 (l.drop m) _ V (by omega) hld HV.out HRs.out).mono ?_
         rintro e w5 ⟨hk, rfl⟩
         have HK5 := hide hk
         have c5 : w5.cell? ⟨R, 0, none⟩ = some (.slice (some ⟨b, o, none⟩) m cap) := (hk.cell (p := ⟨R, 0, none⟩) (show R < _ from HRd.out.lt) (by show ¬ R = _; omega)).trans c2
         clear hk)
      | (go_simp
         go_at_call 49
         refine (crc_p _ m (l.take m) w5 C (by omega) hlt HCr.out ?_).mono ?_
         case refine_1 =>
           have hb9 : SlB w5 R (.slice (some ⟨b, o, none⟩) m cap) (l.take m) := HSt.out.low ((HK.out.below (B := R) (by omega) (by omega)).trans (HK5.out.below (B := R) (by have := HRd.out.lt; omega) (by omega))) (Nat.le_refl _)
           have hb8 := hb9.byA hBt (by have := HRd.out.lt; have := HK5.out.size; omega)
           rw [hlt] at hb8
           exact hb8
         rintro e w6 ⟨rfl, hb6⟩
         have HB6 := hide hb6
         clear hb6)
      | (go_simp
         go_at_call 29
         refine (require_any _ _ _).mono ?_
         rintro e w7 ⟨hw, ⟨hq, rfl⟩ | ⟨hq, rfl⟩⟩
         case inr =>
           subst hw
           refine ⟨rfl, (keeps_two HK.out HK5.out (Nat.le_refl _)).trans (Keeps.of HB6.out (Nat.le_refl _) _), .inr ⟨sum_ne HM.out HBy.out ?_, rfl⟩⟩
           rw [HV.out, HCr.out, ← wr64]
           exact ne_of_beq_false hq
         obtain rfl := hw.symm))
    all_goals
      have HQ := hide (show wrap64 (leV (l.drop m)) = wrap64 (crcL (l.take m)) by rw [HV.out, HCr.out, ← wr64]; exact eq_of_beq hq)
      clear hq
      have HE := hide (keeps_two HK.out HK5.out (Nat.le_refl _))
      go_end0
      exact ⟨HE.out.trans (Keeps.of HB6.out (Nat.le_refl _) _), .inl ⟨_, sum_eq HM.out HBy.out HQ.out, rfl, (HRd.out.keep HK5.out (by omega)).low HB6.out (by have := HRd.out.lt; have := HK5.out.size; omega)⟩⟩
  · subst hv
    have i1 : wrap64 ((l.length : Int) - 4) = (l.length : Int) - 4 := by unfold wrap64; omega
    have i2 : ¬ (0 : Int) ≤ (l.length : Int) - 4 := by omega
    have HLe := hide hle
    clear hle
    go_enter Tryd.func28, Tryd.ntmps28
    go_wp2_with fail
    refine (require_any _ _ _).mono ?_
    rintro e w3 ⟨hw, ⟨hq, -⟩ | ⟨-, rfl⟩⟩
    · simp at hq; omega
    · subst hw
      exact ⟨rfl, Keeps.refl _ _, .inr ⟨fun t e => HLe.out (by rw [e, List.length_append, u64n_len]; omega), rfl⟩⟩

end Go.Proofs.YtcpeabchaimkaaaDoor
