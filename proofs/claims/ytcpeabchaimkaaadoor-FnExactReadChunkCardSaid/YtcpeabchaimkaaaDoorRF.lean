import Derived.Test.YtcpeabchaimkaaaDoorJRE
import Derived.Laws.BytesArg
namespace Go.Proofs.YtcpeabchaimkaaaDoor
open Go Go.RowKit
set_option linter.unusedVariables false

theorem conv_sl {w : World} {B : Nat} {v : Value} {l : List Int} (h : SlB w B v l) : (convert 22 9 v).run Tryd.prog w = .ok (.string (bsL l)) w := by
  rcases h with ⟨rfl, a, cap, rfl, ha⟩ | ⟨b, o, cap, rfl, _, _, hc⟩
  · rcases a with _ | ⟨b, o, sp⟩
    · exact run_convert_bytes_nil w 22 5 Tryd.underlying22 Tryd.underlying5 0 cap 9 Tryd.underlying9
    · obtain rfl : sp = none := ha _ rfl
      exact run_convert_bytes_arg w 22 5 Tryd.underlying22 Tryd.underlying5 b o 0 cap [] rfl (fun i hi => by omega) 9 Tryd.underlying9
  · exact run_convert_bytes_arg w 22 5 Tryd.underlying22 Tryd.underlying5 b o l.length cap l rfl hc 9 Tryd.underlying9

/-- A constant: its kind, integer, word and text. -/
abbrev Con := Int × Int × Int × ByteArray
def conE (u : Con) : List Int := [IntKind.u8.wrap u.1] ++ (if u.1 = 4 then u64n u.2.1 8 else if u.1 = 5 then u64n (wrap64 u.2.2.1) 8 else u64n u.2.2.2.size 4 ++ txL u.2.2.2)
def conW (u : Con) : Prop := constOk u.1 u.2.1 u.2.2.1 u.2.2.2 ∧ (-9223372036854775808 ≤ u.2.1 ∧ u.2.1 ≤ 9223372036854775807) ∧ (0 ≤ u.2.2.1 ∧ u.2.2.1 < 18446744073709551616)
def conX (u : Con) : Value := .agg #[.int .i64 u.1, .int .i64 u.2.1, .int .u64 u.2.2.1, .string u.2.2.2]
theorem emptyL : (⟨#[]⟩ : ByteArray).toList = [] := by rw [ByteArray.toList_eq]
theorem z64 : (-9223372036854775808 : Int) ≤ 0 ∧ (0 : Int) ≤ 9223372036854775807 := by decide
theorem zu64 : (0 : Int) ≤ 0 ∧ (0 : Int) < 18446744073709551616 := by decide
theorem bsL_size (t : List Int) : (bsL t).size = t.length := by simp [bsL, ByteArray.size]
theorem txL_bsL {t : List Int} (h : BytesL t) : txL (bsL t) = t := by
  unfold txL bsL
  simp only [List.map_map]
  conv => rhs; rw [← List.map_id t]
  refine List.map_congr_left fun x hx => ?_
  have := h x hx
  simp only [Function.comp, id]
  rw [UInt8.toNat_ofNat']
  omega
theorem n4_eq {a b : Int} (h : u64n a 4 = u64n b 4) (ha : 0 ≤ a ∧ a ≤ 4294967295) (hb : 0 ≤ b ∧ b ≤ 4294967295) : a = b := by
  have e := congrArg leV h
  rw [u64n, u64n, le4, le4, IntKind.wrap_u64, IntKind.wrap_u64] at e
  omega
theorem con_size {u : Con} (h : conW u) (k : u.1 = 6) : u.2.2.2.size ≤ 65536 := by
  rcases h.1 with ⟨q, _⟩ | ⟨q, _⟩ | ⟨_, _, _, q⟩
  · omega
  · omega
  · exact q
theorem u8_small {x : Int} (h0 : 0 ≤ x) (h1 : x ≤ 255) : IntKind.u8.wrap x = x := by rw [IntKind.wrap_u8]; omega
theorem u1_one {x : Int} (h0 : 0 ≤ x) (h1 : x ≤ 255) : u64n x 1 = [x] := by
  rw [u64n, IntKind.wrap_u64]
  simp [leI, List.range_succ]
  omega
theorem con4 {u : Con} (h : u.1 = 4) : conE u = [4] ++ u64n u.2.1 8 := by rw [conE, if_pos h, h]; rfl
theorem con5 {u : Con} (h : u.1 = 5) : conE u = [5] ++ u64n (wrap64 u.2.2.1) 8 := by rw [conE, if_neg (by omega), if_pos h, h]; rfl
theorem con6 {u : Con} (h : u.1 = 6) : conE u = [6] ++ (u64n u.2.2.2.size 4 ++ txL u.2.2.2) := by rw [conE, if_neg (by omega), if_neg (by omega), h]; rfl
theorem con_kind {u : Con} (h : conW u) : u.1 = 4 ∨ u.1 = 5 ∨ u.1 = 6 := by
  rcases h.1 with ⟨h, _⟩ | ⟨h, _⟩ | ⟨h, _⟩ <;> omega
/-- The first byte tells the kind. -/
theorem con_head {u : Con} {x : Int} {r r' : List Int} (h : conW u) (hx : 0 ≤ x ∧ x ≤ 255) (e : u64n x 1 ++ r = conE u ++ r') : u.1 = x := by
  rw [u1_one hx.1 hx.2] at e
  rcases con_kind h with k | k | k
  · rw [con4 k] at e; have := (List.cons.inj e).1; omega
  · rw [con5 k] at e; have := (List.cons.inj e).1; omega
  · rw [con6 k] at e; have := (List.cons.inj e).1; omega
theorem con_tail {u : Con} {x : Int} {r r' T : List Int} (hx : 0 ≤ x ∧ x ≤ 255) (hE : conE u = [x] ++ T) (e : u64n x 1 ++ r = conE u ++ r') : r = T ++ r' := by
  rw [u1_one hx.1 hx.2, hE, List.append_assoc] at e
  exact (List.cons.inj e).2

set_option maxHeartbeats 3200000 in
set_option maxRecDepth 100000 in
theorem constant_p (R : Nat) (l : List Int) (w : World) (hl20 : l.length ≤ 1048576) (h : RdP w R l) :
    Calls Tryd.prog 53 #[.pointer (some ⟨R, 0, none⟩)] w fun e w' => Pars conE conW conX R l w e w' := by
  have hR := h.lt
  have hb0 := b_1 w (.cells #[.int .i64 0, .int .i64 0, .int .u64 0, .string ⟨#[]⟩] 59)
  have HK := hide (Keeps.of hb0 (Nat.le_refl _) (fun b => b = R))
  have HR := hide (h.keep (S := fun _ => False) (Keeps.of hb0 (Nat.le_refl _) _) (fun _ x => x.elim))
  have HA := hide (RowF.mk' w 59 #[.int .i64 0, .int .i64 0, .int .u64 0, .string ⟨#[]⟩])
  have HBy := hide h.2.1
  clear h hb0
  go_enter Tryd.func53, Tryd.ntmps53
  go_wp2_with fail
  generalize w.alloc (.cells #[.int .i64 0, .int .i64 0, .int .u64 0, .string ⟨#[]⟩] 59) = w0 at *
  refine (num_p R 1 l w0 (by omega) HR.out).mono ?_
  rintro e w1 ⟨hk, ⟨x, r, hx, hl, rfl, hr⟩ | ⟨hno, rfl⟩⟩
  case inr =>
    refine ⟨rfl, HK.out.trans hk, .inr ⟨fun u r' hu e => ?_, rfl⟩⟩
    have hkk := con_kind hu
    refine hno u.1 ((if u.1 = 4 then u64n u.2.1 8 else if u.1 = 5 then u64n (wrap64 u.2.2.1) 8 else u64n u.2.2.2.size 4 ++ txL u.2.2.2) ++ r') (rng1.2 (by omega)) ?_
    rw [e, conE, u8_small (by omega) (by omega), List.append_assoc]
    show _ = u64n u.1 1 ++ _
    rw [u1_one (by omega) (by omega)]
  rw [rng1] at hx
  have hg : R < w1.heap.size := by have := hr.lt; omega
  have hg2 : w.heap.size < w1.heap.size := Nat.lt_of_lt_of_le HA.out.lt hk.size
  have hb1 := b_1 w1 (.cells #[.int .i64 x, .int .i64 0, .int .u64 0, .string ⟨#[]⟩] 59)
  have hkb := Keeps.of hb1 (Nat.le_refl _) (fun b => b = R)
  have HA := hide ((HA.out.keep hk (by omega)).keep hkb (by omega))
  have HB := hide (RowF.mk' w1 59 #[.int .i64 x, .int .i64 0, .int .u64 0, .string ⟨#[]⟩])
  have HK := hide ((HK.out.trans hk).trans hkb)
  have HR := hide (hr.keep (S := fun _ => False) (Keeps.of hb1 (Nat.le_refl _) _) (fun _ x => x.elim))
  have HL := hide hl
  clear hk hl hr hb1 hkb
  have hsz : ∀ {u : Con} {r' : List Int}, True := fun {_ _} => trivial
  clear hsz
  by_cases x4 : x = 4
  · subst x4
    go_wp2_with fail
    generalize w1.alloc (.cells #[.int .i64 4, .int .i64 0, .int .u64 0, .string ⟨#[]⟩] 59) = wa at *
    refine (num_p R 8 r wa (by omega) HR.out).mono ?_
    rintro e wb ⟨hk, ⟨n, r2, hn, hl, rfl, hr⟩ | ⟨hno, rfl⟩⟩
    case inr =>
      refine ⟨rfl, HK.out.trans hk, .inr ⟨fun u r' hu e => ?_, rfl⟩⟩
      have e1 := HL.out.symm.trans e
      have k4 := con_head hu (by omega) e1
      exact hno u.2.1 r' (rng8.2 hu.2.1) (con_tail (by omega) (con4 k4) e1)
    have HA := hide (HA.out.keep hk (by omega))
    have HB := hide (HB.out.keep hk (by omega))
    have HK := hide (HK.out.trans hk)
    have HR := hide hr
    have HLn := hide hl
    clear hk hl hr
    rw [rng8] at hn
    have c0 : wb.cell? ⟨w1.heap.size, 0, none⟩ = some (.int .i64 4) := HB.out.cell (j := 0) (by simp)
    have c1 : wb.cell? ⟨w1.heap.size, 1, none⟩ = some (.int .i64 0) := HB.out.cell (j := 1) (by simp)
    have c2 : wb.cell? ⟨w1.heap.size, 2, none⟩ = some (.int .u64 0) := HB.out.cell (j := 2) (by simp)
    have c3 : wb.cell? ⟨w1.heap.size, 3, none⟩ = some (.string ⟨#[]⟩) := HB.out.cell (j := 3) (by simp)
    have zj := HB.out.frz 1
    have HB := hide (HB.out.set (j := 1) (by simp) (.int .i64 n))
    have HA := hide (HA.out.other (g' := w1.heap.size) (j := 1) (x := .int .i64 n) (by omega))
    have HK := hide (HK.out.new (g := w1.heap.size) (j := 1) (by omega) (.int .i64 n))
    have HR := hide (HR.out.set (g := w1.heap.size) (j := 1) (by omega) (.int .i64 n))
    go_wp2_with fail
    clear c0 c1 c2 c3
    refine (constHasPlace_any 4 n 0 ⟨#[]⟩ _ (by omega) (by omega) (by simp [ByteArray.size])).mono ?_
    rintro e wF ⟨q, rfl, hq, hbF⟩
    have hkF := Keeps.of hbF (Nat.le_refl _) (fun b => b = R)
    have HA := hide (HA.out.low hbF HA.out.lt)
    have HB := hide (HB.out.low hbF HB.out.lt)
    have HK := hide (HK.out.trans hkF)
    have HR := hide (HR.out.keep (S := fun _ => False) (Keeps.of hbF (Nat.le_refl _) _) (fun _ x => x.elim))
    clear hkF hbF
    rcases hq with ⟨rfl, hq⟩ | ⟨rfl, hq⟩
    · have HQ := hide hq
      clear hq
      go_wp2_with fail
      refine (require_any _ _ _).mono ?_
      rintro e w8 ⟨hw, ⟨-, rfl⟩ | ⟨hq, -⟩⟩
      case inr => cases hq
      obtain rfl := hw.symm
      have c0 : wF.cell? ⟨w1.heap.size, 0, none⟩ = some (.int .i64 4) := HB.out.cell (j := 0) (by simp)
      have c1 : wF.cell? ⟨w1.heap.size, 1, none⟩ = some (.int .i64 n) := HB.out.cell (j := 1) (by simp)
      have c2 : wF.cell? ⟨w1.heap.size, 2, none⟩ = some (.int .u64 0) := HB.out.cell (j := 2) (by simp)
      have c3 : wF.cell? ⟨w1.heap.size, 3, none⟩ = some (.string ⟨#[]⟩) := HB.out.cell (j := 3) (by simp)
      have a0 : wF.cell? ⟨w.heap.size, 0, none⟩ = some (.int .i64 0) := HA.out.cell (j := 0) (by simp)
      have f0 := HA.out.frz 0
      have a1 : wF.cell? ⟨w.heap.size, 1, none⟩ = some (.int .i64 0) := HA.out.cell (j := 1) (by simp)
      have f1 := HA.out.frz 1
      have a2 : wF.cell? ⟨w.heap.size, 2, none⟩ = some (.int .u64 0) := HA.out.cell (j := 2) (by simp)
      have f2 := HA.out.frz 2
      have a3 : wF.cell? ⟨w.heap.size, 3, none⟩ = some (.string ⟨#[]⟩) := HA.out.cell (j := 3) (by simp)
      have f3 := HA.out.frz 3
      have HKE := hide ((((HK.out.new (g := w.heap.size) (j := 0) (by omega) (.int .i64 4)).new (g := w.heap.size) (j := 1) (by omega) (.int .i64 n)).new (g := w.heap.size) (j := 2) (by omega) (.int .u64 0)).new (g := w.heap.size) (j := 3) (by omega) (.string ⟨#[]⟩))
      have HRE := hide ((((HR.out.set (g := w.heap.size) (j := 0) (by omega) (.int .i64 4)).set (g := w.heap.size) (j := 1) (by omega) (.int .i64 n)).set (g := w.heap.size) (j := 2) (by omega) (.int .u64 0)).set (g := w.heap.size) (j := 3) (by omega) (.string ⟨#[]⟩))
      go_wp2_with fail
      refine bodyPost_ret (v := .agg #[.int .i64 4, .int .i64 n, .int .u64 0, .string ⟨#[]⟩]) ?_ rfl ⟨HKE.out, .inl ⟨(4, n, 0, ⟨#[]⟩), r2, ⟨HQ.out, hn, zu64⟩, ?_, rfl, HRE.out⟩⟩
      · simp [results, Tryd.results53, go_sem, a0, a1, a2, a3]
      · rw [HL.out, HLn.out, con4 rfl, u1_one (by omega) (by omega), List.append_assoc]
    · have HQ := hide hq
      clear hq
      go_wp2_with fail
      refine (require_any _ _ _).mono ?_
      rintro e w8 ⟨hw, ⟨hq, -⟩ | ⟨-, rfl⟩⟩
      case inl => cases hq
      subst hw
      refine ⟨rfl, HK.out, .inr ⟨fun u r' hu e => ?_, rfl⟩⟩
      exact absurd (.inl ⟨rfl, rfl, emptyL⟩) HQ.out
  by_cases x5 : x = 5
  · subst x5
    go_wp2_with fail
    generalize w1.alloc (.cells #[.int .i64 5, .int .i64 0, .int .u64 0, .string ⟨#[]⟩] 59) = wa at *
    refine (num_p R 8 r wa (by omega) HR.out).mono ?_
    rintro e wb ⟨hk, ⟨n, r2, hn, hl, rfl, hr⟩ | ⟨hno, rfl⟩⟩
    case inr =>
      refine ⟨rfl, HK.out.trans hk, .inr ⟨fun u r' hu e => ?_, rfl⟩⟩
      have e1 := HL.out.symm.trans e
      have k5 := con_head hu (by omega) e1
      exact hno (wrap64 u.2.2.1) r' (rng8.2 (by unfold wrap64; omega)) (con_tail (by omega) (con5 k5) e1)
    have HA := hide (HA.out.keep hk (by omega))
    have HB := hide (HB.out.keep hk (by omega))
    have HK := hide (HK.out.trans hk)
    have HR := hide hr
    have HLn := hide hl
    clear hk hl hr
    rw [rng8] at hn
    obtain ⟨m, hm⟩ : ∃ m, m = IntKind.u64.wrap n := ⟨_, rfl⟩
    have hmr : 0 ≤ m ∧ m < 18446744073709551616 := by rw [hm, IntKind.wrap_u64]; omega
    have hmw : wrap64 m = n := by rw [hm, IntKind.wrap_u64]; unfold wrap64; omega
    have HMw := hide hmw
    have HMr := hide hmr
    clear hmw hmr
    have c0 : wb.cell? ⟨w1.heap.size, 0, none⟩ = some (.int .i64 5) := HB.out.cell (j := 0) (by simp)
    have c1 : wb.cell? ⟨w1.heap.size, 1, none⟩ = some (.int .i64 0) := HB.out.cell (j := 1) (by simp)
    have c2 : wb.cell? ⟨w1.heap.size, 2, none⟩ = some (.int .u64 0) := HB.out.cell (j := 2) (by simp)
    have c3 : wb.cell? ⟨w1.heap.size, 3, none⟩ = some (.string ⟨#[]⟩) := HB.out.cell (j := 3) (by simp)
    have zj := HB.out.frz 2
    have HB := hide (HB.out.set (j := 2) (by simp) (.int .u64 (IntKind.u64.wrap n)))
    have HA := hide (HA.out.other (g' := w1.heap.size) (j := 2) (x := .int .u64 (IntKind.u64.wrap n)) (by omega))
    have HK := hide (HK.out.new (g := w1.heap.size) (j := 2) (by omega) (.int .u64 (IntKind.u64.wrap n)))
    have HR := hide (HR.out.set (g := w1.heap.size) (j := 2) (by omega) (.int .u64 (IntKind.u64.wrap n)))
    go_wp2_with fail
    clear c0 c1 c2 c3
    refine (constHasPlace_any 5 0 (IntKind.u64.wrap n) ⟨#[]⟩ _ (by rw [← hm]; exact HMr.out.1) (by rw [← hm]; exact HMr.out.2) (by simp [ByteArray.size])).mono ?_
    rintro e wF ⟨q, rfl, hq, hbF⟩
    have hkF := Keeps.of hbF (Nat.le_refl _) (fun b => b = R)
    have HA := hide (HA.out.low hbF HA.out.lt)
    have HB := hide (HB.out.low hbF HB.out.lt)
    have HK := hide (HK.out.trans hkF)
    have HR := hide (HR.out.keep (S := fun _ => False) (Keeps.of hbF (Nat.le_refl _) _) (fun _ x => x.elim))
    clear hkF hbF
    rcases hq with ⟨rfl, hq⟩ | ⟨rfl, hq⟩
    · have HQ := hide hq
      clear hq
      go_wp2_with fail
      refine (require_any _ _ _).mono ?_
      rintro e w8 ⟨hw, ⟨-, rfl⟩ | ⟨hq, -⟩⟩
      case inr => cases hq
      obtain rfl := hw.symm
      have c0 : wF.cell? ⟨w1.heap.size, 0, none⟩ = some (.int .i64 5) := HB.out.cell (j := 0) (by simp)
      have c1 : wF.cell? ⟨w1.heap.size, 1, none⟩ = some (.int .i64 0) := HB.out.cell (j := 1) (by simp)
      have c2 : wF.cell? ⟨w1.heap.size, 2, none⟩ = some (.int .u64 (IntKind.u64.wrap n)) := HB.out.cell (j := 2) (by simp)
      have c3 : wF.cell? ⟨w1.heap.size, 3, none⟩ = some (.string ⟨#[]⟩) := HB.out.cell (j := 3) (by simp)
      have a0 : wF.cell? ⟨w.heap.size, 0, none⟩ = some (.int .i64 0) := HA.out.cell (j := 0) (by simp)
      have f0 := HA.out.frz 0
      have a1 : wF.cell? ⟨w.heap.size, 1, none⟩ = some (.int .i64 0) := HA.out.cell (j := 1) (by simp)
      have f1 := HA.out.frz 1
      have a2 : wF.cell? ⟨w.heap.size, 2, none⟩ = some (.int .u64 0) := HA.out.cell (j := 2) (by simp)
      have f2 := HA.out.frz 2
      have a3 : wF.cell? ⟨w.heap.size, 3, none⟩ = some (.string ⟨#[]⟩) := HA.out.cell (j := 3) (by simp)
      have f3 := HA.out.frz 3
      have HKE := hide ((((HK.out.new (g := w.heap.size) (j := 0) (by omega) (.int .i64 5)).new (g := w.heap.size) (j := 1) (by omega) (.int .i64 0)).new (g := w.heap.size) (j := 2) (by omega) (.int .u64 (IntKind.u64.wrap n))).new (g := w.heap.size) (j := 3) (by omega) (.string ⟨#[]⟩))
      have HRE := hide ((((HR.out.set (g := w.heap.size) (j := 0) (by omega) (.int .i64 5)).set (g := w.heap.size) (j := 1) (by omega) (.int .i64 0)).set (g := w.heap.size) (j := 2) (by omega) (.int .u64 (IntKind.u64.wrap n))).set (g := w.heap.size) (j := 3) (by omega) (.string ⟨#[]⟩))
      go_wp2_with fail
      refine bodyPost_ret (v := .agg #[.int .i64 5, .int .i64 0, .int .u64 (IntKind.u64.wrap n), .string ⟨#[]⟩]) ?_ rfl ⟨HKE.out, .inl ⟨(5, 0, (IntKind.u64.wrap n), ⟨#[]⟩), r2, ⟨HQ.out, z64, by rw [← hm]; exact HMr.out⟩, ?_, rfl, HRE.out⟩⟩
      · simp [results, Tryd.results53, go_sem, a0, a1, a2, a3]
      · rw [HL.out, HLn.out, con5 rfl, u1_one (by omega) (by omega), List.append_assoc, ← hm, HMw.out]
    · have HQ := hide hq
      clear hq
      go_wp2_with fail
      refine (require_any _ _ _).mono ?_
      rintro e w8 ⟨hw, ⟨hq, -⟩ | ⟨-, rfl⟩⟩
      case inl => cases hq
      subst hw
      refine ⟨rfl, HK.out, .inr ⟨fun u r' hu e => ?_, rfl⟩⟩
      have e1 := HL.out.symm.trans e
      have k5 := con_head hu (by omega) e1
      have e2 := con_tail (by omega) (con5 k5) e1
      rw [HLn.out] at e2
      have e3 : u64n (wrap64 m) 8 = u64n (wrap64 u.2.2.1) 8 := by rw [HMw.out]; exact (fld e2).1
      have e4 := b8_inj e3 HMr.out hu.2.2
      refine HQ.out ?_
      rw [← hm, e4]
      rcases hu.1 with ⟨k, _⟩ | ⟨_, _, _, k⟩ | ⟨k, _⟩
      · omega
      · exact .inr (.inl ⟨rfl, rfl, emptyL, k⟩)
      · omega
  by_cases x6 : x = 6
  · subst x6
    go_wp2_with fail
    generalize w1.alloc (.cells #[.int .i64 6, .int .i64 0, .int .u64 0, .string ⟨#[]⟩] 59) = wa at *
    refine (num_p R 4 r wa (by omega) HR.out).mono ?_
    rintro e wb ⟨hk, ⟨n, r2, hn, hl, rfl, hr⟩ | ⟨hno, rfl⟩⟩
    case inr =>
      refine ⟨rfl, HK.out.trans hk, .inr ⟨fun u r' hu e => ?_, rfl⟩⟩
      have e1 := HL.out.symm.trans e
      have k6 := con_head hu (by omega) e1
      have hz := con_size hu k6
      exact hno u.2.2.2.size (txL u.2.2.2 ++ r') (rng4.2 (by omega)) ((con_tail (by omega) (con6 k6) e1).trans (List.append_assoc _ _ _))
    have HA := hide (HA.out.keep hk (by omega))
    have HB := hide (HB.out.keep hk (by omega))
    have HK := hide (HK.out.trans hk)
    have HR := hide hr
    have HLn := hide hl
    clear hk hl hr
    rw [rng4] at hn
    obtain ⟨m, rfl⟩ : ∃ m : Nat, n = (m : Int) := ⟨n.toNat, by omega⟩
    go_wp2_with fail
    have HBr := hide HR.out.2.1
    refine (take_any R m r2 wb (by omega) HR.out).mono ?_
    rintro e wt ⟨hk, ⟨hle, v', rfl, hs, hr⟩ | ⟨hlt, rfl⟩⟩
    case inr =>
      refine ⟨rfl, HK.out.trans hk, .inr ⟨fun u r' hu e => ?_, rfl⟩⟩
      have e1 := HL.out.symm.trans e
      have k6 := con_head hu (by omega) e1
      have hz := con_size hu k6
      have e2 := (con_tail (by omega) (con6 k6) e1).trans (List.append_assoc _ _ _)
      rw [HLn.out] at e2
      have e3 := fld e2
      have e4 := n4_eq e3.1 hn (by omega)
      have e5 := congrArg List.length e3.2
      rw [List.length_append, txL_len] at e5
      omega
    have HA := hide (HA.out.keep hk (by omega))
    have HB := hide (HB.out.keep hk (by omega))
    have HK := hide (HK.out.trans hk)
    have HR := hide hr
    have hcv := conv_sl hs
    have HTk : Hid (r2 = r2.take m ++ r2.drop m) := hide (List.take_append_drop m r2).symm
    have HBt : Hid (BytesL (r2.take m)) := hide (fun x hx => HBr.out x (List.mem_of_mem_take hx))
    have htl : (r2.take m).length = m := by rw [List.length_take]; omega
    generalize r2.take m = t0 at *
    clear hk hr hs
    have c0 : wt.cell? ⟨w1.heap.size, 0, none⟩ = some (.int .i64 6) := HB.out.cell (j := 0) (by simp)
    have c1 : wt.cell? ⟨w1.heap.size, 1, none⟩ = some (.int .i64 0) := HB.out.cell (j := 1) (by simp)
    have c2 : wt.cell? ⟨w1.heap.size, 2, none⟩ = some (.int .u64 0) := HB.out.cell (j := 2) (by simp)
    have c3 : wt.cell? ⟨w1.heap.size, 3, none⟩ = some (.string ⟨#[]⟩) := HB.out.cell (j := 3) (by simp)
    have zj := HB.out.frz 3
    have HB := hide (HB.out.set (j := 3) (by simp) (.string (bsL t0)))
    have HA := hide (HA.out.other (g' := w1.heap.size) (j := 3) (x := .string (bsL t0)) (by omega))
    have HK := hide (HK.out.new (g := w1.heap.size) (j := 3) (by omega) (.string (bsL t0)))
    have HR := hide (HR.out.set (g := w1.heap.size) (j := 3) (by omega) (.string (bsL t0)))
    have hlen : t0.length ≤ 1048576 := by
      have e5 := congrArg List.length HL.out
      have e6 := congrArg List.length HLn.out
      have e7 := congrArg List.length HTk.out
      rw [List.length_append] at e5 e6 e7
      omega
    go_wp2_with fail
    clear c0 c1 c2 c3 hcv
    refine (constHasPlace_any 6 0 0 (bsL t0) _ (by omega) (by omega) (by rw [bsL_size]; exact hlen)).mono ?_
    rintro e wF ⟨q, rfl, hq, hbF⟩
    have hkF := Keeps.of hbF (Nat.le_refl _) (fun b => b = R)
    have HA := hide (HA.out.low hbF HA.out.lt)
    have HB := hide (HB.out.low hbF HB.out.lt)
    have HK := hide (HK.out.trans hkF)
    have HR := hide (HR.out.keep (S := fun _ => False) (Keeps.of hbF (Nat.le_refl _) _) (fun _ x => x.elim))
    clear hkF hbF
    rcases hq with ⟨rfl, hq⟩ | ⟨rfl, hq⟩
    · have HQ := hide hq
      clear hq
      go_wp2_with fail
      refine (require_any _ _ _).mono ?_
      rintro e w8 ⟨hw, ⟨-, rfl⟩ | ⟨hq, -⟩⟩
      case inr => cases hq
      obtain rfl := hw.symm
      have c0 : wF.cell? ⟨w1.heap.size, 0, none⟩ = some (.int .i64 6) := HB.out.cell (j := 0) (by simp)
      have c1 : wF.cell? ⟨w1.heap.size, 1, none⟩ = some (.int .i64 0) := HB.out.cell (j := 1) (by simp)
      have c2 : wF.cell? ⟨w1.heap.size, 2, none⟩ = some (.int .u64 0) := HB.out.cell (j := 2) (by simp)
      have c3 : wF.cell? ⟨w1.heap.size, 3, none⟩ = some (.string (bsL t0)) := HB.out.cell (j := 3) (by simp)
      have a0 : wF.cell? ⟨w.heap.size, 0, none⟩ = some (.int .i64 0) := HA.out.cell (j := 0) (by simp)
      have f0 := HA.out.frz 0
      have a1 : wF.cell? ⟨w.heap.size, 1, none⟩ = some (.int .i64 0) := HA.out.cell (j := 1) (by simp)
      have f1 := HA.out.frz 1
      have a2 : wF.cell? ⟨w.heap.size, 2, none⟩ = some (.int .u64 0) := HA.out.cell (j := 2) (by simp)
      have f2 := HA.out.frz 2
      have a3 : wF.cell? ⟨w.heap.size, 3, none⟩ = some (.string ⟨#[]⟩) := HA.out.cell (j := 3) (by simp)
      have f3 := HA.out.frz 3
      have HKE := hide ((((HK.out.new (g := w.heap.size) (j := 0) (by omega) (.int .i64 6)).new (g := w.heap.size) (j := 1) (by omega) (.int .i64 0)).new (g := w.heap.size) (j := 2) (by omega) (.int .u64 0)).new (g := w.heap.size) (j := 3) (by omega) (.string (bsL t0)))
      have HRE := hide ((((HR.out.set (g := w.heap.size) (j := 0) (by omega) (.int .i64 6)).set (g := w.heap.size) (j := 1) (by omega) (.int .i64 0)).set (g := w.heap.size) (j := 2) (by omega) (.int .u64 0)).set (g := w.heap.size) (j := 3) (by omega) (.string (bsL t0)))
      go_wp2_with fail
      refine bodyPost_ret (v := .agg #[.int .i64 6, .int .i64 0, .int .u64 0, .string (bsL t0)]) ?_ rfl ⟨HKE.out, .inl ⟨(6, 0, 0, (bsL t0)), (r2.drop m), ⟨HQ.out, z64, zu64⟩, ?_, rfl, HRE.out⟩⟩
      · simp [results, Tryd.results53, go_sem, a0, a1, a2, a3]
      · (rw [HL.out, HLn.out, con6 rfl, u1_one (by omega) (by omega)]; show _ = [6] ++ (u64n ((bsL t0).size : Int) 4 ++ txL (bsL t0)) ++ r2.drop m; rw [bsL_size, htl, txL_bsL HBt.out, List.append_assoc, List.append_assoc, ← HTk.out])
    · have HQ := hide hq
      clear hq
      go_wp2_with fail
      refine (require_any _ _ _).mono ?_
      rintro e w8 ⟨hw, ⟨hq, -⟩ | ⟨-, rfl⟩⟩
      case inl => cases hq
      subst hw
      refine ⟨rfl, HK.out, .inr ⟨fun u r' hu e => ?_, rfl⟩⟩
      have e1 := HL.out.symm.trans e
      have k6 := con_head hu (by omega) e1
      have hz := con_size hu k6
      have e2 := (con_tail (by omega) (con6 k6) e1).trans (List.append_assoc _ _ _)
      rw [HLn.out] at e2
      have e4 := n4_eq (fld e2).1 hn (by omega)
      refine HQ.out (.inr (.inr ⟨rfl, rfl, rfl, ?_⟩))
      rw [bsL_size]
      omega
  · have HN : Hid (¬ constOk x 0 0 ⟨#[]⟩) := hide (fun q => by rcases q with ⟨q, _⟩ | ⟨q, _⟩ | ⟨q, _⟩ <;> omega)
    go_wp2_with fail
    refine (constHasPlace_any x 0 0 ⟨#[]⟩ _ (by omega) (by omega) (by simp [ByteArray.size])).mono ?_
    rintro e wF ⟨q, rfl, hq, hbF⟩
    have HK := hide (HK.out.trans (Keeps.of hbF (Nat.le_refl _) (fun b => b = R)))
    clear hbF
    rcases hq with ⟨rfl, hq⟩ | ⟨rfl, hq⟩
    · exact absurd hq HN.out
    · clear hq
      go_wp2_with fail
      refine (require_any _ _ _).mono ?_
      rintro e w8 ⟨hw, ⟨hq, -⟩ | ⟨-, rfl⟩⟩
      case inl => cases hq
      subst hw
      refine ⟨rfl, HK.out, .inr ⟨fun u r' hu e => ?_, rfl⟩⟩
      have k := con_head hu (by omega) (HL.out.symm.trans e)
      have := con_kind hu
      omega

end Go.Proofs.YtcpeabchaimkaaaDoor
