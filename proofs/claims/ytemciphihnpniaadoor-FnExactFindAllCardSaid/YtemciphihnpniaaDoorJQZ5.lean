import Derived.Test.YtemciphihnpniaaDoorPR
import Derived.Test.YtemciphihnpniaaDoorPP
import Derived.Test.YtemciphihnpniaaDoorJQZ4
import Derived.Test.YtemciphihnpniaaDoorJQG
namespace Go.Proofs.YtemciphihnpniaaDoor
open Go Go.RowKit
set_option linter.unusedVariables false

/-- What looking at subject and pattern comes to. -/
def ChR (s p : ByteArray) (w : World) (e : Ending) (w' : World) : Prop :=
  Below w.heap.size w w' ∧ ((65536 < s.size ∧ e = .returned (.tuple #[.pointer none, .int .i64 1])) ∨ (s.size ≤ 65536 ∧ rdPat p = none ∧ e = .returned (.tuple #[.pointer none, .int .i64 2])) ∨
    ∃ t us vi vp M, s.size ≤ 65536 ∧ rdPat p = some t ∧ e = .returned (.tuple #[.pointer (some ⟨M, 0, none⟩), .int .i64 0]) ∧ w.heap.size ≤ M ∧ MB w' M s t us vi vp 0 ∧ ItsOk t us ∧ us.map Prod.fst = t.items)
set_option maxHeartbeats 1600000 in
set_option maxRecDepth 100000 in
theorem check_any (s p : ByteArray) (w : World) (hs : s.size ≤ 1048576) (hp : p.size ≤ 1048576) :
    Calls Tryd.prog 15 #[.string s, .string p] w fun e w' => ChR s p w e w' := by
  by_cases hbig : s.size ≤ 65536
  · have hb2 : ¬ ((65536 : Int) < (s.size : Int)) := by omega
    go_enter Tryd.func15, Tryd.ntmps15
    go_wp2_with fail
    refine (read_any p w hp).mono ?_
    rintro e w1 ⟨hb1, ⟨hr, rfl⟩ | ⟨t, us, a1, c1, a2, c2, hr, rfl, hit, hl, hi, hpp, hss⟩⟩
    · have HB := hide ((hb1.alloc hb1.size (.cells #[nilS, nilS, .bool false] 56)))
      have HR := hide hr
      clear hb1 hr
      go_wp2_with fail
      refine bodyPost_ret (v := .tuple #[.pointer none, .int .i64 2]) ?_ rfl ⟨HB.out, .inr (.inl ⟨hbig, HR.out, rfl⟩)⟩
      simp [results, Tryd.results15, go_sem]
    · have hw := rdPat_wf hr
      have HO := hide (show ItsOk t us from ⟨by rw [hit]; exact hw.1, hw.2.1, hl, by rw [hit]; exact hw.2.2⟩)
      have k1 : Keeps w1 (w1.alloc (.cells #[.slice a1 us.length c1, .slice a2 t.caps c2, .bool t.start] 56)) (fun _ => False) := Keeps.of (b_1 w1 _) (Nat.le_refl _) _
      have k2 : Keeps w1 ((w1.alloc (.cells #[.slice a1 us.length c1, .slice a2 t.caps c2, .bool t.start] 56)).alloc (.cells #[.string s, .slice a1 us.length c1, .slice a2 t.caps c2, .bool t.start, nilS, nilS, .int .i64 0] 61)) (fun _ => False) := Keeps.of (b_2 w1 _ _) (Nat.le_refl _) _
      have HMB := hide (show MB ((w1.alloc (.cells #[.slice a1 us.length c1, .slice a2 t.caps c2, .bool t.start] 56)).alloc (.cells #[.string s, .slice a1 us.length c1, .slice a2 t.caps c2, .bool t.start, nilS, nilS, .int .i64 0] 61)) (w1.heap.size + 1) s t us (.slice a1 us.length c1) (.slice a2 t.caps c2) 0 from ⟨⟨none, 0, 0, none, 0, 0, by
        have h9 := RowF.mk' (w1.alloc (.cells #[.slice a1 us.length c1, .slice a2 t.caps c2, .bool t.start] 56)) 61 #[.string s, .slice a1 us.length c1, .slice a2 t.caps c2, .bool t.start, nilS, nilS, .int .i64 0]
        rw [show (w1.alloc (.cells #[.slice a1 us.length c1, .slice a2 t.caps c2, .bool t.start] 56)).heap.size = w1.heap.size + 1 by simp] at h9
        refine h9.congr fun j hj => ?_
        have hj7 : j < 7 := by simpa using hj
        clear hj
        rcases j with _ | _ | _ | _ | _ | _ | _ | j
        all_goals simp [mcells]
        all_goals omega⟩, hi.keep k2 (fun _ _ x => x), hpp.keep k2 (fun _ _ x => x), fun u hu => (hss u hu).keep k2 (fun _ _ x => x)⟩)
      have HB := hide (show Below w.heap.size w ((w1.alloc (.cells #[.slice a1 us.length c1, .slice a2 t.caps c2, .bool t.start] 56)).alloc (.cells #[.string s, .slice a1 us.length c1, .slice a2 t.caps c2, .bool t.start, nilS, nilS, .int .i64 0] 61)) from hb1.trans ((b_2 w1 _ _).mono hb1.size))
      have hM : w.heap.size ≤ w1.heap.size + 1 := by have := hb1.size; omega
      have HR := hide hr
      have HIT := hide hit
      clear hb1 hr hit hi hpp hss hw k1 k2
      go_wp2_with fail
      refine bodyPost_ret (v := .tuple #[.pointer (some ⟨w1.heap.size + 1, 0, none⟩), .int .i64 0]) ?_ rfl ⟨HB.out, .inr (.inr ⟨t, us, _, _, w1.heap.size + 1, hbig, HR.out, rfl, hM, HMB.out, HO.out, HIT.out⟩)⟩
      simp [results, Tryd.results15, go_sem]
  · have hb2 : (65536 : Int) < (s.size : Int) := by omega
    go_enter Tryd.func15, Tryd.ntmps15
    go_wp2_with fail
    refine bodyPost_ret (v := .tuple #[.pointer none, .int .i64 1]) ?_ rfl ⟨Below.refl _ _, .inl ⟨by omega, rfl⟩⟩
    simp [results, Tryd.results15, go_sem]

/-- What Find is to answer: a match, or none, and the code. -/
def findM (s p : ByteArray) (init : Int) : Option Fd × Int :=
  if 65536 < s.size then (none, 1)
  else match rdPat p with
    | none => (none, 2)
    | some t => if init < 0 ∨ (s.size : Int) < init then (none, 3) else if 50000 < (srM s t (s.size + 1) init.toNat 0).2 then (none, 4) else ((srM s t (s.size + 1) init.toNat 0).1, 0)
def fd0 : Fd := ⟨0, 0, []⟩
/-- A match as a call hands it back, with whether there is one and the code. -/
def FoR (r : Option Fd × Int) (w : World) (e : Ending) (w' : World) : Prop :=
  Below w.heap.size w w' ∧ ∃ v, e = .returned (.tuple #[.agg #[.int .i64 (r.1.getD fd0).fr, .int .i64 (r.1.getD fd0).en, v], .bool r.1.isSome, .int .i64 r.2]) ∧ w'.ownsRow w.heap.size 64 3 v (r.1.getD fd0).caps.length (capC (r.1.getD fd0).caps)
theorem FoR.none {r : Option Fd × Int} {w w' : World} {c : Int} (hb : Below w.heap.size w w') (hr : r = (none, c)) : FoR r w (.returned (.tuple #[.agg #[.int .i64 0, .int .i64 0, nilS], .bool false, .int .i64 c])) w' := by
  subst hr
  exact ⟨hb, nilS, rfl, rfl, .inl ⟨rfl, rfl⟩⟩
set_option maxHeartbeats 3200000 in
set_option maxRecDepth 100000 in
theorem sfind_any (s p : ByteArray) (init : Int) (w : World) (hs : s.size ≤ 1048576) (hp : p.size ≤ 1048576) :
    Calls Tryd.prog 5 #[.string s, .string p, .int .i64 init] w fun e w' => FoR (findM s p init) w e w' := by
  have HZ0 := hide (show RowF (w.alloc (.cells #[Value.int .i64 0, .int .i64 0, nilS] 24)) 24 w.heap.size 3 (fun j => #[Value.int .i64 0, .int .i64 0, nilS].getD j (.bool false)) from RowF.mk' w 24 #[Value.int .i64 0, .int .i64 0, nilS])
  have HB0 := hide (b_1 w (.cells #[Value.int .i64 0, .int .i64 0, nilS] 24))
  go_enter Tryd.func5, Tryd.ntmps5
  go_wp2_with fail
  generalize w.alloc (.cells #[Value.int .i64 0, .int .i64 0, nilS] 24) = w0 at *
  have hs0 : w.heap.size < w0.heap.size := HZ0.out.lt
  refine (check_any s p w0 hs hp).mono ?_
  rintro e w1 ⟨hb1, ⟨h1, rfl⟩ | ⟨h1, h2, rfl⟩ | ⟨t, us, vi, vp, M, h1, h2, rfl, hM, hmb, hok, hit⟩⟩
  · have HR := hide (show findM s p init = (none, 1) by rw [findM, if_pos h1])
    have HZ := hide (HZ0.out.low hb1 hs0)
    have HB := hide (HB0.out.trans (hb1.mono (by omega)))
    clear HZ0 HB0 hb1
    have r0 := HZ.out.cell (j := 0) (by omega)
    have r1 := HZ.out.cell (j := 1) (by omega)
    have r2 := HZ.out.cell (j := 2) (by omega)
    have y0 := HZ.out.frz 0
    have y1 := HZ.out.frz 1
    have y2 := HZ.out.frz 2
    have HBf := hide (((HB.out.setCell (p := ⟨w.heap.size, 0, none⟩) (Nat.le_refl _) (.int .i64 0)).setCell (p := ⟨w.heap.size, 1, none⟩) (Nat.le_refl _) (.int .i64 0)).setCell (p := ⟨w.heap.size, 2, none⟩) (Nat.le_refl _) nilS)
    go_wp2_with fail
    refine bodyPost_ret (v := .tuple #[.agg #[.int .i64 0, .int .i64 0, nilS], .bool false, .int .i64 1]) ?_ rfl (FoR.none HBf.out HR.out)
    simp [results, Tryd.results5, go_sem, r0, r1, r2]
  · have HR := hide (show findM s p init = (none, 2) by rw [findM, if_neg (by omega), h2])
    have HZ := hide (HZ0.out.low hb1 hs0)
    have HB := hide (HB0.out.trans (hb1.mono (by omega)))
    clear HZ0 HB0 hb1 h2
    have r0 := HZ.out.cell (j := 0) (by omega)
    have r1 := HZ.out.cell (j := 1) (by omega)
    have r2 := HZ.out.cell (j := 2) (by omega)
    have y0 := HZ.out.frz 0
    have y1 := HZ.out.frz 1
    have y2 := HZ.out.frz 2
    have HBf := hide (((HB.out.setCell (p := ⟨w.heap.size, 0, none⟩) (Nat.le_refl _) (.int .i64 0)).setCell (p := ⟨w.heap.size, 1, none⟩) (Nat.le_refl _) (.int .i64 0)).setCell (p := ⟨w.heap.size, 2, none⟩) (Nat.le_refl _) nilS)
    go_wp2_with fail
    refine bodyPost_ret (v := .tuple #[.agg #[.int .i64 0, .int .i64 0, nilS], .bool false, .int .i64 2]) ?_ rfl (FoR.none HBf.out HR.out)
    simp [results, Tryd.results5, go_sem, r0, r1, r2]
  · have HF := hide (show findM s p init = if init < 0 ∨ (s.size : Int) < init then (none, 3) else if 50000 < (srM s t (s.size + 1) init.toNat 0).2 then (none, 4) else ((srM s t (s.size + 1) init.toNat 0).1, 0) by rw [findM, if_neg (by omega), h2])
    have HZ := hide (HZ0.out.low hb1 hs0)
    have HB := hide (HB0.out.trans (hb1.mono (by omega)))
    have HMB := hide hmb
    have HOK := hide hok
    have HIT := hide hit
    have hs1 : w.heap.size < w1.heap.size := HZ.out.lt
    clear HZ0 HB0 hb1 h2 hmb hok hit
    by_cases hneg : init < 0
    · have HR := hide (HF.out.trans (if_pos (.inl hneg)))
      have r0 := HZ.out.cell (j := 0) (by omega)
      have r1 := HZ.out.cell (j := 1) (by omega)
      have r2 := HZ.out.cell (j := 2) (by omega)
      have y0 := HZ.out.frz 0
      have y1 := HZ.out.frz 1
      have y2 := HZ.out.frz 2
      have HBf := hide (((HB.out.setCell (p := ⟨w.heap.size, 0, none⟩) (Nat.le_refl _) (.int .i64 0)).setCell (p := ⟨w.heap.size, 1, none⟩) (Nat.le_refl _) (.int .i64 0)).setCell (p := ⟨w.heap.size, 2, none⟩) (Nat.le_refl _) nilS)
      go_wp2_with fail
      refine bodyPost_ret (v := .tuple #[.agg #[.int .i64 0, .int .i64 0, nilS], .bool false, .int .i64 3]) ?_ rfl (FoR.none HBf.out HR.out)
      simp [results, Tryd.results5, go_sem, r0, r1, r2]
    · by_cases hbig : (s.size : Int) < init
      · have HR := hide (HF.out.trans (if_pos (.inr hbig)))
        have r0 := HZ.out.cell (j := 0) (by omega)
        have r1 := HZ.out.cell (j := 1) (by omega)
        have r2 := HZ.out.cell (j := 2) (by omega)
        have y0 := HZ.out.frz 0
        have y1 := HZ.out.frz 1
        have y2 := HZ.out.frz 2
        have HBf := hide (((HB.out.setCell (p := ⟨w.heap.size, 0, none⟩) (Nat.le_refl _) (.int .i64 0)).setCell (p := ⟨w.heap.size, 1, none⟩) (Nat.le_refl _) (.int .i64 0)).setCell (p := ⟨w.heap.size, 2, none⟩) (Nat.le_refl _) nilS)
        go_wp2_with fail
        refine bodyPost_ret (v := .tuple #[.agg #[.int .i64 0, .int .i64 0, nilS], .bool false, .int .i64 3]) ?_ rfl (FoR.none HBf.out HR.out)
        simp [results, Tryd.results5, go_sem, r0, r1, r2]
      · have HF2 := hide (HF.out.trans (if_neg (by omega)))
        obtain ⟨i0, rfl⟩ := Int.eq_ofNat_of_zero_le (show 0 ≤ init by omega)
        rw [Int.toNat_natCast] at HF2
        clear HF
        go_wp2_with fail
        refine (search_any M s t us vi vp i0 0 w1 h1 HOK.out HIT.out (by omega) (by omega) HMB.out).mono ?_
        rintro e w2 ⟨hk2, hm2, hn2, hor⟩
        have hZ2 := HZ.out.keep hk2 (by omega)
        have hB2 : Below w.heap.size w w2 := HB.out.trans (hk2.below (by omega) (by omega))
        obtain ⟨a1, q1, d1, a2, q2, d2, hmm⟩ := hm2.m
        obtain ⟨r, hr⟩ : ∃ r, srM s t (s.size + 1) i0 0 = r := ⟨_, rfl⟩
        rw [hr] at hmm hn2 hor HF2
        clear hr HZ HB HMB
        obtain ⟨o, n2⟩ := r
        dsimp only at *
        rcases hor with ⟨rfl, rfl⟩ | ⟨f, v, rfl, rfl, hv⟩
        · have kb : Keeps w2 (w2.alloc (.cells #[Value.int .i64 0, .int .i64 0, nilS] 24)) (fun _ => False) := Keeps.of (b_1 w2 _) (Nat.le_refl _) _
          have HZ := hide (hZ2.keep kb (fun x => x))
          have HB := hide (hB2.alloc hB2.size (.cells #[Value.int .i64 0, .int .i64 0, nilS] 24))
          have HMM := hide (hmm.keep kb (fun x => x))
          have HX := hide (show RowF (w2.alloc (.cells #[Value.int .i64 0, .int .i64 0, nilS] 24)) 24 w2.heap.size 3 (fun j => #[Value.int .i64 0, .int .i64 0, nilS].getD j (.bool false)) from RowF.mk' w2 24 #[Value.int .i64 0, .int .i64 0, nilS])
          clear hZ2 hB2 hmm kb hk2 hm2
          go_wp2_with fail
          generalize w2.alloc (.cells #[Value.int .i64 0, .int .i64 0, nilS] 24) = w3 at *
          generalize w2.heap.size = X at *
          refine (spent_any M _ n2 w3 HMM.out rfl).mono ?_
          rintro e w4 ⟨rfl, hw⟩
          obtain rfl := hw.symm
          by_cases hsp : 50000 < n2
          · have hspb : decide (50000 < n2) = true := decide_eq_true hsp
            have HR := hide (HF2.out.trans (if_pos hsp))
            have r0 := HZ.out.cell (j := 0) (by omega)
            have r1 := HZ.out.cell (j := 1) (by omega)
            have r2 := HZ.out.cell (j := 2) (by omega)
            have y0 := HZ.out.frz 0
            have y1 := HZ.out.frz 1
            have y2 := HZ.out.frz 2
            have HBf := hide (((HB.out.setCell (p := ⟨w.heap.size, 0, none⟩) (Nat.le_refl _) (.int .i64 0)).setCell (p := ⟨w.heap.size, 1, none⟩) (Nat.le_refl _) (.int .i64 0)).setCell (p := ⟨w.heap.size, 2, none⟩) (Nat.le_refl _) nilS)
            go_wp2_with fail
            refine bodyPost_ret (v := .tuple #[.agg #[.int .i64 0, .int .i64 0, nilS], .bool false, .int .i64 4]) ?_ rfl (FoR.none HBf.out HR.out)
            simp [results, Tryd.results5, go_sem, r0, r1, r2]
          · have hspb : decide (50000 < n2) = false := decide_eq_false hsp
            have HR := hide (HF2.out.trans (if_neg hsp))
            have x0 : w3.cell? ⟨X, 0, none⟩ = some (.int .i64 0) := HX.out.cell (j := 0) (by omega)
            have x1 : w3.cell? ⟨X, 1, none⟩ = some (.int .i64 0) := HX.out.cell (j := 1) (by omega)
            have x2 : w3.cell? ⟨X, 2, none⟩ = some nilS := HX.out.cell (j := 2) (by omega)
            have r0 := HZ.out.cell (j := 0) (by omega)
            have r1 := HZ.out.cell (j := 1) (by omega)
            have r2 := HZ.out.cell (j := 2) (by omega)
            have y0 := HZ.out.frz 0
            have y1 := HZ.out.frz 1
            have y2 := HZ.out.frz 2
            have HBf := hide (((HB.out.setCell (p := ⟨w.heap.size, 0, none⟩) (Nat.le_refl _) (.int .i64 0)).setCell (p := ⟨w.heap.size, 1, none⟩) (Nat.le_refl _) (.int .i64 0)).setCell (p := ⟨w.heap.size, 2, none⟩) (Nat.le_refl _) nilS)
            go_wp2_with fail
            refine bodyPost_ret (v := .tuple #[.agg #[.int .i64 0, .int .i64 0, nilS], .bool false, .int .i64 0]) ?_ rfl (FoR.none HBf.out HR.out)
            simp [results, Tryd.results5, go_sem, r0, r1, r2]
        · obtain ⟨av, kv, rfl⟩ := owns_val hv
          have kb : Keeps w2 (w2.alloc (.cells #[.int .i64 f.fr, .int .i64 f.en, .slice av f.caps.length kv] 24)) (fun _ => False) := Keeps.of (b_1 w2 _) (Nat.le_refl _) _
          have HZ := hide (hZ2.keep kb (fun x => x))
          have HB := hide (hB2.alloc hB2.size (.cells #[.int .i64 f.fr, .int .i64 f.en, .slice av f.caps.length kv] 24))
          have HMM := hide (hmm.keep kb (fun x => x))
          have HV := hide (owns_keep hv kb (fun b hb => hb.elim))
          have HX := hide (show RowF (w2.alloc (.cells #[.int .i64 f.fr, .int .i64 f.en, .slice av f.caps.length kv] 24)) 24 w2.heap.size 3 (fun j => #[Value.int .i64 f.fr, .int .i64 f.en, .slice av f.caps.length kv].getD j (.bool false)) from RowF.mk' w2 24 #[.int .i64 f.fr, .int .i64 f.en, .slice av f.caps.length kv])
          clear hZ2 hB2 hmm kb hk2 hm2 hv
          go_wp2_with fail
          generalize w2.alloc (.cells #[.int .i64 f.fr, .int .i64 f.en, .slice av f.caps.length kv] 24) = w3 at *
          generalize w2.heap.size = X at *
          refine (spent_any M _ n2 w3 HMM.out rfl).mono ?_
          rintro e w4 ⟨rfl, hw⟩
          obtain rfl := hw.symm
          by_cases hsp : 50000 < n2
          · have hspb : decide (50000 < n2) = true := decide_eq_true hsp
            have HR := hide (HF2.out.trans (if_pos hsp))
            have r0 := HZ.out.cell (j := 0) (by omega)
            have r1 := HZ.out.cell (j := 1) (by omega)
            have r2 := HZ.out.cell (j := 2) (by omega)
            have y0 := HZ.out.frz 0
            have y1 := HZ.out.frz 1
            have y2 := HZ.out.frz 2
            have HBf := hide (((HB.out.setCell (p := ⟨w.heap.size, 0, none⟩) (Nat.le_refl _) (.int .i64 0)).setCell (p := ⟨w.heap.size, 1, none⟩) (Nat.le_refl _) (.int .i64 0)).setCell (p := ⟨w.heap.size, 2, none⟩) (Nat.le_refl _) nilS)
            go_wp2_with fail
            refine bodyPost_ret (v := .tuple #[.agg #[.int .i64 0, .int .i64 0, nilS], .bool false, .int .i64 4]) ?_ rfl (FoR.none HBf.out HR.out)
            simp [results, Tryd.results5, go_sem, r0, r1, r2]
          · have hspb : decide (50000 < n2) = false := decide_eq_false hsp
            have HR := hide (HF2.out.trans (if_neg hsp))
            have x0 : w3.cell? ⟨X, 0, none⟩ = some (.int .i64 f.fr) := HX.out.cell (j := 0) (by omega)
            have x1 : w3.cell? ⟨X, 1, none⟩ = some (.int .i64 f.en) := HX.out.cell (j := 1) (by omega)
            have x2 : w3.cell? ⟨X, 2, none⟩ = some (.slice av f.caps.length kv) := HX.out.cell (j := 2) (by omega)
            have r0 := HZ.out.cell (j := 0) (by omega)
            have r1 := HZ.out.cell (j := 1) (by omega)
            have r2 := HZ.out.cell (j := 2) (by omega)
            have y0 := HZ.out.frz 0
            have y1 := HZ.out.frz 1
            have y2 := HZ.out.frz 2
            have HBf := hide (((HB.out.setCell (p := ⟨w.heap.size, 0, none⟩) (Nat.le_refl _) (.int .i64 f.fr)).setCell (p := ⟨w.heap.size, 1, none⟩) (Nat.le_refl _) (.int .i64 f.en)).setCell (p := ⟨w.heap.size, 2, none⟩) (Nat.le_refl _) (.slice av f.caps.length kv))
            have HVf := hide (owns_less (owns_keep HV.out ((((Keeps.refl w3 (fun b => b = w.heap.size)).setCell (S := fun b => b = w.heap.size) (j := 0) rfl (.int .i64 f.fr)).setCell (S := fun b => b = w.heap.size) (j := 1) rfl (.int .i64 f.en)).setCell (S := fun b => b = w.heap.size) (j := 2) rfl (.slice av f.caps.length kv)) (by omega)) (show w.heap.size ≤ w1.heap.size by omega))
            go_wp2_with fail
            refine bodyPost_ret (v := .tuple #[.agg #[.int .i64 f.fr, .int .i64 f.en, .slice av f.caps.length kv], .bool true, .int .i64 0]) ?_ rfl ⟨HBf.out, .slice av f.caps.length kv, by rw [HR.out]; rfl, by rw [HR.out]; exact HVf.out⟩
            simp [results, Tryd.results5, go_sem, r0, r1, r2]

end Go.Proofs.YtemciphihnpniaaDoor
namespace Go.Proofs.YtemciphihnpniaaDoor
open Go Go.RowKit Go.Shelf
set_option linter.unusedVariables false

theorem fns_of {w : World} {B n : Nat} {v : Value} {us : List Iu} (h : w.ownsRow B 89 1 v n (fnC us)) (hn : us.length = n) : FnsA w v n (fun j => (us.getD j (it0, 0, #[])).2) := by
  obtain ⟨h1, ⟨rfl, h3⟩ | ⟨g, cap, cur, rfl, hb, hg, hnc, hcm, hcs, htake⟩⟩ := h
  · subst h3
    exact ⟨none, 0, rfl, Nat.le_refl _, .inl ⟨rfl, rfl⟩⟩
  · refine ⟨_, cap, rfl, hnc, .inr ⟨g, rfl, cur, hg, by rw [hcs]; exact Nat.mul_le_mul_right _ hnc, fun j hj => ?_⟩⟩
    have hj' : j < n := by omega
    have h5 : (cur.toList.take (n * 1))[j]? = (fnC us)[j]? := by rw [htake]
    rw [List.getElem?_take_of_lt hj, Array.getElem?_toList] at h5
    rw [h5]
    have hju : j < us.length := by omega
    simp [fnC, hju]
theorem SB.setW {w : World} {S : Nat} {s : ByteArray} {fx : Bool} {cn : Nat} {wh : Value} {n : Nat} {nt : Nt} {to_ : Nat} (h : SB w S s fx cn wh n nt to_) (v : Value) : SB (w.setCell ⟨S, 3, none⟩ v) S s fx cn v n nt to_ := by
  refine (RowF.set h (j := 3) (by omega) v).congr fun j hj => ?_
  unfold scells
  by_cases e : j = 3
  · subst e; simp
  · simp [e]
def nt0 : Nt := fun _ => (false, 0, 0)
/-- What making a search comes to. -/
def NsR (s p : ByteArray) (w : World) (e : Ending) (w' : World) : Prop := Below w.heap.size w w' ∧
  ((65536 < s.size ∧ e = .returned (.tuple #[.pointer none, .int .i64 1])) ∨
   (¬ 65536 < s.size ∧ rdPat p = none ∧ e = .returned (.tuple #[.pointer none, .int .i64 2])) ∨
   ∃ t S fn bd cs D, ¬ 65536 < s.size ∧ rdPat p = some t ∧ t.items.length ≤ 200 ∧ e = .returned (.tuple #[.pointer (some ⟨S, 0, none⟩), .int .i64 0]) ∧ w.heap.size ≤ S ∧
     SB w' S s t.start t.caps (.func (.func fn) bd cs) 0 nt0 0 ∧ D w' ∧ WyAll ⟨S, s, t.start, t.caps, .func (.func fn) bd cs, t.items⟩ t.place fn bd cs D w'.heap.size)

set_option maxHeartbeats 3200000 in
set_option maxRecDepth 100000 in
theorem newSearch_any (s p : ByteArray) (w : World) (hs20 : s.size ≤ 1048576) (hp20 : p.size ≤ 1048576) (hl : LtT w) (h0 : 0 < w.heap.size) :
    Calls Tryd.prog 18 #[.string s, .string p] w fun e w' => NsR s p w e w' := by
  have HL := hide hl
  have hsf := fun (w : World) (a : Addr) (m : Mode) (f : Fn) (bd cs : Array Value) => st_func Tryd.prog w a m f bd cs
  clear hl
  go_enter Tryd.func18, Tryd.ntmps18
  by_cases hs : 65536 < s.size
  · have h1 : (65536 : Int) < (s.size : Int) := by omega
    go_wp2_with fail
    refine bodyPost_ret (results_tmp2 rfl _ _ _) rfl ⟨Below.refl _ _, .inl ⟨hs, rfl⟩⟩
  · have h1 : ¬ (65536 : Int) < (s.size : Int) := by omega
    by_cases hp : 200 < p.size
    · have h2 : (200 : Int) < (p.size : Int) := by omega
      go_wp2_with fail
      refine bodyPost_ret (results_tmp2 rfl _ _ _) rfl ⟨Below.refl _ _, .inr (.inl ⟨hs, by rw [rdPat, if_pos hp], rfl⟩)⟩
    · have h2 : ¬ (200 : Int) < (p.size : Int) := by omega
      have hpr : PR (w.alloc (.cells #[.string p, .slice none 0 0, .slice none 0 0, .slice none 0 0] 69)) w.heap.size (p.extract 0 p.size) nilS nilS nilS := by
        rw [show p.extract 0 p.size = p by simp]
        refine (RowF.mk' w 69 #[.string p, .slice none 0 0, .slice none 0 0, .slice none 0 0]).congr fun j hj => ?_
        have hj4 : j < 4 := by simpa using hj
        clear hj
        rcases j with _ | _ | _ | _ | j
        all_goals simp [rdF, nilS]
        all_goals omega
      have H0 := hide (And.intro (show PQ (w.alloc (.cells #[.string p, .slice none 0 0, .slice none 0 0, .slice none 0 0] 69)) w.heap.size p 0 nilS nilS nilS from ⟨by omega, hpr⟩) (And.intro (b_1 w (.cells #[.string p, .slice none 0 0, .slice none 0 0, .slice none 0 0] 69)) (HL.out.low (b_1 w (.cells #[.string p, .slice none 0 0, .slice none 0 0, .slice none 0 0] 69)) h0)))
      clear hpr
      go_wp2_with fail
      generalize w.alloc (.cells #[.string p, .slice none 0 0, .slice none 0 0, .slice none 0 0] 69) = w0 at H0 ⊢
      refine (takes_q w.heap.size p 0 [94] nilS nilS nilS w0 (by omega) (by simp) H0.out.1).mono ?_
      rintro e w1 ⟨rfl, hq1, hk1⟩
      have h94 : stA p 0 [94] = decide (hb p 0 = 94) := by
        rw [st_one, decide_eq_decide]
        constructor
        · exact fun x => x.2
        · intro x
          refine ⟨?_, x⟩
          rcases Nat.eq_zero_or_pos p.size with y | y
          · rw [hb_out (by omega)] at x; cases x
          · exact y
      have hR0 : w.heap.size < w0.heap.size := RowF.lt H0.out.1.2
      rw [h94] at hq1 ⊢
      have hpos : (rd0 p).pos = if decide (hb p 0 = 94) = true then 0 + [(94 : UInt8)].length else 0 := by
        by_cases h : hb p 0 = 94
        · rw [rd0, if_pos h, if_pos (decide_eq_true h)]; rfl
        · rw [rd0, if_neg h, if_neg (by simp [h])]
      rw [← hpos] at hq1
      have hb1 : Below w.heap.size w w1 := H0.out.2.1.trans (hk1.below (Nat.le_of_lt hR0) (fun b e => by omega))
      have hRp : RpI w w1 w.heap.size p (rdAll p 200 (rd0 p)) (rd0 p) [] nilS nilS nilS 200 :=
        ⟨⟨hq1, ⟨rfl, .inl ⟨rfl, rfl⟩⟩, ⟨rfl, .inl ⟨rfl, rfl⟩⟩, ⟨rfl, .inl ⟨rfl, rfl⟩⟩, fun u hu => by simp at hu⟩, rfl, hb1, H0.out.2.2.keep hk1 (by omega) (by omega), rdJ0 p, by simp, by simp [rd0], by simp [rd0], by omega, rfl⟩
      have HR := hide hRp
      obtain ⟨b, hbe⟩ : ∃ b, decide (hb p 0 = 94) = b := ⟨_, rfl⟩
      have HBe := hide hbe
      rw [hbe]
      obtain ⟨T, hT⟩ : ∃ T, rdAll p 200 (rd0 p) = T := ⟨_, rfl⟩
      rw [hT] at HR
      have HT := hide (show rdPat p = T.bind (fun R => if R.opn = [] ∧ R.done.length ≤ 16 then some ⟨R.items, R.done.length, isPl R.items, b⟩ else none) by
        rw [rdPat, if_neg hp, ← hT, ← hbe]
        rfl)
      clear hq1 hk1 h94 hpos hb1 hRp hbe hT
      go_wp2_with fail
      refine (readPattern_any w.heap.size p T (rd0 p) nilS nilS nilS [] 200 w w1 (by omega) h0 HR.out).mono ?_
      rintro e w2 hr
      cases T with
      | none =>
        obtain ⟨rfl, hb2⟩ := hr
        have HB2 := hide hb2
        clear hb2
        go_wp2_with fail
        exact bodyPost_ret (results_tmp2 rfl _ _ _) rfl ⟨HB2.out, .inr (.inl ⟨hs, HT.out, rfl⟩)⟩
      | some rd =>
        obtain ⟨rfl, us, vi, vo, vc, k, hri⟩ := hr
        have HI := hide hri
        clear hri
        by_cases hok : rd.opn = [] ∧ rd.done.length ≤ 16
        · rw [decide_eq_true hok]
          obtain ⟨t, hte⟩ : ∃ t : Pt, t = ⟨rd.items, rd.done.length, isPl rd.items, b⟩ := ⟨_, rfl⟩
          have HPt := hide (show rdPat p = some t by rw [HT.out, hte]; show (if rd.opn = [] ∧ rd.done.length ≤ 16 then some _ else none) = _; rw [if_pos hok])
          have hl16 := hok.2
          clear hok
          have c3 : w2.cell? ⟨w.heap.size, 3, none⟩ = some vc := RowF.cell HI.out.ri.q.2 (j := 3) (by omega)
          obtain ⟨ad, kd, rfl⟩ := owns_val HI.out.ri.d
          obtain ⟨ai, ki, rfl⟩ := owns_val HI.out.ri.i
          have hSB : SB (w2.alloc (.cells #[.string s, .bool b, .int .i64 (rd.done.length : Int), .nilFunc, .int .i64 0, .bool false, .int .i64 0, .int .i64 0, .bool false, .int .i64 0, .int .i64 0, .bool false, .int .i64 0, .int .i64 0, .bool false, .int .i64 0, .int .i64 0, .bool false, .int .i64 0, .int .i64 0, .bool false, .int .i64 0, .int .i64 0, .bool false, .int .i64 0, .int .i64 0, .bool false, .int .i64 0, .int .i64 0, .bool false, .int .i64 0, .int .i64 0, .bool false, .int .i64 0, .int .i64 0, .bool false, .int .i64 0, .int .i64 0, .bool false, .int .i64 0, .int .i64 0, .bool false, .int .i64 0, .int .i64 0, .bool false, .int .i64 0, .int .i64 0, .bool false, .int .i64 0, .int .i64 0, .bool false, .int .i64 0, .int .i64 0, .int .i64 0] 75)) w2.heap.size s b rd.done.length .nilFunc 0 nt0 0 := by
            refine (RowF.mk' w2 75 #[.string s, .bool b, .int .i64 (rd.done.length : Int), .nilFunc, .int .i64 0, .bool false, .int .i64 0, .int .i64 0, .bool false, .int .i64 0, .int .i64 0, .bool false, .int .i64 0, .int .i64 0, .bool false, .int .i64 0, .int .i64 0, .bool false, .int .i64 0, .int .i64 0, .bool false, .int .i64 0, .int .i64 0, .bool false, .int .i64 0, .int .i64 0, .bool false, .int .i64 0, .int .i64 0, .bool false, .int .i64 0, .int .i64 0, .bool false, .int .i64 0, .int .i64 0, .bool false, .int .i64 0, .int .i64 0, .bool false, .int .i64 0, .int .i64 0, .bool false, .int .i64 0, .int .i64 0, .bool false, .int .i64 0, .int .i64 0, .bool false, .int .i64 0, .int .i64 0, .bool false, .int .i64 0, .int .i64 0, .int .i64 0]).congr fun j hj => ?_
            have hj54 : j < 54 := by simpa using hj
            clear hj
            have hls : (#[.string s, .bool b, .int .i64 (rd.done.length : Int), .nilFunc, .int .i64 0, .bool false, .int .i64 0, .int .i64 0, .bool false, .int .i64 0, .int .i64 0, .bool false, .int .i64 0, .int .i64 0, .bool false, .int .i64 0, .int .i64 0, .bool false, .int .i64 0, .int .i64 0, .bool false, .int .i64 0, .int .i64 0, .bool false, .int .i64 0, .int .i64 0, .bool false, .int .i64 0, .int .i64 0, .bool false, .int .i64 0, .int .i64 0, .bool false, .int .i64 0, .int .i64 0, .bool false, .int .i64 0, .int .i64 0, .bool false, .int .i64 0, .int .i64 0, .bool false, .int .i64 0, .int .i64 0, .bool false, .int .i64 0, .int .i64 0, .bool false, .int .i64 0, .int .i64 0, .bool false, .int .i64 0, .int .i64 0, .int .i64 0] : Array Value).toList = (List.range 54).map (scells s b rd.done.length .nilFunc 0 nt0 0) := by rfl
            rw [Array.getD_eq_getD_getElem?, ← Array.getElem?_toList, hls]
            simp [hj54]
          have H3 := hide (And.intro hSB (b_1 w2 (.cells #[.string s, .bool b, .int .i64 (rd.done.length : Int), .nilFunc, .int .i64 0, .bool false, .int .i64 0, .int .i64 0, .bool false, .int .i64 0, .int .i64 0, .bool false, .int .i64 0, .int .i64 0, .bool false, .int .i64 0, .int .i64 0, .bool false, .int .i64 0, .int .i64 0, .bool false, .int .i64 0, .int .i64 0, .bool false, .int .i64 0, .int .i64 0, .bool false, .int .i64 0, .int .i64 0, .bool false, .int .i64 0, .int .i64 0, .bool false, .int .i64 0, .int .i64 0, .bool false, .int .i64 0, .int .i64 0, .bool false, .int .i64 0, .int .i64 0, .bool false, .int .i64 0, .int .i64 0, .bool false, .int .i64 0, .int .i64 0, .bool false, .int .i64 0, .int .i64 0, .bool false, .int .i64 0, .int .i64 0, .int .i64 0] 75)))
          clear hSB
          go_upto_region 10 with fail
          generalize w2.alloc (.cells #[.string s, .bool b, .int .i64 (rd.done.length : Int), .nilFunc, .int .i64 0, .bool false, .int .i64 0, .int .i64 0, .bool false, .int .i64 0, .int .i64 0, .bool false, .int .i64 0, .int .i64 0, .bool false, .int .i64 0, .int .i64 0, .bool false, .int .i64 0, .int .i64 0, .bool false, .int .i64 0, .int .i64 0, .bool false, .int .i64 0, .int .i64 0, .bool false, .int .i64 0, .int .i64 0, .bool false, .int .i64 0, .int .i64 0, .bool false, .int .i64 0, .int .i64 0, .bool false, .int .i64 0, .int .i64 0, .bool false, .int .i64 0, .int .i64 0, .bool false, .int .i64 0, .int .i64 0, .bool false, .int .i64 0, .int .i64 0, .bool false, .int .i64 0, .int .i64 0, .bool false, .int .i64 0, .int .i64 0, .int .i64 0] 75) = w3 at H3 ⊢
          have hri3 := HI.out.ri.keep (Keeps.of H3.out.2 (Nat.le_refl _) _)
          have c1 : w3.cell? ⟨w.heap.size, 1, none⟩ = some (.slice ai us.length ki) := RowF.cell hri3.q.2 (j := 1) (by omega)
          have hlen : us.length = t.items.length := by rw [hte]; show us.length = rd.items.length; rw [← HI.out.it, List.length_map]
          have hl200 : t.items.length ≤ 200 := by have := HI.out.l1; have := HI.out.ri.q.1; omega
          have hfa := fns_of (us := us) (n := us.length) hri3.i rfl
          have hcn : ∀ c, Value.slice ai us.length ki = .slice none 0 c → c = 0 := fun c e => by
            rcases own_val hri3.i with ⟨e1, _⟩ | ⟨g, cap, e1, _⟩
            · rw [e1] at e; cases e; rfl
            · rw [e1] at e; cases e
          have hii : ∀ j (hj : j < t.items.length), ItV w3 w2.heap.size t.items[j] (us.getD j (it0, 0, #[])).2.1 (us.getD j (it0, 0, #[])).2.2 := fun j hj => by
            have hju : j < us.length := by omega
            have h9 := HI.out.ri.s us[j] (List.getElem_mem hju)
            have e1 : t.items[j] = us[j].1 := by
              have : t.items = us.map Prod.fst := by rw [hte]; exact HI.out.it.symm
              simp [this]
            have e2 : us.getD j (it0, 0, #[]) = us[j] := by rw [List.getD_eq_getElem?_getD, List.getElem?_eq_getElem hju]; rfl
            rw [e1, e2]
            exact h9.v.move (fun b hb => ⟨H3.out.2.block b (h9.p b hb).1, by have := (h9.p b hb).1; omega⟩)
          rw [hlen] at hfa hcn
          have HTh := hide (through_any w2.heap.size s t (fun j => (us.getD j (it0, 0, #[])).2) ai ki w3 (by omega) (rdPat_k HPt.out) hl200 (RowF.lt H3.out.1) hfa hcn hii)
          have H4 := hide (And.intro hl200 hte)
          clear c3 hfa hcn hii hri3 hl200 hte
          go_wp2_with fail
          refine HTh.out.mono ?_
          rintro e w4 ⟨hb4, fn, bd, cs, D, rfl, hD, hO, hW⟩
          have hsb := RowF.low H3.out.1 hb4 (RowF.lt H3.out.1)
          have c9 : w4.cell? ⟨w2.heap.size, 3, none⟩ = some .nilFunc := RowF.cell hsb (j := 3) (by omega)
          have z9 : w4.frozen? ⟨w2.heap.size, 3, none⟩ = false := RowF.frz hsb 3
          have h5 := SB.setW hsb (.func (.func fn) bd cs)
          have hR2 : w.heap.size ≤ w2.heap.size := HI.out.bl.size
          have HE := hide (And.intro h5 (And.intro ((HI.out.bl.trans (H3.out.2.mono hR2)).trans (hb4.mono (Nat.le_trans hR2 H3.out.2.size))) (And.intro hD (And.intro hO hW))))
          clear hsb h5 hb4 hD hO hW c1
          go_wp2_with fail
          have hk5 : Keeps w4 (w4.setCell ⟨w2.heap.size, 3, none⟩ (.func (.func fn) bd cs)) (fun x => x = w2.heap.size) := SB.kS _ 3
          have hst : t.start = b := by rw [H4.out.2]
          have hcp : t.caps = rd.done.length := by rw [H4.out.2]
          refine bodyPost_ret (results_tmp2 rfl _ _ _) rfl ⟨HE.out.2.1.setCell (p := ⟨w2.heap.size, 3, none⟩) hR2 _, .inr (.inr ⟨t, w2.heap.size, fn, bd, cs, D, hs, HPt.out, H4.out.1, rfl, hR2, ?_, ?_, ?_⟩)⟩
          · rw [hst, hcp]
            exact HE.out.1
          · exact HE.out.2.2.2.1 _ _ HE.out.2.2.1 hk5.size (fun x _ h1 h2 _ => hk5.block x h1 h2)
          · exact HE.out.2.2.2.2.all HE.out.2.2.2.1 hk5.size _ rfl rfl rfl
        · rw [decide_eq_false hok]
          have HN := hide (show rdPat p = none by rw [HT.out]; show (if rd.opn = [] ∧ rd.done.length ≤ 16 then some _ else none) = _; rw [if_neg hok])
          clear hok
          go_wp2_with fail
          exact bodyPost_ret (results_tmp2 rfl _ _ _) rfl ⟨HI.out.bl, .inr (.inl ⟨hs, HN.out, rfl⟩)⟩

end Go.Proofs.YtemciphihnpniaaDoor
