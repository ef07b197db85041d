import Derived.Test.YtemciphihnpniaaDoorJPL
namespace Go.Proofs.YtemciphihnpniaaDoor
open Go Go.RowKit
set_option linter.unusedVariables false

def resI : Option Nat → Int
  | none => -1
  | some e => e
def TrR (M : Nat) (s : ByteArray) (t : Pt) (us : List (It × Value)) (vi vp vf vt : Value) (w : World) (r : Option Nat × Ms) (e : Ending) (w' : World) : Prop :=
  e = .returned (.int .i64 (resI r.1)) ∧ Keeps w w' (MW M vf vt) ∧ MS w' M s t us vi vp vf vt r.2
/-- The call of try at the item behind k comes to nx. -/
def NxOk (M : Nat) (s : ByteArray) (t : Pt) (us : List (It × Value)) (vi vp vf vt : Value) (k : Nat) (pre : List It) (nx : Nx) : Prop :=
  ∀ (at_ : Nat) (ai : Int) (σ : Ms) (w : World), ai = at_ → MS w M s t us vi vp vf vt σ → at_ ≤ s.size → σ.steps ≤ 50000 → Cap pre σ at_ →
    Calls Tryd.prog 28 #[.pointer (some ⟨M, 0, none⟩), .int .i64 ((k : Int) + 1), .int .i64 ai] w fun e w' => TrR M s t us vi vp vf vt w (nx at_ σ) e w'
theorem TrR.mk {M : Nat} {s : ByteArray} {t : Pt} {us : List (It × Value)} {vi vp vf vt : Value} {w w' : World} {r r' : Option Nat × Ms} {x : Int} (hr : r' = r) (hx : x = resI r.1) (h1 : Keeps w w' (MW M vf vt)) (h2 : MS w' M s t us vi vp vf vt r.2) : TrR M s t us vi vp vf vt w r' (.returned (.int .i64 x)) w' := by
  subst hr
  exact ⟨by rw [hx], h1, h2⟩
/-- An item in a box of its own. -/
abbrev boxC (it : It) (v : Value) : Array Value := #[.int .i64 it.kind, v, .int .u8 it.sign, .int .i64 it.n, .int .u8 it.x, .int .u8 it.y]
def BoxF (w : World) (X : Nat) (it : It) (v : Value) : Prop := RowF w 83 X 6 (fun j => (boxC it v).getD j (.bool false))
theorem BoxF.keep {w w' : World} {M X : Nat} {s : ByteArray} {t : Pt} {us : List (It × Value)} {vi vp vf vt : Value} {σ : Ms} {it : It} {v : Value} (h : BoxF w X it v) (hm : MS w M s t us vi vp vf vt σ) (k : Keeps w w' (MW M vf vt)) : BoxF w' X it v := by
  refine RowF.keep h k ?_
  rintro (rfl | hv | hv)
  · exact RowF.apart h hm.m (by decide) rfl
  · exact RowF.apart h (hm.f.own hv) (by decide) rfl
  · exact RowF.apart h (hm.t.own hv) (by decide) rfl
theorem SetF.keepM {w w' : World} {M g : Nat} {s : ByteArray} {t : Pt} {us : List (It × Value)} {vi vp vf vt : Value} {σ : Ms} {f : Nat → Bool} (h : SetF w g f) (hm : MS w M s t us vi vp vf vt σ) (k : Keeps w w' (MW M vf vt)) : SetF w' g f := by
  refine SetF.keep h k ?_
  rintro (rfl | hv | hv)
  · exact RowF.apart h hm.m (by decide) rfl
  · exact RowF.apart h (hm.f.own hv) (by decide) rfl
  · exact RowF.apart h (hm.t.own hv) (by decide) rfl
/-- The same captures. -/
def SameC (τ σ : Ms) : Prop := τ.fr = σ.fr ∧ τ.tt = σ.tt
theorem SameC.rfl (σ : Ms) : SameC σ σ := ⟨Eq.refl _, Eq.refl _⟩
def SameW (a b : World) : Prop := a = b
theorem spent_no {σ : Ms} (h : σ.spent = false) : σ.steps ≤ 50000 := by
  unfold Ms.spent at h
  simpa using h
theorem downM_stop {nx : Nx} {at_ least n : Nat} {σ : Ms} (h : n < least ∨ σ.spent = true) : downM nx at_ least n σ = (none, σ) := by
  cases n with
  | zero => rw [downM, if_pos h]
  | succ n => rw [downM, if_pos h]
theorem downM_hit {nx : Nx} {at_ least n e : Nat} {σ σ' : Ms} (h : ¬ n < least) (h1 : σ.spent = false) (h2 : nx (at_ + n) σ = (some e, σ')) : downM nx at_ least n σ = (some e, σ') := by
  cases n with
  | zero => rw [downM, if_neg (by rw [h1]; simp; omega)]; exact h2
  | succ n => rw [downM, if_neg (by rw [h1]; simp; omega), h2]
theorem downM_miss {nx : Nx} {at_ least n : Nat} {σ σ' : Ms} (h : ¬ n + 1 < least) (h1 : σ.spent = false) (h2 : nx (at_ + (n + 1)) σ = (none, σ')) : downM nx at_ least (n + 1) σ = downM nx at_ least n σ' := by
  rw [downM, if_neg (by rw [h1]; simp; omega), h2]
theorem downM_last {nx : Nx} {at_ least : Nat} {σ σ' : Ms} (h : ¬ 0 < least) (h1 : σ.spent = false) (h2 : nx (at_ + 0) σ = (none, σ')) : downM nx at_ least 0 σ = (none, σ') := by
  rw [downM, if_neg (by rw [h1]; simp; omega)]; exact h2
theorem lazyM_stop {s : ByteArray} {f : Nat → Bool} {nx : Nx} {k n : Nat} {σ : Ms} (h : σ.spent = true) : lazyM s f nx (k + 1) n σ = (none, σ) := by rw [lazyM, if_pos h]
theorem lazyM_hit {s : ByteArray} {f : Nat → Bool} {nx : Nx} {k n e : Nat} {σ σ' : Ms} (h : σ.spent = false) (h2 : nx n σ = (some e, σ')) : lazyM s f nx (k + 1) n σ = (some e, σ') := by rw [lazyM, if_neg (by rw [h]; simp), h2]
theorem lazyM_end {s : ByteArray} {f : Nat → Bool} {nx : Nx} {k n : Nat} {σ σ' : Ms} (h : σ.spent = false) (h2 : nx n σ = (none, σ')) (h3 : has s f n = false) : lazyM s f nx (k + 1) n σ = (none, σ') := by rw [lazyM, if_neg (by rw [h]; simp), h2]; simp [h3]
theorem lazyM_next {s : ByteArray} {f : Nat → Bool} {nx : Nx} {k n : Nat} {σ σ' : Ms} (h : σ.spent = false) (h2 : nx n σ = (none, σ')) (h3 : has s f n = true) : lazyM s f nx (k + 1) n σ = lazyM s f nx k (n + 1) (σ'.more 1) := by rw [lazyM, if_neg (by rw [h]; simp), h2]; simp [h3]

set_option maxHeartbeats 1600000 in
set_option maxRecDepth 100000 in
theorem one_0 (M : Nat) (s : ByteArray) (t : Pt) (us : List (It × Value)) (vi vp vf vt : Value) (k : Nat) (pre : List It) (nx : Nx) (c : Nat) (it : It) (g at_ : Nat) (σ : Ms) (w : World) (hs : s.size ≤ 65536) (hk9 : k ≤ 1000) (hc9 : c ≤ 1000)
    (hx : NxOk M s t us vi vp vf vt k pre nx) (hre : Rest nx) (hst : StN s nx c) (hm : MS w M s t us vi vp vf vt σ) (hg : SetF w g it.set) (ha : at_ ≤ s.size) (h5 : σ.steps ≤ 50000) (hcap : Cap pre σ at_) (hs0 : it.sign = 0) :
    Calls Tryd.prog 34 #[.pointer (some ⟨M, 0, none⟩), .agg (boxC it (.slice (some ⟨g, 0, none⟩) 256 256)), .int .i64 k, .int .i64 at_] w fun e w' => TrR M s t us vi vp vf vt w (oneM s it nx at_ σ) e w' := by
  have HS0 := hide hs0
  have hs0b : (it.sign == 0) = true := beq_iff_eq.2 hs0
  clear hs0
  have kb : Keeps w (w.alloc (.cells (boxC it (.slice (some ⟨g, 0, none⟩) 256 256)) 83)) (fun _ => False) := Keeps.of (b_1 w _) (Nat.le_refl _) _
  have HM := hide (hm.low kb)
  have HG := hide (SetF.keep hg kb (fun x => x))
  have HB := hide (show BoxF (w.alloc (.cells (boxC it (.slice (some ⟨g, 0, none⟩) 256 256)) 83)) w.heap.size it (.slice (some ⟨g, 0, none⟩) 256 256) from RowF.mk' w 83 (boxC it (.slice (some ⟨g, 0, none⟩) 256 256)))
  have HK := hide (kb.mono (S' := MW M vf vt) (fun b hb => hb.elim))
  have HX := hide hx
  have HC := hide hcap
  clear hm hg kb hx hcap
  go_enter Tryd.func34, Tryd.ntmps34
  go_wp2_with fail
  generalize w.alloc (.cells (boxC it (.slice (some ⟨g, 0, none⟩) 256 256)) 83) = w1 at *
  generalize w.heap.size = X at *
  refine (MS.hasC HM.out hs HG.out (at_ := at_) (by omega)).mono ?_
  rintro e w2 ⟨rfl, hw⟩
  obtain rfl := hw.symm
  cases hh : has s it.set at_ with
  | false =>
    have HO := hide (show oneM s it nx at_ σ = (none, σ) by rw [oneM, if_pos HS0.out, if_neg (by rw [hh]; simp)])
    go_wp2_with fail
    refine bodyPost_ret (v := .int .i64 (-1)) ?_ rfl (TrR.mk HO.out rfl HK.out HM.out)
    simp [results, Tryd.results34, go_sem]
  | true =>
    have hlt := has_lt hh
    have HO := hide (show oneM s it nx at_ σ = nx (at_ + 1) σ by rw [oneM, if_pos HS0.out, if_pos hh])
    go_wp2_with fail
    refine (HX.out (at_ + 1) _ σ _ (by omega) HM.out (by omega) h5 (HC.out.le (by omega) rfl rfl)).mono ?_
    rintro e w3 ⟨rfl, h1, h2⟩
    go_wp2_with fail
    refine bodyPost_ret (v := .int .i64 (resI (nx (at_ + 1) σ).1)) ?_ rfl (TrR.mk HO.out rfl (HK.out.trans h1) h2)
    simp [results, Tryd.results34, go_sem]
set_option maxHeartbeats 1600000 in
set_option maxRecDepth 100000 in
theorem one_l (M : Nat) (s : ByteArray) (t : Pt) (us : List (It × Value)) (vi vp vf vt : Value) (k : Nat) (pre : List It) (nx : Nx) (c : Nat) (it : It) (g at_ : Nat) (σ : Ms) (w : World) (hs : s.size ≤ 65536) (hk9 : k ≤ 1000) (hc9 : c ≤ 1000)
    (hx : NxOk M s t us vi vp vf vt k pre nx) (hre : Rest nx) (hst : StN s nx c) (hm : MS w M s t us vi vp vf vt σ) (hg : SetF w g it.set) (ha : at_ ≤ s.size) (h5 : σ.steps ≤ 50000) (hcap : Cap pre σ at_) (hs0 : it.sign = 45) :
    Calls Tryd.prog 34 #[.pointer (some ⟨M, 0, none⟩), .agg (boxC it (.slice (some ⟨g, 0, none⟩) 256 256)), .int .i64 k, .int .i64 at_] w fun e w' => TrR M s t us vi vp vf vt w (oneM s it nx at_ σ) e w' := by
  have hs0b : (it.sign == 45) = true := beq_iff_eq.2 hs0
  have hs1b : (it.sign == 0) = false := beq_eq_false_iff_ne.2 (by omega)
  have hs2b : (it.sign == 63) = false := beq_eq_false_iff_ne.2 (by omega)
  have HO := hide (show oneM s it nx at_ σ = lazyM s it.set nx (s.size + 1) at_ σ by rw [oneM, if_neg (by omega), if_neg (by omega), if_pos hs0])
  clear hs0
  have kb : Keeps w (w.alloc (.cells (boxC it (.slice (some ⟨g, 0, none⟩) 256 256)) 83)) (fun _ => False) := Keeps.of (b_1 w _) (Nat.le_refl _) _
  have HM := hide (hm.low kb)
  have HG := hide (SetF.keep hg kb (fun x => x))
  have HB := hide (show BoxF (w.alloc (.cells (boxC it (.slice (some ⟨g, 0, none⟩) 256 256)) 83)) w.heap.size it (.slice (some ⟨g, 0, none⟩) 256 256) from RowF.mk' w 83 (boxC it (.slice (some ⟨g, 0, none⟩) 256 256)))
  have HK := hide (kb.mono (S' := MW M vf vt) (fun b hb => hb.elim))
  have HX := hide hx
  have HC := hide hcap
  clear hm hg kb hx hcap
  go_enter Tryd.func34, Tryd.ntmps34
  go_wp2_with fail
  generalize w.alloc (.cells (boxC it (.slice (some ⟨g, 0, none⟩) 256 256)) 83) = w1 at *
  generalize w.heap.size = X at *
  go_loopw [11] (fun iv wr => ∃ (n q : Nat) (τ : Ms), iv = .int .i64 n ∧ n ≤ s.size ∧ at_ ≤ n ∧ s.size + 1 + at_ = q + n ∧ τ.steps ≤ 200000 ∧ SameC τ σ ∧ Hid (MS wr M s t us vi vp vf vt τ) ∧ Hid (SetF wr g it.set) ∧ Hid (BoxF wr X it (.slice (some ⟨g, 0, none⟩) 256 256)) ∧ Hid (Keeps w wr (MW M vf vt)) ∧ Hid (oneM s it nx at_ σ = lazyM s it.set nx q n τ)) (fun iv _ => s.size + 1 - ivN iv)
  case atStart => exact ⟨at_, s.size + 1, σ, rfl, ha, Nat.le_refl _, by omega, by omega, SameC.rfl σ, HM, HG, HB, HK, HO⟩
  case round =>
    clear HM HG HB HK HO
    obtain ⟨n, q0, τ, rfl, hn1, hn2, hq, hτ, HF, HM, HG, HB, HK, HO⟩ := hrel
    obtain ⟨q, rfl⟩ : ∃ q, q0 = q + 1 := ⟨q0 - 1, by omega⟩
    go_wp2_with fail
    refine (MS.spentC HM.out).mono ?_
    rintro e w2 ⟨rfl, hw⟩
    obtain rfl := hw.symm
    cases hsp : τ.spent with
    | true =>
      have HR := hide (HO.out.trans (lazyM_stop hsp))
      go_wp2_with fail
      refine bodyPost_ret (v := .int .i64 (-1)) ?_ rfl (TrR.mk HR.out rfl HK.out HM.out)
      simp [results, Tryd.results34, go_sem]
    | false =>
      have hτ5 := spent_no hsp
      go_wp2_with fail
      refine (HX.out n _ τ _ rfl HM.out hn1 hτ5 (HC.out.le hn2 HF.1 HF.2)).mono ?_
      rintro e w3 ⟨rfl, h1, h2⟩
      have HM3 := hide h2
      have HG3 := hide (HG.out.keepM HM.out h1)
      have HB3 := hide (HB.out.keep HM.out h1)
      have HK3 := hide (HK.out.trans h1)
      have hst3 := hst n τ hτ5
      have HRE := hide (hre n τ)
      clear h1 h2 HM HG HB HK
      obtain ⟨r, hr⟩ : ∃ r, nx n τ = r := ⟨_, rfl⟩
      rw [hr] at HM3 hst3 HRE ⊢
      have HNX := hide hr
      clear hr
      obtain ⟨o, τ'⟩ := r
      cases o with
      | some e =>
        have HR := hide (HO.out.trans (lazyM_hit (s := s) (f := it.set) (k := q) hsp HNX.out))
        simp only [resI] at *
        have he0 : (0 : Int) ≤ (e : Int) := by omega
        go_wp2_with fail
        refine bodyPost_ret (v := .int .i64 (e : Int)) ?_ rfl (TrR.mk HR.out rfl HK3.out HM3.out)
        simp [results, Tryd.results34, go_sem]
      | none =>
        simp only [resI] at *
        have c1 : w3.cell? ⟨X, 1, none⟩ = some (.slice (some ⟨g, 0, none⟩) 256 256) := RowF.cell HB3.out (j := 1) (by omega)
        go_wp2_with fail
        refine (MS.hasC HM3.out hs HG3.out (at_ := n) (by omega)).mono ?_
        rintro e w4 ⟨rfl, hw⟩
        obtain rfl := hw.symm
        clear c1
        cases hh : has s it.set n with
        | false =>
          have HR := hide (HO.out.trans (lazyM_end (s := s) (f := it.set) (k := q) hsp HNX.out hh))
          go_wp2_with fail
          refine bodyPost_ret (v := .int .i64 (-1)) ?_ rfl (TrR.mk HR.out rfl HK3.out HM3.out)
          simp [results, Tryd.results34, go_sem]
        | true =>
          have hlt := has_lt hh
          have HR := hide (HO.out.trans (lazyM_next (s := s) (f := it.set) (k := q) hsp HNX.out hh))
          have c6 : w3.cell? ⟨M, 6, none⟩ = some (.int .i64 τ'.steps) := RowF.cell HM3.out.m (j := 6) (by omega)
          have z6 : w3.frozen? ⟨M, 6, none⟩ = false := RowF.frz HM3.out.m 6
          have HM5 := hide (HM3.out.step (τ'.steps + 1))
          have HK5 := hide (HK3.out.trans (MS.kstep (w := w3) (M := M) (vf := vf) (vt := vt) (τ'.steps + 1)))
          have HG5 := hide (HG3.out.keepM HM3.out (MS.kstep (τ'.steps + 1)))
          have HB5 := hide (HB3.out.keep HM3.out (MS.kstep (τ'.steps + 1)))
          have HF5 : SameC (τ'.more 1) σ := ⟨(HRE.out trivial).1.trans HF.1, (HRE.out trivial).2.trans HF.2⟩
          rw [show ((τ'.steps + 1 : Nat) : Int) = (τ'.steps : Int) + 1 by omega] at HM5 HK5 HG5 HB5
          clear HM3 HG3 HB3 HK3
          go_wp2_with fail
          go_roundw
          case rel => exact ⟨n + 1, q, τ'.more 1, by simp, by omega, by omega, by omega, by show τ'.steps + 1 ≤ 200000; omega, HF5, HM5, HG5, HB5, HK5, HR⟩
          case measure => show s.size + 1 - ivN (.int .i64 _) < s.size + 1 - ivN (.int .i64 _); simp [ivN]; omega
set_option maxHeartbeats 1600000 in
set_option maxRecDepth 100000 in
theorem one_q (M : Nat) (s : ByteArray) (t : Pt) (us : List (It × Value)) (vi vp vf vt : Value) (k : Nat) (pre : List It) (nx : Nx) (c : Nat) (it : It) (g at_ : Nat) (σ : Ms) (w : World) (hs : s.size ≤ 65536) (hk9 : k ≤ 1000) (hc9 : c ≤ 1000)
    (hx : NxOk M s t us vi vp vf vt k pre nx) (hre : Rest nx) (hst : StN s nx c) (hm : MS w M s t us vi vp vf vt σ) (hg : SetF w g it.set) (ha : at_ ≤ s.size) (h5 : σ.steps ≤ 50000) (hcap : Cap pre σ at_) (hs0 : it.sign = 63) :
    Calls Tryd.prog 34 #[.pointer (some ⟨M, 0, none⟩), .agg (boxC it (.slice (some ⟨g, 0, none⟩) 256 256)), .int .i64 k, .int .i64 at_] w fun e w' => TrR M s t us vi vp vf vt w (oneM s it nx at_ σ) e w' := by
  have hs0b : (it.sign == 63) = true := beq_iff_eq.2 hs0
  have hs1b : (it.sign == 0) = false := beq_eq_false_iff_ne.2 (by omega)
  have HQ := hide (show oneM s it nx at_ σ = downM nx at_ 0 (if has s it.set at_ = true then 1 else 0) σ by rw [oneM, if_neg (by omega), if_pos hs0])
  clear hs0
  have kb : Keeps w (w.alloc (.cells (boxC it (.slice (some ⟨g, 0, none⟩) 256 256)) 83)) (fun _ => False) := Keeps.of (b_1 w _) (Nat.le_refl _) _
  have HM := hide (hm.low kb)
  have HG := hide (SetF.keep hg kb (fun x => x))
  have HB := hide (show BoxF (w.alloc (.cells (boxC it (.slice (some ⟨g, 0, none⟩) 256 256)) 83)) w.heap.size it (.slice (some ⟨g, 0, none⟩) 256 256) from RowF.mk' w 83 (boxC it (.slice (some ⟨g, 0, none⟩) 256 256)))
  have HK := hide (kb.mono (S' := MW M vf vt) (fun b hb => hb.elim))
  have HX := hide hx
  have HC := hide hcap
  clear hm hg kb hx hcap
  go_enter Tryd.func34, Tryd.ntmps34
  go_wp2_with fail
  generalize w.alloc (.cells (boxC it (.slice (some ⟨g, 0, none⟩) 256 256)) 83) = w1 at *
  generalize w.heap.size = X at *
  refine (MS.hasC HM.out hs HG.out (at_ := at_) (by omega)).mono ?_
  rintro e w2 ⟨rfl, hw⟩
  obtain rfl := hw.symm
  have hst0 : σ.steps ≤ 200000 := by omega
  have HF0 := SameC.rfl σ
  clear HG HB
  cases hh : has s it.set at_ with
  | false =>
    have HO := hide (HQ.out.trans (by rw [hh, if_neg (by simp)]))
    have hmst : at_ + 0 ≤ s.size := by omega
    clear HQ
    go_wp2_with fail
    go_loopw [13] (fun iv wr => ∃ τ : Ms, τ.steps ≤ 200000 ∧ SameC τ σ ∧ Hid (MS wr M s t us vi vp vf vt τ) ∧ Hid (Keeps w wr (MW M vf vt)) ∧ ((∃ n : Nat, iv = .int .i64 n ∧ at_ + n ≤ s.size ∧ Hid (oneM s it nx at_ σ = downM nx at_ 0 n τ)) ∨ (iv = .int .i64 (-1) ∧ 0 = 0 ∧ Hid (oneM s it nx at_ σ = (none, τ))))) (fun iv _ => match iv with | .int _ x => (x + 1).toNat | _ => 0)
    case atStart => exact ⟨_, hst0, HF0, HM, HK, .inl ⟨0, rfl, hmst, HO⟩⟩
    case round =>
      clear HM HK HO HF0 hst0 hmst
      obtain ⟨τ, hτ, HF, HM, HK, ⟨n, rfl, hn, HO⟩ | ⟨rfl, hl0, HO⟩⟩ := hrel
      · have hl2 : (0 : Int) ≤ (n : Int) := by omega
        go_wp2_with fail
        refine (MS.spentC HM.out).mono ?_
        rintro e w2 ⟨rfl, hw⟩
        obtain rfl := hw.symm
        cases hsp : τ.spent with
        | true =>
          have HR := hide (HO.out.trans (downM_stop (.inr hsp)))
          go_wp2_with fail
          refine bodyPost_ret (v := .int .i64 (-1)) ?_ rfl (TrR.mk HR.out rfl HK.out HM.out)
          simp [results, Tryd.results34, go_sem]
        | false =>
          have hτ5 := spent_no hsp
          go_wp2_with fail
          refine (HX.out (at_ + n) _ τ _ (by omega) HM.out hn hτ5 (HC.out.le (by omega) HF.1 HF.2)).mono ?_
          rintro e w3 ⟨rfl, h1, h2⟩
          have HM3 := hide h2
          have HK3 := hide (HK.out.trans h1)
          have hst3 := hst (at_ + n) τ hτ5
          have HRE := hide (hre (at_ + n) τ)
          clear h1 h2 HM HK
          obtain ⟨r, hr⟩ : ∃ r, nx (at_ + n) τ = r := ⟨_, rfl⟩
          rw [hr] at HM3 hst3 HRE ⊢
          have HNX := hide hr
          clear hr
          obtain ⟨o, τ'⟩ := r
          cases o with
          | some e =>
            have HR := hide (HO.out.trans (downM_hit (by omega) hsp HNX.out))
            simp only [resI] at *
            have he0 : (0 : Int) ≤ (e : Int) := by omega
            go_wp2_with fail
            refine bodyPost_ret (v := .int .i64 (e : Int)) ?_ rfl (TrR.mk HR.out rfl HK3.out HM3.out)
            simp [results, Tryd.results34, go_sem]
          | none =>
            simp only [resI] at *
            have HF5 : SameC τ' σ := ⟨(HRE.out trivial).1.trans HF.1, (HRE.out trivial).2.trans HF.2⟩
            cases n with
            | zero =>
              have HR := hide (HO.out.trans (downM_last (by omega) hsp HNX.out))
              go_wp2_with fail
              go_roundw
              case rel => exact ⟨τ', by omega, HF5, HM3, HK3, .inr ⟨by simp, by omega, HR⟩⟩
              case measure => simp
            | succ n =>
              have HR := hide (HO.out.trans (downM_miss (by omega) hsp HNX.out))
              go_wp2_with fail
              go_roundw
              case rel => exact ⟨τ', by omega, HF5, HM3, HK3, .inl ⟨n, by simp, by omega, HR⟩⟩
              case measure => simp; omega
      · have hl2 : ¬ ((0 : Int) ≤ -1) := by omega
        go_wp2_with fail
        refine bodyPost_ret (v := .int .i64 (-1)) ?_ rfl (TrR.mk HO.out rfl HK.out HM.out)
        simp [results, Tryd.results34, go_sem]
  | true =>
    have hlt := has_lt hh
    have HO := hide (HQ.out.trans (by rw [hh, if_pos rfl]))
    have hmst : at_ + 1 ≤ s.size := by omega
    clear HQ
    go_wp2_with fail
    go_loopw [13] (fun iv wr => ∃ τ : Ms, τ.steps ≤ 200000 ∧ SameC τ σ ∧ Hid (MS wr M s t us vi vp vf vt τ) ∧ Hid (Keeps w wr (MW M vf vt)) ∧ ((∃ n : Nat, iv = .int .i64 n ∧ at_ + n ≤ s.size ∧ Hid (oneM s it nx at_ σ = downM nx at_ 0 n τ)) ∨ (iv = .int .i64 (-1) ∧ 0 = 0 ∧ Hid (oneM s it nx at_ σ = (none, τ))))) (fun iv _ => match iv with | .int _ x => (x + 1).toNat | _ => 0)
    case atStart => exact ⟨_, hst0, HF0, HM, HK, .inl ⟨1, rfl, hmst, HO⟩⟩
    case round =>
      clear HM HK HO HF0 hst0 hmst
      obtain ⟨τ, hτ, HF, HM, HK, ⟨n, rfl, hn, HO⟩ | ⟨rfl, hl0, HO⟩⟩ := hrel
      · have hl2 : (0 : Int) ≤ (n : Int) := by omega
        go_wp2_with fail
        refine (MS.spentC HM.out).mono ?_
        rintro e w2 ⟨rfl, hw⟩
        obtain rfl := hw.symm
        cases hsp : τ.spent with
        | true =>
          have HR := hide (HO.out.trans (downM_stop (.inr hsp)))
          go_wp2_with fail
          refine bodyPost_ret (v := .int .i64 (-1)) ?_ rfl (TrR.mk HR.out rfl HK.out HM.out)
          simp [results, Tryd.results34, go_sem]
        | false =>
          have hτ5 := spent_no hsp
          go_wp2_with fail
          refine (HX.out (at_ + n) _ τ _ (by omega) HM.out hn hτ5 (HC.out.le (by omega) HF.1 HF.2)).mono ?_
          rintro e w3 ⟨rfl, h1, h2⟩
          have HM3 := hide h2
          have HK3 := hide (HK.out.trans h1)
          have hst3 := hst (at_ + n) τ hτ5
          have HRE := hide (hre (at_ + n) τ)
          clear h1 h2 HM HK
          obtain ⟨r, hr⟩ : ∃ r, nx (at_ + n) τ = r := ⟨_, rfl⟩
          rw [hr] at HM3 hst3 HRE ⊢
          have HNX := hide hr
          clear hr
          obtain ⟨o, τ'⟩ := r
          cases o with
          | some e =>
            have HR := hide (HO.out.trans (downM_hit (by omega) hsp HNX.out))
            simp only [resI] at *
            have he0 : (0 : Int) ≤ (e : Int) := by omega
            go_wp2_with fail
            refine bodyPost_ret (v := .int .i64 (e : Int)) ?_ rfl (TrR.mk HR.out rfl HK3.out HM3.out)
            simp [results, Tryd.results34, go_sem]
          | none =>
            simp only [resI] at *
            have HF5 : SameC τ' σ := ⟨(HRE.out trivial).1.trans HF.1, (HRE.out trivial).2.trans HF.2⟩
            cases n with
            | zero =>
              have HR := hide (HO.out.trans (downM_last (by omega) hsp HNX.out))
              go_wp2_with fail
              go_roundw
              case rel => exact ⟨τ', by omega, HF5, HM3, HK3, .inr ⟨by simp, by omega, HR⟩⟩
              case measure => simp
            | succ n =>
              have HR := hide (HO.out.trans (downM_miss (by omega) hsp HNX.out))
              go_wp2_with fail
              go_roundw
              case rel => exact ⟨τ', by omega, HF5, HM3, HK3, .inl ⟨n, by simp, by omega, HR⟩⟩
              case measure => simp; omega
      · have hl2 : ¬ ((0 : Int) ≤ -1) := by omega
        go_wp2_with fail
        refine bodyPost_ret (v := .int .i64 (-1)) ?_ rfl (TrR.mk HO.out rfl HK.out HM.out)
        simp [results, Tryd.results34, go_sem]
theorem runL_snoc {s : ByteArray} {f : Nat → Bool} : ∀ {n k : Nat}, k < n → ∀ a, has s f a = true → runL s f n a = runL s f (n - 1) (a + 1) + 1
  | 0, k, h, _, _ => by omega
  | n + 1, k, h, a, ha => by rw [runL, if_pos ha]; rfl
theorem runL_0 {s : ByteArray} {f : Nat → Bool} {n a : Nat} (h : has s f a = false) : runL s f n a = 0 := by
  cases n with
  | zero => rfl
  | succ n => rw [runL, if_neg (by rw [h]; simp)]
set_option maxHeartbeats 1600000 in
set_option maxRecDepth 100000 in
theorem one_d (M : Nat) (s : ByteArray) (t : Pt) (us : List (It × Value)) (vi vp vf vt : Value) (k : Nat) (pre : List It) (nx : Nx) (c : Nat) (it : It) (g at_ : Nat) (σ : Ms) (w : World) (hs : s.size ≤ 65536) (hk9 : k ≤ 1000) (hc9 : c ≤ 1000)
    (hx : NxOk M s t us vi vp vf vt k pre nx) (hre : Rest nx) (hst : StN s nx c) (hm : MS w M s t us vi vp vf vt σ) (hg : SetF w g it.set) (ha : at_ ≤ s.size) (h5 : σ.steps ≤ 50000) (hcap : Cap pre σ at_) (h0 : it.sign ≠ 0) (h63 : it.sign ≠ 63) (h45 : it.sign ≠ 45) :
    Calls Tryd.prog 34 #[.pointer (some ⟨M, 0, none⟩), .agg (boxC it (.slice (some ⟨g, 0, none⟩) 256 256)), .int .i64 k, .int .i64 at_] w fun e w' => TrR M s t us vi vp vf vt w (oneM s it nx at_ σ) e w' := by
  have hs0b : (it.sign == 63) = false := beq_eq_false_iff_ne.2 h63
  have hs1b : (it.sign == 0) = false := beq_eq_false_iff_ne.2 h0
  have hs2b : (it.sign == 45) = false := beq_eq_false_iff_ne.2 h45
  have HQ := hide (show oneM s it nx at_ σ = downM nx at_ (if it.sign = 43 then 1 else 0) (runL s it.set s.size at_) (σ.more (runL s it.set s.size at_)) by rw [oneM, if_neg h0, if_neg h63, if_neg h45])
  clear h0 h63 h45
  have kb : Keeps w (w.alloc (.cells (boxC it (.slice (some ⟨g, 0, none⟩) 256 256)) 83)) (fun _ => False) := Keeps.of (b_1 w _) (Nat.le_refl _) _
  have HM := hide (hm.low kb)
  have HG := hide (SetF.keep hg kb (fun x => x))
  have HB := hide (show BoxF (w.alloc (.cells (boxC it (.slice (some ⟨g, 0, none⟩) 256 256)) 83)) w.heap.size it (.slice (some ⟨g, 0, none⟩) 256 256) from RowF.mk' w 83 (boxC it (.slice (some ⟨g, 0, none⟩) 256 256)))
  have HK := hide (kb.mono (S' := MW M vf vt) (fun b hb => hb.elim))
  have HX := hide hx
  have HC := hide hcap
  clear hm hg kb hx hcap
  go_enter Tryd.func34, Tryd.ntmps34
  go_wp2_with fail
  generalize w.alloc (.cells (boxC it (.slice (some ⟨g, 0, none⟩) 256 256)) 83) = w1 at *
  generalize w.heap.size = X at *
  go_loopw [10] (fun iv wr => SameW w1 wr ∧ ∃ j : Nat, iv = .int .i64 j ∧ at_ + j ≤ s.size ∧ Hid (runL s it.set s.size at_ = j + runL s it.set (s.size - j) (at_ + j))) (fun iv _ => s.size + 1 - ivN iv)
  case atStart => exact ⟨Eq.refl _, 0, rfl, by omega, hide (by simp)⟩
  case round =>
    obtain ⟨hw, j, rfl, hj, HJ⟩ := hrel
    obtain rfl : w1 = wr := hw
    have c1 : w1.cell? ⟨X, 1, none⟩ = some (.slice (some ⟨g, 0, none⟩) 256 256) := RowF.cell HB.out (j := 1) (by omega)
    have hai : (at_ : Int) + (j : Int) = ((at_ + j : Nat) : Int) := by omega
    have HH9 := hide (MS.hasC HM.out hs HG.out (at_ := at_ + j) (by omega))
    rw [← hai] at HH9
    clear hai
    go_wp2_with fail
    refine HH9.out.mono ?_
    rintro e w2 ⟨rfl, hw⟩
    obtain rfl := hw.symm
    clear HH9
    cases hh : has s it.set (at_ + j) with
    | true =>
      have hlt := has_lt hh
      have HJ2 := hide (HJ.out.trans (by rw [runL_snoc (n := s.size - j) (k := 0) (by omega) (at_ + j) hh]))
      go_wp2_with fail
      go_roundw
      case rel => exact ⟨Eq.refl _, j + 1, by simp, by omega, hide (HJ2.out.trans (by rw [show s.size - j - 1 = s.size - (j + 1) by omega, show at_ + j + 1 = at_ + (j + 1) by omega]; omega))⟩
      case measure => show s.size + 1 - ivN (.int .i64 _) < s.size + 1 - ivN (.int .i64 _); simp [ivN]; omega
    | false =>
      have HJ2 := hide (HJ.out.trans (by rw [runL_0 hh]))
      have HQ2 := hide (HQ.out)
      rw [HJ2.out, Nat.add_zero] at HQ2
      clear HJ HQ
      have c2 : w1.cell? ⟨X, 2, none⟩ = some (.int .u8 it.sign) := RowF.cell HB.out (j := 2) (by omega)
      have c6 : w1.cell? ⟨M, 6, none⟩ = some (.int .i64 σ.steps) := RowF.cell HM.out.m (j := 6) (by omega)
      have z6 : w1.frozen? ⟨M, 6, none⟩ = false := RowF.frz HM.out.m 6
      have HM5 := hide (HM.out.step (σ.steps + j))
      have HK5 := hide (HK.out.trans (MS.kstep (w := w1) (M := M) (vf := vf) (vt := vt) (σ.steps + j)))
      have HB5 := hide (HB.out.keep HM.out (MS.kstep (σ.steps + j)))
      rw [show ((σ.steps + j : Nat) : Int) = (σ.steps : Int) + (j : Int) by omega] at HM5 HK5 HB5
      have c22 : (w1.setCell ⟨M, 6, none⟩ (.int .i64 ((σ.steps : Int) + (j : Int)))).cell? ⟨X, 2, none⟩ = some (.int .u8 it.sign) := RowF.cell HB5.out (j := 2) (by omega)
      have hst0 : (σ.more j).steps ≤ 200000 := by show σ.steps + j ≤ 200000; omega
      have HF0 : SameC (σ.more j) σ := ⟨rfl, rfl⟩
      have hmst : at_ + j ≤ s.size := hj
      clear HM HK HG HB
      have HM := HM5
      have HK := HK5
      clear HM5 HK5 HB5
      by_cases h43 : it.sign = 43
      · have h43b : (it.sign == 43) = true := beq_iff_eq.2 h43
        have HO := hide (HQ2.out.trans (by rw [if_pos h43]))
        clear h43 HQ2 HJ2
        go_wp2_with fail
        go_loopw [13] (fun iv wr => ∃ τ : Ms, τ.steps ≤ 200000 ∧ SameC τ σ ∧ Hid (MS wr M s t us vi vp vf vt τ) ∧ Hid (Keeps w wr (MW M vf vt)) ∧ ((∃ n : Nat, iv = .int .i64 n ∧ at_ + n ≤ s.size ∧ Hid (oneM s it nx at_ σ = downM nx at_ 1 n τ)) ∨ (iv = .int .i64 (-1) ∧ 1 = 0 ∧ Hid (oneM s it nx at_ σ = (none, τ))))) (fun iv _ => match iv with | .int _ x => (x + 1).toNat | _ => 0)
        case atStart => exact ⟨_, hst0, HF0, HM, HK, .inl ⟨j, rfl, hmst, HO⟩⟩
        case round =>
          clear HM HK HO HF0 hst0 hmst
          obtain ⟨τ, hτ, HF, HM, HK, ⟨n, rfl, hn, HO⟩ | ⟨rfl, hl0, HO⟩⟩ := hrel
          · by_cases hl : n < 1
            · have HR := hide (HO.out.trans (downM_stop (.inl hl)))
              go_wp2_with fail
              refine bodyPost_ret (v := .int .i64 (-1)) ?_ rfl (TrR.mk HR.out rfl HK.out HM.out)
              simp [results, Tryd.results34, go_sem]
            · have hl2 : (1 : Int) ≤ (n : Int) := by omega
              go_wp2_with fail
              refine (MS.spentC HM.out).mono ?_
              rintro e w2 ⟨rfl, hw⟩
              obtain rfl := hw.symm
              cases hsp : τ.spent with
              | true =>
                have HR := hide (HO.out.trans (downM_stop (.inr hsp)))
                go_wp2_with fail
                refine bodyPost_ret (v := .int .i64 (-1)) ?_ rfl (TrR.mk HR.out rfl HK.out HM.out)
                simp [results, Tryd.results34, go_sem]
              | false =>
                have hτ5 := spent_no hsp
                go_wp2_with fail
                refine (HX.out (at_ + n) _ τ _ (by omega) HM.out hn hτ5 (HC.out.le (by omega) HF.1 HF.2)).mono ?_
                rintro e w3 ⟨rfl, h1, h2⟩
                have HM3 := hide h2
                have HK3 := hide (HK.out.trans h1)
                have hst3 := hst (at_ + n) τ hτ5
                have HRE := hide (hre (at_ + n) τ)
                clear h1 h2 HM HK
                obtain ⟨r, hr⟩ : ∃ r, nx (at_ + n) τ = r := ⟨_, rfl⟩
                rw [hr] at HM3 hst3 HRE ⊢
                have HNX := hide hr
                clear hr
                obtain ⟨o, τ'⟩ := r
                cases o with
                | some e =>
                  have HR := hide (HO.out.trans (downM_hit (by omega) hsp HNX.out))
                  simp only [resI] at *
                  have he0 : (0 : Int) ≤ (e : Int) := by omega
                  go_wp2_with fail
                  refine bodyPost_ret (v := .int .i64 (e : Int)) ?_ rfl (TrR.mk HR.out rfl HK3.out HM3.out)
                  simp [results, Tryd.results34, go_sem]
                | none =>
                  simp only [resI] at *
                  have HF5 : SameC τ' σ := ⟨(HRE.out trivial).1.trans HF.1, (HRE.out trivial).2.trans HF.2⟩
                  cases n with
                  | zero =>
                    have HR := hide (HO.out.trans (downM_last (by omega) hsp HNX.out))
                    go_wp2_with fail
                    go_roundw
                    case rel => exact ⟨τ', by omega, HF5, HM3, HK3, .inr ⟨by simp, by omega, HR⟩⟩
                    case measure => simp
                  | succ n =>
                    have HR := hide (HO.out.trans (downM_miss (by omega) hsp HNX.out))
                    go_wp2_with fail
                    go_roundw
                    case rel => exact ⟨τ', by omega, HF5, HM3, HK3, .inl ⟨n, by simp, by omega, HR⟩⟩
                    case measure => simp; omega
          · have hl2 : ¬ ((1 : Int) ≤ -1) := by omega
            go_wp2_with fail
            refine bodyPost_ret (v := .int .i64 (-1)) ?_ rfl (TrR.mk HO.out rfl HK.out HM.out)
            simp [results, Tryd.results34, go_sem]
      · have h43b : (it.sign == 43) = false := beq_eq_false_iff_ne.2 h43
        have HO := hide (HQ2.out.trans (by rw [if_neg h43]))
        clear h43 HQ2 HJ2
        go_wp2_with fail
        go_loopw [13] (fun iv wr => ∃ τ : Ms, τ.steps ≤ 200000 ∧ SameC τ σ ∧ Hid (MS wr M s t us vi vp vf vt τ) ∧ Hid (Keeps w wr (MW M vf vt)) ∧ ((∃ n : Nat, iv = .int .i64 n ∧ at_ + n ≤ s.size ∧ Hid (oneM s it nx at_ σ = downM nx at_ 0 n τ)) ∨ (iv = .int .i64 (-1) ∧ 0 = 0 ∧ Hid (oneM s it nx at_ σ = (none, τ))))) (fun iv _ => match iv with | .int _ x => (x + 1).toNat | _ => 0)
        case atStart => exact ⟨_, hst0, HF0, HM, HK, .inl ⟨j, rfl, hmst, HO⟩⟩
        case round =>
          clear HM HK HO HF0 hst0 hmst
          obtain ⟨τ, hτ, HF, HM, HK, ⟨n, rfl, hn, HO⟩ | ⟨rfl, hl0, HO⟩⟩ := hrel
          · have hl2 : (0 : Int) ≤ (n : Int) := by omega
            go_wp2_with fail
            refine (MS.spentC HM.out).mono ?_
            rintro e w2 ⟨rfl, hw⟩
            obtain rfl := hw.symm
            cases hsp : τ.spent with
            | true =>
              have HR := hide (HO.out.trans (downM_stop (.inr hsp)))
              go_wp2_with fail
              refine bodyPost_ret (v := .int .i64 (-1)) ?_ rfl (TrR.mk HR.out rfl HK.out HM.out)
              simp [results, Tryd.results34, go_sem]
            | false =>
              have hτ5 := spent_no hsp
              go_wp2_with fail
              refine (HX.out (at_ + n) _ τ _ (by omega) HM.out hn hτ5 (HC.out.le (by omega) HF.1 HF.2)).mono ?_
              rintro e w3 ⟨rfl, h1, h2⟩
              have HM3 := hide h2
              have HK3 := hide (HK.out.trans h1)
              have hst3 := hst (at_ + n) τ hτ5
              have HRE := hide (hre (at_ + n) τ)
              clear h1 h2 HM HK
              obtain ⟨r, hr⟩ : ∃ r, nx (at_ + n) τ = r := ⟨_, rfl⟩
              rw [hr] at HM3 hst3 HRE ⊢
              have HNX := hide hr
              clear hr
              obtain ⟨o, τ'⟩ := r
              cases o with
              | some e =>
                have HR := hide (HO.out.trans (downM_hit (by omega) hsp HNX.out))
                simp only [resI] at *
                have he0 : (0 : Int) ≤ (e : Int) := by omega
                go_wp2_with fail
                refine bodyPost_ret (v := .int .i64 (e : Int)) ?_ rfl (TrR.mk HR.out rfl HK3.out HM3.out)
                simp [results, Tryd.results34, go_sem]
              | none =>
                simp only [resI] at *
                have HF5 : SameC τ' σ := ⟨(HRE.out trivial).1.trans HF.1, (HRE.out trivial).2.trans HF.2⟩
                cases n with
                | zero =>
                  have HR := hide (HO.out.trans (downM_last (by omega) hsp HNX.out))
                  go_wp2_with fail
                  go_roundw
                  case rel => exact ⟨τ', by omega, HF5, HM3, HK3, .inr ⟨by simp, by omega, HR⟩⟩
                  case measure => simp
                | succ n =>
                  have HR := hide (HO.out.trans (downM_miss (by omega) hsp HNX.out))
                  go_wp2_with fail
                  go_roundw
                  case rel => exact ⟨τ', by omega, HF5, HM3, HK3, .inl ⟨n, by simp, by omega, HR⟩⟩
                  case measure => simp; omega
          · have hl2 : ¬ ((0 : Int) ≤ -1) := by omega
            go_wp2_with fail
            refine bodyPost_ret (v := .int .i64 (-1)) ?_ rfl (TrR.mk HO.out rfl HK.out HM.out)
            simp [results, Tryd.results34, go_sem]
theorem one_try (M : Nat) (s : ByteArray) (t : Pt) (us : List (It × Value)) (vi vp vf vt : Value) (k : Nat) (pre : List It) (nx : Nx) (c : Nat) (it : It) (g at_ : Nat) (σ : Ms) (w : World) (hs : s.size ≤ 65536) (hk9 : k ≤ 1000) (hc9 : c ≤ 1000)
    (hx : NxOk M s t us vi vp vf vt k pre nx) (hre : Rest nx) (hst : StN s nx c) (hm : MS w M s t us vi vp vf vt σ) (hg : SetF w g it.set) (ha : at_ ≤ s.size) (h5 : σ.steps ≤ 50000) (hcap : Cap pre σ at_) :
    Calls Tryd.prog 34 #[.pointer (some ⟨M, 0, none⟩), .agg (boxC it (.slice (some ⟨g, 0, none⟩) 256 256)), .int .i64 k, .int .i64 at_] w fun e w' => TrR M s t us vi vp vf vt w (oneM s it nx at_ σ) e w' := by
  by_cases h0 : it.sign = 0
  · exact one_0 M s t us vi vp vf vt k pre nx c it g at_ σ w hs hk9 hc9 hx hre hst hm hg ha h5 hcap h0
  by_cases h63 : it.sign = 63
  · exact one_q M s t us vi vp vf vt k pre nx c it g at_ σ w hs hk9 hc9 hx hre hst hm hg ha h5 hcap h63
  by_cases h45 : it.sign = 45
  · exact one_l M s t us vi vp vf vt k pre nx c it g at_ σ w hs hk9 hc9 hx hre hst hm hg ha h5 hcap h45
  exact one_d M s t us vi vp vf vt k pre nx c it g at_ σ w hs hk9 hc9 hx hre hst hm hg ha h5 hcap h0 h63 h45

end Go.Proofs.YtemciphihnpniaaDoor
