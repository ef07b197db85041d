import Derived.Test.YtemciphihnpniaaDoorJQ5
import Derived.Test.YtemciphihnpniaaDoorPP
import Derived.Test.YtemciphihnpniaaDoorJQ6
namespace Go.Proofs.YtemciphihnpniaaDoor
open Go Go.RowKit Go.Shelf
set_option linter.unusedVariables false

/-- Where one step more is too much, what is in pairs comes to that. -/
theorem pairM_spent {s : ByteArray} {x y : Int} {nx : Nx} {m : Nat} (hm : 50000 ≤ m) : ∀ (q i n : Nat) (τ : Ms), m ≤ τ.steps → i < s.size → 0 < q → (pairM s x y nx q i n τ).2.spent = true
  | 0, i, n, τ, _, _, h => by omega
  | q + 1, i, n, τ, h1, h2, _ => by
    have hs : (τ.more 1).spent = true := decide_eq_true (show 50000 < τ.steps + 1 by omega)
    have rest : ∀ k, (pairM s x y nx q (i + 1) k (τ.more 1)).2.spent = true := fun k => by
      by_cases hi : i + 1 < s.size
      · by_cases hq : 0 < q
        · exact pairM_spent hm q (i + 1) k (τ.more 1) (show m ≤ τ.steps + 1 by omega) hi hq
        · obtain rfl : q = 0 := by omega
          exact hs
      · rw [pairM_end hi]; exact hs
    rw [pairM, if_neg (by omega)]
    repeat' split
    all_goals first | exact hs | exact rest _ | (rename_i h9; exact absurd hs h9)
set_option maxHeartbeats 3200000 in
set_option maxRecDepth 100000 in
theorem it_pair (X : Sx) (pre : List It) (it : It) (nx : Nx) (fn : Nat) (bd cs : Array Value) (D : World → Prop) (at_ : Nat) (σ : Ms) (nt : Nt) (to_ : Nat) (w : World) (hs : X.s.size ≤ 65536)
    (hx : WyOk X (pre ++ [it]) nx fn bd cs D) (hD : D w) (hb : SB w X.S X.s X.fx X.cn X.wh σ.steps nt to_) (ha : at_ ≤ X.s.size) (h5 : σ.steps ≤ 50000) (hc : Cap (pre ++ [it]) σ at_) (hg : Ag (pre ++ [it]) nt σ) (A B : Nat) (hA : w.cell? ⟨A, 0, none⟩ = some (.int .u8 it.x)) (hB : w.cell? ⟨B, 0, none⟩ = some (.int .u8 it.y)) (hAS : A ≠ X.S) (hBS : B ≠ X.S) :
    Calls Tryd.prog 79 #[.pointer (some ⟨X.S, 0, none⟩), .int .i64 at_, .func (.func fn) bd cs, .pointer (some ⟨A, 0, none⟩), .pointer (some ⟨B, 0, none⟩)] w fun e w' => WyR X pre w nt (pairR X.s it nx at_ σ) e w' := by
  obtain ⟨S, s, fx, cn, wh, its⟩ := X
  dsimp only at *
  have e1 := hx.en
  have HX := hide hx
  have HD := hide hD
  have HB := hide hb
  have HC := hide hc
  have HG := hide hg
  have c0 := hb.subj
  clear hx hD hb hc hg
  have HA := hide (fun w9 (k9 : Keeps w w9 (fun b => b = S)) => (show w9.cell? ⟨A, 0, none⟩ = some (.int .u8 it.x) from cell_keep k9 hAS hA))
  have HBb := hide (fun w9 (k9 : Keeps w w9 (fun b => b = S)) => (show w9.cell? ⟨B, 0, none⟩ = some (.int .u8 it.y) from cell_keep k9 hBS hB))
  have HK := hide (Keeps.refl w (fun b => b = S))
  clear hB
  by_cases hin : at_ < s.size
  · have hi0 : ∀ w' : World, (Instr.index 9 (.string s) (.int .i64 (at_ : Int))).run Tryd.prog w' = .ok (.int .u8 (hb s at_)) w' := fun w' => by
      rw [idx_str s (i := (at_ : Int)) w' (by omega) (by omega), Int.toNat_natCast]
    have hne : ((at_ : Int) == (s.size : Int)) = false := beq_eq_false_iff_ne.2 (by omega)
    by_cases hxx : hb s at_ = it.x
    · have hxb : (hb s at_ != it.x) = false := by simp [hxx]
      have HO := hide (show pairR s it nx at_ σ = pairM s it.x it.y nx s.size (at_ + 1) 1 σ by rw [pairR, if_neg (by rw [hxx]; simp; omega)])
      clear hxx
      go_enter Tryd.func79, Tryd.ntmps79
      go_wp2_with fail
      go_quiet (fail)
      have HD := hide (HX.out.keep _ _ HD.out (((Keeps.refl w (fun b => b = S))).drewN nq))
      have HB := hide (HB.out.keep ((Keeps.refl w (fun _ => False)).drewN nq) (fun x => x))
      have HK := hide (HK.out.drewN nq)
      generalize w.drewN nq = w1 at *
      clear c0 hA hi0
      go_wp2_with fail
      go_loopw [1, 9] (fun iv nv wr => ∃ (i n q : Nat) (τ : Ms), iv = .int .i64 i ∧ nv = .int .i64 n ∧ i ≤ s.size ∧ at_ < i ∧ 1 ≤ n ∧ n ≤ i ∧ s.size + at_ + 1 = q + i ∧ τ.steps ≤ 50000 ∧ SameC τ σ ∧ Hid (SB wr S s fx cn wh τ.steps nt to_) ∧ Hid (D wr) ∧ Hid (Keeps w wr (fun b => b = S)) ∧ Hid (pairR s it nx at_ σ = pairM s it.x it.y nx q i n τ)) (fun iv _ _ => s.size + 1 - ivN iv)
      case atStart => exact ⟨at_ + 1, 1, s.size, σ, by simp, rfl, by omega, by omega, by omega, by omega, by omega, h5, SameC.rfl σ, HB, HD, HK, HO⟩
      case round =>
        clear HB HD HK HO
        obtain ⟨i, n, q0, τ, rfl, rfl, hi1, hi2, hn1, hn2, hq, hτ, HF, HB, HD, HK, HO⟩ := hrel
        obtain ⟨q, rfl⟩ : ∃ q, q0 = q + 1 := ⟨q0 - 1, by omega⟩
        have c0 := HB.out.subj
        by_cases hin2 : i < s.size
        · have hi0 : ∀ w' : World, (Instr.index 9 (.string s) (.int .i64 (i : Int))).run Tryd.prog w' = .ok (.int .u8 (hb s i)) w' := fun w' => by
            rw [idx_str s (i := (i : Int)) w' (by omega) (by omega), Int.toNat_natCast]
          have hin3 : (i : Int) < (s.size : Int) := by omega
          go_wp2_with fail
          refine (step_any wr (by omega) HB.out).mono ?_
          rintro e w2 ⟨rfl, hb2, hk2⟩
          have HD := hide (HX.out.keep _ _ HD.out hk2)
          have HK := hide (HK.out.trans hk2)
          have HB := hide hb2
          clear hb2 hk2 c0
          by_cases hst : τ.steps + 1 ≤ 50000
          · have hstb : decide (τ.steps + 1 ≤ 50000) = true := decide_eq_true hst
            have c0 := HB.out.subj
            have cA := HA.out _ HK.out
            have cB := HBb.out _ HK.out
            have hsp : (τ.more 1).spent = false := decide_eq_false (show ¬ 50000 < τ.steps + 1 by omega)
            have HF5 : SameC (τ.more 1) σ := ⟨HF.1, HF.2⟩
            by_cases hy : hb s i = it.y
            · have hyb : (hb s i == it.y) = true := beq_iff_eq.2 hy
              have HY := hide hy
              clear hy
              by_cases hn : n = 1
              · subst hn
                have HR := hide (HO.out.trans (pairM_hit hin2 HY.out hsp))
                go_wp2_with fail
                refine (HX.out.go (i + 1) _ (τ.more 1) nt to_ _ (by omega) HD.out HB.out (show i + 1 ≤ s.size by omega) hst (HC.out.le (by omega) HF.1 HF.2) (HG.out.same (Sm.rfl' _ _) HF.1 HF.2)).mono ?_
                rintro e w6 hw
                have HW := hide (hw.sub (nt := nt) HR.out HK.out (Sm.rfl' _ _))
                obtain ⟨v, hv⟩ := WyR.val hw
                obtain rfl := hv
                clear hw
                go_wp2_with fail
                refine bodyPost_ret (v := .int .i64 v) ?_ rfl (HW.out)
                simp [results, Tryd.results79, go_sem]
              · have HR := hide (HO.out.trans (pairM_shut hin2 HY.out hn))
                have hnb : (((n : Int) - 1) == 0) = false := beq_eq_false_iff_ne.2 (by omega)
                go_wp2_with fail
                go_roundw
                case rel => exact ⟨i + 1, n - 1, q, τ.more 1, by simp, by congr 1; omega, by omega, by omega, by omega, by omega, by omega, hst, HF5, HB, HD, HK, HR⟩
                case measure => show s.size + 1 - ivN (.int .i64 _) < s.size + 1 - ivN (.int .i64 _); simp [ivN]; omega
            · have hyb : (hb s i == it.y) = false := beq_eq_false_iff_ne.2 hy
              have HY := hide hy
              clear hy
              by_cases hx2 : hb s i = it.x
              · have hxb2 : (hb s i == it.x) = true := beq_iff_eq.2 hx2
                have HR := hide (HO.out.trans (pairM_open hin2 HY.out hx2))
                have hnb : (((n : Int) + 1) == 0) = false := beq_eq_false_iff_ne.2 (by omega)
                clear hx2
                go_wp2_with fail
                go_roundw
                case rel => exact ⟨i + 1, n + 1, q, τ.more 1, by simp, by simp, by omega, by omega, by omega, by omega, by omega, hst, HF5, HB, HD, HK, HR⟩
                case measure => show s.size + 1 - ivN (.int .i64 _) < s.size + 1 - ivN (.int .i64 _); simp [ivN]; omega
              · have hxb2 : (hb s i == it.x) = false := beq_eq_false_iff_ne.2 hx2
                have HR := hide (HO.out.trans (pairM_past hin2 HY.out hx2))
                have hnb : ((n : Int) == 0) = false := beq_eq_false_iff_ne.2 (by omega)
                clear hx2
                go_wp2_with fail
                go_roundw
                case rel => exact ⟨i + 1, n, q, τ.more 1, by simp, rfl, by omega, by omega, by omega, by omega, by omega, hst, HF5, HB, HD, HK, HR⟩
                case measure => show s.size + 1 - ivN (.int .i64 _) < s.size + 1 - ivN (.int .i64 _); simp [ivN]; omega
          · have hstb : decide (τ.steps + 1 ≤ 50000) = false := decide_eq_false hst
            have HR := hide (show (pairR s it nx at_ σ).2.spent = true by
              rw [HO.out]
              exact pairM_spent (show 50000 ≤ τ.steps by omega) (q + 1) i n τ (by omega) hin2 (by omega))
            go_wp2_with fail
            refine bodyPost_ret (v := .int .i64 2) ?_ rfl (WyR.out HR.out HK.out HB.out (by omega) (by omega))
            simp [results, Tryd.results79, go_sem]
        · have hin3 : ¬ ((i : Int) < (s.size : Int)) := by omega
          have HR := hide (HO.out.trans (pairM_end hin2))
          go_wp2_with fail
          refine bodyPost_ret (v := .int .i64 0) ?_ rfl (WyR.fail HR.out HK.out HB.out hτ (Sm.rfl' _ _))
          simp [results, Tryd.results79, go_sem]
    · have hxb : (hb s at_ != it.x) = true := by simp [hxx]
      have HO := hide (show pairR s it nx at_ σ = (none, σ) by rw [pairR, if_pos (.inr hxx)])
      clear hxx
      go_enter Tryd.func79, Tryd.ntmps79
      go_wp2_with fail
      go_quiet (fail)
      have HD := hide (HX.out.keep _ _ HD.out (((Keeps.refl w (fun b => b = S))).drewN nq))
      have HB := hide (HB.out.keep ((Keeps.refl w (fun _ => False)).drewN nq) (fun x => x))
      have HK := hide (HK.out.drewN nq)
      generalize w.drewN nq = w1 at *
      go_wp2_with fail
      refine bodyPost_ret (v := .int .i64 0) ?_ rfl (WyR.fail HO.out HK.out HB.out h5 (Sm.rfl' _ _))
      simp [results, Tryd.results79, go_sem]
  · have hne : ((at_ : Int) == (s.size : Int)) = true := beq_iff_eq.2 (by omega)
    have HO := hide (show pairR s it nx at_ σ = (none, σ) by rw [pairR, if_pos (.inl hin)])
    go_enter Tryd.func79, Tryd.ntmps79
    go_wp2_with fail
    go_quiet (fail)
    have HD := hide (HX.out.keep _ _ HD.out (((Keeps.refl w (fun b => b = S))).drewN nq))
    have HB := hide (HB.out.keep ((Keeps.refl w (fun _ => False)).drewN nq) (fun x => x))
    have HK := hide (HK.out.drewN nq)
    generalize w.drewN nq = w1 at *
    go_wp2_with fail
    refine bodyPost_ret (v := .int .i64 0) ?_ rfl (WyR.fail HO.out HK.out HB.out h5 (Sm.rfl' _ _))
    simp [results, Tryd.results79, go_sem]

end Go.Proofs.YtemciphihnpniaaDoor
namespace Go.Proofs.YtemciphihnpniaaDoor
open Go Go.RowKit Go.Shelf
set_option linter.unusedVariables false

theorem extract_0 (s : ByteArray) {a k : Nat} (h : a + k ≤ s.size) : (s.extract a s.size).extract 0 k = s.extract a (a + k) := by
  apply ByteArray.ext
  simp only [ByteArray.data_extract, Array.extract_extract]
  rw [Nat.add_zero, Nat.min_eq_left h]
/-- Whether b stands at the beginning of a. -/
def prefB (a b : ByteArray) : Bool := decide (b.size ≤ a.size ∧ a.extract 0 b.size = b)
set_option maxHeartbeats 800000 in
set_option maxRecDepth 100000 in
theorem pref0_any (a b : ByteArray) (w : World) (ha : a.size ≤ 1000000) (hb : b.size ≤ 1000000) :
    Calls Tryd.prog 60 #[.string a, .string b] w fun e w' => e = .returned (.bool (prefB a b)) ∧ w' = w := by
  by_cases h : b.size ≤ a.size
  · have h2 : (b.size : Int) ≤ (a.size : Int) := by omega
    have hsl : ∀ w' : World, (Instr.slice 9 (.string a) none (some (.int .i64 (b.size : Int))) none).run Tryd.prog w' = .ok (.string (a.extract 0 b.size)) w' := fun w' => by
      rw [run_slice_string_to_if w' 9 a .i64 (b.size : Int) Tryd.underlying9]
      simp [h]
    by_cases he : a.extract 0 b.size = b
    · have HD := hide (show prefB a b = true from decide_eq_true ⟨h, he⟩)
      rw [he] at hsl
      clear he
      go_enter Tryd.func60, Tryd.ntmps60
      go_wp2_with fail
      refine bodyPost_ret (v := .bool true) ?_ rfl ⟨ret_b HD.out.symm, rfl⟩
      simp [results, Tryd.results60, go_sem]
    · have HD := hide (show prefB a b = false from decide_eq_false (fun x => he x.2))
      have hEb : ((a.extract 0 b.size).toList == b.toList) = false := by rw [toList_eq]; exact decide_eq_false he
      clear he
      go_enter Tryd.func60, Tryd.ntmps60
      go_wp2_with fail
      refine bodyPost_ret (v := .bool false) ?_ rfl ⟨ret_b HD.out.symm, rfl⟩
      simp [results, Tryd.results60, go_sem]
  · have h2 : ¬ ((b.size : Int) ≤ (a.size : Int)) := by omega
    have HD := hide (show prefB a b = false from decide_eq_false (fun x => h x.1))
    go_enter Tryd.func60, Tryd.ntmps60
    go_wp2_with fail
    refine bodyPost_ret (v := .bool false) ?_ rfl ⟨ret_b HD.out.symm, rfl⟩
    simp [results, Tryd.results60, go_sem]
set_option maxHeartbeats 800000 in
set_option maxRecDepth 100000 in
theorem pref_any (a b : ByteArray) (w : World) (ha : a.size ≤ 1000000) (hb : b.size ≤ 1000000) :
    Calls Tryd.prog 78 #[.string a, .string b] w fun e w' => e = .returned (.bool (prefB a b)) ∧ w' = w := by
  go_enter Tryd.func78, Tryd.ntmps78
  go_wp2_with fail
  refine (pref0_any a b w ha hb).mono ?_
  rintro e w1 ⟨rfl, hw⟩
  obtain rfl := hw.symm
  go_wp2_with fail
  refine bodyPost_ret (v := .bool (prefB a b)) ?_ rfl ⟨rfl, rfl⟩
  simp [results, Tryd.results78, go_sem]
/-- What a capture holds, once more. -/
def backM (s : ByteArray) (b : Bool) (x y : Nat) (nx : Nx) (at_ : Nat) (σ : Ms) : Option Nat × Ms :=
  if b = true then (none, σ) else if s.size < at_ + (y - x) ∨ s.extract at_ (at_ + (y - x)) ≠ s.extract x y then (none, σ) else nx (at_ + (y - x)) σ
set_option maxHeartbeats 3200000 in
set_option maxRecDepth 100000 in
theorem it_back (X : Sx) (pre : List It) (it : It) (nx : Nx) (fn : Nat) (bd cs : Array Value) (D : World → Prop) (at_ : Nat) (σ : Ms) (nt : Nt) (to_ : Nat) (w : World) (hs : X.s.size ≤ 65536)
    (hx : WyOk X (pre ++ [it]) nx fn bd cs D) (hD : D w) (hb : SB w X.S X.s X.fx X.cn X.wh σ.steps nt to_) (ha : at_ ≤ X.s.size) (h5 : σ.steps ≤ 50000) (hc : Cap (pre ++ [it]) σ at_) (hg : Ag (pre ++ [it]) nt σ) (B : Nat) (hBx : w.cell? ⟨B, 0, none⟩ = some (.int .i64 it.n)) (hn : it.n < 16) (b : Bool) (x y : Nat) (hnt : nt it.n = (b, x, y)) (hxy : x ≤ y) (hya : y ≤ at_) :
    Calls Tryd.prog 77 #[.pointer (some ⟨X.S, 0, none⟩), .int .i64 at_, .func (.func fn) bd cs, .pointer (some ⟨B, 0, none⟩)] w fun e w' => WyR X pre w nt (backM X.s b x y nx at_ σ) e w' := by
  obtain ⟨S, s, fx, cn, wh, its⟩ := X
  dsimp only at *
  have e1 := hx.en
  have HX := hide hx
  have HD := hide hD
  have HB := hide hb
  have HC := hide hc
  have HG := hide hg
  have c0 := hb.subj
  clear hx hD hb hc hg
  have n0 := HB.out.n0 hn
  have n1 := HB.out.n1 hn
  have n2 := HB.out.n2 hn
  rw [hnt] at n0 n1 n2
  dsimp only at n0 n1 n2
  have hSl : S < w.heap.size := RowF.lt HB.out
  have hBl : B < w.heap.size := World.block_lt_of_cell? w ⟨B, 0, none⟩ hBx
  have hb9 := b_1 w (.cells #[Value.bool false, .int .i64 0, .int .i64 0] 64)
  have m0 := (hb9.cell (p := ⟨S, 5 + it.n * 3, none⟩) hSl).trans n0
  have m1 := (hb9.cell (p := ⟨S, 5 + it.n * 3 + 1, none⟩) hSl).trans n1
  have m2 := (hb9.cell (p := ⟨S, 5 + it.n * 3 + 2, none⟩) hSl).trans n2
  have m3 := (hb9.cell (p := ⟨B, 0, none⟩) hBl).trans hBx
  have hn2 : (it.n : Int) < 16 := by omega
  have kA : Keeps w (w.alloc (.cells #[Value.bool b, .int .i64 x, .int .i64 y] 64)).drew (fun _ => False) := (Keeps.of (b_1 w _) (Nat.le_refl _) _).drw
  have HB1 := hide (HB.out.keep kA (fun x => x))
  have HD1 := hide (HX.out.keep _ _ HD.out (kA.mono (fun b hb => hb.elim)))
  have HK1 := hide (kA.mono (S' := fun b => b = S) (fun b hb => hb.elim))
  have HV1 := hide (show RowF (w.alloc (.cells #[Value.bool b, .int .i64 x, .int .i64 y] 64)).drew 64 w.heap.size 3 (fun j => #[Value.bool b, .int .i64 x, .int .i64 y].getD j (.bool false)) from (RowF.mk' w 64 #[Value.bool b, .int .i64 x, .int .i64 y]).keep ((Keeps.refl _ (fun _ => False)).drw) (fun x => x))
  clear hnt hb9 kA
  go_enter Tryd.func77, Tryd.ntmps77
  go_wp2_with fail
  go_region
  clear n0 n1 n2 m0 m1 m2 m3 hBx c0 HB HD
  generalize (w.alloc (.cells #[Value.bool b, .int .i64 x, .int .i64 y] 64)).drew = w1 at *
  generalize w.heap.size = V at *
  have HB := HB1
  have HD := HD1
  have HK := HK1
  have HV := HV1
  clear HB1 HD1 HK1 HV1
  have c0 := HB.out.subj
  have v1 : w1.cell? ⟨V, 1, none⟩ = some (.int .i64 x) := HV.out.cell (j := 1) (by omega)
  have v2 : w1.cell? ⟨V, 2, none⟩ = some (.int .i64 y) := HV.out.cell (j := 2) (by omega)
  have hTs : (s.extract x y).size = y - x := by rw [ByteArray.size_extract]; omega
  have hsl : ∀ w' : World, (Instr.slice 9 (.string s) (some (.int .i64 (x : Int))) (some (.int .i64 (y : Int))) none).run Tryd.prog w' = .ok (.string (s.extract x y)) w' := fun w' => by
    rw [run_slice_string w' 9 s .i64 .i64 _ _ Tryd.underlying9 (by omega) (by omega) (by omega), Int.toNat_natCast, Int.toNat_natCast]
  have HBK := hide (show backM s b x y nx at_ σ = if b = true then (none, σ) else if s.size < at_ + (s.extract x y).size ∨ s.extract at_ (at_ + (s.extract x y).size) ≠ s.extract x y then (none, σ) else nx (at_ + (s.extract x y).size) σ by rw [backM, hTs])
  have hT9 : (s.extract x y).size ≤ 65536 := by omega
  clear hTs
  generalize s.extract x y = T at *
  go_wp2_with fail
  go_quiet (fail)
  have HD := hide (HX.out.keep _ _ HD.out (((Keeps.refl w1 (fun b => b = S))).drewN nq))
  have HB := hide (HB.out.keep ((Keeps.refl w1 (fun _ => False)).drewN nq) (fun x => x))
  have HK := hide (HK.out.drewN nq)
  have HV := hide (HV.out.keep ((Keeps.refl w1 (fun _ => False)).drewN nq) (fun x => x))
  generalize w1.drewN nq = w2 at *
  clear c0 v1 v2 hsl
  have c0 := HB.out.subj
  have v0 : w2.cell? ⟨V, 0, none⟩ = some (.bool b) := HV.out.cell (j := 0) (by omega)
  cases b with
  | true =>
    have HO := hide (HBK.out.trans (if_pos rfl))
    go_wp2_with fail
    refine bodyPost_ret (v := .int .i64 0) ?_ rfl (WyR.fail HO.out HK.out HB.out h5 (Sm.rfl' _ _))
    simp [results, Tryd.results77, go_sem]
  | false =>
    have HBK2 := hide (HBK.out.trans (if_neg (by simp)))
    have hsf : ∀ w' : World, (Instr.slice 9 (.string s) (some (.int .i64 (at_ : Int))) none none).run Tryd.prog w' = .ok (.string (s.extract at_ s.size)) w' := fun w' => by
      rw [run_slice_string_from_if w' 9 s .i64 (at_ : Int) Tryd.underlying9]
      simp [ha]
    have hes : (s.extract at_ s.size).size = s.size - at_ := by rw [ByteArray.size_extract]; omega
    have HPr := hide (fun w9 => pref_any (s.extract at_ s.size) T w9 (by omega) (by omega))
    have HES := hide hes
    clear hes
    go_wp2_with fail
    refine (HPr.out _).mono ?_
    rintro e w3 ⟨rfl, hw⟩
    obtain rfl := hw.symm
    by_cases hp : T.size ≤ (s.extract at_ s.size).size ∧ (s.extract at_ s.size).extract 0 T.size = T
    · have hpb : prefB (s.extract at_ s.size) T = true := decide_eq_true hp
      have hin : at_ + T.size ≤ s.size := by have h9 := hp.1; rw [HES.out] at h9; omega
      have hEq : s.extract at_ (at_ + T.size) = T := by rw [← extract_0 s hin]; exact hp.2
      have HO := hide (HBK2.out.trans (if_neg (by rintro (h | h); omega; exact h hEq)))
      clear hp hEq
      rw [hpb]
      clear hpb
      go_wp2_with fail
      refine (HX.out.go (at_ + T.size) _ σ nt to_ _ (by omega) HD.out HB.out (show at_ + T.size ≤ s.size by omega) h5 (HC.out.le (by omega) rfl rfl) HG.out).mono ?_
      rintro e w4 hw
      have HW := hide (hw.sub (nt := nt) HO.out HK.out (Sm.rfl' _ _))
      obtain ⟨v, hv⟩ := WyR.val hw
      obtain rfl := hv
      clear hw
      go_wp2_with fail
      refine bodyPost_ret (v := .int .i64 v) ?_ rfl (HW.out)
      simp [results, Tryd.results77, go_sem]
    · have hpb : prefB (s.extract at_ s.size) T = false := decide_eq_false hp
      have HO := hide (HBK2.out.trans (if_pos (by
        rcases Nat.lt_or_ge s.size (at_ + T.size) with c | c
        · exact .inl c
        · refine .inr fun h => hp ⟨by rw [HES.out]; omega, ?_⟩
          rw [extract_0 s c]; exact h)))
      clear hp
      rw [hpb]
      clear hpb
      go_wp2_with fail
      refine bodyPost_ret (v := .int .i64 0) ?_ rfl (WyR.fail HO.out HK.out HB.out h5 (Sm.rfl' _ _))
      simp [results, Tryd.results77, go_sem]

end Go.Proofs.YtemciphihnpniaaDoor
namespace Go.Proofs.YtemciphihnpniaaDoor
open Go Go.RowKit Go.Shelf
set_option linter.unusedVariables false

theorem WyR.pre {X : Sx} {pre : List It} {w w1 w' : World} {nt : Nt} {r : Option Nat × Ms} {e : Ending} (h : WyR X pre w1 nt r e w') (k : Keeps w w1 (fun b => b = X.S)) : WyR X pre w nt r e w' := by
  obtain ⟨h1, h2⟩ := h
  exact ⟨k.trans h1, h2⟩
/-- An item, behind the step that it counts. -/
def itM (s : ByteArray) (pl : Nat → Bool) (it : It) (nx : Nx) (at_ : Nat) (σ : Ms) : Option Nat × Ms :=
  if it.kind = 0 then oneM s it nx at_ σ
  else if it.kind = 1 ∨ it.kind = 2 then openM it nx at_ σ
  else if it.kind = 3 then shutM it nx at_ σ
  else if it.kind = 4 then backM s (pl it.n) (σ.fr it.n) (σ.tt it.n) nx at_ σ
  else if it.kind = 5 then pairR s it nx at_ σ
  else if it.kind = 6 then edgeM s it nx at_ σ
  else endM s nx at_ σ
theorem tryM_itM {s : ByteArray} {pl : Nat → Bool} {it : It} {rest : List It} {at_ : Nat} {σ : Ms} (h : (σ.more 1).spent = false) : tryM s pl (it :: rest) at_ σ = itM s pl it (tryM s pl rest) at_ (σ.more 1) := by
  rw [tryM]
  simp only
  rw [if_neg (by rw [h]; simp), itM]
  rfl
/-- The item value (fi, ci) is the item `it` behind pre; E: what must lie in memory for that. -/
structure ItOk (X : Sx) (pl : Nat → Bool) (pre : List It) (it : It) (fi : Nat) (ci : Array Value) (E : World → Prop) : Prop where
  en : ∀ (args : Array Value) (w : World), (callFunc fi args).run Tryd.prog w = .ok (.enter fi args) w
  keep : ∀ w w', E w → Keeps w w' (fun b => b = X.S) → E w'
  go : ∀ (nx : Nx) (fn : Nat) (bd cs : Array Value) (D : World → Prop) (at_ : Nat) (σ : Ms) (nt : Nt) (to_ : Nat) (w : World), WyOk X (pre ++ [it]) nx fn bd cs D → Rest nx → D w → E w → SB w X.S X.s X.fx X.cn X.wh σ.steps nt to_ → at_ ≤ X.s.size → σ.steps ≤ 50000 → Cap pre σ at_ → Ag pre nt σ →
    Calls Tryd.prog fi (#[.pointer (some ⟨X.S, 0, none⟩), .int .i64 at_, .func (.func fn) bd cs] ++ ci) w fun e w' => WyR X pre w nt (itM X.s pl it nx at_ σ) e w'

set_option maxHeartbeats 800000 in
set_option maxRecDepth 100000 in
/-- The end of all items. -/
theorem way_end (X : Sx) (pl : Nat → Bool) : WyOk X X.its (tryM X.s pl []) 39 #[.pointer (some ⟨X.S, 0, none⟩)] #[] (fun _ => True) := by
  refine ⟨enters_of Tryd.func39 (by kernel_rfl) rfl, fun _ _ _ _ => trivial, ?_⟩
  intro at_ ai σ nt to_ w hai _ hb ha h5 hc hg
  subst hai
  obtain ⟨S, s, fx, cn, wh, its⟩ := X
  dsimp only at *
  have c := hb.end_
  have z : w.frozen? ⟨S, 53, none⟩ = false := RowF.frz hb 53
  have HB := hide (hb.setE at_)
  have HK := hide (SB.kS (w := w) (S := S) (.int .i64 (at_ : Int)) 53)
  have HG := hide hg
  have hsp : σ.spent = false := by unfold Ms.spent; simpa using h5
  clear hb hc hg
  show Calls Tryd.prog 39 #[.pointer (some ⟨S, 0, none⟩), .int .i64 (at_ : Int)] w _
  go_enter Tryd.func39, Tryd.ntmps39
  go_wp2_with fail
  refine bodyPost_ret (v := .int .i64 1) ?_ rfl ⟨HK.out, _, _, _, HB.out, .inr (.inl ⟨hsp, ⟨at_, rfl, rfl⟩, rfl, rfl, HG.out⟩)⟩
  simp [results, Tryd.results39, go_sem]

set_option maxHeartbeats 1600000 in
set_option maxRecDepth 100000 in
/-- One item more, in a closure of its own. -/
theorem way_step (X : Sx) (pl : Nat → Bool) (pre rest : List It) (it : It) (fi : Nat) (ci : Array Value) (E : World → Prop) (fn : Nat) (bd cs : Array Value) (D : World → Prop) (bs bi bn : Nat) (h1 : bs ≠ X.S) (h2 : bi ≠ X.S) (h3 : bn ≠ X.S)
    (hi : ItOk X pl pre it fi ci E) (hw : WyOk X (pre ++ [it]) (tryM X.s pl rest) fn bd cs D) :
    WyOk X pre (tryM X.s pl (it :: rest)) 41 #[] #[.pointer (some ⟨bs, 0, none⟩), .pointer (some ⟨bi, 0, none⟩), .pointer (some ⟨bn, 0, none⟩)]
      (fun w => w.cell? ⟨bs, 0, none⟩ = some (.pointer (some ⟨X.S, 0, none⟩)) ∧ w.cell? ⟨bi, 0, none⟩ = some (.func (.func fi) #[] ci) ∧ w.cell? ⟨bn, 0, none⟩ = some (.func (.func fn) bd cs) ∧ E w ∧ D w) := by
  refine ⟨enters_of Tryd.func41 (by kernel_rfl) rfl, fun w w' h k => ⟨cell_keep k h1 h.1, cell_keep k h2 h.2.1, cell_keep k h3 h.2.2.1, hi.keep _ _ h.2.2.2.1 k, hw.keep _ _ h.2.2.2.2 k⟩, ?_⟩
  rintro at_ ai σ nt to_ w hai ⟨d1, d2, d3, dE, dD⟩ hb ha h5 hc hg
  subst hai
  obtain ⟨S, s, fx, cn, wh, its⟩ := X
  dsimp only at *
  have e1 := hi.en
  have HI := hide hi
  have HW := hide hw
  have HE := hide dE
  have HD := hide dD
  have HB := hide hb
  have HC := hide hc
  have HG := hide hg
  clear hi hw dE dD hb hc hg
  show Calls Tryd.prog 41 #[.int .i64 (at_ : Int), .pointer (some ⟨bs, 0, none⟩), .pointer (some ⟨bi, 0, none⟩), .pointer (some ⟨bn, 0, none⟩)] w _
  go_enter Tryd.func41, Tryd.ntmps41
  go_wp2_with fail
  refine (step_any w (by omega) HB.out).mono ?_
  rintro e w1 ⟨rfl, hb1, hk1⟩
  have HB1 := hide hb1
  have HK1 := hide hk1
  by_cases hst : σ.steps + 1 ≤ 50000
  · have hstb : decide (σ.steps + 1 ≤ 50000) = true := decide_eq_true hst
    have hsp : (σ.more 1).spent = false := decide_eq_false (show ¬ 50000 < σ.steps + 1 by omega)
    have HO := hide (tryM_itM (s := s) (pl := pl) (it := it) (rest := rest) (at_ := at_) hsp)
    have g1 := cell_keep hk1 h1 d1
    have g2 := cell_keep hk1 h2 d2
    have g3 := cell_keep hk1 h3 d3
    have HE1 := hide (HI.out.keep _ _ HE.out hk1)
    have HD1 := hide (HW.out.keep _ _ HD.out hk1)
    clear hb1 hk1 d1 d2 d3 HE HD HB
    go_wp2_with fail
    refine (HI.out.go (tryM s pl rest) fn bd cs D at_ (σ.more 1) nt to_ w1 HW.out (tryM_rest s pl rest) HD1.out HE1.out HB1.out ha hst (HC.out.le (Nat.le_refl _) rfl rfl) (HG.out.same (Sm.rfl' _ _) rfl rfl)).mono ?_
    rintro e w2 hw
    have HR := hide (show WyR ⟨S, s, fx, cn, wh, its⟩ pre w nt (tryM s pl (it :: rest) at_ σ) e w2 by rw [HO.out]; exact hw.pre HK1.out)
    obtain ⟨v, hv⟩ := WyR.val hw
    obtain rfl := hv
    clear hw
    go_wp2_with fail
    refine bodyPost_ret (v := .int .i64 v) ?_ rfl HR.out
    simp [results, Tryd.results41, go_sem]
  · have hstb : decide (σ.steps + 1 ≤ 50000) = false := decide_eq_false hst
    have hsp : (σ.more 1).spent = true := decide_eq_true (show 50000 < σ.steps + 1 by omega)
    have HO := hide (show (tryM s pl (it :: rest) at_ σ).2.spent = true by rw [tryM_sp hsp]; exact hsp)
    clear hb1 hk1 d1 d2 d3
    go_wp2_with fail
    refine bodyPost_ret (v := .int .i64 2) ?_ rfl (WyR.out HO.out HK1.out HB1.out (by omega) (by omega))
    simp [results, Tryd.results41, go_sem]

end Go.Proofs.YtemciphihnpniaaDoor
