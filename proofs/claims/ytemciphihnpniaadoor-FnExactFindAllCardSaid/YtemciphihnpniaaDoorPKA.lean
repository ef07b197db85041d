import Derived.Test.YtemciphihnpniaaDoorJQY1
import Derived.Deep.RegionLaw
namespace Go.Proofs.YtemciphihnpniaaDoor
open Go Go.RowKit
set_option linter.unusedVariables false

set_option maxHeartbeats 3200000 in
set_option maxRecDepth 100000 in
theorem item_shut (R : Nat) (p : ByteArray) (rd : Rd) (us : List (It × Value)) (vi vo vd : Value) (w : World) (hp : p.size ≤ 200) (hpos : rd.pos < p.size) (hj : RdJ rd) (hu : us.length ≤ rd.pos ∧ rd.opn.length ≤ rd.pos ∧ rd.done.length ≤ rd.pos) (hit : us.map Prod.fst = rd.items) (h : QR w R p rd.pos us rd.opn rd.done vi vo vd) (h41 : hb p rd.pos = 41) :
    Calls Tryd.prog 33 #[.pointer (some ⟨R, 0, none⟩)] w fun e w' => ItR R p rd.pos (rdItem p rd) w e w' := by
  by_cases h1 : rd.pos + 1 < p.size
  · obtain ⟨pos, items, opn, done⟩ := rd
    dsimp only at *
    have hu1 := hu.1
    have hu2 := hu.2.1
    have hu3 := hu.2.2
    have HJ := hide hj
    clear hu hj
    have hRl := h.lt
    have HQ := hide h
    clear h
    go_enter Tryd.func33, Tryd.ntmps33
    go_wp2_with fail
    refine (here_in R p pos 0 false vi vo vd w (by omega) (by omega) (by omega) HQ.out.b (by omega)).mono ?_
    rintro e w1 ⟨rfl, hk1⟩
    rw [Nat.add_zero]
    have HQ1 := hide (HQ.out.keep hk1)
    have HB1 := hide (below_keeps (R := R) hk1 (by omega))
    clear hk1 HQ
    go_wp2_with fail
    refine (here_in R p pos 1 false vi vo vd w1 (by omega) (by omega) (by omega) HQ1.out.b (by omega)).mono ?_
    rintro e w2 ⟨rfl, hk2⟩
    have HQ := hide (HQ1.out.keep hk2)
    have HB := hide (HB1.out.trans (below_keeps (R := R) hk2 (by have := HB1.out.size; omega)))
    have hs2 : R < w2.heap.size := HQ.out.lt
    clear hk2 HQ1 HB1
    have b1 : (hb p pos == 40) = false := beq_eq_false_iff_ne.2 (by omega)
    have b2 : (hb p pos == 41) = true := beq_iff_eq.2 h41
    have c4 : w2.cell? ⟨R, 4, none⟩ = some vo := RowF.cell HQ.out.b (j := 4) (by omega)
    rcases List.eq_nil_or_concat opn with rfl | ⟨op, n, hop⟩
    · obtain ⟨ao, ko, hvo⟩ := owns_val HQ.out.n
      rw [hvo] at c4
      simp only [List.length_nil] at c4
      have HR := hide (show rdItem p ⟨pos, items, [], done⟩ = none by
        rw [rdItem, if_neg (by simp only; omega), if_pos h41]; rfl)
      clear h41
      have b2 : w2.cell? ⟨R, 2, none⟩ = some (.bool false) := RowF.cell HQ.out.b (j := 2) (by omega)
      have zb2 : w2.frozen? ⟨R, 2, none⟩ = false := RowF.frz HQ.out.b 2
      have HBad := hide (RdB.isBad HQ.out.b)
      have HBb := hide (HB.out.setCell (p := ⟨R, 2, none⟩) (Nat.le_refl _) (.bool true))
      go_wp2_with fail
      refine bodyPost_ret (v := .tuple #[]) ?_ rfl ⟨rfl, HBb.out, .inr ⟨HR.out, pos, vi, _, _, by omega, HBad.out⟩⟩
      simp [results, Tryd.results33, go_sem]
    · rw [List.concat_eq_append] at hop
      subst hop
      have hnd : n < done.length := by
        obtain ⟨j, hj1, hj2, hj3⟩ := HJ.out.opn n (by simp)
        have := HJ.out.lt j hj1 (by omega) (by omega)
        simp only at this
        omega
      have HR := hide (show rdItem p ⟨pos, items, op ++ [n], done⟩ = some ⟨pos + 1, items ++ [itShut n], op, done.set n true⟩ by
        rw [rdItem, if_neg (by simp only; omega), if_pos h41]; simp)
      clear h41
      obtain ⟨go, co, hvo, hc4, hco⟩ := HQ.out.open_cell
      subst hvo
      have hne : (((op.length : Int) + 1) == 0) = false := beq_eq_false_iff_ne.2 (by omega)
      have hol : op.length ≤ 1000 := by simp at hu2; omega
      go_wp2_with fail
      go_quiet (fail)
      have HQ3 := hide (HQ.out.keep ((Keeps.refl w2 _).drewN nq))
      have HB3 := hide (HB.out.trans (below_keeps (R := R) ((Keeps.refl w2 _).drewN nq) (by omega)))
      clear HQ HB c4 hc4
      generalize w2.drewN nq = w3 at *
      go_wp2_with fail
      have c4 : w3.cell? ⟨R, 4, none⟩ = some (.slice (some ⟨go, 0, none⟩) (op.length + 1) co) := RowF.cell HQ3.out.b (j := 4) (by omega)
      have z4 := RowF.frz HQ3.out.b 4
      have hs3 : R < w3.heap.size := HQ3.out.lt
      go_region
      have HQ4 := hide (HQ3.out.cut1.keep ((Keeps.refl _ _).dr1))
      have HB4 := hide ((HB3.out.setCell (p := ⟨R, 4, none⟩) (Nat.le_refl _) (.slice (some ⟨go, 0, none⟩) op.length co)).drew)
      clear HQ3 HB3 c4 z4
      generalize (w3.setCell ⟨R, 4, none⟩ (.slice (some ⟨go, 0, none⟩) op.length co)).drew = w4 at *
      obtain ⟨gd, kd, hvd, hcd, hzd, hgR⟩ := HQ4.out.done_cell hnd
      subst hvd
      have c5 : w4.cell? ⟨R, 5, none⟩ = some (.slice (some ⟨gd, 0, none⟩) done.length kd) := RowF.cell HQ4.out.b (j := 5) (by omega)
      have hnd2 : (n : Int) < (done.length : Int) := by omega
      go_upto_region 24 with (fail)
      have HQ5 := hide (HQ4.out.set_d (g := gd) rfl hnd)
      have HB5 := hide (HB4.out.setCell (p := ⟨gd, n, none⟩) (show R ≤ gd by omega) (.bool true))
      clear HQ4 HB4 c5 hcd hzd
      generalize w4.setCell ⟨gd, n, none⟩ (.bool true) = w6 at *
      have HQ := HQ5
      have HB := HB5
      clear HQ5 HB5
      have c1 : w6.cell? ⟨R, 1, none⟩ = some (.int .i64 (pos : Int)) := RowF.cell HQ.out.b (j := 1) (by omega)
      have zc1 : w6.frozen? ⟨R, 1, none⟩ = false := RowF.frz HQ.out.b 1
      go_upto_region 25 with (fail)
      clear c1 zc1
      have HQ9 := hide (HQ.out.posn (pos + 1))
      have HB9 := hide (HB.out.setCell (p := ⟨R, 1, none⟩) (Nat.le_refl _) (.int .i64 ((pos + 1 : Nat) : Int)))
      rw [show ((pos + 1 : Nat) : Int) = (pos : Int) + 1 by omega] at HQ9 HB9
      clear HQ HB
      have HQ := HQ9
      have HB := HB9
      clear HQ9 HB9
      generalize w6.setCell ⟨R, 1, none⟩ (.int .i64 ((pos : Int) + 1)) = w7 at *
      have hs2 : R < w7.heap.size := HQ.out.lt
      have c3 : w7.cell? ⟨R, 3, none⟩ = some vi := RowF.cell HQ.out.b (j := 3) (by omega)
      go_wp2_with (first
        | (have _z := HQ
           at_builtin
           clear _z
           refine app_new rfl _ _ 53 83 6 56 _ rfl Tryd.underlying53 Tryd.info83 rfl (by omega) (R + 1) vi us.length (itsC us) [.int .i64 3, nilS, .int .u8 0, .int .i64 (n : Int), .int .u8 0, .int .u8 0] HQ.out.i rfl rfl rfl (one_it (itShut n) none 0 0) (by omega) (by omega) (by have := HQ.out.lt; omega) ?_
           intro v' w5 h1 _ h2 h3
           obtain ⟨a9, k9, rfl⟩ := owns_val h1
           have HQ5 := hide (HQ.out.app_i (itShut n, nilS) (setv_nil _ (by show (3 : Nat) ≠ 0; omega) (by show (3 : Nat) ≠ 6; omega)) (fun g hg => nil_own g hg) h1 h2 h3)
           have HB5 := hide (h2 R w HB.out (by omega))
           have c5 : w5.cell? ⟨R, 3, none⟩ = some vi := ((h2 _ _ (Below.refl (R + 1) w7) (Nat.le_refl _)).cell (p := ⟨R, 3, none⟩) (Nat.lt_succ_self _)).trans (RowF.cell HQ.out.b (j := 3) (by omega))
           have z5 : w5.frozen? ⟨R, 3, none⟩ = false := (RowF.low HQ.out.b (h2 _ _ (Below.refl (R + 1) w7) (Nat.le_refl _)) (Nat.lt_succ_self _)).frz 3
           clear h1 h2 h3 HQ)
        | fail)
      have HB6 := hide (HB5.out.setCell (p := ⟨R, 3, none⟩) (Nat.le_refl _) (.slice a9 (us.length + 1) k9))
      go_end0
      exact ⟨rfl, HB6.out, .inl ⟨⟨pos + 1, items ++ [itShut n], op, done.set n true⟩, us ++ [(itShut n, nilS)], .slice a9 (us.length + 1) k9, _, _, HR.out, by simp [hit], HQ5.out, by simp, by simp; omega⟩⟩
  · obtain ⟨pos, items, opn, done⟩ := rd
    dsimp only at *
    have hu1 := hu.1
    have hu2 := hu.2.1
    have hu3 := hu.2.2
    have HJ := hide hj
    clear hu hj
    have hRl := h.lt
    have HQ := hide h
    clear h
    go_enter Tryd.func33, Tryd.ntmps33
    go_wp2_with fail
    refine (here_in R p pos 0 false vi vo vd w (by omega) (by omega) (by omega) HQ.out.b (by omega)).mono ?_
    rintro e w1 ⟨rfl, hk1⟩
    rw [Nat.add_zero]
    have HQ1 := hide (HQ.out.keep hk1)
    have HB1 := hide (below_keeps (R := R) hk1 (by omega))
    clear hk1 HQ
    go_wp2_with fail
    refine (here_out R p pos 1 false vi vo vd w1 (by omega) (by omega) (by omega) HQ1.out.b (by omega)).mono ?_
    rintro e w2 ⟨rfl, hk2⟩
    have HQ := hide (HQ1.out.keep hk2)
    have HB := hide (HB1.out.trans (below_keeps (R := R) hk2 (by have := HB1.out.size; omega)))
    have hs2 : R < w2.heap.size := HQ.out.lt
    clear hk2 HQ1 HB1
    have b1 : (hb p pos == 40) = false := beq_eq_false_iff_ne.2 (by omega)
    have b2 : (hb p pos == 41) = true := beq_iff_eq.2 h41
    have c4 : w2.cell? ⟨R, 4, none⟩ = some vo := RowF.cell HQ.out.b (j := 4) (by omega)
    rcases List.eq_nil_or_concat opn with rfl | ⟨op, n, hop⟩
    · obtain ⟨ao, ko, hvo⟩ := owns_val HQ.out.n
      rw [hvo] at c4
      simp only [List.length_nil] at c4
      have HR := hide (show rdItem p ⟨pos, items, [], done⟩ = none by
        rw [rdItem, if_neg (by simp only; omega), if_pos h41]; rfl)
      clear h41
      have b2 : w2.cell? ⟨R, 2, none⟩ = some (.bool false) := RowF.cell HQ.out.b (j := 2) (by omega)
      have zb2 : w2.frozen? ⟨R, 2, none⟩ = false := RowF.frz HQ.out.b 2
      have HBad := hide (RdB.isBad HQ.out.b)
      have HBb := hide (HB.out.setCell (p := ⟨R, 2, none⟩) (Nat.le_refl _) (.bool true))
      go_wp2_with fail
      refine bodyPost_ret (v := .tuple #[]) ?_ rfl ⟨rfl, HBb.out, .inr ⟨HR.out, pos, vi, _, _, by omega, HBad.out⟩⟩
      simp [results, Tryd.results33, go_sem]
    · rw [List.concat_eq_append] at hop
      subst hop
      have hnd : n < done.length := by
        obtain ⟨j, hj1, hj2, hj3⟩ := HJ.out.opn n (by simp)
        have := HJ.out.lt j hj1 (by omega) (by omega)
        simp only at this
        omega
      have HR := hide (show rdItem p ⟨pos, items, op ++ [n], done⟩ = some ⟨pos + 1, items ++ [itShut n], op, done.set n true⟩ by
        rw [rdItem, if_neg (by simp only; omega), if_pos h41]; simp)
      clear h41
      obtain ⟨go, co, hvo, hc4, hco⟩ := HQ.out.open_cell
      subst hvo
      have hne : (((op.length : Int) + 1) == 0) = false := beq_eq_false_iff_ne.2 (by omega)
      have hol : op.length ≤ 1000 := by simp at hu2; omega
      go_wp2_with fail
      go_quiet (fail)
      have HQ3 := hide (HQ.out.keep ((Keeps.refl w2 _).drewN nq))
      have HB3 := hide (HB.out.trans (below_keeps (R := R) ((Keeps.refl w2 _).drewN nq) (by omega)))
      clear HQ HB c4 hc4
      generalize w2.drewN nq = w3 at *
      go_wp2_with fail
      have c4 : w3.cell? ⟨R, 4, none⟩ = some (.slice (some ⟨go, 0, none⟩) (op.length + 1) co) := RowF.cell HQ3.out.b (j := 4) (by omega)
      have z4 := RowF.frz HQ3.out.b 4
      have hs3 : R < w3.heap.size := HQ3.out.lt
      go_region
      have HQ4 := hide (HQ3.out.cut1.keep ((Keeps.refl _ _).dr1))
      have HB4 := hide ((HB3.out.setCell (p := ⟨R, 4, none⟩) (Nat.le_refl _) (.slice (some ⟨go, 0, none⟩) op.length co)).drew)
      clear HQ3 HB3 c4 z4
      generalize (w3.setCell ⟨R, 4, none⟩ (.slice (some ⟨go, 0, none⟩) op.length co)).drew = w4 at *
      obtain ⟨gd, kd, hvd, hcd, hzd, hgR⟩ := HQ4.out.done_cell hnd
      subst hvd
      have c5 : w4.cell? ⟨R, 5, none⟩ = some (.slice (some ⟨gd, 0, none⟩) done.length kd) := RowF.cell HQ4.out.b (j := 5) (by omega)
      have hnd2 : (n : Int) < (done.length : Int) := by omega
      go_upto_region 24 with (fail)
      have HQ5 := hide (HQ4.out.set_d (g := gd) rfl hnd)
      have HB5 := hide (HB4.out.setCell (p := ⟨gd, n, none⟩) (show R ≤ gd by omega) (.bool true))
      clear HQ4 HB4 c5 hcd hzd
      generalize w4.setCell ⟨gd, n, none⟩ (.bool true) = w6 at *
      have HQ := HQ5
      have HB := HB5
      clear HQ5 HB5
      have c1 : w6.cell? ⟨R, 1, none⟩ = some (.int .i64 (pos : Int)) := RowF.cell HQ.out.b (j := 1) (by omega)
      have zc1 : w6.frozen? ⟨R, 1, none⟩ = false := RowF.frz HQ.out.b 1
      go_upto_region 25 with (fail)
      clear c1 zc1
      have HQ9 := hide (HQ.out.posn (pos + 1))
      have HB9 := hide (HB.out.setCell (p := ⟨R, 1, none⟩) (Nat.le_refl _) (.int .i64 ((pos + 1 : Nat) : Int)))
      rw [show ((pos + 1 : Nat) : Int) = (pos : Int) + 1 by omega] at HQ9 HB9
      clear HQ HB
      have HQ := HQ9
      have HB := HB9
      clear HQ9 HB9
      generalize w6.setCell ⟨R, 1, none⟩ (.int .i64 ((pos : Int) + 1)) = w7 at *
      have hs2 : R < w7.heap.size := HQ.out.lt
      have c3 : w7.cell? ⟨R, 3, none⟩ = some vi := RowF.cell HQ.out.b (j := 3) (by omega)
      go_wp2_with (first
        | (have _z := HQ
           at_builtin
           clear _z
           refine app_new rfl _ _ 53 83 6 56 _ rfl Tryd.underlying53 Tryd.info83 rfl (by omega) (R + 1) vi us.length (itsC us) [.int .i64 3, nilS, .int .u8 0, .int .i64 (n : Int), .int .u8 0, .int .u8 0] HQ.out.i rfl rfl rfl (one_it (itShut n) none 0 0) (by omega) (by omega) (by have := HQ.out.lt; omega) ?_
           intro v' w5 h1 _ h2 h3
           obtain ⟨a9, k9, rfl⟩ := owns_val h1
           have HQ5 := hide (HQ.out.app_i (itShut n, nilS) (setv_nil _ (by show (3 : Nat) ≠ 0; omega) (by show (3 : Nat) ≠ 6; omega)) (fun g hg => nil_own g hg) h1 h2 h3)
           have HB5 := hide (h2 R w HB.out (by omega))
           have c5 : w5.cell? ⟨R, 3, none⟩ = some vi := ((h2 _ _ (Below.refl (R + 1) w7) (Nat.le_refl _)).cell (p := ⟨R, 3, none⟩) (Nat.lt_succ_self _)).trans (RowF.cell HQ.out.b (j := 3) (by omega))
           have z5 : w5.frozen? ⟨R, 3, none⟩ = false := (RowF.low HQ.out.b (h2 _ _ (Below.refl (R + 1) w7) (Nat.le_refl _)) (Nat.lt_succ_self _)).frz 3
           clear h1 h2 h3 HQ)
        | fail)
      have HB6 := hide (HB5.out.setCell (p := ⟨R, 3, none⟩) (Nat.le_refl _) (.slice a9 (us.length + 1) k9))
      go_end0
      exact ⟨rfl, HB6.out, .inl ⟨⟨pos + 1, items ++ [itShut n], op, done.set n true⟩, us ++ [(itShut n, nilS)], .slice a9 (us.length + 1) k9, _, _, HR.out, by simp [hit], HQ5.out, by simp, by simp; omega⟩⟩

end Go.Proofs.YtemciphihnpniaaDoor
