import Derived.Test.YtemciphihnpniaaDoorJQY1
import Derived.Deep.RegionLaw
namespace Go.Proofs.YtemciphihnpniaaDoor
open Go Go.RowKit
set_option linter.unusedVariables false

set_option maxHeartbeats 3200000 in
set_option maxRecDepth 100000 in
theorem item_place (R : Nat) (p : ByteArray) (rd : Rd) (us : List (It × Value)) (vi vo vd : Value) (w : World) (hp : p.size ≤ 200) (hpos : rd.pos < p.size) (hj : RdJ rd) (hu : us.length ≤ rd.pos ∧ rd.opn.length ≤ rd.pos ∧ rd.done.length ≤ rd.pos) (hit : us.map Prod.fst = rd.items) (h : QR w R p rd.pos us rd.opn rd.done vi vo vd) (h40 : hb p rd.pos = 40) (h1 : rd.pos + 1 < p.size) (h41 : hb p (rd.pos + 1) = 41) :
    Calls Tryd.prog 33 #[.pointer (some ⟨R, 0, none⟩)] w fun e w' => ItR R p rd.pos (rdItem p rd) w e w' := by
  obtain ⟨pos, items, opn, done⟩ := rd
  dsimp only at *
  have hu1 := hu.1
  have hu2 := hu.2.1
  have hu3 := hu.2.2
  have HJ := hide hj
  clear hu hj
  have hRl := h.lt
  have HQ := hide h
  clear h
  go_enter Tryd.func33, Tryd.ntmps33
  go_wp2_with fail
  refine (here_in R p pos 0 false vi vo vd w (by omega) (by omega) (by omega) HQ.out.b (by omega)).mono ?_
  rintro e w1 ⟨rfl, hk1⟩
  rw [Nat.add_zero]
  have HQ1 := hide (HQ.out.keep hk1)
  have HB1 := hide (below_keeps (R := R) hk1 (by omega))
  clear hk1 HQ
  go_wp2_with fail
  refine (here_in R p pos 1 false vi vo vd w1 (by omega) (by omega) (by omega) HQ1.out.b (by omega)).mono ?_
  rintro e w2 ⟨rfl, hk2⟩
  have HQ := hide (HQ1.out.keep hk2)
  have HB := hide (HB1.out.trans (below_keeps (R := R) hk2 (by have := HB1.out.size; omega)))
  have hs2 : R < w2.heap.size := HQ.out.lt
  clear hk2 HQ1 HB1
  have HR := hide (show rdItem p ⟨pos, items, opn, done⟩ = some ⟨pos + 2, items ++ [itPlace done.length], opn, done ++ [true]⟩ by
    rw [rdItem, if_pos h40, if_pos ⟨h1, h41⟩])
  have b2 : (hb p (pos + 1) == 41) = true := beq_iff_eq.2 h41
  clear h41
  have b1 : (hb p pos == 40) = true := beq_iff_eq.2 h40
  clear h40
  have c5 : w2.cell? ⟨R, 5, none⟩ = some vd := RowF.cell HQ.out.b (j := 5) (by omega)
  go_upto_region 10 with (first
    | (have _z := HQ
       at_builtin
       clear _z
       refine app_at rfl _ _ 54 4 1 1 _ rfl Tryd.underlying54 Tryd.info4 rfl (by omega) (R + 1) vd done.length (boC done) [.bool false] HQ.out.d rfl rfl rfl (one_b1 false) (by omega) (by omega) (by omega) ?_
       intro v' w5 h1' h2 h3 h4
       obtain ⟨a9, k9, rfl⟩ := owns_val h1'
       have HQ5 := hide (HQ.out.app_d false h1' h2 h3 h4)
       have HB5 := hide (h2 R w HB.out (by omega))
       have c9 : w5.cell? ⟨R, 5, none⟩ = some vd := ((h2 _ _ (Below.refl (R + 1) w2) (Nat.le_refl _)).cell (p := ⟨R, 5, none⟩) (Nat.lt_succ_self _)).trans (RowF.cell HQ.out.b (j := 5) (by omega))
       have z9 : w5.frozen? ⟨R, 5, none⟩ = false := (RowF.low HQ.out.b (h2 _ _ (Below.refl (R + 1) w2) (Nat.le_refl _)) (Nat.lt_succ_self _)).frz 5
       clear h1' h2 h3 h4 HQ)
    | fail)
  have HB := hide (HB5.out.setCell (p := ⟨R, 5, none⟩) (Nat.le_refl _) (.slice a9 (done.length + 1) k9))
  clear c5 c9 z9 HB5
  generalize w5.setCell ⟨R, 5, none⟩ (.slice a9 (done.length + 1) k9) = w3 at *
  have HQ := HQ5
  clear HQ5
  have c5 : w3.cell? ⟨R, 5, none⟩ = some (.slice a9 (done.length + 1) k9) := RowF.cell HQ.out.b (j := 5) (by omega)
  have hs3 : R < w3.heap.size := HQ.out.lt
  have hvX : ∀ g, vi.ownBlock = some g → g ≠ w3.heap.size := fun g hg => by have := (owns_blt HQ.out.i hg).2; omega
  have kb : Keeps w3 (w3.alloc (.cells #[.int .i64 2, nilS, .int .u8 0, .int .i64 done.length, .int .u8 0, .int .u8 0] 83)) (fun _ => False) := Keeps.of (b_1 w3 _) (Nat.le_refl _) _
  have HQ4 := hide (HQ.out.keep kb)
  have HB4 := hide (HB.out.trans (below_keeps (R := R) kb (by omega)))
  have HX := hide (show RowF (w3.alloc (.cells #[.int .i64 2, nilS, .int .u8 0, .int .i64 done.length, .int .u8 0, .int .u8 0] 83)) 83 w3.heap.size 6 (fun j => #[Value.int .i64 2, nilS, .int .u8 0, .int .i64 done.length, .int .u8 0, .int .u8 0].getD j (.bool false)) from RowF.mk' w3 83 #[.int .i64 2, nilS, .int .u8 0, .int .i64 done.length, .int .u8 0, .int .u8 0])
  clear HQ HB kb
  go_upto_region 12 with (fail)
  clear c5
  generalize w3.alloc (.cells #[.int .i64 2, nilS, .int .u8 0, .int .i64 done.length, .int .u8 0, .int .u8 0] 83) = w4 at *
  generalize w3.heap.size = X at *
  have HQ := HQ4
  have HB := HB4
  clear HQ4 HB4
  obtain ⟨gd, kd, hvd, hcd, hzd, hgR⟩ := HQ.out.done_cell (j := done.length) (by simp)
  simp only [List.length_append, List.length_singleton, Value.slice.injEq, true_and] at hvd
  obtain ⟨rfl, rfl⟩ := hvd
  have c5 : w4.cell? ⟨R, 5, none⟩ = some (.slice (some ⟨gd, 0, none⟩) (done.length + 1) k9) := RowF.cell HQ.out.b (j := 5) (by omega)
  go_region
  have HQ5 := hide ((HQ.out.set_d (g := gd) (j := done.length) rfl (by simp)).keep ((Keeps.refl _ _).dr1))
  rw [show (done ++ [false]).set done.length true = done ++ [true] by simp] at HQ5
  have HB5 := hide ((HB.out.setCell (p := ⟨gd, done.length, none⟩) (show R ≤ gd by omega) (.bool true)).drew)
  have kd : Keeps w4 (w4.setCell ⟨gd, done.length, none⟩ (.bool true)).drew (fun b => b = gd) := ((Keeps.refl w4 (fun b => b = gd)).setCell (S := fun b => b = gd) (j := done.length) rfl (.bool true)).dr1
  obtain ⟨fd, hfd⟩ := owns_rowF HQ.out.d (g := gd) rfl
  have HX5 := hide (HX.out.keep kd (fun e => RowF.apart HX.out hfd (by decide) e))
  clear HQ HB HX kd hfd c5 hcd hzd
  generalize (w4.setCell ⟨gd, done.length, none⟩ (.bool true)).drew = w6 at *
  have y0 : w6.cell? ⟨X, 0, none⟩ = some (.int .i64 2) := HX5.out.cell (j := 0) (by omega)
  have yz := HX5.out.frz 0
  go_upto_region 14 with (fail)
  have HQ := hide (HQ5.out.putX (j := 0) (x := .int .i64 1) HX5.out hvX)
  have HB := hide (HB5.out.setCell (p := ⟨X, 0, none⟩) (show R ≤ X by omega) (.int .i64 1))
  have HX := hide ((HX5.out.set (j := 0) (by omega) (.int .i64 1)).congr (f' := fun j => #[Value.int .i64 1, nilS, .int .u8 0, .int .i64 done.length, .int .u8 0, .int .u8 0].getD j (.bool false)) fun j hj => by
    rcases j with _ | _ | _ | _ | _ | _ | j
    all_goals simp
    all_goals omega)
  clear HQ5 HB5 HX5 y0 yz
  generalize w6.setCell ⟨X, 0, none⟩ (.int .i64 1) = w7 at *
  have c1 : w7.cell? ⟨R, 1, none⟩ = some (.int .i64 (pos : Int)) := RowF.cell HQ.out.b (j := 1) (by omega)
  have zc1 : w7.frozen? ⟨R, 1, none⟩ = false := RowF.frz HQ.out.b 1
  go_upto_region 16 with (fail)
  clear c1 zc1
  have HQ9 := hide (HQ.out.posn (pos + 1))
  have HB9 := hide (HB.out.setCell (p := ⟨R, 1, none⟩) (Nat.le_refl _) (.int .i64 ((pos + 1 : Nat) : Int)))
  rw [show ((pos + 1 : Nat) : Int) = (pos : Int) + 1 by omega] at HQ9 HB9
  have HX9 := hide (HX.out.keep ((Keeps.refl w7 (fun b => b = R)).setCell (S := fun b => b = R) (j := 1) rfl (.int .i64 ((pos + 1 : Nat) : Int))) (fun e => RowF.apart HX.out HQ.out.b (by decide) e))
  rw [show ((pos + 1 : Nat) : Int) = (pos : Int) + 1 by omega] at HX9
  clear HX
  have HX := HX9
  clear HX9
  clear HQ HB
  have HQ := HQ9
  have HB := HB9
  clear HQ9 HB9
  generalize w7.setCell ⟨R, 1, none⟩ (.int .i64 ((pos : Int) + 1)) = w8 at *
  have hs2 : R < w8.heap.size := HQ.out.lt
  obtain ⟨P1, hP1⟩ : ∃ P1, P1 = pos + 1 := ⟨_, rfl⟩
  rw [← hP1] at HQ
  have hP2 : (P1 : Int) = (pos : Int) + 1 := by omega
  have hP9 : P1 ≤ 1000 := by omega
  rw [← hP2]
  have HP1 := hide hP1
  clear hP1 hP2
  have c1 : w8.cell? ⟨R, 1, none⟩ = some (.int .i64 (P1 : Int)) := RowF.cell HQ.out.b (j := 1) (by omega)
  have zc1 : w8.frozen? ⟨R, 1, none⟩ = false := RowF.frz HQ.out.b 1
  go_upto_region 17 with (fail)
  clear c1 zc1
  have HQ9 := hide (HQ.out.posn (P1 + 1))
  have HB9 := hide (HB.out.setCell (p := ⟨R, 1, none⟩) (Nat.le_refl _) (.int .i64 ((P1 + 1 : Nat) : Int)))
  rw [show ((P1 + 1 : Nat) : Int) = (P1 : Int) + 1 by omega] at HQ9 HB9
  have HX9 := hide (HX.out.keep ((Keeps.refl w8 (fun b => b = R)).setCell (S := fun b => b = R) (j := 1) rfl (.int .i64 ((P1 + 1 : Nat) : Int))) (fun e => RowF.apart HX.out HQ.out.b (by decide) e))
  rw [show ((P1 + 1 : Nat) : Int) = (P1 : Int) + 1 by omega] at HX9
  clear HX
  have HX := HX9
  clear HX9
  clear HQ HB
  have HQ := HQ9
  have HB := HB9
  clear HQ9 HB9
  generalize w8.setCell ⟨R, 1, none⟩ (.int .i64 ((P1 : Int) + 1)) = w10 at *
  have hs2 : R < w10.heap.size := HQ.out.lt
  rw [HP1.out] at HQ
  have x0 : w10.cell? ⟨X, 0, none⟩ = some (.int .i64 1) := RowF.cell HX.out (j := 0) (by omega)
  have x1 : w10.cell? ⟨X, 1, none⟩ = some (nilS) := RowF.cell HX.out (j := 1) (by omega)
  have x2 : w10.cell? ⟨X, 2, none⟩ = some (.int .u8 0) := RowF.cell HX.out (j := 2) (by omega)
  have x3 : w10.cell? ⟨X, 3, none⟩ = some (.int .i64 done.length) := RowF.cell HX.out (j := 3) (by omega)
  have x4 : w10.cell? ⟨X, 4, none⟩ = some (.int .u8 0) := RowF.cell HX.out (j := 4) (by omega)
  have x5 : w10.cell? ⟨X, 5, none⟩ = some (.int .u8 0) := RowF.cell HX.out (j := 5) (by omega)
  have HQd := hide (HQ.out.keep ((Keeps.refl w10 _).dr1))
  have HBd := hide (show Below R w w10.drew from HB.out.drew)
  clear HQ HB
  have HQ := HQd
  have HB := HBd
  clear HQd HBd
  have c3 : w10.drew.cell? ⟨R, 3, none⟩ = some vi := RowF.cell HQ.out.b (j := 3) (by omega)
  have c33 : (w10.alloc (.cells #[.int .i64 1, nilS, .int .u8 0, .int .i64 done.length, .int .u8 0, .int .u8 0] 83)).cell? ⟨R, 3, none⟩ = some vi := ((b_1 w10 _).cell (p := ⟨R, 3, none⟩) HQ.out.lt).trans c3
  go_region_law (first
    | (have _z := HQ
       rw [if_pos (by rfl)]
       clear _z
       refine app_new_opd _ _ 53 83 6 56 _ rfl Tryd.underlying53 Tryd.info83 rfl (by omega) (R + 1) vi us.length (itsC us) [.int .i64 1, nilS, .int .u8 0, .int .i64 done.length, .int .u8 0, .int .u8 0] HQ.out.i rfl rfl rfl (one_it (itPlace done.length) none 0 0) (by omega) (by omega) (by have := HQ.out.lt; omega) ?_
       intro v' w5 h1 h2 h3
       obtain ⟨a9, k9, rfl⟩ := owns_val h1
       have HQ5 := hide (HQ.out.app_i (itPlace done.length, nilS) (setv_nil _ (by show (1 : Nat) ≠ 0; omega) (by show (1 : Nat) ≠ 6; omega)) (fun g hg => nil_own g hg) h1 h2 h3)
       have HB5 := hide (h2 R w HB.out (by omega))
       have c5 : w5.cell? ⟨R, 3, none⟩ = some vi := ((h2 _ _ (Below.refl (R + 1) w10.drew) (Nat.le_refl _)).cell (p := ⟨R, 3, none⟩) (Nat.lt_succ_self _)).trans (RowF.cell HQ.out.b (j := 3) (by omega))
       have z5 : w5.frozen? ⟨R, 3, none⟩ = false := (RowF.low HQ.out.b (h2 _ _ (Below.refl (R + 1) w10.drew) (Nat.le_refl _)) (Nat.lt_succ_self _)).frz 3
       clear h1 h2 h3 HQ)
    | fail)
  all_goals
    clear c5 z5
    have HB6 := hide (HB5.out.setCell (p := ⟨R, 3, none⟩) (Nat.le_refl _) (.slice a9 (us.length + 1) k9))
    go_wp2_with fail
    go_end0
    exact ⟨rfl, HB6.out, .inl ⟨⟨pos + 2, items ++ [itPlace done.length], opn, done ++ [true]⟩, us ++ [(itPlace done.length, nilS)], .slice a9 (us.length + 1) k9, _, _, HR.out, by simp [hit], HQ5.out, by simp, by simp; omega⟩⟩

end Go.Proofs.YtemciphihnpniaaDoor
