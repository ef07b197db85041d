import Derived.Test.YtamdnnkdnhkghaaGreatDoorQ23
import Derived.Test.YtamdnnkdnhkghaaGreatDoorQ24
import Derived.Test.YtamdnnkdnhkghaaGreatDoorQ26
import Derived.Test.YtamdnnkdnhkghaaGreatDoorQ27
import Derived.Test.YtamdnnkdnhkghaaGreatDoorQ28
namespace Go.Proofs.YtamdnnkdnhkghaaGreatDoor
open Go Go.RowKit
set_option linter.unusedVariables false

theorem left_any (g G o nd k : Nat) (D : Nat → Int) (dp : Int) (tr : Bool) (w : World) (h : DecAt w g D nd dp tr) (hC : Cheats w G o) (hN : Norm D nd) (hnd0 : nd ≠ 0) (hk1 : 1 ≤ k) (hk : k ≤ 60) (hdp1 : -100000 ≤ dp) (hdp2 : dp ≤ 100000) :
    Calls Tryz.prog 245 #[.pointer (some ⟨g, 0, none⟩), .int .u64 k] w fun e w' => ShR (dv D nd * 2 ^ k) (dp - nd) tr g w e w' := by
  have hr := cheat_all ⟨k, by omega⟩
  unfold cheatB at hr
  rw [decide_eq_true_eq] at hr
  obtain ⟨r1, r2, r3, r4, r5, r6, r7, r8, r9⟩ := hr hk1
  simp only at r1 r2 r3 r4 r5 r6 r7 r8 r9
  obtain ⟨s, hs1, hs2⟩ := hC.cut k (by omega)
  obtain ⟨hs3, hs4⟩ := cheat_sb hs2
  have hd := hC.delta k (by omega)
  have hok : OkDig (sb s) s.size := fun i hi => by rw [hs4 i hi]; exact r8 i (by omega)
  have hlast : sb s (s.size - 1) ≠ 48 := by rw [hs4 _ (by omega), hs3]; exact r9
  have h5 : dv (sb s) s.size = 5 ^ k := by rw [dv_congr hs4, hs3]; exact r5
  have hdig := cheat_digits r6 r7 r3 r2 (dv_ge hN.ok hnd0 (hN.head hnd0)) (dv_lt hN.ok) hnd0
  cases hb : preL D nd s with
  | true =>
    have hlt : dv D nd * 10 ^ s.size < dv (sb s) s.size * 10 ^ nd := by
      have := hb; unfold preL at this; rwa [decide_eq_true_eq] at this
    rw [h5, hs3] at hlt
    have hd2 := hdig.1 hlt
    refine left_t g G o nd k (nd + (k - (cheatRow k).2.length)) (k - (cheatRow k).2.length) D dp tr s w h hC.slice ?_ hs1 hN hnd0 hk1 hk hdp1 hdp2 (by omega) hok hlast (by omega) hb (hide rfl) hd2.1 hd2.2
    rw [hd]; congr 2; omega
  | false =>
    have hge : ¬ dv D nd * 10 ^ s.size < dv (sb s) s.size * 10 ^ nd := by
      have := hb; unfold preL at this; rwa [decide_eq_false_iff_not] at this
    rw [h5, hs3] at hge
    have hd2 := hdig.2 (by omega)
    refine left_f g G o nd k (nd + (k - (cheatRow k).2.length + 1)) (k - (cheatRow k).2.length + 1) D dp tr s w h hC.slice ?_ hs1 hN hnd0 hk1 hk hdp1 hdp2 (by omega) hok hlast (by omega) hb (hide rfl) hd2.1 hd2.2
    rw [hd]; congr 2; omega

theorem right_any (g nd k : Nat) (D : Nat → Int) (dp : Int) (tr : Bool) (w : World) (h : DecAt w g D nd dp tr) (hN : Norm D nd) (hnd0 : nd ≠ 0) (hk1 : 1 ≤ k) (hk : k ≤ 60) (hdp1 : -100000 ≤ dp) (hdp2 : dp ≤ 100000) :
    Calls Tryz.prog 246 #[.pointer (some ⟨g, 0, none⟩), .int .u64 k] w fun e w' => ShR (dv D nd * 5 ^ k) (dp - nd - k) tr g w e w' := by
  rcases Nat.lt_or_ge (dv D nd) (2 ^ k) with c | c
  · exact right_b g nd k D dp tr w h hN hnd0 hk1 hk hdp1 hdp2 (hide c)
  · exact right_a g nd k D dp tr w h hN hnd0 hk1 hk hdp1 hdp2 (hide c)


theorem Cheats.below {w w' : World} {g G o : Nat} (h : Cheats w G o) (hb : Below g w w') (h12 : 21 < g) (hG : G < g) : Cheats w' G o := by
  have hc : ∀ i, w'.cell? ⟨G, i, none⟩ = w.cell? ⟨G, i, none⟩ := fun i => hb.cell hG
  refine ⟨Nat.lt_of_lt_of_le h.size hb.size, Nat.lt_of_lt_of_le h.hG hb.size, (hb.cell h12).trans h.slice, fun k hk => (hc _).trans (h.delta k hk), fun k hk => ?_⟩
  obtain ⟨s, h1, h2⟩ := h.cut k hk
  exact ⟨s, (hc _).trans h1, h2⟩

/-- What is left behind a shift. -/
def FBR (A B Q g : Nat) (w : World) (e : Ending) (w' : World) : Prop :=
  e = .returned (.tuple #[]) ∧ ∃ D nd dp tr, DecAt w' g D (nd : Nat) dp tr ∧ FB A B Q D nd dp tr ∧ D (nd - 1) ≠ 48 ∧ Below g w w'

theorem left_fb {A B Q Q' b g G o nd k : Nat} {D : Nat → Int} {dp : Int} {tr : Bool} {w : World} (h : DecAt w g D nd dp tr) (hC : Cheats w G o) (hF : FB A B Q D nd dp tr) (hk1 : 1 ≤ k) (hk : k ≤ 60) (hQ' : Q' + k ≤ Q ∨ (B ∣ A * 10 ^ Q ∧ Q' = Q))
    (hb : A * 2 ^ k < B * 10 ^ b) (hbQ : b + Q' ≤ 800) (hlo : B ≤ A * 2 ^ k * 10 ^ Q') : Calls Tryz.prog 245 #[.pointer (some ⟨g, 0, none⟩), .int .u64 k] w fun e w' => FBR (A * 2 ^ k) B Q' g w e w' := by
  have h1 := hF.lo
  have h2 := hF.hi
  refine (left_any g G o nd k D dp tr w h hC hF.norm hF.ne hk1 hk (by omega) (by omega)).mono ?_
  rintro e w' ⟨rfl, D', nd', dp', tr', a1, a2, a3⟩
  exact ⟨rfl, D', nd', dp', tr', a1, hF.left a2 hQ' hb hbQ hlo, a2.2.2.1, a3⟩

theorem right_fb {A B Q b g nd k : Nat} {D : Nat → Int} {dp : Int} {tr : Bool} {w : World} (h : DecAt w g D nd dp tr) (hF : FB A B Q D nd dp tr) (hk1 : 1 ≤ k) (hk : k ≤ 60)
    (hb : A < B * 2 ^ k * 10 ^ b) (hbQ : b + Q ≤ 800) (hlo : B * 2 ^ k ≤ A * 10 ^ Q) : Calls Tryz.prog 246 #[.pointer (some ⟨g, 0, none⟩), .int .u64 k] w fun e w' => FBR A (B * 2 ^ k) Q g w e w' := by
  have h1 := hF.lo
  have h2 := hF.hi
  refine (right_any g nd k D dp tr w h hF.norm hF.ne hk1 hk (by omega) (by omega)).mono ?_
  rintro e w' ⟨rfl, D', nd', dp', tr', a1, a2, a3⟩
  exact ⟨rfl, D', nd', dp', tr', a1, hF.right hk a2 hb hbQ hlo, a2.2.2.1, a3⟩
end Go.Proofs.YtamdnnkdnhkghaaGreatDoor

namespace Go.Proofs.YtamdnnkdnhkghaaGreatDoor
open Go Go.RowKit
set_option linter.unusedVariables false

set_option maxHeartbeats 800000 in
set_option maxRecDepth 100000 in
theorem shiftL {A B Q Q' b g G o nd k : Nat} {D : Nat → Int} {dp : Int} {tr : Bool} {w : World} (h : DecAt w g D nd dp tr) (hC : Cheats w G o) (hF : FB A B Q D nd dp tr) (hk1 : 1 ≤ k) (hk : k ≤ 60) (hQ' : Q' + k ≤ Q ∨ (B ∣ A * 10 ^ Q ∧ Q' = Q))
    (hb : A * 2 ^ k < B * 10 ^ b) (hbQ : b + Q' ≤ 800) (hlo : B ≤ A * 2 ^ k * 10 ^ Q') : Calls Tryz.prog 212 #[.pointer (some ⟨g, 0, none⟩), .int .i64 k] w fun e w' => FBR (A * 2 ^ k) B Q' g w e w' := by
  have c0 := h.nd
  have h0 : ((nd : Int) == 0) = false := by have := hF.ne; rw [beq_eq_false_iff_ne]; omega
  have L := fun (w' : World) (e : w' = w) => e ▸ left_fb h hC hF hk1 hk hQ' hb hbQ hlo
  have HL := hide L
  clear L h hC hF hQ' hb hbQ hlo
  have hk2 : (1 : Int) ≤ k := by omega
  have hk3 : (k : Int) ≤ 60 := by omega
  have hk4 : IntKind.u64.wrap (k : Int) = (k : Int) := u64_id (by omega) (by omega)
  go_enter Tryz.func212, Tryz.ntmps212
  go_wp2
  go_loopg [1] 0 (fun gk kv wr => kv = .int .i64 k ∧ wr = w)
  case atStart => exact ⟨rfl, rfl⟩
  case round =>
    obtain ⟨rfl, rfl⟩ := hrel
    go_wp2_with fail
    refine (HL.out _ rfl).mono ?_
    rintro e w' ⟨rfl, hh⟩
    go_wp2
    go_end0
    exact ⟨rfl, hh⟩

set_option maxHeartbeats 800000 in
set_option maxRecDepth 100000 in
theorem shiftR {A B Q b g nd k : Nat} {D : Nat → Int} {dp : Int} {tr : Bool} {w : World} (h : DecAt w g D nd dp tr) (hF : FB A B Q D nd dp tr) (hk1 : 1 ≤ k) (hk : k ≤ 10000)
    (hb : A < B * 10 ^ b) (hbQ : b + Q ≤ 800) (hlo : B * 2 ^ k ≤ A * 10 ^ Q) (z : Int) (hz : z = -(k : Int)) : Calls Tryz.prog 212 #[.pointer (some ⟨g, 0, none⟩), .int .i64 z] w fun e w' => FBR A (B * 2 ^ k) Q g w e w' := by
  have H := hide h
  have HF := hide hF
  have Hb := hide hb
  have Hlo := hide hlo
  have HbQ := hide hbQ
  have c0 := h.nd
  have h0 : ((nd : Int) == 0) = false := by have := hF.ne; rw [beq_eq_false_iff_ne]; omega
  clear h hF hb hlo hbQ
  have hz1 : z < 0 := by omega
  have Hz := hide hz
  clear hz
  go_enter Tryz.func212, Tryz.ntmps212
  go_wp2
  go_loopg [1] k (fun gk kv wr => ∃ (m nd' : Nat) (y : Int) (D' : Nat → Int) (dp' : Int) (tr' : Bool), gk = m ∧ 1 ≤ m ∧ m ≤ k ∧ kv = .int .i64 y ∧ Hid (y = -(m : Int)) ∧ DecAt wr g D' nd' dp' tr' ∧ Hid (FB A (B * 2 ^ (k - m)) Q D' nd' dp' tr') ∧ Below g w wr)
  case atStart => exact ⟨k, nd, z, D, dp, tr, rfl, hk1, Nat.le_refl _, rfl, Hz, H.out, hide (by rw [Nat.sub_self, Nat.pow_zero, Nat.mul_one]; exact HF.out), Below.refl _ _⟩
  case round =>
    obtain ⟨m, nd', y, D', dp', tr', rfl, hm1, hmk, rfl, Hy, hd, HF', hbw⟩ := hrel
    have Hd := hide hd
    have Hbw := hide hbw
    clear hd hbw c0 h0 H HF
    have up : ∀ x : Nat, Hid (A < B * 2 ^ x * 10 ^ b) := fun x => hide (by
      have h1 := Hb.out
      have h2 : B * 1 ≤ B * 2 ^ x := Nat.mul_le_mul_left _ (Nat.pow_pos (by omega))
      have h3 := Nat.mul_le_mul_right (10 ^ b) h2
      rw [Nat.mul_one] at h3
      omega)
    have lw : ∀ x : Nat, Hid (x ≤ k → B * 2 ^ x ≤ A * 10 ^ Q) := fun x => hide (fun hx => Nat.le_trans (Nat.mul_le_mul_left _ (Nat.pow_le_pow_right (by omega) hx)) Hlo.out)
    by_cases h60 : 60 < gk
    · have hy : y < -60 := by have := Hy.out; omega
      have e1 : B * 2 ^ (k - gk) * 2 ^ 60 = B * 2 ^ (k - (gk - 60)) := by rw [Nat.mul_assoc, ← Nat.pow_add]; congr 2; omega
      have R := right_fb (b := b) Hd.out HF'.out (k := 60) (by omega) (by omega) (by rw [e1]; exact (up _).out) HbQ.out (by rw [e1]; exact (lw _).out (by omega))
      rw [e1] at R
      have HR := hide R
      clear R e1
      go_wp2_with fail
      refine (HR.out).mono ?_
      rintro e w' ⟨rfl, D2, nd2, dp2, tr2, hd2, hF2, hl2, hb2⟩
      have Hd2 := hide hd2
      have HF2 := hide hF2
      have Hb2 := hide hb2
      clear hd2 hF2 hb2 hl2
      have hy2 : -100000 ≤ y := by have := Hy.out; omega
      go_wp2
      go_roundg (gk - 60)
      case rel => exact ⟨gk - 60, nd2, y + 60, D2, dp2, tr2, rfl, by omega, by omega, by go_num, hide (by have := Hy.out; omega), Hd2.out, HF2, Hbw.out.trans Hb2.out⟩
      case measure => omega
    · have hy : ¬ y < -60 := by have := Hy.out; omega
      have hy1 : -60 ≤ y := by omega
      have hy2 : y < 0 := by have := Hy.out; omega
      have hy3 : IntKind.u64.wrap (-y) = (gk : Int) := by have := Hy.out; rw [u64_id (by omega) (by omega)]; omega
      have e1 : B * 2 ^ (k - gk) * 2 ^ gk = B * 2 ^ k := by rw [Nat.mul_assoc, ← Nat.pow_add]; congr 2; omega
      have R := right_fb (b := b) Hd.out HF'.out (k := gk) (by omega) (by omega) (by rw [e1]; exact (up _).out) HbQ.out (by rw [e1]; exact (lw _).out (by omega))
      rw [e1] at R
      have HR := hide R
      clear R e1
      go_wp2_with fail
      refine (HR.out).mono ?_
      rintro e w' ⟨rfl, D2, nd2, dp2, tr2, hd2, hF2, hl2, hb2⟩
      go_wp2
      go_end0
      exact ⟨rfl, D2, nd2, dp2, tr2, hd2, hF2, hl2, Hbw.out.trans hb2⟩
end Go.Proofs.YtamdnnkdnhkghaaGreatDoor
