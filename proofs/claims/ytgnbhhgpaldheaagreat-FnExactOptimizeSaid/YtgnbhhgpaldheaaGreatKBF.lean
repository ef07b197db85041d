import Derived.Test.YtgnbhhgpaldheaaGreatKBE
namespace Go.Proofs.YtgnbhhgpaldheaaGreat
open Go Go.RowKit
set_option linter.unusedVariables false
def shape2 (p : PV) : Prop := p.params ≤ 180 ∧ p.params ≤ p.regs ∧ inI p.regs 1 250 = true ∧ p.nu ≤ 60 ∧ p.nc ≤ 4000 ∧ inI (p.ni : Int) 1 20000 = true
def lastOk (p : PV) : Prop := p.params = 0 ∧ p.dots = true ∧ p.nu = 0
def shapeOk (n : Nat) (P : Nat → PV) (k : Nat) : Prop := plainOk (P k) ∧ shape2 (P k) ∧ (k + 1 = n → lastOk (P k))
def allBits (n : Nat) (P : Nat → PV) : Prop := ∀ k, k < n → (P k).bitsOk
set_option maxHeartbeats 1600000 in
set_option maxRecDepth 100000 in
theorem l08Shape_any (v : Value) (n : Nat) (P : Nat → PV) (k : Nat) (w : World) (hk : k < n) (hn : n ≤ 1048576) (hf : allFit n P 1048576) (hbit : allBits n P) (h : ProsA w v n P) :
    Calls Tryz.prog 28 #[.agg #[v], .int .i64 k] w fun e w' => RetB (shapeOk n P k) w e w' := by
  rcases h with ⟨h9, _⟩ | ⟨b, o, cap, rfl, hb, hcap, hc⟩
  · omega
  obtain ⟨s4, s5, s6, s7, hc8, hpva⟩ := hc k hk
  clear hc
  have hA := b_1 w (.cells #[.slice (some ⟨b, o, none⟩) n cap] 28)
  obtain ⟨c0, c1, c2, c3, c4, c5, c6, c7⟩ := hc8.low hA hb
  clear hA
  have hf := hf k hk
  have hbit := hbit k hk
  generalize hp : P k = p at *
  obtain ⟨a4, k4, rfl⟩ := hpva.u.val
  obtain ⟨a5, k5, rfl⟩ := hpva.c.val
  obtain ⟨a6, k6, rfl⟩ := hpva.i.val
  obtain ⟨a7, k7, rfl⟩ := hpva.l.val
  have HP := hide hp
  clear hp
  have HF := hide hf
  have HBit := hide hbit
  have HA := hide hpva
  clear hf hbit hpva hc8
  go_enter Tryz.func28, Tryz.ntmps28
  go_wp2_with fail
  have hB := b_2 w (.cells #[.slice (some ⟨b, o, none⟩) n cap] 28) (.cells #[.int .i64 p.params, .int .i64 p.regs, .int .i64 p.line, .bool p.dots, .slice a4 p.nu k4, .slice a5 p.nc k5, .slice a6 p.ni k6, .slice a7 p.nl k7] 45)
  have hPC := PC.mk (w.alloc (.cells #[.slice (some ⟨b, o, none⟩) n cap] 28)) 45 p (.slice a4 p.nu k4) (.slice a5 p.nc k5) (.slice a6 p.ni k6) (.slice a7 p.nl k7)
  have hR := RowF.mk' w 28 #[.slice (some ⟨b, o, none⟩) n cap]
  have hR2 := hR.low (b_1 _ (.cells #[.int .i64 p.params, .int .i64 p.regs, .int .i64 p.line, .bool p.dots, .slice a4 p.nu k4, .slice a5 p.nc k5, .slice a6 p.ni k6, .slice a7 p.nl k7] 45)) hR.lt
  have u1 : (w.alloc (.cells #[.slice (some ⟨b, o, none⟩) n cap] 28)).heap.size = w.heap.size + 1 := by simp
  rw [u1] at hPC
  clear c0 c1 c2 c3 c4 c5 c6 c7 hR u1
  generalize (w.alloc (.cells #[.slice (some ⟨b, o, none⟩) n cap] 28)).alloc (.cells #[.int .i64 p.params, .int .i64 p.regs, .int .i64 p.line, .bool p.dots, .slice a4 p.nu k4, .slice a5 p.nc k5, .slice a6 p.ni k6, .slice a7 p.nl k7] 45) = w1 at hB hPC hR2 ⊢
  refine (l07Plain_any p _ _ _ _ w1 HF.out HBit.out (HA.out.low hB (Nat.le_refl _))).mono ?_
  rintro e w2 ⟨r, rfl, hr, hb2⟩
  have HB2 := hide (hB.trans (hb2.mono hB.size))
  have hPC2 := hPC.low hb2 hPC.1
  have e0 := (hR2.low hb2 hR2.lt).cell (j := 0) (by simp)
  simp only [Array.getD, List.size_toArray, List.length_cons, List.length_nil] at e0
  obtain ⟨-, d0, d1, d2, d3, d4, d5, d6, d7⟩ := hPC2
  clear hB hb2 hPC hR2
  have hni : (p.ni : Int) ≤ 1048576 := by have := HF.out.2.2.1; omega
  have hnu : (p.nu : Int) ≤ 1048576 := by have := HF.out.1; omega
  have hnc : (p.nc : Int) ≤ 1048576 := by have := HF.out.2.1; omega
  rcases hr with ⟨rfl, hr⟩ | ⟨rfl, hr⟩
  · have HR := hide hr
    clear hr
    by_cases hs : ¬ shape2 p
    · have HN := hide hs
      clear hs
      rcases hl : inI (p.ni : Int) 1 20000 with _ | _ <;>
      go_wp2_with (go_at_call 27; refine (l07In_any _ _ _ _).mono ?_; rintro e w' ⟨rfl, rfl⟩)
      all_goals first | (go_ret; exact ⟨_, rfl, .inr ⟨rfl, fun h => HN.out (HP.out ▸ h.2.1)⟩, HB2.out⟩) | (exfalso; apply HN.out; refine ⟨?_, ?_, ?_, ?_, ?_, ?_⟩ <;> first | assumption | omega)
    · replace hs := Classical.not_not.1 hs
      have HS := hide hs
      obtain ⟨j1, j2, j3, j4, j5, j6⟩ := hs
      have i1 : ¬ ((180 : Int) < p.params) := by omega
      have i2 : ¬ (p.regs < p.params) := by omega
      have i4 : ¬ ((60 : Int) < (p.nu : Int)) := by omega
      have i5 : ¬ ((4000 : Int) < (p.nc : Int)) := by omega
      by_cases hlast : k + 1 = n
      · have hke : ((k : Int) == (n : Int) - 1) = true := by simp; omega
        by_cases hq : ¬ lastOk p
        · have HN := hide hq
          clear hq
          have hz : (p.nu = 0 ∧ ((p.nu : Int) != 0) = false) ∨ (p.nu ≠ 0 ∧ ((p.nu : Int) != 0) = true) := by
            by_cases e : p.nu = 0
            · exact .inl ⟨e, by simp [e]⟩
            · exact .inr ⟨e, by simp [e]⟩
          rcases hz with ⟨z1, z2⟩ | ⟨z1, z2⟩ <;>
          go_wp2_with (go_at_call 27; refine (l07In_any _ _ _ _).mono ?_; rintro e w' ⟨rfl, rfl⟩)
          all_goals first | (go_ret; exact ⟨_, rfl, .inr ⟨rfl, fun h => HN.out (HP.out ▸ h.2.2 hlast)⟩, HB2.out⟩) | (exfalso; apply HN.out; refine ⟨?_, ?_, ?_⟩ <;> first | assumption | omega)
        · replace hq := Classical.not_not.1 hq
          have HQ := hide hq
          obtain ⟨y1, y2, y3⟩ := hq
          go_wp2_with (go_at_call 27; refine (l07In_any _ _ _ _).mono ?_; rintro e w' ⟨rfl, rfl⟩)
          all_goals first | (go_ret; exact ⟨_, rfl, .inl ⟨rfl, HP.out ▸ HR.out, HP.out ▸ HS.out, fun _ => HP.out ▸ HQ.out⟩, HB2.out⟩)
      · have hke : ((k : Int) == (n : Int) - 1) = false := by simp; omega
        go_wp2_with (go_at_call 27; refine (l07In_any _ _ _ _).mono ?_; rintro e w' ⟨rfl, rfl⟩)
        all_goals first | (go_ret; exact ⟨_, rfl, .inl ⟨rfl, HP.out ▸ HR.out, HP.out ▸ HS.out, fun h => absurd h hlast⟩, HB2.out⟩)
  · go_wp2
    go_ret
    exact ⟨_, rfl, .inr ⟨rfl, fun h => hr (HP.out ▸ h.1)⟩, HB2.out⟩
end Go.Proofs.YtgnbhhgpaldheaaGreat
