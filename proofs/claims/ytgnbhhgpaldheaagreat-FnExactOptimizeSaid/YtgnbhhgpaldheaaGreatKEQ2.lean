import Derived.Test.YtgnbhhgpaldheaaGreatKEQ1
namespace Go.Proofs.YtgnbhhgpaldheaaGreat
open Go Go.RowKit
set_option linter.unusedVariables false
set_option maxHeartbeats 1600000 in
set_option maxRecDepth 100000 in
theorem markProtoS_f (G n cap : Nat) (Y : Nat → FW) (w : World) (hn : n ≤ 1048576) (hc : n ≤ cap) (hwt : wtY Y n ≤ 1048576) (hr : LayP n Y) (h : MkS w G n Y 1 0) :
    Calls Tryz.prog 24 #[.slice (some ⟨G, 0, none⟩) n cap, .int .i64 1] w fun e w' => e = .returned (.int .i64 (kF Y 1 n)) ∧ MkS w' G n Y 1 n ∧ Keeps w w' (fun b => b = G ∨ ∃ j, j < n ∧ FvB (Y j) b) := by
  have HW := hide hwt
  have HR := hide hr
  have HE := hide h
  clear hwt hr h
  go_enter Tryz.func24, Tryz.ntmps24
  go_wp2
  go_loopw [1, 5] (fun kv iv wr => ∃ i : Nat, i ≤ n ∧ iv = .int .i64 i ∧ kv = .int .i64 (kF Y 1 i) ∧ Hid (MkS wr G n Y 1 i) ∧ Hid (Keeps w wr (fun b => b = G ∨ ∃ j, j < n ∧ FvB (Y j) b))) (fun _ iv _ => n - ivN iv)
  case atStart => exact ⟨0, by omega, rfl, rfl, HE, hide (Keeps.refl _ _)⟩
  case round =>
    clear HE
    obtain ⟨i, hi9, rfl, rfl, HE, HK⟩ := hrel
    by_cases hin : i < n
    · obtain ⟨f, hf, hS, hM⟩ := HE.out.row
      obtain ⟨y4, y5, y6, y7⟩ := hS i hin
      obtain ⟨⟨f4, o1⟩, ⟨f5, o2⟩, ⟨f6, o3⟩, ⟨f7, o4⟩⟩ := HE.out.new i (Nat.le_refl _) hin
      have HP := hide (show ∀ j, j < n → PlF wr (Y j) from fun j hj => by
        rcases Nat.lt_or_ge j i with c | c
        · exact (HE.out.old j c hj).pl
        · exact HE.out.new j c hj)
      have HWi := hide (wtY_mono Y (Nat.le_of_lt hin))
      have HWj := hide (show wtY Y (i + 1) ≤ wtY Y n from wtY_mono Y hin)
      have HW1 := hide (wtY_1 Y i)
      have HNu := hide (show (Y i).nu ≤ 1048576 ∧ (Y i).nc ≤ 1048576 ∧ (Y i).ni ≤ 1048576 ∧ 1 ≤ kF Y 1 i ∧ kF Y 1 i + fvK (Y i) ≤ 9000000 by
        have h1 := HW1.out
        have h2 := HWj.out
        have h3 := HW.out
        have h4 := pv_wt (Y i)
        have h5 := kF_le Y 1 i
        have h6 := kF_ge Y 1 i
        unfold fvK
        omega)
      have HSf := hide hS
      have HMf := hide hM
      have hfk : kF Y 1 (i + 1) = kF Y 1 i + fvK (Y i) := rfl
      have HFK := hide hfk
      clear hfk
      obtain ⟨a4, k4, e4⟩ := o1.form
      obtain ⟨a5, k5, e5⟩ := o2.form
      obtain ⟨a6, k6, e6⟩ := o3.form
      obtain ⟨a7, k7, e7⟩ := o4.form
      rw [e4] at o1 y4
      rw [e5] at o2 y5
      rw [e6] at o3 y6
      rw [e7] at o4 y7
      have HE4 := hide e4
      have HE5 := hide e5
      have HE6 := hide e6
      have HE7 := hide e7
      clear e4 e5 e6 e7
      have HMk := hide (show ∀ w8 : World, SlF w8 104 2 (.slice a4 (Y i).nu k4) (Y i).nu (mkUpS (kF Y 1 i + 4)) → SlF w8 81 4 (.slice a5 (Y i).nc k5) (Y i).nc (mkConstS (kF Y 1 i + 4 + (Y i).nu * 2)) → SlF w8 51 4 (.slice a6 (Y i).ni k6) (Y i).ni (mkInstrS (kF Y 1 i + 4 + (Y i).nu * 2 + (Y i).nc * 4)) → SlF w8 3 1 (.slice a7 (Y i).ni k7) (Y i).ni (mkIntS (kF Y 1 i + 4 + (Y i).nu * 2 + (Y i).nc * 4 + (Y i).ni * 4)) → MkF w8 (Y i) (kF Y 1 i) from fun w8 q1 q2 q3 q4 => by
        unfold MkF
        rw [HE4.out, HE5.out, HE6.out, HE7.out]
        exact ⟨q1, q2, q3, q4⟩)
      have HFb := hide (show ∀ b, (Value.slice a4 (Y i).nu k4).ownBlock = some b ∨ (Value.slice a5 (Y i).nc k5).ownBlock = some b ∨ (Value.slice a6 (Y i).ni k6).ownBlock = some b ∨ (Value.slice a7 (Y i).ni k7).ownBlock = some b → FvB (Y i) b from fun b hb => by
        unfold FvB
        rw [HE4.out, HE5.out, HE6.out, HE7.out]
        exact hb)
      have HFu := hide (show (fvK (Y i) : Nat) = 4 + (Y i).nu * 2 + (Y i).nc * 4 + (Y i).ni * 4 + (Y i).ni from rfl)
      generalize (Y i).nu = nu at *
      generalize (Y i).nc = nc at *
      generalize (Y i).ni = ni at *
      have HN1 := hide HNu.out
      generalize hK : kF Y 1 i = kk at *
      have c0 := hf.cell (j := i * 8) (by omega)
      have c1 := hf.cell (j := i * 8 + 1) (by omega)
      have c2 := hf.cell (j := i * 8 + 2) (by omega)
      have c3 := hf.cell (j := i * 8 + 3) (by omega)
      have c4 := hf.cell (j := i * 8 + 4) (by omega)
      have c5 := hf.cell (j := i * 8 + 5) (by omega)
      have c6 := hf.cell (j := i * 8 + 6) (by omega)
      have c7 := hf.cell (j := i * 8 + 7) (by omega)
      have z0 := hf.frz (i * 8)
      have z1 := hf.frz (i * 8 + 1)
      have z2 := hf.frz (i * 8 + 2)
      have z3 := hf.frz (i * 8 + 3)
      rw [y4] at c4
      rw [y5] at c5
      rw [y6] at c6
      rw [y7] at c7
      obtain ⟨W4, hW4⟩ : ∃ W4, W4 = (((wr.setCell ⟨G, i * 8, none⟩ (.int .i64 (kk : Int))).setCell ⟨G, i * 8 + 1, none⟩ (.int .i64 ((kk : Int) + 1))).setCell ⟨G, i * 8 + 2, none⟩ (.int .i64 ((kk : Int) + 1 + 1))).setCell ⟨G, i * 8 + 3, none⟩ (.bool (((kk : Int) + 1 + 1 + 1) % 3 == 0)) := ⟨_, rfl⟩
      have hG4 := ((((hf.set (j := i * 8) (by omega) (.int .i64 (kk : Int))).set (j := i * 8 + 1) (by omega) (.int .i64 ((kk : Int) + 1))).set (j := i * 8 + 2) (by omega) (.int .i64 ((kk : Int) + 1 + 1))).set (j := i * 8 + 3) (by omega) (.bool (((kk : Int) + 1 + 1 + 1) % 3 == 0)))
      have hK4 := (((((Keeps.refl wr (fun b => b = G)).setCell (j := i * 8) rfl (.int .i64 (kk : Int))).setCell (j := i * 8 + 1) rfl (.int .i64 ((kk : Int) + 1))).setCell (j := i * 8 + 2) rfl (.int .i64 ((kk : Int) + 1 + 1))).setCell (j := i * 8 + 3) rfl (.bool (((kk : Int) + 1 + 1 + 1) % 3 == 0)))
      rw [← hW4] at hG4 hK4
      have q4 : W4.cell? ⟨G, i * 8 + 4, none⟩ = some (.slice a4 nu k4) := by
        have e := hG4.cell (j := i * 8 + 4) (by omega)
        rw [e]; simp [y4]
      have q5 : W4.cell? ⟨G, i * 8 + 5, none⟩ = some (.slice a5 nc k5) := by
        have e := hG4.cell (j := i * 8 + 5) (by omega)
        rw [e]; simp [y5]
      have q6 : W4.cell? ⟨G, i * 8 + 6, none⟩ = some (.slice a6 ni k6) := by
        have e := hG4.cell (j := i * 8 + 6) (by omega)
        rw [e]; simp [y6]
      have q7 : W4.cell? ⟨G, i * 8 + 7, none⟩ = some (.slice a7 ni k7) := by
        have e := hG4.cell (j := i * 8 + 7) (by omega)
        rw [e]; simp [y7]
      have P1 := hide (o1.pastG hK4 hf (by decide))
      have P2 := hide (o2.pastG hK4 hf (by decide))
      have P3 := hide (o3.pastG hK4 hf (by decide))
      have P4 := hide (o4.pastG hK4 hf (by decide))
      have HG4 := hide hG4
      have HK4 := hide hK4
      have HF := hide hf
      have Q4 := hide q4
      have Q5 := hide q5
      have Q6 := hide q6
      have Q7 := hide q7
      have HW4 := hide hW4
      clear o1 o2 o3 o4 hG4 hK4 hS hM hf q4 q5 q6 q7 y4 y5 y6 y7 hW4
      have hgl := HG4.out.lt
      have hkb1 : 1 ≤ kk := HN1.out.2.2.2.1
      have hkb2 : kk ≤ 9000000 := by have := HN1.out; omega
      have hnu : nu ≤ 1048576 := HN1.out.1
      have hnc : nc ≤ 1048576 := HN1.out.2.1
      have hni : ni ≤ 1048576 := HN1.out.2.2.1
      go_wp2_with fail
      rw [← HW4.out]
      refine (markUpS_v _ _ _ (kk + 4) _ (by omega) (by have := HN1.out; omega) (by omega) (by have := HN1.out; have := HFu.out; omega) ⟨_, P1.out⟩).mono ?_
      rintro e w5 ⟨rfl, hs5, hk5⟩
      have P2 := hide (P2.out.past hk5 P1.out (by decide))
      have P3 := hide (P3.out.past hk5 P1.out (by decide))
      have P4 := hide (P4.out.past hk5 P1.out (by decide))
      have e5 := (World.cell?_of_block (a := ⟨G, i * 8 + 5, none⟩) (hk5.block G HG4.out.lt (fun x => HG4.out.apart (P1.out.own x) (by decide) rfl))).trans Q5.out
      have e56 := (World.cell?_of_block (a := ⟨G, i * 8 + 6, none⟩) (hk5.block G HG4.out.lt (fun x => HG4.out.apart (P1.out.own x) (by decide) rfl))).trans Q6.out
      have e57 := (World.cell?_of_block (a := ⟨G, i * 8 + 7, none⟩) (hk5.block G HG4.out.lt (fun x => HG4.out.apart (P1.out.own x) (by decide) rfl))).trans Q7.out
      have HG5 := hide (HG4.out.past hk5 P1.out (by decide))
      have HK5 := hide ((HK4.out.mono (S' := fun b => b = G ∨ FvB (Y i) b) (fun b hb => .inl hb)).trans (hk5.mono (fun b hb => .inr (HFb.out b (.inl hb)))))
      have M1 := hide hs5
      clear hs5 hk5
      go_wp2_with fail
      refine (markConstS_v _ _ _ (kk + 4 + nu * 2) _ (by omega) (by have := HN1.out; omega) (by omega) (by have := HN1.out; have := HFu.out; omega) ⟨_, P2.out⟩).mono ?_
      rintro e w6 ⟨rfl, hs6, hk6⟩
      have M1 := hide (M1.out.past hk6 P2.out (by decide))
      have P3 := hide (P3.out.past hk6 P2.out (by decide))
      have P4 := hide (P4.out.past hk6 P2.out (by decide))
      have e6 := (World.cell?_of_block (a := ⟨G, i * 8 + 6, none⟩) (hk6.block G HG5.out.lt (fun x => HG5.out.apart (P2.out.own x) (by decide) rfl))).trans e56
      have e67 := (World.cell?_of_block (a := ⟨G, i * 8 + 7, none⟩) (hk6.block G HG5.out.lt (fun x => HG5.out.apart (P2.out.own x) (by decide) rfl))).trans e57
      have HG6 := hide (HG5.out.past hk6 P2.out (by decide))
      have HK6 := hide (HK5.out.trans (hk6.mono (fun b hb => .inr (HFb.out b (.inr (.inl hb))))))
      have M2 := hide hs6
      clear hs6 hk6 e56 e57 HG5 HK5
      go_wp2_with fail
      refine (markInstrS_v _ _ _ (kk + 4 + nu * 2 + nc * 4) _ (by omega) (by have := HN1.out; omega) (by omega) (by have := HN1.out; have := HFu.out; omega) ⟨_, P3.out⟩).mono ?_
      rintro e w7 ⟨rfl, hs7, hk7⟩
      have M1 := hide (M1.out.past hk7 P3.out (by decide))
      have M2 := hide (M2.out.past hk7 P3.out (by decide))
      have P4 := hide (P4.out.past hk7 P3.out (by decide))
      have e7 := (World.cell?_of_block (a := ⟨G, i * 8 + 7, none⟩) (hk7.block G HG6.out.lt (fun x => HG6.out.apart (P3.out.own x) (by decide) rfl))).trans e67
      have HG7 := hide (HG6.out.past hk7 P3.out (by decide))
      have HK7 := hide (HK6.out.trans (hk7.mono (fun b hb => .inr (HFb.out b (.inr (.inr (.inl hb)))))))
      have M3 := hide hs7
      clear hs7 hk7 e67 HG6 HK6
      go_wp2_with fail
      refine (markIntS_v _ _ _ (kk + 4 + nu * 2 + nc * 4 + ni * 4) _ (by omega) (by have := HN1.out; omega) (by omega) (by have := HN1.out; have := HFu.out; omega) ⟨_, P4.out⟩).mono ?_
      rintro e w8 ⟨rfl, hs8, hk8⟩
      have R1 := hide (M1.out.past hk8 P4.out (by decide))
      have R2 := hide (M2.out.past hk8 P4.out (by decide))
      have R3 := hide (M3.out.past hk8 P4.out (by decide))
      have R4 := hide hs8
      have HG8 := hide (HG7.out.past hk8 P4.out (by decide))
      have HK8 := hide (HK7.out.trans (hk8.mono (fun b hb => .inr (HFb.out b (.inr (.inr (.inr hb)))))))
      clear hs8 hk8
      go_wp2_with fail
      have HX := hide (show MkS w8 G n Y 1 (i + 1) from by
        have hoff : ∀ j, j < n → j ≠ i → ∀ b, FvB (Y j) b → ¬ (b = G ∨ FvB (Y i) b) := fun j hj hne b hb hc => by
          rcases hc with hc | hc
          · exact (HP.out j hj).offG HF.out hb hc
          · exact HR.out.off hj hin hne hb hc
        refine ⟨⟨_, HG8.out, fun j hj => ?_, fun j hj => ?_⟩, fun j hj hjn => ?_, fun j hj hjn => ?_⟩
        · obtain ⟨t4, t5, t6, t7⟩ := HSf.out j hj
          refine ⟨?_, ?_, ?_, ?_⟩
          · rw [if_neg (by omega), if_neg (by omega), if_neg (by omega), if_neg (by omega)]; exact t4
          · rw [if_neg (by omega), if_neg (by omega), if_neg (by omega), if_neg (by omega)]; exact t5
          · rw [if_neg (by omega), if_neg (by omega), if_neg (by omega), if_neg (by omega)]; exact t6
          · rw [if_neg (by omega), if_neg (by omega), if_neg (by omega), if_neg (by omega)]; exact t7
        · by_cases hji : j = i
          · subst hji
            rw [hK]
            refine ⟨?_, ?_, ?_, ?_⟩
            · rw [if_neg (by omega), if_neg (by omega), if_neg (by omega), if_pos rfl]
            · rw [if_neg (by omega), if_neg (by omega), if_pos rfl]
            · rw [if_neg (by omega), if_pos rfl]
            · rw [if_pos rfl]
          · obtain ⟨t4, t5, t6, t7⟩ := HMf.out j (by omega)
            refine ⟨?_, ?_, ?_, ?_⟩
            · rw [if_neg (by omega), if_neg (by omega), if_neg (by omega), if_neg (by omega)]; exact t4
            · rw [if_neg (by omega), if_neg (by omega), if_neg (by omega), if_neg (by omega)]; exact t5
            · rw [if_neg (by omega), if_neg (by omega), if_neg (by omega), if_neg (by omega)]; exact t6
            · rw [if_neg (by omega), if_neg (by omega), if_neg (by omega), if_neg (by omega)]; exact t7
        · by_cases hji : j = i
          · subst hji
            rw [hK]
            exact HMk.out w8 R1.out R2.out R3.out R4.out
          · exact (HE.out.old j (by omega) hjn).keep HK8.out (hoff j hjn hji)
        · exact (HE.out.new j (by omega) hjn).keep HK8.out (hoff j hjn (by omega)))
      have HY := hide (HK.out.trans (HK8.out.mono (S' := fun b => b = G ∨ ∃ j, j < n ∧ FvB (Y j) b) (fun b hb => by
        rcases hb with hb | hb
        · exact .inl hb
        · exact .inr ⟨i, hin, hb⟩)))
      have hnx : (kF Y 1 (i + 1) : Int) = (kk : Int) + 1 + 1 + 1 + 1 + (nu : Int) * 2 + (nc : Int) * 4 + (ni : Int) * 4 + (ni : Int) := by
        rw [HFK.out, HFu.out]
        omega
      clear HG8 HK8 HK4 HK7 HG4 HG7 R1 R2 R3 R4
      go_roundw
      case rel => exact ⟨i + 1, by omega, by simp, by rw [hnx], HX, HY⟩
      case measure => show n - ivN (.int .i64 _) < n - ivN (.int .i64 _); simp [ivN]; omega
    · obtain rfl : i = n := by omega
      go_wp2_with fail
      go_ret
      exact ⟨rfl, HE.out, HK.out⟩
end Go.Proofs.YtgnbhhgpaldheaaGreat
