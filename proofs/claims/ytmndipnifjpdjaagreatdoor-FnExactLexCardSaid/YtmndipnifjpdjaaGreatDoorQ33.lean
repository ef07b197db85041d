import Derived.Handy
import Derived.Test.YtmndipnifjpdjaaGreatDoorQ32
namespace Go.Proofs.YtmndipnifjpdjaaGreatDoor
open Go Go.RowKit
set_option linter.unusedVariables false
set_option maxHeartbeats 8000000 in
set_option maxRecDepth 100000 in
theorem rf_a (s : ByteArray) (k b p : Nat) (ds : List Int) (x : Int) (w : World) (hT : Txt s k ds b p x) (h0 : 0 < s.size) (h2 : s.size ≤ 2) :
    Calls Tryz.prog 274 #[.string s] w fun e w' => RFR (dval ds) (x - b) s w e w' := by
  have HT := hide hT
  have hk0 := hT.k0
  have hk := hT.hk
  have hs := hT.hs
  have hc := dp_at hT (i := 0) (by omega) h0
  have e43 : (((s[0].toNat : Nat) : Int) == 43) = false := bq (by omega)
  have e45 : (((s[0].toNat : Nat) : Int) == 45) = false := bq (by omega)
  have h0a : (0 : Int) < (s.size : Int) := by omega
  have h0b : ¬ s.size = 0 := by omega
  have h2I : (s.size : Int) ≤ 2 := by omega
  clear hT hc
  go_enter Tryz.func274, Tryz.ntmps274
  go_wp2
  go_step3
  go_wp2
  go_step3
  go_wp2
  go_loop [2, 5, 7, 9, 13, 14, 15, 16, 17] (fun mv tv iv uv dv' gv nv kv pv => ∃ (i b' p' m nd nm : Nat) (ds' : List Int) (tr : Bool) (dp : Int), i ≤ k ∧ mv = .int .u64 m ∧ tv = .bool tr ∧ iv = .int .i64 i ∧ uv = .bool false ∧ dv' = .bool (decide (p' = 1)) ∧ gv = .bool (decide (ds' ≠ [])) ∧ nv = .int .i64 nd ∧ kv = .int .i64 nm ∧ pv = .int .i64 dp ∧
    Hid (dscan ((bs s).take i) = (ds', b', p')) ∧ Hid (RF (dval ds') b' p' i m nd nm tr dp)) (fun _ _ iv _ _ _ _ _ _ => s.size - (intOf iv).toNat)
  case atStart => exact ⟨0, 0, 0, 0, 0, 0, [], false, 0, Nat.zero_le _, rfl, rfl, rfl, rfl, rfl, rfl, rfl, rfl, rfl, hide rfl, hide RF.start⟩
  case round =>
    clear e43 e45 h0b h2I
    obtain ⟨i, b', p', m, nd, nm, ds', tr, dp, hi, rfl, rfl, rfl, rfl, rfl, rfl, rfl, rfl, rfl, Hsc, HS⟩ := hrel
    have hpi := HT.out.pi hi Hsc.out
    have hlo := HS.out.lo
    have hhi := HS.out.hi
    have hle := HS.out.le
    have hnm : nm ≤ 19 := by have := HS.out.hnm; omega
    by_cases hik : i < k
    · have his : i < s.size := by omega
      have hisI : (i : Int) < (s.size : Int) := by omega
      have hc := dp_at HT.out hik his
      have e95 : (((s[i].toNat : Nat) : Int) == 95) = false := bq (by omega)
      by_cases hpt : ((s[i].toNat : Nat) : Int) = 46
      · have e46 : (((s[i].toNat : Nat) : Int) == 46) = true := by rw [hpt]; rfl
        have hsc := scan_point his Hsc.out hpt
        have hp0 := (HT.out.pi (i := i + 1) (by omega) hsc).1
        have hp' : p' = 0 := by omega
        have hb' : b' = 0 := hpi.2 hp'
        subst hp' hb'
        have HS' := hide HS.out.point
        have Hsc' := hide hsc
        clear hsc hpt hc
        go_wp2
        go_round
        case rel => exact ⟨i + 1, 0, 1, m, nd, nm, ds', tr, nd, by omega, rfl, rfl, by go_num, rfl, rfl, rfl, rfl, rfl, rfl, Hsc', HS'⟩
        case measure => simp [intOf]; omega
      · have e46 : (((s[i].toNat : Nat) : Int) == 46) = false := bq hpt
        obtain ⟨hx1, hx2⟩ : 48 ≤ ((s[i].toNat : Nat) : Int) ∧ ((s[i].toNat : Nat) : Int) ≤ 57 := by omega
        have hsc := scan_dig his Hsc.out (by show isDigI _ = true; unfold isDigI; rw [decide_eq_true_eq]; exact ⟨hx1, hx2⟩)
        have Hsc' := hide hsc
        have Hv := hide (dval_snoc ds' ((s[i].toNat : Nat) : Int))
        have hne : decide (ds' ++ [((s[i].toNat : Nat) : Int)] ≠ []) = true := by simp
        have Hne := hide hne
        clear hsc hc hpt hne
        by_cases hz : nd = 0 ∧ ((s[i].toNat : Nat) : Int) = 48
        · obtain ⟨hz1, hz2⟩ := hz
          have HS' : Hid (RF (dval (ds' ++ [((s[i].toNat : Nat) : Int)])) (b' + p') p' (i + 1) m nd nm tr (dp - 1)) := hide (by
            rw [Hv.out, hz2, hz1]
            have := HS.out
            rw [hz1] at this
            exact this.zero hpi.1)
          have e48 : (((s[i].toNat : Nat) : Int) == 48) = true := by rw [hz2]; rfl
          have en : ((nd : Int) == 0) = true := by rw [hz1]; rfl
          clear hz1 hz2
          go_wp2
          go_round
          case rel => exact ⟨i + 1, b' + p', p', m, nd, nm, _, tr, dp - 1, by omega, rfl, rfl, by go_num, rfl, rfl, by rw [Hne.out], rfl, rfl, rfl, Hsc', HS'⟩
          case measure => simp [intOf]; omega
        · have hz' : nd ≠ 0 ∨ ((s[i].toNat : Nat) : Int) ≠ 48 := by omega
          by_cases hm19 : nm < 19
          · obtain ⟨m', hm'⟩ : ∃ m', m' = m * 10 + (((s[i].toNat : Nat) : Int) - 48).toNat := ⟨_, rfl⟩
            have HS' : Hid (RF (dval (ds' ++ [((s[i].toNat : Nat) : Int)])) (b' + p') p' (i + 1) m' (nd + 1) (nm + 1) tr dp) := hide (by
              rw [Hv.out, hm']; exact HS.out.put1 hpi.1 hx1 hx2 hz' hm19)
            have hml : m < 1000000000000000000 := by
              have h1 := HS.out.lt
              have h3 : 10 ^ nm ≤ 10 ^ 18 := Nat.pow_le_pow_right (by omega) (by omega)
              have e18 : (10 : Nat) ^ 18 = 1000000000000000000 := by decide
              omega
            have e1 : IntKind.u64.wrap ((m : Int) * 10) = (m : Int) * 10 := u64_id (by omega) (by omega)
            have e2 : IntKind.u64.wrap ((m : Int) * 10 + (((s[i].toNat : Nat) : Int) - 48)) = (m' : Int) := by rw [u64_id (by omega) (by omega)]; omega
            have hmI : (nm : Int) < 19 := by omega
            clear hm' hml hz'
            by_cases e48' : ((s[i].toNat : Nat) : Int) = 48
            · have e48 : (((s[i].toNat : Nat) : Int) == 48) = true := by rw [e48']; rfl
              have en : ((nd : Int) == 0) = false := bq (by omega)
              clear hz e48'
              go_wp2
              go_round
              case rel => exact ⟨i + 1, b' + p', p', m', nd + 1, nm + 1, _, tr, dp, by omega, rfl, rfl, by go_num, rfl, rfl, by rw [Hne.out], by go_num, by go_num, rfl, Hsc', HS'⟩
              case measure => simp [intOf]; omega
            · have e48 : (((s[i].toNat : Nat) : Int) == 48) = false := bq e48'
              clear hz e48'
              go_wp2
              go_round
              case rel => exact ⟨i + 1, b' + p', p', m', nd + 1, nm + 1, _, tr, dp, by omega, rfl, rfl, by go_num, rfl, rfl, by rw [Hne.out], by go_num, by go_num, rfl, Hsc', HS'⟩
              case measure => simp [intOf]; omega
          · have hmI : (19 : Int) ≤ nm := by omega
            by_cases e48' : ((s[i].toNat : Nat) : Int) = 48
            · have e48 : (((s[i].toNat : Nat) : Int) == 48) = true := by rw [e48']; rfl
              have en : ((nd : Int) == 0) = false := bq (by omega)
              have HS' : Hid (RF (dval (ds' ++ [((s[i].toNat : Nat) : Int)])) (b' + p') p' (i + 1) m (nd + 1) nm tr dp) := hide (by
                rw [Hv.out]; exact HS.out.put2 hpi.1 hx1 hx2 hm19 (by rw [decide_eq_false (by omega), Bool.or_false]))
              clear hz e48' hz' hm19
              go_wp2
              go_round
              case rel => exact ⟨i + 1, b' + p', p', m, nd + 1, nm, _, tr, dp, by omega, rfl, rfl, by go_num, rfl, rfl, by rw [Hne.out], by go_num, rfl, rfl, Hsc', HS'⟩
              case measure => simp [intOf]; omega
            · have e48 : (((s[i].toNat : Nat) : Int) == 48) = false := bq e48'
              have HS' : Hid (RF (dval (ds' ++ [((s[i].toNat : Nat) : Int)])) (b' + p') p' (i + 1) m (nd + 1) nm true dp) := hide (by
                rw [Hv.out]; exact HS.out.put2 hpi.1 hx1 hx2 hm19 (by rw [decide_eq_true e48', Bool.or_true]))
              clear hz e48' hz' hm19
              go_wp2
              go_round
              case rel => exact ⟨i + 1, b' + p', p', m, nd + 1, nm, _, true, dp, by omega, rfl, rfl, by go_num, rfl, rfl, by rw [Hne.out], by go_num, rfl, rfl, Hsc', HS'⟩
              case measure => simp [intOf]; omega
    · have hik' : i = k := by omega
      subst hik'
      have hsc := Hsc.out
      rw [HT.out.scan] at hsc
      obtain ⟨rfl, rfl, rfl⟩ : ds = ds' ∧ b = b' ∧ p = p' := by
        have h1 := congrArg Prod.fst hsc
        have h2 := congrArg Prod.snd hsc
        exact ⟨h1, congrArg Prod.fst h2, congrArg Prod.snd h2⟩
      have hg : decide (ds ≠ []) = true := by simp [HT.out.ne]
      obtain ⟨f1, f2, f3⟩ := HS.out.fin
      have Hf1 := hide f1
      have Hf2 := hide f2
      have Hf3 := hide f3
      have Hpi := hide hpi
      have hex := HT.out.ex
      clear hsc Hsc hpi f1 f2 f3
      rcases hex with ⟨hex, hx0⟩ | ⟨hex, hx0⟩
      · have HexI : (i : Int) = (s.size : Int) := by omega
        clear hik
        by_cases hp0 : p = 0
        · have hpd : decide (p = 1) = false := by simp; omega
          have Hp0 := hide hp0
          clear hp0
          by_cases hm0 : m = 0
          · have em : ((m : Int) == 0) = true := by rw [hm0]; rfl
            have HE : Hid (rfE (dval ds) (x - b) = 0) := hide (by unfold rfE; rw [if_pos (by rw [← Hf1.out]; exact hm0)])
            clear hm0
            go_wp2
            go_returns
            exact ⟨(by rw [HE.out, ← Hf1.out, ← Hf2.out] <;> rfl), 0, rfl⟩
          · have em : ((m : Int) == 0) = false := bq (by omega)
            have HE : Hid (rfE (dval ds) (x - b) = (nd : Int) - nm) := hide (by
              unfold rfE
              rw [if_neg (by rw [← Hf1.out]; exact hm0)]
              have := Hf3.out
              have := Hpi.out.2 Hp0.out
              omega)
            clear hm0
            go_wp2
            go_returns
            exact ⟨(by rw [HE.out, ← Hf1.out, ← Hf2.out] <;> rfl), 0, rfl⟩
        · have hp1 : p = 1 := by have := Hpi.out.1; omega
          have hpd : decide (p = 1) = true := by simp; omega
          have Hp1 := hide hp1
          clear hp0 hp1
          by_cases hm0 : m = 0
          · have em : ((m : Int) == 0) = true := by rw [hm0]; rfl
            have HE : Hid (rfE (dval ds) (x - b) = 0) := hide (by unfold rfE; rw [if_pos (by rw [← Hf1.out]; exact hm0)])
            clear hm0
            go_wp2
            go_returns
            exact ⟨(by rw [HE.out, ← Hf1.out, ← Hf2.out] <;> rfl), 0, rfl⟩
          · have em : ((m : Int) == 0) = false := bq (by omega)
            have HE : Hid (rfE (dval ds) (x - b) = dp - nm) := hide (by
              unfold rfE
              rw [if_neg (by rw [← Hf1.out]; exact hm0)]
              have := Hf3.out
              have := HS.out.dpp Hp1.out
              omega)
            clear hm0
            go_wp2
            go_returns
            exact ⟨(by rw [HE.out, ← Hf1.out, ← Hf2.out] <;> rfl), 0, rfl⟩
      · obtain ⟨hce, v, hcase⟩ := exp_cases hx0
        exfalso
        rcases hcase with ⟨q1, q2, q3⟩ | ⟨q1, q2, q3⟩ | ⟨q1, q1', q2, q3⟩
        all_goals have := q3.lt
        all_goals omega
end Go.Proofs.YtmndipnifjpdjaaGreatDoor
