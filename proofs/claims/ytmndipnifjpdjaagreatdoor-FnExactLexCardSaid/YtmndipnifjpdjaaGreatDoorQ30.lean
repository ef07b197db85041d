import Derived.Test.YtmndipnifjpdjaaGreatDoorQ29
import Derived.Test.YtmndipnifjpdjaaGreatDoorQ21
namespace Go.Proofs.YtmndipnifjpdjaaGreatDoor
open Go Go.RowKit
set_option linter.unusedVariables false
set_option maxHeartbeats 1600000 in
set_option maxRecDepth 100000 in
theorem fb_hi (n d g P po G o nd : Nat) (D : Nat → Int) (dp : Int) (w : World) (h : DecAt w g D nd dp false) (hI : FInfo w g P po G o) (hne : nd ≠ 0) (hdp : 310 < dp) (hr : Hid (IsRnd (n * 2 ^ 1074) d infW)) :
    Calls Tryz.prog 281 #[.pointer (some ⟨g, 0, none⟩), .pointer (some ⟨13, 0, none⟩)] w fun e w' => FBits n d g w e w' := by
  have c0 := h.nd
  have c9 := h.dp
  have cN := h.neg
  have c60 := hI.mant
  have c61 := hI.expb
  have c62 := hI.bias
  have h0 : ((nd : Int) == 0) = false := by rw [beq_eq_false_iff_ne]; omega
  have eInf : bits .or .u64 (bits .and .u64 0 4503599627370495) (IntKind.u64.wrap (IntKind.u64.wrap (bits .and .i64 2047 2047) * 4503599627370496)) = 9218868437227405312 := fb_word (m := 0) (y := 2047) (W := 9218868437227405312) (by omega) rfl rfl (by omega) (by omega)
  clear h hI hne
  go_enter Tryz.func281, Tryz.ntmps281
  go_wp2
  refine wp_scope_fwd rfl rfl ?_
  go_hide hQ
  have HQ := hide hQ
  clear hQ
  go_wp2
  go_step3
  repeat rw [then_goto]
  rw [← HQ.out]
  rw [fwd_1]
  clear HQ
  go_wp2
  go_quiet (fail)
  go_wp2
  go_step3
  go_wp2
  go_quiet (fail)
  go_wp2
  rw [Exit.noGoto_ret]
  go_ret2
  exact ⟨infW, rfl, hr.out, below_drewN (Below.refl g w) _⟩
set_option maxHeartbeats 1600000 in
set_option maxRecDepth 100000 in
theorem fb_lo (n d g P po G o nd : Nat) (D : Nat → Int) (dp : Int) (w : World) (h : DecAt w g D nd dp false) (hI : FInfo w g P po G o) (hne : nd ≠ 0) (hdp : dp < -330) (hr : Hid (IsRnd (n * 2 ^ 1074) d 0)) :
    Calls Tryz.prog 281 #[.pointer (some ⟨g, 0, none⟩), .pointer (some ⟨13, 0, none⟩)] w fun e w' => FBits n d g w e w' := by
  have c0 := h.nd
  have c9 := h.dp
  have cN := h.neg
  have c60 := hI.mant
  have c61 := hI.expb
  have c62 := hI.bias
  have h0 : ((nd : Int) == 0) = false := by rw [beq_eq_false_iff_ne]; omega
  have eInf : bits .or .u64 (bits .and .u64 0 4503599627370495) (IntKind.u64.wrap (IntKind.u64.wrap (bits .and .i64 0 2047) * 4503599627370496)) = 0 := fb_word (m := 0) (y := 0) (W := 0) (by omega) rfl rfl (by omega) (by omega)
  clear h hI hne
  go_enter Tryz.func281, Tryz.ntmps281
  go_wp2
  refine wp_scope_fwd rfl rfl ?_
  go_hide hQ
  have HQ := hide hQ
  clear hQ
  go_wp2
  go_step3
  repeat rw [then_goto]
  rw [← HQ.out]
  rw [fwd_0]
  clear HQ
  go_wp2
  go_quiet (fail)
  go_wp2
  rw [Exit.noGoto_ret]
  go_ret2
  exact fbits_no (W := 0) rfl rfl (by rw [infW_eq]; omega) hr.out (below_drewN (Below.refl g w) _)
theorem floatBits_any (N g P po G o nd : Nat) (E dp : Int) (D : Nat → Int) (w : World) (h : DecAt w g D nd dp false) (hI : FInfo w g P po G o) (hN0 : N ≠ 0) (hN : N < 10 ^ 100) (hv : dv D nd = N) (hnd : nd = size10 N) (hnorm : Norm D nd) (hdp : dp = nd + E)
    (hE1 : -430 ≤ E) (hE2 : E ≤ 1000) :
    Calls Tryz.prog 281 #[.pointer (some ⟨g, 0, none⟩), .pointer (some ⟨13, 0, none⟩)] w fun e w' => FBits (N * 10 ^ E.toNat) (10 ^ (-E).toNat) g w e w' := by
  have hK := KK_eq
  have hne : nd ≠ 0 := by
    intro e
    rw [e] at hv
    exact hN0 hv.symm
  have hnd100 : nd ≤ 100 := by
    have h1 := size10_ge hN0
    have := pow10_lt (Nat.lt_of_le_of_lt h1 hN)
    omega
  by_cases c1 : 310 < dp
  · exact fb_hi _ _ g P po G o nd D dp w h hI hne c1 (hide (decRnd_over hN0 (by omega)))
  · by_cases c2 : dp < -330
    · exact fb_lo _ _ g P po G o nd D dp w h hI hne c2 (hide (decRnd_under (by omega)))
    · have hrep : ∀ Q, Q ≤ 800 → RepV (N * 10 ^ E.toNat) (10 ^ (-E).toNat) KK Q (dv D nd * 10 ^ (dp - nd + KK).toNat) false := by
        intro Q hQ
        refine RepV.of_eq (p10 _) (by omega) ?_
        rw [hv, Nat.mul_assoc, Nat.mul_assoc, ← Nat.pow_add, ← Nat.pow_add]
        congr 2
        omega
      have hfb : ∀ Q, Q ≤ 800 → FB (N * 10 ^ E.toNat) (10 ^ (-E).toNat) Q D nd dp false := fun Q hQ => ⟨hnorm, hne, by omega, by omega, hQ, p10 _, hrep Q hQ⟩
      have hlo : ∃ y, y = 331 ∧ 10 ^ (-E).toNat ≤ N * 10 ^ E.toNat * 10 ^ y := by
        refine ⟨331, rfl, ?_⟩
        have F := hfb 0 (by omega)
        have h1 := F.vlo
        have h2 := Nat.le_trans (Nat.mul_le_mul_right (10 ^ (-E).toNat) h1) F.rep.le
        obtain ⟨y, hy⟩ : ∃ y, y = 331 := ⟨_, rfl⟩
        rw [← hy]
        have e1 : 10 ^ (-E).toNat * 10 ^ (KK - y) ≤ 10 ^ (dp - 1 + KK).toNat * 10 ^ (-E).toNat := by
          rw [Nat.mul_comm]
          exact Nat.mul_le_mul_right _ (Nat.pow_le_pow_right (by omega) (by omega))
        have e2 : N * 10 ^ E.toNat * 10 ^ y * 10 ^ (KK - y) = N * 10 ^ E.toNat * 10 ^ KK := by rw [Nat.mul_assoc _ (10 ^ y), ← Nat.pow_add, show y + (KK - y) = KK by omega]
        have e3 : 10 ^ (-E).toNat * 10 ^ (KK - y) ≤ N * 10 ^ E.toNat * 10 ^ y * 10 ^ (KK - y) := by rw [e2]; exact Nat.le_trans e1 h2
        exact Nat.le_of_mul_le_mul_right e3 (p10 _)
      have hn : 0 < N * 10 ^ E.toNat := Nat.mul_pos (by omega) (p10 _)
      by_cases hs : E < 0
      · refine fb_walk true _ _ (-E).toNat 200 g P po G o nd D dp w h hI ⟨⟨hn, p10 _, ?_, hlo, fun _ => ⟨rfl, by omega, ?_, rfl⟩, fun h => by cases h⟩, ?_, .inl rfl⟩ (by omega) (by omega)
        · have e0 : E.toNat = 0 := by omega
          rw [e0, Nat.pow_zero, Nat.mul_one]
          refine Nat.lt_of_lt_of_le hN ?_
          rw [← Nat.pow_add]
          exact Nat.pow_le_pow_right (by omega) (by omega)
        · have e0 : E.toNat = 0 := by omega
          rw [e0, Nat.pow_zero, Nat.mul_one]
          exact hN
        · rw [Nat.pow_zero, Nat.mul_one]
          exact hfb _ (by unfold QQ; simp)
      · have e0 : (-E).toNat = 0 := by omega
        have e1 : 10 ^ (-E).toNat = 1 := by rw [e0, Nat.pow_zero]
        obtain ⟨y, hy⟩ : ∃ y, y = 310 := ⟨_, rfl⟩
        refine fb_walk false _ _ 0 y g P po G o nd D dp w h hI ⟨⟨hn, p10 _, ?_, hlo, (fun h => by cases h), fun _ => ⟨e1, hy⟩⟩, ?_, .inl rfl⟩ (by omega) (by omega)
        · have F := hfb 0 (by omega)
          have h1 := F.rep.eq rfl
          have h2 := F.vhi
          rw [e1, Nat.mul_one] at h1
          rw [e1, Nat.one_mul]
          refine Nat.lt_of_mul_lt_mul_right (a := 10 ^ KK) ?_
          rw [← h1, ← Nat.pow_add]
          exact Nat.lt_of_lt_of_le h2 (Nat.pow_le_pow_right (by omega) (by omega))
        · rw [Nat.pow_zero, Nat.mul_one]
          exact hfb _ (by unfold QQ; simp)
end Go.Proofs.YtmndipnifjpdjaaGreatDoor
namespace Go.Proofs.YtmndipnifjpdjaaGreatDoor
open Go Go.RowKit
set_option linter.unusedVariables false
structure Txt (s : ByteArray) (k : Nat) (ds : List Int) (b p : Nat) (x : Int) : Prop where
  hs : s.size ≤ 100
  hk : k ≤ s.size
  dp : ∀ j, j < k → isDP ((bs s).getD j 0) = true
  scan : dscan ((bs s).take k) = (ds, b, p)
  p1 : p ≤ 1
  ne : ds ≠ []
  ex : (k = s.size ∧ x = 0) ∨ (k < s.size ∧ expV ((bs s).drop k) = some x)
theorem dscan_p_step {l : List Int} {i : Nat} (h : i < l.length) : (dscan (l.take i)).2.2 ≤ (dscan (l.take (i + 1))).2.2 := by
  rw [dscan_take h]; unfold dstep; split
  · exact Nat.le_succ _
  · exact Nat.le_refl _
theorem dscan_p_mono {l : List Int} {i : Nat} : ∀ {k : Nat}, i ≤ k → k ≤ l.length → (dscan (l.take i)).2.2 ≤ (dscan (l.take k)).2.2
  | 0, h, _ => by rw [show i = 0 by omega]; exact Nat.le_refl _
  | k + 1, h, hk => by
    by_cases e : i = k + 1
    · rw [e]; exact Nat.le_refl _
    · exact Nat.le_trans (dscan_p_mono (k := k) (by omega) (by omega)) (dscan_p_step (by omega))
theorem dscan_b0 : ∀ (l : List Int), (dscan l).2.2 = 0 → (dscan l).2.1 = 0 := by
  have key : ∀ (l : List Int) (st : List Int × Nat × Nat), (st.2.2 = 0 → st.2.1 = 0) → (l.foldl dstep st).2.2 = 0 → (l.foldl dstep st).2.1 = 0 := by
    intro l
    induction l with
    | nil => intro st h; exact h
    | cons c l ih =>
      intro st h
      refine ih (dstep st c) ?_
      unfold dstep
      split
      · intro hh; simp at hh
      · intro hh
        have hp : st.2.2 = 0 := hh
        have hb := h hp
        show st.2.1 + st.2.2 = 0
        omega
  exact fun l => key l _ (fun _ => rfl)
theorem Txt.pi {s : ByteArray} {k b p i b' p' : Nat} {ds ds' : List Int} {x : Int} (h : Txt s k ds b p x) (hi : i ≤ k) (hsc : dscan ((bs s).take i) = (ds', b', p')) : p' ≤ 1 ∧ (p' = 0 → b' = 0) := by
  have h1 := dscan_p_mono (l := bs s) (i := i) (k := k) hi (by rw [bs_length]; exact h.hk)
  rw [hsc, h.scan] at h1
  have h2 := dscan_b0 ((bs s).take i)
  rw [hsc] at h2
  have h3 : p' ≤ p := h1
  have := h.p1
  exact ⟨by omega, h2⟩
structure SetS (N b p i : Nat) (D : Nat → Int) (nd : Nat) (dp : Int) : Prop where
  v : dv D nd = N
  n : nd = size10 N
  ok : OkDig D nd
  head : nd ≠ 0 → D 0 ≠ 48
  dpp : p = 1 → dp = (nd : Int) - b
  lo : -(i : Int) ≤ dp
  hi : dp ≤ i
  le : nd ≤ i
theorem SetS.start (D : Nat → Int) : SetS 0 0 0 0 D 0 0 :=
  ⟨rfl, size10_zero.symm, fun i h => by omega, fun h => absurd rfl h, fun h => by omega, by omega, by omega, by omega⟩
theorem SetS.zero {N b p i : Nat} {D : Nat → Int} {dp : Int} (h : SetS N b p i D 0 dp) (hp : p ≤ 1) : SetS (N * 10 + (48 - 48 : Int).toNat) (b + p) p (i + 1) D 0 (dp - 1) := by
  have hN : N = 0 := by have := h.v; simpa [dv] using this.symm
  subst hN
  have h1 := h.dpp
  have h2 := h.lo
  have h3 := h.hi
  refine ⟨rfl, size10_zero.symm, h.ok, h.head, fun e => ?_, by omega, by omega, by omega⟩
  have := h1 e
  omega
theorem SetS.put {N b p i nd : Nat} {D : Nat → Int} {dp c : Int} (h : SetS N b p i D nd dp) (hp : p ≤ 1) (hc1 : 48 ≤ c) (hc2 : c ≤ 57) (hz : nd ≠ 0 ∨ c ≠ 48) : SetS (N * 10 + (c - 48).toNat) (b + p) p (i + 1) (updD D nd c) (nd + 1) dp := by
  have h1 := h.dpp
  have h2 := h.lo
  have h3 := h.hi
  have h4 := h.le
  have hv := h.v
  have hne : N * 10 + (c - 48).toNat ≠ 0 := by
    rcases hz with g | g
    · have := dv_ge h.ok g (h.head g)
      have := p10 (nd - 1)
      omega
    · omega
  refine ⟨by rw [dv_snoc, hv], ?_, fun j hj => ?_, fun _ => ?_, fun e => ?_, by omega, by omega, by omega⟩
  · rw [size10_step _ _ (by omega), if_neg hne, ← h.n]
  · by_cases e : j = nd
    · subst e; rw [updD_same]; exact ⟨hc1, hc2⟩
    · rw [updD_other e]; exact h.ok j (by omega)
  · by_cases e : nd = 0
    · subst e; rw [updD_same]; rcases hz with g | g
      · exact absurd rfl g
      · exact g
    · rw [updD_other (by omega)]; exact h.head e
  · have := h1 e; omega
theorem SetS.point {N i nd : Nat} {D : Nat → Int} {dp : Int} (h : SetS N 0 0 i D nd dp) : SetS N 0 1 (i + 1) D nd (nd : Int) := by
  have h4 := h.le
  exact ⟨h.v, h.n, h.ok, h.head, fun _ => by omega, by omega, by omega, by omega⟩
structure ExpAt (s : ByteArray) (t v : Nat) : Prop where
  lt : t < s.size
  le : s.size ≤ t + 3
  dig : ∀ j, t ≤ j → j < s.size → 48 ≤ (bs s).getD j 0 ∧ (bs s).getD j 0 ≤ 57
  val : v = dval ((bs s).drop t)
theorem expB_at {s : ByteArray} {t : Nat} {y : Int} (h : expB ((bs s).drop t) = some y) : ∃ v : Nat, y = v ∧ ExpAt s t v := by
  unfold expB at h
  split at h
  · rename_i hh
    obtain ⟨h1, h2, h3⟩ := hh
    rw [List.length_drop, bs_length] at h1 h2
    refine ⟨dval ((bs s).drop t), by simpa using h.symm, by omega, by omega, fun j j1 j2 => ?_, rfl⟩
    unfold allDig at h3
    rw [List.all_eq_true] at h3
    have hm : (bs s).getD j 0 ∈ (bs s).drop t := by
      have hl : j - t < ((bs s).drop t).length := by rw [List.length_drop, bs_length]; omega
      have e : ((bs s).drop t)[j - t] = (bs s).getD j 0 := by
        rw [List.getElem_drop, List.getD_eq_getElem?_getD, List.getElem?_eq_getElem (by rw [bs_length]; exact j2)]
        simp only [Option.getD_some]
        congr 1
        omega
      rw [← e]; exact List.getElem_mem hl
    have := h3 _ hm
    unfold isDigI at this
    rw [decide_eq_true_eq] at this
    exact this
  · cases h
theorem exp_cases {s : ByteArray} {k : Nat} {x : Int} (h : expV ((bs s).drop k) = some x) : ((bs s).getD k 0 = 101 ∨ (bs s).getD k 0 = 69) ∧
    ∃ v : Nat, ((bs s).getD (k + 1) 0 = 45 ∧ x = -(v : Int) ∧ ExpAt s (k + 2) v) ∨ ((bs s).getD (k + 1) 0 = 43 ∧ x = v ∧ ExpAt s (k + 2) v) ∨ ((bs s).getD (k + 1) 0 ≠ 45 ∧ (bs s).getD (k + 1) 0 ≠ 43 ∧ x = v ∧ ExpAt s (k + 1) v) := by
  have g0 : ∀ j, ((bs s).drop k).getD j 0 = (bs s).getD (k + j) 0 := fun j => by simp [List.getD_eq_getElem?_getD, List.getElem?_drop]
  have g1 : (((bs s).drop k).drop 1).getD 0 0 = (bs s).getD (k + 1) 0 := by simp [List.getD_eq_getElem?_getD, List.getElem?_drop]
  unfold expV at h
  rw [g0] at h
  split at h
  · rename_i hc
    refine ⟨hc, ?_⟩
    unfold expS at h
    rw [g1, List.drop_drop, List.drop_drop] at h
    split at h
    · rename_i h45
      cases hb : expB ((bs s).drop (k + (1 + 1))) with
      | none => rw [hb] at h; cases h
      | some y =>
        rw [hb] at h
        obtain ⟨v, hv, hE⟩ := expB_at hb
        have : x = -y := by simpa using h.symm
        exact ⟨v, .inl ⟨h45, by omega, hE⟩⟩
    · rename_i h45
      split at h
      · rename_i h43
        obtain ⟨v, hv, hE⟩ := expB_at h
        exact ⟨v, .inr (.inl ⟨h43, hv, hE⟩)⟩
      · rename_i h43
        rw [List.drop_drop] at h
        obtain ⟨v, hv, hE⟩ := expB_at h
        exact ⟨v, .inr (.inr ⟨h45, h43, hv, hE⟩)⟩
  · cases h
def eVal (s : ByteArray) (t q : Nat) : Nat := dval (((bs s).drop t).take q)
theorem eVal_0 (s : ByteArray) (t : Nat) : eVal s t 0 = 0 := rfl
theorem eVal_step {s : ByteArray} {t q : Nat} (h : t + q < s.size) : eVal s t (q + 1) = eVal s t q * 10 + (((s[t + q].toNat : Nat) : Int) - 48).toNat := by
  unfold eVal
  have hl : q < ((bs s).drop t).length := by rw [List.length_drop, bs_length]; omega
  rw [List.take_succ_eq_append_getElem hl, dval_snoc]
  congr 3
  rw [List.getElem_drop]
  have := bs_getD h
  rw [List.getD_eq_getElem?_getD, List.getElem?_eq_getElem (by rw [bs_length]; exact h)] at this
  exact this
theorem eVal_end {s : ByteArray} {t q v : Nat} (h : ExpAt s t v) (hq : t + q = s.size) : eVal s t q = v := by
  unfold eVal
  rw [h.val, List.take_of_length_le]
  rw [List.length_drop, bs_length]; omega
theorem eVal_lt {s : ByteArray} {t v : Nat} (h : ExpAt s t v) : ∀ {q : Nat}, t + q ≤ s.size → eVal s t q < 10 ^ q
  | 0, _ => by rw [eVal_0]; decide
  | q + 1, hq => by
    rw [eVal_step (by omega), Nat.pow_succ]
    have h1 := eVal_lt h (q := q) (by omega)
    have h2 := h.dig (t + q) (by omega) (by omega)
    rw [bs_getD (show t + q < s.size by omega)] at h2
    omega
theorem eVal_small {s : ByteArray} {t v q : Nat} (h : ExpAt s t v) (hq : t + q ≤ s.size) : eVal s t q < 1000 := by
  have h1 := eVal_lt h hq
  have h2 := h.le
  have : 10 ^ q ≤ 10 ^ 3 := Nat.pow_le_pow_right (by omega) (by omega)
  omega
end Go.Proofs.YtmndipnifjpdjaaGreatDoor
