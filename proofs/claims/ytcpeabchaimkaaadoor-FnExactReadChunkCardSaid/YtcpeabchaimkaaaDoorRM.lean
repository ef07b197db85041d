import Derived.Test.YtcpeabchaimkaaaDoorRJ
namespace Go.Proofs.YtcpeabchaimkaaaDoor
open Go Go.RowKit
set_option linter.unusedVariables false

def ChkR (R : Nat) (l : List Int) (w : World) (e : Ending) (w' : World) : Prop :=
  Keeps w w' (fun b => b = R) ∧ ((∃ ys v lo, Fok (ys.map FV.x) ∧ l = fdFile (ys.map FV.x) ∧ e = .returned (.agg #[v]) ∧ w.heap.size ≤ lo ∧ w'.ownsRow lo 44 8 v ys.length (fvC ys) ∧ Rows w' lo ys w'.heap.size) ∨ ((∀ xs, Fok xs → l ≠ fdFile xs) ∧ e = PanE))
theorem magic_bs {t : List Int} (hB : BytesL t) (h : ((bsL t).toList == [99, 104, 117, 110, 107, 45, 48, 49]) = true) : t = magic := by
  have e := txL_bsL hB
  have h1 := eq_of_beq h
  rw [ByteArray.toList_eq] at h1
  rw [← e, txL, h1]
  rfl
theorem bs_magic : bsL magic = ⟨#[99, 104, 117, 110, 107, 45, 48, 49]⟩ := by decide
theorem one_fn (x : FD) (b4 b5 b6 b7 : Option Addr) (k4 k5 k6 k7 : Nat) : ∀ v ∈ [Value.int .i64 x.params, .int .i64 x.regs, .int .i64 x.line, .bool x.dots, .slice b4 x.ups.length k4, .slice b5 x.cons.length k5, .slice b6 x.ins.length k6, .slice b7 x.ins.length k7], v.oneCell' = true := by
  intro v hv
  simp only [List.mem_cons, List.not_mem_nil, or_false] at hv
  rcases hv with rfl | rfl | rfl | rfl | rfl | rfl | rfl | rfl <;> rfl
theorem CK.fin {w0 w : World} {R g2 g3 : Nat} {s : List Int} {v : Value} {ys zs : List FV} (h : CK w0 w R g2 g3 s v ys zs) (x : Value) :
    Keeps w0 (w.setCell ⟨g2, 0, none⟩ x) (fun b => b = R) ∧ w0.heap.size ≤ g3 + 1 ∧ (w.setCell ⟨g2, 0, none⟩ x).ownsRow (g3 + 1) 44 8 v ys.length (fvC ys) ∧ Rows (w.setCell ⟨g2, 0, none⟩ x) (g3 + 1) zs (w.setCell ⟨g2, 0, none⟩ x).heap.size := by
  obtain ⟨o1, o2, o3⟩ := h.o
  have k : Keeps w (w.setCell ⟨g2, 0, none⟩ x) (fun b => b = g2) := (Keeps.refl w (fun b => b = g2)).setCell (S := fun b => b = g2) (j := 0) rfl x
  exact ⟨h.k.past (by omega) x, by omega, owns_keep h.own k (by omega), Rows.more (lo := 0) (h.rows.keep (Kept4.of (lo := g3 + 1) k (by omega)) (Nat.le_refl _)) k.size (Nat.le_refl _)⟩
theorem fbody_len (xs : List FD) : 8 ≤ (fbody xs).length := by
  rw [fbody, List.length_append]
  have : magic.length = 8 := rfl
  omega

set_option maxHeartbeats 3200000 in
set_option maxRecDepth 100000 in
theorem chunk_p (R : Nat) (l : List Int) (w : World) (hl20 : l.length ≤ 1048576) (h : RdP w R l) :
    Calls Tryd.prog 18 #[.pointer (some ⟨R, 0, none⟩)] w fun e w' => ChkR R l w e w' := by
  have hRl := h.lt
  have HR := hide (h.low (b_1 w (.cells #[nilS] 25)) hRl)
  have HZ := hide (RowF.mk' w 25 #[nilS])
  have HK := hide (Keeps.of (b_1 w (.cells #[nilS] 25)) (Nat.le_refl _) (fun b => b = R))
  clear h
  go_enter Tryd.func18, Tryd.ntmps18
  go_wp2_with fail
  generalize w.alloc (.cells #[nilS] 25) = w1 at *
  refine (checkSum_p R l w1 hl20 HR.out).mono ?_
  rintro e w2 ⟨hk, ⟨t, hl, rfl, hr⟩ | ⟨hno, rfl⟩⟩
  case inr => exact ⟨rfl, HK.out.trans hk, .inr ⟨fun xs _ e => hno _ e, rfl⟩⟩
  have HF := hide (show ∀ xs, Fok xs → l = fdFile xs → t = fbody xs from fun xs _ e => (List.append_inj' (hl.symm.trans e) (by rw [u64n_len, u64n_len])).1)
  have HL := hide hl
  have HZ := hide (HZ.out.keep hk (by omega))
  have HK := hide (HK.out.trans hk)
  have HR := hide hr
  have htl : t.length ≤ 1048576 := by rw [hl, List.length_append] at hl20; omega
  clear hk hl hr
  go_wp2_with fail
  refine (take_any R 8 t w2 (by omega) HR.out).mono ?_
  rintro e w3 ⟨hk, ⟨hle, v3, rfl, hs, hr⟩ | ⟨hlt, rfl⟩⟩
  case inr => exact ⟨rfl, HK.out.trans hk, .inr ⟨fun xs hx e => by have := fbody_len xs; rw [← HF.out xs hx e] at this; omega, rfl⟩⟩
  have HBt : Hid (BytesL (t.take 8)) := hide (fun x hx => HR.out.2.1 x (List.mem_of_mem_take hx))
  have hcv := conv_sl hs
  have HZ := hide (HZ.out.keep hk (by omega))
  have HK := hide (HK.out.trans hk)
  have HTk : Hid (t = t.take 8 ++ t.drop 8) := hide (List.take_append_drop 8 t).symm
  have htk : (t.take 8).length = 8 := by rw [List.length_take]; omega
  have HR := hide hr
  generalize t.take 8 = m8 at *
  generalize t.drop 8 = r1 at *
  clear hk hs hr
  go_wp2_with fail
  refine (require_any _ _ _).mono ?_
  rintro e w4 ⟨hw, ⟨hq, rfl⟩ | ⟨hq, rfl⟩⟩
  case inr =>
    subst hw
    refine ⟨rfl, HK.out, .inr ⟨fun xs hx e => ?_, rfl⟩⟩
    have e1 := HTk.out.symm.trans (HF.out xs hx e)
    have e2 := (List.append_inj e1 (by rw [htk]; rfl)).1
    rw [e2, bs_magic] at hq
    simp at hq
  obtain rfl := hw.symm
  obtain rfl : m8 = magic := magic_bs HBt.out hq
  have HF := hide (show ∀ xs, Fok xs → l = fdFile xs → r1 = u64n xs.length 2 ++ encL fdE xs from fun xs hx e => (List.append_inj (HTk.out.symm.trans (HF.out xs hx e)) rfl).2)
  have hq1 := len_le HTk.out htl
  have hzl := HZ.out.lt
  have HC := hide (show CK w (w3.alloc (.cells #[nilS] 25)) R w.heap.size w3.heap.size r1 nilS [] [] from
    ⟨⟨hRl, Nat.le_refl _, hzl⟩, HR.out.low (b_1 w3 _) HR.out.lt, (HZ.out.low (b_1 w3 _) hzl).congr (fun j hj => one_row _ hj), (RowF.mk' w3 25 #[nilS]).congr (fun j hj => one_row _ hj), HK.out.trans (Keeps.of (b_1 w3 _) (Nat.le_refl _) _), ⟨rfl, .inl ⟨rfl, rfl⟩⟩, ⟨by simp, Nat.le_refl _⟩⟩)
  clear hq hcv HBt HZ HK HR htk hzl hw
  go_wp2_with fail
  generalize hG : w3.heap.size = G at *
  have hwG : w.heap.size < G := HC.out.o.2.2
  generalize w3.alloc (.cells #[nilS] 25) = w5 at *
  refine (num_p R 2 r1 w5 (by omega) HC.out.rd).mono ?_
  rintro e u5 ⟨hk, ⟨a5, r2, hxa5, hl, rfl, hr⟩ | ⟨hno, rfl⟩⟩
  case inr => exact ⟨rfl, HC.out.k.trans hk, .inr ⟨fun xs hx e => hno (xs.length : Int) _ (rng2.2 ⟨by omega, by have := hx.2; omega⟩) (HF.out xs hx e), rfl⟩⟩
  have HLc := hide hl
  have HN := hide (show ∀ xs, Fok xs → l = fdFile xs → a5 = (xs.length : Int) from fun xs hx e => n2_inj (fld (HLc.out.symm.trans (HF.out xs hx e))).1 (rng2.1 hxa5) ⟨by omega, by have := hx.2; omega⟩)
  have HF := hide (show ∀ xs, Fok xs → l = fdFile xs → r2 = encL fdE xs from fun xs hx e => (fld (HLc.out.symm.trans (HF.out xs hx e))).2)
  have hq2 := len_le HLc.out hq1
  have hc := HC.out.go hk hr
  rw [rng2] at hxa5
  obtain ⟨n, rfl⟩ : ∃ n : Nat, a5 = n := ⟨a5.toNat, by omega⟩
  have hn9 : n ≤ 65535 := by omega
  clear HC
  have HC := hide hc
  clear hk hl hr hc hxa5
  go_wp2_with fail
  go_loopw [14] (fun iv wr => ∃ ys v r, ys.length ≤ n ∧ iv = .int .i64 (ys.length : Nat) ∧ Hid (∀ x ∈ ys.map FV.x, FD.ok x) ∧ Hid (r2 = encL fdE (ys.map FV.x) ++ r) ∧ Hid (CK w wr R w.heap.size G r v ys ys)) (fun iv _ => match iv with | .int _ x => n - x.toNat | _ => 0)
  case atStart => exact ⟨[], nilS, r2, by simp, rfl, hide (by simp), hide rfl, HC⟩
  clear HC
  case round =>
    obtain ⟨ys, v, r, hun, rfl, HU, HL5, HC⟩ := hrel
    have hq3 := len_le HL5.out hq2
    by_cases hlt : ys.length < n
    · have HCd := hide HC.out.drew
      have c4 := HCd.out.p.cell (j := 0) (by omega)
      have z4 := HCd.out.p.frz 0
      have hi9 : (ys.length : Int) < n := by omega
      go_wp2_with fail
      go_region_law
        (first
        | (go_simp
           go_at_call 32
           refine (function_p R r _ hq3 HCd.out.rd).mono ?_
           rintro e w6 ⟨hk, ⟨x, r', v4, v5, v6, v7, hx, hl, hr, he, h4, h5, h6, h7⟩ | ⟨hno, rfl⟩⟩
           case inr =>
             refine ⟨rfl, HCd.out.k.trans hk, .inr ⟨fun xs hx e => ?_, rfl⟩⟩
             have e1 := HL5.out.symm.trans (HF.out xs hx e)
             obtain ⟨y, r2, hy, e2⟩ := fd_inj.more _ _ _ [] HU.out hx.1 (by have := HN.out xs hx e; rw [List.length_map]; omega) (e1.trans (List.append_nil _).symm)
             exact hno y r2 hy e2
           obtain ⟨b4, k4, rfl⟩ := owns_val h4
           obtain ⟨b5, k5, rfl⟩ := owns_val h5
           obtain ⟨b6, k6, rfl⟩ := owns_val h6
           obtain ⟨b7, k7, rfl⟩ := owns_val h7
           subst he
           have HC2 := hide (HCd.out.read hk hr h4 h5 h6 h7)
           have HX := hide hx
           have HL6 := hide hl
           have c5 := HC2.out.p.cell (j := 0) (by omega)
           have c6 : (w6.alloc (.cells #[.int .i64 x.params, .int .i64 x.regs, .int .i64 x.line, .bool x.dots, .slice b4 x.ups.length k4, .slice b5 x.cons.length k5, .slice b6 x.ins.length k6, .slice b7 x.ins.length k7] 44)).cell? ⟨G, 0, none⟩ = some v := ((b_1 w6 _).cell (p := ⟨G, 0, none⟩) HC2.out.p.lt).trans c5
           clear hk hl hr h4 h5 h6 h7 hx)
        | (have _z := HC2
           rw [if_pos (by rfl)]
           clear _z
           refine app_new_op _ _ 23 44 8 128 _ rfl Tryd.underlying23 Tryd.info44 rfl (by omega) (G + 1) v ys.length (fvC ys) [.int .i64 x.params, .int .i64 x.regs, .int .i64 x.line, .bool x.dots, .slice b4 x.ups.length k4, .slice b5 x.cons.length k5, .slice b6 x.ins.length k6, .slice b7 x.ins.length k7] HC2.out.own rfl rfl rfl (one_fn x b4 b5 b6 b7 k4 k5 k6 k7) (by omega) (by omega) (by have := HC2.out.p.lt; omega) ?_
           intro v' w7 h1 h2 h3
           obtain ⟨a9, k9, rfl⟩ := owns_val h1
           have HC3 := hide (HC2.out.app h1 h2 h3)
           have c5 : w7.cell? ⟨G, 0, none⟩ = some v := ((h2 _ _ (Below.refl _ _) (Nat.le_refl _)).cell (p := ⟨G, 0, none⟩) (Nat.lt_succ_self _)).trans c5
           have z5 : w7.frozen? ⟨G, 0, none⟩ = false := (HC2.out.p.low (h2 _ _ (Below.refl _ _) (Nat.le_refl _)) (Nat.lt_succ_self _)).frz 0
           clear h1 h2 h3 HC2))
      all_goals
        clear c4 z4 c5 z5 c6 HCd
        generalize w7.setCell ⟨G, 0, none⟩ (.slice a9 (ys.length + 1) k9) = w8 at *
        go_wp2_with fail
        go_roundw
        case rel => exact ⟨ys ++ [⟨x, .slice b4 x.ups.length k4, .slice b5 x.cons.length k5, .slice b6 x.ins.length k6, .slice b7 x.ins.length k7⟩], _, r', by simp; omega, by simp, hide (by rw [List.map_append]; exact all_snoc HU.out HX.out), hide (by rw [HL5.out, HL6.out, List.map_append, List.map_cons, List.map_nil, encL_1, List.append_assoc]), HC3⟩
        case measure => simp; omega
    · obtain rfl : ys.length = n := by omega
      have HF := hide (show ∀ xs, Fok xs → l = fdFile xs → r = [] from fun xs hx e => by
        have e1 := HL5.out.symm.trans (HF.out xs hx e)
        exact (fd_inj.same _ _ _ [] HU.out hx.1 (by have := HN.out xs hx e; rw [List.length_map]; omega) (e1.trans (List.append_nil _).symm)).2)
      obtain ⟨⟨v1, hv1, hs1⟩, -⟩ := HC.out.rd
      obtain ⟨b1, k1, rfl⟩ : ∃ a cap, v1 = .slice a r.length cap := by
        rcases hs1 with ⟨rfl, a, cap, rfl, _⟩ | ⟨b, o, cap, rfl, _⟩
        · exact ⟨_, _, rfl⟩
        · exact ⟨_, _, rfl⟩
      have c1 := hv1.cell (j := 0) (by omega)
      clear hv1 hs1 hlt hun
      go_wp2_with fail
      refine (require_any _ _ _).mono ?_
      rintro e w9 ⟨hw, ⟨hq, rfl⟩ | ⟨hq, rfl⟩⟩
      case inr =>
        subst hw
        refine ⟨rfl, HC.out.k, .inr ⟨fun xs hx e => ?_, rfl⟩⟩
        rw [HF.out xs hx e] at hq
        simp at hq
      obtain rfl := hw.symm
      have hr0 : r = [] := by
        have := eq_of_beq hq
        exact List.eq_nil_of_length_eq_zero (by omega)
      have HR0 := hide hr0
      obtain ⟨a9, k9, rfl⟩ := owns_val HC.out.own
      have p0 := HC.out.p.cell (j := 0) (by omega)
      have s0 := HC.out.z.cell (j := 0) (by omega)
      have f0 := HC.out.z.frz 0
      have HE := hide (HC.out.fin (.slice a9 ys.length k9))
      clear hq hr0 c1 hw
      go_wp2_with fail
      refine bodyPost_ret (v := .agg #[.slice a9 ys.length k9]) ?_ rfl ⟨HE.out.1, .inl ⟨ys, .slice a9 ys.length k9, G + 1, ⟨HU.out, by rw [List.length_map]; exact hn9⟩, ?_, rfl, HE.out.2⟩⟩
      · simp [results, Tryd.results18, go_sem, s0]
      · have e9 : fbody (ys.map FV.x) = t := by rw [HTk.out, HLc.out, HL5.out, HR0.out, List.append_nil, fbody, List.length_map]
        rw [fdFile, e9]
        exact HL.out

end Go.Proofs.YtcpeabchaimkaaaDoor
