import Derived.Test.YtgnbhhgpaldheaaGreatKEJ
import Derived.Test.YtgnbhhgpaldheaaGreatKV3
namespace Go.Proofs.YtgnbhhgpaldheaaGreat
open Go Go.RowKit
set_option linter.unusedVariables false
theorem LkR.idl {k : Lks} {n : Nat} {c : Cf} {i2 : Nat → Int} (h : LkR k n c i2) (hmv : ∀ p, c.mv p = (c.op p == 2 && c.a p == i2 p)) {p : Nat} (hp : c.L p) : idle1 (k.o p) (k.a p) (k.b p) (k.bh p) = c.idl p := by
  have hpn : p < n := by rw [← h.en]; exact hp.1
  unfold idle1 Cf.idl
  rw [h.eo, h.ea, h.ebh p hp, hmv p, h.eb p hpn]
  unfold goals
  by_cases e2 : c.op p = 2
  · rw [if_pos e2, e2]
    simp [jmp, chs]
  · rw [if_neg e2]
    by_cases e5 : c.op p = 25 ∨ c.op p = 26 ∨ c.op p = 27
    · rw [if_pos e5]
      have hj : jmp (c.op p) = true := by rcases e5 with e | e | e <;> rw [e] <;> rfl
      rw [if_pos hj]
      have h1 : (c.op p == 25 || chs (c.op p)) = true := by rcases e5 with e | e | e <;> rw [e] <;> rfl
      rw [h1, beq_eq_false_iff_ne.2 e2]
      simp
      by_cases d : c.b p = c.nx p
      · rw [d]; simp
      · rw [beq_eq_false_iff_ne.2 d, beq_eq_false_iff_ne.2 (fun z => d (by omega))]
    · rw [if_neg e5]
      have h1 : (c.op p == 25 || chs (c.op p)) = false := by
        simp only [chs, Bool.or_eq_false_iff, beq_eq_false_iff_ne]
        exact ⟨fun z => e5 (.inl z), fun z => e5 (.inr (.inl z)), fun z => e5 (.inr (.inr z))⟩
      rw [h1, beq_eq_false_iff_ne.2 e2]
      simp
theorem ls_filter {n : Nat} {s D : Nat → Bool} (h : ∀ p, p < n → D p = true → s p = true) : (ls n s).filter D = ls n D := by
  unfold ls
  rw [List.filter_filter]
  refine List.filter_congr (fun p hp => ?_)
  rw [List.mem_range] at hp
  cases e : D p with
  | false => simp
  | true => simp [h p hp e]
theorem ShA.cleart {base n G S lm tm : Nat} {i2 i3 l0 : Nat → Int} {c : Cf} {ls tc : Nat → Bool} {cm : Nat → List Nat} {un : Bool} {k : Lks} {w w' : World} {tc' : Nat → Bool} (h : ShA base n G S lm tm i2 i3 l0 c ls tc cm un k w) (kp : Keeps w w' (fun b => b = tm)) (hs : SetM w' tm n tc') : ShA base n G S lm tm i2 i3 l0 c ls tc' cm un k w' :=
  ⟨RowF.keep h.lk kp (fun e => h.mt.row h.lk e.symm), h.kr, RowF.keep h.sh kp (fun e => h.mt.row h.sh e.symm), h.ml.keep kp h.ne, hs, h.kx, h.kl, h.kd, fun t ht => owns_past (h.co t ht) kp (fun g e q => h.off (h.co t ht) e (.inr (.inr (.inl q)))), h.ap, h.ne, h.ge, h.cj⟩
theorem ShA.clearl {base n G S lm tm : Nat} {i2 i3 l0 : Nat → Int} {c : Cf} {ls tc : Nat → Bool} {cm : Nat → List Nat} {un : Bool} {k : Lks} {w w' : World} {ls' : Nat → Bool} (h : ShA base n G S lm tm i2 i3 l0 c ls tc cm un k w) (kp : Keeps w w' (fun b => b = lm)) (hs : SetM w' lm n ls') : ShA base n G S lm tm i2 i3 l0 c ls' tc cm un k w' :=
  ⟨RowF.keep h.lk kp (fun e => h.ml.row h.lk e.symm), h.kr, RowF.keep h.sh kp (fun e => h.ml.row h.sh e.symm), hs, h.mt.keep kp (fun e => h.ne e.symm), h.kx, h.kl, h.kd, fun t ht => owns_past (h.co t ht) kp (fun g e q => h.off (h.co t ht) e (.inr (.inr (.inr q)))), h.ap, h.ne, h.ge, h.cj⟩
theorem ShA.belowK {base n G S lm tm : Nat} {i2 i3 l0 : Nat → Int} {c : Cf} {ls tc : Nat → Bool} {cm : Nat → List Nat} {un : Bool} {k : Lks} {w w' : World} (h : ShA base n G S lm tm i2 i3 l0 c ls tc cm un k w) (kb : Below w.heap.size w w') : ShA base n G S lm tm i2 i3 l0 c ls tc cm un k w' := h.keep (Keeps.of kb (Nat.le_refl _) (fun _ => False)) (fun _ _ x => x) (fun _ _ _ _ x => x)
def IdlR (base n G S lm tm : Nat) (i2 i3 l0 : Nat → Int) (c : Cf) (ls : Nat → Bool) (cm : Nat → List Nat) (w : World) (e : Ending) (w' : World) : Prop :=
  ∃ (b : Bool) (s : Ou) (k' : Lks), e = .returned (.bool b) ∧ ShA base n G S lm tm i2 i3 l0 s.c s.ls s.tc cm false k' w' ∧ Ps s.c s.ls s.tc cm false ∧ Eb (c.cut c.idl) s.c ∧ (b = true ↔ ∃ p, c.L p ∧ c.idl p = true) ∧ (∀ p, s.ls p = true → ls p = true ∨ jmp (s.c.op p) = true) ∧ Below base w w' ∧ Keeps w w' (OuS G S lm tm)
set_option maxHeartbeats 3200000 in
set_option maxRecDepth 100000 in
theorem pidle_any {base n G S lm tm cap : Nat} {i2 i3 l0 : Nat → Int} {c : Cf} {ls tc : Nat → Bool} {cm : Nat → List Nat} {k : Lks} {w : World} (hn : n ≤ 1048576) (h : ShA base n G S lm tm i2 i3 l0 c ls tc cm false k w) (hpm : Pm c tc cm false) (hls : ∀ p, c.L p → ls p = false) (hmv : ∀ p, c.mv p = (c.op p == 2 && c.a p == i2 p)) (hcl : ∀ t, t < n → (cm t).length ≤ 100000000000) (hbase : base ≤ w.heap.size) :
    Calls Tryz.prog 45 #[.pointer (some ⟨S, 0, none⟩), .slice (some ⟨G, 0, none⟩) n cap] w fun e w' => IdlR base n G S lm tm i2 i3 l0 c ls cm w e w' := by
  have HH := hide h
  have HP := hide hpm
  have HLs := hide hls
  have HMv := hide hmv
  have HCl := hide hcl
  have c2 := h.sh.c2
  have HEn := hide h.kr.en
  clear h hpm hls hcl hmv
  go_enter Tryz.func45, Tryz.ntmps45
  go_wp2_with (first
    | (go_at_call 90
       refine (psorted_any HH.out.mt hn).mono ?_
       rintro e w1 ⟨vs, rfl, hos, hb1⟩
       have HS1 := hide hos
       have HB1 := hide hb1
       have HH1 := hide (HH.out.belowK hb1)
       clear hos hb1
       obtain ⟨xs, hxs⟩ : ∃ xs, Go.Proofs.YtgnbhhgpaldheaaGreat.ls n tc = xs := ⟨_, rfl⟩
       rw [hxs] at HS1
       have HXs := hide hxs
       obtain ⟨aS, cS, rfl⟩ := owns_val HS1.out
       clear hxs)
    | fail)
  clear c2
  have hs1 := HB1.out.size
  have HXn := hide (show xs.length ≤ n from by rw [← HXs.out]; exact ls_le _ _)
  obtain ⟨M, hM⟩ : ∃ M, xs.length = M := ⟨_, rfl⟩
  rw [hM] at HS1 HXn
  rw [hM]
  have HM := hide hM
  clear hM
  have hMn := HXn.out
  go_loopw [5, 15] (fun ov iv wr => ∃ j : Nat, j ≤ M ∧ iv = .int .i64 (j : Int) ∧ Hid (wr.ownsRow w1.heap.size 3 1 ov ((xs.take j).filter (fun q => c.lf q && c.idl q)).length (natC ((xs.take j).filter (fun q => c.lf q && c.idl q)))) ∧ Hid (Below w1.heap.size w1 wr)) (fun _ iv _ => M - ivN iv)
  case atStart => exact ⟨0, Nat.zero_le _, rfl, hide (by simpa [natC] using World.ownsRow_nil w1 w1.heap.size 3 1), hide (Below.refl _ _)⟩
  case round =>
    obtain ⟨j, hj, rfl, HO, HB⟩ := hrel
    obtain ⟨oa, oc, rfl⟩ := owns_val HO.out
    have hsz := HB.out.size
    have HHr := hide (HH1.out.belowK HB.out)
    by_cases hjM : j < M
    · obtain ⟨gs, rfl, hgb, hrow, hgc⟩ := row_of HS1.out (by omega)
      have hrow2 := hrow.low HB.out hrow.lt
      obtain ⟨p, hp⟩ : ∃ p, xs.getD j 0 = p := ⟨_, rfl⟩
      have hjx : j < xs.length := by rw [HM.out]; exact hjM
      have cj : wr.cell? ⟨gs, j, none⟩ = some (.int .i64 (p : Int)) := by rw [RowF.cell hrow2 (by omega), natC_getD _ hjx, hp]
      have hpm : p ∈ xs := by rw [← hp]; exact getD_memN hjx
      have hpn : p < n := by rw [← HXs.out] at hpm; exact (ls_mem.1 hpm).1
      have htk : xs.take (j + 1) = xs.take j ++ [p] := by rw [take_snocN _ hjx, hp]
      have HTk := hide htk
      have r9 : wr.cell? ⟨G, p * 10 + 9, none⟩ = some (.bool (!c.lf p)) := (HHr.out.lk.gn hpn).trans (by rw [HHr.out.kr.egn p hpn])
      clear hrow hrow2 hp hjx hpm htk hgb hgc
      obtain ⟨LL, hLL⟩ : ∃ LL, (xs.take j).filter (fun q => c.lf q && c.idl q) = LL := ⟨_, rfl⟩
      have hll : LL.length ≤ n := by rw [← hLL]; exact Nat.le_trans (List.length_filter_le _ _) (by rw [List.length_take]; omega)
      rw [hLL] at HO
      rw [hLL]
      have HLL := hide hLL
      clear hLL
      obtain ⟨L, hL⟩ : ∃ L, LL.length = L := ⟨_, rfl⟩
      rw [hL] at HO hll
      rw [hL]
      have HL := hide hL
      clear hL
      cases hlf : c.lf p with
      | false =>
        rw [hlf] at r9
        have HLf := hide hlf
        clear hlf
        go_wp2_with fail
        go_roundw
        case rel => exact ⟨j + 1, by omega, by simp, hide (by rw [HTk.out, List.filter_append, HLL.out]; simpa [HLf.out, HL.out] using HO.out), HB⟩
        case measure => simp [ivN]; omega
      | true =>
        rw [hlf] at r9
        have HLf := hide hlf
        have hpL : c.L p := ⟨by rw [HEn.out]; exact hpn, hlf⟩
        have HN := hide (nothing_any G (p * 10) (k.o p) (k.a p) (k.b p) (k.bh p) wr (HHr.out.lk.o hpn) (HHr.out.lk.a hpn) (HHr.out.lk.b hpn) (HHr.out.lk.bh hpn))
        rw [HHr.out.kr.idl HMv.out hpL] at HN
        clear hlf hpL
        cases hid : c.idl p with
        | false =>
          rw [hid] at HN
          have HI := hide hid
          clear hid
          go_wp2_with (first
            | (go_at_call 94
               refine HN.out.mono ?_
               rintro e w2 ⟨rfl, hb2⟩
               have HB2 := hide (HB.out.trans (hb2.mono HB.out.size))
               have HO2 := hide (owns_past HO.out (Keeps.of hb2 (Nat.le_refl _) (fun _ => False)) (fun _ _ x => x))
               clear hb2)
            | fail)
          go_roundw
          case rel => exact ⟨j + 1, by omega, by simp, hide (by rw [HTk.out, List.filter_append, HLL.out]; simpa [HLf.out, HI.out, HL.out] using HO2.out), HB2⟩
          case measure => simp [ivN]; omega
        | true =>
          rw [hid] at HN
          have HI := hide hid
          clear hid
          go_upto_region 7 with (first
            | (go_at_call 94
               refine HN.out.mono ?_
               rintro e w2 ⟨rfl, hb2⟩
               have HB2 := hide (HB.out.trans (hb2.mono HB.out.size))
               have HO2 := hide (owns_past HO.out (Keeps.of hb2 (Nat.le_refl _) (fun _ => False)) (fun _ _ x => x))
               clear hb2)
            | fail)
          have hsz2 := HB2.out.size
          go_upto_region 8 with (first
            | (at_builtin
               refine app_k rfl (.tmp 31) (.tmp 33) 43 3 1 8 (.int .i64 0) rfl Tryz.underlying43 Tryz.info3 rfl (by decide) w1.heap.size (.slice oa L oc) L (natC LL) [.int .i64 (p : Int)] HO2.out rfl rfl rfl (by simp [Value.oneCell']) (by omega) (by decide) hsz2 ?_
               intro v5 w5 hv5 hk5 hw5)
            | fail)
          have HO5 : Hid (w5.ownsRow w1.heap.size 3 1 v5 (LL ++ [p]).length (natC (LL ++ [p]))) := hide (by have := hv5; simp only [natC, List.map_append, List.map_cons, List.map_nil, List.length_append, List.length_singleton, HL.out] at this ⊢; exact this)
          have HB5 := hide (HB2.out.trans (hk5.below (B := w1.heap.size) HB2.out.size (fun b e => (owns_blk HO2.out e).1)))
          clear hv5 hk5 hw5
          go_wp2_with fail
          go_roundw
          case rel => exact ⟨j + 1, by omega, by simp, hide (by rw [HTk.out, List.filter_append, HLL.out]; simpa [HLf.out, HI.out] using HO5.out), HB5⟩
          case measure => simp [ivN]; omega
    · obtain rfl : j = M := by omega
      obtain ⟨w2, hcl, hcs, hck, hcz⟩ := HHr.out.mt.clear 0
      have HH2 := hide (HHr.out.cleart hck hcs)
      have HK2 := hide hck
      have hxs : (xs.take j).filter (fun q => c.lf q && c.idl q) = Go.Proofs.YtgnbhhgpaldheaaGreat.ls n (fun q => c.lf q && c.idl q) := by
        rw [← HM.out, List.take_length, ← HXs.out]
        refine ls_filter (fun q hq hD => ?_)
        rw [Bool.and_eq_true] at hD
        exact HP.out.td q ⟨by rw [HEn.out]; exact hq, hD.1⟩ hD.2
      obtain ⟨LL, hLL⟩ : ∃ LL, (xs.take j).filter (fun q => c.lf q && c.idl q) = LL := ⟨_, rfl⟩
      have HLL := hide (hLL.symm.trans hxs)
      rw [hLL] at HO
      rw [hLL]
      have c2 : wr.cell? ⟨S, 2, none⟩ = some (.map (some tm)) := HHr.out.sh.c2
      have HO2 := hide (owns_past HO.out hck (fun g e q => HHr.out.off HO.out e (.inr (.inr (.inl q)))))
      have HLv := hide (leaveOut_any (cap := cap) hn HH2.out HCl.out LL (.slice oa LL.length oc) (fun q hq => by
        rw [HLL.out] at hq
        have := (ls_mem.1 hq)
        rw [Bool.and_eq_true] at this
        exact ⟨by rw [HEn.out]; exact this.1, this.2.1⟩) (by rw [HLL.out]; exact ls_nd _ _) HO2.out (by rw [HLL.out]; exact ls_le _ _))
      clear hcs hck hxs hLL
      go_wp2_with (first
        | (go_at_call 93
           refine HLv.out.mono ?_
           rintro e w3 ⟨rfl, hs3, hk3⟩
           have HS3 := hide hs3
           have HK3 := hide hk3
           clear hs3 hk3)
        | fail)
      go_ret
      obtain ⟨k', hk'⟩ := HS3.out
      have hrun := OuI.run (cm := cm) (s0 := ⟨c, ls, fun _ => false⟩) (D := c.idl) (fun q hq hj => (HP.out.ok.j q hq hj).1) (fun q hq hj => (HP.out.st q hq hj).2) (fun t ht q hq hqL => HP.out.cm t ht q hq hqL) n ⟨c, ls, fun _ => false⟩ (by show n ≤ c.n; rw [HEn.out]; exact Nat.le_refl _) (by have := OuI.start cm ⟨c, ls, fun _ => false⟩ c.idl (fun q hq hj => (HP.out.ok.j q hq hj).1.1); rw [show (⟨c, ls, fun _ => false⟩ : Ou).c.n = n from HEn.out] at this; exact this)
      have hx : ((List.range n).filter (fun q => c.lf q && c.idl q)).reverse = LL.reverse := by rw [HLL.out]; rfl
      have hrun2 : OuI cm ⟨c, ls, fun _ => false⟩ c.idl 0 (Ou.run cm ⟨c, ls, fun _ => false⟩ LL.reverse) := by rw [← hx]; exact hrun
      obtain ⟨m1, m2⟩ := HP.out.outI HLs.out hrun2
      refine ⟨_, _, k', rfl, hk', m1, m2, ?_, fun z hlj => ?_, (HB1.out.mono hbase).trans ((HB.out.mono (by omega)).trans ((HK2.out.below (B := base) (by omega) (fun b e => by rw [e]; exact HH.out.ge.2.2.2)).trans (HK3.out.below (B := base) (by have := HK2.out.size; omega) (fun b e => HH.out.geS e)))), (Keeps.of HB1.out (Nat.le_refl _) _).trans ((Keeps.of HB.out (Nat.le_refl _) _).trans ((HK2.out.mono (fun b e => .inr (.inr (.inl e)))).trans HK3.out))⟩
      · rw [decide_eq_true_iff]
        constructor
        · intro hpos
          have : LL ≠ [] := fun e => by rw [e] at hpos; simp at hpos
          obtain ⟨z, hz⟩ := List.exists_mem_of_ne_nil _ this
          rw [HLL.out] at hz
          have := ls_mem.1 hz
          rw [Bool.and_eq_true] at this
          exact ⟨z, ⟨by rw [HEn.out]; exact this.1, this.2.1⟩, this.2.2⟩
        · rintro ⟨z, h1, h2⟩
          have hz : z ∈ LL := by rw [HLL.out]; exact ls_mem.2 ⟨by rw [← HEn.out]; exact h1.1, by rw [h1.2, h2]; rfl⟩
          have := List.length_pos_of_mem hz
          omega
      · rcases run_ls cm _ _ z hlj with e | ⟨t, h1, h2⟩
        · exact .inl e
        · right
          rw [(run_op cm _ _).1]
          have ht : t ∈ LL := List.mem_reverse.1 h1
          rw [HLL.out] at ht
          exact (HH.out.cj t (ls_mem.1 ht).1 z h2).2
end Go.Proofs.YtgnbhhgpaldheaaGreat
