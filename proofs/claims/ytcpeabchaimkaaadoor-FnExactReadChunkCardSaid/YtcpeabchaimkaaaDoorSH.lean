import Derived.Test.YtcpeabchaimkaaaDoorSG
import Derived.Deep.RegionLaw
import Derived.Deep.DeepCutAuto
namespace Go.Proofs.YtcpeabchaimkaaaDoor
open Go Go.RowKit
set_option linter.unusedVariables false

theorem wp_seq_var' {P : Program} {x y : Code} {Q : Exit → Act → World → Prop} {a : Act} {w : World} (h : ∀ K : Act → World → Prop, (∀ a w, y.wp P Q a w → K a w) → x.wp P (Exit.then K Q) a w) : (Code.seq x y).wp P Q a w := wp_seq (h _ fun _ _ q => q)
theorem dUps_0 (s : St) : dUps 0 s = ([], s) := rfl
theorem dUps_sh {s : St} (n : Nat) (h : s.2 = true) : dUps n s = ([], s) := by
  cases n with
  | zero => rfl
  | succ n => rw [dUps, if_pos h]
theorem dUps_1 {s : St} (n : Nat) (h : s.2 = false) : dUps (n + 1) s = (((nm 1 false s).1 != 0, (nm 1 false (nm 1 false s).2).1) :: (dUps n (nm 1 false (nm 1 false s).2).2).1, (dUps n (nm 1 false (nm 1 false s).2).2).2) := by rw [dUps, if_neg (by rw [h]; simp)]
theorem dCons_sh {s : St} (n : Nat) (h : s.2 = true) : dCons n s = ([], s) := by
  cases n with
  | zero => rfl
  | succ n => rw [dCons, if_pos h]
theorem dCons_1 {s : St} (n : Nat) (h : s.2 = false) : dCons (n + 1) s = ((dCon s).1 :: (dCons n (dCon s).2).1, (dCons n (dCon s).2).2) := by rw [dCons, if_neg (by rw [h]; simp)]
theorem dIns_sh {s : St} (n : Nat) (h : s.2 = true) : dIns n s = ([], s) := by
  cases n with
  | zero => rfl
  | succ n => rw [dIns, if_pos h]
theorem dIns_1 {s : St} (n : Nat) (h : s.2 = false) : dIns (n + 1) s = ((dIn s).1 :: (dIns n (dIn s).2).1, (dIns n (dIn s).2).2) := by rw [dIns, if_neg (by rw [h]; simp)]
theorem nm1_range (s : St) (hB : BytesL s.1) : 0 ≤ (nm 1 false s).1 ∧ (nm 1 false s).1 ≤ 255 := by
  have hl := rdT_len (n := 1) (l := s.1)
  obtain ⟨h1, h2⟩ := leV_lt (hB.rdT (n := 1))
  have hx : (rdT 1 s.1).length = 0 ∨ (rdT 1 s.1).length = 1 := by omega
  show 0 ≤ numV false (rdT 1 s.1) ∧ numV false (rdT 1 s.1) ≤ 255
  rw [numV, if_neg (by simp)]
  unfold wrap64
  rcases hx with e | e <;> rw [e] at h2 <;> simp at h2 <;> omega
theorem nm4_range (s : St) (hB : BytesL s.1) : 0 ≤ (nm 4 false s).1 ∧ (nm 4 false s).1 ≤ 4294967295 := by
  have hl := rdT_len (n := 4) (l := s.1)
  obtain ⟨h1, h2⟩ := leV_lt (hB.rdT (n := 4))
  have hx : (rdT 4 s.1).length = 0 ∨ (rdT 4 s.1).length = 1 ∨ (rdT 4 s.1).length = 2 ∨ (rdT 4 s.1).length = 3 ∨ (rdT 4 s.1).length = 4 := by omega
  show 0 ≤ numV false (rdT 4 s.1) ∧ numV false (rdT 4 s.1) ≤ 4294967295
  rw [numV, if_neg (by simp)]
  unfold wrap64
  rcases hx with e | e | e | e | e <;> rw [e] at h2 <;> simp at h2 <;> omega
theorem one_dc (u : DC) : ∀ v ∈ [Value.int .i64 u.1, .int .i64 u.2.1, .int .u64 u.2.2.1, .string (bsL u.2.2.2)], v.oneCell' = true := by
  intro v hv
  simp only [List.mem_cons, List.not_mem_nil, or_false] at hv
  rcases hv with rfl | rfl | rfl | rfl <;> rfl
theorem dProto_eq {s : St} {s1 s2 s3 s4 : Int × St} {us : List (Bool × Int)} {cs : List DC} {is : List DI} {r1 r2 r3 : St} (h1 : nm 1 false s = s1) (h2 : nm 1 false s1.2 = s2) (h3 : nm 1 false s2.2 = s3) (h4 : nm 4 false s3.2 = s4)
    (d1 : dUps (nm 1 false s4.2).1.toNat (nm 1 false s4.2).2 = (us, r1)) (d2 : dCons (nm 2 false r1).1.toNat (nm 2 false r1).2 = (cs, r2)) (d3 : dIns (nm 2 false r2).1.toNat (nm 2 false r2).2 = (is, r3)) :
    dProto s = (⟨s1.1, s3.1, s4.1, s2.1 != 0, us, cs, is⟩, r3) := by
  have hH : dH s = ((s1.1, s2.1, s3.1, s4.1, (nm 1 false s4.2).1), (nm 1 false s4.2).2) := by simp only [dH, h1, h2, h3, h4]
  have hU : dU s = (us, r1) := by rw [dU, hH]; exact d1
  have hC : dC s = (cs, r2) := by rw [dC, hU]; exact d2
  have hI : dI s = (is, r3) := by rw [dI, hC]; exact d3
  rw [dProto, hH, hU, hC, hI]
theorem QP.line {w0 w : World} {R g2 g3 : Nat} {s : St} {f : Nat → Value} {us : List (Bool × Int)} {cs : List DC} {is ls : List DI} {p q r t a b : Int} (h : QP w0 w R g2 g3 s f us cs (is ++ [(p, q, r, t, a)]) ls) : QP w0 w R g2 g3 s f us cs (is ++ [(p, q, r, t, b)]) ls :=
  ⟨h.o, h.rd, h.z, h.p, h.k, h.u, h.c, by have h9 := h.i; rw [List.length_append, inD_1] at h9 ⊢; exact h9, h.l⟩
theorem QP.fin {w0 w : World} {R g2 g3 : Nat} {s : St} {f : Nat → Value} {us : List (Bool × Int)} {cs : List DC} {is ls : List DI} (h : QP w0 w R g2 g3 s f us cs is ls) (v0 v1 v2 v3 v4 v5 v6 v7 : Value) :
    Keeps w0 (put8' w g2 v0 v1 v2 v3 v4 v5 v6 v7) (fun b => b = R) ∧ RdN (put8' w g2 v0 v1 v2 v3 v4 v5 v6 v7) R s ∧
      (put8' w g2 v0 v1 v2 v3 v4 v5 v6 v7).ownsRow w0.heap.size 57 2 (f 4) us.length (upC us) ∧ (put8' w g2 v0 v1 v2 v3 v4 v5 v6 v7).ownsRow w0.heap.size 59 4 (f 5) cs.length (conD cs) ∧ (put8' w g2 v0 v1 v2 v3 v4 v5 v6 v7).ownsRow w0.heap.size 61 4 (f 6) is.length (inD is) ∧ (put8' w g2 v0 v1 v2 v3 v4 v5 v6 v7).ownsRow w0.heap.size 3 1 (f 7) ls.length (liD ls) := by
  obtain ⟨o1, o2, o3⟩ := h.o
  have k := put8_keeps w g2 v0 v1 v2 v3 v4 v5 v6 v7
  have k0 : Keeps w0 (put8' w g2 v0 v1 v2 v3 v4 v5 v6 v7) (fun b => b = R) := ⟨k.os.trans h.k.os, k.tape.trans h.k.tape, k.output.trans h.k.output, Nat.le_trans h.k.size k.size, fun b hb hn => (k.block b (Nat.lt_of_lt_of_le hb h.k.size) (by omega)).trans (h.k.block b hb hn)⟩
  exact ⟨k0, h.rd.keep k (by omega), owns_less (owns_keep h.u k (by omega)) (by omega), owns_less (owns_keep h.c k (by omega)) (by omega), owns_less (owns_keep h.i k (by omega)) (by omega), owns_less (owns_keep h.l k (by omega)) (by omega)⟩
theorem nm2_range (s : St) (hB : BytesL s.1) : 0 ≤ (nm 2 false s).1 ∧ (nm 2 false s).1 ≤ 65535 := by
  have hl := rdT_len (n := 2) (l := s.1)
  obtain ⟨h1, h2⟩ := leV_lt (hB.rdT (n := 2))
  have hx : (rdT 2 s.1).length = 0 ∨ (rdT 2 s.1).length = 1 ∨ (rdT 2 s.1).length = 2 := by omega
  show 0 ≤ numV false (rdT 2 s.1) ∧ numV false (rdT 2 s.1) ≤ 65535
  rw [numV, if_neg (by simp)]
  unfold wrap64
  rcases hx with e | e | e <;> rw [e] at h2 <;> simp at h2 <;> omega
abbrev zero8d : Array Value := #[.int .i64 0, .int .i64 0, .int .i64 0, .bool false, nilS, nilS, nilS, nilS]
theorem QP.start (w w1 : World) (R : Nat) (a : Int) (s : St) (hR : R < w.heap.size) (hl : w.heap.size < w1.heap.size) (h : RdN w1 R s) (hz : RowF w1 44 w.heap.size 8 (fun j => #[Value.int .i64 0, .int .i64 0, .int .i64 0, .bool false, nilS, nilS, nilS, nilS].getD j (.bool false))) (hk : Keeps w w1 (fun b => b = R)) :
    QP w (w1.alloc (.cells #[.int .i64 a, .int .i64 0, .int .i64 0, .bool false, nilS, nilS, nilS, nilS] 44)) R w.heap.size w1.heap.size s (fun j => #[Value.int .i64 a, .int .i64 0, .int .i64 0, .bool false, nilS, nilS, nilS, nilS].getD j (.bool false)) [] [] [] [] := by
  have k : ∀ S, Keeps w1 (w1.alloc (.cells #[.int .i64 a, .int .i64 0, .int .i64 0, .bool false, nilS, nilS, nilS, nilS] 44)) S := fun S => Keeps.of (b_1 w1 _) (Nat.le_refl _) S
  exact ⟨⟨hR, Nat.le_refl _, hl⟩, h.keep (k (fun _ => False)) (fun b hb => hb.elim), hz.keep (k (fun _ => False)) (fun x => x), RowF.mk' w1 _ _, hk.trans (k _), ⟨rfl, .inl ⟨rfl, rfl⟩⟩, ⟨rfl, .inl ⟨rfl, rfl⟩⟩, ⟨rfl, .inl ⟨rfl, rfl⟩⟩, ⟨rfl, .inl ⟨rfl, rfl⟩⟩⟩
/-- What reading a function comes to, with the document's reader. -/
def PrR (R : Nat) (s : St) (w : World) (e : Ending) (w' : World) : Prop :=
  Keeps w w' (fun b => b = R) ∧ RdN w' R (dProto s).2 ∧ ∃ v4 v5 v6 v7, e = .returned (.agg #[.int .i64 (dProto s).1.params, .int .i64 (dProto s).1.regs, .int .i64 (dProto s).1.line, .bool (dProto s).1.dots, v4, v5, v6, v7]) ∧
    w'.ownsRow w.heap.size 57 2 v4 (dProto s).1.ups.length (upC (dProto s).1.ups) ∧ w'.ownsRow w.heap.size 59 4 v5 (dProto s).1.cons.length (conD (dProto s).1.cons) ∧ w'.ownsRow w.heap.size 61 4 v6 (dProto s).1.ins.length (inD (dProto s).1.ins) ∧ w'.ownsRow w.heap.size 3 1 v7 (dProto s).1.ins.length (liD (dProto s).1.ins)

set_option maxHeartbeats 3200000 in
set_option maxRecDepth 100000 in
theorem proto_any (R : Nat) (s : St) (w : World) (h : RdN w R s) :
    Calls Tryd.prog 14 #[.pointer (some ⟨R, 0, none⟩)] w fun e w' => PrR R s w e w' := by
  have hRl := h.lt
  have HN := hide (h.keep (Keeps.of (b_1 w (.cells zero8d 44)) (Nat.le_refl _) (fun _ => False)) (fun b hb => hb.elim))
  have HR2 := hide (RowF.mk' w 44 zero8d)
  have HK := hide (Keeps.of (b_1 w (.cells zero8d 44)) (Nat.le_refl _) (fun b => b = R))
  clear h
  go_enter Tryd.func14, Tryd.ntmps14
  go_wp2_with fail
  generalize w.alloc (.cells zero8d 44) = w0 at *
  refine (number_nm R 1 false s w0 (by omega) HN.out).mono ?_
  rintro e w1 ⟨rfl, hk, hn⟩
  have HP := hide (QP.start w w1 R (nm 1 false s).1 (nm 1 false s).2 hRl (HR2.out.keep hk (by omega)).lt hn (HR2.out.keep hk (by omega)) (HK.out.trans hk))
  have hwG : w.heap.size < w1.heap.size := HP.out.o.2.2
  clear hk hn HN HR2 HK
  go_wp2_with fail
  generalize w1.alloc (.cells #[.int .i64 (nm 1 false s).1, .int .i64 0, .int .i64 0, .bool false, nilS, nilS, nilS, nilS] 44) = w2 at *
  generalize w1.heap.size = G at *
  obtain ⟨s1, hs1⟩ : ∃ s1, nm 1 false s = s1 := ⟨_, rfl⟩
  rw [hs1] at HP ⊢
  have HS1 := hide hs1
  clear hs1
  obtain ⟨s2, hs⟩ : ∃ s9, nm 1 false s1.2 = s9 := ⟨_, rfl⟩
  have HS2 := hide hs
  refine (HP.out.num 1 false (by omega)).mono ?_
  rintro e w3 ⟨rfl, -, hp⟩
  rw [hs] at hp ⊢
  have c3 := hp.p.cell (j := 3) (by omega)
  have z3 := hp.p.frz 3
  clear hs HP
  have HP := hide (hp.set (j := 3) (by omega) (.bool (s2.1 != 0)))
  clear hp
  go_wp2_with fail
  clear c3 z3
  generalize w3.setCell ⟨G, 3, none⟩ (.bool (s2.1 != 0)) = w4 at *
  obtain ⟨s3, hs⟩ : ∃ s9, nm 1 false s2.2 = s9 := ⟨_, rfl⟩
  have HS3 := hide hs
  refine (HP.out.num 1 false (by omega)).mono ?_
  rintro e w5 ⟨rfl, -, hp⟩
  rw [hs] at hp ⊢
  have c3 := hp.p.cell (j := 1) (by omega)
  have z3 := hp.p.frz 1
  clear hs HP
  have HP := hide (hp.set (j := 1) (by omega) (.int .i64 s3.1))
  clear hp
  go_upto_region 4 with (fail)
  clear c3 z3
  generalize w5.setCell ⟨G, 1, none⟩ (.int .i64 s3.1) = w6 at *
  rename_i K4 hK4
  have HK4 := hide hK4
  clear hK4
  go_wp2_with fail
  obtain ⟨s4, hs⟩ : ∃ s9, nm 4 false s3.2 = s9 := ⟨_, rfl⟩
  have HS4 := hide hs
  refine (HP.out.num 4 false (by omega)).mono ?_
  rintro e w7 ⟨rfl, -, hp⟩
  rw [hs] at hp ⊢
  have c3 := hp.p.cell (j := 2) (by omega)
  have z3 := hp.p.frz 2
  clear hs HP
  have HP := hide (hp.set (j := 2) (by omega) (.int .i64 s4.1))
  clear hp
  go_wp2_with fail
  clear c3 z3
  generalize w7.setCell ⟨G, 2, none⟩ (.int .i64 s4.1) = w8 at *
  refine HK4.out _ _ ?_
  refine wp_seq_k ?_
  intro K5 hK5
  have HK5 := hide hK5
  clear hK5 HK4
  obtain ⟨f, hf, hp⟩ : ∃ f : Nat → Value, (f 0 = .int .i64 s1.1 ∧ f 1 = .int .i64 s3.1 ∧ f 2 = .int .i64 s4.1 ∧ f 3 = .bool (s2.1 != 0)) ∧ QP w w8 R w.heap.size G s4.2 f [] [] [] [] := ⟨_, ⟨rfl, rfl, rfl, rfl⟩, HP.out⟩
  have HQ := hide hf
  clear HP
  have HP := hide hp
  clear hf hp
  go_cut [4] (fun sl wc => ∃ (s9 : St) (f : Nat → Value) (us : List (Bool × Int)), Hid (dUps (nm 1 false s4.2).1.toNat (nm 1 false s4.2).2 = (us, s9)) ∧ Hid (f 0 = .int .i64 s1.1 ∧ f 1 = .int .i64 s3.1 ∧ f 2 = .int .i64 s4.1 ∧ f 3 = .bool (s2.1 != 0)) ∧ Hid (QP w wc R w.heap.size G s9 f us [] [] []))
  case first =>
    obtain ⟨s5, hs⟩ : ∃ s9, nm 1 false s4.2 = s9 := ⟨_, rfl⟩
    have HS5 := hide hs
    have hx := nm1_range s4.2 HP.out.rd.2.1
    go_wp2_with fail
    refine (HP.out.num 1 false (by omega)).mono ?_
    rintro e w9 ⟨rfl, -, hp⟩
    rw [hs] at hp hx ⊢
    clear hs HP
    have HP := hide hp
    clear hp
    obtain ⟨n, hn⟩ : ∃ n : Nat, s5.1 = n := ⟨s5.1.toNat, by omega⟩
    have HN5 := hide (show s5.1.toNat = n by omega)
    rw [hn] at hx ⊢
    have hn9 : n ≤ 255 := by omega
    clear hn hx
    go_wp2_with fail
    go_loopw [4] (fun iv wr => ∃ (m : Nat) (s9 : St) (us : List (Bool × Int)) (f : Nat → Value), us.length + m ≤ 255 ∧ iv = .int .i64 (m : Nat) ∧ Hid (dUps n s5.2 = (us ++ (dUps m s9).1, (dUps m s9).2)) ∧ Hid (f 0 = .int .i64 s1.1 ∧ f 1 = .int .i64 s3.1 ∧ f 2 = .int .i64 s4.1 ∧ f 3 = .bool (s2.1 != 0)) ∧ Hid (QP w wr R w.heap.size G s9 f us [] [] [])) (fun iv _ => match iv with | .int _ x => x.toNat | _ => 0)
    case atStart => exact ⟨n, s5.2, [], f, by simpa using hn9, rfl, hide (by simp), HQ, HP⟩
    clear HP HQ f
    case round =>
      obtain ⟨m, s9, us, f, hle, rfl, HE, HQ, HP⟩ := hrel
      rcases m with _ | m
      · go_wp2_with fail
        go_meet
        case rel => exact ⟨s9, f, us, hide (by rw [HS5.out, HN5.out, HE.out]; simp [dUps]), HQ, HP⟩
      obtain ⟨⟨v0, fr, hr, e0, e1, hs0⟩, -⟩ := HP.out.rd
      have cR := hr.cell (j := 1) (by omega)
      rw [e1] at cR
      clear hr e0 e1 hs0
      have hm1 : (0 : Int) < ((m + 1 : Nat) : Int) := by omega
      rcases hb : s9.2 with _ | _
      case true =>
        rw [hb] at cR
        go_wp2_with fail
        go_meet
        case rel => exact ⟨s9, f, us, hide (by rw [HS5.out, HN5.out, HE.out, dUps_sh _ hb]; simp), HQ, HP⟩
      rw [hb] at cR
      have HE := hide (HE.out.trans (by rw [dUps_1 m hb]))
      clear hb
      go_wp2_with fail
      obtain ⟨p1, hs⟩ : ∃ p1, nm 1 false s9 = p1 := ⟨_, rfl⟩
      refine (HP.out.num 1 false (by omega)).mono ?_
      rintro e x1 ⟨rfl, -, hp⟩
      rw [hs] at hp HE ⊢
      have hfr := hp.fresh (Nat.le_refl _)
      have hgx := hp.p.lt
      have HU := hide (RowF.mk' x1 57 #[.bool (p1.1 != 0), .int .i64 0])
      clear HP cR hs
      have HP := hide (hp.alloc (.cells #[.bool (p1.1 != 0), .int .i64 0] 57))
      clear hp
      go_wp2_with fail
      have hR9 := HP.out.o
      generalize x1.alloc (.cells #[.bool (p1.1 != 0), .int .i64 0] 57) = x2 at *
      generalize x1.heap.size = gx at *
      obtain ⟨p2, hs⟩ : ∃ p2, nm 1 false p1.2 = p2 := ⟨_, rfl⟩
      refine (HP.out.num 1 false (by omega)).mono ?_
      rintro e x3 ⟨rfl, hk, hp⟩
      rw [hs] at hp HE ⊢
      have hu := HU.out.keep hk (by omega)
      have u1 := hu.cell (j := 1) (by simp)
      have z1 := hu.frz 1
      have HU := hide (hu.set (j := 1) (by simp) (.int .i64 p2.1))
      clear HP hs hk hu
      have HP := hide (hp.past hgx hfr 1 (.int .i64 p2.1))
      clear hp
      go_upto_region 10 with (fail)
      clear u1 z1
      generalize x3.setCell ⟨gx, 1, none⟩ (.int .i64 p2.1) = x4 at *
      have u0 : x4.cell? ⟨gx, 0, none⟩ = some (.bool (p1.1 != 0)) := HU.out.cell (j := 0) (by simp)
      have u1 : x4.cell? ⟨gx, 1, none⟩ = some (.int .i64 p2.1) := HU.out.cell (j := 1) (by simp)
      have c4 := HP.out.p.cell (j := 4) (by omega)
      go_wp2_with (first
      | (have _z := HP
         at_builtin
         clear _z
         refine app_new rfl _ _ 39 57 2 16 _ rfl Tryd.underlying39 Tryd.info57 rfl (by omega) (G + 1) (f 4) us.length (upC us) [.bool (p1.1 != 0), .int .i64 p2.1] HP.out.u rfl rfl rfl (one_up (p1.1 != 0, p2.1)) (by omega) (by omega) (by have := HP.out.p.lt; omega) ?_
         intro v' x5 h1 _ h2 h3
         obtain ⟨a9, k9, rfl⟩ := owns_val h1
         have HPa := hide (HP.out.app_u (u := (p1.1 != 0, p2.1)) h1 h2 h3)
         have c5 : x5.cell? ⟨G, 4, none⟩ = some (f 4) := ((h2 _ _ (Below.refl _ _) (Nat.le_refl _)).cell (p := ⟨G, 4, none⟩) (Nat.lt_succ_self _)).trans (HP.out.p.cell (j := 4) (by omega))
         have z5 : x5.frozen? ⟨G, 4, none⟩ = false := (HP.out.p.low (h2 _ _ (Below.refl _ _) (Nat.le_refl _)) (Nat.lt_succ_self _)).frz 4
         clear h1 h2 h3 HP)
      | fail)
      clear c5 z5
      generalize x5.setCell ⟨G, 4, none⟩ (.slice a9 (us.length + 1) k9) = wz at *
      go_wp2_with fail
      go_roundw
      case rel => exact ⟨m, p2.2, us ++ [(p1.1 != 0, p2.1)], (fun i => if i = 4 then .slice a9 (us.length + 1) k9 else f i), by simp; omega, by simp, hide (by rw [HE.out]; simp), hide HQ.out, HPa⟩
      case measure => simp
  case rest =>
    obtain ⟨r1, f, us, HD1, HQ, HP⟩ := hcut
    refine HK5.out _ _ ?_
    refine wp_seq_k ?_
    intro K6 hK6
    have HK6 := hide hK6
    clear hK6 HK5
    go_cut [6] (fun sl wc => ∃ (s9 : St) (f : Nat → Value) (cs : List DC), Hid (dCons (nm 2 false r1).1.toNat (nm 2 false r1).2 = (cs, s9)) ∧ Hid (f 0 = .int .i64 s1.1 ∧ f 1 = .int .i64 s3.1 ∧ f 2 = .int .i64 s4.1 ∧ f 3 = .bool (s2.1 != 0)) ∧ Hid (QP w wc R w.heap.size G s9 f us cs [] []))
    case first =>
      obtain ⟨q5, hs⟩ : ∃ q, nm 2 false r1 = q := ⟨_, rfl⟩
      have HS6 := hide hs
      have hx := nm2_range r1 HP.out.rd.2.1
      go_wp2_with fail
      refine (HP.out.num 2 false (by omega)).mono ?_
      rintro e w9 ⟨rfl, -, hp⟩
      rw [hs] at hp hx ⊢
      clear hs HP
      have HP := hide hp
      clear hp
      obtain ⟨n, hn⟩ : ∃ n : Nat, q5.1 = n := ⟨q5.1.toNat, by omega⟩
      have HN6 := hide (show q5.1.toNat = n by omega)
      rw [hn] at hx ⊢
      have hn9 : n ≤ 65535 := by omega
      clear hn hx
      go_wp2_with fail
      go_loopw [6] (fun iv wr => ∃ (m : Nat) (s9 : St) (cs : List DC) (f : Nat → Value), cs.length + m ≤ 65535 ∧ iv = .int .i64 (m : Nat) ∧ Hid (dCons n q5.2 = (cs ++ (dCons m s9).1, (dCons m s9).2)) ∧ Hid (f 0 = .int .i64 s1.1 ∧ f 1 = .int .i64 s3.1 ∧ f 2 = .int .i64 s4.1 ∧ f 3 = .bool (s2.1 != 0)) ∧ Hid (QP w wr R w.heap.size G s9 f us cs [] [])) (fun iv _ => match iv with | .int _ x => x.toNat | _ => 0)
      case atStart => exact ⟨n, q5.2, [], f, by simpa using hn9, rfl, hide (by simp), HQ, HP⟩
      clear HP HQ f
      case round =>
        obtain ⟨m, s9, cs, f, hle, rfl, HE, HQ, HP⟩ := hrel
        rcases m with _ | m
        · go_wp2_with fail
          go_meet
          case rel => exact ⟨s9, f, cs, hide (by rw [HS6.out, HN6.out, HE.out]; simp [dCons]), HQ, HP⟩
        obtain ⟨⟨v0, fr, hr, e0, e1, hs0⟩, -⟩ := HP.out.rd
        have cR := hr.cell (j := 1) (by omega)
        rw [e1] at cR
        clear hr e0 e1 hs0
        have hm1 : (0 : Int) < ((m + 1 : Nat) : Int) := by omega
        rcases hb : s9.2 with _ | _
        case true =>
          rw [hb] at cR
          go_wp2_with fail
          go_meet
          case rel => exact ⟨s9, f, cs, hide (by rw [HS6.out, HN6.out, HE.out, dCons_sh _ hb]; simp), HQ, HP⟩
        rw [hb] at cR
        have HE := hide (HE.out.trans (by rw [dCons_1 m hb]))
        clear hb
        go_wp2_with fail
        obtain ⟨p1, hs⟩ : ∃ p1, nm 1 false s9 = p1 := ⟨_, rfl⟩
        have HSp := hide hs
        refine (HP.out.num 1 false (by omega)).mono ?_
        rintro e x1 ⟨rfl, -, hp⟩
        rw [hs] at hp ⊢
        have hfr := hp.fresh (Nat.le_refl _)
        have hgx := hp.p.lt
        have HU := hide (RowF.mk' x1 59 #[.int .i64 p1.1, .int .i64 0, .int .u64 0, .string ⟨#[]⟩])
        clear HP cR hs
        have HP := hide (hp.alloc (.cells #[.int .i64 p1.1, .int .i64 0, .int .u64 0, .string ⟨#[]⟩] 59))
        clear hp
        have hR9 := HP.out.o
        have k0 : (x1.alloc (.cells #[.int .i64 p1.1, .int .i64 0, .int .u64 0, .string ⟨#[]⟩] 59)).cell? ⟨x1.heap.size, 0, none⟩ = some (.int .i64 p1.1) := HU.out.cell (j := 0) (by simp)
        go_upto_region 15 with (fail)
        generalize x1.alloc (.cells #[.int .i64 p1.1, .int .i64 0, .int .u64 0, .string ⟨#[]⟩] 59) = x2 at *
        generalize x1.heap.size = gx at *
        by_cases h4 : p1.1 = 4
        · have z4 : (p1.1 == 4) = true := by rw [h4]; rfl
          have H4 := hide h4
          clear h4
          obtain ⟨p2, hs⟩ : ∃ p2, nm 8 false p1.2 = p2 := ⟨_, rfl⟩
          have HSq := hide hs
          go_wp2_with fail
          refine (HP.out.num 8 false (by omega)).mono ?_
          rintro e x3 ⟨rfl, hk, hp⟩
          rw [hs] at hp ⊢
          have hu := HU.out.keep hk (by omega)
          have u1 := hu.cell (j := 1) (by simp)
          have z1 := hu.frz 1
          have HU := hide (hu.set (j := 1) (by simp) (.int .i64 p2.1))
          clear HP hs hk hu
          have HP := hide (hp.past hgx hfr 1 (.int .i64 p2.1))
          clear hp k0
          go_upto_region 21 with (fail)
          clear u1 z1
          generalize x3.setCell ⟨gx, 1, none⟩ (.int .i64 p2.1) = x4 at *
          have y0 : x4.cell? ⟨gx, 0, none⟩ = some (.int .i64 p1.1) := HU.out.cell (j := 0) (by simp)
          have y1 : x4.cell? ⟨gx, 1, none⟩ = some (.int .i64 p2.1) := HU.out.cell (j := 1) (by simp)
          have y2 : x4.cell? ⟨gx, 2, none⟩ = some (.int .u64 0) := HU.out.cell (j := 2) (by simp)
          have y3 : x4.cell? ⟨gx, 3, none⟩ = some (.string (bsL [])) := HU.out.cell (j := 3) (by simp)
          have c4 := HP.out.p.cell (j := 5) (by omega)
          go_wp2_with (first
          | (have _z := HP
             at_builtin
             clear _z
             refine app_new rfl _ _ 40 59 4 40 _ rfl Tryd.underlying40 Tryd.info59 rfl (by omega) (G + 1) (f 5) cs.length (conD cs) [.int .i64 p1.1, .int .i64 p2.1, .int .u64 0, .string (bsL [])] HP.out.c rfl rfl rfl (one_dc (p1.1, p2.1, 0, [])) (by omega) (by omega) (by have := HP.out.p.lt; omega) ?_
             intro v' x5 h1 _ h2 h3
             obtain ⟨a9, k9, rfl⟩ := owns_val h1
             have HPa := hide (HP.out.app_c (u := (p1.1, p2.1, 0, [])) h1 h2 h3)
             have c5 : x5.cell? ⟨G, 5, none⟩ = some (f 5) := ((h2 _ _ (Below.refl _ _) (Nat.le_refl _)).cell (p := ⟨G, 5, none⟩) (Nat.lt_succ_self _)).trans (HP.out.p.cell (j := 5) (by omega))
             have z5 : x5.frozen? ⟨G, 5, none⟩ = false := (HP.out.p.low (h2 _ _ (Below.refl _ _) (Nat.le_refl _)) (Nat.lt_succ_self _)).frz 5
             clear h1 h2 h3 HP)
          | fail)
          clear c5 z5
          generalize x5.setCell ⟨G, 5, none⟩ (.slice a9 (cs.length + 1) k9) = wz at *
          go_wp2_with fail
          go_roundw
          case rel => exact ⟨m, p2.2, cs ++ [(p1.1, p2.1, 0, [])], (fun i => if i = 5 then .slice a9 (cs.length + 1) k9 else f i), by simp; omega, by simp, hide (by rw [HE.out]; simp [dCon, HSp.out, HSq.out, H4.out]), hide HQ.out, HPa⟩
          case measure => simp
        by_cases h5 : p1.1 = 5
        · have z4 : (p1.1 == 4) = false := by simp; exact h4
          have z5 : (p1.1 == 5) = true := by rw [h5]; rfl
          have H5 := hide h5
          clear h4 h5
          obtain ⟨p2, hs⟩ : ∃ p2, nm 8 false p1.2 = p2 := ⟨_, rfl⟩
          have HSq := hide hs
          go_wp2_with fail
          refine (HP.out.num 8 false (by omega)).mono ?_
          rintro e x3 ⟨rfl, hk, hp⟩
          rw [hs] at hp ⊢
          have hu := HU.out.keep hk (by omega)
          have u1 := hu.cell (j := 2) (by simp)
          have z1 := hu.frz 2
          have HU := hide (hu.set (j := 2) (by simp) (.int .u64 (IntKind.u64.wrap p2.1)))
          clear HP hs hk hu
          have HP := hide (hp.past hgx hfr 2 (.int .u64 (IntKind.u64.wrap p2.1)))
          clear hp k0
          go_upto_region 21 with (fail)
          clear u1 z1
          generalize x3.setCell ⟨gx, 2, none⟩ (.int .u64 (IntKind.u64.wrap p2.1)) = x4 at *
          have y0 : x4.cell? ⟨gx, 0, none⟩ = some (.int .i64 p1.1) := HU.out.cell (j := 0) (by simp)
          have y1 : x4.cell? ⟨gx, 1, none⟩ = some (.int .i64 0) := HU.out.cell (j := 1) (by simp)
          have y2 : x4.cell? ⟨gx, 2, none⟩ = some (.int .u64 (IntKind.u64.wrap p2.1)) := HU.out.cell (j := 2) (by simp)
          have y3 : x4.cell? ⟨gx, 3, none⟩ = some (.string (bsL [])) := HU.out.cell (j := 3) (by simp)
          have c4 := HP.out.p.cell (j := 5) (by omega)
          go_wp2_with (first
          | (have _z := HP
             at_builtin
             clear _z
             refine app_new rfl _ _ 40 59 4 40 _ rfl Tryd.underlying40 Tryd.info59 rfl (by omega) (G + 1) (f 5) cs.length (conD cs) [.int .i64 p1.1, .int .i64 0, .int .u64 (IntKind.u64.wrap p2.1), .string (bsL [])] HP.out.c rfl rfl rfl (one_dc (p1.1, 0, IntKind.u64.wrap p2.1, [])) (by omega) (by omega) (by have := HP.out.p.lt; omega) ?_
             intro v' x5 h1 _ h2 h3
             obtain ⟨a9, k9, rfl⟩ := owns_val h1
             have HPa := hide (HP.out.app_c (u := (p1.1, 0, IntKind.u64.wrap p2.1, [])) h1 h2 h3)
             have c5 : x5.cell? ⟨G, 5, none⟩ = some (f 5) := ((h2 _ _ (Below.refl _ _) (Nat.le_refl _)).cell (p := ⟨G, 5, none⟩) (Nat.lt_succ_self _)).trans (HP.out.p.cell (j := 5) (by omega))
             have z5 : x5.frozen? ⟨G, 5, none⟩ = false := (HP.out.p.low (h2 _ _ (Below.refl _ _) (Nat.le_refl _)) (Nat.lt_succ_self _)).frz 5
             clear h1 h2 h3 HP)
          | fail)
          clear c5 z5
          generalize x5.setCell ⟨G, 5, none⟩ (.slice a9 (cs.length + 1) k9) = wz at *
          go_wp2_with fail
          go_roundw
          case rel => exact ⟨m, p2.2, cs ++ [(p1.1, 0, IntKind.u64.wrap p2.1, [])], (fun i => if i = 5 then .slice a9 (cs.length + 1) k9 else f i), by simp; omega, by simp, hide (by rw [HE.out]; simp [dCon, HSp.out, HSq.out, H5.out]), hide HQ.out, HPa⟩
          case measure => simp
        have z4 : (p1.1 == 4) = false := by simp; exact h4
        have z5 : (p1.1 == 5) = false := by simp; exact h5
        have H4 := hide h4
        have H5 := hide h5
        clear h4 h5
        have hx := nm4_range p1.2 HP.out.rd.2.1
        obtain ⟨p2, hs⟩ : ∃ p2, nm 4 false p1.2 = p2 := ⟨_, rfl⟩
        have HSq := hide hs
        go_wp2_with fail
        refine (HP.out.num 4 false (by omega)).mono ?_
        rintro e x3 ⟨rfl, hk, hp⟩
        rw [hs] at hp hx ⊢
        have hu := HU.out.keep hk (by omega)
        obtain ⟨q, hq⟩ : ∃ q : Nat, p2.1 = q := ⟨p2.1.toNat, by omega⟩
        rw [hq] at hx ⊢
        have hq9 : q ≤ 4294967295 := by omega
        have HQq := hide hq
        clear hq hx hs
        go_wp2_with fail
        refine (bytes_any R q p2.2.1 p2.2.2 x3 (by omega) hp.rd.2.2 hp.rd.1).mono ?_
        rintro e x6 ⟨vb, rfl, hk6, hby⟩
        obtain ⟨hsb, hrb⟩ : SlB x6 R vb (rdT q p2.2.1) ∧ RdS x6 R (rdD q p2.2.1) (rdS q p2.2.1 p2.2.2) := by
          rcases hby with ⟨hle6, h1, h2⟩ | ⟨hlt6, rfl, h2⟩
          · rw [rdT, rdD, rdS, if_pos hle6, if_pos hle6, if_pos hle6]; exact ⟨h1, h2⟩
          · rw [rdT, rdD, rdS, if_neg (by omega), if_neg (by omega), if_neg (by omega)]; exact ⟨.inl ⟨rfl, none, 0, rfl, fun x hx => by cases hx⟩, h2⟩
        have hcv := conv_sl hsb
        have hp := hp.go hk6 (show RdN x6 R (rdD q p2.2.1, rdS q p2.2.1 p2.2.2) from ⟨hrb, hp.rd.2.1.rdD, Nat.le_trans rdD_len hp.rd.2.2⟩)
        have hu := hu.keep hk6 (by omega)
        obtain ⟨t3, ht3⟩ : ∃ t3, rdT q p2.2.1 = t3 := ⟨_, rfl⟩
        have HT3 := hide ht3
        rw [ht3] at hcv
        have hs := True.intro
        clear hby hsb hrb hk6 ht3
        have u1 := hu.cell (j := 3) (by simp)
        have z1 := hu.frz 3
        have HU := hide (hu.set (j := 3) (by simp) (.string (bsL t3)))
        clear HP hs hk hu
        have HP := hide (hp.past hgx hfr 3 (.string (bsL t3)))
        clear hp k0
        go_upto_region 21 with (fail)
        clear u1 z1
        generalize x6.setCell ⟨gx, 3, none⟩ (.string (bsL t3)) = x4 at *
        have y0 : x4.cell? ⟨gx, 0, none⟩ = some (.int .i64 p1.1) := HU.out.cell (j := 0) (by simp)
        have y1 : x4.cell? ⟨gx, 1, none⟩ = some (.int .i64 0) := HU.out.cell (j := 1) (by simp)
        have y2 : x4.cell? ⟨gx, 2, none⟩ = some (.int .u64 0) := HU.out.cell (j := 2) (by simp)
        have y3 : x4.cell? ⟨gx, 3, none⟩ = some (.string (bsL t3)) := HU.out.cell (j := 3) (by simp)
        have c4 := HP.out.p.cell (j := 5) (by omega)
        go_wp2_with (first
        | (have _z := HP
           at_builtin
           clear _z
           refine app_new rfl _ _ 40 59 4 40 _ rfl Tryd.underlying40 Tryd.info59 rfl (by omega) (G + 1) (f 5) cs.length (conD cs) [.int .i64 p1.1, .int .i64 0, .int .u64 0, .string (bsL t3)] HP.out.c rfl rfl rfl (one_dc (p1.1, 0, 0, t3)) (by omega) (by omega) (by have := HP.out.p.lt; omega) ?_
           intro v' x5 h1 _ h2 h3
           obtain ⟨a9, k9, rfl⟩ := owns_val h1
           have HPa := hide (HP.out.app_c (u := (p1.1, 0, 0, t3)) h1 h2 h3)
           have c5 : x5.cell? ⟨G, 5, none⟩ = some (f 5) := ((h2 _ _ (Below.refl _ _) (Nat.le_refl _)).cell (p := ⟨G, 5, none⟩) (Nat.lt_succ_self _)).trans (HP.out.p.cell (j := 5) (by omega))
           have z5 : x5.frozen? ⟨G, 5, none⟩ = false := (HP.out.p.low (h2 _ _ (Below.refl _ _) (Nat.le_refl _)) (Nat.lt_succ_self _)).frz 5
           clear h1 h2 h3 HP)
        | fail)
        clear c5 z5
        generalize x5.setCell ⟨G, 5, none⟩ (.slice a9 (cs.length + 1) k9) = wz at *
        go_wp2_with fail
        go_roundw
        case rel => exact ⟨m, (rdD q p2.2.1, rdS q p2.2.1 p2.2.2), cs ++ [(p1.1, 0, 0, t3)], (fun i => if i = 5 then .slice a9 (cs.length + 1) k9 else f i), by simp; omega, by simp, hide (by rw [HE.out]; simp [dCon, HSp.out, HSq.out, H4.out, H5.out, HQq.out, HT3.out]), hide HQ.out, HPa⟩
        case measure => simp
    case rest =>
      obtain ⟨r2, f, cs, HD2, HQ, HP⟩ := hcut
      refine HK6.out _ _ ?_
      refine wp_seq_k ?_
      intro K7 hK7
      have HK7 := hide hK7
      clear hK7 HK6
      go_cut [8] (fun sl wc => ∃ (s9 : St) (f : Nat → Value) (is : List DI), Hid (dIns (nm 2 false r2).1.toNat (nm 2 false r2).2 = (is, s9)) ∧ Hid (f 0 = .int .i64 s1.1 ∧ f 1 = .int .i64 s3.1 ∧ f 2 = .int .i64 s4.1 ∧ f 3 = .bool (s2.1 != 0)) ∧ Hid (QP w wc R w.heap.size G s9 f us cs is is))
      case first =>
        obtain ⟨q5, hs⟩ : ∃ q, nm 2 false r2 = q := ⟨_, rfl⟩
        have HS6 := hide hs
        have hx := nm2_range r2 HP.out.rd.2.1
        go_wp2_with fail
        refine (HP.out.num 2 false (by omega)).mono ?_
        rintro e w9 ⟨rfl, -, hp⟩
        rw [hs] at hp hx ⊢
        clear hs HP
        have HP := hide hp
        clear hp
        obtain ⟨n, hn⟩ : ∃ n : Nat, q5.1 = n := ⟨q5.1.toNat, by omega⟩
        have HN6 := hide (show q5.1.toNat = n by omega)
        rw [hn] at hx ⊢
        have hn9 : n ≤ 65535 := by omega
        clear hn hx
        go_wp2_with fail
        go_loopw [8] (fun iv wr => ∃ (m : Nat) (s9 : St) (is : List DI) (f : Nat → Value), is.length + m ≤ 65535 ∧ iv = .int .i64 (m : Nat) ∧ Hid (dIns n q5.2 = (is ++ (dIns m s9).1, (dIns m s9).2)) ∧ Hid (f 0 = .int .i64 s1.1 ∧ f 1 = .int .i64 s3.1 ∧ f 2 = .int .i64 s4.1 ∧ f 3 = .bool (s2.1 != 0)) ∧ Hid (QP w wr R w.heap.size G s9 f us cs is is)) (fun iv _ => match iv with | .int _ x => x.toNat | _ => 0)
        case atStart => exact ⟨n, q5.2, [], f, by simpa using hn9, rfl, hide (by simp), HQ, HP⟩
        clear HP HQ f
        case round =>
          obtain ⟨m, s9, is, f, hle, rfl, HE, HQ, HP⟩ := hrel
          rcases m with _ | m
          · go_wp2_with fail
            go_meet
            case rel => exact ⟨s9, f, is, hide (by rw [HS6.out, HN6.out, HE.out]; simp [dIns]), HQ, HP⟩
          obtain ⟨⟨v0, fr, hr, e0, e1, hs0⟩, -⟩ := HP.out.rd
          have cR := hr.cell (j := 1) (by omega)
          rw [e1] at cR
          clear hr e0 e1 hs0
          have hm1 : (0 : Int) < ((m + 1 : Nat) : Int) := by omega
          rcases hb : s9.2 with _ | _
          case true =>
            rw [hb] at cR
            go_wp2_with fail
            go_meet
            case rel => exact ⟨s9, f, is, hide (by rw [HS6.out, HN6.out, HE.out, dIns_sh _ hb]; simp), HQ, HP⟩
          rw [hb] at cR
          have HE := hide (HE.out.trans (by rw [dIns_1 m hb]))
          clear hb
          go_wp2_with fail
          obtain ⟨p1, hs⟩ : ∃ p1, nm 1 false s9 = p1 := ⟨_, rfl⟩
          have HSp1 := hide hs
          refine (HP.out.num 1 false (by omega)).mono ?_
          rintro e x1 ⟨rfl, -, hp⟩
          rw [hs] at hp ⊢
          have hfr := hp.fresh (Nat.le_refl _)
          have hgx := hp.p.lt
          have HU := hide (RowF.mk' x1 61 #[.int .i64 p1.1, .int .i64 0, .int .i64 0, .int .i64 0])
          clear HP cR hs
          have HP := hide (hp.alloc (.cells #[.int .i64 p1.1, .int .i64 0, .int .i64 0, .int .i64 0] 61))
          clear hp
          have hR9 := HP.out.o
          go_wp2_with fail
          generalize x1.alloc (.cells #[.int .i64 p1.1, .int .i64 0, .int .i64 0, .int .i64 0] 61) = x2 at *
          generalize x1.heap.size = gx at *
          obtain ⟨p2, hs⟩ : ∃ p9, nm 1 false p1.2 = p9 := ⟨_, rfl⟩
          have HSp2 := hide hs
          refine (HP.out.num 1 false (by omega)).mono ?_
          rintro e x3 ⟨rfl, hk, hp⟩
          rw [hs] at hp ⊢
          have hu := HU.out.keep hk (by omega)
          have u1 := hu.cell (j := 1) (by simp)
          have z1 := hu.frz 1
          clear HU
          have HU := hide (hu.set (j := 1) (by simp) (.int .i64 p2.1))
          clear HP hs hk hu
          have HP := hide (hp.past hgx hfr 1 (.int .i64 p2.1))
          clear hp
          go_wp2_with fail
          clear u1 z1
          generalize x3.setCell ⟨gx, 1, none⟩ (.int .i64 p2.1) = x4 at *
          obtain ⟨p3, hs⟩ : ∃ p9, nm 4 true p2.2 = p9 := ⟨_, rfl⟩
          have HSp3 := hide hs
          refine (HP.out.num 4 true (by omega)).mono ?_
          rintro e x5 ⟨rfl, hk, hp⟩
          rw [hs] at hp ⊢
          have hu := HU.out.keep hk (by omega)
          have u1 := hu.cell (j := 2) (by simp)
          have z1 := hu.frz 2
          clear HU
          have HU := hide (hu.set (j := 2) (by simp) (.int .i64 p3.1))
          clear HP hs hk hu
          have HP := hide (hp.past hgx hfr 2 (.int .i64 p3.1))
          clear hp
          go_wp2_with fail
          clear u1 z1
          generalize x5.setCell ⟨gx, 2, none⟩ (.int .i64 p3.1) = x6 at *
          obtain ⟨p4, hs⟩ : ∃ p9, nm 4 true p3.2 = p9 := ⟨_, rfl⟩
          have HSp4 := hide hs
          refine (HP.out.num 4 true (by omega)).mono ?_
          rintro e x7 ⟨rfl, hk, hp⟩
          rw [hs] at hp ⊢
          have hu := HU.out.keep hk (by omega)
          have u1 := hu.cell (j := 3) (by simp)
          have z1 := hu.frz 3
          clear HU
          have HU := hide (hu.set (j := 3) (by simp) (.int .i64 p4.1))
          clear HP hs hk hu
          have HP := hide (hp.past hgx hfr 3 (.int .i64 p4.1))
          clear hp
          go_upto_region 29 with (fail)
          clear u1 z1
          generalize x7.setCell ⟨gx, 3, none⟩ (.int .i64 p4.1) = x8 at *
          have y0 : x8.cell? ⟨gx, 0, none⟩ = some (.int .i64 p1.1) := HU.out.cell (j := 0) (by simp)
          have y1 : x8.cell? ⟨gx, 1, none⟩ = some (.int .i64 p2.1) := HU.out.cell (j := 1) (by simp)
          have y2 : x8.cell? ⟨gx, 2, none⟩ = some (.int .i64 p3.1) := HU.out.cell (j := 2) (by simp)
          have y3 : x8.cell? ⟨gx, 3, none⟩ = some (.int .i64 p4.1) := HU.out.cell (j := 3) (by simp)
          have c4 := HP.out.p.cell (j := 6) (by omega)
          go_wp2_with (first
          | (have _z := HP
             at_builtin
             clear _z
             refine app_new rfl _ _ 41 61 4 32 _ rfl Tryd.underlying41 Tryd.info61 rfl (by omega) (G + 1) (f 6) is.length (inD is) [.int .i64 p1.1, .int .i64 p2.1, .int .i64 p3.1, .int .i64 p4.1] HP.out.i rfl rfl rfl (one_in (p1.1, p2.1, p3.1, p4.1)) (by omega) (by omega) (by have := HP.out.p.lt; omega) ?_
             intro v' x9 h1 _ h2 h3
             obtain ⟨a9, k9, rfl⟩ := owns_val h1
             have HPa := hide (HP.out.app_i (u := (p1.1, p2.1, p3.1, p4.1, 0)) h1 h2 h3)
             have c5 : x9.cell? ⟨G, 6, none⟩ = some (f 6) := ((h2 _ _ (Below.refl _ _) (Nat.le_refl _)).cell (p := ⟨G, 6, none⟩) (Nat.lt_succ_self _)).trans (HP.out.p.cell (j := 6) (by omega))
             have z5 : x9.frozen? ⟨G, 6, none⟩ = false := (HP.out.p.low (h2 _ _ (Below.refl _ _) (Nat.le_refl _)) (Nat.lt_succ_self _)).frz 6
             clear h1 h2 h3 HP)
          | fail)
          clear c5 z5
          generalize x9.setCell ⟨G, 6, none⟩ (.slice a9 (is.length + 1) k9) = wz at *
          obtain ⟨f, hf, hp⟩ : ∃ f9 : Nat → Value, (f9 0 = .int .i64 s1.1 ∧ f9 1 = .int .i64 s3.1 ∧ f9 2 = .int .i64 s4.1 ∧ f9 3 = .bool (s2.1 != 0)) ∧ QP w wz R w.heap.size G p4.2 f9 us cs (is ++ [(p1.1, p2.1, p3.1, p4.1, 0)]) is := ⟨(fun i => if i = 6 then .slice a9 (is.length + 1) k9 else f i), HQ.out, HPa.out⟩
          have HQ := hide hf
          have HPd := hide hp.drew
          have c4 := HPd.out.p.cell (j := 7) (by omega)
          have z4 := HPd.out.p.frz 7
          obtain ⟨p5, hs⟩ : ∃ p9, nm 4 false p4.2 = p9 := ⟨_, rfl⟩
          have HSp5 := hide hs
          clear HPa hf hp hs y0 y1 y2 y3
          go_wp2_with fail
          go_region_law
            (first
            | (go_simp
               go_at_call 13
               refine (HPd.out.num 4 false (by omega)).mono ?_
               rintro e w2 ⟨rfl, -, hp⟩
               rw [HSp5.out] at hp ⊢
               have HP2 := hide hp
               have c5 := HP2.out.p.cell (j := 7) (by omega)
               have c6 : (w2.alloc (.cells #[.int .i64 p5.1] 3)).cell? ⟨G, 7, none⟩ = some (f 7) := ((b_1 w2 _).cell (p := ⟨G, 7, none⟩) HP2.out.p.lt).trans c5
               clear hp)
            | (have _z := HP2
               rw [if_pos (by rfl)]
               clear _z
               refine app_new_op _ _ 42 3 1 8 _ rfl Tryd.underlying42 Tryd.info3 rfl (by omega) (G + 1) (f 7) is.length (liD is) [.int .i64 p5.1] HP2.out.l rfl rfl rfl (one_li p5.1) (by omega) (by omega) (by have := HP2.out.p.lt; omega) ?_
               intro v' w3 h1 h2 h3
               obtain ⟨a9, k9, rfl⟩ := owns_val h1
               have HP3 := hide (HP2.out.app_l (u := (p1.1, p2.1, p3.1, p4.1, p5.1)) h1 h2 h3)
               have c5 : w3.cell? ⟨G, 7, none⟩ = some (f 7) := ((h2 _ _ (Below.refl _ _) (Nat.le_refl _)).cell (p := ⟨G, 7, none⟩) (Nat.lt_succ_self _)).trans c5
               have z5 : w3.frozen? ⟨G, 7, none⟩ = false := (HP2.out.p.low (h2 _ _ (Below.refl _ _) (Nat.le_refl _)) (Nat.lt_succ_self _)).frz 7
               clear h1 h2 h3 HP2))
          all_goals
            clear c4 z4 c5 z5 c6 HPd
            generalize w3.setCell ⟨G, 7, none⟩ (.slice a9 (is.length + 1) k9) = w10 at *
            go_wp2_with fail
            go_roundw
            case rel => exact ⟨m, p5.2, is ++ [(p1.1, p2.1, p3.1, p4.1, p5.1)], (fun i => if i = 7 then .slice a9 (is.length + 1) k9 else f i), by simp; omega, by simp, hide (by rw [HE.out]; simp [dIn, HSp1.out, HSp2.out, HSp3.out, HSp4.out, HSp5.out]), hide HQ.out, hide HP3.out.line⟩
            case measure => simp
      case rest =>
        obtain ⟨r3, f, is, HD3, HQ, HP⟩ := hcut
        rename World => wr
        refine HK7.out _ _ ?_
        obtain ⟨q0, q1, q2, q3⟩ := HQ.out
        obtain ⟨b4, k4, e4⟩ := owns_val HP.out.u
        obtain ⟨b5, k5, e5⟩ := owns_val HP.out.c
        obtain ⟨b6, k6, e6⟩ := owns_val HP.out.i
        obtain ⟨b7, k7, e7⟩ := owns_val HP.out.l
        have p0 := HP.out.p.cell (j := 0) (by omega)
        have p1 := HP.out.p.cell (j := 1) (by omega)
        have p2 := HP.out.p.cell (j := 2) (by omega)
        have p3 := HP.out.p.cell (j := 3) (by omega)
        have p4 := HP.out.p.cell (j := 4) (by omega)
        have p5 := HP.out.p.cell (j := 5) (by omega)
        have p6 := HP.out.p.cell (j := 6) (by omega)
        have p7 := HP.out.p.cell (j := 7) (by omega)
        rw [q0] at p0
        rw [q1] at p1
        rw [q2] at p2
        rw [q3] at p3
        rw [e4] at p4
        rw [e5] at p5
        rw [e6] at p6
        rw [e7] at p7
        have s09 : wr.cell? ⟨w.heap.size, 0, none⟩ = some (.int .i64 0) := HP.out.z.cell (j := 0) (by omega)
        have f0 := HP.out.z.frz 0
        have s19 : wr.cell? ⟨w.heap.size, 1, none⟩ = some (.int .i64 0) := HP.out.z.cell (j := 1) (by omega)
        have f1 := HP.out.z.frz 1
        have s29 : wr.cell? ⟨w.heap.size, 2, none⟩ = some (.int .i64 0) := HP.out.z.cell (j := 2) (by omega)
        have f2 := HP.out.z.frz 2
        have s39 : wr.cell? ⟨w.heap.size, 3, none⟩ = some (.bool false) := HP.out.z.cell (j := 3) (by omega)
        have f3 := HP.out.z.frz 3
        have s49 : wr.cell? ⟨w.heap.size, 4, none⟩ = some (nilS) := HP.out.z.cell (j := 4) (by omega)
        have f4 := HP.out.z.frz 4
        have s59 : wr.cell? ⟨w.heap.size, 5, none⟩ = some (nilS) := HP.out.z.cell (j := 5) (by omega)
        have f5 := HP.out.z.frz 5
        have s69 : wr.cell? ⟨w.heap.size, 6, none⟩ = some (nilS) := HP.out.z.cell (j := 6) (by omega)
        have f6 := HP.out.z.frz 6
        have s79 : wr.cell? ⟨w.heap.size, 7, none⟩ = some (nilS) := HP.out.z.cell (j := 7) (by omega)
        have f7 := HP.out.z.frz 7
        have HFin := hide (HP.out.fin (.int .i64 s1.1) (.int .i64 s3.1) (.int .i64 s4.1) (.bool (s2.1 != 0)) (.slice b4 us.length k4) (.slice b5 cs.length k5) (.slice b6 is.length k6) (.slice b7 is.length k7))
        rw [e4, e5, e6, e7] at HFin
        clear q0 q1 q2 q3 e4 e5 e6 e7
        go_wp2_with fail
        refine bodyPost_ret (v := .agg #[.int .i64 s1.1, .int .i64 s3.1, .int .i64 s4.1, .bool (s2.1 != 0), .slice b4 us.length k4, .slice b5 cs.length k5, .slice b6 is.length k6, .slice b7 is.length k7]) ?_ rfl ?_
        · simp [results, Tryd.results14, go_sem, s09, s19, s29, s39, s49, s59, s69, s79]
        · have hd := dProto_eq HS1.out HS2.out HS3.out HS4.out HD1.out HD2.out HD3.out
          rw [PrR, hd]
          exact ⟨HFin.out.1, HFin.out.2.1, _, _, _, _, rfl, HFin.out.2.2⟩

end Go.Proofs.YtcpeabchaimkaaaDoor
