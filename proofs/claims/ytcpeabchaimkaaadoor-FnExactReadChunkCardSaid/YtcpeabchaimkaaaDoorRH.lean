import Derived.Test.YtcpeabchaimkaaaDoorRG
import Derived.Deep.RegionLaw
namespace Go.Proofs.YtcpeabchaimkaaaDoor
open Go Go.RowKit
set_option linter.unusedVariables false

theorem owns_val {w : World} {base e size n : Nat} {v : Value} {xs : List Value} (h : w.ownsRow base e size v n xs) : ∃ a cap, v = .slice a n cap := by
  obtain ⟨-, ⟨rfl, h2⟩ | ⟨g, cap, cur, rfl, _⟩⟩ := h
  · exact ⟨none, 0, by rw [h2]⟩
  · exact ⟨_, _, rfl⟩
theorem owns_less {w : World} {base base' e size n : Nat} {v : Value} {xs : List Value} (h : w.ownsRow base e size v n xs) (hb : base' ≤ base) : w.ownsRow base' e size v n xs := by
  obtain ⟨h1, h2 | ⟨g, cap, cur, h3, h4, h5⟩⟩ := h
  · exact ⟨h1, .inl h2⟩
  · exact ⟨h1, .inr ⟨g, cap, cur, h3, Nat.le_trans hb h4, h5⟩⟩
theorem all_snoc {α : Type} {V : α → Prop} {xs : List α} {x : α} (h : ∀ y ∈ xs, V y) (hx : V x) : ∀ y ∈ xs ++ [x], V y := fun y hy => by
  rcases List.mem_append.1 hy with h9 | h9
  · exact h y h9
  · exact List.mem_singleton.1 h9 ▸ hx
theorem len_le {a b c : List Int} {N : Nat} (h : a = b ++ c) (h' : a.length ≤ N) : c.length ≤ N := by
  rw [h, List.length_append] at h'
  omega
theorem PP.line {w0 w : World} {R g2 g3 : Nat} {s : List Int} {f : Nat → Value} {us : List (Bool × Int)} {cs : List Con} {is ls : List IL} {u : Int × Int × Int × Int} {a b : Int} (h : PP w0 w R g2 g3 s f us cs (is ++ [(u, a)]) ls) : PP w0 w R g2 g3 s f us cs (is ++ [(u, b)]) ls :=
  ⟨h.o, h.rd, h.z, h.p, h.k, h.u, h.c, by have h9 := h.i; rw [List.length_append, inC_1] at h9 ⊢; exact h9, h.l⟩
/-- The result is laid. -/
def put8' (w : World) (g : Nat) (v0 v1 v2 v3 v4 v5 v6 v7 : Value) : World :=
  (((((((w.setCell ⟨g, 0, none⟩ v0).setCell ⟨g, 1, none⟩ v1).setCell ⟨g, 2, none⟩ v2).setCell ⟨g, 3, none⟩ v3).setCell ⟨g, 4, none⟩ v4).setCell ⟨g, 5, none⟩ v5).setCell ⟨g, 6, none⟩ v6).setCell ⟨g, 7, none⟩ v7
theorem put8_keeps (w : World) (g : Nat) (v0 v1 v2 v3 v4 v5 v6 v7 : Value) : Keeps w (put8' w g v0 v1 v2 v3 v4 v5 v6 v7) (fun b => b = g) :=
  ((((((((Keeps.refl w (fun b => b = g)).setCell (g := g) (j := 0) rfl v0).setCell (g := g) (j := 1) rfl v1).setCell (g := g) (j := 2) rfl v2).setCell (g := g) (j := 3) rfl v3).setCell (g := g) (j := 4) rfl v4).setCell (g := g) (j := 5) rfl v5).setCell (g := g) (j := 6) rfl v6).setCell (g := g) (j := 7) rfl v7
theorem PP.fin {w0 w : World} {R g2 g3 : Nat} {s : List Int} {f : Nat → Value} {us : List (Bool × Int)} {cs : List Con} {is ls : List IL} (h : PP w0 w R g2 g3 s f us cs is ls) (v0 v1 v2 v3 v4 v5 v6 v7 : Value) :
    Keeps w0 (put8' w g2 v0 v1 v2 v3 v4 v5 v6 v7) (fun b => b = R) ∧ RdP (put8' w g2 v0 v1 v2 v3 v4 v5 v6 v7) R s ∧
      (put8' w g2 v0 v1 v2 v3 v4 v5 v6 v7).ownsRow w0.heap.size 57 2 (f 4) us.length (upC us) ∧ (put8' w g2 v0 v1 v2 v3 v4 v5 v6 v7).ownsRow w0.heap.size 59 4 (f 5) cs.length (conC cs) ∧ (put8' w g2 v0 v1 v2 v3 v4 v5 v6 v7).ownsRow w0.heap.size 61 4 (f 6) is.length (inC is) ∧ (put8' w g2 v0 v1 v2 v3 v4 v5 v6 v7).ownsRow w0.heap.size 3 1 (f 7) ls.length (liC ls) := by
  obtain ⟨o1, o2, o3⟩ := h.o
  have k := put8_keeps w g2 v0 v1 v2 v3 v4 v5 v6 v7
  have k0 : Keeps w0 (put8' w g2 v0 v1 v2 v3 v4 v5 v6 v7) (fun b => b = R) := ⟨k.os.trans h.k.os, k.tape.trans h.k.tape, k.output.trans h.k.output, Nat.le_trans h.k.size k.size, fun b hb hn => (k.block b (Nat.lt_of_lt_of_le hb h.k.size) (by omega)).trans (h.k.block b hb hn)⟩
  exact ⟨k0, h.rd.keep k (by omega), owns_less (owns_keep h.u k (by omega)) (by omega), owns_less (owns_keep h.c k (by omega)) (by omega), owns_less (owns_keep h.i k (by omega)) (by omega), owns_less (owns_keep h.l k (by omega)) (by omega)⟩
theorem one_up (u : Bool × Int) : ∀ v ∈ [Value.bool u.1, .int .i64 u.2], v.oneCell' = true := by
  intro v hv
  simp only [List.mem_cons, List.not_mem_nil, or_false] at hv
  rcases hv with rfl | rfl <;> rfl
theorem one_con (u : Con) : ∀ v ∈ [Value.int .i64 u.1, .int .i64 u.2.1, .int .u64 u.2.2.1, .string u.2.2.2], v.oneCell' = true := by
  intro v hv
  simp only [List.mem_cons, List.not_mem_nil, or_false] at hv
  rcases hv with rfl | rfl | rfl | rfl <;> rfl
theorem one_in (u : Int × Int × Int × Int) : ∀ v ∈ [Value.int .i64 u.1, .int .i64 u.2.1, .int .i64 u.2.2.1, .int .i64 u.2.2.2], v.oneCell' = true := by
  intro v hv
  simp only [List.mem_cons, List.not_mem_nil, or_false] at hv
  rcases hv with rfl | rfl | rfl | rfl <;> rfl
theorem one_li (u : Int) : ∀ v ∈ [Value.int .i64 u], v.oneCell' = true := by
  intro v hv
  simp only [List.mem_cons, List.not_mem_nil, or_false] at hv
  rcases hv with rfl
  rfl
abbrev zero8 : Array Value := #[.int .i64 0, .int .i64 0, .int .i64 0, .bool false, nilS, nilS, nilS, nilS]
/-- What reading a function comes to. -/
def FnR (R : Nat) (l : List Int) (w : World) (e : Ending) (w' : World) : Prop :=
  Keeps w w' (fun b => b = R) ∧ ((∃ x r v4 v5 v6 v7, FD.ok x ∧ l = fdE x ++ r ∧ RdP w' R r ∧ e = .returned (.agg #[.int .i64 x.params, .int .i64 x.regs, .int .i64 x.line, .bool x.dots, v4, v5, v6, v7]) ∧
      w'.ownsRow w.heap.size 57 2 v4 x.ups.length (upC x.ups) ∧ w'.ownsRow w.heap.size 59 4 v5 x.cons.length (conC x.cons) ∧ w'.ownsRow w.heap.size 61 4 v6 x.ins.length (inC x.ins) ∧ w'.ownsRow w.heap.size 3 1 v7 x.ins.length (liC x.ins))
    ∨ ((∀ x r, FD.ok x → l ≠ fdE x ++ r) ∧ e = PanE))
theorem PP.start (w : World) (R : Nat) (l : List Int) (h : RdP w R l) : PP w ((w.alloc (.cells zero8 44)).alloc (.cells zero8 44)) R w.heap.size (w.heap.size + 1) l (fun j => zero8.getD j (.bool false)) [] [] [] [] := by
  have hR := h.lt
  have hb0 := b_2 w (.cells zero8 44) (.cells zero8 44)
  have hA := RowF.mk' w 44 zero8
  have hB := RowF.mk' (w.alloc (.cells zero8 44)) 44 zero8
  rw [show (w.alloc (.cells zero8 44)).heap.size = w.heap.size + 1 by simp] at hB
  exact ⟨⟨hR, Nat.le_refl _, Nat.lt_succ_self _⟩, h.low hb0 hR, hA.low (b_1 _ _) hA.lt, hB, Keeps.of hb0 (Nat.le_refl _) _, ⟨rfl, .inl ⟨rfl, rfl⟩⟩, ⟨rfl, .inl ⟨rfl, rfl⟩⟩, ⟨rfl, .inl ⟨rfl, rfl⟩⟩, ⟨rfl, .inl ⟨rfl, rfl⟩⟩⟩

set_option maxHeartbeats 3200000 in
set_option maxRecDepth 100000 in
theorem function_p (R : Nat) (l : List Int) (w : World) (hl20 : l.length ≤ 1048576) (h : RdP w R l) :
    Calls Tryd.prog 32 #[.pointer (some ⟨R, 0, none⟩)] w fun e w' => FnR R l w e w' := by
  have HP := hide (PP.start w R l h)
  have HF := hide (show Lft l fdE l from fun x s _ e => e)
  clear h
  go_enter Tryd.func32, Tryd.ntmps32
  go_wp2_with fail
  generalize (w.alloc (.cells zero8 44)).alloc (.cells zero8 44) = w0 at *
  refine (num_p R 1 l w0 (by omega) HP.out.rd).mono ?_
  rintro e u0 ⟨hk, ⟨a0, r1, hxa0, hl, rfl, hr⟩ | ⟨hno, rfl⟩⟩
  case inr => exact ⟨rfl, HP.out.k.trans hk, .inr ⟨fun x s hx e => hno _ _ (rng1.2 hx.p) (by have e1 := HF.out x s hx e; simpa only [fdE, t1, t2, t3, t4, t6, t8, List.append_assoc] using e1), rfl⟩⟩
  have HL0 := hide hl
  have HF := hide (show Lft l t1 r1 from fun x s hx e => by
    have e1 := HL0.out.symm.trans (HF.out x s hx e)
    exact (fld (by rw [fdE, List.append_assoc] at e1; exact e1)).2)
  have hp := HP.out.go hk hr
  clear hk hl hr HP
  have cc := hp.p.cell (j := 0) (by omega)
  have zz := hp.p.frz 0
  have HP := hide (hp.set (j := 0) (by omega) (.int .i64 a0))
  clear hp
  go_wp2_with fail
  clear cc zz
  generalize u0.setCell ⟨w.heap.size + 1, 0, none⟩ (.int .i64 a0) = w1 at *
  refine (flag_p R r1 w1 HP.out.rd).mono ?_
  rintro e u1 ⟨hk, ⟨a1, r2, hxa1, hl, rfl, hr⟩ | ⟨hno, rfl⟩⟩
  case inr => exact ⟨rfl, HP.out.k.trans hk, .inr ⟨fun x s hx e => hno _ _ (trivial) (by have e1 := HF.out x s hx e; simpa only [fdE, t1, t2, t3, t4, t6, t8, List.append_assoc] using e1), rfl⟩⟩
  have HL1 := hide hl
  have HF := hide (show Lft l t2 r2 from fun x s hx e => by
    have e1 := HL1.out.symm.trans (HF.out x s hx e)
    exact (List.cons.inj (show flagI a1 :: r2 = flagI x.dots :: (t2 x ++ s) from e1)).2)
  have hp := HP.out.go hk hr
  clear hk hl hr HP
  have cc := hp.p.cell (j := 3) (by omega)
  have zz := hp.p.frz 3
  have HP := hide (hp.set (j := 3) (by omega) (.bool a1))
  clear hp
  go_wp2_with fail
  clear cc zz
  generalize u1.setCell ⟨w.heap.size + 1, 3, none⟩ (.bool a1) = w2 at *
  refine (num_p R 1 r2 w2 (by omega) HP.out.rd).mono ?_
  rintro e u2 ⟨hk, ⟨a2, r3, hxa2, hl, rfl, hr⟩ | ⟨hno, rfl⟩⟩
  case inr => exact ⟨rfl, HP.out.k.trans hk, .inr ⟨fun x s hx e => hno _ _ (rng1.2 hx.g) (by have e1 := HF.out x s hx e; simpa only [fdE, t1, t2, t3, t4, t6, t8, List.append_assoc] using e1), rfl⟩⟩
  have HL2 := hide hl
  have HF := hide (show Lft l t3 r3 from fun x s hx e => by
    have e1 := HL2.out.symm.trans (HF.out x s hx e)
    exact (fld (by rw [t2, List.append_assoc] at e1; exact e1)).2)
  have hp := HP.out.go hk hr
  clear hk hl hr HP
  have cc := hp.p.cell (j := 1) (by omega)
  have zz := hp.p.frz 1
  have HP := hide (hp.set (j := 1) (by omega) (.int .i64 a2))
  clear hp
  go_wp2_with fail
  clear cc zz
  generalize u2.setCell ⟨w.heap.size + 1, 1, none⟩ (.int .i64 a2) = w3 at *
  refine (line_p R r3 w3 HP.out.rd).mono ?_
  rintro e u3 ⟨hk, ⟨a3, r4, hxa3, hl, rfl, hr⟩ | ⟨hno, rfl⟩⟩
  case inr => exact ⟨rfl, HP.out.k.trans hk, .inr ⟨fun x s hx e => hno _ _ (hx.l) (by have e1 := HF.out x s hx e; simpa only [fdE, t1, t2, t3, t4, t6, t8, List.append_assoc] using e1), rfl⟩⟩
  have HL3 := hide hl
  have HF := hide (show Lft l t4 r4 from fun x s hx e => by
    have e1 := HL3.out.symm.trans (HF.out x s hx e)
    exact (fld (by rw [t3, List.append_assoc] at e1; exact e1)).2)
  have hp := HP.out.go hk hr
  clear hk hl hr HP
  have cc := hp.p.cell (j := 2) (by omega)
  have zz := hp.p.frz 2
  have HP := hide (hp.set (j := 2) (by omega) (.int .i64 a3))
  clear hp
  go_wp2_with fail
  clear cc zz
  generalize u3.setCell ⟨w.heap.size + 1, 2, none⟩ (.int .i64 a3) = w4 at *
  refine (num_p R 1 r4 w4 (by omega) HP.out.rd).mono ?_
  rintro e u4 ⟨hk, ⟨a4, r5, hxa4, hl, rfl, hr⟩ | ⟨hno, rfl⟩⟩
  case inr => exact ⟨rfl, HP.out.k.trans hk, .inr ⟨fun x s hx e => hno (x.ups.length : Int) _ (rng1.2 ⟨by omega, by have := hx.nu; omega⟩) (by have e1 := HF.out x s hx e; simpa only [fdE, t1, t2, t3, t4, t6, t8, List.append_assoc] using e1), rfl⟩⟩
  have HL4 := hide hl
  have HN := hide (show ∀ x s, x.ok → l = fdE x ++ s → a4 = (x.ups.length : Int) from fun x s hx e => by
    have e1 := HL4.out.symm.trans (HF.out x s hx e)
    rw [t4, List.append_assoc] at e1
    exact n1_inj (fld e1).1 (rng1.1 hxa4) ⟨by omega, by have := hx.nu; omega⟩)
  have HF := hide (show Lft l t5 r5 from fun x s hx e => by
    have e1 := HL4.out.symm.trans (HF.out x s hx e)
    exact (fld (by rw [t4, List.append_assoc] at e1; exact e1)).2)
  have hp := HP.out.go hk hr
  clear hk hl hr HP
  have hq5 := len_le HL4.out (len_le HL3.out (len_le HL2.out (len_le HL1.out (len_le HL0.out hl20))))
  rw [rng1] at hxa4
  obtain ⟨n, rfl⟩ : ∃ n : Nat, a4 = n := ⟨a4.toNat, by omega⟩
  have hn9 : n ≤ 255 := by omega
  obtain ⟨f, hf, hp⟩ : ∃ f : Nat → Value, (f 0 = .int .i64 a0 ∧ f 1 = .int .i64 a2 ∧ f 2 = .int .i64 a3 ∧ f 3 = .bool a1) ∧ PP w u4 R w.heap.size (w.heap.size + 1) r5 f [] [] [] [] := ⟨_, ⟨rfl, rfl, rfl, rfl⟩, hp⟩
  have HQ := hide hf
  have HP := hide hp
  clear hf hp hxa4
  go_wp2_with fail
  go_loopw [18] (fun iv wr => ∃ us f r, us.length ≤ n ∧ iv = .int .i64 (us.length : Nat) ∧ Hid (f 0 = .int .i64 a0 ∧ f 1 = .int .i64 a2 ∧ f 2 = .int .i64 a3 ∧ f 3 = .bool a1) ∧ Hid (∀ u ∈ us, upW u) ∧ Hid (r5 = encL upE us ++ r) ∧ Hid (PP w wr R w.heap.size (w.heap.size + 1) r f us [] [] [])) (fun iv _ => match iv with | .int _ x => n - x.toNat | _ => 0)
  case atStart => exact ⟨[], f, r5, by simp, rfl, HQ, hide (by simp), hide rfl, HP⟩
  clear HP HQ f
  case round =>
    obtain ⟨us, f, r, hun, rfl, HQ, HU, HL5, HP⟩ := hrel
    by_cases hlt : us.length < n
    · have HPd := hide HP.out.drew
      have c4 := HPd.out.p.cell (j := 4) (by omega)
      have z4 := HPd.out.p.frz 4
      have hi9 : (us.length : Int) < n := by omega
      go_wp2_with fail
      go_region_law
        (first
        | (go_simp
           go_at_call 52
           refine (upvalue_p R r _ HPd.out.rd).mono ?_
           rintro e w2 ⟨hk, ⟨u, r', hu, hl, he, hr⟩ | ⟨hno, rfl⟩⟩
           case inr =>
             refine ⟨rfl, HPd.out.k.trans hk, .inr ⟨fun x s hx e => ?_, rfl⟩⟩
             have e1 := HL5.out.symm.trans (HF.out x s hx e)
             rw [t5, List.append_assoc] at e1
             obtain ⟨y, r2, hy, e2⟩ := up_inj'.more _ _ _ _ HU.out hx.u (by have := HN.out x s hx e; omega) e1
             exact hno y r2 hy e2
           have he' : e = .returned (.agg #[.bool u.1, .int .i64 u.2]) := he
           subst he'
           clear he
           have HP2 := hide (HPd.out.go hk hr)
           have HU2 := hide hu
           have HL6 := hide hl
           have c5 := HP2.out.p.cell (j := 4) (by omega)
           have c6 : (w2.alloc (.cells #[.bool u.1, .int .i64 u.2] 57)).cell? ⟨w.heap.size + 1, 4, none⟩ = some (f 4) := ((b_1 w2 _).cell (p := ⟨w.heap.size + 1, 4, none⟩) HP2.out.p.lt).trans c5
           clear hk hu hl hr)
        | (have _z := HP2
           rw [if_pos (by rfl)]
           clear _z
           refine app_new_op _ _ 39 57 2 16 _ rfl Tryd.underlying39 Tryd.info57 rfl (by omega) (w.heap.size + 1 + 1) (f 4) us.length (upC us) [.bool u.1, .int .i64 u.2] HP2.out.u rfl rfl rfl (one_up u) (by omega) (by omega) (by have := HP2.out.p.lt; omega) ?_
           intro v' w3 h1 h2 h3
           obtain ⟨a9, k9, rfl⟩ := owns_val h1
           have HP3 := hide (HP2.out.app_u (u := u) h1 h2 h3)
           have c5 : w3.cell? ⟨w.heap.size + 1, 4, none⟩ = some (f 4) := ((h2 _ _ (Below.refl _ _) (Nat.le_refl _)).cell (p := ⟨w.heap.size + 1, 4, none⟩) (Nat.lt_succ_self _)).trans c5
           have z5 : w3.frozen? ⟨w.heap.size + 1, 4, none⟩ = false := (HP2.out.p.low (h2 _ _ (Below.refl _ _) (Nat.le_refl _)) (Nat.lt_succ_self _)).frz 4
           clear h1 h2 h3 HP2))
      all_goals
        clear c4 z4 c5 z5 c6 HPd
        generalize w3.setCell ⟨w.heap.size + 1, 4, none⟩ (.slice a9 (us.length + 1) k9) = w5 at *
        go_wp2_with fail
        go_roundw
        case rel => exact ⟨us ++ [u], (fun i => if i = 4 then .slice a9 (us.length + 1) k9 else f i), r', by simp; omega, by simp, hide HQ.out, hide (all_snoc HU.out HU2.out), hide (by rw [HL5.out, HL6.out, encL_1, List.append_assoc]), HP3⟩
        case measure => simp; omega
    · obtain rfl : us.length = n := by omega
      have HF := hide (show Lft l t6 r from fun x s hx e => by
        have e1 := HL5.out.symm.trans (HF.out x s hx e)
        rw [t5, List.append_assoc] at e1
        exact (up_inj'.same _ _ _ _ HU.out hx.u (by have := HN.out x s hx e; omega) e1).2)
      have hq6 := len_le HL5.out hq5
      clear hlt hun
      go_wp2_with fail
      refine (num_p R 2 r wr (by omega) HP.out.rd).mono ?_
      rintro e u5 ⟨hk, ⟨a5, r6, hxa5, hl, rfl, hr⟩ | ⟨hno, rfl⟩⟩
      case inr => exact ⟨rfl, HP.out.k.trans hk, .inr ⟨fun x s hx e => hno (x.cons.length : Int) _ (rng2.2 ⟨by omega, by have := hx.nc; omega⟩) (by have e1 := HF.out x s hx e; simpa only [t6, List.append_assoc] using e1), rfl⟩⟩
      have HLc := hide hl
      have HNc := hide (show ∀ x s, x.ok → l = fdE x ++ s → a5 = (x.cons.length : Int) from fun x s hx e => by
        have e1 := HLc.out.symm.trans (HF.out x s hx e)
        rw [t6, List.append_assoc] at e1
        exact n2_inj (fld e1).1 (rng2.1 hxa5) ⟨by omega, by have := hx.nc; omega⟩)
      have HF := hide (show Lft l t7 r6 from fun x s hx e => by
        have e1 := HLc.out.symm.trans (HF.out x s hx e)
        exact (fld (by rw [t6, List.append_assoc] at e1; exact e1)).2)
      have hp := HP.out.go hk hr
      clear HP
      have hq7 := len_le HLc.out hq6
      rw [rng2] at hxa5
      obtain ⟨m, rfl⟩ : ∃ m : Nat, a5 = m := ⟨a5.toNat, by omega⟩
      have hm9 : m ≤ 65535 := by omega
      have HP := hide hp
      clear hk hl hr hp hxa5
      go_wp2_with fail
      go_loopw [30] (fun iv wr => ∃ cs f r, cs.length ≤ m ∧ iv = .int .i64 (cs.length : Nat) ∧ Hid (f 0 = .int .i64 a0 ∧ f 1 = .int .i64 a2 ∧ f 2 = .int .i64 a3 ∧ f 3 = .bool a1) ∧ Hid (∀ u ∈ cs, conW u) ∧ Hid (r6 = encL conE cs ++ r) ∧ Hid (PP w wr R w.heap.size (w.heap.size + 1) r f us cs [] [])) (fun iv _ => match iv with | .int _ x => m - x.toNat | _ => 0)
      case atStart => exact ⟨[], f, r6, by simp, rfl, HQ, hide (by simp), hide rfl, HP⟩
      clear HP HQ f
      case round =>
        obtain ⟨cs, f, r, hun, rfl, HQ, HUc, HL7, HP⟩ := hrel
        have hq8 := len_le HL7.out hq7
        by_cases hlt : cs.length < m
        · have HPd := hide HP.out.drew
          have c4 := HPd.out.p.cell (j := 5) (by omega)
          have z4 := HPd.out.p.frz 5
          have hi9 : (cs.length : Int) < m := by omega
          go_wp2_with fail
          go_region_law
            (first
            | (go_simp
               go_at_call 53
               refine (constant_p R r _ hq8 HPd.out.rd).mono ?_
               rintro e w2 ⟨hk, ⟨u, r', hu, hl, he, hr⟩ | ⟨hno, rfl⟩⟩
               case inr =>
                 refine ⟨rfl, HPd.out.k.trans hk, .inr ⟨fun x s hx e => ?_, rfl⟩⟩
                 have e1 := HL7.out.symm.trans (HF.out x s hx e)
                 rw [t7, List.append_assoc] at e1
                 obtain ⟨y, r2, hy, e2⟩ := con_inj'.more _ _ _ _ HUc.out hx.c (by have := HNc.out x s hx e; omega) e1
                 exact hno y r2 hy e2
               have he' : e = .returned (.agg #[.int .i64 u.1, .int .i64 u.2.1, .int .u64 u.2.2.1, .string u.2.2.2]) := he
               subst he'
               clear he
               have HP2 := hide (HPd.out.go hk hr)
               have HU2 := hide hu
               have HL6 := hide hl
               have c5 := HP2.out.p.cell (j := 5) (by omega)
               have c6 : (w2.alloc (.cells #[.int .i64 u.1, .int .i64 u.2.1, .int .u64 u.2.2.1, .string u.2.2.2] 59)).cell? ⟨w.heap.size + 1, 5, none⟩ = some (f 5) := ((b_1 w2 _).cell (p := ⟨w.heap.size + 1, 5, none⟩) HP2.out.p.lt).trans c5
               clear hk hu hl hr)
            | (have _z := HP2
               rw [if_pos (by rfl)]
               clear _z
               refine app_new_op _ _ 40 59 4 40 _ rfl Tryd.underlying40 Tryd.info59 rfl (by omega) (w.heap.size + 1 + 1) (f 5) cs.length (conC cs) [.int .i64 u.1, .int .i64 u.2.1, .int .u64 u.2.2.1, .string u.2.2.2] HP2.out.c rfl rfl rfl (one_con u) (by omega) (by omega) (by have := HP2.out.p.lt; omega) ?_
               intro v' w3 h1 h2 h3
               obtain ⟨a9, k9, rfl⟩ := owns_val h1
               have HP3 := hide (HP2.out.app_c (u := u) h1 h2 h3)
               have c5 : w3.cell? ⟨w.heap.size + 1, 5, none⟩ = some (f 5) := ((h2 _ _ (Below.refl _ _) (Nat.le_refl _)).cell (p := ⟨w.heap.size + 1, 5, none⟩) (Nat.lt_succ_self _)).trans c5
               have z5 : w3.frozen? ⟨w.heap.size + 1, 5, none⟩ = false := (HP2.out.p.low (h2 _ _ (Below.refl _ _) (Nat.le_refl _)) (Nat.lt_succ_self _)).frz 5
               clear h1 h2 h3 HP2))
          all_goals
            clear c4 z4 c5 z5 c6 HPd
            generalize w3.setCell ⟨w.heap.size + 1, 5, none⟩ (.slice a9 (cs.length + 1) k9) = w5 at *
            go_wp2_with fail
            go_roundw
            case rel => exact ⟨cs ++ [u], (fun i => if i = 5 then .slice a9 (cs.length + 1) k9 else f i), r', by simp; omega, by simp, hide HQ.out, hide (all_snoc HUc.out HU2.out), hide (by rw [HL7.out, HL6.out, encL_1, List.append_assoc]), HP3⟩
            case measure => simp; omega
        · obtain rfl : cs.length = m := by omega
          have HF := hide (show Lft l t8 r from fun x s hx e => by
            have e1 := HL7.out.symm.trans (HF.out x s hx e)
            rw [t7, List.append_assoc] at e1
            exact (con_inj'.same _ _ _ _ HUc.out hx.c (by have := HNc.out x s hx e; omega) e1).2)
          clear hlt hun
          go_wp2_with fail
          refine (num_p R 2 r wr (by omega) HP.out.rd).mono ?_
          rintro e u6 ⟨hk, ⟨a6, r8, hxa6, hl, rfl, hr⟩ | ⟨hno, rfl⟩⟩
          case inr => exact ⟨rfl, HP.out.k.trans hk, .inr ⟨fun x s hx e => hno (x.ins.length : Int) _ (rng2.2 ⟨by omega, by have := hx.ni; omega⟩) (by have e1 := HF.out x s hx e; simpa only [t8, List.append_assoc] using e1), rfl⟩⟩
          have HLi := hide hl
          have HNi := hide (show ∀ x s, x.ok → l = fdE x ++ s → a6 = (x.ins.length : Int) from fun x s hx e => by
            have e1 := HLi.out.symm.trans (HF.out x s hx e)
            rw [t8, List.append_assoc] at e1
            exact n2_inj (fld e1).1 (rng2.1 hxa6) ⟨by omega, by have := hx.ni; omega⟩)
          have HF := hide (show Lft l (fun x => encL ilE x.ins) r8 from fun x s hx e => by
            have e1 := HLi.out.symm.trans (HF.out x s hx e)
            exact (fld (by rw [t8, List.append_assoc] at e1; exact e1)).2)
          have hp := HP.out.go hk hr
          clear HP
          rw [rng2] at hxa6
          obtain ⟨q, rfl⟩ : ∃ q : Nat, a6 = q := ⟨a6.toNat, by omega⟩
          have hq9 : q ≤ 65535 := by omega
          have HP := hide hp
          clear hk hl hr hp hxa6
          go_wp2_with fail
          go_loopw [42] (fun iv wr => ∃ is f r, is.length ≤ q ∧ iv = .int .i64 (is.length : Nat) ∧ Hid (f 0 = .int .i64 a0 ∧ f 1 = .int .i64 a2 ∧ f 2 = .int .i64 a3 ∧ f 3 = .bool a1) ∧ Hid (∀ u ∈ is, ilW u) ∧ Hid (r8 = encL ilE is ++ r) ∧ Hid (PP w wr R w.heap.size (w.heap.size + 1) r f us cs is is)) (fun iv _ => match iv with | .int _ x => q - x.toNat | _ => 0)
          case atStart => exact ⟨[], f, r8, by simp, rfl, HQ, hide (by simp), hide rfl, HP⟩
          clear HP HQ f
          case round =>
            obtain ⟨is, f, r, hun, rfl, HQ, HUi, HL9, HP⟩ := hrel
            by_cases hlt : is.length < q
            · have HPd := hide HP.out.drew
              have c4 := HPd.out.p.cell (j := 6) (by omega)
              have z4 := HPd.out.p.frz 6
              have hi9 : (is.length : Int) < q := by omega
              go_wp2_with fail
              go_region_law
                (first
                | (go_simp
                   go_at_call 54
                   refine (instruction_p R r _ HPd.out.rd).mono ?_
                   rintro e w2 ⟨hk, ⟨u, r', hu, hl, he, hr⟩ | ⟨hno, rfl⟩⟩
                   case inr =>
                     refine ⟨rfl, HPd.out.k.trans hk, .inr ⟨fun x s hx e => ?_, rfl⟩⟩
                     have e1 := HL9.out.symm.trans (HF.out x s hx e)
                     obtain ⟨y, r2, hy, e2⟩ := il_inj.more _ _ _ _ HUi.out hx.i (by have := HNi.out x s hx e; omega) e1
                     exact hno y.1 (u64n y.2 4 ++ r2) hy.1 (by rw [e2, ilE, List.append_assoc])
                   have he' : e = .returned (.agg #[.int .i64 u.1, .int .i64 u.2.1, .int .i64 u.2.2.1, .int .i64 u.2.2.2]) := he
                   subst he'
                   clear he
                   have HP2 := hide (HPd.out.go hk hr)
                   have HU2 := hide hu
                   have HL6 := hide hl
                   have c5 := HP2.out.p.cell (j := 6) (by omega)
                   have c6 : (w2.alloc (.cells #[.int .i64 u.1, .int .i64 u.2.1, .int .i64 u.2.2.1, .int .i64 u.2.2.2] 61)).cell? ⟨w.heap.size + 1, 6, none⟩ = some (f 6) := ((b_1 w2 _).cell (p := ⟨w.heap.size + 1, 6, none⟩) HP2.out.p.lt).trans c5
                   clear hk hu hl hr)
                | (have _z := HP2
                   rw [if_pos (by rfl)]
                   clear _z
                   refine app_new_op _ _ 41 61 4 32 _ rfl Tryd.underlying41 Tryd.info61 rfl (by omega) (w.heap.size + 1 + 1) (f 6) is.length (inC is) [.int .i64 u.1, .int .i64 u.2.1, .int .i64 u.2.2.1, .int .i64 u.2.2.2] HP2.out.i rfl rfl rfl (one_in u) (by omega) (by omega) (by have := HP2.out.p.lt; omega) ?_
                   intro v' w3 h1 h2 h3
                   obtain ⟨a9, k9, rfl⟩ := owns_val h1
                   have HP3 := hide (HP2.out.app_i (u := (u, 0)) h1 h2 h3)
                   have c5 : w3.cell? ⟨w.heap.size + 1, 6, none⟩ = some (f 6) := ((h2 _ _ (Below.refl _ _) (Nat.le_refl _)).cell (p := ⟨w.heap.size + 1, 6, none⟩) (Nat.lt_succ_self _)).trans c5
                   have z5 : w3.frozen? ⟨w.heap.size + 1, 6, none⟩ = false := (HP2.out.p.low (h2 _ _ (Below.refl _ _) (Nat.le_refl _)) (Nat.lt_succ_self _)).frz 6
                   clear h1 h2 h3 HP2))
              all_goals
                clear c4 z4 c5 z5 c6 HPd
                generalize w3.setCell ⟨w.heap.size + 1, 6, none⟩ (.slice a9 (is.length + 1) k9) = w5 at *
                obtain ⟨uI, huI⟩ : ∃ uI, uI = u := ⟨u, rfl⟩
                subst huI
                have HUj := HU2
                have HLj := HL6
                have HPi := HP3
                obtain ⟨f, hf, hp⟩ : ∃ f9 : Nat → Value, (f9 0 = .int .i64 a0 ∧ f9 1 = .int .i64 a2 ∧ f9 2 = .int .i64 a3 ∧ f9 3 = .bool a1) ∧ PP w w5 R w.heap.size (w.heap.size + 1) r' f9 us cs (is ++ [(uI, 0)]) is := ⟨(fun i => if i = 6 then .slice a9 (is.length + 1) k9 else f i), HQ.out, HP3.out⟩
                have HQ := hide hf
                have HPd := hide hp.drew
                have c4 := HPd.out.p.cell (j := 7) (by omega)
                have z4 := HPd.out.p.frz 7
                clear HP3 HPi HL6 HU2 hf hp
                go_wp2_with fail
                go_region_law
                  (first
                  | (go_simp
                     go_at_call 51
                     refine (line_p R r' _ HPd.out.rd).mono ?_
                     rintro e w6 ⟨hk, ⟨u, r9, hu, hl, he, hr⟩ | ⟨hno, rfl⟩⟩
                     case inr =>
                       refine ⟨rfl, HPd.out.k.trans hk, .inr ⟨fun x s hx e => ?_, rfl⟩⟩
                       have e1 := HL9.out.symm.trans (HF.out x s hx e)
                       obtain ⟨y, r2, hy, e2⟩ := il_inj.more _ _ _ _ HUi.out hx.i (by have := HNi.out x s hx e; omega) e1
                       have e3 := HLj.out.symm.trans e2
                       rw [ilE, List.append_assoc] at e3
                       exact hno y.2 r2 hy.2 (in_inj' _ _ _ _ HUj.out hy.1 e3).2
                     have he' : e = .returned (.int .i64 u) := he
                     subst he'
                     clear he
                     have HP2 := hide (HPd.out.go hk hr)
                     have HU2 := hide hu
                     have HL6 := hide hl
                     have c5 := HP2.out.p.cell (j := 7) (by omega)
                     have c6 : (w6.alloc (.cells #[.int .i64 u] 3)).cell? ⟨w.heap.size + 1, 7, none⟩ = some (f 7) := ((b_1 w6 _).cell (p := ⟨w.heap.size + 1, 7, none⟩) HP2.out.p.lt).trans c5
                     clear hk hu hl hr)
                  | (have _z := HP2
                     rw [if_pos (by rfl)]
                     clear _z
                     refine app_new_op _ _ 42 3 1 8 _ rfl Tryd.underlying42 Tryd.info3 rfl (by omega) (w.heap.size + 1 + 1) (f 7) is.length (liC is) [.int .i64 u] HP2.out.l rfl rfl rfl (one_li u) (by omega) (by omega) (by have := HP2.out.p.lt; omega) ?_
                     intro v' w7 h1 h2 h3
                     obtain ⟨a9, k9, rfl⟩ := owns_val h1
                     have HP3 := hide (HP2.out.app_l (u := (uI, u)) h1 h2 h3)
                     have c5 : w7.cell? ⟨w.heap.size + 1, 7, none⟩ = some (f 7) := ((h2 _ _ (Below.refl _ _) (Nat.le_refl _)).cell (p := ⟨w.heap.size + 1, 7, none⟩) (Nat.lt_succ_self _)).trans c5
                     have z5 : w7.frozen? ⟨w.heap.size + 1, 7, none⟩ = false := (HP2.out.p.low (h2 _ _ (Below.refl _ _) (Nat.le_refl _)) (Nat.lt_succ_self _)).frz 7
                     clear h1 h2 h3 HP2))
                all_goals
                  clear c4 z4 c5 z5 c6 HPd
                  generalize w7.setCell ⟨w.heap.size + 1, 7, none⟩ (.slice a9 (is.length + 1) k9) = w8 at *
                  go_wp2_with fail
                  go_roundw
                  case rel => exact ⟨is ++ [(uI, u)], (fun i => if i = 7 then .slice a9 (is.length + 1) k9 else f i), r9, by simp; omega, by simp, hide HQ.out, hide (all_snoc HUi.out ⟨HUj.out, HU2.out⟩), hide (by rw [HL9.out, HLj.out, HL6.out, encL_1, ilE, List.append_assoc, List.append_assoc]), hide HP3.out.line⟩
                  case measure => simp; omega
            · obtain rfl : is.length = q := by omega
              obtain ⟨q0, q1, q2, q3⟩ := HQ.out
              obtain ⟨b4, k4, e4⟩ := owns_val HP.out.u
              obtain ⟨b5, k5, e5⟩ := owns_val HP.out.c
              obtain ⟨b6, k6, e6⟩ := owns_val HP.out.i
              obtain ⟨b7, k7, e7⟩ := owns_val HP.out.l
              have p0 := HP.out.p.cell (j := 0) (by omega)
              have p1 := HP.out.p.cell (j := 1) (by omega)
              have p2 := HP.out.p.cell (j := 2) (by omega)
              have p3 := HP.out.p.cell (j := 3) (by omega)
              have p4 := HP.out.p.cell (j := 4) (by omega)
              have p5 := HP.out.p.cell (j := 5) (by omega)
              have p6 := HP.out.p.cell (j := 6) (by omega)
              have p7 := HP.out.p.cell (j := 7) (by omega)
              rw [q0] at p0
              rw [q1] at p1
              rw [q2] at p2
              rw [q3] at p3
              rw [e4] at p4
              rw [e5] at p5
              rw [e6] at p6
              rw [e7] at p7
              have s0 : wr.cell? ⟨w.heap.size, 0, none⟩ = some (.int .i64 0) := HP.out.z.cell (j := 0) (by omega)
              have s1 : wr.cell? ⟨w.heap.size, 1, none⟩ = some (.int .i64 0) := HP.out.z.cell (j := 1) (by omega)
              have s2 : wr.cell? ⟨w.heap.size, 2, none⟩ = some (.int .i64 0) := HP.out.z.cell (j := 2) (by omega)
              have s3 : wr.cell? ⟨w.heap.size, 3, none⟩ = some (.bool false) := HP.out.z.cell (j := 3) (by omega)
              have s4 : wr.cell? ⟨w.heap.size, 4, none⟩ = some nilS := HP.out.z.cell (j := 4) (by omega)
              have s5 : wr.cell? ⟨w.heap.size, 5, none⟩ = some nilS := HP.out.z.cell (j := 5) (by omega)
              have s6 : wr.cell? ⟨w.heap.size, 6, none⟩ = some nilS := HP.out.z.cell (j := 6) (by omega)
              have s7 : wr.cell? ⟨w.heap.size, 7, none⟩ = some nilS := HP.out.z.cell (j := 7) (by omega)
              have f0 := HP.out.z.frz 0
              have f1 := HP.out.z.frz 1
              have f2 := HP.out.z.frz 2
              have f3 := HP.out.z.frz 3
              have f4 := HP.out.z.frz 4
              have f5 := HP.out.z.frz 5
              have f6 := HP.out.z.frz 6
              have f7 := HP.out.z.frz 7
              have HFin := hide (HP.out.fin (.int .i64 a0) (.int .i64 a2) (.int .i64 a3) (.bool a1) (.slice b4 us.length k4) (.slice b5 cs.length k5) (.slice b6 is.length k6) (.slice b7 is.length k7))
              rw [e4, e5, e6, e7] at HFin
              clear q0 q1 q2 q3 e4 e5 e6 e7 hlt hun
              go_wp2_with fail
              refine bodyPost_ret (v := .agg #[.int .i64 a0, .int .i64 a2, .int .i64 a3, .bool a1, .slice b4 us.length k4, .slice b5 cs.length k5, .slice b6 is.length k6, .slice b7 is.length k7]) ?_ rfl ⟨HFin.out.1, .inl ⟨⟨a0, a2, a3, a1, us, cs, is⟩, r, _, _, _, _, ?_, ?_, HFin.out.2.1, rfl, HFin.out.2.2⟩⟩
              · simp [results, Tryd.results32, go_sem, s0, s1, s2, s3, s4, s5, s6, s7]
              · exact ⟨rng1.1 hxa0, rng1.1 hxa2, hxa3, hn9, hm9, hq9, HU.out, HUc.out, HUi.out⟩
              · rw [HL0.out, HL1.out, HL2.out, HL3.out, HL4.out, HL5.out, HLc.out, HL7.out, HLi.out, HL9.out]
                simp only [fdE, t1, t2, t3, t4, t5, t6, t7, t8, List.append_assoc]

end Go.Proofs.YtcpeabchaimkaaaDoor
