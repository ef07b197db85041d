import Derived.Test.YtgnbhhgpaldheaaGreatKEO6
namespace Go.Proofs.YtgnbhhgpaldheaaGreat
open Go Go.RowKit
set_option linter.unusedVariables false
theorem set_same {xs : List Value} {m : Nat} {x d : Value} (h : xs.getD m d = x) : xs.set m x = xs := by
  apply List.ext_getElem?
  intro k
  rw [List.getElem?_set]
  by_cases e : m = k
  · subst e
    rw [if_pos rfl]
    split
    · rename_i hk
      rw [List.getD_eq_getElem?_getD, List.getElem?_eq_getElem hk] at h
      rw [List.getElem?_eq_getElem hk, ← h]
      rfl
    · rename_i hk
      rw [List.getElem?_eq_none (by omega)]
  · rw [if_neg e]
def BsV (s4 s5 s6 s7 : Value) (b : Nat) : Prop := s4.ownBlock = some b ∨ s5.ownBlock = some b ∨ s6.ownBlock = some b ∨ s7.ownBlock = some b
set_option maxHeartbeats 6400000 in
set_option maxRecDepth 100000 in
theorem shortened_any (p : PV) (s4 s5 s6 s7 : Value) (w : World) (hg : p.Good) (hn0 : 0 < p.ni) (hn : p.ni ≤ 65535) (hnc : p.nc ≤ 65535) (hnu : p.nu ≤ 1048576) (hno : p.nmOk) (hkn : ∀ q, q < p.ni → knownI (p.i0 q)) (hst : ∀ j, j < p.nc → (p.c3 j).size ≤ 281474976710656) (h : PVA w p s4 s5 s6 s7) :
    Calls Tryz.prog 19 #[p.agg s4 s5 s6 s7] w fun e w' => ∃ (c : Cf) (K : Nat) (r4 r5 r7 : Value) (g6 c6 : Nat), FinI K p.cf c ∧ e = .returned ((p.lft c).cst.agg r4 r5 (.slice (some ⟨g6, 0, none⟩) (p.lft c).ni c6) r7) ∧ ((∀ b, BsV r4 r5 (.slice (some ⟨g6, 0, none⟩) (p.lft c).ni c6) r7 b → w.heap.size ≤ b) ∧ FM w' (p.lft c).cst r4 r5 g6 c6 r7) ∧ Below w.heap.size w w' := by
  have HG := hide hg
  have HNo := hide hno
  have HKn := hide hkn
  have HSt := hide hst
  obtain ⟨a4, k4, rfl⟩ := h.u.val
  obtain ⟨a5, k5, rfl⟩ := h.c.val
  obtain ⟨a6, k6, rfl⟩ := h.i.val
  obtain ⟨a7, k7, rfl⟩ := h.l.val
  have hnl := hg.nl
  rw [hnl] at h ⊢
  have HA := hide h
  clear hnl
  have hp0 := RowF.mk' w 45 (p.arr (.slice a4 p.nu k4) (.slice a5 p.nc k5) (.slice a6 p.ni k6) (.slice a7 p.ni k7))
  have hp1 := hp0.low (b_1 _ (.cells #[.int .i64 0, .int .i64 0, .int .i64 0, .bool false, nilS, nilS, nilS, nilS] 45)) hp0.lt
  have hq0 := RowF.mk' (w.alloc (.cells (p.arr (.slice a4 p.nu k4) (.slice a5 p.nc k5) (.slice a6 p.ni k6) (.slice a7 p.ni k7)) 45)) 45 #[.int .i64 0, .int .i64 0, .int .i64 0, .bool false, nilS, nilS, nilS, nilS]
  rw [show (w.alloc (.cells (p.arr (.slice a4 p.nu k4) (.slice a5 p.nc k5) (.slice a6 p.ni k6) (.slice a7 p.ni k7)) 45)).heap.size = w.heap.size + 1 by simp] at hq0
  have HP0 := hide (show RowF _ 45 w.heap.size 8 (fun j => (p.arr (.slice a4 p.nu k4) (.slice a5 p.nc k5) (.slice a6 p.ni k6) (.slice a7 p.ni k7)).getD j (.bool false)) from hp1)
  have HQ0 := hide hq0
  have HB0 := hide (b_2 w (.cells (p.arr (.slice a4 p.nu k4) (.slice a5 p.nc k5) (.slice a6 p.ni k6) (.slice a7 p.ni k7)) 45) (.cells #[.int .i64 0, .int .i64 0, .int .i64 0, .bool false, nilS, nilS, nilS, nilS] 45))
  have HSZ := hide (show ((w.alloc (.cells (p.arr (.slice a4 p.nu k4) (.slice a5 p.nc k5) (.slice a6 p.ni k6) (.slice a7 p.ni k7)) 45)).alloc (.cells #[.int .i64 0, .int .i64 0, .int .i64 0, .bool false, nilS, nilS, nilS, nilS] 45)).heap.size = w.heap.size + 1 + 1 by simp)
  clear hp0 hp1 hq0 h hg hno hkn hst
  unfold PV.agg
  unfold PV.arr at *
  go_enter Tryz.func19, Tryz.ntmps19
  go_upto_region 1 with (fail)
  generalize (w.alloc (.cells #[.int .i64 p.params, .int .i64 p.regs, .int .i64 p.line, .bool p.dots, .slice a4 p.nu k4, .slice a5 p.nc k5, .slice a6 p.ni k6, .slice a7 p.ni k7] 45)).alloc (.cells #[.int .i64 0, .int .i64 0, .int .i64 0, .bool false, nilS, nilS, nilS, nilS] 45) = w1 at *
  obtain ⟨Z, hZ⟩ : ∃ Z, w.heap.size = Z := ⟨_, rfl⟩
  rw [hZ] at HP0 HQ0 HB0 HSZ ⊢
  have HZ := hide hZ
  clear hZ
  have p0 : w1.cell? ⟨Z, 0, none⟩ = some (.int .i64 p.params) := HP0.out.cell (j := 0) (by omega)
  have p1 : w1.cell? ⟨Z, 1, none⟩ = some (.int .i64 p.regs) := HP0.out.cell (j := 1) (by omega)
  have p2 : w1.cell? ⟨Z, 2, none⟩ = some (.int .i64 p.line) := HP0.out.cell (j := 2) (by omega)
  have p3 : w1.cell? ⟨Z, 3, none⟩ = some (.bool p.dots) := HP0.out.cell (j := 3) (by omega)
  have p4 : w1.cell? ⟨Z, 4, none⟩ = some (.slice a4 p.nu k4) := HP0.out.cell (j := 4) (by omega)
  have p5 : w1.cell? ⟨Z, 5, none⟩ = some (.slice a5 p.nc k5) := HP0.out.cell (j := 5) (by omega)
  have p6 : w1.cell? ⟨Z, 6, none⟩ = some (.slice a6 p.ni k6) := HP0.out.cell (j := 6) (by omega)
  have p7 : w1.cell? ⟨Z, 7, none⟩ = some (.slice a7 p.ni k7) := HP0.out.cell (j := 7) (by omega)
  have HL := hide (linked_any p (.slice a4 p.nu k4) (.slice a5 p.nc k5) (.slice a6 p.ni k6) (.slice a7 p.ni k7) w1 hn HG.out.nl (HA.out.low HB0.out (Nat.le_of_eq HZ.out)))
  unfold PV.agg at HL
  go_upto_region 2 with (first
    | (go_at_call 40
       refine HL.out.mono ?_
       rintro e w2 ⟨G, rfl, hGe, hA2, hb2⟩
       have HA2 := hide hA2
       have HGe := hide hGe
       have HB2 := hide (HB0.out.trans (hb2.mono (by have := HSZ.out; omega)))
       have HP2 := hide (HP0.out.low hb2 HP0.out.lt)
       have HQ2 := hide (HQ0.out.low hb2 HQ0.out.lt)
       clear hA2 hGe hb2)
    | fail)
  clear p0 p1 p2 p3 p4 p5 p6 p7 HL
  have HL := hide (newSh_any p G p.ni w2 hn HA2.out)
  go_upto_region 3 with (first
    | (go_at_call 41
       refine HL.out.mono ?_
       rintro e w3 ⟨S, lm, tm, rfl, hS, hlm, htm, hne, g1, g2, g3, hb3⟩
       have HS3 := hide hS
       have HLM := hide hlm
       have HTM := hide htm
       have HNE := hide (And.intro hne (And.intro g1 (And.intro g2 g3)))
       have HA3 := hide (show LkA w3 G p.ni (lk0 p) from RowF.low HA2.out hb3 (LkA.lt HA2.out))
       have HB3 := hide (HB2.out.trans (hb3.mono (by have := HB2.out.size; have := HP2.out.lt; omega)))
       have HP3 := hide (HP2.out.low hb3 HP2.out.lt)
       have HQ3 := hide (HQ2.out.low hb3 HQ2.out.lt)
       have HGe3 := hide (And.intro HGe.out (LkA.lt HA2.out))
       clear hS hlm htm hne g1 g2 g3 hb3)
    | fail)
  clear HL HA2 HB2 HP2 HQ2
  have hsz3 : Z + 1 + 1 ≤ w3.heap.size := by have := HQ3.out.lt; omega
  have hSh3 : ShA (Z + 1 + 1) p.ni G S lm tm p.i2 p.i3 p.l0 p.cf (fun q => jmp (p.i0 q)) (fun q => !jmp (p.i0 q) && p.i0 q == 2) (fun _ => []) true (lk0 p) w3 := by
    obtain ⟨n1, n2, n3, n4⟩ := HNE.out
    obtain ⟨n5, n6⟩ := HGe3.out
    have n7 := HSZ.out
    refine ⟨HA3.out, lkr0 HG.out, ?_, HLM.out, HTM.out, rfl, rfl, rfl, fun t _ => World.ownsRow_nil w3 _ _ _, fun t t' g _ _ _ e => (by cases e), n1, ⟨by omega, by omega, by omega, by omega⟩, fun t _ q hq => (by cases hq)⟩
    rw [Cf.nf_self (c := p.cf) (cf_L.2 hn0)]
    exact HS3.out
  have hb4 := b_1 w3 (.cells #[fnV 43 S, fnV 44 S, fnV 45 S] 95)
  have HL := hide (rounds_any (FB := w3.heap.size) (cap := p.ni) (fcap := 3) hn (hSh3.belowK hb4) (ps0 HG.out) (fun _ h => h) (fun _ => rfl) (fun _ => rfl) (by have := hb4.size; omega) (fun e => by have := hSh3.ltS e; omega) (Nat.le_refl _) (heap_alloc_new w3 _))
  have HP4 := hide (HP3.out.low hb4 HP3.out.lt)
  have HQ4 := hide (HQ3.out.low hb4 HQ3.out.lt)
  have HB4 := hide (HB3.out.trans (hb4.mono (by omega)))
  have HG4 := hide (show w3.heap.size < (w3.alloc (.cells #[fnV 43 S, fnV 44 S, fnV 45 S] 95)).heap.size from by simp)
  have HZ3 := hide hsz3
  clear hSh3 hb4 HP3 HQ3 HB3 HA3 HS3 HLM HTM HNE HGe3 hsz3
  unfold fnV at HL HP4 HQ4 HB4 HG4
  go_upto_region 4 with (first
    | (go_at_call 42
       refine HL.out.mono ?_
       rintro e w5 ⟨rfl, ⟨c, K, ls, tc, cm, un, k, hf, hsh⟩, hb5, _⟩
       have HF := hide hf
       have HSh := hide hsh
       have HP5 := hide (HP4.out.low hb5 (by omega))
       have HQ5 := hide (HQ4.out.low hb5 (by omega))
       have HB5 := hide (HB4.out.trans (hb5.mono (by omega)))
       clear hf hsh hb5)
    | fail)
  clear HL HP4 HQ4 HB4 HG4
  obtain ⟨e1, e2, e3, e4, hsub, hok⟩ := HF.out.n
  have hen : c.n = p.ni := e1
  have HOk := hide (hok HG.out.ok)
  have HSub := hide hsub
  have HEo := hide (And.intro e1 (And.intro e2 (And.intro e3 e4)))
  clear e1 e2 e3 e4 hsub hok
  have HL := hide (left_any G S p.ni p.ni 0 lm tm un k c p.i2 w5 (by omega) HSh.out.lk HSh.out.kr HSh.out.sh)
  have HKp := hide (fun (b : Nat) (w6 : World) (hl : LkA w6 G p.ni k) (hs : SetM w6 b p.ni c.lf) => keptL_any G p.ni p.ni b k c.lf w6 hn hl hs (fun t ht => by obtain ⟨a, cc, e⟩ := owns_val (HSh.out.co t ht); exact ⟨a, _, cc, e⟩))
  go_upto_region 5 with (first
    | (go_at_call 47
       refine HL.out.mono ?_
       rintro e w6 ⟨bs, rfl, hs, hge, hb6⟩
       have HS6 := hide hs
       have HL6 := hide (show LkA w6 G p.ni k from RowF.low HSh.out.lk hb6 (LkA.lt HSh.out.lk))
       have HP6 := hide (HP5.out.low hb6 HP5.out.lt)
       have HQ6 := hide (HQ5.out.low hb6 HQ5.out.lt)
       have HB6 := hide (HB5.out.trans (hb6.mono (by have := HP5.out.lt; omega)))
       clear hs hge hb6)
    | (go_at_call 46
       refine (HKp.out bs w6 HL6.out HS6.out).mono ?_
       rintro e w7 ⟨v, bm, mm, rfl, ho, hnm, hge, hb7⟩
       have HO7 := hide ho
       have HN7 := hide hnm
       have HP7 := hide (HP6.out.low hb7 HP6.out.lt)
       have HQ7 := hide (HQ6.out.low hb7 HQ6.out.lt)
       have HB7 := hide (HB6.out.trans (hb7.mono (by have := HP6.out.lt; omega)))
       have HG7 := hide (And.intro hge (And.intro HP6.out.lt HQ6.out.lt))
       clear ho hnm hge hb7)
    | fail)
  clear HL HKp HP5 HP6 HQ5 HQ6 HB5 HB6 HS6 HL6
  have hC0 : 0 < cnt c.lf p.ni := by
    have hL := (Cf.nf_L HOk.out.e).1
    have := (kp_at (s := c.lf) hL.2 (m := p.ni) (by rw [← hen]; exact hL.1)).2
    omega
  have ho7 := HO7.out
  rcases ho7.2 with ⟨h9, h9'⟩ | ⟨Gk, ck, cur, hvv, hGl, hGh, hck, hr2⟩
  · omega
  subst hvv
  have HRow := hide (rowF_owns ho7)
  have HGk := hide (And.intro hGl (RowF.lt (rowF_owns ho7)))
  clear ho7 hGl hGh hr2 HO7
  have hCn : cnt c.lf p.ni ≤ p.ni := cnt_le _ _
  obtain ⟨KL, hKL⟩ : ∃ KL, kp c.lf p.ni = KL := ⟨_, rfl⟩
  have hlen : KL.length = cnt c.lf p.ni := by rw [← hKL]; rfl
  have hmemL : ∀ j, j < cnt c.lf p.ni → KL.getD j 0 < p.ni ∧ c.lf (KL.getD j 0) = true := fun j hj => by
    have := kpAt_mem (s := c.lf) (m := p.ni) hj
    unfold kpAt at this
    rw [hKL] at this
    exact ⟨this.2, this.1⟩
  rw [hKL] at HRow
  have HKL := hide hKL
  have HML := hide hmemL
  obtain ⟨C, hC⟩ : ∃ C, cnt c.lf p.ni = C := ⟨_, rfl⟩
  rw [hC] at HRow HML hC0 hCn hlen hck
  rw [hC]
  have HCC := hide hC
  have HLen := hide hlen
  clear hKL hmemL hC hlen
  have z6 := HP7.out.frz 6
  have z7 := HP7.out.frz 7
  have y6 : w7.cell? ⟨Z, 6, none⟩ = some (.slice a6 p.ni k6) := HP7.out.cell (j := 6) (by omega)
  have y7 : w7.cell? ⟨Z, 7, none⟩ = some (.slice a7 p.ni k7) := HP7.out.cell (j := 7) (by omega)
  go_upto_region 6 with (fail)
  clear z6 z7 y6 y7
  have hk8 : Keeps w7 ((w7.setCell ⟨Z, 6, none⟩ (.slice none 0 0)).setCell ⟨Z, 7, none⟩ (.slice none 0 0)) (fun b => b = Z) := (k_set w7 Z 6 _).trans (k_set _ Z 7 _)
  have HP8 := hide (show RowF ((w7.setCell ⟨Z, 6, none⟩ (.slice none 0 0)).setCell ⟨Z, 7, none⟩ (.slice none 0 0)) 45 Z 8 _ from (HP7.out.set (j := 6) (by omega) (.slice none 0 0)).set (j := 7) (by omega) (.slice none 0 0))
  have hZ2 := HSZ.out
  have hZk : ∀ b, w6.heap.size ≤ b → b ≠ Z := fun b hb e => by have := HG7.out.2.1; omega
  have HRow8 := hide (HRow.out.keep hk8 (hZk _ HGk.out.1))
  have HN8 := hide (HN7.out.keep hk8 (hZk _ HG7.out.1))
  have HQ8 := hide (HQ7.out.keep hk8 (fun e => by omega))
  have HB8 := hide (HB7.out.trans (hk8.below (B := Z) (by have := HP7.out.lt; omega) (fun b e => by omega)))
  have hs8 := hk8.size
  have HG8 := hide (show Gk < _ from Nat.lt_of_lt_of_le HGk.out.2 hs8)
  have HM8 := hide (show bm < _ from Nat.lt_of_lt_of_le HN7.out.lt hs8)
  have HZk := hide (And.intro (hZk _ HGk.out.1) (hZk _ HG7.out.1))
  clear hk8 hs8 hZk
  generalize (w7.setCell ⟨Z, 6, none⟩ (.slice none 0 0)).setCell ⟨Z, 7, none⟩ (.slice none 0 0) = w8 at *
  go_wp2_with fail
  go_loopw [36] (fun iv wr => ∃ j : Nat, j ≤ C ∧ iv = .int .i64 (j : Int) ∧ Hid (∃ v6 v7, wr.ownsRow w8.heap.size 51 4 v6 j ((KL.take j).flatMap (fun q => [.int .i64 (k.o q), .int .i64 (k.a q), .int .i64 (k.b q), .int .i64 (k.x q)])) ∧ wr.ownsRow w8.heap.size 3 1 v7 j ((KL.take j).flatMap (fun q => [.int .i64 (k.l q)])) ∧ RowF wr 45 Z 8 (fun i => if i = 7 then v7 else if i = 6 then v6 else (#[.int .i64 p.params, .int .i64 p.regs, .int .i64 p.line, .bool p.dots, .slice a4 p.nu k4, .slice a5 p.nc k5, .slice a6 p.ni k6, .slice a7 p.ni k7] : Array Value).getD i (.bool false))) ∧ Hid (Keeps w8 wr (fun b => b = Z ∨ w8.heap.size ≤ b))) (fun iv _ => C - ivN iv)
  case atStart => exact ⟨0, Nat.zero_le _, rfl, hide ⟨.slice none 0 0, .slice none 0 0, by simpa using World.ownsRow_nil w8 w8.heap.size 51 4, by simpa using World.ownsRow_nil w8 w8.heap.size 3 1, HP8.out⟩, hide (Keeps.refl _ _)⟩
  case round =>
    clear HP8
    obtain ⟨j, hj, rfl, HL, HK⟩ := hrel
    by_cases hjn : j < C
    · obtain ⟨v6, v7, h6, h7, hbx⟩ := HL.out
      obtain ⟨x6, y6, rfl⟩ := owns_val h6
      obtain ⟨x7, y7, rfl⟩ := owns_val h7
      have H6 := hide h6
      have H7 := hide h7
      have HBx := hide hbx
      clear h6 h7 hbx HL
      have hrow := HRow8.out.keep HK.out (fun e => by rcases e with e | e; exact HZk.out.1 e; have := HG8.out; omega)
      obtain ⟨q, hq⟩ : ∃ q, KL.getD j 0 = q := ⟨_, rfl⟩
      have hqn := HML.out j hjn
      rw [hq] at hqn
      obtain ⟨ca, cc, hcv⟩ := owns_val (HSh.out.co q hqn.1)
      have hcell : ∀ r, r < 10 → wr.cell? ⟨Gk, j * 10 + r, none⟩ = some ((lkV k q).getD r (.bool false)) := fun r hr => by
        rw [hrow.cell (j := j * 10 + r) (by omega), flat10_at (fun i => rfl) hr KL j (by rw [HLen.out]; exact hjn), hq]
      have l0 : wr.cell? ⟨Gk, j * 10, none⟩ = some (.int .i64 (k.o q)) := hcell 0 (by omega)
      have l1 : wr.cell? ⟨Gk, j * 10 + 1, none⟩ = some (.int .i64 (k.a q)) := hcell 1 (by omega)
      have l2 : wr.cell? ⟨Gk, j * 10 + 2, none⟩ = some (.int .i64 (k.b q)) := hcell 2 (by omega)
      have l3 : wr.cell? ⟨Gk, j * 10 + 3, none⟩ = some (.int .i64 (k.x q)) := hcell 3 (by omega)
      have l4 : wr.cell? ⟨Gk, j * 10 + 4, none⟩ = some (.int .i64 (k.l q)) := hcell 4 (by omega)
      have l5 : wr.cell? ⟨Gk, j * 10 + 5, none⟩ = some (.int .i64 (k.ah q)) := hcell 5 (by omega)
      have l6 : wr.cell? ⟨Gk, j * 10 + 6, none⟩ = some (.int .i64 (k.bh q)) := hcell 6 (by omega)
      have l7 : wr.cell? ⟨Gk, j * 10 + 7, none⟩ = some (k.cv q) := hcell 7 (by omega)
      have l8 : wr.cell? ⟨Gk, j * 10 + 8, none⟩ = some (.bool (k.rd q)) := hcell 8 (by omega)
      have l9 : wr.cell? ⟨Gk, j * 10 + 9, none⟩ = some (.bool (k.gn q)) := hcell 9 (by omega)
      rw [hcv] at l7
      have HQq := hide (And.intro hq hqn)
      clear hcell hrow hq hqn
      have hX := RowF.mk' wr 94 #[.int .i64 (k.o q), .int .i64 (k.a q), .int .i64 (k.b q), .int .i64 (k.x q), .int .i64 (k.l q), .int .i64 (k.ah q), .int .i64 (k.bh q), .slice ca (cm q).length cc, .bool (k.rd q), .bool (k.gn q)]
      have hbX := b_1 wr (.cells #[.int .i64 (k.o q), .int .i64 (k.a q), .int .i64 (k.b q), .int .i64 (k.x q), .int .i64 (k.l q), .int .i64 (k.ah q), .int .i64 (k.bh q), .slice ca (cm q).length cc, .bool (k.rd q), .bool (k.gn q)] 94)
      have hkX := Keeps.of hbX (Nat.le_refl _) (fun _ => False)
      have hZr : w8.heap.size ≤ wr.heap.size := HK.out.size
      have h9 : R9 w8.heap.size Z Z wr.heap.size (.slice x6 j y6) (.slice x7 j y7) j j ((KL.take j).flatMap (fun q => [.int .i64 (k.o q), .int .i64 (k.a q), .int .i64 (k.b q), .int .i64 (k.x q)])) ((KL.take j).flatMap (fun q => [.int .i64 (k.l q)])) (k.o q) (k.a q) (k.b q) (k.x q) (k.l q) _ _ _ none none _ := ⟨owns_past H6.out hkX (fun _ _ x => x), owns_past H7.out hkX (fun _ _ x => x), HBx.out.low hbX HBx.out.lt, hX, ⟨rfl, rfl, rfl, rfl, rfl⟩, fun g e => (by cases e), fun g e => (by cases e), Below.refl _ _, ⟨by have := HQ8.out.lt; omega, Nat.le_trans hZr hbX.size⟩, Nat.le_refl _, Keeps.refl _ _⟩
      have H9 := hide h9
      have HKX := hide (HK.out.trans (Keeps.of hbX (Nat.le_refl _) _))
      clear hX hbX hkX h9
      go_upto_region 9 with (fail)
      clear l0 l1 l2 l3 l4 l5 l6 l7 l8 l9
      refine wp_region_noPanic (reg9 (a6 := x6) (a7 := x7) (n := j) (c6 := y6) (c7 := y7) _ (fun _ _ _ _ _ h => (show False from h).elim) (by omega) (by rfl) (by rfl) H9.out ?_)
      intro v44 v50 d6 d7 e6 e7 W hr9
      refine NoPanic.normal ?_
      have HS9 := hide (hr9.set (Nat.le_refl _))
      clear hr9
      generalize (W.setCell ⟨Z, 6, none⟩ (.slice d6 (j + 1) e6)).setCell ⟨Z, 7, none⟩ (.slice d7 (j + 1) e7) = W9 at *
      go_wp2_with fail
      have ht : KL.take (j + 1) = KL.take j ++ [q] := by
        rw [List.take_add_one, List.getElem?_eq_getElem (by rw [HLen.out]; exact hjn), ← HQq.out.1, List.getD_eq_getElem?_getD, List.getElem?_eq_getElem (by rw [HLen.out]; exact hjn)]
        rfl
      have hfin : ∃ v6 v7, W9.ownsRow w8.heap.size 51 4 v6 (j + 1) ((KL.take (j + 1)).flatMap (fun q => [.int .i64 (k.o q), .int .i64 (k.a q), .int .i64 (k.b q), .int .i64 (k.x q)])) ∧ W9.ownsRow w8.heap.size 3 1 v7 (j + 1) ((KL.take (j + 1)).flatMap (fun q => [.int .i64 (k.l q)])) ∧ RowF W9 45 Z 8 (fun i => if i = 7 then v7 else if i = 6 then v6 else (#[.int .i64 p.params, .int .i64 p.regs, .int .i64 p.line, .bool p.dots, .slice a4 p.nu k4, .slice a5 p.nc k5, .slice a6 p.ni k6, .slice a7 p.ni k7] : Array Value).getD i (.bool false)) := by
        obtain ⟨s1, s2, s3, _, _⟩ := HS9.out
        rw [ht, List.flatMap_append, List.flatMap_append]
        exact ⟨.slice d6 (j + 1) e6, .slice d7 (j + 1) e7, by simpa using s1, by simpa using s2, s3.congr (fun i hi => by
          by_cases e7 : i = 7
          · subst e7; rfl
          · by_cases e6 : i = 6
            · subst e6; rfl
            · simp only [if_neg e7, if_neg e6])⟩
      have HFin := hide hfin
      clear ht hfin
      go_roundw
      case rel => exact ⟨j + 1, by omega, by simp, HFin, hide (HKX.out.trans HS9.out.2.2.2.2)⟩
      case measure => simp [ivN]; omega
    · obtain rfl : j = C := by omega
      obtain ⟨v6, v7, h6, h7, hbx⟩ := HL.out
      rw [List.take_of_length_le (by rw [HLen.out]; exact Nat.le_refl _)] at h6 h7
      rcases h6.2 with ⟨h9, _⟩ | ⟨g6, c6, cur6, hv6, hg6, hg6', hc6, _⟩
      · omega
      subst hv6
      have HI6 := hide (codeL k KL HLen.out h6)
      have HL7 := hide h7
      have HL7g := hide (show ∀ b, v7.ownBlock = some b → w8.heap.size ≤ b from fun b e => (owns_blk h7 e).1)
      have HBx := hide hbx
      have HGg := hide hg6
      have HC6 := hide hc6
      clear h6 h7 hbx HL hg6 hg6' hc6
      have e6 : wr.cell? ⟨Z, 6, none⟩ = some (.slice (some ⟨g6, 0, none⟩) j c6) := HBx.out.cell (j := 6) (by omega)
      have hbK := b_1 wr (.cells #[.int .i64 6] 3)
      have e6' := (hbK.cell (p := ⟨Z, 6, none⟩) HBx.out.lt).trans e6
      have HNw := hide ((HN8.out.keep HK.out (fun e => by rcases e with e | e; exact HZk.out.2 e; have := HM8.out; omega)).low hbK (Nat.lt_of_lt_of_le HM8.out HK.out.size))
      have hKi : KiA (wr.alloc (.cells #[.int .i64 6] 3)) wr.heap.size [6] := ⟨by simp, fun i hi => by
        obtain rfl : i = 0 := by simpa using hi
        exact (RowF.mk' wr 3 #[.int .i64 6]).cell (j := 0) (by simp)⟩
      have HRn := hide (rename_any (cap := c6) (kc := 1) (K := [6]) (s := c.lf) (f := cnt c.lf) (by omega) (by omega) (by simp) (fun i hi => by
          have := HKn.out (KL.getD i 0) (HML.out i hi).1
          show knownI (k.o (KL.getD i 0))
          rw [HSh.out.kr.eo, HEo.out.2.1]; exact this) (inN6 HSh.out.kr HOk.out hen HML.out) HNw.out (HI6.out.low hbK HI6.out.lt) hKi (by have := HM8.out; have := HGg.out; omega) (by have := HI6.out.lt; omega))
      have HPk := hide (HBx.out.low hbK HBx.out.lt)
      have HL7k := hide (owns_past HL7.out (Keeps.of hbK (Nat.le_refl _) (fun _ => False)) (fun _ _ x => x))
      have HKk := hide (HK.out.trans (Keeps.of hbK (Nat.le_refl _) _))
      clear hbK hKi
      go_upto_region 12 with (first
        | (go_at_call 22
           refine HRn.out.mono ?_
           rintro e w9 ⟨rfl, hi9, hk9⟩
           have HI9 := hide hi9
           have HP9 := hide (HPk.out.keep hk9 (fun e => by
             obtain ⟨f', hr', _⟩ := HI6.out
             exact HBx.out.apart hr' (by decide) e))
           have HL79 := hide (owns_past HL7k.out hk9 (fun g e hg => by
             obtain ⟨f', hr', _⟩ := HI6.out
             exact owns_apart HL7.out hr' (by decide) (hg ▸ e)))
           have HK9 := hide (HKk.out.trans (hk9.mono (fun b e => .inr (by rw [e]; exact HGg.out))))
           clear hi9 hk9)
        | fail)
      clear HPk HL7k HKk HRn HNw e6 e6' HI6 HL7 HBx
      have hcode := lft_code HKL.out HCC.out HSh.out.kr HEo.out.2.1 HEo.out.2.2.1 HSh.out.kx HI9.out
      have hlines := lft_lines HKL.out HCC.out HSh.out.kl HL79.out
      obtain ⟨q, hq⟩ : ∃ q, p.lft c = q := ⟨_, rfl⟩
      have hqn : q.ni = j := by rw [← hq]; exact HCC.out
      have hqnc : q.nc = p.nc := by rw [← hq]; rfl
      have hqc : ConsA w (.slice a5 p.nc k5) q.nc q.c0 q.c1 q.c2 q.c3 := by rw [← hq]; exact HA.out.c
      have hqm : q.nmOk := by rw [← hq]; exact lft_nm HNo.out
      have hqk : ∀ i, i < q.ni → knownI (q.i0 i) := by rw [← hq]; exact lft_known HKn.out
      rw [hq] at hcode hlines
      rw [hqn] at hcode hqk
      have HIq := hide hcode
      have HLq := hide hlines
      have HQq := hide (And.intro hq (And.intro hqn (And.intro hqnc (And.intro hqc (And.intro hqm hqk)))))
      clear hcode hlines hq hqn hqnc hqc hqm hqk HI9 HL79
      have hmk := mk_places
      have hbm := k_map w9
      have HSn := hide (SetM.new w9 p.nc)
      have HIq1 := hide (HIq.out.low hbm HIq.out.lt)
      have HLq1 := hide (SlF.low HLq.out hbm (Nat.le_refl _))
      have HP1 := hide (HP9.out.low hbm HP9.out.lt)
      have HK1 := hide (HK9.out.trans (Keeps.of hbm (Nat.le_refl _) _))
      have HGb := hide (And.intro HIq.out.lt (And.intro HP9.out.lt (show w9.heap.size < (w9.alloc (.map #[] 0)).heap.size from by simp)))
      clear hbm HIq HLq HP9 HK9
      go_upto_region 13 with (fail)
      clear hmk
      generalize w9.alloc (.map #[] 0) = wA at *
      have e6 : wA.cell? ⟨Z, 6, none⟩ = some (.slice (some ⟨g6, 0, none⟩) j c6) := HP1.out.cell (j := 6) (by omega)
      have hbK := b_1 wA (.cells #[.int .i64 2, .int .i64 3] 3)
      have e6' := (hbK.cell (p := ⟨Z, 6, none⟩) HP1.out.lt).trans e6
      have hKi : KiA (wA.alloc (.cells #[.int .i64 2, .int .i64 3] 3)) wA.heap.size [2, 3] := ⟨by simp, fun i hi => by
        have : i = 0 ∨ i = 1 := by simp at hi; omega
        rcases this with rfl | rfl
        · exact (RowF.mk' wA 3 #[.int .i64 2, .int .i64 3]).cell (j := 0) (by simp)
        · exact (RowF.mk' wA 3 #[.int .i64 2, .int .i64 3]).cell (j := 1) (by simp)⟩
      have hin : InN [2, 3] q.i0 q.i2 q.i3 j (fun x => x < p.nc) := fun i hi r hr => by
        have := inN_nm HQq.out.2.2.2.2.1 i (by rw [HQq.out.2.1]; exact hi) r hr
        exact ⟨this.1, by rw [← HQq.out.2.2.1]; exact this.2.1⟩
      have HAd := hide (addNamed_any (cap := c6) (kc := 2) (K := [2, 3]) (by omega) (by omega) (by simp) HQq.out.2.2.2.2.2 hin (HSn.out.low hbK HSn.out.lt) (HIq1.out.low hbK HIq1.out.lt) hKi (by have := HGb.out.1; omega) (by have := HGb.out.2.2; omega))
      have HPk := hide (HP1.out.low hbK HP1.out.lt)
      have HIk := hide (HIq1.out.low hbK HIq1.out.lt)
      have HLk := hide (SlF.low HLq1.out hbK (by have := HGb.out.2.2; omega))
      have HKk := hide (HK1.out.trans (Keeps.of hbK (Nat.le_refl _) _))
      have HNr := hide (show ∀ b, v7.ownBlock = some b → b ≠ w9.heap.size from fun b e z => (HSn.out.low hbK HSn.out.lt).row (SlF.own HLk.out e) z.symm)
      clear hbK hKi hin HP1 HIq1 HLq1 HK1 HSn
      go_upto_region 14 with (first
        | (go_at_call 20
           refine HAd.out.mono ?_
           rintro e wB ⟨rfl, hsB, hkB⟩
           have HSB := hide (hsB.congr (s' := usd q q.ni) (fun x _ => by rw [Bool.false_or, adQ_usd, HQq.out.2.1]))
           have HPB := hide (HPk.out.keep hkB (fun e => by have := HGb.out.2.1; omega))
           have HIB := hide (HIk.out.keep hkB (fun e => by have := HGb.out.1; omega))
           have HKB := hide (HKk.out.trans (hkB.mono (fun b e => .inr (by have := HGb.out.1; have := HGg.out; omega))))
           have HLB := hide (SlF.keep HLk.out hkB (fun b e => HNr.out b e))
           clear hsB hkB)
        | fail)
      clear HPk HIk HLk HKk HAd HNr e6 e6'
      have hbw : Below Z w wB := HB8.out.trans (HKB.out.below (B := Z) (by have := HQ8.out.lt; omega) (fun b e => by rcases e with e | e; omega; have := HQ8.out.lt; omega))
      have HBw := hide hbw
      have HKc := hide (keptC_any q (.slice a5 p.nc k5) w9.heap.size (usd q q.ni) wB (by rw [HQq.out.2.2.1]; exact hnc) (HQq.out.2.2.2.1.low hbw (Nat.le_of_eq HZ.out)) (by rw [HQq.out.2.2.1]; exact HSB.out))
      have e5 : wB.cell? ⟨Z, 5, none⟩ = some (.slice a5 p.nc k5) := HPB.out.cell (j := 5) (by omega)
      clear hbw
      go_upto_region 15 with (first
        | (go_at_call 48
           refine HKc.out.mono ?_
           rintro e wC ⟨v5, bm2, m2, rfl, hoC, hnC, hgC, hbC⟩
           obtain ⟨a5', k5', rfl⟩ := owns_val hoC
           have HOC := hide hoC
           have HNC := hide hnC
           have HgC := hide hgC
           have HPC := hide (HPB.out.low hbC HPB.out.lt)
           have HIC := hide (HIB.out.low hbC HIB.out.lt)
           have HLC := hide (SlF.low HLB.out hbC (Nat.le_refl _))
           have HKC := hide (HKB.out.trans (Keeps.of hbC (Nat.le_refl _) _))
           have HzC := hide (And.intro HPB.out.lt HIB.out.lt)
           have z5 := HPC.out.frz 5
           have f5 : wC.cell? ⟨Z, 5, none⟩ = some (.slice a5 p.nc k5) := HPC.out.cell (j := 5) (by omega)
           clear hoC hnC hgC hbC)
        | fail)
      have HKB0 := hide HKB.out.size
      clear HKc e5 z5 f5 HPB HIB HLB HKB HSB
      obtain ⟨C5, hC5⟩ : ∃ C5, cnt (usd q q.ni) q.nc = C5 := ⟨_, rfl⟩
      rw [hC5] at HOC
      rw [hC5]
      have HC5 := hide hC5
      have hC5n : C5 ≤ 65535 := by have := cnt_le (usd q q.ni) q.nc; have := HQq.out.2.2.1; omega
      clear hC5
      have hkD := k_set wC Z 5 (.slice a5' C5 k5')
      have HPD := hide (show RowF (wC.setCell ⟨Z, 5, none⟩ (.slice a5' C5 k5')) 45 Z 8 _ from HPC.out.set (j := 5) (by omega) (.slice a5' C5 k5'))
      have HOD := hide (owns_past HOC.out hkD (fun g e hg => owns_apart HOC.out HPC.out (by decide) (hg ▸ e)))
      have HND := hide (HNC.out.keep hkD (fun e => by have := HgC.out; have := HzC.out.1; omega))
      have HID := hide (HIC.out.keep hkD (fun e => by
        obtain ⟨f', hr', _⟩ := HIC.out
        exact HPC.out.apart hr' (by decide) e.symm))
      have HLD := hide (SlF.keep HLC.out hkD (fun b e => (SlF.own HLC.out e).apart HPC.out (by decide)))
      have HKD := hide (HKC.out.trans (hkD.mono (fun b e => .inl e)))
      have HKC0 := hide (show w8.heap.size ≤ wB.heap.size from HKB0.out)
      have HgD := hide (And.intro HgC.out (Nat.lt_of_lt_of_le HNC.out.lt hkD.size))
      clear hkD HPC HOC HNC HIC HLC HKC HgC
      generalize wC.setCell ⟨Z, 5, none⟩ (.slice a5' C5 k5') = wD at *
      have e5 : wD.cell? ⟨Z, 5, none⟩ = some (.slice a5' C5 k5') := HPD.out.cell (j := 5) (by omega)
      go_wp2_with fail
      clear e5
      go_loopw [77] (fun iv wr => ∃ i : Nat, i ≤ C5 ∧ iv = .int .i64 (i : Int) ∧ Hid (wr.ownsRow wB.heap.size 81 4 (.slice a5' C5 k5') C5 (conK q (usd q q.ni) q.nc)) ∧ Hid (Keeps wD wr (fun b => (Value.slice a5' C5 k5').ownBlock = some b))) (fun iv _ => C5 - ivN iv)
      case atStart => exact ⟨0, Nat.zero_le _, rfl, HOD, hide (Keeps.refl _ _)⟩
      case round =>
        obtain ⟨i, hi, rfl, HO, HKr⟩ := hrel
        by_cases hin : i < C5
        · have hgd : (conK q (usd q q.ni) q.nc).getD (i * 4 + 3) (.bool false) = .string (q.c3 (kpAt (usd q q.ni) q.nc i)) := by
            rw [conK_at (by rw [HC5.out]; exact hin) (by omega)]
            rfl
          have hkm := (kpAt_mem (s := usd q q.ni) (m := q.nc) (j := i) (by rw [HC5.out]; exact hin)).2
          have hlim : (q.c3 (kpAt (usd q q.ni) q.nc i)).size ≤ 281474976710656 := by
            have := HSt.out (kpAt (usd q q.ni) q.nc i) (by rw [← HQq.out.2.2.1]; exact hkm)
            rw [← HQq.out.1]
            rw [← HQq.out.1] at this
            exact this
          generalize hs : q.c3 (kpAt (usd q q.ni) q.nc i) = str at *
          have HO' := HO.out
          rcases HO'.2 with ⟨h9, _⟩ | ⟨g5, cap5, cur5, hv5, hg5, hg5', _⟩
          · omega
          simp only [Value.slice.injEq, true_and] at hv5
          obtain ⟨rfl, rfl⟩ := hv5
          have HGd := hide hgd
          have hrow := rowF_owns HO'
          have hbx := HPD.out.keep HKr.out (fun e => by
            simp [Value.ownBlock] at e
            exact hrow.apart (HPD.out.keep HKr.out (fun z => by simp [Value.ownBlock] at z; have := HgD.out; have := HzC.out.1; omega)) (by decide) e)
          have e5 : wr.cell? ⟨Z, 5, none⟩ = some (.slice (some ⟨g5, 0, none⟩) C5 k5') := hbx.cell (j := 5) (by omega)
          have es : wr.cell? ⟨g5, i * 4 + 3, none⟩ = some (.string str) := by
            rw [hrow.cell (j := i * 4 + 3) (by omega), hgd]
          have hZg : Z ≠ g5 := by have := HzC.out.1; omega
          have HZg := hide hZg
          have HBx := hide (show RowF wr.drew 45 Z 8 _ from hbx)
          have HKd := hide (keeps_drew HKr.out)
          have HCl := hide (fun w' => sclone_any str w' hlim)
          have HO5 := hide (show wr.drew.ownsRow wB.heap.size 81 4 (.slice (some ⟨g5, 0, none⟩) C5 k5') C5 (conK q (usd q q.ni) q.nc) from HO')
          clear hgd hkm hlim hrow hbx HO' hs hg5 hg5' hZg HO
          go_upto_region 18 with (fail)
          have hi1 : (0 : Int) ≤ (i : Int) := Int.natCast_nonneg _
          have hi2 : (i : Int) < (C5 : Int) := by omega
          go_region_held3 (fun w9 => w9.cell? ⟨Z, 5, none⟩ = some (.slice (some ⟨g5, 0, none⟩) C5 k5') ∧ w9.cell? ⟨g5, i * 4 + 3, none⟩ = some (.string str)) (first | exact ⟨t1, t2⟩ | exact ⟨c1, c2⟩ | go_keep)
            (first
              | (go_at_call 49
                 refine (HCl.out _).mono ?_
                 rintro e w2 ⟨rfl, hb2⟩
                 have HO2 := hide (owns_low HO5.out hb2)
                 have hr2 := rowF_owns HO2.out
                 have HBx2 := HBx.out.low hb2 HBx.out.lt
                 have c1 : w2.cell? ⟨Z, 5, none⟩ = some (.slice (some ⟨g5, 0, none⟩) C5 k5') := HBx2.cell (j := 5) (by omega)
                 have c2 : w2.cell? ⟨g5, i * 4 + 3, none⟩ = some (.string str) := by rw [hr2.cell (j := i * 4 + 3) (by omega), HGd.out]
                 have z2 := hr2.frz (i * 4 + 3)
                 have t1 : (w2.setCell ⟨g5, i * 4 + 3, none⟩ (.string str)).cell? ⟨Z, 5, none⟩ = some (.slice (some ⟨g5, 0, none⟩) C5 k5') := (HBx2.keep (k_set w2 g5 (i * 4 + 3) (.string str)) HZg.out).cell (j := 5) (by omega)
                 have t2 : (w2.setCell ⟨g5, i * 4 + 3, none⟩ (.string str)).cell? ⟨g5, i * 4 + 3, none⟩ = some (.string str) := by
                   have := (hr2.set (j := i * 4 + 3) (by omega) (.string str)).cell (j := i * 4 + 3) (by omega)
                   simpa using this
                 have HK2 := hide (HKd.out.trans (Keeps.of hb2 (Nat.le_refl _) _))
                 clear hr2 HBx2 hb2)
              | fail)
          all_goals
            go_wp2_with fail
            go_roundw
            case rel => exact ⟨i + 1, by omega, by simp, hide (by
              have h1 := owns_set HO2.out (i := i * 4 + 3) (by omega) (.string str)
              rw [set_same HGd.out] at h1
              exact h1), hide (HK2.out.trans ((k_set w2 g5 (i * 4 + 3) (.string str)).mono (fun b e => by rw [e]; simp [Value.ownBlock])))⟩
            case measure => simp [ivN]; omega
        · obtain rfl : i = C5 := by omega
          have ho1 : ∀ b, (Value.slice a5' i k5').ownBlock = some b → wB.heap.size ≤ b := fun b e => (owns_blk HOD.out e).1
          have hbx := HPD.out.keep HKr.out (fun e => by have := ho1 _ e; have := HzC.out.1; omega)
          have hI := HID.out.keep HKr.out (fun e => by have := ho1 _ e; have := HzC.out.2; omega)
          have hN := HND.out.keep HKr.out (fun e => HND.out.row (owns_rowF HOD.out e) rfl)
          have hL := SlF.keep HLD.out HKr.out (fun b e e' => (SlF.own HLD.out e).apart (owns_rowF HOD.out e') (by decide) rfl)
          have e6 : wr.cell? ⟨Z, 6, none⟩ = some (.slice (some ⟨g6, 0, none⟩) j c6) := hbx.cell (j := 6) (by omega)
          have hbK := b_1 wr (.cells #[.int .i64 2, .int .i64 3] 3)
          have e6' := (hbK.cell (p := ⟨Z, 6, none⟩) hbx.lt).trans e6
          have hKi : KiA (wr.alloc (.cells #[.int .i64 2, .int .i64 3] 3)) wr.heap.size [2, 3] := ⟨by simp, fun i hi => by
            have : i = 0 ∨ i = 1 := by simp at hi; omega
            rcases this with rfl | rfl
            · exact (RowF.mk' wr 3 #[.int .i64 2, .int .i64 3]).cell (j := 0) (by simp)
            · exact (RowF.mk' wr 3 #[.int .i64 2, .int .i64 3]).cell (j := 1) (by simp)⟩
          have hin : InN [2, 3] q.i0 q.i2 q.i3 j (fun x => x < q.nc ∧ usd q q.ni x = true) := by
            have := inN_nm HQq.out.2.2.2.2.1
            rw [HQq.out.2.1] at this ⊢
            exact this
          have HRn := hide (rename_any (cap := c6) (kc := 2) (K := [2, 3]) (s := usd q q.ni) (f := cnt (usd q q.ni)) (by have := HQq.out.2.2.1; omega) (by omega) (by simp) HQq.out.2.2.2.2.2 hin (hN.low hbK hN.lt) (hI.low hbK hI.lt) hKi (by have := HgD.out.1; have := HzC.out.2; omega) (by have := hI.lt; omega))
          have HPk := hide (hbx.low hbK hbx.lt)
          have HIr := hide hI
          have HLk := hide (SlF.low hL hbK (Nat.le_refl _))
          have HOk2 := hide (owns_low HO.out hbK)
          have HKk := hide ((HKD.out.trans (HKr.out.mono (fun b e => .inr (Nat.le_trans (by have := HKC0.out; omega) (ho1 b e))))).trans (Keeps.of hbK (Nat.le_refl _) _))
          clear hbx hI hN hL hbK hKi hin
          go_upto_region 21 with (first
            | (go_at_call 22
               refine HRn.out.mono ?_
               rintro e wF ⟨rfl, hiF, hkF⟩
               have HIF := hide hiF
               have HKF := hide hkF
               clear hiF hkF)
            | fail)
          have hapI : ∀ {T N : Nat} {f : Nat → Value} {b : Nat}, RowF (wr.alloc (.cells #[.int .i64 2, .int .i64 3] 3)) T b N f → T ≠ 51 → b ≠ g6 := fun h hT e => by
            obtain ⟨f', hr', _⟩ := HIr.out.low (b_1 wr (.cells #[.int .i64 2, .int .i64 3] 3)) HIr.out.lt
            exact h.apart hr' hT e
          have HPF := hide (HPk.out.keep HKF.out (hapI HPk.out (by decide)))
          have HLF := hide (SlF.keep HLk.out HKF.out (fun b e => hapI (SlF.own HLk.out e) (by decide)))
          have HOF := hide (owns_past HOk2.out HKF.out (fun b e => hapI (owns_rowF HOk2.out e) (by decide)))
          have hg68 : w8.heap.size ≤ g6 := HGg.out
          have hk8F := HKk.out.trans (HKF.out.mono (fun b e => .inr (by rw [e]; exact hg68)))
          have hZ8 : Z + 1 < w8.heap.size := HQ8.out.lt
          have hQF := HQ8.out.keep hk8F (fun e => by omega)
          have hbF : Below Z w wF := HB8.out.trans (hk8F.below (B := Z) (by omega) (fun b e => by omega))
          have HQF := hide hQF
          have HBF := hide hbF
          have hcst := HIF.out
          rw [← HQq.out.2.1] at hcst
          have HIc := hide (cst_code hcst)
          have HCu := hide (cloneU_any p (.slice a4 p.nu k4) wF hnu (HA.out.u.low hbF (Nat.le_of_eq HZ.out)))
          have e4 : wF.cell? ⟨Z, 4, none⟩ = some (.slice a4 p.nu k4) := HPF.out.cell (j := 4) (by omega)
          clear hapI hk8F hQF hbF hcst HPk HLk HOk2 HKk HIF HKF HIr e6 e6' HRn
          go_upto_region 22 with (first
            | (go_at_call 50
               refine HCu.out.mono ?_
               rintro e wG ⟨v4, rfl, hu4, hbG, hgG⟩
               obtain ⟨b4, d4, rfl⟩ : ∃ b4 d4, v4 = .slice b4 p.nu d4 := by
                 obtain ⟨b4, d4, e, _⟩ := hu4
                 exact ⟨b4, d4, e⟩
               have HU4 := hide hu4
               have HG4b := hide (show ∀ b, (Value.slice b4 p.nu d4).ownBlock = some b → Z ≤ b from fun b e => by have := hgG b e; have := HPF.out.lt; omega)
               have HPG := hide (HPF.out.low hbG HPF.out.lt)
               have HLG := hide (SlF.low HLF.out hbG (Nat.le_refl _))
               have HOG := hide (owns_low HOF.out hbG)
               have HIG := hide (HIc.out.low hbG HIc.out.lt)
               have HQG := hide (HQF.out.low hbG HQF.out.lt)
               have HBG := hide (HBF.out.trans (hbG.mono (by have := HPF.out.lt; omega)))
               have z4 := HPG.out.frz 4
               have f4 : wG.cell? ⟨Z, 4, none⟩ = some (.slice a4 p.nu k4) := HPG.out.cell (j := 4) (by omega)
               clear hu4 hbG hgG)
            | fail)
          clear HCu e4 z4 f4 HPF HLF HOF HIc HQF HBF
          have hkH := k_set wG Z 4 (.slice b4 p.nu d4)
          have hapP : ∀ {T N : Nat} {f : Nat → Value} {b : Nat}, RowF wG T b N f → T ≠ 45 → b ≠ Z := fun h hT e => h.apart HPG.out hT e
          have hPH : RowF (wG.setCell ⟨Z, 4, none⟩ (.slice b4 p.nu d4)) 45 Z 8 _ := HPG.out.set (j := 4) (by omega) (.slice b4 p.nu d4)
          have HUH := hide (SlF.keep HU4.out hkH (fun b e => hapP (SlF.own HU4.out e) (by decide)))
          have HLH := hide (SlF.keep HLG.out hkH (fun b e => hapP (SlF.own HLG.out e) (by decide)))
          have HOH := hide (owns_past HOG.out hkH (fun b e => hapP (owns_rowF HOG.out e) (by decide)))
          have HIH := hide (HIG.out.keep hkH (fun e => by
            obtain ⟨f', hr', _⟩ := HIG.out
            exact hapP hr' (by decide) e))
          have hQH := HQG.out.keep hkH (fun e => by omega)
          have HBH := hide (HBG.out.trans (hkH.below (B := Z) (by have := HPG.out.lt; omega) (fun b e => by omega)))
          clear hkH hapP HPG HU4 HLG HOG HIG HQG HBG
          generalize wG.setCell ⟨Z, 4, none⟩ (.slice b4 p.nu d4) = wH at *
          have e0 : wH.cell? ⟨Z, 0, none⟩ = some (.int .i64 p.params) := hPH.cell (j := 0) (by omega)
          have e1 : wH.cell? ⟨Z, 1, none⟩ = some (.int .i64 p.regs) := hPH.cell (j := 1) (by omega)
          have e2 : wH.cell? ⟨Z, 2, none⟩ = some (.int .i64 p.line) := hPH.cell (j := 2) (by omega)
          have e3 : wH.cell? ⟨Z, 3, none⟩ = some (.bool p.dots) := hPH.cell (j := 3) (by omega)
          have e4 : wH.cell? ⟨Z, 4, none⟩ = some (.slice b4 p.nu d4) := hPH.cell (j := 4) (by omega)
          have e5 : wH.cell? ⟨Z, 5, none⟩ = some (.slice a5' i k5') := hPH.cell (j := 5) (by omega)
          have e6 : wH.cell? ⟨Z, 6, none⟩ = some (.slice (some ⟨g6, 0, none⟩) j c6) := hPH.cell (j := 6) (by omega)
          have e7 : wH.cell? ⟨Z, 7, none⟩ = some v7 := hPH.cell (j := 7) (by omega)
          obtain ⟨a7', d7, hv7⟩ : ∃ a7' d7, v7 = .slice a7' q.nl d7 := by
            obtain ⟨a7', d7, e, _⟩ := HLH.out
            exact ⟨a7', d7, e⟩
          rw [hv7] at e7
          have q0 := hQH.cell (j := 0) (by simp)
          have q1 := hQH.cell (j := 1) (by simp)
          have q2 := hQH.cell (j := 2) (by simp)
          have q3 := hQH.cell (j := 3) (by simp)
          have q4 := hQH.cell (j := 4) (by simp)
          have q5 := hQH.cell (j := 5) (by simp)
          have q6 := hQH.cell (j := 6) (by simp)
          have q7 := hQH.cell (j := 7) (by simp)
          have z0 := hQH.frz 0
          have z1 := hQH.frz 1
          have z2 := hQH.frz 2
          have z3 := hQH.frz 3
          have z4 := hQH.frz 4
          have z5 := hQH.frz 5
          have z6 := hQH.frz 6
          have z7 := hQH.frz 7
          have HKp := hide (put8_keeps wH (Z + 1) (.int .i64 p.params) (.int .i64 p.regs) (.int .i64 p.line) (.bool p.dots) (.slice b4 p.nu d4) (.slice a5' i k5') (.slice (some ⟨g6, 0, none⟩) j c6) (.slice a7' q.nl d7))
          have HQH := hide hQH
          have HV7 := hide hv7
          clear hPH hQH hv7
          go_wp2_with fail
          have hni : (p.lft c).ni = j := by rw [HQq.out.1]; exact HQq.out.2.1
          have hfm : FM (put8 wH (Z + 1) 0 (.int .i64 p.params) (.int .i64 p.regs) (.int .i64 p.line) (.bool p.dots) (.slice b4 p.nu d4) (.slice a5' i k5') (.slice (some ⟨g6, 0, none⟩) j c6) (.slice a7' q.nl d7)) (p.lft c).cst (.slice b4 p.nu d4) (.slice a5' i k5') g6 c6 (.slice a7' q.nl d7) := by
            have hapQ : ∀ {T N : Nat} {f : Nat → Value} {b : Nat}, RowF wH T b N f → T ≠ 45 → b ≠ Z + 1 := fun h hT e => h.apart HQH.out hT e
            have hu := SlF.keep HUH.out HKp.out (fun b e => hapQ (SlF.own HUH.out e) (by decide))
            have hl := SlF.keep HLH.out HKp.out (fun b e => hapQ (SlF.own HLH.out e) (by decide))
            have ho := owns_past HOH.out HKp.out (fun b e => hapQ (owns_rowF HOH.out e) (by decide))
            have hi := HIH.out.keep HKp.out (fun e => by
              obtain ⟨f', hr', _⟩ := HIH.out
              exact hapQ hr' (by decide) e)
            rw [HV7.out] at hl
            rw [← HC5.out] at ho
            have hc := con_F ho
            rw [HC5.out] at hc
            have hcap : q.ni ≤ c6 := by rw [HQq.out.2.1]; exact HC6.out
            have hq := HQq.out.1
            subst hq
            exact ⟨hu, hc, hi, hcap, hl⟩
          have HFm := hide hfm
          have HNi := hide hni
          clear hfm hni
          refine bodyPost_ret (v := .agg #[.int .i64 p.params, .int .i64 p.regs, .int .i64 p.line, .bool p.dots, .slice b4 p.nu d4, .slice a5' i k5', .slice (some ⟨g6, 0, none⟩) j c6, .slice a7' q.nl d7]) ?_ rfl
            ⟨c, K, .slice b4 p.nu d4, .slice a5' i k5', .slice a7' q.nl d7, g6, c6, HF.out, by rw [HNi.out]; rfl, ⟨fun b hb => by
              have h8 := HQ8.out.lt
              have hz := HZ.out
              rcases hb with hb | hb | hb | hb
              · have := HG4b.out b hb; omega
              · have := (owns_blk HOH.out hb).1; have := HKC0.out; omega
              · have := HGg.out; have e : g6 = b := by simpa [Value.ownBlock] using hb
                omega
              · have := HL7g.out b (by rw [HV7.out]; exact hb); omega, HFm.out⟩, by rw [HZ.out]; exact HBH.out.trans (HKp.out.below (B := Z) (by have := HQH.out.lt; omega) (fun b e => by omega))⟩
          simp [results, Tryz.results19, go_sem, q0, q1, q2, q3, q4, q5, q6, q7]
end Go.Proofs.YtgnbhhgpaldheaaGreat
