import Derived.Test.YtgnbhhgpaldheaaGreatKEH0
import Derived.Test.YtgnbhhgpaldheaaGreatKEG2
namespace Go.Proofs.YtgnbhhgpaldheaaGreat
open Go Go.RowKit Go.Shelf
set_option linter.unusedVariables false
attribute [local go_sem] Oper.semAt_some
theorem run_op (cm : Nat → List Nat) : ∀ (l : List Nat) (s : Ou), (s.run cm l).c.op = s.c.op ∧ (s.run cm l).c.n = s.c.n
  | [], s => ⟨rfl, rfl⟩
  | p :: l, s => run_op cm l (s.one cm p)
theorem run_L (cm : Nat → List Nat) : ∀ (l : List Nat) (s : Ou) (q : Nat), (s.run cm l).c.L q ↔ s.c.L q ∧ q ∉ l
  | [], s, q => by simp [Ou.run]
  | p :: l, s, q => by
    have := run_L cm l (s.one cm p) q
    show ((s.one cm p).run cm l).c.L q ↔ _
    rw [this]
    have e : (s.one cm p).c.L q ↔ s.c.L q ∧ q ≠ p := dr1_L (c := s.c) (p := p) (q := q)
    rw [e, List.mem_cons]
    constructor
    · rintro ⟨⟨h1, h2⟩, h3⟩; exact ⟨h1, fun h => h.elim h2 h3⟩
    · rintro ⟨h1, h2⟩; exact ⟨⟨h1, fun h => h2 (.inl h)⟩, fun h => h2 (.inr h)⟩
theorem run_snoc (cm : Nat → List Nat) (s : Ou) (l : List Nat) (p : Nat) : s.run cm (l ++ [p]) = (s.run cm l).one cm p := by unfold Ou.run; rw [List.foldl_append]; rfl
theorem rev_take (xs : List Nat) {j : Nat} (hj : j < xs.length) : xs.reverse.take (j + 1) = xs.reverse.take j ++ [xs.getD (xs.length - 1 - j) 0] := by
  rw [List.take_add_one]
  have : xs.reverse[j]? = some (xs.getD (xs.length - 1 - j) 0) := by
    rw [List.getElem?_reverse hj, List.getD_eq_getElem?_getD, List.getElem?_eq_getElem (by omega)]
    rfl
  rw [this]; rfl
theorem rev_notin {xs : List Nat} (h : xs.Nodup) {j : Nat} (hj : j < xs.length) : xs.getD (xs.length - 1 - j) 0 ∉ xs.reverse.take j := by
  have hr : xs.reverse.Nodup := List.pairwise_reverse.2 (h.imp (fun h e => h e.symm))
  have h2 := hr.sublist (List.take_sublist (j + 1) xs.reverse)
  rw [rev_take xs hj] at h2
  rw [List.nodup_append] at h2
  exact fun k => h2.2.2 _ k _ (List.mem_singleton.2 rfl) rfl
theorem getD_memN {xs : List Nat} {j : Nat} (hj : j < xs.length) : xs.getD j 0 ∈ xs := by
  rw [List.getD_eq_getElem?_getD, List.getElem?_eq_getElem hj]
  exact List.getElem_mem hj
theorem take_snocN (xs : List Nat) {j : Nat} (hj : j < xs.length) : xs.take (j + 1) = xs.take j ++ [xs.getD j 0] := by
  rw [List.take_add_one, List.getD_eq_getElem?_getD, List.getElem?_eq_getElem hj]
  rfl
theorem boxed_keep {W W' : World} {B t : Nat} {v : Value} {S : Nat → Prop} (h : Boxed W B t v) (k : Keeps W W' S) (hn : ¬ S B) : Boxed W' B t v := (k.block B h.lt hn).trans h
theorem keeps_drew {W W' : World} {S : Nat → Prop} (h : Keeps W W' S) : Keeps W W'.drew S := ⟨h.os, h.tape, h.output, h.size, h.block⟩
theorem keeps_from {W W' : World} {S : Nat → Prop} {B : Nat} (h : Keeps W W' S) (hS : ∀ b, B ≤ b → ¬ S b) : KeepsFrom B W W' :=
  ⟨h.size, fun k o hB hk _ => (h.block k (Array.getElem?_eq_some_iff.1 hk).1 (hS k hB)).trans hk⟩
theorem noOut_n {Q : Exit → Act → World → Prop} {a : Act} {w : World} (h : Q .normal a w) : NoOut Q .normal a w := h
theorem OutSt.keep {G S lm tm n : Nat} {i2 : Nat → Int} {un : Bool} {k0 : Lks} {s : Ou} {w w' : World} {T : Nat → Prop} (h : OutSt G S lm tm n i2 un k0 s w) (k : Keeps w w' T) (hT : ∀ b, OuS G S lm tm b → ¬ T b) : OutSt G S lm tm n i2 un k0 s w' := by
  obtain ⟨k1, h1, h2, h3, h4, h5, h6⟩ := h
  exact ⟨k1, RowF.keep h1 k (hT G (.inl rfl)), h2, RowF.keep h3 k (hT S (.inr (.inl rfl))), h4.keep k (hT lm (.inr (.inr (.inr rfl)))), h5.keep k (hT tm (.inr (.inr (.inl rfl)))), h6⟩
theorem OutSt.keepB {G S lm tm n : Nat} {i2 : Nat → Int} {un : Bool} {k0 : Lks} {s : Ou} {w w' : World} (h : OutSt G S lm tm n i2 un k0 s w) (k : Below w.heap.size w w') : OutSt G S lm tm n i2 un k0 s w' := h.keep (Keeps.of k (Nat.le_refl _) (fun _ => False)) (fun _ _ x => x)
theorem row_not {W : World} {r T g N : Nat} {f : Nat → Value} {o : Obj} (h : RowF W T g N f) (ho : W.heap[r]? = some o) (hc : o.isCells = false) : g ≠ r := by
  rintro rfl
  obtain ⟨cur, h1, _⟩ := h
  rw [h1] at ho; cases ho; cases hc
theorem OutSt.own {G S lm tm n B : Nat} {i2 : Nat → Int} {un : Bool} {k0 : Lks} {β : Type} {s : β → Ou} (hl : lm < B) (ht : tm < B) : OwnFrom B (fun (x : β) W => OutSt G S lm tm n i2 un k0 (s x) W) := by
  intro x W W' row h hg hr
  refine h.keep (T := fun b => row = some b) ⟨hg.os, hg.tape, hg.output, hg.size, fun b hb hn => hg.block b hb (fun e => hn e.symm)⟩ ?_
  obtain ⟨k1, h1, h2, h3, h4, h5, h6⟩ := h
  intro b hb e
  obtain ⟨q1, o, q2, q3⟩ := hr b e
  rcases hb with rfl | rfl | rfl | rfl
  · exact row_not h1 q2 q3 rfl
  · exact row_not h3 q2 q3 rfl
  · omega
  · omega
theorem keeps_own {β : Type} {w : World} {S : Nat → Prop} {B : Nat} (hB : w.heap.size ≤ B) : OwnFrom B (fun (_ : β) W => Keeps w W S) := by
  intro x W W' row h hg hr
  exact ⟨hg.os.trans h.os, hg.tape.trans h.tape, hg.output.trans h.output, Nat.le_trans h.size hg.size, fun b hb hn => (hg.block b (Nat.lt_of_lt_of_le hb h.size) (fun e => by have := (hr b e.symm).1; omega)).trans (h.block b hb hn)⟩
theorem Kb.put' {Bs : Nat} {ob : Option Nat} {B : Nat} (hB : Bs < B) (hb : ∀ b, ob = some b → b < B) (W : World) (l : Nat) (o' : Obj) (hl : B ≤ l) : Kb Bs ob W (W.putObj l o') :=
  ⟨World.putObj_heap_other (fun e => by omega), fun b e => World.putObj_heap_other (fun c => by have := hb b e; omega)⟩
set_option maxRecDepth 100000 in
set_option maxHeartbeats 3200000 in
theorem leaveOut_in (G S lm tm n cap base : Nat) (i2 : Nat → Int) (un : Bool) (k0 : Lks) (s0 : Ou) (cm : Nat → List Nat) (xs : List Nat) (vo : Value) (w : World) (hn : n ≤ 1048576) (hne : lm ≠ tm)
    (h : OutSt G S lm tm n i2 un k0 s0 w) (hcw : ∀ t, t < n → w.ownsRow base 3 1 (k0.cv t) (cm t).length (natC (cm t))) (hcj : ∀ t, t < n → ∀ p ∈ cm t, p < n ∧ jmp (s0.c.op p) = true) (hcl : ∀ t, t < n → (cm t).length ≤ 100000000000)
    (hxs : ∀ p ∈ xs, s0.c.L p) (hnd : xs.Nodup) (ho : w.ownsRow base 3 1 vo xs.length (natC xs)) (hlen : xs.length ≤ n) :
    CallsIn Fence.wide 4 Tryz.prog 93 #[.pointer (some ⟨S, 0, none⟩), .slice (some ⟨G, 0, none⟩) n cap, vo] w fun e w' => e = .returned (.tuple #[]) ∧
      OutSt G S lm tm n i2 un k0 (s0.run cm xs.reverse) w' ∧ Keeps w w' (OuS G S lm tm) := by
  have HSt := hide h
  have HCw := hide hcw
  have HCj := hide hcj
  have HCl := hide hcl
  have HXs := hide hxs
  have HNd := hide hnd
  have HO := hide ho
  obtain ⟨ao, co, rfl⟩ := owns_val ho
  clear h hcw hcj hcl hxs hnd ho
  refine callsIn_of_wp_marks Tryz.func93 rfl trivial ?_ rfl
  simp only [Tryz.ntmps93, List.size_toArray, List.length_cons, List.length_nil, Nat.reduceAdd, Nat.reduceSub, Array.replicate_succ, Array.replicate_zero, List.push_toArray, List.append_toArray, List.nil_append, List.cons_append]
  have hf1 : Fence.wide.fn 89 := trivial
  have hf2 : Fence.wide.fn 122 := trivial
  have hf3 : Fence.wide.fn 126 := trivial
  have hf4 : Fence.wide.fn 52 := trivial
  gi_wp2_with (gi_at_call 89; refine (backI_in Fence.wide (4 - 1) trivial rfl _ _ _ _).mono ?_; rintro e w' ⟨rfl, rfl⟩)
  have bS := ((Boxed.new w 90 (.pointer (some ⟨S, 0, none⟩))).alloc (.cells #[.slice (some ⟨G, 0, none⟩) n cap] 88)).alloc (.cells #[.slice ao xs.length co] 43)
  have bG := (Boxed.new (w.alloc (.cells #[.pointer (some ⟨S, 0, none⟩)] 90)) 88 (.slice (some ⟨G, 0, none⟩) n cap)).alloc (.cells #[.slice ao xs.length co] 43)
  have bO := Boxed.new ((w.alloc (.cells #[.pointer (some ⟨S, 0, none⟩)] 90)).alloc (.cells #[.slice (some ⟨G, 0, none⟩) n cap] 88)) 43 (.slice ao xs.length co)
  have hB0 := b_3 w (.cells #[.pointer (some ⟨S, 0, none⟩)] 90) (.cells #[.slice (some ⟨G, 0, none⟩) n cap] 88) (.cells #[.slice ao xs.length co] 43)
  have hsz : (((w.alloc (.cells #[.pointer (some ⟨S, 0, none⟩)] 90)).alloc (.cells #[.slice (some ⟨G, 0, none⟩) n cap] 88)).alloc (.cells #[.slice ao xs.length co] 43)).heap.size = w.heap.size + 3 := by simp
  simp only [World.size_alloc] at bG bO
  obtain ⟨W0, hW0⟩ : ∃ W0, ((w.alloc (.cells #[.pointer (some ⟨S, 0, none⟩)] 90)).alloc (.cells #[.slice (some ⟨G, 0, none⟩) n cap] 88)).alloc (.cells #[.slice ao xs.length co] 43) = W0 := ⟨_, rfl⟩
  rw [hW0] at bS bG bO hB0 hsz ⊢
  clear hW0
  have HK0 := hide (show Keeps w W0 (OuS G S lm tm) from Keeps.of hB0 (Nat.le_refl _) _)
  have HCl2 := hide (show lm < W0.heap.size ∧ tm < W0.heap.size from by
    obtain ⟨k, _, _, _, h4, h5, _⟩ := HSt.out
    have h6 := hB0.size
    exact ⟨Nat.lt_of_lt_of_le h4.lt h6, Nat.lt_of_lt_of_le h5.lt h6⟩)
  have HLT := hide (show G < w.heap.size ∧ S < w.heap.size ∧ lm < w.heap.size ∧ tm < w.heap.size from by
    obtain ⟨k, h1, _, h3, h4, h5, _⟩ := HSt.out
    exact ⟨h1.lt, RowF.lt h3, h4.lt, h5.lt⟩)
  have HSt0 := hide (OutSt.keepB HSt.out hB0)
  have HO0 := hide (owns_past HO.out (Keeps.of hB0 (Nat.le_refl _) (fun _ => False)) (fun _ _ x => x))
  have HOff : Hid (∀ (v : Value) (m : Nat) (ys : List Value), w.ownsRow base 3 1 v m ys → ∀ b, v.ownBlock = some b → b < w.heap.size ∧ ¬ OuS G S lm tm b) := hide (fun v m ys hv b e => by
    refine ⟨(owns_blk hv e).2, ?_⟩
    obtain ⟨k, h1, _, h3, h4, h5, _⟩ := HSt.out
    have hr := owns_rowF hv e
    rintro (q | q | q | q)
    · exact hr.apart h1 (by decide) q
    · exact hr.apart h3 (by decide) q
    · exact h5.row hr q.symm
    · exact h4.row hr q.symm)
  have HOb := hide (HOff.out _ _ _ HO.out)
  have HCw0 := hide (fun (t : Nat) (ht : t < n) => owns_past (HCw.out t ht) HK0.out (fun g e => (HOff.out _ _ _ (HCw.out t ht) g e).2))
  have HSz := hide hsz
  have HGSw := hide (show G < w.heap.size ∧ S < w.heap.size from by
    obtain ⟨k, h1, _, h3, _⟩ := HSt.out
    exact ⟨h1.lt, RowF.lt h3⟩)
  refine range_st rfl (by omega) (gf := 122) (bd := #[]) (lb := #[.pointer (some ⟨w.heap.size + 1 + 1, 0, none⟩)]) rfl hf2 (enters_of Tryz.func122 (by kernel_rfl) rfl)
    (encs := fun x : Nat × Nat => #[Value.int .i64 (x.1 : Int), .int .i64 (x.2 : Int)]) (Kp := Kb (w.heap.size + 1 + 1) (Value.slice ao xs.length co).ownBlock) (S := fun ys _ => ys = upTo (bkN xs) xs.length) (Sp := fun _ => True) (N := xs.length)
    (fun _ => rfl) (fun _ _ _ _ hs _ _ => hs) Kb.trans (fun W l o o' h1 h2 h3 => Kb.put' (by have := HSz.out; omega) (fun b e => by have := (HOb.out b e).1; have := HSz.out; omega) W l o' h1)
    (fun pre W => OutSt G S lm tm n i2 un k0 (s0.run cm (xs.reverse.take pre.length)) W ∧ Keeps W0 W (OuS G S lm tm) ∧ Boxed W w.heap.size 90 (.pointer (some ⟨S, 0, none⟩)) ∧ Boxed W (w.heap.size + 1) 88 (.slice (some ⟨G, 0, none⟩) n cap))
    (fun _ _ _ => False)
    (OwnFrom.and (OutSt.own HCl2.out.1 HCl2.out.2) (OwnFrom.and (keeps_own (Nat.le_refl _)) (OwnFrom.and (Own.from (boxed_own _ _ _) _) (Own.from (boxed_own _ _ _) _))))
    (fun _ _ _ _ _ hs _ _ => hs)
    ⟨by rw [List.length_nil, List.take_zero]; exact HSt0.out, Keeps.refl _ _, bS, bG⟩
    (fun pre x _ => pre = upTo (bkN xs) pre.length ∧ x = bkN xs pre.length)
    (fun pre x a' _ => (pre = upTo (bkN xs) pre.length ∧ x = bkN xs pre.length) ∧ a' = { tmps := #[Value.pointer (some ⟨S, 0, none⟩), Value.slice (some ⟨G, 0, none⟩) n cap, Value.slice ao xs.length co, Value.pointer (some ⟨w.heap.size, 0, none⟩), Value.pointer (some ⟨w.heap.size + 1, 0, none⟩), undef, undef, .int .i64 (x.2 : Int), undef, undef, undef,
          Value.slice ao xs.length co, Value.func (Fn.func 122) #[] #[Value.pointer (some ⟨w.heap.size + 1 + 1, 0, none⟩)], .int .i64 (x.1 : Int), .int .i64 (x.2 : Int), undef, undef, undef, undef, undef, undef, undef, undef, undef, undef, undef, undef, undef, undef, undef, undef, undef, undef, undef, undef, undef, undef, undef, undef, undef, undef, undef, undef, undef, undef, undef, undef, undef, undef, undef, undef, undef, undef, undef, undef, undef, undef], defers := [] })
    (fun _ _ _ _ _ _ _ hs _ _ => hs)
    ?seq ?assign ?body ?done ?stop
  case seq =>
    intro l J Jx W _ _ hY h0 hW
    exact backI_seq Fence.wide (4 - 1) hf2 rfl (by omega) (w.heap.size + 1 + 1) base _ xs (by omega) W0 (by have := HSz.out; omega) bO.cell HO0.out (fun _ _ => True) l J Jx W hY h0 hW
  case assign =>
    rintro l pre x W K hI hV hK
    have HV := hide hV
    have HI := hide hI
    clear hV hI
    gi_wp2
    exact hK _ _ (KeepsFrom.refl _ _) (Kb.rfl' _ _ _) HI.out ⟨HV.out, rfl⟩
  case body =>
    rintro l pre x a' W ⟨hO, hKp, bS1, bG1⟩ ⟨hV, rfl⟩ hlt
    obtain ⟨i, p⟩ := x
    obtain ⟨hV1, hV2⟩ := hV
    have hp : p = xs.getD (xs.length - 1 - pre.length) 0 := congrArg Prod.snd hV2
    obtain ⟨s, hs⟩ : ∃ s, s0.run cm (xs.reverse.take pre.length) = s := ⟨_, rfl⟩
    have hnext : s0.run cm (xs.reverse.take (pre ++ [(i, p)]).length) = s.one cm p := by
      rw [List.length_append, List.length_singleton, rev_take xs hlt, run_snoc, hs, hp]
    have hLp : s.c.L p := by
      rw [← hs]
      refine (run_L cm _ s0 p).2 ⟨HXs.out p (by rw [hp]; exact getD_memN (by omega)), ?_⟩
      rw [hp]; exact rev_notin HNd.out hlt
    have hop : s.c.op = s0.c.op := by rw [← hs]; exact (run_op cm _ s0).1
    rw [hs] at hO
    obtain ⟨k, hA, hR, hSh, hLm, hTm, hcv, hx, hl, hrd⟩ := hO
    have hpn : p < n := by rw [← hR.en]; exact hLp.1
    have HN := hide hnext
    have HRr := hide (hR.one (cm := cm) hLp (fun q hq => by rw [hop]; exact HCj.out p hpn q hq))
    have HF := hide (dr1_first hLp)
    have hC := owns_past (HCw0.out p hpn) hKp (fun g e => (HOff.out _ _ _ (HCw.out p hpn) g e).2)
    have hCb := HOff.out _ _ _ (HCw.out p hpn)
    rw [← hcv] at hC hCb
    obtain ⟨ac, cc, hcs⟩ := owns_val hC
    obtain ⟨av, hav⟩ : ∃ av, s.c.pv p = av := ⟨_, rfl⟩
    obtain ⟨N, hN⟩ : ∃ N, s.c.nx p = N := ⟨_, rfl⟩
    have hc5 : k.ah p = aI av := by rw [hR.eah p hLp, ← hav]; rfl
    have hc6 : k.bh p = (N : Int) := by rw [hR.ebh p hLp, hN]
    have hNn : N ≤ n := by rw [← hN, ← hR.en]; exact s.c.nf_le _
    have hvn : ∀ q, av = some q → q < n ∧ q ≠ p := fun q e => by rw [← hav] at e; have := (pv_some e).1; omega
    have z9 := hA.frz (p * 10 + 9)
    have c9 := hA.gn hpn
    have bSc := bS1.cell
    have bGc := bG1.cell
    have HA := hide hA
    have HSh := hide hSh
    have HLm := hide hLm
    have HTm := hide hTm
    have HKp := hide hKp
    have HbS := hide bS1
    have HbG := hide bG1
    have HC := hide hC
    have HCb := hide hCb
    have HE := hide (show k.cv = k0.cv ∧ k.x = k0.x ∧ k.l = k0.l ∧ k.rd = k0.rd from ⟨hcv, hx, hl, hrd⟩)
    have HPv := hide (show s.c.pv p = av ∧ s.c.nx p = N ∧ k.cv p = .slice ac (cm p).length cc from ⟨hav, hN, hcs⟩)
    have H56 := hide (And.intro hc5 hc6)
    have HVn := hide hvn
    have HGS := hide (show G < w.heap.size ∧ S < w.heap.size from HGSw.out)
    clear hV1 hV2 hp hs hnext hop hA hR hSh hLm hTm hcv hx hl hrd hKp bS1 bG1 hC hCb hcs hav hN hc5 hc6 hvn
    gi_upto_region 5 with (fail)
    clear z9 c9 bSc bGc
    have HA1 := hide (HA.out.setgn hpn true)
    have hSG : S ≠ G := HSh.out.apartL HA.out
    have HNe := hide (show S ≠ G ∧ lm ≠ G ∧ tm ≠ G ∧ lm ≠ S ∧ tm ≠ S from ⟨hSG, HLm.out.row HA.out, HTm.out.row HA.out, HLm.out.row HSh.out, HTm.out.row HSh.out⟩)
    have hk1 := k_set W G (p * 10 + 9) (.bool true)
    have HSh1 := hide (show ShR _ S (s.c.nf 0) lm tm un from RowF.keep HSh.out hk1 hSG)
    have HLm1 := hide (HLm.out.keep hk1 HNe.out.2.1)
    have HTm1 := hide (HTm.out.keep hk1 HNe.out.2.2.1)
    have HK1 := hide (show Keeps W _ (OuS G S lm tm) from hk1.mono (fun b e => .inl e))
    have HbS1 := hide (boxed_keep HbS.out hk1 (by have := HGS.out; omega))
    have HbG1 := hide (boxed_keep HbG.out hk1 (by have := HGS.out; omega))
    clear hk1 hSG
    generalize W.setCell ⟨G, p * 10 + 9, none⟩ (.bool true) = W1 at *
    have c5 : W1.cell? ⟨G, p * 10 + 5, none⟩ = some (.int .i64 (aI av)) := (HA1.out.ah hpn).trans (by show some (Value.int .i64 (k.ah p)) = _; rw [H56.out.1])
    have c6 : W1.cell? ⟨G, p * 10 + 6, none⟩ = some (.int .i64 (N : Int)) := (HA1.out.bh hpn).trans (by show some (Value.int .i64 (k.bh p)) = _; rw [H56.out.2])
    have bSc := HbS1.out.cell
    have bGc := HbG1.out.cell
    have HJn := hide (join_any G S lm tm n cap (s.c.nf 0) un { k with gn := upB k.gn p true } s.tc av N W1.drew hn HA1.out HSh1.out HTm1.out (fun q e => (HVn.out q e).1) hNn)
    gi_wp2_with fail
    refine wpIn_tail l _ 10 mixedT (by kernel_rfl) (by kernel_rfl) (fun ops => ?_)
    simp only [List.take_succ_cons, List.take_zero, List.drop_succ_cons, List.drop_zero]
    iterate 10 (refine still_next rfl (fun K hK => ?_); go_simp; refine hK _ ?_; clear hK K)
    refine wpStill_nil ?_
    go_wp2_with (first
      | (go_at_call 126
         refine HJn.out.mono ?_
         rintro e W2 ⟨rfl, hA2, hS2, hT2, hk2⟩)
      | fail)
    obtain ⟨K2, hK2⟩ : ∃ K2, ({ k with gn := upB k.gn p true } : Lks).jn n av N = K2 := ⟨_, rfl⟩
    rw [hK2] at hA2
    have hcv2 : K2.cv p = .slice ac (cm p).length cc := by rw [← hK2]; exact HPv.out.2.2
    have hbh2 : K2.bh p = (N : Int) := by
      rw [← hK2, ← H56.out.2]
      show (match av with | none => k.bh | some z => upI k.bh z (N : Int)) p = k.bh p
      cases hq : av with
      | none => rfl
      | some z =>
        show upI k.bh z (N : Int) p = k.bh p
        unfold upI
        rw [if_neg (fun e => (HVn.out z hq).2 e.symm)]
    have HK2 := hide (show K2 = ({ k with gn := upB k.gn p true } : Lks).jn n (s.c.pv p) (s.c.nx p) from by rw [HPv.out.1, HPv.out.2.1, hK2])
    have HLm2 := hide (HLm1.out.keep (w := W1.drew) hk2 (fun e => by
      rcases e with e | e | e
      · exact HNe.out.2.1 e
      · exact HNe.out.2.2.2.1 e
      · exact hne e))
    have HKW2 := hide (show Keeps W W2 (OuS G S lm tm) from (keeps_drew HK1.out).trans (hk2.mono (fun b e => e.elim .inl (fun e => e.elim (fun e => .inr (.inl e)) (fun e => .inr (.inr (.inl e)))))))
    have hlts := HGS.out
    have hmlt := HCl2.out
    have hsz0 := HSz.out
    have hszW := HKp.out.size
    have hnotB : ∀ b, w.heap.size ≤ b → ¬ OuS G S lm tm b := fun b hb e => by
      have := HLT.out
      rcases e with e | e | e | e <;> omega
    have HnB := hide hnotB
    have HbS2 := hide (boxed_keep HbS.out HKW2.out (hnotB _ (Nat.le_refl _)))
    have HbG2 := hide (boxed_keep HbG.out HKW2.out (hnotB _ (by omega)))
    have HC2 := hide (owns_past HC.out HKW2.out (fun g e => (HCb.out g e).2))
    have HA2 := hide (show LkA W2 G n (s.cmJ p ((cm p).take 0) K2) from by rw [List.take_zero, cmJ_nil]; exact hA2)
    have HS2 := hide hS2
    have HT2 := hide hT2
    have HLm3 := hide (show SetM W2 lm n (fun q => s.ls q || decide (q ∈ (cm p).take 0)) from HLm2.out.congr (fun q _ => by simp))
    have c7 : W2.cell? ⟨G, p * 10 + 7, none⟩ = some (.slice ac (cm p).length cc) := (hA2.cv hpn).trans (by rw [hcv2])
    have HBh := hide hbh2
    have HCv2 := hide hcv2
    have HLen := hide (HCl.out p hpn)
    clear c5 c6 bSc bGc hA2 hS2 hT2 hk2 hK2 hcv2 hbh2 hnotB HJn HA1 HSh1 HLm1 HTm1 HK1 HbS1 HbG1
    obtain ⟨L, hL⟩ : ∃ L, (cm p).length = L := ⟨_, rfl⟩
    rw [hL] at c7 HC2 HCv2 HLen
    have HLe := hide hL
    clear hL
    refine noOut_n ?_
    gi_wp2_with fail
    clear c7
    gi_loopw [37] (fun iv wr => ∃ j : Nat, j ≤ L ∧ iv = .int .i64 j ∧ Hid (LkA wr G n (s.cmJ p ((cm p).take j) K2)) ∧ Hid (SetM wr lm n (fun q => s.ls q || decide (q ∈ (cm p).take j))) ∧ Hid (Keeps W2 wr (fun b => b = G ∨ b = lm))) (fun iv _ => L - ivN iv)
    case atStart => exact ⟨0, Nat.zero_le _, rfl, HA2, HLm3, hide (Keeps.refl _ _)⟩
    case round =>
      clear HA2 HLm3
      obtain ⟨j, hj, rfl, HA, HLm, HK⟩ := hrel
      have hbS : Boxed wr w.heap.size 90 (.pointer (some ⟨S, 0, none⟩)) := boxed_keep HbS2.out HK.out (by have := HLT.out; omega)
      have hbG : Boxed wr (w.heap.size + 1) 88 (.slice (some ⟨G, 0, none⟩) n cap) := boxed_keep HbG2.out HK.out (by have := HLT.out; omega)
      by_cases hjL : j < L
      · rcases HC2.out.2 with ⟨_, h9⟩ | ⟨g, cap', cur, hv, hb9, hg9, hrest⟩
        · omega
        · have hrow0 := owns_rowF HC2.out (g := g) (by rw [hv]; rfl)
          have hCb := (HCb.out g (by rw [hv]; rfl)).2
          obtain ⟨e1, e2⟩ : ac = some ⟨g, 0, none⟩ ∧ cc = cap' := by
            have h1 := HPv.out.2.2.symm.trans hv
            rw [HLe.out] at h1
            cases h1
            exact ⟨rfl, rfl⟩
          subst e1
          subst e2
          clear hv
          have hrow := hrow0.keep HK.out (fun e => by
            rcases e with e | e
            · exact hCb (.inl e)
            · exact hCb (.inr (.inr (.inr e))))
          clear hrow0 hCb
          obtain ⟨q, hq⟩ : ∃ q, (cm p).getD j 0 = q := ⟨_, rfl⟩
          have hjc : j < (cm p).length := by rw [HLe.out]; exact hjL
          have cq : wr.cell? ⟨g, j, none⟩ = some (.int .i64 (q : Int)) := by
            rw [RowF.cell hrow (by omega), natC_getD _ hjc, hq]
          have hqm : q ∈ cm p := by rw [← hq]; exact getD_memN hjc
          have hqn : q < n := (HCj.out p hpn q hqm).1
          have htk : (cm p).take (j + 1) = (cm p).take j ++ [q] := by rw [take_snocN _ hjc, hq]
          have bGc := hbG.cell
          have c6 : wr.cell? ⟨G, p * 10 + 6, none⟩ = some (.int .i64 (N : Int)) := (HA.out.bh hpn).trans (by show some (Value.int .i64 (K2.bh p)) = _; rw [HBh.out])
          have zq := HA.out.frz (q * 10 + 2)
          have cq2 := HA.out.b hqn
          have HTk := hide htk
          have HQ := hide (show (cm p).getD j 0 = q from hq)
          have hNx := HPv.out.2.1
          have HA3 : Hid (LkA (wr.setCell ⟨G, q * 10 + 2, none⟩ (.int .i64 (N : Int))).drew G n (s.cmJ p ((cm p).take (j + 1)) K2)) := hide (by have h1 := HA.out.cmJ hqn; rw [hNx, ← htk] at h1; exact h1)
          have hk3 := keeps_drew (k_set wr G (q * 10 + 2) (.int .i64 (N : Int)))
          have HLm3 := hide (HLm.out.keep hk3 (fun e => HNe.out.2.1 e))
          have HK3 := hide (HK.out.trans (hk3.mono (fun b e => .inl e)))
          have HbS3 := hide (boxed_keep hbS hk3 (by have := HLT.out; omega))
          have hS3 := RowF.keep HS2.out HK.out (S := fun b => b = G ∨ b = lm) (fun e => e.elim HNe.out.1 (fun e => HNe.out.2.2.2.1 e.symm))
          have HS3 := hide (RowF.keep hS3 hk3 HNe.out.1)
          clear hrow hq htk hNx hk3 hS3 hb9 hg9 hrest hbS hbG
          gi_upto_region 9 with (fail)
          gi_wp2_with fail
          refine wpIn_tail l _ 9 mixedT (by kernel_rfl) (by kernel_rfl) (fun ops => ?_)
          simp only [List.take_succ_cons, List.take_zero, List.drop_succ_cons, List.drop_zero]
          iterate 9 (refine still_next rfl (fun K hK => ?_); go_simp; refine hK _ ?_; clear hK K)
          refine wpStill_nil ?_
          go_wp2_with fail
          refine noOut_n ?_
          generalize (wr.setCell ⟨G, q * 10 + 2, none⟩ (.int .i64 (N : Int))).drew = w3 at *
          clear cq2 zq c6 cq bGc
          have bSc := HbS3.out.cell
          have s1 := ShR.c1 HS3.out
          gi_wp2_with (first
            | (gi_at_call 52
               refine (CallsIn.inRound l (callsIn_wide.2 (padd_any HLm3.out hn hqn))).mono ?_
               rintro e w4 ⟨rfl, hl4, hk4⟩
               have HLm4 := hide hl4
               have HA4 := hide (show LkA w4 G n (s.cmJ p ((cm p).take (j + 1)) K2) from RowF.keep HA3.out hk4 (fun e => HNe.out.2.1 e.symm))
               have HK4 := hide (HK3.out.trans (hk4.mono (fun b e => .inr e)))
               clear hl4 hk4)
            | gi_in)
          have HW := hide (show wrap64 ((j : Int) + 1) = (j : Int) + 1 from by have := HLen.out; unfold wrap64; omega)
          go_roundw
          case rel => exact ⟨j + 1, by omega, by simp [HW.out], HA4, hide (HLm4.out.congr (fun z _ => by rw [HTk.out]; simp [Bool.or_assoc])), HK4⟩
          case measure => rw [HW.out]; simp [ivN]; omega
      · obtain rfl : j = L := by omega
        have hfin : Keeps W wr (OuS G S lm tm) := HKW2.out.trans (HK.out.mono (fun b e => e.elim .inl (fun e => .inr (.inr (.inr e)))))
        have HFin := hide hfin
        clear hfin
        gi_wp2
        refine ⟨keeps_from HFin.out (fun b hb => HnB.out b (by have := HSz.out; omega)), Kb.keep HFin.out (by have := HKp.out.size; have := HSz.out; omega) (HnB.out _ (by omega)) (fun b e => ⟨by have h1 := (HOb.out b e).1; have h2 := HKp.out.size; have := HSz.out; omega, (HOb.out b e).2⟩), ?_, HKp.out.trans HFin.out, hbS, hbG⟩
        rw [HN.out]
        have htk : (cm p).take j = cm p := by rw [← HLe.out, List.take_length]
        refine ⟨s.cmJ p (cm p) K2, by have h1 := HA.out; rw [htk] at h1; exact h1, by rw [HK2.out]; exact HRr.out, ?_, ?_, ?_, ?_⟩
        · have h1 : (s.one cm p).c.nf 0 = if av = none then N else s.c.nf 0 := by
            rw [one_nf, HF.out, HPv.out.1, HPv.out.2.1]
          rw [h1]
          exact RowF.keep HS2.out HK.out (fun e => e.elim HNe.out.1 (fun e => HNe.out.2.2.2.1 e.symm))
        · refine HLm.out.congr (fun z _ => ?_)
          show (s.ls z || decide (z ∈ cm p)) = _
          rw [htk]
        · refine (HT2.out.keep HK.out (fun e => e.elim HNe.out.2.2.1 (fun e => hne e.symm))).congr (fun z _ => ?_)
          show (s.tc z || s.c.pv p == some z) = _
          rw [HPv.out.1]
          by_cases e : av = some z
          · rw [e]; simp
          · rw [decide_eq_false e, beq_eq_false_iff_ne.2 e]
        · rw [HK2.out]
          exact HE.out
  case done =>
    rintro D ys W hD rfl ⟨hO, hKp, _, _⟩ hK
    gi_wp2
    refine ⟨by simp, .inl ⟨_, _, rfl, run_takeDeferred hK, ?_⟩⟩
    refine ⟨_, results_none rfl _ _ _, rfl, ?_, ?_⟩
    · rw [upTo_length, List.take_of_length_le (by simp)] at hO
      exact (OutSt.own (s := fun (x : Ou) => x) HCl2.out.1 HCl2.out.2).putObj _ hO hD hK rfl
    · exact HK0.out.trans ((keeps_own (B := W0.heap.size) (Nat.le_refl _)).putObj (s := ()) _ hKp hD hK rfl)
  case stop =>
    rintro D c pre W _ _ h _
    exact h.elim
end Go.Proofs.YtgnbhhgpaldheaaGreat
namespace Go.Proofs.YtgnbhhgpaldheaaGreat
open Go Go.RowKit
set_option linter.unusedVariables false
theorem keeps_app {w wr w' : World} {S : Nat → Prop} {v : Value} (hk : Keeps w wr S) (h : Keeps wr w' (fun b => v.ownBlock = some b)) (hg : ∀ b, v.ownBlock = some b → w.heap.size ≤ b) : Keeps w w' S :=
  ⟨h.os.trans hk.os, h.tape.trans hk.tape, h.output.trans hk.output, Nat.le_trans hk.size h.size, fun b hb hn => (h.block b (Nat.lt_of_lt_of_le hb hk.size) (fun e => by have := hg b e; omega)).trans (hk.block b hb hn)⟩
theorem LkA.app {wr w' : World} {G n base m : Nat} {k : Lks} {v : Value} {xs : List Value} (h : LkA wr G n k) (ho : wr.ownsRow base 3 1 v m xs) (hk : Keeps wr w' (fun b => v.ownBlock = some b)) : LkA w' G n k :=
  RowF.keep h hk (fun e => (owns_rowF ho e).apart h (by decide) rfl)
theorem pgoesAway_any (o : Int) (w : World) : Calls Tryz.prog 86 #[.int .i64 o] w fun e w' => e = .returned (.bool (awy o)) ∧ w' = w := by
  have h := awy_cases o
  unfold awy
  go_enter Tryz.func86, Tryz.ntmps86
  by_cases h1 : o = 30
  · subst h1
    go_wp2
    all_goals go_ret
    all_goals exact ⟨rfl, rfl⟩
  · by_cases h2 : o = 29
    · subst h2
      go_wp2
      all_goals go_ret
      all_goals exact ⟨rfl, rfl⟩
    · have e1 : (o == 30) = false := by simp [h1]
      have e2 : (o == 29) = false := by simp [h2]
      go_wp2
      all_goals go_ret
      all_goals exact ⟨by simp [e1, e2], rfl⟩
theorem row_of {w : World} {base T s n cap : Nat} {xs : List Value} {a : Option Addr} (h : w.ownsRow base T s (.slice a n cap) n xs) (hn : 0 < n) : ∃ g, a = some ⟨g, 0, none⟩ ∧ base ≤ g ∧ RowF w T g (n * s) (fun j => xs.getD j (.bool false)) ∧ n ≤ cap := by
  rcases h.2 with ⟨_, h9⟩ | ⟨g, cap', cur, hv, hb, _, hc, _⟩
  · omega
  · have e : a = some ⟨g, 0, none⟩ := by cases hv; rfl
    have e2 : cap = cap' := by cases hv; rfl
    subst e
    exact ⟨g, rfl, hb, owns_rowF h rfl, by omega⟩
set_option maxHeartbeats 3200000 in
set_option maxRecDepth 100000 in
theorem reachFrom_any (G n cap : Nat) (k : Lks) (c : Cf) (i2 : Nat → Int) (w : World) (hn : n ≤ 1048576) (h : LkA w G n k) (hr : LkR k n c i2) (hok : c.Ok) (hrd : k.rd = fun _ => false) :
    Calls Tryz.prog 92 #[.slice (some ⟨G, 0, none⟩) n cap, .int .i64 (c.nf 0 : Nat)] w fun e w' => e = .returned (.tuple #[]) ∧ ∃ s : Nat → Bool, LkA w' G n { k with rd := s } ∧ (∀ p, s p = true ↔ c.R p) ∧ Keeps w w' (fun b => b = G) := by
  have HR := hide hr
  have HOk := hide hok
  have hGl := h.lt
  have hb1 := b_1 w (.cells #[.int .i64 (c.nf 0 : Nat)] 3)
  have HA0 : Hid (LkA (w.alloc (.cells #[.int .i64 (c.nf 0 : Nat)] 3)) G n { k with rd := fun _ => false }) := hide (by rw [← hrd]; exact RowF.low h hb1 hGl)
  have HT0 : Hid ((w.alloc (.cells #[.int .i64 (c.nf 0 : Nat)] 3)).ownsRow w.heap.size 3 1 (.slice (some ⟨w.heap.size, 0, none⟩) 1 1) 1 (natC [c.nf 0])) := hide ⟨by simp [natC], .inr ⟨w.heap.size, 1, #[.int .i64 (c.nf 0 : Nat)], rfl, Nat.le_refl _, heap_alloc_new w _, Nat.le_refl _, by unfold maxLen; omega, by simp, by simp [natC]⟩⟩
  have HK0 := hide (Keeps.of hb1 (Nat.le_refl _) (fun b => b = G))
  have HRc0 := hide (RcS.start c)
  have HGl := hide hGl
  clear h hr hok hrd hb1 hGl
  generalize c.nf 0 = f0 at *
  go_enter Tryz.func92, Tryz.ntmps92
  go_wp2_with fail
  generalize w.alloc (.cells #[.int .i64 (f0 : Nat)] 3) = w2 at *
  go_loopg [4] (1 + 2 * n) (fun m tv wr => ∃ (s : Nat → Bool) (td : List Nat), Hid (td.length + 2 * unS s n ≤ m) ∧ Hid (m ≤ 1 + 2 * n) ∧ Hid (wr.ownsRow w.heap.size 3 1 tv td.length (natC td)) ∧ Hid (LkA wr G n { k with rd := s }) ∧ Hid (RcS c s td) ∧ Hid (Keeps w wr (fun b => b = G)))
  case atStart => exact ⟨fun _ => false, [f0], hide (by have := unS_le (fun _ => false) n; simp; omega), hide (by omega), HT0, HA0, HRc0, HK0⟩
  case round =>
    clear HT0 HA0 HRc0 HK0
    obtain ⟨s, td, HM, HM2, HT, HA, HRc, HK⟩ := hrel
    obtain ⟨ta, tc, rfl⟩ := owns_val HT.out
    rcases List.eq_nil_or_concat td with rfl | ⟨td0, p, rfl⟩
    · go_wp2
      go_end0
      exact ⟨rfl, s, HA.out, HRc.out.done, HK.out⟩
    · have hT := HT.out
      have hlen : (td0.concat p).length = td0.length + 1 := by simp
      rw [hlen] at hT
      rw [hlen]
      obtain ⟨T, rfl, hTb, hrow, htc⟩ := row_of hT (by omega)
      have hpre := owns_pre hT (m := td0.length) (by omega)
      have HPre : Hid (wr.ownsRow w.heap.size 3 1 (.slice (some ⟨T, 0, none⟩) td0.length tc) td0.length (natC td0)) := hide (by
        have : (natC (td0.concat p)).take (td0.length * 1) = natC td0 := by
          unfold natC
          rw [List.concat_eq_append, List.map_append, Nat.mul_one, List.take_append_of_le_length (by simp), List.take_of_length_le (by simp)]
        rw [this] at hpre
        exact hpre)
      have hk : wr.cell? ⟨T, td0.length, none⟩ = some (.int .i64 (p : Int)) := by
        rw [hrow.cell (j := td0.length) (by omega)]
        simp [natC, List.getD_eq_getElem?_getD]
      have HRc1 := hide (show RcS c s (td0 ++ [p]) from by have := HRc.out; rw [List.concat_eq_append] at this; exact this)
      have HM1 := hide (show td0.length + 1 + 2 * unS s n ≤ gk from by have := HM.out; rw [hlen] at this; exact this)
      have hLb : td0.length ≤ 2200000 := by have h1 := HM1.out; have h2 := HM2.out; omega
      have HLen := hide (show td0.length = td0.length from rfl)
      obtain ⟨L0, hL0⟩ : ∃ L0, td0.length = L0 := ⟨_, rfl⟩
      rw [hL0] at HPre hk HM1 hLb htc ⊢
      have HL0 := hide hL0
      clear hT hlen hrow hpre HT HRc HM HLen hL0 hTb
      go_upto_region 4 with (fail)
      clear hk
      go_wp2_with fail
      generalize wr = wo at *
      go_loopg [4, 6] (unS s n) (fun m tv pv wr => ∃ (s' : Nat → Bool) (td' : List Nat) (q : Nat), pv = .int .i64 (q : Int) ∧ Hid (unS s' n = m) ∧ Hid (td'.length + 1 + 2 * unS s' n ≤ gk) ∧ Hid (wr.ownsRow w.heap.size 3 1 tv td'.length (natC td')) ∧ Hid (LkA wr G n { k with rd := s' }) ∧ Hid (RcS c s' (td' ++ [q])) ∧ Hid (Keeps w wr (fun b => b = G)))
      case atStart => exact ⟨s, td0, p, rfl, hide rfl, hide (by rw [HL0.out]; exact HM1.out), by rw [HL0.out]; exact HPre, HA, HRc1, HK⟩
      case round =>
        clear HPre HA HRc1 HK HM1
        obtain ⟨s', td', q, rfl, HMi, HMo, HT, HA, HRc, HK⟩ := hrel
        obtain ⟨ta', tc', rfl⟩ := owns_val HT.out
        have hRq := HRc.out.t q (by simp)
        have hqL := HOk.out.RL hRq
        have hqn : q < n := by rw [← HR.out.en]; exact hqL.1
        have r8 : wr.cell? ⟨G, q * 10 + 8, none⟩ = some (.bool (s' q)) := HA.out.rd hqn
        have HqL := hide hqL
        obtain ⟨L, hL⟩ : ∃ L, td'.length = L := ⟨_, rfl⟩
        have hLe : L ≤ 2200000 := by have h1 := HMo.out; have h2 := HM2.out; omega
        rw [hL] at HT
        rw [hL] at HMo
        rw [hL]
        have HL := hide hL
        clear hRq hqL hL
        cases hs : s' q with
        | true =>
          rw [hs] at r8
          have HSk := hide hs
          clear hs
          go_wp2_with fail
          go_roundg (L + 2 * unS s' n)
          case rel => exact ⟨s', td', hide (by rw [HL.out]; exact Nat.le_refl _), hide (by have h1 := HMo.out; have h2 := HM2.out; omega), by rw [HL.out]; exact HT, HA, hide (HRc.out.old HSk.out), HK⟩
          case measure => have h1 := HMo.out; omega
        | false =>
          rw [hs] at r8
          have HSk := hide hs
          clear hs
          have z8 := HA.out.frz (q * 10 + 8)
          have HA1 := hide (show LkA (wr.setCell ⟨G, q * 10 + 8, none⟩ (.bool true)) G n { k with rd := fun z => if z = q then true else s' z } from HA.out.setrd hqn true)
          have hk1 := k_set wr G (q * 10 + 8) (.bool true)
          have HT1 := hide (owns_past HT.out hk1 (fun g e hg => (owns_rowF HT.out e).apart HA.out (by decide) hg))
          have HK1 := hide (HK.out.trans hk1)
          have HMs := hide (unS_set hqn HSk.out)
          clear hk1
          go_upto_region 8 with (fail)
          clear r8 z8
          generalize wr.setCell ⟨G, q * 10 + 8, none⟩ (.bool true) = w1 at *
          have r0 : w1.cell? ⟨G, q * 10, none⟩ = some (.int .i64 (c.op q)) := (HA1.out.o hqn).trans (by show some (Value.int .i64 (k.o q)) = _; rw [HR.out.eo])
          have r6 := fun (ha : awy (c.op q) = false) => (HA1.out.bh hqn).trans (show some (Value.int .i64 (k.bh q)) = some (.int .i64 (c.nx q : Int)) from by rw [HR.out.ebh q HqL.out])
          have r2 := fun (hj : jmp (c.op q) = true) => (HA1.out.b hqn).trans (show some (Value.int .i64 (k.b q)) = some (.int .i64 (c.b q : Int)) from by rw [HR.out.bj hqn hj])
          have HR6 := hide r6
          have HR2 := hide r2
          clear r6 r2
          cases hJ : jmp (c.op q) with
          | false =>
            have HJ := hide hJ
            cases hW : awy (c.op q) with
            | true =>
              have HW := hide hW
              go_wp2_with (first
                | (go_at_call 88; refine (canJump_any _ _).mono ?_; rintro e w' ⟨rfl, hw⟩; obtain rfl := hw.symm; rw [hJ])
                | (go_at_call 86; refine (pgoesAway_any _ _).mono ?_; rintro e w' ⟨rfl, hw⟩; obtain rfl := hw.symm; rw [hW])
                | fail)
              go_roundg (L + 2 * unS (fun z => if z = q then true else s' z) n)
              case rel => exact ⟨_, td', hide (by rw [HL.out]; exact Nat.le_refl _), hide (by have h1 := HMo.out; have h2 := HM2.out; have h3 := HMs.out; omega), by rw [HL.out]; exact HT1, HA1, hide (HRc.out.new HOk.out (fun z => by rw [HJ.out, HW.out]; simp)), HK1⟩
              case measure => have h1 := HMo.out; have h3 := HMs.out; omega
            | false =>
              have HW := hide hW
              have r6 := HR6.out hW
              go_wp2_with (first
                | (go_at_call 88; refine (canJump_any _ _).mono ?_; rintro e w' ⟨rfl, hw⟩; obtain rfl := hw.symm; rw [hJ])
                | (go_at_call 86; refine (pgoesAway_any _ _).mono ?_; rintro e w' ⟨rfl, hw⟩; obtain rfl := hw.symm; rw [hW])
                | fail)
              go_roundg (unS (fun z => if z = q then true else s' z) n)
              case rel => exact ⟨_, td', c.nx q, rfl, hide rfl, hide (by have h1 := HMo.out; have h3 := HMs.out; have := HL.out; omega), by rw [HL.out]; exact HT1, HA1, hide (HRc.out.new HOk.out (fun z => by rw [HJ.out, HW.out]; simp)), HK1⟩
              case measure => have h1 := HMi.out; have h3 := HMs.out; omega
          | true =>
            have HJ := hide hJ
            have r2 := HR2.out hJ
            have hb1 : w.heap.size ≤ w1.heap.size := HK1.out.size
            cases hW : awy (c.op q) with
            | true =>
              have HW := hide hW
              go_upto_region 10 with (first
                | (go_at_call 88; refine (canJump_any _ _).mono ?_; rintro e w' ⟨rfl, hw⟩; obtain rfl := hw.symm; rw [hJ])
                | (at_builtin
                   refine app_k rfl (.tmp 41) (.tmp 47) 43 3 1 8 (.int .i64 0) rfl Tryz.underlying43 Tryz.info3 rfl (by decide) w.heap.size (.slice ta' L tc') L (natC td') [.int .i64 (c.b q : Int)] HT1.out rfl rfl rfl (by simp [Value.oneCell']) (by omega) (by decide) hb1 ?_
                   intro v5 w5 hv5 hk5 hw5)
                | fail)
              have HA5 := hide (HA1.out.app HT1.out hk5)
              have HK5 := hide (keeps_app HK1.out hk5 (fun b e => (owns_blk HT1.out e).1))
              have HT5 : Hid (w5.ownsRow w.heap.size 3 1 v5 (td' ++ [c.b q]).length (natC (td' ++ [c.b q]))) := hide (by have := hv5; simp only [natC, List.map_append, List.map_cons, List.map_nil, List.length_append, List.length_singleton, HL.out] at this ⊢; exact this)
              have r05 : w5.cell? ⟨G, q * 10, none⟩ = some (.int .i64 (c.op q)) := (HA5.out.o hqn).trans (by show some (Value.int .i64 (k.o q)) = _; rw [HR.out.eo])
              clear hv5 hk5 hw5 r0 r2
              go_wp2_with (first
                | (go_at_call 86; refine (pgoesAway_any _ _).mono ?_; rintro e w' ⟨rfl, hw⟩; obtain rfl := hw.symm; rw [hW])
                | fail)
              go_roundg (L + 1 + 2 * unS (fun z => if z = q then true else s' z) n)
              case rel => exact ⟨_, td' ++ [c.b q], hide (by simp [HL.out]), hide (by have h1 := HMo.out; have h2 := HM2.out; have h3 := HMs.out; omega), HT5, HA5, hide (HRc.out.new HOk.out (fun z => by rw [HJ.out, HW.out]; simp)), HK5⟩
              case measure => have h1 := HMo.out; have h3 := HMs.out; omega
            | false =>
              have HW := hide hW
              have r6 := HR6.out hW
              go_upto_region 10 with (first
                | (go_at_call 88; refine (canJump_any _ _).mono ?_; rintro e w' ⟨rfl, hw⟩; obtain rfl := hw.symm; rw [hJ])
                | (at_builtin
                   refine app_k rfl (.tmp 41) (.tmp 47) 43 3 1 8 (.int .i64 0) rfl Tryz.underlying43 Tryz.info3 rfl (by decide) w.heap.size (.slice ta' L tc') L (natC td') [.int .i64 (c.b q : Int)] HT1.out rfl rfl rfl (by simp [Value.oneCell']) (by omega) (by decide) hb1 ?_
                   intro v5 w5 hv5 hk5 hw5)
                | fail)
              have HA5 := hide (HA1.out.app HT1.out hk5)
              have HK5 := hide (keeps_app HK1.out hk5 (fun b e => (owns_blk HT1.out e).1))
              have HT5 : Hid (w5.ownsRow w.heap.size 3 1 v5 (td' ++ [c.b q]).length (natC (td' ++ [c.b q]))) := hide (by have := hv5; simp only [natC, List.map_append, List.map_cons, List.map_nil, List.length_append, List.length_singleton, HL.out] at this ⊢; exact this)
              have r05 : w5.cell? ⟨G, q * 10, none⟩ = some (.int .i64 (c.op q)) := (HA5.out.o hqn).trans (by show some (Value.int .i64 (k.o q)) = _; rw [HR.out.eo])
              have r65 : w5.cell? ⟨G, q * 10 + 6, none⟩ = some (.int .i64 (c.nx q : Int)) := (HA5.out.bh hqn).trans (by show some (Value.int .i64 (k.bh q)) = _; rw [HR.out.ebh q HqL.out])
              clear hv5 hk5 hw5 r0 r2 r6
              go_wp2_with (first
                | (go_at_call 86; refine (pgoesAway_any _ _).mono ?_; rintro e w' ⟨rfl, hw⟩; obtain rfl := hw.symm; rw [hW])
                | fail)
              go_roundg (unS (fun z => if z = q then true else s' z) n)
              case rel => exact ⟨_, td' ++ [c.b q], c.nx q, rfl, hide rfl, hide (by have h1 := HMo.out; have h3 := HMs.out; rw [List.length_append, List.length_singleton, HL.out]; omega), HT5, HA5, hide (HRc.out.new HOk.out (fun z => by rw [HJ.out, HW.out]; simp)), HK5⟩
              case measure => have h1 := HMi.out; have h3 := HMs.out; omega
structure ShA (base n G S lm tm : Nat) (i2 i3 l0 : Nat → Int) (c : Cf) (ls tc : Nat → Bool) (cm : Nat → List Nat) (un : Bool) (k : Lks) (w : World) : Prop where
  lk : LkA w G n k
  kr : LkR k n c i2
  sh : ShR w S (c.nf 0) lm tm un
  ml : SetM w lm n ls
  mt : SetM w tm n tc
  kx : k.x = i3
  kl : k.l = l0
  kd : k.rd = fun _ => false
  co : ∀ t, t < n → w.ownsRow base 3 1 (k.cv t) (cm t).length (natC (cm t))
  ap : ∀ t t' g, t < n → t' < n → t ≠ t' → (k.cv t).ownBlock = some g → (k.cv t').ownBlock ≠ some g
  ne : lm ≠ tm
  ge : base ≤ G ∧ base ≤ S ∧ base ≤ lm ∧ base ≤ tm
  cj : ∀ t, t < n → ∀ p ∈ cm t, p < n ∧ jmp (c.op p) = true
theorem ShA.off {base n G S lm tm : Nat} {i2 i3 l0 : Nat → Int} {c : Cf} {ls tc : Nat → Bool} {cm : Nat → List Nat} {un : Bool} {k : Lks} {w : World} (h : ShA base n G S lm tm i2 i3 l0 c ls tc cm un k w) {base' m : Nat} {v : Value} {ys : List Value} (ho : w.ownsRow base' 3 1 v m ys) {b : Nat} (e : v.ownBlock = some b) : ¬ OuS G S lm tm b := by
  have hr := owns_rowF ho e
  rintro (q | q | q | q)
  · exact hr.apart h.lk (by decide) q
  · exact hr.apart h.sh (by decide) q
  · exact h.mt.row hr q.symm
  · exact h.ml.row hr q.symm
theorem ShA.geS {base n G S lm tm : Nat} {i2 i3 l0 : Nat → Int} {c : Cf} {ls tc : Nat → Bool} {cm : Nat → List Nat} {un : Bool} {k : Lks} {w : World} (h : ShA base n G S lm tm i2 i3 l0 c ls tc cm un k w) {b : Nat} (hb : OuS G S lm tm b) : base ≤ b := by
  obtain ⟨h1, h2, h3, h4⟩ := h.ge
  rcases hb with rfl | rfl | rfl | rfl <;> assumption
theorem ShA.ltS {base n G S lm tm : Nat} {i2 i3 l0 : Nat → Int} {c : Cf} {ls tc : Nat → Bool} {cm : Nat → List Nat} {un : Bool} {k : Lks} {w : World} (h : ShA base n G S lm tm i2 i3 l0 c ls tc cm un k w) {b : Nat} (hb : OuS G S lm tm b) : b < w.heap.size := by
  rcases hb with rfl | rfl | rfl | rfl
  · exact h.lk.lt
  · exact RowF.lt h.sh
  · exact h.mt.lt
  · exact h.ml.lt
theorem ShA.keep {base n G S lm tm : Nat} {i2 i3 l0 : Nat → Int} {c : Cf} {ls tc : Nat → Bool} {cm : Nat → List Nat} {un : Bool} {k : Lks} {w w' : World} {T : Nat → Prop} (h : ShA base n G S lm tm i2 i3 l0 c ls tc cm un k w) (kp : Keeps w w' T) (hT : ∀ b, OuS G S lm tm b → ¬ T b) (hC : ∀ t g, t < n → (k.cv t).ownBlock = some g → ¬ T g) : ShA base n G S lm tm i2 i3 l0 c ls tc cm un k w' :=
  ⟨RowF.keep h.lk kp (hT _ (.inl rfl)), h.kr, RowF.keep h.sh kp (hT _ (.inr (.inl rfl))), h.ml.keep kp (hT _ (.inr (.inr (.inr rfl)))), h.mt.keep kp (hT _ (.inr (.inr (.inl rfl)))), h.kx, h.kl, h.kd, fun t ht => owns_past (h.co t ht) kp (fun g e => hC t g ht e), h.ap, h.ne, h.ge, h.cj⟩
theorem ShA.out {base n G S lm tm : Nat} {i2 i3 l0 : Nat → Int} {c : Cf} {ls tc : Nat → Bool} {cm : Nat → List Nat} {un : Bool} {k : Lks} {w : World} (h : ShA base n G S lm tm i2 i3 l0 c ls tc cm un k w) : OutSt G S lm tm n i2 un k ⟨c, ls, tc⟩ w := ⟨k, h.lk, h.kr, h.sh, h.ml, h.mt, rfl, rfl, rfl, rfl⟩
theorem ShA.of_out {base n G S lm tm : Nat} {i2 i3 l0 : Nat → Int} {c : Cf} {ls tc : Nat → Bool} {cm : Nat → List Nat} {un : Bool} {k : Lks} {w w' : World} {s : Ou} (h : ShA base n G S lm tm i2 i3 l0 c ls tc cm un k w) (o : OutSt G S lm tm n i2 un k s w') (kp : Keeps w w' (OuS G S lm tm)) (ho : s.c.op = c.op) : ∃ k', ShA base n G S lm tm i2 i3 l0 s.c s.ls s.tc cm un k' w' := by
  obtain ⟨k', h1, h2, h3, h4, h5, e1, e2, e3, e4⟩ := o
  refine ⟨k', h1, h2, h3, h4, h5, e2.trans h.kx, e3.trans h.kl, e4.trans h.kd, fun t ht => ?_, fun t t' g a b d => ?_, h.ne, h.ge, fun t ht p hp => ?_⟩
  · rw [e1]; exact owns_past (h.co t ht) kp (fun g e => h.off (h.co t ht) e)
  · rw [e1]; exact h.ap t t' g a b d
  · rw [ho]; exact h.cj t ht p hp
theorem leaveOut_any {base n G S lm tm cap : Nat} {i2 i3 l0 : Nat → Int} {c : Cf} {ls tc : Nat → Bool} {cm : Nat → List Nat} {un : Bool} {k : Lks} {w : World} (hn : n ≤ 1048576) (h : ShA base n G S lm tm i2 i3 l0 c ls tc cm un k w) (hcl : ∀ t, t < n → (cm t).length ≤ 100000000000) (xs : List Nat) (vo : Value) {base' : Nat}
    (hxs : ∀ p ∈ xs, c.L p) (hnd : xs.Nodup) (ho : w.ownsRow base' 3 1 vo xs.length (natC xs)) (hlen : xs.length ≤ n) :
    Calls Tryz.prog 93 #[.pointer (some ⟨S, 0, none⟩), .slice (some ⟨G, 0, none⟩) n cap, vo] w fun e w' => e = .returned (.tuple #[]) ∧
      (∃ k', ShA base n G S lm tm i2 i3 l0 (Ou.run cm ⟨c, ls, tc⟩ xs.reverse).c (Ou.run cm ⟨c, ls, tc⟩ xs.reverse).ls (Ou.run cm ⟨c, ls, tc⟩ xs.reverse).tc cm un k' w') ∧ Keeps w w' (OuS G S lm tm) := by
  have hz : ∀ {v : Value} {m : Nat} {ys : List Value} {b : Nat}, w.ownsRow b 3 1 v m ys → w.ownsRow 0 3 1 v m ys := fun h => owns_less h (Nat.zero_le _)
  refine (callsIn_wide.1 (leaveOut_in G S lm tm n cap 0 i2 un k ⟨c, ls, tc⟩ cm xs vo w hn h.ne h.out (fun t ht => hz (h.co t ht)) h.cj hcl hxs hnd (hz ho) hlen)).mono ?_
  rintro e w' ⟨rfl, h1, h2⟩
  exact ⟨rfl, h.of_out h1 h2 (run_op cm _ _).1, h2⟩
theorem run_ls (cm : Nat → List Nat) : ∀ (l : List Nat) (s : Ou) (q : Nat), (s.run cm l).ls q = true → s.ls q = true ∨ ∃ t ∈ l, q ∈ cm t
  | [], s, q, h => .inl h
  | p :: l, s, q, h => by
    rcases run_ls cm l (s.one cm p) q h with k | ⟨t, h1, h2⟩
    · have k' : (s.ls q || decide (q ∈ cm p)) = true := k
      rw [Bool.or_eq_true, decide_eq_true_eq] at k'
      rcases k' with e | e
      · exact .inl e
      · exact .inr ⟨p, List.mem_cons_self, e⟩
    · exact .inr ⟨t, List.mem_cons_of_mem _ h1, h2⟩
theorem ls_none {s : Nat → Bool} {a : Nat} : ∀ {b : Nat}, a ≤ b → (∀ q, a ≤ q → q < b → s q = false) → ls b s = ls a s
  | 0, h, _ => by rw [show a = 0 by omega]
  | b + 1, h, hs => by
    by_cases e : a = b + 1
    · rw [e]
    · have := ls_none (s := s) (a := a) (b := b) (by omega) (fun q h1 h2 => hs q h1 (by omega))
      rw [← this]
      unfold ls
      rw [List.range_succ, List.filter_append]
      simp [hs b (by omega) (by omega)]
theorem ls_on (s : Nat → Bool) (p : Nat) : ls (p + 1) s = ls p s ++ if s p then [p] else [] := by
  unfold ls
  rw [List.range_succ, List.filter_append]
  cases h : s p <;> simp [h]
theorem ls_nx {c : Cf} {p : Nat} (hp : c.L p) (D : Nat → Bool) : ls (c.nx p) (fun q => c.lf q && D q) = ls p (fun q => c.lf q && D q) ++ if D p then [p] else [] := by
  have hle : p + 1 ≤ c.nx p := Cf.nf_ge (c := c) (p := p + 1) hp.1
  rw [ls_none hle (fun q h1 h2 => ?_), ls_on]
  · simp [hp.2]
  · have := (c.nf_out (p + 1)).2 q h1 h2
    have hq : q < c.n := by have := c.nf_le (p + 1); show q < c.n; unfold Cf.nx at h2; omega
    cases e : c.lf q with
    | false => rfl
    | true => exact (this ⟨hq, e⟩).elim
theorem ls_nf0 (c : Cf) (D : Nat → Bool) : ls (c.nf 0) (fun q => c.lf q && D q) = [] := by
  have h := ls_none (s := fun q => c.lf q && D q) (a := 0) (b := c.nf 0) (Nat.zero_le _) (fun q _ h2 => by
    have := (c.nf_out 0).2 q (Nat.zero_le _) h2
    have hq : q < c.n := by have := c.nf_le 0; omega
    cases e : c.lf q with
    | false => rfl
    | true => exact (this ⟨hq, e⟩).elim)
  rw [h]; rfl
theorem ShA.reG {base n G S lm tm : Nat} {i2 i3 l0 : Nat → Int} {c : Cf} {ls tc : Nat → Bool} {cm : Nat → List Nat} {un : Bool} {k : Lks} {w w' : World} (h : ShA base n G S lm tm i2 i3 l0 c ls tc cm un k w) (kp : Keeps w w' (fun b => b = G)) (hA : LkA w' G n k) : ShA base n G S lm tm i2 i3 l0 c ls tc cm un k w' :=
  ⟨hA, h.kr, RowF.keep h.sh kp (h.sh.apartL h.lk), h.ml.keep kp (h.ml.row h.lk), h.mt.keep kp (h.mt.row h.lk), h.kx, h.kl, h.kd, fun t ht => owns_past (h.co t ht) kp (fun g e q => h.off (h.co t ht) e (.inl q)), h.ap, h.ne, h.ge, h.cj⟩
theorem ShA.setun {base n G S lm tm : Nat} {i2 i3 l0 : Nat → Int} {c : Cf} {ls tc : Nat → Bool} {cm : Nat → List Nat} {un : Bool} {k : Lks} {w : World} (h : ShA base n G S lm tm i2 i3 l0 c ls tc cm un k w) (b : Bool) : ShA base n G S lm tm i2 i3 l0 c ls tc cm b k (w.setCell ⟨S, 3, none⟩ (.bool b)) :=
  ⟨RowF.keep h.lk (k_set w S 3 _) (fun e => h.sh.apartL h.lk e.symm), h.kr, h.sh.set3 b, h.ml.keep (k_set w S 3 _) (h.ml.row h.sh), h.mt.keep (k_set w S 3 _) (h.mt.row h.sh), h.kx, h.kl, h.kd, fun t ht => owns_past (h.co t ht) (k_set w S 3 _) (fun g e q => h.off (h.co t ht) e (.inr (.inl q))), h.ap, h.ne, h.ge, h.cj⟩
def UnrR (base n G S lm tm : Nat) (i2 i3 l0 : Nat → Int) (c : Cf) (ls : Nat → Bool) (cm : Nat → List Nat) (w : World) (e : Ending) (w' : World) : Prop :=
  ∃ (b : Bool) (s : Ou) (k' : Lks), e = .returned (.bool b) ∧ ShA base n G S lm tm i2 i3 l0 s.c s.ls s.tc cm false k' w' ∧ Pm s.c s.tc cm false ∧ (∀ p, s.c.L p → s.ls p = false) ∧ Eb (c.cut c.un) s.c ∧ (b = true ↔ ∃ p, c.L p ∧ c.un p = true) ∧ (∀ p, s.ls p = true → ls p = true ∨ jmp (s.c.op p) = true) ∧ Below base w w' ∧ Keeps w w' (OuS G S lm tm)
set_option maxHeartbeats 3200000 in
set_option maxRecDepth 100000 in
theorem unreached_any {base n G S lm tm cap : Nat} {i2 i3 l0 : Nat → Int} {c : Cf} {ls tc : Nat → Bool} {cm : Nat → List Nat} {un : Bool} {k : Lks} {w : World} (hn : n ≤ 1048576) (h : ShA base n G S lm tm i2 i3 l0 c ls tc cm un k w) (hpm : Pm c tc cm un) (hls : ∀ p, c.L p → ls p = false) (hcl : ∀ t, t < n → (cm t).length ≤ 100000000000) (hbase : base ≤ w.heap.size) :
    Calls Tryz.prog 44 #[.pointer (some ⟨S, 0, none⟩), .slice (some ⟨G, 0, none⟩) n cap] w fun e w' => UnrR base n G S lm tm i2 i3 l0 c ls cm w e w' := by
  have HH := hide h
  have HP := hide hpm
  have HLs := hide hls
  have HCl := hide hcl
  have c3 := h.sh.c3
  have z3 := RowF.frz h.sh 3
  have HEn := hide h.kr.en
  clear h hpm hls hcl
  cases un with
  | false =>
    go_enter Tryz.func44, Tryz.ntmps44
    go_wp2_with fail
    go_ret
    have hall : ∀ p, c.L p → c.un p = false := fun p hp => by
      have := HP.out.un rfl p hp
      cases e : c.un p with
      | false => rfl
      | true => exact ((un_iff p).1 e this).elim
    exact ⟨false, ⟨c, ls, tc⟩, k, rfl, HH.out, HP.out, HLs.out, cut_none HP.out.ok hall, ⟨fun e => (by cases e), fun ⟨p, h1, h2⟩ => (by rw [hall p h1] at h2; cases h2)⟩, fun p e => .inl e, Below.refl _ _, Keeps.refl _ _⟩
  | true =>
    have HH1 := hide (HH.out.setun false)
    have HKu := hide ((k_set w S 3 (.bool false)).mono (S' := OuS G S lm tm) (fun b e => .inr (.inl e)))
    have HB1 := hide (show Below base w (w.setCell ⟨S, 3, none⟩ (.bool false)) from (Below.refl _ _).setCell HH.out.ge.2.1 _)
    go_enter Tryz.func44, Tryz.ntmps44
    go_upto_region 4 with (fail)
    clear c3 z3 HH
    have hb1 := HB1.out.size
    generalize w.setCell ⟨S, 3, none⟩ (.bool false) = w1 at *
    have c0 := HH1.out.sh.c0
    go_upto_region 5 with (first
      | (go_at_call 92
         refine (reachFrom_any G n cap k c i2 w1 hn HH1.out.lk HH1.out.kr HP.out.ok HH1.out.kd).mono ?_
         rintro e w2 ⟨rfl, s, hA2, hs2, hk2⟩
         have HA2 := hide hA2
         have HS2 := hide hs2
         have HK2 := hide hk2
         clear hA2 hs2 hk2)
      | fail)
    clear c0
    have hSh2 := HH1.out.sh
    have hne : S ≠ G := hSh2.apartL HH1.out.lk
    have hSh3 : ShR w2 S (c.nf 0) lm tm false := RowF.keep hSh2 HK2.out hne
    have c02 := hSh3.c0
    have HNe := hide hne
    have HSu := hide (show ∀ p, c.un p = !s p from fun p => by
      cases e : s p with
      | true =>
        have := (HS2.out p).1 e
        cases e2 : c.un p with
        | false => rfl
        | true => exact ((un_iff p).1 e2 this).elim
      | false => exact (un_iff p).2 (fun hr => by rw [(HS2.out p).2 hr] at e; cases e))
    have HsL := hide (show ∀ p, s p = true → c.L p from fun p e => HP.out.ok.RL ((HS2.out p).1 e))
    clear hSh2 hSh3 hne
    go_wp2_with fail
    clear c02
    have hs21 := HK2.out.size
    have hnf0 : c.nf 0 ≤ n := by rw [← HEn.out]; exact c.nf_le 0
    go_loopw [5, 6] (fun ov pv wr => ∃ p : Nat, pv = .int .i64 (p : Int) ∧ p ≤ n ∧ Hid (p = n ∨ c.L p) ∧ Hid (wr.ownsRow w1.heap.size 3 1 ov (Go.Proofs.YtgnbhhgpaldheaaGreat.ls p (fun q => c.lf q && c.un q)).length (natC (Go.Proofs.YtgnbhhgpaldheaaGreat.ls p (fun q => c.lf q && c.un q)))) ∧ Hid (LkA wr G n { k with rd := fun q => decide (p ≤ q) && s q }) ∧ Hid (Keeps w1 wr (fun b => b = G)))
      (fun _ pv _ => n - ivN pv)
    case atStart =>
      refine ⟨c.nf 0, rfl, hnf0, hide ?_, hide ?_, hide ?_, HK2⟩
      · rcases (c.nf_out 0).1 with h | h
        · exact .inr h.1
        · exact .inl (by rw [h, HEn.out])
      · rw [ls_nf0]; exact World.ownsRow_nil _ _ _ _
      · refine HA2.out.congr (fun q hq r _ => ?_)
        unfold Lks.at
        have : s q = (decide (c.nf 0 ≤ q) && s q) := by
          cases e : s q with
          | false => simp
          | true =>
            have := HsL.out q e
            have h2 : c.nf 0 ≤ q := by
              rcases Nat.lt_or_ge q (c.nf 0) with d | d
              · exact ((c.nf_out 0).2 q (Nat.zero_le _) d this).elim
              · exact d
            simp [h2]
        simp only [← this]
    case round =>
      clear HA2 HK2 hs21 hnf0
      obtain ⟨p, rfl, hpn, HpL, HO, HA, HK⟩ := hrel
      obtain ⟨oa, oc, rfl⟩ := owns_val HO.out
      have hsz := HK.out.size
      by_cases hp : p < n
      · have hpL : c.L p := by rcases HpL.out with e | e; omega; exact e
        have HPL := hide hpL
        have r8 : wr.cell? ⟨G, p * 10 + 8, none⟩ = some (.bool (s p)) := (HA.out.rd hp).trans (by show some (Value.bool (decide (p ≤ p) && s p)) = _; simp)
        have r6 : wr.cell? ⟨G, p * 10 + 6, none⟩ = some (.int .i64 (c.nx p : Int)) := (HA.out.bh hp).trans (by show some (Value.int .i64 (k.bh p)) = _; rw [HH1.out.kr.ebh p hpL])
        have HNx := hide (show p < c.nx p ∧ c.nx p ≤ n ∧ (c.nx p = n ∨ c.L (c.nx p)) from by
          have h1 : p + 1 ≤ c.nx p := Cf.nf_ge (c := c) (p := p + 1) hpL.1
          have h2 : c.nx p ≤ c.n := c.nf_le _
          have h3 := HEn.out
          refine ⟨by omega, by omega, ?_⟩
          rcases (c.nf_out (p + 1)).1 with h | h
          · exact .inr h.1
          · exact .inl (by show c.nf (p + 1) = n; omega))
        have z8 := HA.out.frz (p * 10 + 8)
        have HRd := hide (show ∀ (W : World), LkA W G n { k with rd := upB (fun q => decide (p ≤ q) && s q) p false } → LkA W G n { k with rd := fun q => decide (c.nx p ≤ q) && s q } from fun W hW => hW.congr (fun q hq r _ => by
          unfold Lks.at
          have : upB (fun q => decide (p ≤ q) && s q) p false q = (decide (c.nx p ≤ q) && s q) := by
            unfold upB
            have hnx := HNx.out.1
            by_cases e : q = p
            · rw [if_pos e, e, decide_eq_false (by omega)]; rfl
            · rw [if_neg e]
              cases e2 : s q with
              | false => simp [e2]
              | true =>
                have hq2 := HsL.out q e2
                have h3 : p ≤ q ↔ c.nx p ≤ q := by
                  constructor
                  · intro h4
                    rcases Nat.lt_or_ge q (c.nx p) with d | d
                    · exact ((c.nf_out (p + 1)).2 q (by omega) d hq2).elim
                    · exact d
                  · intro h4; omega
                simp [h3, e2]
          simp only [this]))
        have HLn := hide (ls_nx hpL c.un)
        clear hpL
        generalize c.nx p = N at *
        cases hs : s p with
        | true =>
          rw [hs] at r8
          have HU := hide (show c.un p = false from by rw [HSu.out, hs]; rfl)
          clear hs
          have HA1 := hide (HRd.out _ (HA.out.setrd hp false))
          have hk1 := k_set wr G (p * 10 + 8) (.bool false)
          have HO1 := hide (owns_past HO.out hk1 (fun g e hg => (owns_rowF HO.out e).apart HA.out (by decide) hg))
          have HK1 := hide (HK.out.trans hk1)
          have r61 : (wr.setCell ⟨G, p * 10 + 8, none⟩ (.bool false)).cell? ⟨G, p * 10 + 6, none⟩ = some (.int .i64 (N : Int)) := (RowF.cell HA1.out (j := p * 10 + 6) (by omega)).trans ((RowF.cell HA.out (j := p * 10 + 6) (by omega)).symm.trans r6 |> fun h => by
            rw [Lks.c_at _ _ (by omega)]
            have h0 := (HA.out.bh hp).symm.trans r6
            exact h0)
          clear hk1
          go_wp2_with fail
          go_roundw
          case rel => exact ⟨N, rfl, HNx.out.2.1, hide HNx.out.2.2, hide (by rw [HLn.out, HU.out]; simpa using HO1.out), HA1, HK1⟩
          case measure => have := HNx.out.1; simp [ivN]; omega
        | false =>
          rw [hs] at r8
          have HU := hide (show c.un p = true from by rw [HSu.out, hs]; rfl)
          clear hs
          have hll := ls_le p (fun q => c.lf q && c.un q)
          obtain ⟨LL, hLL⟩ : ∃ LL, Go.Proofs.YtgnbhhgpaldheaaGreat.ls p (fun q => c.lf q && c.un q) = LL := ⟨_, rfl⟩
          rw [hLL] at HO hll HLn
          rw [hLL]
          clear hLL
          obtain ⟨L, hL⟩ : ∃ L, LL.length = L := ⟨_, rfl⟩
          rw [hL] at HO hll
          rw [hL]
          have HL := hide hL
          clear hL
          go_upto_region 11 with (first
            | (at_builtin
               refine app_k rfl (.tmp 40) (.tmp 42) 43 3 1 8 (.int .i64 0) rfl Tryz.underlying43 Tryz.info3 rfl (by decide) w1.heap.size (.slice oa L oc) L (natC LL) [.int .i64 (p : Int)] HO.out rfl rfl rfl (by simp [Value.oneCell']) (by omega) (by decide) hsz ?_
               intro v5 w5 hv5 hk5 hw5)
            | fail)
          have HA5 := hide (HA.out.app HO.out hk5)
          have HK5 := hide (keeps_app HK.out hk5 (fun b e => (owns_blk HO.out e).1))
          have HO5 : Hid (w5.ownsRow w1.heap.size 3 1 v5 (LL ++ [p]).length (natC (LL ++ [p]))) := hide (by have := hv5; simp only [natC, List.map_append, List.map_cons, List.map_nil, List.length_append, List.length_singleton, HL.out] at this ⊢; exact this)
          have z85 := HA5.out.frz (p * 10 + 8)
          have r85 := HA5.out.rd hp
          have HA1 := hide (HRd.out _ (HA5.out.setrd hp false))
          have hk1 := k_set w5 G (p * 10 + 8) (.bool false)
          have HO1 := hide (owns_past HO5.out hk1 (fun g e hg => (owns_rowF HO5.out e).apart HA5.out (by decide) hg))
          have HK1 := hide (HK5.out.trans hk1)
          have h06 := (HA.out.bh hp).symm.trans r6
          have r61 : (w5.setCell ⟨G, p * 10 + 8, none⟩ (.bool false)).cell? ⟨G, p * 10 + 6, none⟩ = some (.int .i64 (N : Int)) := (HA1.out.bh hp).trans h06
          clear hv5 hk5 hw5 r8 r6 z8 hk1 h06
          go_wp2_with fail
          go_roundw
          case rel => exact ⟨N, rfl, HNx.out.2.1, hide HNx.out.2.2, hide (by rw [HLn.out, HU.out]; simpa using HO1.out), HA1, HK1⟩
          case measure => have := HNx.out.1; simp [ivN]; omega
      · obtain rfl : p = n := by omega
        have HH2 := hide (HH1.out.reG HK.out (HA.out.congr (fun q hq r _ => by
          unfold Lks.at
          have : (decide (p ≤ q) && s q) = k.rd q := by rw [HH1.out.kd, decide_eq_false (by omega)]; rfl
          simp only [this])))
        obtain ⟨LL, hLL⟩ : ∃ LL, Go.Proofs.YtgnbhhgpaldheaaGreat.ls p (fun q => c.lf q && c.un q) = LL := ⟨_, rfl⟩
        rw [hLL] at HO
        rw [hLL]
        have HLL := hide hLL
        clear hLL
        have HLv := hide (leaveOut_any (cap := cap) hn HH2.out HCl.out LL (.slice oa LL.length oc) (fun q hq => by
          rw [← HLL.out] at hq
          have := (ls_mem.1 hq)
          rw [Bool.and_eq_true] at this
          exact ⟨by rw [HEn.out]; exact this.1, this.2.1⟩) (by rw [← HLL.out]; exact ls_nd _ _) HO.out (by rw [← HLL.out]; exact ls_le _ _))
        go_wp2_with (first
          | (go_at_call 93
             refine HLv.out.mono ?_
             rintro e w3 ⟨rfl, hs3, hk3⟩
             have HS3 := hide hs3
             have HK3 := hide hk3
             clear hs3 hk3)
          | fail)
        go_ret
        obtain ⟨k', hk'⟩ := HS3.out
        have hrun := OuI.run (cm := cm) (s0 := ⟨c, ls, tc⟩) (D := c.un) (fun q hq hj => (HP.out.ok.j q hq hj).1) (fun q hq hj => (HP.out.st q hq hj).2) (fun t ht q hq hqL => HP.out.cm t ht q hq hqL) p ⟨c, ls, tc⟩ (by show p ≤ c.n; rw [HEn.out]; exact Nat.le_refl _) (by have := OuI.start cm ⟨c, ls, tc⟩ c.un (fun q hq hj => (HP.out.ok.j q hq hj).1.1); rw [show (⟨c, ls, tc⟩ : Ou).c.n = p from HEn.out] at this; exact this)
        have hx : ((List.range p).filter (fun q => c.lf q && c.un q)).reverse = LL.reverse := by rw [← HLL.out]; rfl
        have hrun2 : OuI cm ⟨c, ls, tc⟩ c.un 0 (Ou.run cm ⟨c, ls, tc⟩ LL.reverse) := by rw [← hx]; exact hrun
        obtain ⟨m1, m2, m3⟩ := HP.out.outR HLs.out hrun2
        refine ⟨_, _, k', rfl, hk', m1, m2, m3, ?_, fun z hlj => ?_, HB1.out.trans ((HK.out.below (B := base) (by omega) (fun b e => by rw [e]; exact HH1.out.ge.1)).trans (HK3.out.below (B := base) (by omega) (fun b e => HH2.out.geS e))), HKu.out.trans ((HK.out.mono (fun b e => .inl e)).trans HK3.out)⟩
        · rw [decide_eq_true_iff]
          constructor
          · intro hpos
            have : LL ≠ [] := fun e => by rw [e] at hpos; simp at hpos
            obtain ⟨z, hz⟩ := List.exists_mem_of_ne_nil _ this
            rw [← HLL.out] at hz
            have := ls_mem.1 hz
            rw [Bool.and_eq_true] at this
            exact ⟨z, ⟨by rw [HEn.out]; exact this.1, this.2.1⟩, this.2.2⟩
          · rintro ⟨z, h1, h2⟩
            have hz : z ∈ LL := by rw [← HLL.out]; exact ls_mem.2 ⟨by rw [← HEn.out]; exact h1.1, by rw [h1.2, h2]; rfl⟩
            have := List.length_pos_of_mem hz
            omega
        · rcases run_ls cm _ _ z hlj with e | ⟨t, h1, h2⟩
          · exact .inl e
          · right
            rw [(run_op cm _ _).1]
            have ht : t ∈ LL := List.mem_reverse.1 h1
            rw [← HLL.out] at ht
            exact (HH1.out.cj t (ls_mem.1 ht).1 z h2).2
end Go.Proofs.YtgnbhhgpaldheaaGreat
