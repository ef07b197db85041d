import Derived.Test.YtemciphihnpniaaDoorJQZ5
namespace Go.Proofs.YtemciphihnpniaaDoor
open Go Go.RowKit Go.Shelf
set_option linter.unusedVariables false

theorem first_any (X : Sx) (t : Pt) (fn : Nat) (bd cs : Array Value) (D : World → Prop) (from_ n : Nat) (nt : Nt) (to_ : Nat) (w : World) (hs : X.s.size ≤ 65536) (hwh : X.wh = .func (.func fn) bd cs) (hfx : X.fx = t.start) (hcn : X.cn = t.caps) (hits : X.its = t.items) (hk : PtK t)
    (hlen : t.items.length ≤ 200) (hx : WyAll X t.place fn bd cs D w.heap.size) (hD : D w) (hb : SB w X.S X.s X.fx X.cn X.wh n nt to_) (hn : n ≤ 50000) (hf : from_ ≤ X.s.size) :
    Calls Tryd.prog 20 #[.pointer (some ⟨X.S, 0, none⟩), .int .i64 from_] w fun e w' => FiR X D w (srM X.s t (X.s.size + 1) from_ n) e w' := by
  have hcap : ∀ nt σ, Ag X.its nt σ → ∀ k, k < t.caps → nt k = capAt t σ k := fun nt σ hg k hk' => hk.noted nt σ (by rw [hits] at hg; exact hg) k hk'
  cases h : t.start with
  | true => exact first_fix X t fn bd cs D from_ n nt to_ w hs hwh hfx hcn hits hk.caps hlen hx hcap hD hb hn hf h
  | false => exact first_free X t fn bd cs D from_ n nt to_ w hs hwh hfx hcn hits hk.caps hlen hx hcap hD hb hn hf h

set_option maxHeartbeats 3200000 in
set_option maxRecDepth 100000 in
theorem find_any (s p : ByteArray) (init : Int) (w : World) (hs20 : s.size ≤ 1048576) (hp20 : p.size ≤ 1048576) (hl : LtT w) (h0 : 0 < w.heap.size) :
    Calls Tryd.prog 6 #[.string s, .string p, .int .i64 init] w fun e w' => FoR (findM s p init) w e w' := by
  have HZ0 := hide (show RowF (w.alloc (.cells #[Value.int .i64 0, .int .i64 0, nilS] 24)) 24 w.heap.size 3 (fun j => #[Value.int .i64 0, .int .i64 0, nilS].getD j (.bool false)) from RowF.mk' w 24 #[Value.int .i64 0, .int .i64 0, nilS])
  have HB0 := hide (And.intro (b_1 w (.cells #[Value.int .i64 0, .int .i64 0, nilS] 24)) (hl.low (b_1 w (.cells #[Value.int .i64 0, .int .i64 0, nilS] 24)) h0))
  clear hl
  go_enter Tryd.func6, Tryd.ntmps6
  go_wp2_with fail
  generalize w.alloc (.cells #[Value.int .i64 0, .int .i64 0, nilS] 24) = w0 at *
  have hs0 : w.heap.size < w0.heap.size := HZ0.out.lt
  refine (newSearch_any s p w0 hs20 hp20 HB0.out.2 (by omega)).mono ?_
  rintro e w1 ⟨hb1, ⟨h1, rfl⟩ | ⟨h1, h2, rfl⟩ | ⟨t, S, fn, bd, cs, D, h1, h2, h3, rfl, hS, hsb, hD, hW⟩⟩
  · have HR := hide (show findM s p init = (none, 1) by rw [findM, if_pos h1])
    have HZ := hide (HZ0.out.low hb1 hs0)
    have HB := hide (HB0.out.1.trans (hb1.mono (by omega)))
    clear HZ0 HB0 hb1
    have r0 := HZ.out.cell (j := 0) (by omega)
    have r1 := HZ.out.cell (j := 1) (by omega)
    have r2 := HZ.out.cell (j := 2) (by omega)
    have y0 := HZ.out.frz 0
    have y1 := HZ.out.frz 1
    have y2 := HZ.out.frz 2
    have HBf := hide (((HB.out.setCell (p := ⟨w.heap.size, 0, none⟩) (Nat.le_refl _) (.int .i64 0)).setCell (p := ⟨w.heap.size, 1, none⟩) (Nat.le_refl _) (.int .i64 0)).setCell (p := ⟨w.heap.size, 2, none⟩) (Nat.le_refl _) nilS)
    go_wp2_with fail
    refine bodyPost_ret (v := .tuple #[.agg #[.int .i64 0, .int .i64 0, nilS], .bool false, .int .i64 1]) ?_ rfl (FoR.none HBf.out HR.out)
    simp [results, Tryd.results6, go_sem, r0, r1, r2]
  · have HR := hide (show findM s p init = (none, 2) by rw [findM, if_neg (by omega), h2])
    have HZ := hide (HZ0.out.low hb1 hs0)
    have HB := hide (HB0.out.1.trans (hb1.mono (by omega)))
    clear HZ0 HB0 hb1 h2
    have r0 := HZ.out.cell (j := 0) (by omega)
    have r1 := HZ.out.cell (j := 1) (by omega)
    have r2 := HZ.out.cell (j := 2) (by omega)
    have y0 := HZ.out.frz 0
    have y1 := HZ.out.frz 1
    have y2 := HZ.out.frz 2
    have HBf := hide (((HB.out.setCell (p := ⟨w.heap.size, 0, none⟩) (Nat.le_refl _) (.int .i64 0)).setCell (p := ⟨w.heap.size, 1, none⟩) (Nat.le_refl _) (.int .i64 0)).setCell (p := ⟨w.heap.size, 2, none⟩) (Nat.le_refl _) nilS)
    go_wp2_with fail
    refine bodyPost_ret (v := .tuple #[.agg #[.int .i64 0, .int .i64 0, nilS], .bool false, .int .i64 2]) ?_ rfl (FoR.none HBf.out HR.out)
    simp [results, Tryd.results6, go_sem, r0, r1, r2]
  · have HF := hide (show findM s p init = if init < 0 ∨ (s.size : Int) < init then (none, 3) else if 50000 < (srM s t (s.size + 1) init.toNat 0).2 then (none, 4) else ((srM s t (s.size + 1) init.toNat 0).1, 0) by rw [findM, if_neg (by omega), h2])
    have HZ := hide (HZ0.out.low hb1 hs0)
    have HB := hide (HB0.out.1.trans (hb1.mono (by omega)))
    have HX := hide (And.intro hsb (And.intro hD (And.intro hW (rdPat_k h2))))
    have hs1 : w.heap.size < w1.heap.size := HZ.out.lt
    clear HZ0 HB0 hb1 h2 hsb hD hW
    go_wp2_with fail
    refine (within_any init 0 (s.size : Int) w1).mono ?_
    rintro e w2 ⟨rfl, hw⟩
    obtain rfl := hw.symm
    by_cases hin : init < 0 ∨ (s.size : Int) < init
    · rw [show (decide (0 ≤ init) && decide (init ≤ (s.size : Int))) = false by rw [Bool.and_eq_false_iff]; simp; omega]
      have HR := hide (HF.out.trans (if_pos hin))
      clear hin
      have r0 := HZ.out.cell (j := 0) (by omega)
      have r1 := HZ.out.cell (j := 1) (by omega)
      have r2 := HZ.out.cell (j := 2) (by omega)
      have y0 := HZ.out.frz 0
      have y1 := HZ.out.frz 1
      have y2 := HZ.out.frz 2
      have HBf := hide (((HB.out.setCell (p := ⟨w.heap.size, 0, none⟩) (Nat.le_refl _) (.int .i64 0)).setCell (p := ⟨w.heap.size, 1, none⟩) (Nat.le_refl _) (.int .i64 0)).setCell (p := ⟨w.heap.size, 2, none⟩) (Nat.le_refl _) nilS)
      go_wp2_with fail
      refine bodyPost_ret (v := .tuple #[.agg #[.int .i64 0, .int .i64 0, nilS], .bool false, .int .i64 3]) ?_ rfl (FoR.none HBf.out HR.out)
      simp [results, Tryd.results6, go_sem, r0, r1, r2]
    · rw [show (decide (0 ≤ init) && decide (init ≤ (s.size : Int))) = true by rw [decide_eq_true (by omega), decide_eq_true (by omega)]; rfl]
      have HF2 := hide (HF.out.trans (if_neg hin))
      obtain ⟨i0, rfl⟩ := Int.eq_ofNat_of_zero_le (show 0 ≤ init by omega)
      rw [Int.toNat_natCast] at HF2
      clear HF
      have hi0 : i0 ≤ s.size := by omega
      clear hin
      go_wp2_with fail
      refine (first_any ⟨S, s, t.start, t.caps, .func (.func fn) bd cs, t.items⟩ t fn bd cs D i0 0 nt0 0 w1 (by show s.size ≤ 65536; omega) rfl rfl rfl rfl HX.out.2.2.2 h3 HX.out.2.2.1 HX.out.2.1 HX.out.1 (by omega) hi0).mono ?_
      rintro e w2 ⟨hk2, hD2, n', nt', to', hsb2, hor⟩
      dsimp only at *
      obtain ⟨r, hr⟩ : ∃ r, srM s t (s.size + 1) i0 0 = r := ⟨_, rfl⟩
      rw [hr] at hor HF2
      obtain ⟨o, n2⟩ := r
      dsimp only at hor HF2
      have hZ2 := HZ.out.keep hk2 (by omega)
      have hB2 : Below w.heap.size w w2 := HB.out.trans (hk2.below (by omega) (by omega))
      have HZ2 := hide (hZ2.keep (Keeps.of (b_1 w2 (.cells #[Value.int .i64 0, .int .i64 0, nilS] 24)) (Nat.le_refl _) (fun _ => False)) (fun x => x))
      have hw2 : w.heap.size < w2.heap.size := hZ2.lt
      clear hr HZ HB hsb2 hD2 hk2
      rcases hor with ⟨h50, _, _, rfl⟩ | ⟨h50, _, rfl, rfl⟩ | ⟨h50, _, f, v, rfl, rfl, hv⟩
      · have HR := hide (HF2.out.trans (if_pos h50))
        have HZ := HZ2
        have HB := hide (hB2.alloc hB2.size (.cells #[Value.int .i64 0, .int .i64 0, nilS] 24))
        clear HZ2 hB2 hZ2 h50
        go_upto_region 7 with fail
        generalize w2.alloc (.cells #[Value.int .i64 0, .int .i64 0, nilS] 24) = w3 at HZ HB ⊢
        have r0 := HZ.out.cell (j := 0) (by omega)
        have r1 := HZ.out.cell (j := 1) (by omega)
        have r2 := HZ.out.cell (j := 2) (by omega)
        have y0 := HZ.out.frz 0
        have y1 := HZ.out.frz 1
        have y2 := HZ.out.frz 2
        have HBf := hide (((HB.out.setCell (p := ⟨w.heap.size, 0, none⟩) (Nat.le_refl _) (.int .i64 0)).setCell (p := ⟨w.heap.size, 1, none⟩) (Nat.le_refl _) (.int .i64 0)).setCell (p := ⟨w.heap.size, 2, none⟩) (Nat.le_refl _) nilS)
        go_wp2_with fail
        refine bodyPost_ret (v := .tuple #[.agg #[.int .i64 0, .int .i64 0, nilS], .bool false, .int .i64 4]) ?_ rfl (FoR.none HBf.out HR.out)
        simp [results, Tryd.results6, go_sem, r0, r1, r2]
      · have HR := hide (HF2.out.trans (if_neg (by omega)))
        have HZ := HZ2
        have HB := hide (hB2.alloc hB2.size (.cells #[Value.int .i64 0, .int .i64 0, nilS] 24))
        have HXf := hide (show RowF (w2.alloc (.cells #[Value.int .i64 0, .int .i64 0, nilS] 24)) 24 w2.heap.size 3 (fun j => #[Value.int .i64 0, .int .i64 0, nilS].getD j (.bool false)) from RowF.mk' w2 24 #[Value.int .i64 0, .int .i64 0, nilS])
        clear HZ2 hB2 hZ2 h50
        go_upto_region 7 with fail
        generalize w2.alloc (.cells #[Value.int .i64 0, .int .i64 0, nilS] 24) = w3 at HZ HB HXf ⊢
        generalize w2.heap.size = Xb at HXf hw2 ⊢
        have x0 : w3.cell? ⟨Xb, 0, none⟩ = some (.int .i64 0) := HXf.out.cell (j := 0) (by omega)
        have x1 : w3.cell? ⟨Xb, 1, none⟩ = some (.int .i64 0) := HXf.out.cell (j := 1) (by omega)
        have x2 : w3.cell? ⟨Xb, 2, none⟩ = some nilS := HXf.out.cell (j := 2) (by omega)
        have r0 := HZ.out.cell (j := 0) (by omega)
        have r1 := HZ.out.cell (j := 1) (by omega)
        have r2 := HZ.out.cell (j := 2) (by omega)
        have y0 := HZ.out.frz 0
        have y1 := HZ.out.frz 1
        have y2 := HZ.out.frz 2
        have HBf := hide (((HB.out.setCell (p := ⟨w.heap.size, 0, none⟩) (Nat.le_refl _) (.int .i64 0)).setCell (p := ⟨w.heap.size, 1, none⟩) (Nat.le_refl _) (.int .i64 0)).setCell (p := ⟨w.heap.size, 2, none⟩) (Nat.le_refl _) nilS)
        go_wp2_with fail
        refine bodyPost_ret (v := .tuple #[.agg #[.int .i64 0, .int .i64 0, nilS], .bool false, .int .i64 0]) ?_ rfl (FoR.none HBf.out HR.out)
        simp [results, Tryd.results6, go_sem, r0, r1, r2]
      · obtain ⟨av, kv, rfl⟩ := owns_val hv
        have HR := hide (HF2.out.trans (if_neg (by omega)))
        have kb : Keeps w2 (w2.alloc (.cells #[.int .i64 f.fr, .int .i64 f.en, .slice av f.caps.length kv] 24)) (fun _ => False) := Keeps.of (b_1 w2 _) (Nat.le_refl _) _
        have HZ := hide (hZ2.keep kb (fun x => x))
        have HB := hide (hB2.alloc hB2.size (.cells #[.int .i64 f.fr, .int .i64 f.en, .slice av f.caps.length kv] 24))
        have HV := hide (owns_keep hv kb (fun b hb => hb.elim))
        have HXf := hide (show RowF (w2.alloc (.cells #[.int .i64 f.fr, .int .i64 f.en, .slice av f.caps.length kv] 24)) 24 w2.heap.size 3 (fun j => #[Value.int .i64 f.fr, .int .i64 f.en, .slice av f.caps.length kv].getD j (.bool false)) from RowF.mk' w2 24 #[.int .i64 f.fr, .int .i64 f.en, .slice av f.caps.length kv])
        clear HZ2 hB2 hZ2 h50 hv kb
        go_upto_region 7 with fail
        generalize w2.alloc (.cells #[.int .i64 f.fr, .int .i64 f.en, .slice av f.caps.length kv] 24) = w3 at HZ HB HXf HV ⊢
        generalize w2.heap.size = Xb at HXf hw2 ⊢
        have x0 : w3.cell? ⟨Xb, 0, none⟩ = some (.int .i64 f.fr) := HXf.out.cell (j := 0) (by omega)
        have x1 : w3.cell? ⟨Xb, 1, none⟩ = some (.int .i64 f.en) := HXf.out.cell (j := 1) (by omega)
        have x2 : w3.cell? ⟨Xb, 2, none⟩ = some (.slice av f.caps.length kv) := HXf.out.cell (j := 2) (by omega)
        have r0 := HZ.out.cell (j := 0) (by omega)
        have r1 := HZ.out.cell (j := 1) (by omega)
        have r2 := HZ.out.cell (j := 2) (by omega)
        have y0 := HZ.out.frz 0
        have y1 := HZ.out.frz 1
        have y2 := HZ.out.frz 2
        have HBf := hide (((HB.out.setCell (p := ⟨w.heap.size, 0, none⟩) (Nat.le_refl _) (.int .i64 f.fr)).setCell (p := ⟨w.heap.size, 1, none⟩) (Nat.le_refl _) (.int .i64 f.en)).setCell (p := ⟨w.heap.size, 2, none⟩) (Nat.le_refl _) (.slice av f.caps.length kv))
        have HVf := hide (owns_less (owns_keep HV.out ((((Keeps.refl w3 (fun b => b = w.heap.size)).setCell (S := fun b => b = w.heap.size) (j := 0) rfl (.int .i64 f.fr)).setCell (S := fun b => b = w.heap.size) (j := 1) rfl (.int .i64 f.en)).setCell (S := fun b => b = w.heap.size) (j := 2) rfl (.slice av f.caps.length kv)) (by omega)) (show w.heap.size ≤ w1.heap.size by omega))
        go_wp2_with fail
        refine bodyPost_ret (v := .tuple #[.agg #[.int .i64 f.fr, .int .i64 f.en, .slice av f.caps.length kv], .bool true, .int .i64 0]) ?_ rfl ⟨HBf.out, .slice av f.caps.length kv, by rw [HR.out]; rfl, by rw [HR.out]; exact HVf.out⟩
        simp [results, Tryd.results6, go_sem, r0, r1, r2]

end Go.Proofs.YtemciphihnpniaaDoor
namespace Go.Proofs.YtemciphihnpniaaDoor
open Go Go.RowKit Go.Shelf
set_option linter.unusedVariables false

def ivM : Value → Nat
  | .int _ x => x.toNat
  | _ => 0
/-- Captures in memory. -/
def CpA (w : World) (v : Value) (n : Nat) (x0 : Nat → Bool) (x1 x2 : Nat → Int) : Prop :=
  (n = 0 ∧ ∃ a cap, v = .slice a 0 cap) ∨ ∃ b cap, v = .slice (some ⟨b, 0, none⟩) n cap ∧ b < w.heap.size ∧ n ≤ cap ∧ ∀ i, i < n → w.cell? ⟨b, i * 3, none⟩ = some (.bool (x0 i)) ∧ w.cell? ⟨b, i * 3 + 1, none⟩ = some (.int .i64 (x1 i)) ∧ w.cell? ⟨b, i * 3 + 2, none⟩ = some (.int .i64 (x2 i))
theorem CpA.val {w : World} {v : Value} {n : Nat} {x0 : Nat → Bool} {x1 x2 : Nat → Int} (h : CpA w v n x0 x1 x2) : ∃ a cap, v = .slice a n cap := by
  rcases h with ⟨rfl, a, cap, rfl⟩ | ⟨b, cap, rfl, _⟩
  · exact ⟨a, cap, rfl⟩
  · exact ⟨_, cap, rfl⟩
theorem CpA.same {w w' : World} {v : Value} {n : Nat} {x0 : Nat → Bool} {x1 x2 : Nat → Int} (h : CpA w v n x0 x1 x2) (hs : w.heap.size ≤ w'.heap.size) (hb : ∀ b, v.ownBlock = some b → w'.heap[b]? = w.heap[b]?) : CpA w' v n x0 x1 x2 := by
  rcases h with h | ⟨b, cap, rfl, hbB, hcap, hc⟩
  · exact .inl h
  · have e := hb b rfl
    refine .inr ⟨b, cap, rfl, by omega, hcap, fun i hi => ?_⟩
    have h3 := hc i hi
    exact ⟨(World.cell?_of_block (a := ⟨b, i * 3, none⟩) e).trans h3.1, (World.cell?_of_block (a := ⟨b, i * 3 + 1, none⟩) e).trans h3.2.1, (World.cell?_of_block (a := ⟨b, i * 3 + 2, none⟩) e).trans h3.2.2⟩
theorem CpA.lt {w : World} {v : Value} {n : Nat} {x0 : Nat → Bool} {x1 x2 : Nat → Int} (h : CpA w v n x0 x1 x2) (hn : 0 < n) {b : Nat} (hb : v.ownBlock = some b) : b < w.heap.size := by
  rcases h with ⟨rfl, a, cap, rfl⟩ | ⟨g, cap, rfl, hbB, hcap, hc⟩
  · omega
  · have e : g = b := by simpa [Value.ownBlock] using hb
    subst e
    exact hbB
theorem CpA.low {w w' : World} {v : Value} {n : Nat} {x0 : Nat → Bool} {x1 x2 : Nat → Int} (h : CpA w v n x0 x1 x2) (hb : Below w.heap.size w w') : CpA w' v n x0 x1 x2 := by
  rcases h with h | ⟨b, cap, rfl, hbB, hcap, hc⟩
  · exact .inl h
  · exact CpA.same (.inr ⟨b, cap, rfl, hbB, hcap, hc⟩) hb.size (fun g e => by
      have e2 : b = g := by simpa [Value.ownBlock] using e
      subst e2
      exact hb.block b hbB)
def cx0 (l : List (Bool × Nat × Nat)) (i : Nat) : Bool := (l.getD i (false, 0, 0)).1
def cx1 (l : List (Bool × Nat × Nat)) (i : Nat) : Int := ((l.getD i (false, 0, 0)).2.1 : Nat)
def cx2 (l : List (Bool × Nat × Nat)) (i : Nat) : Int := ((l.getD i (false, 0, 0)).2.2 : Nat)
theorem capC_at : ∀ (l : List (Bool × Nat × Nat)) (i : Nat), i < l.length → (capC l)[i * 3]? = some (.bool (cx0 l i)) ∧ (capC l)[i * 3 + 1]? = some (.int .i64 (cx1 l i)) ∧ (capC l)[i * 3 + 2]? = some (.int .i64 (cx2 l i))
  | [], i, h => by simp at h
  | c :: l, 0, h => ⟨rfl, rfl, rfl⟩
  | c :: l, i + 1, h => by
    have ih := capC_at l i (by simpa using h)
    rw [show capC (c :: l) = [.bool c.1, .int .i64 c.2.1, .int .i64 c.2.2] ++ capC l from rfl]
    rw [List.getElem?_append_right (by simp; omega), List.getElem?_append_right (by simp; omega), List.getElem?_append_right (by simp; omega)]
    simp only [List.length_cons, List.length_nil]
    rw [show (i + 1) * 3 - (0 + 1 + 1 + 1) = i * 3 by omega, show (i + 1) * 3 + 1 - (0 + 1 + 1 + 1) = i * 3 + 1 by omega, show (i + 1) * 3 + 2 - (0 + 1 + 1 + 1) = i * 3 + 2 by omega]
    exact ih
theorem CpA.of {w : World} {B : Nat} {v : Value} {l : List (Bool × Nat × Nat)} (h : w.ownsRow B 64 3 v l.length (capC l)) : CpA w v l.length (cx0 l) (cx1 l) (cx2 l) := by
  have h0 := h
  obtain ⟨h1, ⟨rfl, h3⟩ | ⟨g, cap, cur, rfl, hb, hg, hnc, hcm, hcs, htake⟩⟩ := h0
  · exact .inl ⟨h3, none, 0, rfl⟩
  · refine .inr ⟨g, cap, rfl, ?_, hnc, fun i hi => ?_⟩
    · exact (h.lt g rfl).2
    · have h3 := capC_at l i hi
      have hc : ∀ j u, (capC l)[j]? = some u → w.cell? ⟨g, j, none⟩ = some u := fun j u hj => by
        have := h.cells (g := g) rfl j u hj
        rwa [add_none', Nat.zero_add] at this
      exact ⟨hc _ _ h3.1, hc _ _ h3.2.1, hc _ _ h3.2.2⟩

set_option maxHeartbeats 800000 in
set_option maxRecDepth 100000 in
theorem eqCapture_any (p0 : Bool) (p1 p2 : Int) (w : World) :
    Calls Tryd.prog 32 #[.agg #[.bool p0, .int .i64 p1, .int .i64 p2], .agg #[.bool p0, .int .i64 p1, .int .i64 p2]] w fun e w' => e = .returned (.bool true) ∧ Below w.heap.size w w' := by
  go_enter Tryd.func32, Tryd.ntmps32
  go_wp2
  go_ret
  exact ⟨rfl, b_2 _ _ _⟩

set_option maxHeartbeats 1600000 in
set_option maxRecDepth 100000 in
theorem eqCaptureS_any (v v' : Value) (n : Nat) (x0 : Nat → Bool) (x1 x2 : Nat → Int) (w : World) (hn : n ≤ 1048576) (h : CpA w v n x0 x1 x2) (h' : CpA w v' n x0 x1 x2) :
    Calls Tryd.prog 21 #[v, v'] w fun e w' => e = .returned (.bool true) ∧ Below w.heap.size w w' := by
  by_cases h0 : n = 0
  · subst h0
    obtain ⟨a, cap, rfl⟩ := h.val
    obtain ⟨a', cap', rfl⟩ := h'.val
    clear h h'
    go_enter Tryd.func21, Tryd.ntmps21
    go_wp2
    go_loopw [5] (fun iv wr => iv = .int .i64 0 ∧ wr = w) (fun _ _ => 0)
    case atStart => exact ⟨rfl, rfl⟩
    case round =>
      obtain ⟨rfl, rfl⟩ := hrel
      go_wp2
      go_ret
      exact ⟨rfl, Below.refl _ _⟩
  · rcases h with ⟨h9, _⟩ | ⟨b, cap, rfl, hb, hcap, hc⟩
    · exact absurd h9 h0
    rcases h' with ⟨h9, _⟩ | ⟨b', cap', rfl, hb', hcap', hc'⟩
    · exact absurd h9 h0
    have HC := hide hc
    have HC' := hide hc'
    clear hc hc'
    go_enter Tryd.func21, Tryd.ntmps21
    go_wp2
    go_loopw [5] (fun iv wr => ∃ i : Nat, i ≤ n ∧ iv = .int .i64 i ∧ Below w.heap.size w wr) (fun iv _ => match iv with | .int _ x => n - x.toNat | _ => 0)
    case atStart => exact ⟨0, by omega, rfl, Below.refl _ _⟩
    case round =>
      obtain ⟨i, hi9, rfl, hbw⟩ := hrel
      by_cases hin : i < n
      · have c0 := (hbw.cell (p := ⟨b, i * 3, none⟩) (by assumption)).trans (HC.out i hin).1
        have c1 := (hbw.cell (p := ⟨b, i * 3 + 1, none⟩) (by assumption)).trans (HC.out i hin).2.1
        have c2 := (hbw.cell (p := ⟨b, i * 3 + 2, none⟩) (by assumption)).trans (HC.out i hin).2.2
        have e0 := (hbw.cell (p := ⟨b', i * 3, none⟩) (by assumption)).trans (HC'.out i hin).1
        have e1 := (hbw.cell (p := ⟨b', i * 3 + 1, none⟩) (by assumption)).trans (HC'.out i hin).2.1
        have e2 := (hbw.cell (p := ⟨b', i * 3 + 2, none⟩) (by assumption)).trans (HC'.out i hin).2.2
        have hlb : b < wr.heap.size := Nat.lt_of_lt_of_le hb hbw.size
        have hlb' : b' < wr.heap.size := Nat.lt_of_lt_of_le hb' hbw.size
        have HB := hide hbw
        clear hbw
        go_wp2_with fail
        go_region_held3 (fun w9 => (w9.cell? ⟨b, i * 3, none⟩ = some (.bool (x0 i)) ∧ w9.cell? ⟨b, i * 3 + 1, none⟩ = some (.int .i64 (x1 i)) ∧ w9.cell? ⟨b, i * 3 + 2, none⟩ = some (.int .i64 (x2 i))) ∧ w9.cell? ⟨b', i * 3, none⟩ = some (.bool (x0 i)) ∧ w9.cell? ⟨b', i * 3 + 1, none⟩ = some (.int .i64 (x1 i)) ∧ w9.cell? ⟨b', i * 3 + 2, none⟩ = some (.int .i64 (x2 i))) (go_keep)
          (first | (go_at_call 32; refine (eqCapture_any (x0 i) (x1 i) (x2 i) _).mono ?_; rintro e w2 ⟨rfl, hb2⟩; have q0 := (hb2.cell (p := ⟨b, i * 3, none⟩) hlb).trans c0; have r0 := (hb2.cell (p := ⟨b', i * 3, none⟩) hlb').trans e0; have q1 := (hb2.cell (p := ⟨b, i * 3 + 1, none⟩) hlb).trans c1; have r1 := (hb2.cell (p := ⟨b', i * 3 + 1, none⟩) hlb').trans e1; have q2 := (hb2.cell (p := ⟨b, i * 3 + 2, none⟩) hlb).trans c2; have r2 := (hb2.cell (p := ⟨b', i * 3 + 2, none⟩) hlb').trans e2; have HB2 := hide hb2; clear hb2))
        have HB3 := hide (HB.out.drew.trans (HB2.out.mono HB.out.size))
        rename_i hh
        clear hh c0 e0 q0 r0 c1 e1 q1 r1 c2 e2 q2 r2
        go_wp2
        go_roundw
        case rel => exact ⟨i + 1, by omega, by simp, HB3.out⟩
        case measure => simp; omega
      · obtain rfl : i = n := by omega
        go_wp2
        go_ret
        exact ⟨rfl, hbw⟩

set_option maxHeartbeats 800000 in
set_option maxRecDepth 100000 in
theorem eqFound_any (fr en : Int) (v v' : Value) (n : Nat) (x0 : Nat → Bool) (x1 x2 : Nat → Int) (w : World) (hn : n ≤ 1048576) (h : CpA w v n x0 x1 x2) (h' : CpA w v' n x0 x1 x2) :
    Calls Tryd.prog 7 #[.agg #[.int .i64 fr, .int .i64 en, v], .agg #[.int .i64 fr, .int .i64 en, v']] w fun e w' => e = .returned (.bool true) ∧ Below w.heap.size w w' := by
  obtain ⟨a, cap, rfl⟩ := h.val
  obtain ⟨a', cap', rfl⟩ := h'.val
  have HB := hide (b_2 w (.cells #[.int .i64 fr, .int .i64 en, .slice a n cap] 24) (.cells #[.int .i64 fr, .int .i64 en, .slice a' n cap'] 24))
  have H1 := hide (And.intro (h.low HB.out) (h'.low HB.out))
  clear h h'
  go_enter Tryd.func7, Tryd.ntmps7
  go_wp2_with fail
  refine (eqCaptureS_any _ _ n x0 x1 x2 _ hn H1.out.1 H1.out.2).mono ?_
  rintro e w1 ⟨rfl, hb1⟩
  have HB1 := hide (HB.out.trans (hb1.mono HB.out.size))
  clear hb1
  go_wp2_with fail
  go_ret
  exact ⟨rfl, HB1.out⟩
/-- What the marks of captures are. -/
def mkCp (j : Nat) : Value := if j % 3 = 0 then .bool false else .int .i64 ((j : Int) + 1)
theorem mkCp_0 (i : Nat) : mkCp (i * 3) = .bool false := by unfold mkCp; rw [if_pos (by omega)]
theorem mkCp_1 (i : Nat) : mkCp (i * 3 + 1) = .int .i64 ((i : Int) * 3 + 2) := by unfold mkCp; rw [if_neg (by omega)]; congr 1
theorem mkCp_2 (i : Nat) : mkCp (i * 3 + 2) = .int .i64 ((i : Int) * 3 + 3) := by unfold mkCp; rw [if_neg (by omega)]; congr 1

end Go.Proofs.YtemciphihnpniaaDoor
namespace Go.Proofs.YtemciphihnpniaaDoor
open Go Go.RowKit Go.Shelf
set_option linter.unusedVariables false

set_option maxHeartbeats 1600000 in
set_option maxRecDepth 100000 in
theorem markCap_row (g N cap : Nat) (f : Nat → Value) (w : World) (hN : N ≤ 2000000) (hc : N ≤ cap) (h : RowF w 64 g (N * 3) f) :
    Calls Tryd.prog 22 #[.slice (some ⟨g, 0, none⟩) N cap, .int .i64 1] w fun e w' => e = .returned (.int .i64 ((N : Int) * 3 + 1)) ∧ RowF w' 64 g (N * 3) mkCp ∧ Keeps w w' (fun b => b = g) := by
  have HR := hide h
  clear h
  go_enter Tryd.func22, Tryd.ntmps22
  go_wp2
  go_loopw [1, 5] (fun kv iv wr => ∃ i : Nat, i ≤ N ∧ iv = .int .i64 i ∧ kv = .int .i64 ((i : Int) * 3 + 1) ∧ Hid (RowF wr 64 g (N * 3) (fun j => if j < i * 3 then mkCp j else f j)) ∧ Hid (Keeps w wr (fun b => b = g))) (fun _ iv _ => N - ivN iv)
  case atStart => exact ⟨0, by omega, rfl, by simp, hide (HR.out.congr fun j hj => by simp), hide (Keeps.refl _ _)⟩
  case round =>
    obtain ⟨i, hi9, rfl, rfl, HRw, HKw⟩ := hrel
    by_cases hin : i < N
    · have c0 := HRw.out.cell (j := i * 3) (by omega)
      have c1 := HRw.out.cell (j := i * 3 + 1) (by omega)
      have c2 := HRw.out.cell (j := i * 3 + 2) (by omega)
      have z0 := HRw.out.frz (i * 3)
      have z1 := HRw.out.frz (i * 3 + 1)
      have z2 := HRw.out.frz (i * 3 + 2)
      have HS := hide (((HRw.out.set (j := i * 3) (by omega) (.bool false)).set (j := i * 3 + 1) (by omega) (.int .i64 ((i : Int) * 3 + 2))).set (j := i * 3 + 2) (by omega) (.int .i64 ((i : Int) * 3 + 3)))
      have HK2 := hide (((HKw.out.setCell (j := i * 3) (S := fun b => b = g) rfl (.bool false)).setCell (j := i * 3 + 1) (S := fun b => b = g) rfl (.int .i64 ((i : Int) * 3 + 2))).setCell (j := i * 3 + 2) (S := fun b => b = g) rfl (.int .i64 ((i : Int) * 3 + 3)))
      have hm3 : ((i : Int) * 3 + 1) % 3 = 1 := by omega
      have hmt : ((i : Int) * 3 + 1).tmod 3 = 1 := by rw [Int.tmod_eq_emod_of_nonneg (by omega)]; omega
      have hp1 : (i : Int) * 3 + 1 + 1 = (i : Int) * 3 + 2 := by omega
      have hp2 : (i : Int) * 3 + 2 + 1 = (i : Int) * 3 + 3 := by omega
      clear HRw HKw
      go_wp2_with fail
      go_roundw
      case rel =>
        refine ⟨i + 1, by omega, by simp, by simp; omega, hide (HS.out.congr fun j hj => ?_), HK2⟩
        show _ = if j < (i + 1) * 3 then mkCp j else f j
        by_cases e0 : j = i * 3
        · rw [e0, if_pos (show i * 3 < (i + 1) * 3 by omega), mkCp_0]; simp
        by_cases e1 : j = i * 3 + 1
        · rw [e1, if_pos (show i * 3 + 1 < (i + 1) * 3 by omega), mkCp_1]; simp
        by_cases e2 : j = i * 3 + 2
        · rw [e2, if_pos (show i * 3 + 2 < (i + 1) * 3 by omega), mkCp_2]; simp
        by_cases e9 : j < i * 3
        · simp [e0, e1, e2, e9, show j < (i + 1) * 3 by omega]
        · simp [e0, e1, e2, e9, show ¬ j < (i + 1) * 3 by omega]
      case measure => show N - ivN (.int .i64 _) < N - ivN (.int .i64 _); simp [ivN]; omega
    · obtain rfl : i = N := by omega
      have HF := hide (HRw.out.congr (f' := mkCp) fun j hj => by simp [hj])
      go_wp2_with fail
      go_ret
      exact ⟨rfl, HF.out, HKw.out⟩

set_option maxHeartbeats 1600000 in
set_option maxRecDepth 100000 in
theorem heldCap_row (g N cap : Nat) (w : World) (hN : N ≤ 2000000) (hc : N ≤ cap) (h : RowF w 64 g (N * 3) mkCp) :
    Calls Tryd.prog 23 #[.slice (some ⟨g, 0, none⟩) N cap, .int .i64 1] w fun e w' => e = .returned (.int .i64 ((N : Int) * 3 + 1)) ∧ Below w.heap.size w w' := by
  have HR := hide h
  clear h
  go_enter Tryd.func23, Tryd.ntmps23
  go_wp2
  go_loopw [1, 5] (fun kv iv wr => ∃ i : Nat, i ≤ N ∧ iv = .int .i64 i ∧ kv = .int .i64 ((i : Int) * 3 + 1) ∧ Below w.heap.size w wr) (fun _ iv _ => N - ivN iv)
  case atStart => exact ⟨0, by omega, rfl, by simp, Below.refl _ _⟩
  case round =>
    obtain ⟨i, hi9, rfl, rfl, hb⟩ := hrel
    by_cases hin : i < N
    · have hr := HR.out.low hb HR.out.lt
      have c0 := hr.cell (j := i * 3) (by omega)
      rw [mkCp_0] at c0
      have c1 := hr.cell (j := i * 3 + 1) (by omega)
      rw [mkCp_1] at c1
      have c2 := hr.cell (j := i * 3 + 2) (by omega)
      rw [mkCp_2] at c2
      have hm3 : ((i : Int) * 3 + 1) % 3 = 1 := by omega
      have hmt : ((i : Int) * 3 + 1).tmod 3 = 1 := by rw [Int.tmod_eq_emod_of_nonneg (by omega)]; omega
      have hp1 : (i : Int) * 3 + 1 + 1 = (i : Int) * 3 + 2 := by omega
      have hp2 : (i : Int) * 3 + 2 + 1 = (i : Int) * 3 + 3 := by omega
      clear hr
      go_wp2_with fail
      go_roundw
      case rel => exact ⟨i + 1, by omega, by simp, by simp; omega, hb⟩
      case measure => show N - ivN (.int .i64 _) < N - ivN (.int .i64 _); simp [ivN]; omega
    · obtain rfl : i = N := by omega
      go_wp2_with fail
      go_ret
      exact ⟨rfl, hb⟩

end Go.Proofs.YtemciphihnpniaaDoor
