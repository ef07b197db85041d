import Derived.Test.YtgnbhhgpaldheaaGreatKEN1
import Derived.Test.YtgnbhhgpaldheaaGreatKV3z
import Derived.Test.YtgnbhhgpaldheaaGreatKD11
import Derived.Test.YtgnbhhgpaldheaaGreatKD19
import Derived.Test.YtgnbhhgpaldheaaGreatKBQ
import Derived.Test.YtgnbhhgpaldheaaGreatKEL0
import Derived.Deep.RegionHeld3
import Derived.OrdersHeld
namespace Go.Proofs.YtgnbhhgpaldheaaGreat
open Go Go.RowKit
set_option linter.unusedVariables false
theorem mk_places (w : World) : (Instr.makeMap 55 none).run Tryz.prog w = .ok (.map (some w.heap.size)) (w.alloc (.map #[] 0)) := rfl
theorem k_map (w : World) : Below w.heap.size w (w.alloc (.map #[] 0)) := (Below.refl _ w).alloc (Nat.le_refl _) _
set_option maxHeartbeats 3200000 in
set_option maxRecDepth 100000 in
theorem newSh_any (p : PV) (G cap : Nat) (w : World) (hn : p.ni ≤ 65535) (h : LkA w G p.ni (lk0 p)) :
    Calls Tryz.prog 41 #[.slice (some ⟨G, 0, none⟩) p.ni cap] w fun e w' => ∃ S lm tm : Nat, e = .returned (.pointer (some ⟨S, 0, none⟩)) ∧ ShR w' S 0 lm tm true ∧ SetM w' lm p.ni (fun q => jmp (p.i0 q)) ∧ SetM w' tm p.ni (fun q => !jmp (p.i0 q) && p.i0 q == 2) ∧ lm ≠ tm ∧ w.heap.size ≤ S ∧ w.heap.size ≤ lm ∧ w.heap.size ≤ tm ∧ Below w.heap.size w w' := by
  have HA := hide h
  have hn2 : p.ni ≤ 1048576 := by omega
  have m1 := SetM.new w p.ni
  have m2 := SetM.new (w.alloc (.map #[] 0)) p.ni
  have b1 := k_map w
  have b2 := k_map (w.alloc (.map #[] 0))
  have s1 : (w.alloc (.map #[] 0)).heap.size = w.heap.size + 1 := by simp
  have s2 : ((w.alloc (.map #[] 0)).alloc (.map #[] 0)).heap.size = w.heap.size + 1 + 1 := by simp
  have hS := RowF.mk' ((w.alloc (.map #[] 0)).alloc (.map #[] 0)) 130 #[.int .i64 0, .map (some w.heap.size), .map (some (w.heap.size + 1)), .bool true]
  have b3 := b_1 ((w.alloc (.map #[] 0)).alloc (.map #[] 0)) (.cells #[.int .i64 0, .map (some w.heap.size), .map (some (w.heap.size + 1)), .bool true] 130)
  rw [s1] at m2 b2
  rw [s2] at hS b3
  have HS0 : Hid (ShR (((w.alloc (.map #[] 0)).alloc (.map #[] 0)).alloc (.cells #[.int .i64 0, .map (some w.heap.size), .map (some (w.heap.size + 1)), .bool true] 130)) (w.heap.size + 1 + 1) 0 w.heap.size (w.heap.size + 1) true) := hide (hS.congr (fun j hj => by
    have hj' : j < 4 := hj
    have : j = 0 ∨ j = 1 ∨ j = 2 ∨ j = 3 := by omega
    rcases this with rfl | rfl | rfl | rfl <;> rfl))
  have HM1 := hide ((m1.low b2 (by omega)).low b3 (by omega))
  have HM2 := hide (m2.low b3 (by omega))
  have HB0 := hide (b1.trans ((b2.mono (by omega)).trans (b3.mono (by omega))))
  have s3 : (((w.alloc (.map #[] 0)).alloc (.map #[] 0)).alloc (.cells #[.int .i64 0, .map (some w.heap.size), .map (some (w.heap.size + 1)), .bool true] 130)).heap.size = w.heap.size + 3 := by simp
  have HSz := hide s3
  clear h m1 m2 b1 b2 s1 s2 hS b3 s3
  have hmk := mk_places
  go_enter Tryz.func41, Tryz.ntmps41
  go_upto_region 2 with (fail)
  clear hmk
  generalize ((w.alloc (.map #[] 0)).alloc (.map #[] 0)).alloc (.cells #[.int .i64 0, .map (some w.heap.size), .map (some (w.heap.size + 1)), .bool true] 130) = w1 at *
  go_wp2_with fail
  obtain ⟨Z, hZ⟩ : ∃ Z, w.heap.size = Z := ⟨_, rfl⟩
  rw [hZ] at HS0 HM1 HM2 HB0 HSz ⊢
  have HZ := hide hZ
  clear hZ
  go_loopw [12] (fun iv wr => ∃ j : Nat, j ≤ p.ni ∧ iv = .int .i64 (j : Int) ∧ Hid (ShR wr (Z + 1 + 1) 0 Z (Z + 1) true) ∧ Hid (SetM wr Z p.ni (fun q => decide (q < j) && jmp (p.i0 q))) ∧ Hid (SetM wr (Z + 1) p.ni (fun q => decide (q < j) && (!jmp (p.i0 q) && p.i0 q == 2))) ∧ Hid (Below Z w wr)) (fun iv _ => p.ni - ivN iv)
  case atStart => exact ⟨0, Nat.zero_le _, rfl, HS0, hide (HM1.out.congr (fun q _ => by simp)), hide (HM2.out.congr (fun q _ => by simp)), HB0⟩
  case round =>
    clear HS0 HM1 HM2 HB0
    obtain ⟨j, hj, rfl, HS, HL, HT, HB⟩ := hrel
    by_cases hjn : j < p.ni
    · have hGl : G < Z := by have := HA.out.lt; have := HZ.out; omega
      have hA := HA.out.low HB.out hGl
      have l0 := LkA.o hA hjn
      have l1 := LkA.a hA hjn
      have l2 := LkA.b hA hjn
      have l3 := LkA.x hA hjn
      have l4 := LkA.l hA hjn
      have l5 := LkA.ah hA hjn
      have l6 := LkA.bh hA hjn
      have l7 := LkA.cv hA hjn
      have l8 := LkA.rd hA hjn
      have l9 := LkA.gn hA hjn
      unfold lk0 at l0 l1 l2 l3 l4 l5 l6 l7 l8 l9
      simp only at l0 l1 l2 l3 l4 l5 l6 l7 l8 l9
      have hX := RowF.mk' wr 94 #[.int .i64 (p.i0 j), .int .i64 (p.i1 j), .int .i64 (p.i2 j), .int .i64 (p.i3 j), .int .i64 (p.l0 j), .int .i64 ((j : Int) - 1), .int .i64 ((j : Int) + 1), .slice none 0 0, .bool false, .bool false]
      have hbX := b_1 wr (.cells #[.int .i64 (p.i0 j), .int .i64 (p.i1 j), .int .i64 (p.i2 j), .int .i64 (p.i3 j), .int .i64 (p.l0 j), .int .i64 ((j : Int) - 1), .int .i64 ((j : Int) + 1), .slice none 0 0, .bool false, .bool false] 94)
      have HX := hide hX
      have HS1 := hide (show ShR _ (Z + 1 + 1) 0 Z (Z + 1) true from RowF.low HS.out hbX (RowF.lt HS.out))
      have HL1 := hide (HL.out.low hbX HL.out.lt)
      have HT1 := hide (HT.out.low hbX HT.out.lt)
      have HB1 := hide (HB.out.trans (hbX.mono (by have := HL.out.lt; omega)))
      clear hX hbX hA hGl
      go_upto_region 5 with (fail)
      clear l0 l1 l2 l3 l4 l5 l6 l7 l8 l9
      generalize wr.alloc (.cells #[.int .i64 (p.i0 j), .int .i64 (p.i1 j), .int .i64 (p.i2 j), .int .i64 (p.i3 j), .int .i64 (p.l0 j), .int .i64 ((j : Int) - 1), .int .i64 ((j : Int) + 1), .slice none 0 0, .bool false, .bool false] 94) = wA at *
      generalize wr.heap.size = X at *
      have x0 : wA.cell? ⟨X, 0, none⟩ = some (.int .i64 (p.i0 j)) := HX.out.cell (j := 0) (by simp)
      have s1 := HS1.out.c1
      have s2 := HS1.out.c2
      have hlow : ∀ {b : Nat} {W W' : World}, Keeps W W' (fun c => c = b) → Z ≤ b → Z ≤ W.heap.size → Below Z W W' := fun k h1 h2 => k.below h2 (fun c e => by omega)
      have hZA : Z ≤ wA.heap.size := by have := HL1.out.lt; omega
      cases hJ : jmp (p.i0 j) with
      | true =>
        have HJ := hide hJ
        go_wp2_with (first
          | (go_at_call 88; refine (canJump_any _ _).mono ?_; rintro e w' ⟨rfl, hw⟩; obtain rfl := hw.symm; rw [hJ])
          | (go_at_call 52
             refine (padd_any HL1.out hn2 hjn).mono ?_
             rintro e w2 ⟨rfl, hl2, hk2⟩
             have HL2 := hide hl2
             have HS2 := hide (show ShR w2 (Z + 1 + 1) 0 Z (Z + 1) true from RowF.keep HS1.out hk2 (by omega))
             have HT2 := hide (HT1.out.keep hk2 (by omega))
             have HB2 := hide (HB1.out.trans (hlow hk2 (Nat.le_refl _) hZA))
             clear hl2 hk2)
          | fail)
        go_roundw
        case rel => exact ⟨j + 1, by omega, by simp, HS2, hide (HL2.out.congr (fun q _ => by
          by_cases e : q = j
          · subst e; simp [HJ.out]
          · have : (q < j + 1) = (q < j) := propext ⟨fun h => by omega, fun h => by omega⟩
            simp [e, this])), hide (HT2.out.congr (fun q _ => by
          by_cases e : q = j
          · subst e; simp [HJ.out]
          · have : (q < j + 1) = (q < j) := propext ⟨fun h => by omega, fun h => by omega⟩
            simp [this])), HB2⟩
        case measure => simp [ivN]; omega
      | false =>
        have HJ := hide hJ
        by_cases h2 : p.i0 j = 2
        · have he : (p.i0 j == 2) = true := by simp [h2]
          have HE := hide he
          clear h2
          go_wp2_with (first
            | (go_at_call 88; refine (canJump_any _ _).mono ?_; rintro e w' ⟨rfl, hw⟩; obtain rfl := hw.symm; rw [hJ])
            | (go_at_call 52
               refine (padd_any HT1.out hn2 hjn).mono ?_
               rintro e w2 ⟨rfl, hl2, hk2⟩
               have HT2 := hide hl2
               have HS2 := hide (show ShR w2 (Z + 1 + 1) 0 Z (Z + 1) true from RowF.keep HS1.out hk2 (by omega))
               have HL2 := hide (HL1.out.keep hk2 (by omega))
               have HB2 := hide (HB1.out.trans (hlow hk2 (Nat.le_succ _) hZA))
               clear hl2 hk2)
            | fail)
          go_roundw
          case rel => exact ⟨j + 1, by omega, by simp, HS2, hide (HL2.out.congr (fun q _ => by
            by_cases e : q = j
            · subst e; simp [HJ.out]
            · have : (q < j + 1) = (q < j) := propext ⟨fun h => by omega, fun h => by omega⟩
              simp [this])), hide (HT2.out.congr (fun q _ => by
            by_cases e : q = j
            · subst e; simp [HJ.out, HE.out]
            · have : (q < j + 1) = (q < j) := propext ⟨fun h => by omega, fun h => by omega⟩
              simp [e, this])), HB2⟩
          case measure => simp [ivN]; omega
        · have he : (p.i0 j == 2) = false := by simp [h2]
          have HE := hide he
          clear h2
          go_wp2_with (first
            | (go_at_call 88; refine (canJump_any _ _).mono ?_; rintro e w' ⟨rfl, hw⟩; obtain rfl := hw.symm; rw [hJ])
            | fail)
          go_roundw
          case rel => exact ⟨j + 1, by omega, by simp, HS1, hide (HL1.out.congr (fun q _ => by
            by_cases e : q = j
            · subst e; simp [HJ.out]
            · have : (q < j + 1) = (q < j) := propext ⟨fun h => by omega, fun h => by omega⟩
              simp [this])), hide (HT1.out.congr (fun q _ => by
            by_cases e : q = j
            · subst e; simp [HJ.out, HE.out]
            · have : (q < j + 1) = (q < j) := propext ⟨fun h => by omega, fun h => by omega⟩
              simp [this])), HB1⟩
          case measure => simp [ivN]; omega
    · obtain rfl : j = p.ni := by omega
      go_wp2_with fail
      go_ret
      have hz := HZ.out
      exact ⟨Z + 1 + 1, Z, Z + 1, rfl, HS.out, HL.out.congr (fun q hq => by simp [hq]), HT.out.congr (fun q hq => by simp [hq]), by omega, by omega, by omega, by omega, by rw [hz]; exact HB.out⟩
set_option maxHeartbeats 3200000 in
set_option maxRecDepth 100000 in
theorem left_any (G S n cap f lm tm : Nat) (un : Bool) (k : Lks) (c : Cf) (i2 : Nat → Int) (w : World) (hn : n ≤ 1048576) (h : LkA w G n k) (hr : LkR k n c i2) (hs : ShR w S (c.nf 0) lm tm un) :
    Calls Tryz.prog 47 #[.pointer (some ⟨S, 0, none⟩), .slice (some ⟨G, 0, none⟩) n cap] w fun e w' => ∃ b : Nat, e = .returned (.map (some b)) ∧ SetM w' b n c.lf ∧ w.heap.size ≤ b ∧ Below w.heap.size w w' := by
  have HA := hide h
  have HR := hide hr
  have HM0 := hide (SetM.new w n)
  have HB0 := hide (k_map w)
  have c0 := RowF.low hs (k_map w) (RowF.lt hs) |> ShR.c0
  have hnf0 : c.nf 0 ≤ n := by rw [← hr.en]; exact c.nf_le 0
  clear h hr hs
  have hmk := mk_places
  go_enter Tryz.func47, Tryz.ntmps47
  go_upto_region 2 with (fail)
  clear hmk
  generalize w.alloc (.map #[] 0) = w1 at *
  go_wp2_with fail
  clear c0
  obtain ⟨Z, hZ⟩ : ∃ Z, w.heap.size = Z := ⟨_, rfl⟩
  rw [hZ] at HM0 HB0 ⊢
  have HZ := hide hZ
  clear hZ
  go_loopw [6] (fun pv wr => ∃ p : Nat, pv = .int .i64 (p : Int) ∧ p ≤ n ∧ Hid (p = n ∨ c.L p) ∧ Hid (SetM wr Z n (fun q => decide (q < p) && c.lf q)) ∧ Hid (Below Z w wr)) (fun pv _ => n - ivN pv)
  case atStart =>
    refine ⟨c.nf 0, rfl, hnf0, hide ?_, hide (HM0.out.congr (fun q hq => ?_)), HB0⟩
    · rcases (c.nf_out 0).1 with h | h
      · exact .inr h.1
      · exact .inl (by rw [h, HR.out.en])
    · cases e : c.lf q with
      | false => simp
      | true =>
        have : ¬ q < c.nf 0 := fun z => (c.nf_out 0).2 q (Nat.zero_le _) z ⟨by rw [HR.out.en]; exact hq, e⟩
        simp [this]
  case round =>
    clear HM0 HB0 hnf0
    obtain ⟨p, rfl, hpn, HpL, HM, HB⟩ := hrel
    by_cases hp : p < n
    · have hpL : c.L p := by rcases HpL.out with e | e; omega; exact e
      have hGl : G < Z := by have := HA.out.lt; have := HZ.out; omega
      have hNx : p < c.nx p ∧ c.nx p ≤ n ∧ (c.nx p = n ∨ c.L (c.nx p)) := by
        have h1 : p + 1 ≤ c.nx p := Cf.nf_ge (c := c) (p := p + 1) hpL.1
        have h2 : c.nx p ≤ c.n := c.nf_le _
        have h3 := HR.out.en
        refine ⟨by omega, by omega, ?_⟩
        rcases (c.nf_out (p + 1)).1 with h | h
        · exact .inr h.1
        · exact .inl (by show c.nf (p + 1) = n; omega)
      have HNx := hide hNx
      have HBh := hide (HR.out.ebh p hpL)
      have HCg := hide (show ∀ q, q < n → (decide (q < c.nx p) && c.lf q) = ((decide (q < p) && c.lf q) || decide (q = p)) from fun q hq => by
        by_cases e : q = p
        · subst e; simp [hNx.1, hpL.2]
        · cases e2 : c.lf q with
          | false => simp [e]
          | true =>
            have : (q < c.nx p) ↔ (q < p) := by
              constructor
              · intro z
                rcases Nat.lt_or_ge q p with d | d
                · exact d
                · exact ((c.nf_out (p + 1)).2 q (by omega) z ⟨by rw [HR.out.en]; exact hq, e2⟩).elim
              · intro z; have := hNx.1; omega
            simp [e, this])
      clear hpL hNx
      generalize c.nx p = N at *
      have hZr : Z ≤ wr.heap.size := by have := HM.out.lt; omega
      go_wp2_with (first
        | (go_at_call 52
           refine (padd_any HM.out hn hp).mono ?_
           rintro e w2 ⟨rfl, hl2, hk2⟩
           have HM2 := hide hl2
           have HB2 := hide (HB.out.trans (hk2.below (B := Z) hZr (fun b e => by omega)))
           have r6 : w2.cell? ⟨G, p * 10 + 6, none⟩ = some (.int .i64 (N : Int)) := (LkA.bh (HA.out.low HB2.out hGl) hp).trans (by rw [HBh.out])
           clear hl2 hk2)
        | fail)
      go_roundw
      case rel => exact ⟨N, rfl, HNx.out.2.1, hide HNx.out.2.2, hide (HM2.out.congr (fun q hq => HCg.out q hq)), HB2⟩
      case measure => have := HNx.out.1; simp [ivN]; omega
    · obtain rfl : p = n := by omega
      go_wp2_with fail
      go_ret
      have hz := HZ.out
      exact ⟨Z, rfl, HM.out.congr (fun q hq => by simp [hq]), by omega, by rw [hz]; exact HB.out⟩
end Go.Proofs.YtgnbhhgpaldheaaGreat
namespace Go.Proofs.YtgnbhhgpaldheaaGreat
open Go Go.RowKit Go.Maps
set_option linter.unusedVariables false
def NowM (w : World) (b n m : Nat) (s : Nat → Bool) (f : Nat → Nat) : Prop := ∃ D : DataW Unit, w.ownsMap Tryz.prog 3 (plainElem Tryz.prog 3) b m D ∧ ∀ p, p < n → s p = true → ∀ zd, D.atKey (.int .i64 (p : Int)) zd = .lit (.int .i64 (f p : Int))
theorem NowM.lt {w : World} {b n m : Nat} {s : Nat → Bool} {f : Nat → Nat} (h : NowM w b n m s f) : b < w.heap.size := by
  obtain ⟨D, h1, _⟩ := h
  exact h1.lt
theorem NowM.keep {w w' : World} {b n m : Nat} {s : Nat → Bool} {f : Nat → Nat} {S : Nat → Prop} (h : NowM w b n m s f) (k : Keeps w w' S) (hn : ¬ S b) : NowM w' b n m s f := by
  have hl := h.lt
  obtain ⟨D, ⟨es, clk, h1, h2⟩, h3⟩ := h
  exact ⟨D, ⟨es, clk, (k.block b hl hn).trans h1, h2⟩, h3⟩
theorem NowM.low {w w' : World} {B b n m : Nat} {s : Nat → Bool} {f : Nat → Nat} (h : NowM w b n m s f) (k : Below B w w') (hb : b < B) : NowM w' b n m s f := by
  obtain ⟨D, ⟨es, clk, h1, h2⟩, h3⟩ := h
  exact ⟨D, ⟨es, clk, (k.block b hb).trans h1, h2⟩, h3⟩
theorem NowM.new (w : World) (n : Nat) (f : Nat → Nat) : NowM (w.alloc (.map #[] 0)) w.heap.size n 0 (fun _ => false) f :=
  ⟨.map [], World.ownsMap_made w Tryz.prog 3 _, fun p _ h => by cases h⟩
theorem NowM.congr {w : World} {b n m : Nat} {s s' : Nat → Bool} {f : Nat → Nat} (h : NowM w b n m s f) (e : ∀ p, p < n → s' p = s p) : NowM w b n m s' f := by
  obtain ⟨D, h1, h2⟩ := h
  exact ⟨D, h1, fun p hp hs => h2 p hp (by rw [← e p hp]; exact hs)⟩
theorem NowM.row {w : World} {b n m T g N : Nat} {s : Nat → Bool} {f : Nat → Nat} {F : Nat → Value} (h : NowM w b n m s f) (h' : RowF w T g N F) : b ≠ g := by
  rintro rfl
  obtain ⟨D, ⟨es, clk, h1, _⟩, _⟩ := h
  obtain ⟨cur, h2, _⟩ := h'
  rw [h1] at h2; cases h2
theorem mk_now (w : World) : (Instr.makeMap 58 none).run Tryz.prog w = .ok (.map (some w.heap.size)) (w.alloc (.map #[] 0)) := rfl
theorem zero_i (w : World) : (zeroValue 3).run Tryz.prog w = .ok (.int .i64 0) w := by kernel_rfl
theorem NowM.put {w : World} {b n m : Nat} {s : Nat → Bool} {f : Nat → Nat} (h : NowM w b n m s f) (hn : n ≤ 1048576) (hm : m ≤ 1048576) {p v : Nat} (hp : p < n) (hv : v = f p) (hf : f p ≤ 1048576) :
    ∃ w1, (Instr.mapUpdate 58 (.map (some b)) (.int .i64 (p : Int)) (.int .i64 (v : Int))).run Tryz.prog w = .ok () w1 ∧ NowM w1 b n (m + 1) (fun q => s q || decide (q = p)) f ∧ Keeps w w1 (fun c => c = b) := by
  obtain ⟨D, h1, h2⟩ := h
  subst hv
  have hk := keyZ (wfN (p := p) (by omega))
  have hw := wfN (p := f p) (by omega)
  obtain ⟨w1, hr, ho, hg⟩ := h1.update (int_keyed Tryz.underlying3) Tryz.underlying58 (by unfold maxLen; omega) hk (plainElem_int Tryz.underlying3 hw)
  have hmap : IsMap D := by obtain ⟨es, clk, _, _, _, rfl⟩ := h1; exact ⟨_, rfl⟩
  refine ⟨w1, hr, ⟨_, ho, fun q hq hs zd => ?_⟩, grown_keeps hg⟩
  by_cases e : q = p
  · subst e
    exact atKey_put_same hmap (by simp [WideAt.IsKeyLit]) _ zd
  · rw [atKey_put_other (by simpa using fun z => e (by omega))]
    exact h2 q hq (by simpa [e] using hs) zd
theorem NowM.look {w : World} {b n m : Nat} {s : Nat → Bool} {f : Nat → Nat} (h : NowM w b n m s f) (hn : n ≤ 1048576) {p : Nat} (hp : p < n) (hs : s p = true) :
    (Instr.lookup 58 (.map (some b)) (.int .i64 (p : Int)) false).run Tryz.prog w = .ok (.int .i64 (f p : Int)) w := by
  obtain ⟨D, h1, h2⟩ := h
  have hk := keyZ (wfN (p := p) (by omega))
  obtain ⟨c, hr, hat, _⟩ := h1.lookup_int (int_keyed Tryz.underlying3) Tryz.underlying58 Tryz.underlying3 (zero_i w) hk
  rw [h2 p hp hs] at hat
  have : (f p : Int) = c := by cases hat; rfl
  rw [hr, this]
def lkV (k : Lks) (q : Nat) : List Value := [.int .i64 (k.o q), .int .i64 (k.a q), .int .i64 (k.b q), .int .i64 (k.x q), .int .i64 (k.l q), .int .i64 (k.ah q), .int .i64 (k.bh q), k.cv q, .bool (k.rd q), .bool (k.gn q)]
set_option maxHeartbeats 3200000 in
set_option maxRecDepth 100000 in
theorem keptL_any (G n cap b : Nat) (k : Lks) (s : Nat → Bool) (w : World) (hn : n ≤ 65535) (h : LkA w G n k) (hm : SetM w b n s) (hcv : ∀ t, t < n → ∃ a L c, k.cv t = .slice a L c) :
    Calls Tryz.prog 46 #[.slice (some ⟨G, 0, none⟩) n cap, .map (some b)] w fun e w' => ∃ (v : Value) (bm m : Nat), e = .returned (.tuple #[v, .map (some bm)]) ∧ w'.ownsRow w.heap.size 94 10 v (cnt s n) ((kp s n).flatMap (lkV k)) ∧ NowM w' bm n m s (cnt s) ∧ w.heap.size ≤ bm ∧ Below w.heap.size w w' := by
  have HA := hide h
  have HM := hide hm
  have HCv := hide hcv
  have hn2 : n ≤ 1048576 := by omega
  have HN0 := hide (NowM.new w n (cnt s))
  have HB0 := hide (k_map w)
  have HLt := hide (And.intro h.lt hm.lt)
  clear h hm hcv
  have hmk := mk_now
  go_enter Tryz.func46, Tryz.ntmps46
  go_upto_region 3 with (fail)
  clear hmk
  generalize w.alloc (.map #[] 0) = w1 at *
  obtain ⟨Z, hZ⟩ : ∃ Z, w.heap.size = Z := ⟨_, rfl⟩
  rw [hZ] at HN0 HB0 HLt ⊢
  have HZ := hide hZ
  clear hZ
  go_wp2_with fail
  go_loopw [6, 13] (fun ov iv wr => ∃ j : Nat, j ≤ n ∧ iv = .int .i64 (j : Int) ∧ Hid (wr.ownsRow Z 94 10 ov (cnt s j) ((kp s j).flatMap (lkV k))) ∧ Hid (∃ m, m ≤ j ∧ NowM wr Z n m (fun q => decide (q < j) && s q) (cnt s)) ∧ Hid (Below Z w wr)) (fun _ iv _ => n - ivN iv)
  case atStart => exact ⟨0, Nat.zero_le _, rfl, hide (by simpa [kp, cnt] using World.ownsRow_nil w1 Z 94 10), hide ⟨0, Nat.le_refl _, HN0.out.congr (fun q _ => by simp)⟩, HB0⟩
  case round =>
    clear HN0 HB0
    obtain ⟨j, hj, rfl, HO, HNow, HB⟩ := hrel
    obtain ⟨oa, oc, rfl⟩ := owns_val HO.out
    have hZr : Z ≤ wr.heap.size := by obtain ⟨m, _, h1⟩ := HNow.out; have := h1.lt; omega
    by_cases hjn : j < n
    · obtain ⟨ca, cL, cc, hcv⟩ := HCv.out j hjn
      have hA := HA.out.low HB.out HLt.out.1
      have hM := HM.out.low HB.out HLt.out.2
      have l0 := LkA.o hA hjn
      have l1 := LkA.a hA hjn
      have l2 := LkA.b hA hjn
      have l3 := LkA.x hA hjn
      have l4 := LkA.l hA hjn
      have l5 := LkA.ah hA hjn
      have l6 := LkA.bh hA hjn
      have l7 := LkA.cv hA hjn
      have l8 := LkA.rd hA hjn
      have l9 := LkA.gn hA hjn
      rw [hcv] at l7
      have hX := RowF.mk' wr 94 #[.int .i64 (k.o j), .int .i64 (k.a j), .int .i64 (k.b j), .int .i64 (k.x j), .int .i64 (k.l j), .int .i64 (k.ah j), .int .i64 (k.bh j), .slice ca cL cc, .bool (k.rd j), .bool (k.gn j)]
      have hbX := b_1 wr (.cells #[.int .i64 (k.o j), .int .i64 (k.a j), .int .i64 (k.b j), .int .i64 (k.x j), .int .i64 (k.l j), .int .i64 (k.ah j), .int .i64 (k.bh j), .slice ca cL cc, .bool (k.rd j), .bool (k.gn j)] 94)
      have HX := hide hX
      have HMA := hide (hM.low hbX hM.lt)
      have HOA := hide (owns_past HO.out (Keeps.of hbX (Nat.le_refl _) (fun _ => False)) (fun _ _ x => x))
      have HNA := hide (show ∃ m, m ≤ j ∧ NowM _ Z n m (fun q => decide (q < j) && s q) (cnt s) from by obtain ⟨m, h1, h2⟩ := HNow.out; exact ⟨m, h1, h2.low hbX h2.lt⟩)
      have HBA := hide (HB.out.trans (hbX.mono hZr))
      have HVe := hide (show lkV k j = [.int .i64 (k.o j), .int .i64 (k.a j), .int .i64 (k.b j), .int .i64 (k.x j), .int .i64 (k.l j), .int .i64 (k.ah j), .int .i64 (k.bh j), .slice ca cL cc, .bool (k.rd j), .bool (k.gn j)] from by unfold lkV; rw [hcv])
      have hcl : cnt s j ≤ 65535 := by have := cnt_le s j; omega
      clear hX hbX hA hM hcv
      go_upto_region 6 with (fail)
      clear l0 l1 l2 l3 l4 l5 l6 l7 l8 l9
      generalize wr.alloc (.cells #[.int .i64 (k.o j), .int .i64 (k.a j), .int .i64 (k.b j), .int .i64 (k.x j), .int .i64 (k.l j), .int .i64 (k.ah j), .int .i64 (k.bh j), .slice ca cL cc, .bool (k.rd j), .bool (k.gn j)] 94) = wA at *
      have hXl := HX.out.lt
      generalize wr.heap.size = X at *
      have HP := hide (phas_any HMA.out hn2 hjn)
      cases hs : s j with
      | false =>
        rw [hs] at HP
        have HS := hide hs
        clear hs
        go_wp2_with (first
          | (go_at_call 18
             refine HP.out.mono ?_
             rintro e w2 ⟨rfl, hb2⟩
             have HO2 := hide (owns_past HOA.out (Keeps.of hb2 (Nat.le_refl _) (fun _ => False)) (fun _ _ x => x))
             have HN2 := hide (show ∃ m, m ≤ j ∧ NowM w2 Z n m (fun q => decide (q < j) && s q) (cnt s) from by obtain ⟨m, h1, h2⟩ := HNA.out; exact ⟨m, h1, h2.low hb2 h2.lt⟩)
             have HB2 := hide (HBA.out.trans (hb2.mono (by omega)))
             clear hb2)
          | fail)
        go_roundw
        case rel => exact ⟨j + 1, by omega, by simp, hide (by rw [cnt_1, kp_1, HS.out]; simpa using HO2.out), hide (by
          obtain ⟨m, h1, h2⟩ := HN2.out
          refine ⟨m, by omega, h2.congr (fun q _ => ?_)⟩
          by_cases e : q = j
          · subst e; simp [HS.out]
          · have : (q < j + 1) = (q < j) := propext ⟨fun h => by omega, fun h => by omega⟩
            simp [this]), HB2⟩
        case measure => simp [ivN]; omega
      | true =>
        rw [hs] at HP
        have HS := hide hs
        clear hs
        go_upto_region 7 with (first
          | (go_at_call 18
             refine HP.out.mono ?_
             rintro e w2 ⟨rfl, hb2⟩
             have HO2 := hide (owns_past HOA.out (Keeps.of hb2 (Nat.le_refl _) (fun _ => False)) (fun _ _ x => x))
             have HN2 := hide (show ∃ m, m ≤ j ∧ NowM w2 Z n m (fun q => decide (q < j) && s q) (cnt s) from by obtain ⟨m, h1, h2⟩ := HNA.out; exact ⟨m, h1, h2.low hb2 h2.lt⟩)
             have HB2 := hide (HBA.out.trans (hb2.mono (by omega)))
             have HX2 := hide (HX.out.low hb2 hXl)
             have hs2 := hb2.size
             clear hb2)
          | fail)
        obtain ⟨m, hm1, hm2⟩ := HN2.out
        obtain ⟨w3, hput, hn3, hk3⟩ := hm2.put hn2 (by omega) hjn (v := cnt s j) rfl (by omega)
        have hnX : Z ≠ X := hm2.row HX2.out
        have HX3 := hide (HX2.out.keep hk3 (fun e => hnX e.symm))
        have HO3 := hide (owns_past HO2.out hk3 (fun g e q => hm2.row (owns_rowF HO2.out e) q.symm))
        have HN3 := hide (show ∃ m, m ≤ j + 1 ∧ NowM w3 Z n m (fun q => decide (q < j + 1) && s q) (cnt s) from ⟨m + 1, by omega, hn3.congr (fun q _ => by
          by_cases e : q = j
          · subst e; simp [HS.out]
          · have : (q < j + 1) = (q < j) := propext ⟨fun h => by omega, fun h => by omega⟩
            simp [e, this])⟩)
        have HB3 := hide (HB2.out.trans (hk3.below (B := Z) (by omega) (fun b e => by omega)))
        have hs3 := hk3.size
        clear hn3 hk3 hm1 hm2 hnX
        go_upto_region 8 with (fail)
        clear hput
        have y0 : w3.cell? ⟨X, 0, none⟩ = some (.int .i64 (k.o j)) := HX3.out.cell (j := 0) (by simp)
        have y1 : w3.cell? ⟨X, 1, none⟩ = some (.int .i64 (k.a j)) := HX3.out.cell (j := 1) (by simp)
        have y2 : w3.cell? ⟨X, 2, none⟩ = some (.int .i64 (k.b j)) := HX3.out.cell (j := 2) (by simp)
        have y3 : w3.cell? ⟨X, 3, none⟩ = some (.int .i64 (k.x j)) := HX3.out.cell (j := 3) (by simp)
        have y4 : w3.cell? ⟨X, 4, none⟩ = some (.int .i64 (k.l j)) := HX3.out.cell (j := 4) (by simp)
        have y5 : w3.cell? ⟨X, 5, none⟩ = some (.int .i64 (k.ah j)) := HX3.out.cell (j := 5) (by simp)
        have y6 : w3.cell? ⟨X, 6, none⟩ = some (.int .i64 (k.bh j)) := HX3.out.cell (j := 6) (by simp)
        have y7 : w3.cell? ⟨X, 7, none⟩ = some (.slice ca cL cc) := HX3.out.cell (j := 7) (by simp)
        have y8 : w3.cell? ⟨X, 8, none⟩ = some (.bool (k.rd j)) := HX3.out.cell (j := 8) (by simp)
        have y9 : w3.cell? ⟨X, 9, none⟩ = some (.bool (k.gn j)) := HX3.out.cell (j := 9) (by simp)
        have hZ3 : Z ≤ w3.heap.size := by omega
        obtain ⟨LL, hLL⟩ : ∃ LL, (kp s j).flatMap (lkV k) = LL := ⟨_, rfl⟩
        rw [hLL] at HO3
        have HLL := hide hLL
        obtain ⟨C, hC⟩ : ∃ C, cnt s j = C := ⟨_, rfl⟩
        rw [hC] at HO3 hcl
        rw [hC]
        have HC := hide hC
        clear hLL hC
        go_upto_region 9 with (first
          | (at_builtin
             refine app_k rfl (.tmp 25) (.tmp 27) 88 94 10 88 _ rfl Tryz.underlying88 Tryz.info94 rfl (by decide) Z (.slice oa C oc) C LL [.int .i64 (k.o j), .int .i64 (k.a j), .int .i64 (k.b j), .int .i64 (k.x j), .int .i64 (k.l j), .int .i64 (k.ah j), .int .i64 (k.bh j), .slice ca cL cc, .bool (k.rd j), .bool (k.gn j)] HO3.out rfl rfl rfl (by simp [Value.oneCell']) (by omega) (by decide) hZ3 ?_
             intro v5 w5 hv5 hk5 hw5)
          | fail)
        have HO5 := hide hv5
        have HN5 := hide (show ∃ m, m ≤ j + 1 ∧ NowM w5 Z n m (fun q => decide (q < j + 1) && s q) (cnt s) from by
          obtain ⟨m, h1, h2⟩ := HN3.out
          exact ⟨m, h1, h2.keep hk5 (fun e => h2.row (owns_rowF HO3.out e) rfl)⟩)
        have HB5 := hide (HB3.out.trans (hk5.below (B := Z) hZ3 (fun b e => (owns_blk HO3.out e).1)))
        clear hv5 hk5 hw5 y0 y1 y2 y3 y4 y5 y6 y7 y8 y9
        go_wp2_with fail
        go_roundw
        case rel => exact ⟨j + 1, by omega, by simp, hide (by
          rw [cnt_1, kp_1, HS.out, HC.out]
          simp only [if_true, List.flatMap_append, List.flatMap_cons, List.flatMap_nil, List.append_nil]
          rw [HLL.out, HVe.out]
          exact HO5.out), HN5, HB5⟩
        case measure => simp [ivN]; omega
    · obtain rfl : j = n := by omega
      go_wp2_with fail
      go_ret2
      have hz := HZ.out
      obtain ⟨m, _, h2⟩ := HNow.out
      exact ⟨_, Z, m, rfl, by rw [hz]; exact HO.out, h2.congr (fun q hq => by simp [hq]), by omega, by rw [hz]; exact HB.out⟩
end Go.Proofs.YtgnbhhgpaldheaaGreat
namespace Go.Proofs.YtgnbhhgpaldheaaGreat
open Go Go.RowKit
set_option linter.unusedVariables false
def KiA (w : World) (KB : Nat) (K : List Int) : Prop := KB < w.heap.size ∧ ∀ j, j < K.length → w.cell? ⟨KB, j, none⟩ = some (.int .i64 (K.getD j 0))
theorem KiA.low {w w' : World} {KB B : Nat} {K : List Int} (h : KiA w KB K) (hb : Below B w w') (hB : KB < B) : KiA w' KB K := ⟨Nat.lt_of_lt_of_le h.1 hb.size, fun j hj => (hb.cell (p := ⟨KB, j, none⟩) hB).trans (h.2 j hj)⟩
theorem KiA.keep {w w' : World} {KB : Nat} {K : List Int} {S : Nat → Prop} (h : KiA w KB K) (k : Keeps w w' S) (hn : ¬ S KB) : KiA w' KB K := ⟨Nat.lt_of_lt_of_le h.1 k.size, fun j hj => (World.cell?_of_block (k.block KB h.1 hn)).trans (h.2 j hj)⟩
def isIn (K : List Int) (x : Int) : Bool := K.any (fun z => z == x)
def SameW (a b : World) : Prop := a = b
def IdxR (K : List Int) (x : Int) (w : World) (e : Ending) (w' : World) : Prop := ∃ r : Int, e = .returned (.int .i64 r) ∧ decide (r ≥ 0) = isIn K x ∧ w' = w
set_option maxHeartbeats 1600000 in
theorem index_any (KB kc : Nat) (K : List Int) (x : Int) (w : World) (hK : K.length ≤ 1000) (h : KiA w KB K) :
    Calls Tryz.prog 127 #[.slice (some ⟨KB, 0, none⟩) K.length kc, .int .i64 x] w fun e w' => IdxR K x w e w' := by
  have HH := hide h.2
  obtain ⟨L, hL⟩ : ∃ L, K.length = L := ⟨_, rfl⟩
  rw [hL] at HH hK ⊢
  have HL := hide hL
  clear h hL
  go_enter Tryz.func127, Tryz.ntmps127
  go_wp2_with fail
  go_loopw [8] (fun iv wr => ∃ j : Nat, j ≤ L ∧ iv = .int .i64 (j : Int) ∧ Hid (SameW wr w) ∧ Hid (∀ i, i < j → K.getD i 0 ≠ x)) (fun iv _ => L - ivN iv)
  case atStart => exact ⟨0, Nat.zero_le _, rfl, hide (by unfold SameW; rfl), hide (fun i hi => by omega)⟩
  case round =>
    obtain ⟨j, hj, rfl, HW, HN⟩ := hrel
    have hww := HW.out
    unfold SameW at hww
    obtain rfl := hww
    by_cases hjL : j < L
    · have cj := HH.out j hjL
      by_cases hx : x = K.getD j 0
      · have he : (x == K.getD j 0) = true := by simp [hx]
        have HX := hide hx
        clear hx
        generalize hv : K.getD j 0 = v at *
        go_wp2_with fail
        go_ret
        refine ⟨(j : Int), rfl, ?_, rfl⟩
        have : isIn K x = true := by
          unfold isIn
          rw [List.any_eq_true]
          refine ⟨v, ?_, by simp [HX.out]⟩
          rw [← hv, List.getD_eq_getElem?_getD, List.getElem?_eq_getElem (by rw [HL.out]; exact hjL)]
          exact List.getElem_mem _
        rw [this]
        simp
      · have he : (x == K.getD j 0) = false := beq_eq_false_iff_ne.2 hx
        have HX := hide hx
        clear hx
        generalize hv : K.getD j 0 = v at *
        have HV := hide hv
        clear hv
        go_wp2_with fail
        go_roundw
        case rel => exact ⟨j + 1, by omega, by simp, hide (by unfold SameW; rfl), hide (fun i hi => by
          by_cases e : i = j
          · subst e; rw [HV.out]; exact fun z => HX.out z.symm
          · exact HN.out i (by omega))⟩
        case measure => simp [ivN]; omega
    · obtain rfl : j = L := by omega
      go_wp2_with fail
      go_ret
      refine ⟨-1, rfl, ?_, rfl⟩
      have : isIn K x = false := by
        unfold isIn
        rw [List.any_eq_false]
        intro v hv
        obtain ⟨i, hi, rfl⟩ := List.getElem_of_mem hv
        have := HN.out i (by rw [← HL.out]; exact hi)
        rw [List.getD_eq_getElem?_getD, List.getElem?_eq_getElem hi] at this
        simpa using this
      rw [this]
      simp
theorem contains_any (KB kc : Nat) (K : List Int) (x : Int) (w : World) (hK : K.length ≤ 1000) (h : KiA w KB K) :
    Calls Tryz.prog 96 #[.slice (some ⟨KB, 0, none⟩) K.length kc, .int .i64 x] w fun e w' => e = .returned (.bool (isIn K x)) ∧ w' = w := by
  have HI := hide (index_any KB kc K x w hK h)
  clear h
  generalize K.length = L at *
  go_enter Tryz.func96, Tryz.ntmps96
  go_wp2_with (first
    | (go_at_call 127
       refine HI.out.mono ?_
       rintro e w' ⟨r, rfl, hr, hw⟩
       obtain rfl := hw.symm
       have HR := hide hr
       clear hr)
    | fail)
  go_ret
  exact ⟨by rw [← HR.out]; rfl, rfl⟩
def whO (K : List Int) (o : Int) : Option Nat := if isIn K (nmB o) = true then some 2 else if isIn K (nmC o) = true then some 3 else none
def OpnR (K : List Int) (o : Int) (g q : Nat) (w : World) (e : Ending) (w' : World) : Prop := e = .returned (.pointer ((whO K o).map fun r => ⟨g, q + r, none⟩)) ∧ Below w.heap.size w w'
set_option maxHeartbeats 1600000 in
theorem opNaming_any (KB kc g q : Nat) (K : List Int) (o : Int) (w : World) (hK : K.length ≤ 1000) (hk : knownI o) (h : KiA w KB K) (h0 : w.cell? ⟨g, q, none⟩ = some (.int .i64 o)) :
    Calls Tryz.prog 51 #[.pointer (some ⟨g, q, none⟩), .slice (some ⟨KB, 0, none⟩) K.length kc] w fun e w' => OpnR K o g q w e w' := by
  have HK := hide h
  obtain ⟨L, hL⟩ : ∃ L, K.length = L := ⟨_, rfl⟩
  have HCo := hide (fun (x : Int) (w' : World) (h' : KiA w' KB K) => contains_any KB kc K x w' hK h')
  rw [hL] at HCo ⊢
  have HKn := hide hk
  have HNb : Hid (∀ b, nmB o = b → nmB o = b) := hide (fun _ h => h)
  clear h hL hk
  go_enter Tryz.func51, Tryz.ntmps51
  go_upto_region 2 with (first
    | (go_at_call 82
       refine (namesOf_any o w).mono ?_
       rintro e w1 ⟨hnm, hb1⟩
       have hnm2 : e = .returned (.tuple #[nmV o, .bool true]) := by
         rcases hnm with ⟨_, h⟩ | ⟨h, _⟩
         · exact h
         · exact (h HKn.out).elim
       subst hnm2
       unfold nmV
       have HB1 := hide hb1
       clear hnm hb1)
    | fail)
  have hX := RowF.mk' w1 125 #[.int .i64 (nmA o), .int .i64 (nmB o), .int .i64 (nmC o), .int .i64 (nmY o)]
  have hbX := b_1 w1 (.cells #[.int .i64 (nmA o), .int .i64 (nmB o), .int .i64 (nmC o), .int .i64 (nmY o)] 125)
  have HX := hide hX
  have HB2 := hide (HB1.out.trans (hbX.mono HB1.out.size))
  have HK2 := hide (HK.out.low HB2.out HK.out.1)
  clear hX hbX
  generalize w1.alloc (.cells #[.int .i64 (nmA o), .int .i64 (nmB o), .int .i64 (nmC o), .int .i64 (nmY o)] 125) = w2 at *
  generalize w1.heap.size = X at *
  have x1 : w2.cell? ⟨X, 1, none⟩ = some (.int .i64 (nmB o)) := HX.out.cell (j := 1) (by simp)
  have x2 : w2.cell? ⟨X, 2, none⟩ = some (.int .i64 (nmC o)) := HX.out.cell (j := 2) (by simp)
  cases hB : isIn K (nmB o) with
  | true =>
    have HBt := hide hB
    have HC1 := hide (HCo.out (nmB o) w2 HK2.out)
    rw [hB] at HC1
    clear hB
    go_wp2_with (first
      | (go_at_call 96
         refine HC1.out.mono ?_
         rintro e w' ⟨rfl, hw⟩
         obtain rfl := hw.symm)
      | fail)
    go_ret
    exact ⟨by unfold whO; rw [if_pos HBt.out]; rfl, HB2.out⟩
  | false =>
    have HBf := hide hB
    have HC1 := hide (HCo.out (nmB o) w2 HK2.out)
    rw [hB] at HC1
    clear hB
    cases hC : isIn K (nmC o) with
    | true =>
      have HCt := hide hC
      have HC2 := hide (HCo.out (nmC o) w2 HK2.out)
      rw [hC] at HC2
      clear hC
      go_upto_region 4 with (first
        | (go_at_call 96
           refine HC1.out.mono ?_
           rintro e w' ⟨rfl, hw⟩
           obtain rfl := hw.symm)
        | fail)
      go_wp2_with (first
        | (go_at_call 96
           refine HC2.out.mono ?_
           rintro e w' ⟨rfl, hw⟩
           obtain rfl := hw.symm)
        | fail)
      go_ret
      exact ⟨by unfold whO; rw [if_neg (by rw [HBf.out]; simp), if_pos HCt.out]; rfl, HB2.out⟩
    | false =>
      have HCf := hide hC
      have HC2 := hide (HCo.out (nmC o) w2 HK2.out)
      rw [hC] at HC2
      clear hC
      go_upto_region 4 with (first
        | (go_at_call 96
           refine HC1.out.mono ?_
           rintro e w' ⟨rfl, hw⟩
           obtain rfl := hw.symm)
        | fail)
      go_wp2_with (first
        | (go_at_call 96
           refine HC2.out.mono ?_
           rintro e w' ⟨rfl, hw⟩
           obtain rfl := hw.symm)
        | fail)
      go_ret
      exact ⟨by unfold whO; rw [if_neg (by rw [HBf.out]; simp), if_neg (by rw [HCf.out]; simp)]; rfl, HB2.out⟩
theorem whO_23 {K : List Int} {o : Int} {r : Nat} (h : whO K o = some r) : r = 2 ∨ r = 3 := by
  unfold whO at h
  split at h
  · cases h; exact .inl rfl
  · split at h
    · cases h; exact .inr rfl
    · cases h
def nmQ (K : List Int) (i0 i2 i3 : Nat → Int) (q : Nat) : Option Nat := (whO K (i0 q)).map fun r => (if r = 2 then i2 q else i3 q).toNat
def adQ (K : List Int) (i0 i2 i3 : Nat → Int) (m x : Nat) : Bool := (List.range m).any (fun q => nmQ K i0 i2 i3 q == some x)
theorem adQ_1 (K : List Int) (i0 i2 i3 : Nat → Int) (m x : Nat) : adQ K i0 i2 i3 (m + 1) x = (adQ K i0 i2 i3 m x || (nmQ K i0 i2 i3 m == some x)) := by
  unfold adQ
  rw [List.range_succ, List.any_append]
  simp
def InN (K : List Int) (i0 i2 i3 : Nat → Int) (n : Nat) (s : Nat → Prop) : Prop := ∀ q, q < n → ∀ r, whO K (i0 q) = some r → 0 ≤ (if r = 2 then i2 q else i3 q) ∧ s (if r = 2 then i2 q else i3 q).toNat
set_option maxHeartbeats 1600000 in
set_option maxRecDepth 100000 in
theorem addNamed_any {b N g n cap KB kc : Nat} {K : List Int} {i0 i1 i2 i3 : Nat → Int} {s : Nat → Bool} {w : World} (hN : N ≤ 1048576) (hn : n ≤ 1048576) (hKl : K.length ≤ 1000) (hkn : ∀ q, q < n → knownI (i0 q)) (hv : InN K i0 i2 i3 n (fun x => x < N)) (hS : SetM w b N s) (hI : InsO w g n i0 i1 i2 i3) (hK : KiA w KB K) (hbg : b ≠ g) (hbK : b ≠ KB) :
    Calls Tryz.prog 20 #[.map (some b), .slice (some ⟨g, 0, none⟩) n cap, .slice (some ⟨KB, 0, none⟩) K.length kc] w fun e w' => e = .returned (.tuple #[]) ∧ SetM w' b N (fun x => s x || adQ K i0 i2 i3 n x) ∧ Keeps w w' (fun c => c = b) := by
  have HS0 := hide hS
  have HI := hide hI
  have HK := hide hK
  have HV := hide hv
  have HKn := hide hkn
  have HOp := hide (fun (q : Nat) (hq : q < n) (w' : World) (h' : KiA w' KB K) (h0 : w'.cell? ⟨g, q * 4, none⟩ = some (.int .i64 (i0 q))) => opNaming_any KB kc g (q * 4) K (i0 q) w' hKl (hkn q hq) h' h0)
  clear hS hI hK hv hkn
  generalize hL : K.length = L at *
  clear hL
  go_enter Tryz.func20, Tryz.ntmps20
  go_wp2_with fail
  go_loopw [10] (fun iv wr => ∃ j : Nat, j ≤ n ∧ iv = .int .i64 (j : Int) ∧ Hid (SetM wr b N (fun x => s x || adQ K i0 i2 i3 j x)) ∧ Hid (Keeps w wr (fun c => c = b))) (fun iv _ => n - ivN iv)
  case atStart => exact ⟨0, Nat.zero_le _, rfl, hide (HS0.out.congr (fun x _ => by unfold adQ; simp)), hide (Keeps.refl _ _)⟩
  case round =>
    clear HS0
    obtain ⟨j, hj, rfl, HS, HB⟩ := hrel
    by_cases hjn : j < n
    · have hI := HI.out.keep HB.out (fun e => hbg e.symm)
      have hK := HK.out.keep HB.out (fun e => hbK e.symm)
      obtain ⟨c0, _, c2, c3⟩ := hI.cells hjn
      have HC0 := hide c0
      have HC2 := hide c2
      have HC3 := hide c3
      have HKr := hide hK
      have HIr := hide hI
      have HO := hide (HOp.out j hjn wr hK c0)
      clear hI hK c0 c2 c3
      cases hW : whO K (i0 j) with
      | none =>
        have HW := hide hW
        clear hW
        go_wp2_with (first
          | (go_at_call 51
             refine HO.out.mono ?_
             rintro e w1 ⟨rfl, hb1⟩
             rw [HW.out]
             have HS1 := hide (HS.out.low hb1 HS.out.lt)
             have HB1 := hide (HB.out.trans (Keeps.of hb1 (Nat.le_refl _) _))
             clear hb1)
          | fail)
        go_roundw
        case rel => exact ⟨j + 1, by omega, by simp, hide (HS1.out.congr (fun x _ => by rw [adQ_1]; unfold nmQ; rw [HW.out]; simp)), HB1⟩
        case measure => simp [ivN]; omega
      | some r =>
        have hvr := HV.out j hjn r hW
        have hr := whO_23 hW
        have HW := hide hW
        clear hW
        obtain ⟨x, hx, hc⟩ : ∃ x : Nat, (if r = 2 then i2 j else i3 j) = (x : Int) ∧ wr.cell? ⟨g, j * 4 + r, none⟩ = some (.int .i64 (x : Int)) := by
          refine ⟨(if r = 2 then i2 j else i3 j).toNat, by omega, ?_⟩
          rw [Int.toNat_of_nonneg hvr.1]
          rcases hr with rfl | rfl
          · exact HC2.out
          · exact HC3.out
        rw [hx] at hvr
        have hxN : x < N := by simpa using hvr.2
        have HX := hide hx
        have HC := hide hc
        clear hx hvr hc
        go_wp2_with (first
          | (go_at_call 51
             refine HO.out.mono ?_
             rintro e w1 ⟨rfl, hb1⟩
             rw [HW.out]
             have HS1 := hide (HS.out.low hb1 HS.out.lt)
             have HB1 := hide (HB.out.trans (Keeps.of hb1 (Nat.le_refl _) _))
             have c1 : w1.cell? ⟨g, j * 4 + r, none⟩ = some (.int .i64 (x : Int)) := (hb1.cell (p := ⟨g, j * 4 + r, none⟩) HIr.out.lt).trans HC.out
             clear hb1)
          | (go_at_call 52
             refine (padd_any HS1.out hN hxN).mono ?_
             rintro e w2 ⟨rfl, hs2, hk2⟩
             have HS2 := hide hs2
             have HB2 := hide (HB1.out.trans hk2)
             clear hs2 hk2)
          | fail)
        go_roundw
        case rel => exact ⟨j + 1, by omega, by simp, hide (HS2.out.congr (fun y _ => by
          rw [adQ_1]; unfold nmQ; rw [HW.out]
          simp only [Option.map_some, HX.out, Int.toNat_natCast]
          rw [← Bool.or_assoc]
          congr 1
          by_cases e : y = x
          · subst e; simp
          · have e' : ¬ x = y := fun z => e z.symm
            simp [e, e'])), HB2⟩
        case measure => simp [ivN]; omega
    · obtain rfl : j = n := by omega
      go_wp2_with fail
      go_end0
      exact ⟨rfl, HS.out, HB.out⟩
def rn2 (K : List Int) (f : Nat → Nat) (i0 i2 : Nat → Int) (q : Nat) : Int := if whO K (i0 q) = some 2 then (f (i2 q).toNat : Int) else i2 q
def rn3 (K : List Int) (f : Nat → Nat) (i0 i3 : Nat → Int) (q : Nat) : Int := if whO K (i0 q) = some 3 then (f (i3 q).toNat : Int) else i3 q
set_option maxHeartbeats 1600000 in
set_option maxRecDepth 100000 in
theorem rename_any {b N m g n cap KB kc : Nat} {K : List Int} {i0 i1 i2 i3 : Nat → Int} {s : Nat → Bool} {f : Nat → Nat} {w : World} (hN : N ≤ 1048576) (hn : n ≤ 1048576) (hKl : K.length ≤ 1000) (hkn : ∀ q, q < n → knownI (i0 q)) (hv : InN K i0 i2 i3 n (fun x => x < N ∧ s x = true)) (hS : NowM w b N m s f) (hI : InsO w g n i0 i1 i2 i3) (hK : KiA w KB K) (hbg : b ≠ g) (hgK : g ≠ KB) :
    Calls Tryz.prog 22 #[.slice (some ⟨g, 0, none⟩) n cap, .map (some b), .slice (some ⟨KB, 0, none⟩) K.length kc] w fun e w' => e = .returned (.tuple #[]) ∧ InsO w' g n i0 i1 (rn2 K f i0 i2) (rn3 K f i0 i3) ∧ Keeps w w' (fun c => c = g) := by
  have HS := hide hS
  have HI0 := hide hI
  have HK := hide hK
  have HV := hide hv
  have HOp := hide (fun (q : Nat) (hq : q < n) (w' : World) (h' : KiA w' KB K) (h0 : w'.cell? ⟨g, q * 4, none⟩ = some (.int .i64 (i0 q))) => opNaming_any KB kc g (q * 4) K (i0 q) w' hKl (hkn q hq) h' h0)
  clear hS hI hK hv hkn
  generalize hL : K.length = L at *
  clear hL
  go_enter Tryz.func22, Tryz.ntmps22
  go_wp2_with fail
  go_loopw [10] (fun iv wr => ∃ j : Nat, j ≤ n ∧ iv = .int .i64 (j : Int) ∧ Hid (InsO wr g n i0 i1 (upK (rn2 K f i0 i2) i2 j) (upK (rn3 K f i0 i3) i3 j)) ∧ Hid (Keeps w wr (fun c => c = g))) (fun iv _ => n - ivN iv)
  case atStart => exact ⟨0, Nat.zero_le _, rfl, hide (HI0.out.congr (fun _ _ => rfl) (fun _ _ => rfl) (fun q _ => upK_0 _ _ q) (fun q _ => upK_0 _ _ q)), hide (Keeps.refl _ _)⟩
  case round =>
    clear HI0
    obtain ⟨j, hj, rfl, HI, HB⟩ := hrel
    by_cases hjn : j < n
    · have hK := HK.out.keep HB.out (fun e => hgK e.symm)
      obtain ⟨c0, _, c2, c3⟩ := HI.out.cells hjn
      rw [upK_k] at c2 c3
      have HC2 := hide c2
      have HC3 := hide c3
      have HKr := hide hK
      have HSr := hide (HS.out.keep HB.out hbg)
      have HO := hide (HOp.out j hjn wr hK c0)
      clear hK c0 c2 c3
      cases hW : whO K (i0 j) with
      | none =>
        have HW := hide hW
        clear hW
        go_wp2_with (first
          | (go_at_call 51
             refine HO.out.mono ?_
             rintro e w1 ⟨rfl, hb1⟩
             rw [HW.out]
             have HI1 := hide (HI.out.low hb1 HI.out.lt)
             have HB1 := hide (HB.out.trans (Keeps.of hb1 (Nat.le_refl _) _))
             clear hb1)
          | fail)
        go_roundw
        case rel => exact ⟨j + 1, by omega, by simp, hide (HI1.out.congr (fun _ _ => rfl) (fun _ _ => rfl) (fun q _ => upK_1 q (by unfold rn2; rw [HW.out]; rfl)) (fun q _ => upK_1 q (by unfold rn3; rw [HW.out]; rfl))), HB1⟩
        case measure => simp [ivN]; omega
      | some r =>
        have hvr := HV.out j hjn r hW
        have hr := whO_23 hW
        have HW := hide hW
        clear hW
        obtain ⟨x, hx, hc⟩ : ∃ x : Nat, (if r = 2 then i2 j else i3 j) = (x : Int) ∧ wr.cell? ⟨g, j * 4 + r, none⟩ = some (.int .i64 (x : Int)) := by
          refine ⟨(if r = 2 then i2 j else i3 j).toNat, by omega, ?_⟩
          rw [Int.toNat_of_nonneg hvr.1]
          rcases hr with rfl | rfl
          · exact HC2.out
          · exact HC3.out
        rw [hx] at hvr
        have hxN : x < N ∧ s x = true := by simpa using hvr.2
        have HX := hide hx
        have HC := hide hc
        have HxN := hide hxN
        clear hx hvr hc hxN
        go_wp2_with (first
          | (go_at_call 51
             refine HO.out.mono ?_
             rintro e w1 ⟨rfl, hb1⟩
             rw [HW.out]
             have HI1 := hide (HI.out.low hb1 HI.out.lt)
             have HB1 := hide (HB.out.trans (Keeps.of hb1 (Nat.le_refl _) _))
             have c1 : w1.cell? ⟨g, j * 4 + r, none⟩ = some (.int .i64 (x : Int)) := (hb1.cell (p := ⟨g, j * 4 + r, none⟩) HI.out.lt).trans HC.out
             have f1 := HI1.out.frz (j * 4 + r)
             have lk := (HSr.out.low hb1 HSr.out.lt).look hN HxN.out.1 HxN.out.2
             clear hb1)
          | fail)
        go_roundw
        case rel => exact ⟨j + 1, by omega, by simp, hide (by
          rcases hr with rfl | rfl
          · refine (HI1.out.set2 hjn (f x : Int)).congr (fun _ _ => rfl) (fun _ _ => rfl) (fun q _ => ?_) (fun q _ => upK_1 q (by unfold rn3; rw [HW.out]; rfl))
            rw [upK_s]
            split
            · rename_i e
              unfold rn2
              rw [HW.out, if_pos rfl, show i2 j = (x : Int) from HX.out]; rfl
            · rfl
          · refine (HI1.out.set3 hjn (f x : Int)).congr (fun _ _ => rfl) (fun _ _ => rfl) (fun q _ => upK_1 q (by unfold rn2; rw [HW.out]; rfl)) (fun q _ => ?_)
            rw [upK_s]
            split
            · rename_i e
              unfold rn3
              rw [HW.out, if_pos rfl, show i3 j = (x : Int) from HX.out]; rfl
            · rfl), hide (HB1.out.trans (k_set _ g _ _))⟩
        case measure => simp [ivN]; omega
    · obtain rfl : j = n := by omega
      go_wp2_with fail
      go_end0
      exact ⟨rfl, HI.out.congr (fun _ _ => rfl) (fun _ _ => rfl) (fun q hq => by rw [upK]; rw [if_pos hq]) (fun q hq => by rw [upK]; rw [if_pos hq]), HB.out⟩
set_option maxHeartbeats 3200000 in
set_option maxRecDepth 100000 in
theorem keptC_any (p : PV) (v5 : Value) (b : Nat) (s : Nat → Bool) (w : World) (hn : p.nc ≤ 65535) (h : ConsA w v5 p.nc p.c0 p.c1 p.c2 p.c3) (hm : SetM w b p.nc s) :
    Calls Tryz.prog 48 #[v5, .map (some b)] w fun e w' => ∃ (v : Value) (bm m : Nat), e = .returned (.tuple #[v, .map (some bm)]) ∧ w'.ownsRow w.heap.size 81 4 v (cnt s p.nc) (conK p s p.nc) ∧ NowM w' bm p.nc m s (cnt s) ∧ w.heap.size ≤ bm ∧ Below w.heap.size w w' := by
  have HA := hide h
  have HM := hide hm
  obtain ⟨a5, k5, rfl⟩ := h.val
  have hn2 : p.nc ≤ 1048576 := by omega
  have HN0 := hide (NowM.new w p.nc (cnt s))
  have HB0 := hide (k_map w)
  have HLt := hide hm.lt
  clear h hm
  have hmk := mk_now
  go_enter Tryz.func48, Tryz.ntmps48
  go_upto_region 3 with (fail)
  clear hmk
  generalize w.alloc (.map #[] 0) = w1 at *
  obtain ⟨Z, hZ⟩ : ∃ Z, w.heap.size = Z := ⟨_, rfl⟩
  rw [hZ] at HN0 HB0 HLt ⊢
  have HZ := hide hZ
  clear hZ
  go_wp2_with fail
  go_loopw [6, 13] (fun ov iv wr => ∃ j : Nat, j ≤ p.nc ∧ iv = .int .i64 (j : Int) ∧ Hid (wr.ownsRow Z 81 4 ov (cnt s j) (conK p s j)) ∧ Hid (∃ m, m ≤ j ∧ NowM wr Z p.nc m (fun q => decide (q < j) && s q) (cnt s)) ∧ Hid (Below Z w wr)) (fun _ iv _ => p.nc - ivN iv)
  case atStart => exact ⟨0, Nat.zero_le _, rfl, hide (by simpa [conK, kp, cnt] using World.ownsRow_nil w1 Z 81 4), hide ⟨0, Nat.le_refl _, HN0.out.congr (fun q _ => by simp)⟩, HB0⟩
  case round =>
    clear HN0 HB0
    obtain ⟨j, hj, rfl, HO, HNow, HB⟩ := hrel
    obtain ⟨oa, oc, rfl⟩ := owns_val HO.out
    have hZr : Z ≤ wr.heap.size := by obtain ⟨m, _, h1⟩ := HNow.out; have := h1.lt; omega
    by_cases hjn : j < p.nc
    · have hM := HM.out.low HB.out HLt.out
      rcases HA.out with ⟨h9, _⟩ | ⟨bc, oc2, cc, hve, hbc, hcp, hcc⟩
      · omega
      cases hve
      obtain ⟨x0, x1, x2, x3⟩ := hcc j hjn
      have hbcZ : bc < Z := by rw [← HZ.out]; exact hbc
      have l0 := (HB.out.cell (p := ⟨bc, oc2 + j * 4, none⟩) hbcZ).trans x0
      have l1 := (HB.out.cell (p := ⟨bc, oc2 + j * 4 + 1, none⟩) hbcZ).trans x1
      have l2 := (HB.out.cell (p := ⟨bc, oc2 + j * 4 + 2, none⟩) hbcZ).trans x2
      have l3 := (HB.out.cell (p := ⟨bc, oc2 + j * 4 + 3, none⟩) hbcZ).trans x3
      have hX := RowF.mk' wr 81 #[.int .i64 (p.c0 j), .int .i64 (p.c1 j), .int .u64 (p.c2 j), .string (p.c3 j)]
      have hbX := b_1 wr (.cells #[.int .i64 (p.c0 j), .int .i64 (p.c1 j), .int .u64 (p.c2 j), .string (p.c3 j)] 81)
      have HX := hide hX
      have HMA := hide (hM.low hbX hM.lt)
      have HOA := hide (owns_past HO.out (Keeps.of hbX (Nat.le_refl _) (fun _ => False)) (fun _ _ x => x))
      have HNA := hide (show ∃ m, m ≤ j ∧ NowM _ Z p.nc m (fun q => decide (q < j) && s q) (cnt s) from by obtain ⟨m, h1, h2⟩ := HNow.out; exact ⟨m, h1, h2.low hbX h2.lt⟩)
      have HBA := hide (HB.out.trans (hbX.mono hZr))
      have hcl : cnt s j ≤ 65535 := by have := cnt_le s j; omega
      clear hX hbX hM x0 x1 x2 x3 hcc
      go_upto_region 6 with (fail)
      clear l0 l1 l2 l3
      generalize wr.alloc (.cells #[.int .i64 (p.c0 j), .int .i64 (p.c1 j), .int .u64 (p.c2 j), .string (p.c3 j)] 81) = wA at *
      have hXl := HX.out.lt
      generalize wr.heap.size = X at *
      have HP := hide (phas_any HMA.out hn2 hjn)
      cases hs : s j with
      | false =>
        rw [hs] at HP
        have HS := hide hs
        clear hs
        go_wp2_with (first
          | (go_at_call 18
             refine HP.out.mono ?_
             rintro e w2 ⟨rfl, hb2⟩
             have HO2 := hide (owns_past HOA.out (Keeps.of hb2 (Nat.le_refl _) (fun _ => False)) (fun _ _ x => x))
             have HN2 := hide (show ∃ m, m ≤ j ∧ NowM w2 Z p.nc m (fun q => decide (q < j) && s q) (cnt s) from by obtain ⟨m, h1, h2⟩ := HNA.out; exact ⟨m, h1, h2.low hb2 h2.lt⟩)
             have HB2 := hide (HBA.out.trans (hb2.mono (by omega)))
             clear hb2)
          | fail)
        go_roundw
        case rel => exact ⟨j + 1, by omega, by simp, hide (by rw [cnt_1, conK_n _ _ _ HS.out, HS.out]; simpa using HO2.out), hide (by
          obtain ⟨m, h1, h2⟩ := HN2.out
          refine ⟨m, by omega, h2.congr (fun q _ => ?_)⟩
          by_cases e : q = j
          · subst e; simp [HS.out]
          · have : (q < j + 1) = (q < j) := propext ⟨fun h => by omega, fun h => by omega⟩
            simp [this]), HB2⟩
        case measure => simp [ivN]; omega
      | true =>
        rw [hs] at HP
        have HS := hide hs
        clear hs
        go_upto_region 7 with (first
          | (go_at_call 18
             refine HP.out.mono ?_
             rintro e w2 ⟨rfl, hb2⟩
             have HO2 := hide (owns_past HOA.out (Keeps.of hb2 (Nat.le_refl _) (fun _ => False)) (fun _ _ x => x))
             have HN2 := hide (show ∃ m, m ≤ j ∧ NowM w2 Z p.nc m (fun q => decide (q < j) && s q) (cnt s) from by obtain ⟨m, h1, h2⟩ := HNA.out; exact ⟨m, h1, h2.low hb2 h2.lt⟩)
             have HB2 := hide (HBA.out.trans (hb2.mono (by omega)))
             have HX2 := hide (HX.out.low hb2 hXl)
             have hs2 := hb2.size
             clear hb2)
          | fail)
        obtain ⟨m, hm1, hm2⟩ := HN2.out
        obtain ⟨w3, hput, hn3, hk3⟩ := hm2.put hn2 (by omega) hjn (v := cnt s j) rfl (by omega)
        have hnX : Z ≠ X := hm2.row HX2.out
        have HX3 := hide (HX2.out.keep hk3 (fun e => hnX e.symm))
        have HO3 := hide (owns_past HO2.out hk3 (fun g e q => hm2.row (owns_rowF HO2.out e) q.symm))
        have HN3 := hide (show ∃ m, m ≤ j + 1 ∧ NowM w3 Z p.nc m (fun q => decide (q < j + 1) && s q) (cnt s) from ⟨m + 1, by omega, hn3.congr (fun q _ => by
          by_cases e : q = j
          · subst e; simp [HS.out]
          · have : (q < j + 1) = (q < j) := propext ⟨fun h => by omega, fun h => by omega⟩
            simp [e, this])⟩)
        have HB3 := hide (HB2.out.trans (hk3.below (B := Z) (by omega) (fun b e => by omega)))
        have hs3 := hk3.size
        clear hn3 hk3 hm1 hm2 hnX
        go_upto_region 8 with (fail)
        clear hput
        have y0 : w3.cell? ⟨X, 0, none⟩ = some (.int .i64 (p.c0 j)) := HX3.out.cell (j := 0) (by simp)
        have y1 : w3.cell? ⟨X, 1, none⟩ = some (.int .i64 (p.c1 j)) := HX3.out.cell (j := 1) (by simp)
        have y2 : w3.cell? ⟨X, 2, none⟩ = some (.int .u64 (p.c2 j)) := HX3.out.cell (j := 2) (by simp)
        have y3 : w3.cell? ⟨X, 3, none⟩ = some (.string (p.c3 j)) := HX3.out.cell (j := 3) (by simp)
        have hZ3 : Z ≤ w3.heap.size := by omega
        obtain ⟨LL, hLL⟩ : ∃ LL, conK p s j = LL := ⟨_, rfl⟩
        rw [hLL] at HO3
        have HLL := hide hLL
        obtain ⟨C, hC⟩ : ∃ C, cnt s j = C := ⟨_, rfl⟩
        rw [hC] at HO3 hcl
        rw [hC]
        have HC := hide hC
        clear hLL hC
        go_upto_region 9 with (first
          | (at_builtin
             refine app_k rfl (.tmp 25) (.tmp 27) 41 81 4 40 _ rfl Tryz.underlying41 Tryz.info81 rfl (by decide) Z (.slice oa C oc) C LL [.int .i64 (p.c0 j), .int .i64 (p.c1 j), .int .u64 (p.c2 j), .string (p.c3 j)] HO3.out rfl rfl rfl (by simp [Value.oneCell']) (by omega) (by decide) hZ3 ?_
             intro v5 w5 hv5 hk5 hw5)
          | fail)
        have HO5 := hide hv5
        have HN5 := hide (show ∃ m, m ≤ j + 1 ∧ NowM w5 Z p.nc m (fun q => decide (q < j + 1) && s q) (cnt s) from by
          obtain ⟨m, h1, h2⟩ := HN3.out
          exact ⟨m, h1, h2.keep hk5 (fun e => h2.row (owns_rowF HO3.out e) rfl)⟩)
        have HB5 := hide (HB3.out.trans (hk5.below (B := Z) hZ3 (fun b e => (owns_blk HO3.out e).1)))
        clear hv5 hk5 hw5 y0 y1 y2 y3
        go_wp2_with fail
        go_roundw
        case rel => exact ⟨j + 1, by omega, by simp, hide (by
          rw [cnt_1, conK_1 _ _ _ HS.out, HS.out, HC.out, HLL.out]
          exact HO5.out), HN5, HB5⟩
        case measure => simp [ivN]; omega
    · obtain rfl : j = p.nc := by omega
      go_wp2_with fail
      go_ret2
      have hz := HZ.out
      obtain ⟨m, _, h2⟩ := HNow.out
      exact ⟨_, Z, m, rfl, by rw [hz]; exact HO.out, h2.congr (fun q hq => by simp [hq]), by omega, by rw [hz]; exact HB.out⟩
set_option maxRecDepth 100000 in
theorem cloneU_any (p : PV) (v : Value) (w : World) (hn : p.nu ≤ 1048576) (h : UpsA w v p.nu p.u0 p.u1) :
    Calls Tryz.prog 50 #[v] w fun e w' => ∃ v', e = .returned v' ∧ SlF w' 104 2 v' p.nu (upF p) ∧ Below w.heap.size w w' ∧ (∀ b, v'.ownBlock = some b → w.heap.size ≤ b) := by
  have HU := hide h
  have q22 : ∀ (w : World) (a : Option Addr) (n c n' c' : Nat), (binOp .eql 40 (.slice a n c) (.slice none n' c')).run Tryz.prog w = .ok (.bool a.isNone) w := fun w a n c n' c' => Lib.run_eql_slice_nil w _ _ a n c n' c' Tryz.underlying40
  obtain ⟨a, cap, rfl⟩ := h.val
  cases a with
  | none =>
    have hz : p.nu = 0 := by
      rcases h with ⟨h0, _⟩ | ⟨b, o, c, e, _⟩
      · exact h0
      · cases e
    have HZ := hide hz
    clear h hz
    go_enter Tryz.func50, Tryz.ntmps50
    go_wp2_with fail
    go_ret
    exact ⟨.slice none 0 0, rfl, ⟨none, 0, by rw [HZ.out], Nat.le_of_eq HZ.out, .inl ⟨rfl, HZ.out⟩⟩, Below.refl _ _, fun b e => by cases e⟩
  | some ad =>
    clear h
    go_enter Tryz.func50, Tryz.ntmps50
    go_wp2_with (first
      | (at_builtin
         refine app_ups2 rfl (.tmp 5) (.tmp 6) rfl p (.slice (some ad) p.nu cap) HU.out rfl rfl hn ?_
         intro v' w1 hv hb hg
         have HV := hide hv
         have HB := hide hb
         have HG := hide hg
         clear hv hb hg)
      | fail)
    go_ret
    exact ⟨_, rfl, HV.out, HB.out, HG.out⟩
theorem sclone_any (s : ByteArray) (w : World) (hlim : s.size ≤ 281474976710656) :
    Calls Tryz.prog 49 #[.string s] w fun e w' => e = .returned (.string s) ∧ Below w.heap.size w w' := by
  have HC := hide (Tryz.stringslite_Clone s w hlim)
  clear hlim
  go_enter Tryz.func49, Tryz.ntmps49
  go_wp2_with (first
    | (go_at_call 95
       refine HC.out.mono ?_
       rintro e w' ⟨rfl, hb⟩
       have HB := hide hb
       clear hb)
    | fail)
  go_ret
  exact ⟨rfl, HB.out⟩
theorem app_s {o : Oper} {a : Act} {K : Act → World → Prop} {Q : Exit → Act → World → Prop} (s x : Operand) (TS T size bytes : Nat) (z : Value)
    (ho : o.op = .call { callee := .builtin .append, args := #[s, x], argTypes := #[TS, TS] }) (hU : Tryz.prog.underlying TS = some (.slice T)) (hI : (Tryz.prog.info? T).map (fun i => (i.zero, i.size, i.bytes)) = some (some z, size, bytes)) (hz : z.cells.size = size) (hsz : 0 < size)
    (base : Nat) (v : Value) (n : Nat) (xs cs : List Value) (W : World) (g : Nat) (hown : W.ownsRow base T size v n xs) (hrow : RowF W T g size (fun j => cs.getD j (.bool false))) (hs : a.eval s = v) (hx : a.eval x = .slice (some ⟨g, 0, none⟩) 1 1) (hcs : cs.length = size) (h1 : ∀ u ∈ cs, u.oneCell' = true)
    (hlen : (n + 1) * bytes ≤ 140737488355328) (hb0 : 0 < bytes) (hbase : base ≤ W.heap.size)
    (h : ∀ v' w', w'.ownsRow base T size v' (n + 1) (xs ++ cs) → Keeps W w' (fun b => v.ownBlock = some b) → K (a.put o.dst v') w') :
    Oper.wp Tryz.prog o a W K Q := by
  obtain ⟨i0, hi, hz0, hz1, hz2⟩ := info_parts hI
  have hn : n + 1 ≤ 140737488355328 := Nat.le_trans (Nat.le_mul_of_pos_right _ hb0) hlen
  have hnews : ∀ j u, cs[j]? = some u → W.cell? ((⟨g, 0, none⟩ : Addr).add j) = some u := by
    intro j u hj
    have hj0 : j < size := by rw [← hcs]; exact (List.getElem?_eq_some_iff.1 hj).1
    rw [add_none']
    rw [show (⟨g, 0 + j, none⟩ : Addr) = ⟨g, j, none⟩ by rw [Nat.zero_add], hrow.cell (j := j) hj0, List.getD_eq_getElem?_getD, hj]
    rfl
  obtain ⟨v', w', hr, h2, h3, h4⟩ := run_append_own (P := Tryz.prog) W base TS o.type T i0 z size bytes hU hi hz0 hz1 hz2 hz hsz v n xs hown ⟨g, 0, none⟩ 1 1 cs (by omega) hnews h1 (by unfold maxLen; omega) hlen hbase
  unfold Oper.wp execOp
  simp only [ho, resolve, invoke, builtin, Sem.run_bind, Sem.run_pure, Result.andThen_ok, List.map_toArray, List.map_cons, List.map_nil, hs, hx, hr]
  refine h v' w' h2 ⟨h3.os, h3.tape, h3.output, h3.size, fun b hb hn => ?_⟩
  exact h3.block b hb (fun e => hn e.symm)
theorem Keeps.imp {w w' : World} {S S' : Nat → Prop} (h : Keeps w w' S) (hs : ∀ b, S b → S' b) : Keeps w w' S' := ⟨h.os, h.tape, h.output, h.size, fun b hb hn => h.block b hb (fun e => hn (hs b e))⟩
structure R9 (base Z P X : Nat) (v6 v7 : Value) (n6 n7 : Nat) (xs6 xs7 : List Value) (y0 y1 y2 y3 yl : Int) (bf xf : Nat → Value) (w0 : World) (o6 o7 : Option Nat) (W : World) : Prop where
  own6 : W.ownsRow base 51 4 v6 n6 xs6
  own7 : W.ownsRow base 3 1 v7 n7 xs7
  box : RowF W 45 P 8 bf
  lnk : RowF W 94 X 10 xf
  lv : xf 0 = .int .i64 y0 ∧ xf 1 = .int .i64 y1 ∧ xf 2 = .int .i64 y2 ∧ xf 3 = .int .i64 y3 ∧ xf 4 = .int .i64 yl
  arg6 : ∀ g, o6 = some g → RowF W 51 g 4 (fun j => ([.int .i64 y0, .int .i64 y1, .int .i64 y2, .int .i64 y3] : List Value).getD j (.bool false))
  arg7 : ∀ g, o7 = some g → RowF W 3 g 1 (fun j => ([.int .i64 yl] : List Value).getD j (.bool false))
  bel : Below Z w0 W
  zb : Z ≤ base ∧ base ≤ W.heap.size
  zp : Z ≤ P
  kp : Keeps w0 W (fun b => b = P ∨ base ≤ b)
theorem R9.S {base Z P X : Nat} {v6 v7 : Value} {n6 n7 : Nat} {xs6 xs7 : List Value} {y0 y1 y2 y3 yl : Int} {bf xf : Nat → Value} {w0 : World} {o6 o7 : Option Nat} {W : World} (h : R9 base Z P X v6 v7 n6 n7 xs6 xs7 y0 y1 y2 y3 yl bf xf w0 o6 o7 W) : W.cell? ⟨X, 0, none⟩ = some (.int .i64 y0) ∧ W.cell? ⟨X, 1, none⟩ = some (.int .i64 y1) ∧ W.cell? ⟨X, 2, none⟩ = some (.int .i64 y2) ∧ W.cell? ⟨X, 3, none⟩ = some (.int .i64 y3) ∧ W.cell? ⟨X, 4, none⟩ = some (.int .i64 yl) := by
  obtain ⟨e0, e1, e2, e3, e4⟩ := h.lv
  rw [h.lnk.cell (j := 0) (by omega), h.lnk.cell (j := 1) (by omega), h.lnk.cell (j := 2) (by omega), h.lnk.cell (j := 3) (by omega), h.lnk.cell (j := 4) (by omega), e0, e1, e2, e3, e4]
  exact ⟨rfl, rfl, rfl, rfl, rfl⟩
theorem R9.al6 {base Z P X : Nat} {v6 v7 : Value} {n6 n7 : Nat} {xs6 xs7 : List Value} {y0 y1 y2 y3 yl : Int} {bf xf : Nat → Value} {w0 : World} {o6 o7 : Option Nat} {W : World} (h : R9 base Z P X v6 v7 n6 n7 xs6 xs7 y0 y1 y2 y3 yl bf xf w0 o6 o7 W) : R9 base Z P X v6 v7 n6 n7 xs6 xs7 y0 y1 y2 y3 yl bf xf w0 (some W.heap.size) o7 (W.alloc (.cells #[.int .i64 y0, .int .i64 y1, .int .i64 y2, .int .i64 y3] 51)) := by
  have hb := b_1 W (.cells #[.int .i64 y0, .int .i64 y1, .int .i64 y2, .int .i64 y3] 51)
  have hk := Keeps.of hb (Nat.le_refl _) (fun _ => False)
  refine ⟨owns_past h.own6 hk (fun _ _ x => x), owns_past h.own7 hk (fun _ _ x => x), h.box.low hb h.box.lt, h.lnk.low hb h.lnk.lt, h.lv, fun g e => ?_, fun g e => (h.arg7 g e).low hb (h.arg7 g e).lt, h.bel.trans (hb.mono (Nat.le_trans h.zb.1 h.zb.2)), ⟨h.zb.1, Nat.le_trans h.zb.2 hb.size⟩, h.zp, h.kp.trans (Keeps.of hb (Nat.le_refl _) _)⟩
  cases e
  exact (RowF.mk' W 51 #[.int .i64 y0, .int .i64 y1, .int .i64 y2, .int .i64 y3]).congr (fun j hj => by
    have hj' : j < 4 := hj
    have : j = 0 ∨ j = 1 ∨ j = 2 ∨ j = 3 := by omega
    rcases this with rfl | rfl | rfl | rfl <;> rfl)
theorem R9.al7 {base Z P X : Nat} {v6 v7 : Value} {n6 n7 : Nat} {xs6 xs7 : List Value} {y0 y1 y2 y3 yl : Int} {bf xf : Nat → Value} {w0 : World} {o6 o7 : Option Nat} {W : World} (h : R9 base Z P X v6 v7 n6 n7 xs6 xs7 y0 y1 y2 y3 yl bf xf w0 o6 o7 W) : R9 base Z P X v6 v7 n6 n7 xs6 xs7 y0 y1 y2 y3 yl bf xf w0 o6 (some W.heap.size) (W.alloc (.cells #[.int .i64 yl] 3)) := by
  have hb := b_1 W (.cells #[.int .i64 yl] 3)
  have hk := Keeps.of hb (Nat.le_refl _) (fun _ => False)
  refine ⟨owns_past h.own6 hk (fun _ _ x => x), owns_past h.own7 hk (fun _ _ x => x), h.box.low hb h.box.lt, h.lnk.low hb h.lnk.lt, h.lv, fun g e => (h.arg6 g e).low hb (h.arg6 g e).lt, fun g e => ?_, h.bel.trans (hb.mono (Nat.le_trans h.zb.1 h.zb.2)), ⟨h.zb.1, Nat.le_trans h.zb.2 hb.size⟩, h.zp, h.kp.trans (Keeps.of hb (Nat.le_refl _) _)⟩
  cases e
  exact (RowF.mk' W 3 #[.int .i64 yl]).congr (fun j hj => by
    have hj' : j < 1 := hj
    obtain rfl : j = 0 := by omega
    rfl)
theorem R9.app6 {base Z P X : Nat} {v6 v7 : Value} {n6 n7 : Nat} {xs6 xs7 : List Value} {y0 y1 y2 y3 yl : Int} {bf xf : Nat → Value} {w0 : World} {g : Nat} {o7 : Option Nat} {W : World} {o : Oper} {a : Act} {K : Act → World → Prop} {Q : Exit → Act → World → Prop} (h : R9 base Z P X v6 v7 n6 n7 xs6 xs7 y0 y1 y2 y3 yl bf xf w0 (some g) o7 W) (s x : Operand)
    (ho : o.op = .call { callee := .builtin .append, args := #[s, x], argTypes := #[42, 42] }) (hs : a.eval s = v6) (hx : a.eval x = .slice (some ⟨g, 0, none⟩) 1 1) (hlen : n6 ≤ 65535)
    (hh : ∀ a' c' w', R9 base Z P X (.slice a' (n6 + 1) c') v7 (n6 + 1) n7 (xs6 ++ [.int .i64 y0, .int .i64 y1, .int .i64 y2, .int .i64 y3]) xs7 y0 y1 y2 y3 yl bf xf w0 none o7 w' → K (a.put o.dst (.slice a' (n6 + 1) c')) w') : Oper.wp Tryz.prog o a W K Q := by
  refine app_s s x 42 51 4 32 _ ho Tryz.underlying42 Tryz.info51 rfl (by decide) base v6 n6 xs6 [.int .i64 y0, .int .i64 y1, .int .i64 y2, .int .i64 y3] W g h.own6 (h.arg6 g rfl) hs hx rfl (by simp [Value.oneCell']) (by omega) (by decide) h.zb.2 ?_
  intro v' w' h1 hk
  obtain ⟨a', c', rfl⟩ := owns_val h1
  exact hh a' c' w' ⟨h1, owns_past h.own7 hk (fun g e hg => (owns_rowF h.own7 e).apart (owns_rowF h.own6 hg) (by decide) rfl), h.box.keep hk (fun e => (owns_rowF h.own6 e).apart h.box (by decide) rfl), h.lnk.keep hk (fun e => (owns_rowF h.own6 e).apart h.lnk (by decide) rfl), h.lv, fun g e => (by cases e), fun g e => (h.arg7 g e).keep hk (fun e' => (owns_rowF h.own6 e').apart (h.arg7 g e) (by decide) rfl), h.bel.trans (hk.below (B := Z) (Nat.le_trans h.zb.1 h.zb.2) (fun b e => Nat.le_trans h.zb.1 (owns_blk h.own6 e).1)), ⟨h.zb.1, Nat.le_trans h.zb.2 hk.size⟩, h.zp, h.kp.trans (hk.imp fun b e => .inr (owns_blk h.own6 e).1)⟩
theorem R9.app7 {base Z P X : Nat} {v6 v7 : Value} {n6 n7 : Nat} {xs6 xs7 : List Value} {y0 y1 y2 y3 yl : Int} {bf xf : Nat → Value} {w0 : World} {g : Nat} {o6 : Option Nat} {W : World} {o : Oper} {a : Act} {K : Act → World → Prop} {Q : Exit → Act → World → Prop} (h : R9 base Z P X v6 v7 n6 n7 xs6 xs7 y0 y1 y2 y3 yl bf xf w0 o6 (some g) W) (s x : Operand)
    (ho : o.op = .call { callee := .builtin .append, args := #[s, x], argTypes := #[43, 43] }) (hs : a.eval s = v7) (hx : a.eval x = .slice (some ⟨g, 0, none⟩) 1 1) (hlen : n7 ≤ 65535)
    (hh : ∀ a' c' w', R9 base Z P X v6 (.slice a' (n7 + 1) c') n6 (n7 + 1) xs6 (xs7 ++ [.int .i64 yl]) y0 y1 y2 y3 yl bf xf w0 o6 none w' → K (a.put o.dst (.slice a' (n7 + 1) c')) w') : Oper.wp Tryz.prog o a W K Q := by
  refine app_s s x 43 3 1 8 _ ho Tryz.underlying43 Tryz.info3 rfl (by decide) base v7 n7 xs7 [.int .i64 yl] W g h.own7 (h.arg7 g rfl) hs hx rfl (by simp [Value.oneCell']) (by omega) (by decide) h.zb.2 ?_
  intro v' w' h1 hk
  obtain ⟨a', c', rfl⟩ := owns_val h1
  exact hh a' c' w' ⟨owns_past h.own6 hk (fun g e hg => (owns_rowF h.own6 e).apart (owns_rowF h.own7 hg) (by decide) rfl), h1, h.box.keep hk (fun e => (owns_rowF h.own7 e).apart h.box (by decide) rfl), h.lnk.keep hk (fun e => (owns_rowF h.own7 e).apart h.lnk (by decide) rfl), h.lv, fun g e => (h.arg6 g e).keep hk (fun e' => (owns_rowF h.own7 e').apart (h.arg6 g e) (by decide) rfl), fun g e => (by cases e), h.bel.trans (hk.below (B := Z) (Nat.le_trans h.zb.1 h.zb.2) (fun b e => Nat.le_trans h.zb.1 (owns_blk h.own7 e).1)), ⟨h.zb.1, Nat.le_trans h.zb.2 hk.size⟩, h.zp, h.kp.trans (hk.imp fun b e => .inr (owns_blk h.own7 e).1)⟩
theorem R9.drew {base Z P X : Nat} {v6 v7 : Value} {n6 n7 : Nat} {xs6 xs7 : List Value} {y0 y1 y2 y3 yl : Int} {bf xf : Nat → Value} {w0 : World} {o6 o7 : Option Nat} {W : World} (h : R9 base Z P X v6 v7 n6 n7 xs6 xs7 y0 y1 y2 y3 yl bf xf w0 o6 o7 W) : R9 base Z P X v6 v7 n6 n7 xs6 xs7 y0 y1 y2 y3 yl bf xf w0 o6 o7 W.drew :=
  ⟨h.own6, h.own7, h.box, h.lnk, h.lv, h.arg6, h.arg7, h.bel.drew, h.zb, h.zp, keeps_drew h.kp⟩
theorem R9.set {base Z P X : Nat} {v6 v7 : Value} {n6 n7 : Nat} {xs6 xs7 : List Value} {y0 y1 y2 y3 yl : Int} {bf xf : Nat → Value} {w0 : World} {o6 o7 : Option Nat} {W : World} (h : R9 base Z P X v6 v7 n6 n7 xs6 xs7 y0 y1 y2 y3 yl bf xf w0 o6 o7 W) (hP : Z ≤ P) :
    ((W.setCell ⟨P, 6, none⟩ v6).setCell ⟨P, 7, none⟩ v7).ownsRow base 51 4 v6 n6 xs6 ∧ ((W.setCell ⟨P, 6, none⟩ v6).setCell ⟨P, 7, none⟩ v7).ownsRow base 3 1 v7 n7 xs7 ∧ RowF ((W.setCell ⟨P, 6, none⟩ v6).setCell ⟨P, 7, none⟩ v7) 45 P 8 (fun j => if j = 7 then v7 else if j = 6 then v6 else bf j) ∧ Below Z w0 ((W.setCell ⟨P, 6, none⟩ v6).setCell ⟨P, 7, none⟩ v7) ∧ Keeps w0 ((W.setCell ⟨P, 6, none⟩ v6).setCell ⟨P, 7, none⟩ v7) (fun b => b = P ∨ base ≤ b) := by
  have hk : Keeps W ((W.setCell ⟨P, 6, none⟩ v6).setCell ⟨P, 7, none⟩ v7) (fun b => b = P) := (k_set W P 6 v6).trans (k_set _ P 7 v7)
  exact ⟨owns_past h.own6 hk (fun g e hg => (owns_rowF h.own6 e).apart h.box (by decide) hg), owns_past h.own7 hk (fun g e hg => (owns_rowF h.own7 e).apart h.box (by decide) hg), (h.box.set (j := 6) (by omega) v6).set (j := 7) (by omega) v7, (h.bel.setCell (p := ⟨P, 6, none⟩) hP v6).setCell (p := ⟨P, 7, none⟩) hP v7, h.kp.trans (hk.imp fun b e => .inl e)⟩
theorem R9.far {base Z P X : Nat} {v6 v7 : Value} {n6 n7 : Nat} {xs6 xs7 : List Value} {y0 y1 y2 y3 yl : Int} {bf xf : Nat → Value} {w0 : World} {o6 o7 : Option Nat} {W : World} (h : R9 base Z P X v6 v7 n6 n7 xs6 xs7 y0 y1 y2 y3 yl bf xf w0 o6 o7 W) {j : Nat} (hj : j < 8) (v : Value) : R9 base Z P X v6 v7 n6 n7 xs6 xs7 y0 y1 y2 y3 yl (fun i => if i = j then v else bf i) xf w0 none none (W.setCell ⟨P, j, none⟩ v) := by
  have hk := k_set W P j v
  exact ⟨owns_past h.own6 hk (fun g e hg => (owns_rowF h.own6 e).apart h.box (by decide) hg), owns_past h.own7 hk (fun g e hg => (owns_rowF h.own7 e).apart h.box (by decide) hg), h.box.set (j := j) hj v, h.lnk.keep hk (fun e => h.lnk.apart h.box (by decide) e), h.lv, fun g e => (by cases e), fun g e => (by cases e), h.bel.setCell (p := ⟨P, j, none⟩) h.zp v, ⟨h.zb.1, Nat.le_trans h.zb.2 hk.size⟩, h.zp, h.kp.trans (hk.imp fun b e => .inl e)⟩
theorem R9.p {base Z P X : Nat} {v6 v7 : Value} {n6 n7 : Nat} {xs6 xs7 : List Value} {y0 y1 y2 y3 yl : Int} {bf xf : Nat → Value} {w0 : World} {o6 o7 : Option Nat} {W : World} (h : R9 base Z P X v6 v7 n6 n7 xs6 xs7 y0 y1 y2 y3 yl bf xf w0 o6 o7 W) (j : Nat) (hj : j < 8) : W.cell? ⟨P, j, none⟩ = some (bf j) := h.box.cell (j := j) hj
def r9 : List Oper := [{ dst := some 40, op := Op.fieldAddr 45 (Operand.tmp 1) 6, type := 0, pos := "l14_optimize.go:107", after := #[], guard := none }, { dst := some 41, op := Op.load 42 (Operand.tmp 40), type := 42, pos := "l14_optimize.go:107", after := #[{ on := 0, ground := Ground.data }], guard := none }, { dst := some 42, op := Op.fieldAddr 94 (Operand.tmp 8) 0, type := 0, pos := "l14_optimize.go:107", after := #[], guard := none }, { dst := some 43, op := Op.load 51 (Operand.tmp 42), type := 51, pos := "l14_optimize.go:107", after := #[{ on := 2, ground := Ground.data }], guard := none }, { dst := some 44, op := Op.buildSlice 42 1 #[(0, Operand.tmp 43)], type := 42, pos := "l14_optimize.go:107", after := #[{ on := 3, ground := Ground.data }], guard := none }, { dst := some 45, op := Op.call { callee := Callee.builtin Builtin.append, args := #[Operand.tmp 41, Operand.tmp 44], argTypes := #[42, 42] }, type := 42, pos := "l14_optimize.go:107", after := #[{ on := 1, ground := Ground.data }, { on := 4, ground := Ground.data }], guard := none }, { dst := some 46, op := Op.fieldAddr 45 (Operand.tmp 1) 7, type := 0, pos := "l14_optimize.go:107", after := #[], guard := none }, { dst := some 47, op := Op.load 43 (Operand.tmp 46), type := 43, pos := "l14_optimize.go:107", after := #[{ on := 6, ground := Ground.data }], guard := none }, { dst := some 48, op := Op.fieldAddr 94 (Operand.tmp 8) 1, type := 0, pos := "l14_optimize.go:107", after := #[], guard := none }, { dst := some 49, op := Op.load 3 (Operand.tmp 48), type := 3, pos := "l14_optimize.go:107", after := #[{ on := 8, ground := Ground.data }], guard := none }, { dst := some 50, op := Op.buildSlice 43 1 #[(0, Operand.tmp 49)], type := 43, pos := "l14_optimize.go:107", after := #[{ on := 9, ground := Ground.data }], guard := none }, { dst := some 51, op := Op.call { callee := Callee.builtin Builtin.append, args := #[Operand.tmp 47, Operand.tmp 50], argTypes := #[43, 43] }, type := 43, pos := "l14_optimize.go:107", after := #[{ on := 7, ground := Ground.data }, { on := 10, ground := Ground.data }, { on := 5, ground := Ground.chain }], guard := none }, { dst := some 52, op := Op.fieldAddr 45 (Operand.tmp 1) 6, type := 0, pos := "l14_optimize.go:107", after := #[{ on := 0, ground := Ground.phase }, { on := 1, ground := Ground.phase }, { on := 2, ground := Ground.phase }, { on := 3, ground := Ground.phase }, { on := 4, ground := Ground.phase }, { on := 5, ground := Ground.phase }, { on := 6, ground := Ground.phase }, { on := 7, ground := Ground.phase }, { on := 8, ground := Ground.textOnly Departure.lateStores }, { on := 9, ground := Ground.textOnly Departure.lateStores }, { on := 10, ground := Ground.textOnly Departure.lateStores }, { on := 11, ground := Ground.textOnly Departure.lateStoresUnsure }], guard := none }, { dst := none, op := Op.store 42 (Operand.tmp 52) (Operand.tmp 45), type := 0, pos := "l14_optimize.go:107", after := #[{ on := 12, ground := Ground.data }, { on := 5, ground := Ground.data }, { on := 11, ground := Ground.chain }, { on := 0, ground := Ground.phase }, { on := 1, ground := Ground.phase }, { on := 2, ground := Ground.phase }, { on := 3, ground := Ground.phase }, { on := 4, ground := Ground.phase }, { on := 5, ground := Ground.phase }, { on := 6, ground := Ground.phase }, { on := 7, ground := Ground.phase }, { on := 8, ground := Ground.textOnly Departure.lateStores }, { on := 9, ground := Ground.textOnly Departure.lateStores }, { on := 10, ground := Ground.textOnly Departure.lateStores }, { on := 11, ground := Ground.textOnly Departure.lateStoresUnsure }], guard := none }, { dst := some 53, op := Op.fieldAddr 45 (Operand.tmp 1) 7, type := 0, pos := "l14_optimize.go:107", after := #[{ on := 0, ground := Ground.phase }, { on := 1, ground := Ground.phase }, { on := 2, ground := Ground.phase }, { on := 3, ground := Ground.phase }, { on := 4, ground := Ground.phase }, { on := 5, ground := Ground.phase }, { on := 6, ground := Ground.phase }, { on := 7, ground := Ground.phase }, { on := 8, ground := Ground.phase }, { on := 9, ground := Ground.phase }, { on := 10, ground := Ground.phase }, { on := 11, ground := Ground.phase }, { on := 12, ground := Ground.phase }, { on := 13, ground := Ground.phase }], guard := none }, { dst := none, op := Op.store 43 (Operand.tmp 53) (Operand.tmp 51), type := 0, pos := "l14_optimize.go:107", after := #[{ on := 14, ground := Ground.data }, { on := 11, ground := Ground.data }, { on := 13, ground := Ground.chain }, { on := 0, ground := Ground.phase }, { on := 1, ground := Ground.phase }, { on := 2, ground := Ground.phase }, { on := 3, ground := Ground.phase }, { on := 4, ground := Ground.phase }, { on := 5, ground := Ground.phase }, { on := 6, ground := Ground.phase }, { on := 7, ground := Ground.phase }, { on := 8, ground := Ground.phase }, { on := 9, ground := Ground.phase }, { on := 10, ground := Ground.phase }, { on := 11, ground := Ground.phase }, { on := 12, ground := Ground.phase }, { on := 13, ground := Ground.phase }], guard := none }]
section
variable {ops : Array Oper} {Q : Exit → Act → World → Prop} {T S : World → Prop} {c : Nat}
def wpAnyU (ops : Array Oper) (Q : Exit → Act → World → Prop) (T S : World → Prop) (c : Nat) : Nat → Array Bool → Act → World → Prop
  | 0, L, a, w => Region.ready .any ops L = [] ∧ Q .normal a w
  | m + 1, L, a, w => (Region.ready .any ops L = [] → Q .normal a w) ∧
    ∀ i ∈ Region.ready .any ops L, wpOp Tryz.prog ops Q i (fun a' w' => T w' ∧ ((L.setIfInBounds i true).getD c true = false → S w') ∧ wpAnyU ops Q T S c m (L.setIfInBounds i true) a' w') a w
theorem wpAny_of_U : ∀ (m : Nat) (L : Array Bool) (a : Act) (w : World), wpAnyU ops Q T S c m L a w → wpAny Tryz.prog .any ops Q m L a w
  | 0, _, _, _, h => h
  | m + 1, _, _, _, h => ⟨h.1, fun i hi => wpOp_mono (fun a' w' k => wpAny_of_U m _ a' w' k.2.2) (h.2 i hi)⟩
theorem wpAnyU_first {i : Nat} {oi : Oper} {v : Value} (hi : ops[i]? = some oi) (hsel : ∀ (j : Nat) (o : Oper) cs b, ops[j]? = some o → o.op ≠ .select cs b)
    (hQ : ∀ k a w, Q (.panic k) (a.put oi.dst v) w → Q (.panic k) a w) (hic : i ≠ c) (hc : ∀ oc, ops[c]? = some oc → ∃ e ∈ oc.after, Region.binds .any e = true ∧ e.on = i) (hcl : ops[c]? ≠ none) :
    ∀ (m : Nat) (L : Array Bool) (a : Act) (w : World), L.getD c true = false →
      (∀ j oj, ops[j]? = some oj → j ≠ i → L.getD j true = false → (∀ e ∈ oj.after, Region.binds .any e = true → e.on ≠ i) → oi.apart ops oj = true) →
      i ∈ Region.ready .any ops L → YieldsIf Tryz.prog ops S oi v a → T w → S w → wpAnyU ops Q T S c m (L.setIfInBounds i true) (a.put oi.dst v) w → wpAnyU ops Q T S c (m + 1) L a w := by
  intro m
  induction m with
  | zero =>
    intro L a w hL _ hr hy hT hS H
    refine ⟨fun e => (by rw [e] at hr; cases hr), fun j hj => ?_⟩
    rcases Nat.decEq j i with n | rfl
    · have := ready_mono hj n
      rw [H.1] at this
      cases this
    · exact hy.wpOp hi hS ⟨hT, fun _ => hS, H⟩
  | succ m ih =>
    intro L a w hL hfree hr hy hT hS H
    refine ⟨fun e => (by rw [e] at hr; cases hr), fun j hj => ?_⟩
    rcases Nat.decEq j i with n | rfl
    · obtain ⟨hjun, oj, hoj, hall⟩ := mem_ready.1 hj
      have hiL := (mem_ready.1 hr).1
      have hwait : ∀ e ∈ oj.after, Region.binds .any e = true → e.on ≠ i := fun e he hb heq => by
        have q := hall e he hb
        rw [heq] at q
        rcases Nat.lt_or_ge i L.size with z | z
        · simp [z] at hiL q; rw [hiL] at q; cases q
        · simp [Array.getElem?_eq_none z] at hiL
      have hjc : j ≠ c := fun e => by
        subst e
        obtain ⟨e, he, hb, heq⟩ := hc oj hoj
        exact hwait e he hb heq
      have gc : ∀ (M : Array Bool) (k : Nat), k ≠ c → (M.setIfInBounds k true).getD c true = M.getD c true := fun M k hk => getD_set_ne true hk
      have h2 := wpOp_putIf hoj (hfree j oj hoj n hjun hwait) (fun cs b => hsel i oi cs b hi) (fun cs b => hsel j oj cs b hoj) hQ hy (H.2 j (ready_mono hj n))
      refine wpOp_mono (fun a' w' h3 => ?_) h2
      obtain ⟨y3, t3, s3, u3⟩ := h3
      have hs : S w' := s3 (by rw [gc _ _ hjc, gc _ _ hic]; exact hL)
      refine ⟨t3, fun _ => hs, ih (L.setIfInBounds j true) a' w' (by rw [gc _ _ hjc]; exact hL) (fun k ok hk hki hun hno => hfree k ok hk hki ?_ hno) (ready_mono hr (Ne.symm n)) y3 t3 hs ?_⟩
      · rcases Nat.decEq j k with d | rfl
        · rw [getD_set_ne true d] at hun; exact hun
        · exact hjun
      · rw [Array.setIfInBounds_comm _ _ n]
        exact u3
    · exact hy.wpOp hi hS ⟨hT, fun _ => hS, H⟩
theorem wpAnyU_firstT {i : Nat} {oi : Oper} {v : Value} (hi : ops[i]? = some oi) (hsel : ∀ (j : Nat) (o : Oper) cs b, ops[j]? = some o → o.op ≠ .select cs b)
    (hQ : ∀ k a w, Q (.panic k) (a.put oi.dst v) w → Q (.panic k) a w) (hic : i ≠ c) :
    ∀ (m : Nat) (L : Array Bool) (a : Act) (w : World),
      (∀ j oj, ops[j]? = some oj → j ≠ i → L.getD j true = false → (∀ e ∈ oj.after, Region.binds .any e = true → e.on ≠ i) → oi.apart ops oj = true) →
      i ∈ Region.ready .any ops L → YieldsIf Tryz.prog ops T oi v a → T w → ((L.getD c true = false) → S w) → wpAnyU ops Q T S c m (L.setIfInBounds i true) (a.put oi.dst v) w → wpAnyU ops Q T S c (m + 1) L a w := by
  intro m
  induction m with
  | zero =>
    intro L a w _ hr hy hT hS H
    refine ⟨fun e => (by rw [e] at hr; cases hr), fun j hj => ?_⟩
    rcases Nat.decEq j i with n | rfl
    · have := ready_mono hj n
      rw [H.1] at this
      cases this
    · exact hy.wpOp hi hT ⟨hT, fun z => hS (by rw [getD_set_ne true hic] at z; exact z), H⟩
  | succ m ih =>
    intro L a w hfree hr hy hT hS H
    refine ⟨fun e => (by rw [e] at hr; cases hr), fun j hj => ?_⟩
    rcases Nat.decEq j i with n | rfl
    · obtain ⟨hjun, oj, hoj, hall⟩ := mem_ready.1 hj
      have hiL := (mem_ready.1 hr).1
      have hwait : ∀ e ∈ oj.after, Region.binds .any e = true → e.on ≠ i := fun e he hb heq => by
        have q := hall e he hb
        rw [heq] at q
        rcases Nat.lt_or_ge i L.size with z | z
        · simp [z] at hiL q; rw [hiL] at q; cases q
        · simp [Array.getElem?_eq_none z] at hiL
      have gc : ∀ (M : Array Bool) (k : Nat), k ≠ c → (M.setIfInBounds k true).getD c true = M.getD c true := fun M k hk => getD_set_ne true hk
      have h2 := wpOp_putIf hoj (hfree j oj hoj n hjun hwait) (fun cs b => hsel i oi cs b hi) (fun cs b => hsel j oj cs b hoj) hQ hy (H.2 j (ready_mono hj n))
      refine wpOp_mono (fun a' w' h3 => ?_) h2
      obtain ⟨y3, t3, s3, u3⟩ := h3
      have hs : (L.setIfInBounds j true).getD c true = false → S w' := fun z => s3 (by
        rw [Array.setIfInBounds_comm _ _ (Ne.symm n), gc _ _ hic]; exact z)
      refine ⟨t3, hs, ih (L.setIfInBounds j true) a' w' (fun k ok hk hki hun hno => hfree k ok hk hki ?_ hno) (ready_mono hr (Ne.symm n)) y3 t3 hs ?_⟩
      · rcases Nat.decEq j k with d | rfl
        · rw [getD_set_ne true d] at hun; exact hun
        · exact hjun
      · rw [Array.setIfInBounds_comm _ _ n]
        exact u3
    · exact hy.wpOp hi hT ⟨hT, fun z => hS (by rw [getD_set_ne true hic] at z; exact z), H⟩
def waitsB (ops : Array Oper) (c i : Nat) : Bool := match ops[c]? with
  | some oc => oc.after.any fun e => Region.binds .any e && e.on == i
  | none => false
theorem wpAnyU_take {i : Nat} {oi : Oper} {v : Value} {m : Nat} {L : Array Bool} {a : Act} {w : World} (hi : ops[i]? = some oi)
    (hs : Region.noSelect ops = true) (hf : Region.free .any ops L i = true) (hr : (Region.ready .any ops L).contains i = true) (hwt : waitsB ops c i = true) (hic : (i == c) = false) (hL : L.getD c true = false)
    (hQ : ∀ k a w, Q (.panic k) (a.put oi.dst v) w → Q (.panic k) a w) (hy : YieldsIf Tryz.prog ops S oi v a) (hT : T w) (hS : S w)
    (h : wpAnyU ops Q T S c m (L.setIfInBounds i true) (a.put oi.dst v) w) : wpAnyU ops Q T S c (m + 1) L a w := by
  have hw : ∃ oc, ops[c]? = some oc ∧ ∃ e ∈ oc.after, Region.binds .any e = true ∧ e.on = i := by
    unfold waitsB at hwt
    split at hwt
    · rename_i oc hoc
      refine ⟨oc, hoc, ?_⟩
      obtain ⟨k, hk, q⟩ := Array.any_eq_true.1 hwt
      rw [Bool.and_eq_true] at q
      exact ⟨_, Array.getElem_mem hk, q.1, by simpa using q.2⟩
    · cases hwt
  obtain ⟨oc, hoc, hex⟩ := hw
  exact wpAnyU_first hi (Region.noSelect_spec hs) hQ (by simpa using hic) (fun oc' h' => by rw [hoc] at h'; cases h'; exact hex) (by rw [hoc]; simp) m L a w hL (Region.free_spec hi hf) (by simpa using hr) hy hT hS h
theorem wpAnyU_takeT {i : Nat} {oi : Oper} {v : Value} {m : Nat} {L : Array Bool} {a : Act} {w : World} (hi : ops[i]? = some oi)
    (hs : Region.noSelect ops = true) (hf : Region.free .any ops L i = true) (hr : (Region.ready .any ops L).contains i = true) (hic : (i == c) = false)
    (hQ : ∀ k a w, Q (.panic k) (a.put oi.dst v) w → Q (.panic k) a w) (hy : YieldsIf Tryz.prog ops T oi v a) (hT : T w) (hS : L.getD c true = false → S w)
    (h : wpAnyU ops Q T S c m (L.setIfInBounds i true) (a.put oi.dst v) w) : wpAnyU ops Q T S c (m + 1) L a w :=
  wpAnyU_firstT hi (Region.noSelect_spec hs) hQ (by simpa using hic) m L a w (Region.free_spec hi hf) (by simpa using hr) hy hT hS h
theorem wpAnyU_all {rs : List Nat} {m : Nat} {L : Array Bool} {a : Act} {w : World} (hr : Region.ready .any ops L = rs) (hne : rs ≠ [])
    (h : ∀ i ∈ rs, wpOp Tryz.prog ops Q i (fun a' w' => T w' ∧ ((L.setIfInBounds i true).getD c true = false → S w') ∧ wpAnyU ops Q T S c m (L.setIfInBounds i true) a' w') a w) : wpAnyU ops Q T S c (m + 1) L a w :=
  ⟨fun h0 => absurd (hr ▸ h0) hne, hr ▸ h⟩
theorem wpAnyU_done {L : Array Bool} {a : Act} {w : World} (hr : Region.ready .any ops L = []) (h : Q .normal a w) : ∀ m, wpAnyU ops Q T S c m L a w
  | 0 => ⟨hr, h⟩
  | _ + 1 => ⟨fun _ => h, by rw [hr]; simp⟩
theorem wp_region_U {id : Nat} {a : Act} {w : World} (h : wpAnyU ops Q T S c ops.size (Array.replicate ops.size false) a w.drew) : (Code.region id ops true).wp Tryz.prog Q a w :=
  wp_region_any mixedT (wpAny_of_U _ _ _ _ h)
end
end Go.Proofs.YtgnbhhgpaldheaaGreat
