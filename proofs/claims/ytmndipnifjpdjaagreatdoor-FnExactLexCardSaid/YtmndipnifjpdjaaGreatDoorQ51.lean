import Derived.Test.YtmndipnifjpdjaaGreatDoorQ46
import Derived.Test.YtmndipnifjpdjaaGreatDoorQ47
import Derived.Test.YtmndipnifjpdjaaGreatDoorQ49
import Derived.Test.YtmndipnifjpdjaaGreatDoorQ45
import Derived.Test.YtmndipnifjpdjaaGreatDoorQ50
import Derived.BigRegion
import Derived.Deep.RegionLaw
import Derived.Deep.RegionHeld3
import Derived.Test.YtmndipnifjpdjaaGreatDoorQ42
import Derived.Test.YtmndipnifjpdjaaGreatDoorQ40
import Derived.ScopeJumps
namespace Go.Proofs.YtmndipnifjpdjaaGreatDoor
open Go Go.RowKit
set_option linter.unusedVariables false
theorem cls_of {f : Nat → Int} : (isLet (f 0) = true ∧ cls f = 1) ∨ (isLet (f 0) = false ∧ numB f = true ∧ cls f = 2) ∨ (isLet (f 0) = false ∧ numB f = false ∧ (f 0 = 34 ∨ f 0 = 39) ∧ cls f = 3) ∨
    (isLet (f 0) = false ∧ numB f = false ∧ ¬ (f 0 = 34 ∨ f 0 = 39) ∧ (∃ n, LongOpen f n) ∧ cls f = 4) ∨ (isLet (f 0) = false ∧ numB f = false ∧ ¬ (f 0 = 34 ∨ f 0 = 39) ∧ (¬ ∃ n, LongOpen f n) ∧ cls f = 5) := by
  unfold cls
  cases hl : isLet (f 0) with
  | true => exact .inl ⟨rfl, by simp⟩
  | false =>
    cases hn : numB f with
    | true => exact .inr (.inl ⟨rfl, rfl, by simp⟩)
    | false =>
      by_cases hq : f 0 = 34 ∨ f 0 = 39
      · exact .inr (.inr (.inl ⟨rfl, rfl, hq, by simp [hq]⟩))
      · by_cases hlo : ∃ n, LongOpen f n
        · exact .inr (.inr (.inr (.inl ⟨rfl, rfl, hq, hlo, by simp [hq, hlo]⟩)))
        · exact .inr (.inr (.inr (.inr ⟨rfl, rfl, hq, hlo, by simp [hq, hlo]⟩)))
theorem one_any (s : ByteArray) (S base p : Nat) (L : List (Tk × Nat)) (v : Value) (fl fa : Int) (wb w : World) (h : OneB s S base p L v fl fa wb w) :
    Calls Tryz.prog 16 #[.pointer (some ⟨S, 0, none⟩)] w fun e w' => OneR s S base p L fl fa wb e w' := by
  by_cases hcm : isCom (fr s p)
  · exact one_com s S base p L v fl fa wb w h hcm
  · cases hbl : isBl (hb s p) with
    | true => exact one_blank s S base p L v fl fa wb w h hbl
    | false =>
      rcases cls_of (f := fr s p) with ⟨h1, h2⟩ | ⟨h1, h2, h3⟩ | ⟨h1, h2, h3, h4⟩ | ⟨h1, h2, h3, h4, h5⟩ | ⟨h1, h2, h3, h4, h5⟩
      · exact one_name s S base p L v fl fa wb w h hbl hcm h2 h1
      · cases hd : isDig (hb s p) with
        | true => exact one_num1 s S base p L v fl fa wb w h hbl hcm h3 h1 hd
        | false =>
          unfold numB at h2
          rw [show isDig (fr s p 0) = false from hd, Bool.false_or, Bool.and_eq_true] at h2
          exact one_num2 s S base p L v fl fa wb w h hbl hcm h3 (by have := h2.1; exact eq_of_beq this) h2.2
      · exact one_quo s S base p L v fl fa wb w h hbl hcm h4 h3
      · exact one_long s S base p L v fl fa wb w h hbl hcm h5 h4
      · exact one_sign s S base p L v fl fa wb w h hbl hcm h5 h1 h2 h3 h4
end Go.Proofs.YtmndipnifjpdjaaGreatDoor
namespace Go.Proofs.YtmndipnifjpdjaaGreatDoor
open Go Go.RowKit
set_option linter.unusedVariables false
theorem ended_free (s : ByteArray) (S p : Nat) (v : Value) (fc fl fa : Int) (w : World) (hx : Lx s S p v fc fl fa w) :
    Calls Tryz.prog 15 #[.pointer (some ⟨S, 0, none⟩)] w fun e w' => e = .returned (.bool (decide (s.size ≤ p))) ∧ ∃ n, w' = w.drewN n := by
  obtain ⟨c0, c1, c2, c3, c4, c5, c6, z1, z2, z3, z4, z5, z6⟩ := hx.cells
  go_enter Tryz.func15, Tryz.ntmps15
  go_wp2
  go_quiet (fail)
  go_wp2
  go_ret
  exact ⟨by simp, _, rfl⟩
def LexOut (s : ByteArray) (b : Nat) (r : Value) (w' : World) : Prop :=
  (32768 < s.size ∧ r = .tuple #[.slice none 0 0, .agg #[.int .i64 1, .int .i64 1, .int .i64 0]]) ∨
  (s.size ≤ 32768 ∧ ∃ L v base, b ≤ base ∧ LexR s 0 (.inl L) ∧ L.length ≤ s.size ∧ r = .tuple #[v, .agg #[.int .i64 0, .int .i64 0, .int .i64 0]] ∧ OwnT s w' base v (L ++ [(⟨0, ⟨#[]⟩, 0, 0⟩, s.size)])) ∨
  (s.size ≤ 32768 ∧ ∃ (c : Int) (o : Nat), LexR s 0 (.inr (c, o)) ∧ r = .tuple #[.slice none 0 0, .agg #[.int .i64 c, .int .i64 ((nlc s o : Int) + 1), .int .i64 ((o : Nat) : Int)]])
def LoopI (s : ByteArray) (S base : Nat) (wb w : World) : Prop := Below wb.heap.size wb w ∧ base ≤ w.heap.size ∧
  ((∃ p L v, p ≤ s.size ∧ L.length ≤ p ∧ Lx s S p v 0 0 0 w ∧ OwnT s w base v L ∧ Fwd s L p) ∨
   (∃ (c : Int) (o p' : Nat) (v' : Value), c ≠ 0 ∧ Lx s S p' v' c ((nlc s o : Int) + 1) ((o : Nat) : Int) w ∧ LexR s 0 (.inr (c, o))))
def mLex (S n : Nat) (w : World) : Nat := match w.cell? ⟨S, 4, none⟩ with
  | some (.int _ x) => if x = 0 then n - posOf S w + 1 else 0
  | _ => 0
theorem mlex_ok {s : ByteArray} {S q n : Nat} {v : Value} {fl fa : Int} {w : World} (h : Lx s S q v 0 fl fa w) : mLex S n w = n - q + 1 := by
  unfold mLex
  rw [h.cells.c4, pos_lx h]
  simp
theorem mlex_bad {s : ByteArray} {S q n : Nat} {v : Value} {c fl fa : Int} {w : World} (hc : c ≠ 0) (h : Lx s S q v c fl fa w) : mLex S n w = 0 := by
  unfold mLex
  rw [h.cells.c4]
  simp [hc]
theorem fault_cells {w w' : World} (h : Below (w.alloc (.cells #[.int .i64 0, .int .i64 0, .int .i64 0] 24)).heap.size (w.alloc (.cells #[.int .i64 0, .int .i64 0, .int .i64 0] 24)) w') :
    w'.heap[w.heap.size]? = some (.cells #[.int .i64 0, .int .i64 0, .int .i64 0] 24 (0, 0)) := (h.block w.heap.size (by simp)).trans (heap_alloc_new w _)
structure FC (F : Nat) (w : World) : Prop where
  f0 : w.cell? ⟨F, 0, none⟩ = some (.int .i64 0)
  f1 : w.cell? ⟨F, 1, none⟩ = some (.int .i64 0)
  f2 : w.cell? ⟨F, 2, none⟩ = some (.int .i64 0)
  g0 : w.frozen? ⟨F, 0, none⟩ = false
  g1 : w.frozen? ⟨F, 1, none⟩ = false
  g2 : w.frozen? ⟨F, 2, none⟩ = false
theorem FC.of {F : Nat} {w : World} (h : w.heap[F]? = some (.cells #[.int .i64 0, .int .i64 0, .int .i64 0] 24 (0, 0))) : FC F w := by
  constructor <;> simp [World.cell?, World.frozen?, h]
theorem lx_start {s : ByteArray} {w : World} : Lx s w.heap.size 0 (.slice none 0 0) 0 0 0 (w.alloc (.cells #[.string s, .int .i64 0, .int .i64 1, .slice none 0 0, .int .i64 0, .int .i64 0, .int .i64 0] 41)) := by
  have e : nlc s 0 = 0 := rfl
  unfold Lx
  rw [e]
  exact heap_alloc_new w _
theorem lex_end {s : ByteArray} {w wb WW w9 : World} {S : Nat} {v : Value} {L : List (Tk × Nat)} {o : Obj} (hbw : Below w.heap.size w wb) (hS : wb.heap.size = S) (hB : Below wb.heap.size wb WW) (hO : OwnT s WW (S + 1) v L) (hg : (WW.alloc o).drew.grownBy w9 v.ownBlock) : Below w.heap.size w w9 := by
  have hb : Below WW.heap.size WW (WW.alloc o).drew := ((Below.refl _ _).alloc (Nat.le_refl _) _).drew
  have h2 : Below wb.heap.size wb (WW.alloc o).drew := hB.trans (hb.mono hB.size)
  have h3 : Below wb.heap.size wb w9 := h2.grown hg h2.size (fun g e => by have := (World.ownsRow.lt hO g e).1; omega)
  exact hbw.trans (h3.mono hbw.size)
set_option maxHeartbeats 3200000 in
set_option maxRecDepth 100000 in
theorem spec_lex (s : ByteArray) (w : World) (hr : s.size ≤ 140737488351232) :
    Calls Tryz.prog 6 #[.string s] w fun e w' => ∃ r, e = .returned r ∧ LexOut s w.heap.size r w' ∧ Below w.heap.size w w' := by
  by_cases hbig : 32768 < s.size
  · have hd : decide ((s.size : Int) > 32768) = true := by simp; omega
    go_enter Tryz.func6, Tryz.ntmps6
    go_wp2
    refine bodyPost_ret (v := .tuple #[.slice none 0 0, .agg #[.int .i64 1, .int .i64 1, .int .i64 0]]) (by simp [results, Tryz.results6, go_sem]) rfl ⟨_, rfl, .inl ⟨hbig, rfl⟩, ?_⟩
    exact (Below.refl _ _).alloc (Nat.le_refl _) _
  · have hs : s.size ≤ 32768 := by omega
    have hd : decide ((s.size : Int) > 32768) = false := by simp; omega
    obtain ⟨wb, hwb⟩ : ∃ wb, w.alloc (.cells #[.int .i64 0, .int .i64 0, .int .i64 0] 24) = wb := ⟨_, rfl⟩
    have HBW : Hid (Below w.heap.size w wb) := hide (by rw [← hwb]; exact (Below.refl _ _).alloc (Nat.le_refl _) _)
    have HFC : Hid (∀ w', Below wb.heap.size wb w' → w'.heap[w.heap.size]? = some (.cells #[.int .i64 0, .int .i64 0, .int .i64 0] 24 (0, 0))) := hide (by rw [← hwb]; exact fun w' h => fault_cells h)
    have HS : Hid (wb.heap.size = w.heap.size + 1) := hide (by rw [← hwb]; simp)
    have HWB := hide hwb
    go_enter Tryz.func6, Tryz.ntmps6
    go_wp2
    have HI : Hid (LoopI s wb.heap.size (wb.heap.size + 1) wb (wb.alloc (.cells #[.string s, .int .i64 0, .int .i64 1, .slice none 0 0, .int .i64 0, .int .i64 0, .int .i64 0] 41))) := hide ⟨(Below.refl _ _).alloc (Nat.le_refl _) _, by simp, .inl ⟨0, [], .slice none 0 0, Nat.zero_le _, by simp, lx_start, ownT_nil _ _ _, Fwd.start s⟩⟩
    generalize wb.alloc (.cells #[.string s, .int .i64 0, .int .i64 1, .slice none 0 0, .int .i64 0, .int .i64 0, .int .i64 0] 41) = w2 at HI ⊢
    obtain ⟨S, hS⟩ : ∃ S, wb.heap.size = S := ⟨_, rfl⟩
    obtain ⟨F, hF⟩ : ∃ F, w.heap.size = F := ⟨_, rfl⟩
    have HSF := HS.out
    rw [hS] at HI HSF ⊢
    rw [hF] at HSF HFC ⊢
    have hwS : F ≤ S ∧ F < S ∧ wb.heap.size ≤ S := by omega
    obtain ⟨_, hFS, hwS⟩ := hwS
    have HSE := hide hS
    have HFE := hide hF
    clear hwb HWB HS hd hbig hr HSF hS hF
    go_loopw [] (fun wr => LoopI s S (S + 1) wb wr) (fun wr => mLex S s.size wr)
    case atStart => exact HI.out
    case round =>
      obtain ⟨hbel, hbs, hcase⟩ := hrel
      have HB := hide hbel
      clear hbel HI
      rcases hcase with ⟨p, L, v, hp, hL, hx, ho, hFw⟩ | ⟨c, o, p', v', hc0, hx, hR⟩
      · have HX := hide hx
        have HO := hide ho
        have HFW := hide hFw
        clear hx ho hFw
        by_cases hend : p < s.size
        · go_wp2_with fail
          refine (ended_free s S p v 0 0 0 _ HX.out).mono ?_
          rintro e w3 ⟨rfl, m3, hw3⟩
          have HB1 : Hid (OneB s S (S + 1) p L v 0 0 wb w3) := hide (by rw [hw3]; exact OneB.drw ⟨hs, hend, hL, HX.out, HO.out, HB.out, hwS, Nat.lt_succ_self S, hbs⟩ m3)
          clear hw3
          have hdf : ¬ (s.size ≤ p) := by omega
          rw [decide_eq_false hdf]
          clear hdf
          obtain ⟨c0, c1, c2, c3, c4, c5, c6, z1, z2, z3, z4, z5, z6⟩ := HB1.out.lx.cells
          go_wp2_with fail
          clear c0 c1 c2 c3 c4 c5 c6 z1 z2 z3 z4 z5 z6
          refine (one_any s S (S + 1) p L v 0 0 wb _ HB1.out).mono ?_
          rintro e w4 ⟨rfl, h1, h2, h3⟩
          have HI4 : Hid (LoopI s S (S + 1) wb w4 ∧ mLex S s.size w4 < s.size - p + 1) := hide (by
            rcases h3 with ⟨p', L', v', a1, a2, a3, a4, a5, a6⟩ | ⟨cc, oo, p', v', a1, a2, a3⟩
            · exact ⟨⟨h1, h2, .inl ⟨p', L', v', a2, a3, a4, a5, a6 HFW.out⟩⟩, by rw [mlex_ok a4]; omega⟩
            · exact ⟨⟨h1, h2, .inr ⟨cc, oo, p', v', a1, a2, a3 HFW.out⟩⟩, by rw [mlex_bad a1 a2]; omega⟩)
          clear h1 h2 h3
          go_wp2
          go_roundw
          case rel => exact HI4.out.1
          case measure => rw [mlex_ok HX.out]; exact HI4.out.2
        · obtain rfl : p = s.size := by omega
          go_wp2_with fail
          refine (ended_free s S s.size v 0 0 0 _ HX.out).mono ?_
          rintro e w3 ⟨rfl, m3, hw3⟩
          have HX3 : Hid (Lx s S s.size v 0 0 0 w3) := hide (by rw [hw3]; exact HX.out)
          have HO3 : Hid (OwnT s w3 (S + 1) v L) := hide (by rw [hw3]; exact HO.out)
          have HB3 : Hid (Below wb.heap.size wb w3) := hide (by rw [hw3]; exact below_drewN HB.out m3)
          clear hw3 HX HO HB
          rw [decide_eq_true (Nat.le_refl s.size)]
          obtain ⟨c0, c1, c2, c3, c4, c5, c6, z1, z2, z3, z4, z5, z6⟩ := HX3.out.cells
          have HFB := hide (HFC.out _ HB3.out)
          have hSlt := HX3.out.lt
          have hne1 : w3.heap.size ≠ S := by omega
          have hne2 : w3.heap.size ≠ F := by omega
          have hne3 : F ≠ S := by omega
          have hne4 : S ≠ F := by omega
          have agS : v.ownBlock ≠ some S := fun e => by have := (World.ownsRow.lt HO3.out S e).1; omega
          have HXN : Hid (Lx s S s.size v 0 0 0 (w3.alloc (.cells (tokC s (⟨0, ⟨#[]⟩, 0, 0⟩, s.size)).toArray 37)).drew) := hide (HX3.out.low (((Below.refl w3.heap.size w3).alloc (Nat.le_refl _) _).drew))
          have agF : v.ownBlock ≠ some F := fun e => by have := (World.ownsRow.lt HO3.out F e).1; omega
          have HFN : Hid (FC F (w3.alloc (.cells (tokC s (⟨0, ⟨#[]⟩, 0, 0⟩, s.size)).toArray 37)).drew) := hide (FC.of ((Below.block (((Below.refl w3.heap.size w3).alloc (Nat.le_refl _) _).drew) F (by omega)).trans HFB.out))
          go_wp2
          go_region_held3 (fun w' => w'.cell? ⟨S, 1, none⟩ = some (.int .i64 (s.size : Nat)) ∧ w'.cell? ⟨S, 2, none⟩ = some (.int .i64 ((nlc s s.size : Int) + 1)) ∧ w'.cell? ⟨S, 3, none⟩ = some v) (go_keep)
            (first | (refine step_tok (by rfl) _ _ (by rfl) s (S + 1) w3.heap.size v L (⟨0, ⟨#[]⟩, 0, 0⟩, s.size) (by rfl) (HO3.out.low (((Below.refl _ _).alloc (Nat.le_refl _) _).drew)) (by rfl) (heap_alloc_new w3 _) (by omega) (by simp; omega) ?_; intro gg cap w9 hown9 hgrow hsz9; have s1 := (hgrow.cell_far ⟨S, 1, none⟩ (by simp; omega) (Ne.symm agS)).trans HXN.out.cells.c1; have s2 := (hgrow.cell_far ⟨S, 2, none⟩ (by simp; omega) (Ne.symm agS)).trans HXN.out.cells.c2; have s3 := (hgrow.cell_far ⟨S, 3, none⟩ (by simp; omega) (Ne.symm agS)).trans HXN.out.cells.c3; have g0 := (hgrow.frozen_far ⟨F, 0, none⟩ (by simp; omega) (Ne.symm agF)).trans HFN.out.g0; have g1 := (hgrow.frozen_far ⟨F, 1, none⟩ (by simp; omega) (Ne.symm agF)).trans HFN.out.g1; have g2 := (hgrow.frozen_far ⟨F, 2, none⟩ (by simp; omega) (Ne.symm agF)).trans HFN.out.g2; have f0 := (hgrow.cell_far ⟨F, 0, none⟩ (by simp; omega) (Ne.symm agF)).trans HFN.out.f0; have f1 := (hgrow.cell_far ⟨F, 1, none⟩ (by simp; omega) (Ne.symm agF)).trans HFN.out.f1; have f2 := (hgrow.cell_far ⟨F, 2, none⟩ (by simp; omega) (Ne.symm agF)).trans HFN.out.f2))
          all_goals go_wp2
          all_goals refine bodyPost_ret (v := .tuple #[.slice (some ⟨gg, 0, none⟩) (L.length + 1) cap, .agg #[.int .i64 0, .int .i64 0, .int .i64 0]]) (by simp [results, Tryz.results6, go_sem, f0, f1, f2]) rfl ⟨_, rfl, .inr (.inl ⟨hs, L, _, S + 1, (by have := HFE.out; omega), HFW.out.end, hL, rfl, ?_⟩), ?_⟩
          all_goals first
            | exact ((hown9.beside (grown_set _ F _ _) (by omega)).beside (grown_set _ F _ _) (by omega)).beside (grown_set _ F _ _) (by omega)
            | (have hlow := lex_end HBW.out HSE.out HB3.out HO3.out hgrow; exact ((hlow.setCell (p := ⟨F, 0, none⟩) (Nat.le_of_eq HFE.out) _).setCell (p := ⟨F, 1, none⟩) (Nat.le_of_eq HFE.out) _).setCell (p := ⟨F, 2, none⟩) (Nat.le_of_eq HFE.out) _)
      · have HX := hide hx
        have HR := hide hR
        clear hx hR
        go_wp2_with fail
        refine (ended_free s S p' v' c _ _ _ HX.out).mono ?_
        rintro e w3 ⟨rfl, m3, hw3⟩
        have HX3 : Hid (Lx s S p' v' c ((nlc s o : Int) + 1) ((o : Nat) : Int) w3) := hide (by rw [hw3]; exact HX.out)
        have HB3 : Hid (Below wb.heap.size wb w3) := hide (by rw [hw3]; exact below_drewN HB.out m3)
        clear hw3 HX HB
        cases hdd : decide (s.size ≤ p') with
        | true =>
          clear hdd
          obtain ⟨c0, c1, c2, c3, c4, c5, c6, z1, z2, z3, z4, z5, z6⟩ := HX3.out.cells
          obtain ⟨f0, f1, f2, g0, g1, g2⟩ := FC.of (HFC.out _ HB3.out)
          have hne3 : F ≠ S := by omega
          have hne4 : S ≠ F := by omega
          have hq0 := bq_f hc0
          have HLOW := hide (below_drewN (HBW.out.trans (HB3.out.mono HBW.out.size)) 1)
          have HC0 := hide hc0
          clear hc0
          go_wp2
          go_region
          go_wp2
          refine bodyPost_ret (v := .tuple #[.slice none 0 0, .agg #[.int .i64 c, .int .i64 ((nlc s o : Int) + 1), .int .i64 ((o : Nat) : Int)]]) (by simp [results, Tryz.results6, go_sem, f0, f1, f2]) rfl ⟨_, rfl, .inr (.inr ⟨hs, c, o, HR.out, rfl⟩), ?_⟩
          exact ((HLOW.out.setCell (p := ⟨F, 0, none⟩) (Nat.le_of_eq HFE.out) _).setCell (p := ⟨F, 1, none⟩) (Nat.le_of_eq HFE.out) _).setCell (p := ⟨F, 2, none⟩) (Nat.le_of_eq HFE.out) _
        | false =>
          clear hdd
          obtain ⟨c0, c1, c2, c3, c4, c5, c6, z1, z2, z3, z4, z5, z6⟩ := HX3.out.cells
          obtain ⟨f0, f1, f2, g0, g1, g2⟩ := FC.of (HFC.out _ HB3.out)
          have hne3 : F ≠ S := by omega
          have hne4 : S ≠ F := by omega
          have hq0 := bq_f hc0
          have HLOW := hide (below_drewN (HBW.out.trans (HB3.out.mono HBW.out.size)) 1)
          have HC0 := hide hc0
          clear hc0
          go_wp2
          go_region
          go_wp2
          refine bodyPost_ret (v := .tuple #[.slice none 0 0, .agg #[.int .i64 c, .int .i64 ((nlc s o : Int) + 1), .int .i64 ((o : Nat) : Int)]]) (by simp [results, Tryz.results6, go_sem, f0, f1, f2]) rfl ⟨_, rfl, .inr (.inr ⟨hs, c, o, HR.out, rfl⟩), ?_⟩
          exact ((HLOW.out.setCell (p := ⟨F, 0, none⟩) (Nat.le_of_eq HFE.out) _).setCell (p := ⟨F, 1, none⟩) (Nat.le_of_eq HFE.out) _).setCell (p := ⟨F, 2, none⟩) (Nat.le_of_eq HFE.out) _
end Go.Proofs.YtmndipnifjpdjaaGreatDoor
namespace Go.Proofs.YtmndipnifjpdjaaGreatDoor
open Go Go.RowKit
set_option linter.unusedVariables false
set_option maxHeartbeats 3200000 in
set_option maxRecDepth 100000 in
theorem placed_any (s : ByteArray) (T M p o : Nat) (c l : Int) (v : Value) (w : World) (hs : s.size ≤ 32768) (hp : p + o ≤ s.size) (hS : Sc s T M p v w) :
    Calls Tryz.prog 70 #[.pointer (some ⟨T, 0, none⟩), .agg #[.int .i64 c, .int .i64 l, .int .i64 o]] w fun e w' => e = .returned (.agg #[.int .i64 c, .int .i64 ((nlc s (p + o) : Int) + 1), .int .i64 ((p + o : Nat) : Int)]) ∧ Below w.heap.size w w' := by
  have hn1 := nlc_le s p
  have hn2 := nlc_le s (p + o)
  have hcn := count_nl s (a := p) (b := p + o) (by omega) hp
  have hco := fun w' : World => Tryz.strings_Count_one (s.extract p (p + o)) 10 w'
  obtain ⟨C, hC⟩ : ∃ C : Nat, Lib.countByte (s.extract p (p + o)).data.toList 10 = C := ⟨_, rfl⟩
  rw [hC] at hco hcn
  have HCO := hide hco
  clear hC hco
  have hsl := fun w' : World => slc_str s (i := (p : Int)) (j := (p : Int) + o) w' (by omega) (by omega) (by omega)
  rw [show ((p : Int)).toNat = p by omega, show ((p : Int) + o).toNat = p + o by omega] at hsl
  have hw1 : IntKind.i64.wrap ((p : Int) + o) = (p : Int) + o := wrap_id (by omega) (by omega)
  have hw2 : IntKind.i64.wrap ((nlc s p : Int) + 1 + (C : Int)) = (nlc s (p + o) : Int) + 1 := by rw [wrap_id (by omega) (by omega)]; omega
  have HW2 := hide hw2
  have HW1 := hide hw1
  clear hw2 hw1
  obtain ⟨B, hB⟩ : ∃ B, w.heap.size = B := ⟨_, rfl⟩
  have HB := hide hB
  obtain ⟨w0, hw0⟩ : ∃ w0, (w.alloc (.cells #[.int .i64 c, .int .i64 l, .int .i64 o] 24)).alloc (.cells #[.int .i64 0, .int .i64 0, .int .i64 0] 24) = w0 := ⟨_, rfl⟩
  have HBl : Hid (Below w.heap.size w w0) := hide (by rw [← hw0]; exact ((Below.refl _ _).alloc (Nat.le_refl _) _).alloc (by simp) _)
  have hD : w0.heap[B]? = some (.cells #[.int .i64 c, .int .i64 l, .int .i64 o] 24 (0, 0)) := by
    rw [← hw0, Below.heap_alloc _ _ _ (by simp; omega), ← hB]; exact heap_alloc_new w _
  have hR : w0.heap[B + 1]? = some (.cells #[.int .i64 0, .int .i64 0, .int .i64 0] 24 (0, 0)) := by
    have e : (w.alloc (.cells #[.int .i64 c, .int .i64 l, .int .i64 o] 24)).heap.size = B + 1 := by simp; omega
    rw [← hw0, ← e]; exact heap_alloc_new _ _
  obtain ⟨s0, s1, s2, s3, s4, x2, x3, x4⟩ := (hS.low HBl.out hS.lt).cells
  have d0 : w0.cell? ⟨B, 0, none⟩ = some (.int .i64 c) := by simp [World.cell?, hD]
  have d2 : w0.cell? ⟨B, 2, none⟩ = some (.int .i64 o) := by simp [World.cell?, hD]
  have r0 : w0.cell? ⟨B + 1, 0, none⟩ = some (.int .i64 0) := by simp [World.cell?, hR]
  have r1 : w0.cell? ⟨B + 1, 1, none⟩ = some (.int .i64 0) := by simp [World.cell?, hR]
  have r2 : w0.cell? ⟨B + 1, 2, none⟩ = some (.int .i64 0) := by simp [World.cell?, hR]
  have y0 : w0.frozen? ⟨B + 1, 0, none⟩ = false := by simp [World.frozen?, hR]
  have y1 : w0.frozen? ⟨B + 1, 1, none⟩ = false := by simp [World.frozen?, hR]
  have y2 : w0.frozen? ⟨B + 1, 2, none⟩ = false := by simp [World.frozen?, hR]
  have Hw0 := hide hw0
  clear hw0 hD hR hS hB s1 s4 x2 x3 x4 hcn
  go_enter Tryz.func70, Tryz.ntmps70
  go_wp2
  rw [HB.out, Hw0.out]
  go_quiet (fail)
  go_wp2
  generalize hwd : w0.drewN nq = w9
  have e9 : ∀ a : Addr, w9.cell? a = w0.cell? a := fun a => by rw [← hwd]; rfl
  have f9 : ∀ a : Addr, w9.frozen? a = w0.frozen? a := fun a => by rw [← hwd]; rfl
  have HB9 : Hid (Below w.heap.size w w9) := hide (by rw [← hwd]; exact below_drewN HBl.out _)
  rw [← e9] at s0 s2 s3 d0 d2 r0 r1 r2
  rw [← f9] at y0 y1 y2
  clear e9 f9 hwd HBl
  have hw1 := HW1.out
  have hw2 := HW2.out
  refine wp_tail 17 (by kernel_rfl) (by kernel_rfl) (fun ops => ?_)
  simp only [List.take_succ_cons, List.take_zero, List.drop_succ_cons, List.drop_zero]
  iterate 7 (refine still_next rfl (fun K hK => ?_); go_simp; refine hK _ ?_; clear hK K)
  refine still_next rfl (fun K hK => ?_)
  go_simp
  refine ⟨_, HCO.out _, hK _ ?_⟩
  clear hK K
  iterate 9 (refine still_next rfl (fun K hK => ?_); go_simp; refine hK _ ?_; clear hK K)
  refine wpStill_nil ?_
  go_wp2
  refine bodyPost_ret (v := .agg #[.int .i64 c, .int .i64 ((nlc s (p + o) : Int) + 1), .int .i64 ((p + o : Nat) : Int)]) (by simp [results, Tryz.results70, go_sem, r0, r1, r2]) rfl ⟨rfl, ?_⟩
  have hBB : w.heap.size ≤ B + 1 := by have := HB.out; omega
  exact (((HB9.out.setCell (p := ⟨B + 1, 0, none⟩) hBB _).setCell (p := ⟨B + 1, 1, none⟩) hBB _).setCell (p := ⟨B + 1, 2, none⟩) hBB _).drew
end Go.Proofs.YtmndipnifjpdjaaGreatDoor
namespace Go.Proofs.YtmndipnifjpdjaaGreatDoor
open Go Go.RowKit
set_option linter.unusedVariables false
def ReadComR (t : ByteArray) (r : Value) : Prop :=
  (∃ (k : Int) (tx : ByteArray) (q : Nat) (fa : Int), Com (hb t) t.size (some q) ∧ 2 ≤ q ∧ q ≤ t.size ∧ r = pieceV k tx 0 0 ((q : Nat) : Int) 0 0 fa) ∨ (Com (hb t) t.size none ∧ r = pieceV 0 ⟨#[]⟩ 0 0 2 6 0 2)
theorem com_line {t : ByteArray} {q : Nat} (h2 : 2 ≤ t.size) (hc : isCom (hb t)) (hl : ¬ ∃ k, LongOpen (fun j => hb t (2 + j)) k) (hq : (Lib.indexByte t.data.toList 10 = -1 ∧ q = t.size) ∨ Lib.indexByte t.data.toList 10 = (q : Int)) : Com (hb t) t.size (some q) ∧ 2 ≤ q ∧ q ≤ t.size := by
  rcases hq with ⟨h, rfl⟩ | h
  · refine ⟨.line hl ⟨Nat.le_refl _, fun j _ hj e => ?_, .inl rfl, h2⟩, h2, Nat.le_refl _⟩
    exact Lib.indexByte_none h j ((hb_iff (t := t) (k := j) (c := 10) (by decide)).2 e)
  · obtain ⟨a, b⟩ := Lib.indexByte_some h
    have a' : hb t q = 10 := (hb_iff (t := t) (k := q) (c := 10) (by decide)).1 a
    have hlt : q < t.size := hb_lt (by omega)
    have hq2 : 2 ≤ q := by
      rcases Nat.lt_or_ge q 2 with g | g
      · have : q = 0 ∨ q = 1 := by omega
        rcases this with rfl | rfl
        · have := hc.1; omega
        · have := hc.2; omega
      · exact g
    exact ⟨.line hl ⟨by omega, fun j _ hj e => b j hj ((hb_iff (t := t) (k := j) (c := 10) (by decide)).2 e), .inr a', hq2⟩, hq2, by omega⟩
set_option maxHeartbeats 3200000 in
set_option maxRecDepth 100000 in
theorem readComment_any (t : ByteArray) (m : Int) (w : World) (ht : t.size ≤ 32768) (h2 : 2 ≤ t.size) (hc : isCom (hb t)) (hm : MaxAt m w) :
    Calls Tryz.prog 69 #[.string t] w fun e w' => ∃ r, e = .returned r ∧ ReadComR t r ∧ Below w.heap.size w w' := by
  have HM := hide hm
  have HC := hide hc
  clear hm hc
  obtain ⟨B, hB⟩ : ∃ B, w.heap.size = B := ⟨_, rfl⟩
  have HB := hide hB
  have HPB : Hid (PBlock B pieceZ (w.alloc (.cells pieceZ 98))) := hide (by rw [← hB]; exact pblock_new w pieceZ)
  have HBl : Hid (Below B w (w.alloc (.cells pieceZ 98))) := hide ((Below.refl _ _).alloc (by omega) _)
  have HBl0 : Hid (Below w.heap.size w (w.alloc (.cells pieceZ 98))) := hide ((Below.refl _ _).alloc (by omega) _)
  clear hB
  obtain ⟨u, hu⟩ : ∃ u, t.extract 2 t.size = u := ⟨_, rfl⟩
  have hus : u.size = t.size - 2 := by rw [← hu, ByteArray.size_extract]; omega
  have HU : Hid (hb u = fun j => hb t (2 + j)) := hide (by rw [← hu]; exact hb_rest t 2)
  have hsl := fun w' : World => run_slice_string_l (P := Tryz.prog) w' 9 t Tryz.underlying9 .i64 2 (by omega) (by omega)
  rw [show (2 : Int).toNat = 2 from rfl, hu] at hsl
  clear hu
  go_enter Tryz.func69, Tryz.ntmps69
  go_wp2_with fail
  change Calls _ _ _ (w.alloc (.cells pieceZ 98)) _
  rw [HB.out]
  generalize hw0 : w.alloc (.cells pieceZ 98) = w0
  rw [hw0] at HPB HBl HBl0
  clear hw0
  refine (longLevel_any u _ (by omega)).mono ?_
  rintro e w1 ⟨lv, rfl, hlv, hw1⟩
  rw [hw1]
  clear hw1 w1
  rcases hlv with ⟨rfl, hno⟩ | ⟨n, hO, hnu, rfl⟩
  · have HNo : Hid (¬ ∃ k, LongOpen (fun j => hb t (2 + j)) k) := hide (by rw [← HU.out]; exact hno)
    clear hno
    go_wp2_with fail
    refine (Tryz.strings_IndexByte t 10 _).mono ?_
    rintro e w1 ⟨rfl, hw1⟩
    rw [hw1]
    clear hw1 w1
    have e10 : ((10 : Int).toNat.toUInt8) = 10 := rfl
    rw [e10]
    clear e10
    have hge := Lib.indexByte_ge t.data.toList 10
    obtain ⟨j, hj⟩ : ∃ j, Lib.indexByte t.data.toList 10 = j := ⟨_, rfl⟩
    have HJ := hide hj
    rw [hj] at hge ⊢
    clear hj
    obtain ⟨c0, c1, c2, c3, c4, c5, c6, c7, c8, c9, z0, z1, z2, z3, z4, z5, z6, z7, z8, z9⟩ := HPB.out.cells
    by_cases hj0 : 0 ≤ j
    · obtain ⟨q, rfl⟩ : ∃ q : Nat, j = (q : Int) := ⟨j.toNat, by omega⟩
      have HR := hide (com_line h2 HC.out HNo.out (.inr HJ.out))
      go_wp2
      refine bodyPost_ret (v := pieceV 0 ⟨#[]⟩ 0 0 ((q : Nat) : Int) 0 0 0) (by simp [results, Tryz.results69, go_sem, pieceV, c0, c1, c2, c3, c4, c5, c6, c7, c8, c9]) rfl ⟨_, rfl, .inl ⟨0, ⟨#[]⟩, q, 0, HR.out.1, HR.out.2.1, HR.out.2.2, rfl⟩, ?_⟩
      rw [HB.out]
      exact below_set10 HBl.out (Nat.le_refl _) _ _ _ _ _ _ _ _ _ _
    · have HR := hide (com_line (q := t.size) h2 HC.out HNo.out (.inl ⟨by have := HJ.out; omega, rfl⟩))
      go_wp2
      refine bodyPost_ret (v := pieceV 0 ⟨#[]⟩ 0 0 ((t.size : Nat) : Int) 0 0 0) (by simp [results, Tryz.results69, go_sem, pieceV, c0, c1, c2, c3, c4, c5, c6, c7, c8, c9]) rfl ⟨_, rfl, .inl ⟨0, ⟨#[]⟩, t.size, 0, HR.out.1, HR.out.2.1, HR.out.2.2, rfl⟩, ?_⟩
      rw [HB.out]
      exact below_set10 HBl.out (Nat.le_refl _) _ _ _ _ _ _ _ _ _ _
  · have HO := hide hO
    have hn1 := hO.1
    clear hO
    go_wp2_with fail
    refine (readLong_any u n m _ (by omega) HO.out (HM.out.low HBl0.out)).mono ?_
    rintro e w2 ⟨r, rfl, hr, hb2⟩
    have HP2 := hide (HPB.out.low hb2 HPB.out.lt)
    have HB2 := hide (HBl.out.trans (hb2.mono (by have := HPB.out.lt; omega)))
    clear hb2
    obtain ⟨k, tx, len, fc, rfl, hrr⟩ : ∃ (k : Int) (tx : ByteArray) (len fc : Int), r = pieceV k tx 0 0 len fc 0 0 ∧ ((∃ q : Nat, len = (q : Int) ∧ fc = 0 ∧ Com (hb t) t.size (some (q + 2)) ∧ q + 2 ≤ t.size) ∨ (k = 0 ∧ tx = ⟨#[]⟩ ∧ len = 0 ∧ fc = 6 ∧ Com (hb t) t.size none)) := by
      have hO2 := HO.out
      rw [HU.out] at hO2
      rcases hr with ⟨c, hF, hcs, rfl⟩ | ⟨hNC, rfl⟩
      · rw [HU.out] at hF
        refine ⟨_, _, _, _, rfl, .inl ⟨c + n + 1, rfl, rfl, ?_, by omega⟩⟩
        rw [Nat.add_comm]
        exact .long hO2 hF
      · rw [HU.out] at hNC
        exact ⟨_, _, _, _, rfl, .inr ⟨rfl, rfl, rfl, rfl, .bad hO2 hNC⟩⟩
    have HRR := hide hrr
    have hlen : 0 ≤ len ∧ len ≤ 40000 := by
      rcases hrr with ⟨q, rfl, _, _, hq⟩ | ⟨_, _, rfl, _⟩
      · omega
      · omega
    clear hrr hr
    unfold pieceV
    obtain ⟨D, hD⟩ : ∃ D, w2.heap.size = D := ⟨_, rfl⟩
    have HPD : Hid (PBlock D #[.int .i64 k, .int .i64 0, .int .i64 0, .string tx, .int .i64 0, .int .u64 0, .int .i64 len, .int .i64 fc, .int .i64 0, .int .i64 0] (w2.alloc (.cells #[.int .i64 k, .int .i64 0, .int .i64 0, .string tx, .int .i64 0, .int .u64 0, .int .i64 len, .int .i64 fc, .int .i64 0, .int .i64 0] 98))) := hide (by rw [← hD]; exact pblock_new w2 _)
    have HP3 := hide (HP2.out.low ((Below.refl w2.heap.size w2).alloc (Nat.le_refl _) (.cells #[.int .i64 k, .int .i64 0, .int .i64 0, .string tx, .int .i64 0, .int .u64 0, .int .i64 len, .int .i64 fc, .int .i64 0, .int .i64 0] 98)) HP2.out.lt)
    have HB3 := hide (HB2.out.alloc (by have := HP2.out.lt; omega) (.cells #[.int .i64 k, .int .i64 0, .int .i64 0, .string tx, .int .i64 0, .int .u64 0, .int .i64 len, .int .i64 fc, .int .i64 0, .int .i64 0] 98))
    have hBD : B ≠ D := by have := HP2.out.lt; omega
    have hBD' : B ≤ D := by have := HP2.out.lt; omega
    have HD := hide hD
    clear hD
    rename_i K1 a1 K0 a0
    have HK := hide a1
    clear a1
    go_wp2
    rw [HD.out]
    generalize hw3 : w2.alloc (.cells #[.int .i64 k, .int .i64 0, .int .i64 0, .string tx, .int .i64 0, .int .u64 0, .int .i64 len, .int .i64 fc, .int .i64 0, .int .i64 0] 98) = w3
    rw [hw3] at HPD HP3 HB3
    clear hw3
    refine HK.out _ _ ?_
    obtain ⟨c0, c1, c2, c3, c4, c5, c6, c7, c8, c9, z0, z1, z2, z3, z4, z5, z6, z7, z8, z9⟩ := HP3.out.cells
    obtain ⟨d0, d1, d2, d3, d4, d5, d6, d7, d8, d9, y0, y1, y2, y3, y4, y5, y6, y7, y8, y9⟩ := HPD.out.cells
    have hDB := hBD.symm
    go_wp2
    refine bodyPost_ret (v := pieceV k tx 0 0 (len + 2) fc 0 2) (by simp [results, Tryz.results69, go_sem, pieceV, c0, c1, c2, c3, c4, c5, c6, c7, c8, c9]) rfl ⟨_, rfl, ?_, ?_⟩
    · rcases HRR.out with ⟨q, rfl, rfl, hC, hq⟩ | ⟨rfl, rfl, rfl, rfl, hC⟩
      · exact .inl ⟨k, tx, q + 2, 2, hC, by omega, hq, by simp⟩
      · exact .inr ⟨hC, rfl⟩
    · rw [HB.out]
      exact below_set10 ((HB3.out.setCell (p := ⟨D, 6, none⟩) hBD' _).setCell (p := ⟨D, 9, none⟩) hBD' _) (Nat.le_refl _) _ _ _ _ _ _ _ _ _ _
end Go.Proofs.YtmndipnifjpdjaaGreatDoor
namespace Go.Proofs.YtmndipnifjpdjaaGreatDoor
open Go Go.RowKit
set_option linter.unusedVariables false
theorem wp_scope_back {P : Program} {a : Act} {w : World} {Q : Exit → Act → World → Prop} {y : Code} (l : Nat) (J : Act → World → Prop) (μ : Act → World → Nat) (h0 : J a w)
    (pass : ∀ a w, J a w → y.wp P (Exit.jump l (fun a' w' => J a' w' ∧ μ a' w' < μ a w) Q) a w) : (Code.scope (.seq (.label l) y)).wp P Q a w := by
  refine wp_scope_jumps (rest := .seq .skip y) l J μ (by simp [findLabel]) ?_ ?_
  · refine wp_seq (wp_label ?_)
    refine Code.wp_mono ?_ (pass a w h0)
    intro e a' w' h
    cases e <;> first | exact ⟨h.1, h.2.1⟩ | exact h
  · intro a w h
    exact wp_seq (wp_skip (pass a w h))
theorem jump_ret {l id : Nat} {J : Act → World → Prop} {Q : Exit → Act → World → Prop} {a : Act} {w : World} (h : Q .ret a w) : Exit.jump l J (Exit.inBlock id Q) .ret a w := h
theorem then_ret {id : Nat} {K : Act → World → Prop} {Q : Exit → Act → World → Prop} {a : Act} {w : World} (h : Q .ret a w) : Exit.then K (Exit.inBlock id Q) .ret a w := h
theorem cons_of {n : Nat} {l : List Value} (h : l.length = n + 1) : ∃ x l', l = x :: l' ∧ l'.length = n := by
  cases l with
  | nil => cases h
  | cons x l' => exact ⟨x, l', rfl, by simpa using h⟩
def Frm (T F : Nat) (a : Act) : Prop := ∃ l : List Value, l.length = 79 ∧ a = { tmps := (.pointer (some ⟨T, 0, none⟩) :: undef :: .pointer (some ⟨F, 0, none⟩) :: l).toArray, defers := [] }
structure St (s : ByteArray) (T M p : Nat) (L : List (Tk × Nat)) (v : Value) (wS w : World) : Prop where
  g : wS.grownBy w (some T)
  sc : Sc s T M p v w
  own : OwnT s w wS.heap.size v L
structure Cx (s : ByteArray) (T M F : Nat) (m : Int) (wb wS : World) : Prop where
  hs : s.size ≤ 32768
  hT : T < wS.heap.size
  hF : F < wS.heap.size
  ne : F ≠ T
  hb : Below wb.heap.size wb wS
  hbT : wb.heap.size ≤ T
  hM : FixMap M wb
  hE : EnvL wb
  hX : MaxAt m wb
  hC : wS.heap[F]? = some (.cells #[.int .i64 0, .int .i64 0, .int .i64 0] 24 (0, 0))
theorem St.low {s : ByteArray} {T M p : Nat} {L : List (Tk × Nat)} {v : Value} {wS w w' : World} (h : St s T M p L v wS w) (hb : Below w.heap.size w w') : St s T M p L v wS w' :=
  ⟨grown_trans h.g (grown_low hb), h.sc.low hb h.sc.lt, h.own.low hb⟩
theorem St.drw {s : ByteArray} {T M p : Nat} {L : List (Tk × Nat)} {v : Value} {wS w : World} (h : St s T M p L v wS w) : St s T M p L v wS w.drew :=
  ⟨gdr' h.g, h.sc, h.own⟩
theorem St.pass {s : ByteArray} {T M p q : Nat} {L : List (Tk × Nat)} {v : Value} {wS w w' : World} (h : St s T M p L v wS w) (hT : T < wS.heap.size) (hsc : Sc s T M q v w') (hg : w.grownBy w' (some T)) : St s T M q L v wS w' :=
  ⟨grown_trans h.g hg, hsc, h.own.beside hg hT⟩
theorem Cx.below {s : ByteArray} {T M F : Nat} {m : Int} {wb wS w : World} (h : Cx s T M F m wb wS) (hg : wS.grownBy w (some T)) : Below wb.heap.size wb w :=
  h.hb.grown hg h.hb.size (fun k e => by injection e with e; have := h.hbT; omega)
theorem Cx.fix {s : ByteArray} {T M F : Nat} {m : Int} {wb wS w : World} (h : Cx s T M F m wb wS) (hg : wS.grownBy w (some T)) : FixMap M w := h.hM.low (h.below hg)
theorem Cx.env {s : ByteArray} {T M F : Nat} {m : Int} {wb wS w : World} (h : Cx s T M F m wb wS) (hg : wS.grownBy w (some T)) : EnvL w := h.hE.low (h.below hg)
theorem Cx.max {s : ByteArray} {T M F : Nat} {m : Int} {wb wS w : World} (h : Cx s T M F m wb wS) (hg : wS.grownBy w (some T)) : MaxAt m w := h.hX.low (h.below hg)
theorem Cx.fc {s : ByteArray} {T M F : Nat} {m : Int} {wb wS w : World} (h : Cx s T M F m wb wS) (hg : wS.grownBy w (some T)) : w.heap[F]? = some (.cells #[.int .i64 0, .int .i64 0, .int .i64 0] 24 (0, 0)) :=
  (hg.block F h.hF (fun e => h.ne (by injection e))).trans h.hC
def posS (T : Nat) (w : World) : Nat := match w.cell? ⟨T, 2, none⟩ with
  | some (.int _ x) => x.toNat
  | _ => 0
theorem posS_sc {s : ByteArray} {T M p : Nat} {v : Value} {w : World} (h : Sc s T M p v w) : posS T w = p := by
  unfold posS
  rw [h.cells.s2]
  simp
def ScI (s : ByteArray) (T M : Nat) (wS w : World) : Prop := ∃ p L v, p ≤ s.size ∧ L.length ≤ p ∧ St s T M p L v wS w ∧ Fwd s L p
def ScanR (s : ByteArray) (T M : Nat) (w : World) (r : Value) (w' : World) : Prop :=
  w.grownBy w' (some T) ∧
  ((∃ L v p, LexR s 0 (.inl L) ∧ L.length ≤ s.size ∧ r = .agg #[.int .i64 0, .int .i64 0, .int .i64 0] ∧ Sc s T M p v w' ∧ OwnT s w' w.heap.size v (L ++ [(⟨0, ⟨#[]⟩, 0, 0⟩, s.size)])) ∨
   (∃ (c : Int) (o : Nat), c ≠ 0 ∧ LexR s 0 (.inr (c, o)) ∧ r = .agg #[.int .i64 c, .int .i64 ((nlc s o : Int) + 1), .int .i64 ((o : Nat) : Int)]))
theorem Fwd.blanks {s : ByteArray} {L : List (Tk × Nat)} {p q : Nat} (h : Fwd s L p) (hq : p + q ≤ s.size) (hr : ∀ j, j < q → isBl (fr s p j) = true) : Fwd s L (p + q) := by
  induction q with
  | zero => exact h
  | succ q ih => exact (ih (by omega) (fun j hj => hr j (by omega))).blank (by omega) (hr q (by omega))
theorem com_pre (t : ByteArray) : Lib.hasPrefix t.data.toList [45, 45] = true ↔ (isCom (hb t) ∧ 2 ≤ t.size) := by
  have hl : t.data.toList.length = t.size := rfl
  rw [hasPre2, hl]
  unfold isCom
  constructor
  · intro h
    simp only [Bool.and_eq_true, decide_eq_true_eq, beq_iff_eq] at h
    obtain ⟨⟨h0, h1⟩, h2⟩ := h
    refine ⟨⟨?_, ?_⟩, h0⟩
    · rw [hb_in (by omega)]
      have e := Lib.data_getElem? t 0 (by omega)
      rw [List.getD_eq_getElem?_getD, e] at h1
      simp only [Option.getD_some] at h1
      rw [h1]; rfl
    · rw [hb_in (by omega)]
      have e := Lib.data_getElem? t 1 (by omega)
      rw [List.getD_eq_getElem?_getD, e] at h2
      simp only [Option.getD_some] at h2
      rw [h2]; rfl
  · rintro ⟨⟨h1, h2⟩, h0⟩
    have e1 := (hb_iff (t := t) (k := 0) (c := 45) (by decide)).2 h1
    have e2 := (hb_iff (t := t) (k := 1) (c := 45) (by decide)).2 h2
    rw [List.getD_eq_getElem?_getD, List.getD_eq_getElem?_getD, e1, e2]
    simp
    omega
theorem grown_above {w w' : World} {r : Option Nat} (h : w.grownBy w' r) {F : Nat} (hF : w.heap.size ≤ F) (j : Nat) (x : Value) : w.grownBy (w'.setCell ⟨F, j, none⟩ x) r :=
  ⟨h.os, h.tape, h.output, by have := h.size; simpa [World.setCell] using this, fun k hk hn => (heap_setCell_other w' _ k x (fun e => by simp at e; omega)).trans (h.block k hk hn)⟩
theorem scanR_bad {s : ByteArray} {T M F p : Nat} {L : List (Tk × Nat)} {v : Value} {w wS w' : World} {c : Int} {o : Nat} (hF : w.heap.size = F) (hlw : Below w.heap.size w wS) (h : St s T M p L v wS w') (hc : c ≠ 0) (hl : LexR s 0 (.inr (c, o))) (x y z : Value) :
    ScanR s T M w (.agg #[.int .i64 c, .int .i64 ((nlc s o : Int) + 1), .int .i64 ((o : Nat) : Int)]) (((w'.setCell ⟨F, 0, none⟩ x).setCell ⟨F, 1, none⟩ y).setCell ⟨F, 2, none⟩ z) := by
  have hg : w.grownBy w' (some T) := grown_trans (grown_low hlw) h.g
  exact ⟨grown_above (grown_above (grown_above hg (Nat.le_of_eq hF) _ _) (Nat.le_of_eq hF) _ _) (Nat.le_of_eq hF) _ _, .inr ⟨c, o, hc, hl, rfl⟩⟩
theorem Sc.far {s : ByteArray} {T M p F : Nat} {v : Value} {w : World} (h : Sc s T M p v w) (hF : F ≠ T) (j : Nat) (x : Value) : Sc s T M p v (w.setCell ⟨F, j, none⟩ x) :=
  (heap_setCell_other w _ T x (fun e => hF (by simpa using e.symm))).trans h
theorem scanR_ok {s : ByteArray} {T M F p : Nat} {L : List (Tk × Nat)} {v : Value} {w wS w' : World} (hF : w.heap.size = F) (hFT : F ≠ T) (hFS : F < wS.heap.size) (hlw : Below w.heap.size w wS) (h : St s T M p (L ++ [(⟨0, ⟨#[]⟩, 0, 0⟩, s.size)]) v wS w') (hl : LexR s 0 (.inl L)) (hL : L.length ≤ s.size) (x y z : Value) :
    ScanR s T M w (.agg #[.int .i64 0, .int .i64 0, .int .i64 0]) (((w'.setCell ⟨F, 0, none⟩ x).setCell ⟨F, 1, none⟩ y).setCell ⟨F, 2, none⟩ z) := by
  have hg : w.grownBy w' (some T) := grown_trans (grown_low hlw) h.g
  refine ⟨grown_above (grown_above (grown_above hg (Nat.le_of_eq hF) _ _) (Nat.le_of_eq hF) _ _) (Nat.le_of_eq hF) _ _, .inl ⟨L, v, p, hl, hL, rfl, ((h.sc.far hFT _ _).far hFT _ _).far hFT _ _, ?_⟩⟩
  have ho := ((h.own.beside (grown_set _ F 0 x) hFS).beside (grown_set _ F 1 y) hFS).beside (grown_set _ F 2 z) hFS
  obtain ⟨h1, h2⟩ := ho
  refine ⟨h1, ?_⟩
  rcases h2 with h2 | ⟨g, cap, cur, e1, e2, e3⟩
  · exact .inl h2
  · exact .inr ⟨g, cap, cur, e1, Nat.le_trans hlw.size e2, e3⟩
theorem cell_far' {w : World} {T D j i : Nat} {x u : Value} (h : D ≠ T) (hc : w.cell? ⟨D, i, none⟩ = some u) : (w.setCell ⟨T, j, none⟩ x).cell? ⟨D, i, none⟩ = some u :=
  (World.cell?_of_block (heap_setCell_other w _ D x (fun e => h (by simpa using e)))).trans hc
theorem Sc.setTok {s : ByteArray} {T M p : Nat} {v v' : Value} {w : World} (h : Sc s T M p v w) : Sc s T M p v' (w.setCell ⟨T, 4, none⟩ v') := by
  have h1 := heap_setCell_same w T 4 _ _ v' h
  unfold Sc
  rw [h1]
  simp
theorem St.app {s : ByteArray} {T M p : Nat} {L L' : List (Tk × Nat)} {v v' : Value} {wS w w9 : World} {o : Obj} (hT : T < wS.heap.size) (h : St s T M p L v wS w) (hown : OwnT s w9 wS.heap.size v' L') (hg : (w.alloc o).drew.grownBy w9 v.ownBlock) :
    St s T M p L' v' wS (w9.setCell ⟨T, 4, none⟩ v') := by
  have hlt := World.ownsRow.lt h.own
  have hb : Below w.heap.size w (w.alloc o).drew := ((Below.refl _ _).alloc (Nat.le_refl _) _).drew
  have h2 := h.low hb
  have hTw := h2.sc.lt
  refine ⟨?_, ?_, hown.beside (grown_set _ T 4 _) hT⟩
  · have hs2 := h2.g.size
    have g9 : wS.grownBy w9 (some T) := ⟨hg.os.trans h2.g.os, hg.tape.trans h2.g.tape, hg.output.trans h2.g.output, Nat.le_trans hs2 hg.size, fun k hk hn => (hg.block k (Nat.lt_of_lt_of_le hk hs2) (fun e => by have := (hlt k e.symm).1; omega)).trans (h2.g.block k hk hn)⟩
    exact grown_trans g9 (grown_set _ _ _ _)
  · refine Sc.setTok (v := v) ?_
    unfold Sc
    rw [hg.block T hTw (fun e => by have := (hlt T e.symm).1; omega)]
    exact h2.sc
theorem St.far {s : ByteArray} {T M p D : Nat} {L : List (Tk × Nat)} {v : Value} {wS w : World} (h : St s T M p L v wS w) (hD : wS.heap.size ≤ D) (hDT : D ≠ T) (hDv : v.ownBlock ≠ some D) (j : Nat) (x : Value) : St s T M p L v wS (w.setCell ⟨D, j, none⟩ x) :=
  ⟨grown_above h.g hD j x, h.sc.far hDT j x, World.ownsRow.kept h.own (grown_set w D j x) (by
    rcases h.own.2 with ⟨rfl, _⟩ | ⟨g, cap, cur, rfl, _⟩
    · exact .inl rfl
    · exact .inr (fun e => hDv (by simpa using e)))⟩
theorem PBlock.set12 {D : Nat} {v0 v1 v2 v3 v4 v5 v6 v7 v8 v9 x y : Value} {w : World} (h : PBlock D #[v0, v1, v2, v3, v4, v5, v6, v7, v8, v9] w) : PBlock D #[v0, x, y, v3, v4, v5, v6, v7, v8, v9] ((w.setCell ⟨D, 1, none⟩ x).setCell ⟨D, 2, none⟩ y).drew := by
  have h1 := heap_setCell_same w D 1 _ _ x h
  have h2 := heap_setCell_same _ D 2 _ _ y h1
  unfold PBlock
  show (((w.setCell ⟨D, 1, none⟩ x).setCell ⟨D, 2, none⟩ y)).heap[D]? = _
  rw [h2]
  simp
end Go.Proofs.YtmndipnifjpdjaaGreatDoor
