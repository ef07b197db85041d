import Derived.Test.YtmndipnifjpdjaaGreatDoorQ51
import Derived.Test.YtmndipnifjpdjaaGreatDoorQ52
import Derived.Test.YtmndipnifjpdjaaGreatDoorQ24
import Derived.Test.YtmndipnifjpdjaaGreatDoorQ44
namespace Go.Proofs.YtmndipnifjpdjaaGreatDoor
open Go Go.RowKit
set_option linter.unusedVariables false
theorem fc_sc {s : ByteArray} {M : Nat} (w : World) : Sc s w.heap.size M 0 (.slice none 0 0) (w.alloc (.cells #[.string s, .map (some M), .int .i64 0, .int .i64 1, .slice none 0 0] 72)) := by
  have e : nlc s 0 = 0 := rfl
  unfold Sc
  rw [e]
  exact heap_alloc_new w _
theorem fbc {E : Nat} {c l a : Int} {w : World} (h : w.heap[E]? = some (.cells #[.int .i64 c, .int .i64 l, .int .i64 a] 24 (0, 0))) : w.cell? ⟨E, 0, none⟩ = some (.int .i64 c) ∧ w.cell? ⟨E, 1, none⟩ = some (.int .i64 l) ∧ w.cell? ⟨E, 2, none⟩ = some (.int .i64 a) := by
  refine ⟨?_, ?_, ?_⟩ <;> simp [World.cell?, h]
set_option maxHeartbeats 3200000 in
set_option maxRecDepth 100000 in
theorem lexWith_any (s : ByteArray) (M : Nat) (m : Int) (w : World) (hr : s.size ≤ 140737488351232) (hM : FixMap M w) (hE : EnvL w) (hX : MaxAt m w) :
    Calls Tryz.prog 17 #[.map (some M), .string s] w fun e w' => ∃ r, e = .returned r ∧ LexOut s w.heap.size r w' ∧ Below w.heap.size w w' := by
  by_cases hbig : 32768 < s.size
  · have hd : decide ((s.size : Int) > 32768) = true := by simp; omega
    go_enter Tryz.func17, Tryz.ntmps17
    go_wp2
    refine bodyPost_ret (v := .tuple #[.slice none 0 0, .agg #[.int .i64 1, .int .i64 1, .int .i64 0]]) (by simp [results, Tryz.results17, go_sem]) rfl ⟨_, rfl, .inl ⟨hbig, rfl⟩, ?_⟩
    exact (Below.refl _ _).alloc (Nat.le_refl _) _
  · have hs : s.size ≤ 32768 := by omega
    have hd : decide ((s.size : Int) > 32768) = false := by simp; omega
    obtain ⟨G, hG⟩ : ∃ G, w.heap.size = G := ⟨_, rfl⟩
    obtain ⟨wb, hwb⟩ : ∃ wb, w.alloc (.cells #[.int .i64 0, .int .i64 0, .int .i64 0] 24) = wb := ⟨_, rfl⟩
    have HBW : Hid (Below w.heap.size w wb) := hide (by rw [← hwb]; exact (Below.refl _ _).alloc (Nat.le_refl _) _)
    have HGB : Hid (wb.heap[G]? = some (.cells #[.int .i64 0, .int .i64 0, .int .i64 0] 24 (0, 0))) := hide (by rw [← hwb, ← hG]; exact heap_alloc_new w _)
    have HSZ : Hid (wb.heap.size = G + 1) := hide (by rw [← hwb, ← hG]; simp)
    have HM := hide (hM.low HBW.out)
    have HE := hide (hE.low HBW.out)
    have HX := hide (hX.low HBW.out)
    have HG := hide hG
    clear hM hE hX hG
    obtain ⟨T, hT⟩ : ∃ T, wb.heap.size = T := ⟨_, rfl⟩
    have HSC := hide (fc_sc (s := s) (M := M) wb)
    have HBC : Hid (Below wb.heap.size wb (wb.alloc (.cells #[.string s, .map (some M), .int .i64 0, .int .i64 1, .slice none 0 0] 72))) := hide ((Below.refl _ _).alloc (Nat.le_refl _) _)
    rw [hT] at HSC
    have HTE := hide hT
    go_enter Tryz.func17, Tryz.ntmps17
    go_wp2_with fail
    rw [HG.out]
    generalize wb.alloc (.cells #[.string s, .map (some M), .int .i64 0, .int .i64 1, .slice none 0 0] 72) = wT at HSC HBC ⊢
    clear hwb hT hd hbig
    refine (scan_any s T M m wb wT hs HSC.out (Nat.le_of_eq HTE.out) HBC.out HM.out HE.out HX.out).mono ?_
    rintro e w3 ⟨r, rfl, hg3, hcase⟩
    have HG3 : Hid (w3.heap[G]? = some (.cells #[.int .i64 0, .int .i64 0, .int .i64 0] 24 (0, 0))) := hide (by
      have h1 := HSZ.out
      have h2 := HTE.out
      have h3 := HSC.out.lt
      rw [hg3.block G (by omega) (fun e => by injection e with e; omega), HBC.out.block G (by omega)]
      exact HGB.out)
    have HB3 : Hid (Below w.heap.size w w3) := hide (by
      have h1 := HBW.out.trans (HBC.out.mono HBW.out.size)
      have h2 := HTE.out
      have h3 := HBW.out.size
      exact h1.grown hg3 h1.size (fun k e => by injection e with e; omega))
    have HGT : Hid (G < w3.heap.size ∧ T < w3.heap.size ∧ G < T ∧ w.heap.size ≤ wT.heap.size ∧ G < wT.heap.size) := hide (by
      have h1 := HSZ.out
      have h2 := HTE.out
      have h3 := HSC.out.lt
      have h4 := hg3.size
      have h5 := HG.out
      omega)
    clear hg3 HSC HBC HM HE HX HGB
    rcases hcase with ⟨L, v, p, hl, hL, rfl, hsc, hown⟩ | ⟨c, o, hc0, hl, rfl⟩
    · have HL := hide hl
      obtain ⟨E, hE⟩ : ∃ E, w3.heap.size = E := ⟨_, rfl⟩
      have HSC := hide (hsc.low ((Below.refl w3.heap.size w3).alloc (Nat.le_refl _) (.cells #[.int .i64 0, .int .i64 0, .int .i64 0] 24)) hsc.lt)
      have HOW := hide (hown.low ((Below.refl w3.heap.size w3).alloc (Nat.le_refl _) (.cells #[.int .i64 0, .int .i64 0, .int .i64 0] 24)))
      have HB4 := hide (HB3.out.alloc HB3.out.size (.cells #[.int .i64 0, .int .i64 0, .int .i64 0] 24))
      have HG4 : Hid ((w3.alloc (.cells #[.int .i64 0, .int .i64 0, .int .i64 0] 24)).heap[G]? = some (.cells #[.int .i64 0, .int .i64 0, .int .i64 0] 24 (0, 0))) := hide (by
        rw [((Below.refl w3.heap.size w3).alloc (Nat.le_refl _) (.cells #[.int .i64 0, .int .i64 0, .int .i64 0] 24)).block G HGT.out.1]; exact HG3.out)
      have HEB : Hid ((w3.alloc (.cells #[.int .i64 0, .int .i64 0, .int .i64 0] 24)).heap[E]? = some (.cells #[.int .i64 0, .int .i64 0, .int .i64 0] 24 (0, 0))) := hide (by rw [← hE]; exact heap_alloc_new w3 _)
      clear hsc hown hl
      rename_i K1 a1 K0 a0
      have HK := hide a1
      clear a1
      go_wp2
      generalize w3.alloc (.cells #[.int .i64 0, .int .i64 0, .int .i64 0] 24) = w4 at HSC HOW HB4 HG4 HEB ⊢
      clear hE
      refine HK.out _ _ ?_
      clear HK
      obtain ⟨s0, s1, s2, s3, s4, x2, x3, x4⟩ := HSC.out.cells
      obtain ⟨f0, f1, f2, g0, g1, g2⟩ := FC.of HG4.out
      obtain ⟨e0, e1, e2, h0, h1, h2⟩ := FC.of HEB.out
      go_wp2
      refine bodyPost_ret (v := .tuple #[v, .agg #[.int .i64 0, .int .i64 0, .int .i64 0]]) (by simp [results, Tryz.results17, go_sem, f0, f1, f2]) rfl ⟨_, rfl, .inr (.inl ⟨hs, L, v, wT.heap.size, HGT.out.2.2.2.1, HL.out, hL, rfl, ?_⟩), ?_⟩
      · exact ((HOW.out.beside (grown_set _ G _ _) HGT.out.2.2.2.2).beside (grown_set _ G _ _) HGT.out.2.2.2.2).beside (grown_set _ G _ _) HGT.out.2.2.2.2
      · exact ((HB4.out.setCell (p := ⟨G, 0, none⟩) (Nat.le_of_eq HG.out) _).setCell (p := ⟨G, 1, none⟩) (Nat.le_of_eq HG.out) _).setCell (p := ⟨G, 2, none⟩) (Nat.le_of_eq HG.out) _
    · have HL := hide hl
      have HC0 := hide hc0
      have hq0 := bq_f hc0
      obtain ⟨E, hE⟩ : ∃ E, w3.heap.size = E := ⟨_, rfl⟩
      have HB4 := hide (HB3.out.alloc HB3.out.size (.cells #[.int .i64 c, .int .i64 ((nlc s o : Int) + 1), .int .i64 ((o : Nat) : Int)] 24))
      have HG4 : Hid ((w3.alloc (.cells #[.int .i64 c, .int .i64 ((nlc s o : Int) + 1), .int .i64 ((o : Nat) : Int)] 24)).heap[G]? = some (.cells #[.int .i64 0, .int .i64 0, .int .i64 0] 24 (0, 0))) := hide (by
        rw [((Below.refl w3.heap.size w3).alloc (Nat.le_refl _) (.cells #[.int .i64 c, .int .i64 ((nlc s o : Int) + 1), .int .i64 ((o : Nat) : Int)] 24)).block G HGT.out.1]; exact HG3.out)
      have HEB : Hid ((w3.alloc (.cells #[.int .i64 c, .int .i64 ((nlc s o : Int) + 1), .int .i64 ((o : Nat) : Int)] 24)).heap[E]? = some (.cells #[.int .i64 c, .int .i64 ((nlc s o : Int) + 1), .int .i64 ((o : Nat) : Int)] 24 (0, 0))) := hide (by rw [← hE]; exact heap_alloc_new w3 _)
      have hEG : E ≠ G := by have := HGT.out.1; omega
      have hGE : G ≠ E := hEG.symm
      clear hl hc0
      rename_i K1 a1 K0 a0
      have HK := hide a1
      clear a1
      go_wp2
      generalize w3.alloc (.cells #[.int .i64 c, .int .i64 ((nlc s o : Int) + 1), .int .i64 ((o : Nat) : Int)] 24) = w4 at HB4 HG4 HEB ⊢
      clear hE
      refine HK.out _ _ ?_
      clear HK
      obtain ⟨f0, f1, f2, g0, g1, g2⟩ := FC.of HG4.out
      obtain ⟨e0, e1, e2⟩ := fbc HEB.out
      go_wp2
      go_region
      go_wp2
      refine bodyPost_ret (v := .tuple #[.slice none 0 0, .agg #[.int .i64 c, .int .i64 ((nlc s o : Int) + 1), .int .i64 ((o : Nat) : Int)]]) (by simp [results, Tryz.results17, go_sem, f0, f1, f2]) rfl ⟨_, rfl, .inr (.inr ⟨hs, c, o, HL.out, rfl⟩), ?_⟩
      exact (((HB4.out.setCell (p := ⟨G, 0, none⟩) (Nat.le_of_eq HG.out) _).setCell (p := ⟨G, 1, none⟩) (Nat.le_of_eq HG.out) _).setCell (p := ⟨G, 2, none⟩) (Nat.le_of_eq HG.out) _).drew
set_option maxHeartbeats 3200000 in
set_option maxRecDepth 100000 in
theorem implLex_any (s : ByteArray) (m : Int) (w : World) (hr : s.size ≤ 140737488351232) (hT : TabL w) (hE : EnvL w) (hX : MaxAt m w) :
    Calls Tryz.prog 7 #[.string s] w fun e w' => ∃ r, e = .returned r ∧ LexOut s w.heap.size r w' ∧ Below w.heap.size w w' := by
  obtain ⟨G, hG⟩ : ∃ G, w.heap.size = G := ⟨_, rfl⟩
  obtain ⟨wb, hwb⟩ : ∃ wb, w.alloc (.cells #[.int .i64 0, .int .i64 0, .int .i64 0] 24) = wb := ⟨_, rfl⟩
  have HBW : Hid (Below w.heap.size w wb) := hide (by rw [← hwb]; exact (Below.refl _ _).alloc (Nat.le_refl _) _)
  have HGB : Hid (wb.heap[G]? = some (.cells #[.int .i64 0, .int .i64 0, .int .i64 0] 24 (0, 0))) := hide (by rw [← hwb, ← hG]; exact heap_alloc_new w _)
  have HSZ : Hid (wb.heap.size = G + 1) := hide (by rw [← hwb, ← hG]; simp)
  have HG := hide hG
  have HTB := hide (hT.low HBW.out)
  have HEB := hide (hE.low HBW.out)
  have HXB := hide (hX.low HBW.out)
  clear hT hE hX hG
  go_enter Tryz.func7, Tryz.ntmps7
  go_wp2_with fail
  rw [HG.out]
  clear hwb
  refine (fixed_any wb HTB.out).mono ?_
  rintro e w1 ⟨rfl, hM, hb1⟩
  have HB1 := hide hb1
  have HM1 := hide hM
  have HE1 := hide (HEB.out.low hb1)
  have HX1 := hide (HXB.out.low hb1)
  have HG1 : Hid (w1.heap[G]? = some (.cells #[.int .i64 0, .int .i64 0, .int .i64 0] 24 (0, 0))) := hide (by
    have h1 := HSZ.out
    rw [hb1.block G (by omega)]; exact HGB.out)
  clear hM hb1 HGB HTB HEB HXB
  go_wp2_with fail
  refine (lexWith_any s _ m w1 hr HM1.out HE1.out HX1.out).mono ?_
  rintro e w2 ⟨r, rfl, hlo, hb2⟩
  have HG2 : Hid (w2.heap[G]? = some (.cells #[.int .i64 0, .int .i64 0, .int .i64 0] 24 (0, 0))) := hide (by
    have h1 := HSZ.out
    have h2 := HB1.out.size
    rw [hb2.block G (by omega)]; exact HG1.out)
  have HB2 : Hid (Below w.heap.size w w2) := hide (by
    have h1 := HBW.out.trans (HB1.out.mono HBW.out.size)
    exact h1.trans (hb2.mono h1.size))
  have HW1 : Hid (w.heap.size ≤ w1.heap.size ∧ G < w1.heap.size) := hide (by
    have h1 := HSZ.out
    have h2 := HB1.out.size
    have h3 := HG.out
    omega)
  clear hb2
  obtain ⟨f0, f1, f2, g0, g1, g2⟩ := FC.of HG2.out
  obtain ⟨v, c, l, a, rfl, hout⟩ : ∃ (v : Value) (c l a : Int), r = .tuple #[v, .agg #[.int .i64 c, .int .i64 l, .int .i64 a]] ∧ ∀ x y z : Value, LexOut s w.heap.size (.tuple #[v, .agg #[.int .i64 c, .int .i64 l, .int .i64 a]]) (((w2.setCell ⟨G, 0, none⟩ x).setCell ⟨G, 1, none⟩ y).setCell ⟨G, 2, none⟩ z) := by
    rcases hlo with ⟨h1, rfl⟩ | ⟨h1, L, v, base, h2, h3, h4, rfl, h5⟩ | ⟨h1, c, o, h2, rfl⟩
    · exact ⟨_, _, _, _, rfl, fun _ _ _ => .inl ⟨h1, rfl⟩⟩
    · exact ⟨_, _, _, _, rfl, fun x y z => .inr (.inl ⟨h1, L, v, base, Nat.le_trans HW1.out.1 h2, h3, h4, rfl, ((h5.beside (grown_set _ G _ _) (Nat.lt_of_lt_of_le HW1.out.2 h2)).beside (grown_set _ G _ _) (Nat.lt_of_lt_of_le HW1.out.2 h2)).beside (grown_set _ G _ _) (Nat.lt_of_lt_of_le HW1.out.2 h2)⟩)⟩
    · exact ⟨_, _, _, _, rfl, fun _ _ _ => .inr (.inr ⟨h1, c, o, h2, rfl⟩)⟩
  have HO := hide hout
  clear hout hlo
  go_wp2
  refine bodyPost_ret (v := .tuple #[v, .agg #[.int .i64 c, .int .i64 l, .int .i64 a]]) (by simp [results, Tryz.results7, go_sem, f0, f1, f2]) rfl ⟨_, rfl, HO.out _ _ _, ?_⟩
  exact ((HB2.out.setCell (p := ⟨G, 0, none⟩) (Nat.le_of_eq HG.out) _).setCell (p := ⟨G, 1, none⟩) (Nat.le_of_eq HG.out) _).setCell (p := ⟨G, 2, none⟩) (Nat.le_of_eq HG.out) _
end Go.Proofs.YtmndipnifjpdjaaGreatDoor
namespace Go.Proofs.YtmndipnifjpdjaaGreatDoor
open Go Go.RowKit
set_option linter.unusedVariables false
def tokF (s : ByteArray) (L : List (Tk × Nat)) (j : Nat) : Value := ((toksC s L)[j]?).getD (.int .i64 0)
theorem toksC_at (s : ByteArray) : ∀ (L : List (Tk × Nat)) (i c : Nat) (t : Tk × Nat), L[i]? = some t → c < 6 → (toksC s L)[i * 6 + c]? = (tokC s t)[c]?
  | [], i, c, t, h, hc => by simp at h
  | a :: L, 0, c, t, h, hc => by
    have e : a = t := by simpa using h
    subst e
    have hlen : (tokC s a).length = 6 := rfl
    show (tokC s a ++ toksC s L)[0 * 6 + c]? = _
    rw [Nat.zero_mul, Nat.zero_add, List.getElem?_append_left (by omega)]
  | a :: L, i + 1, c, t, h, hc => by
    have h' : L[i]? = some t := by simpa using h
    have hlen : (tokC s a).length = 6 := rfl
    show (tokC s a ++ toksC s L)[(i + 1) * 6 + c]? = _
    rw [List.getElem?_append_right (by omega), hlen, show (i + 1) * 6 + c - 6 = i * 6 + c by omega]
    exact toksC_at s L i c t h' hc
theorem tokF_ok (s : ByteArray) (L : List (Tk × Nat)) : TokF L.length (tokF s L) := by
  intro i hi
  have h : L[i]? = some L[i] := List.getElem?_eq_getElem hi
  have key : ∀ c v, c < 6 → (tokC s L[i])[c]? = some v → tokF s L (i * 6 + c) = v := by
    intro c v hc hv
    unfold tokF
    rw [toksC_at s L i c _ h hc, hv]
    rfl
  exact ⟨_, _, _, _, _, _, key 0 _ (by omega) rfl, key 1 _ (by omega) rfl, key 2 _ (by omega) rfl, key 3 _ (by omega) rfl, key 4 _ (by omega) rfl, key 5 _ (by omega) rfl⟩
theorem rows_of {s : ByteArray} {w : World} {base b : Nat} {v : Value} {L : List (Tk × Nat)} (hb : b ≤ base) (hL : 1 ≤ L.length) (h : OwnT s w base v L) : Rows b w v L.length (tokF s L) := by
  obtain ⟨h1, h2⟩ := h
  rcases h2 with ⟨_, h0⟩ | ⟨g, cap, cur, rfl, hg, hh, hn, hm, hs, ht⟩
  · omega
  · refine .inr ⟨hL, g, cap, rfl, Nat.le_trans hb hg, hn, cur, hh, by rw [hs]; exact Nat.mul_le_mul_right 6 hn, fun j hj => ?_⟩
    unfold tokF
    rw [← ht, List.getElem?_take, if_pos hj, ← Array.getElem?_toList]
    have hjl : j < cur.toList.length := by
      have : L.length * 6 ≤ cap * 6 := Nat.mul_le_mul_right 6 hn
      simp
      omega
    rw [List.getElem?_eq_getElem hjl]
    rfl
theorem lex_same (s : ByteArray) : ∃ (n : Nat) (f : Nat → Value) (c l a : Int), n ≤ 32769 ∧ TokF n f ∧ ∀ (b : Nat) (r : Value) (w : World), LexOut s b r w → ∃ v, r = .tuple #[v, .agg #[.int .i64 c, .int .i64 l, .int .i64 a]] ∧ Rows b w v n f := by
  by_cases hbig : 32768 < s.size
  · refine ⟨0, fun _ => .int .i64 0, 1, 1, 0, by omega, fun i hi => by omega, ?_⟩
    rintro b r w (⟨_, rfl⟩ | ⟨h, _⟩ | ⟨h, _⟩)
    · exact ⟨_, rfl, .inl ⟨rfl, rfl⟩⟩
    · omega
    · omega
  by_cases hA : ∃ L, LexR s 0 (.inl L) ∧ L.length ≤ s.size
  · obtain ⟨L, hL, hlen⟩ := hA
    refine ⟨(L ++ [((⟨0, ⟨#[]⟩, 0, 0⟩ : Tk), s.size)]).length, tokF s (L ++ [(⟨0, ⟨#[]⟩, 0, 0⟩, s.size)]), 0, 0, 0, by simp; omega, tokF_ok s _, ?_⟩
    rintro b r w (⟨h, _⟩ | ⟨_, L', v, base, hb, h1, _, rfl, h2⟩ | ⟨_, c, o, h1, _⟩)
    · exact absurd h hbig
    · have e := h1.unique hL
      injection e with e
      subst e
      exact ⟨v, rfl, rows_of hb (by simp) h2⟩
    · have e := h1.unique hL
      cases e
  by_cases hB : ∃ c o, LexR s 0 (.inr (c, o))
  · obtain ⟨c, o, hR⟩ := hB
    refine ⟨0, fun _ => .int .i64 0, c, (nlc s o : Int) + 1, ((o : Nat) : Int), by omega, fun i hi => by omega, ?_⟩
    rintro b r w (⟨h, _⟩ | ⟨_, L', v, base, hb, h1, _, rfl, h2⟩ | ⟨_, c', o', h1, rfl⟩)
    · exact absurd h hbig
    · have e := h1.unique hR
      cases e
    · have e := h1.unique hR
      injection e with e
      injection e with e1 e2
      subst e1 e2
      exact ⟨_, rfl, .inl ⟨rfl, rfl⟩⟩
  · refine ⟨0, fun _ => .int .i64 0, 0, 0, 0, by omega, fun i hi => by omega, ?_⟩
    rintro b r w (⟨h, _⟩ | ⟨_, L', v, base, hb, h1, h2, _⟩ | ⟨_, c', o', h1, _⟩)
    · exact absurd h hbig
    · exact absurd ⟨L', h1, h2⟩ hA
    · exact absurd ⟨c', o', h1⟩ hB
theorem law_any (s : ByteArray) (w : World) (m : Int) (hT : TabL w) (hE : EnvL w) (hX : MaxAt m w) : Calls Tryz.prog 3 #[.string s] w fun e w' => e = .returned (.bool true) ∧ Below w.heap.size w w' := by
  by_cases hs : 1048576 < s.size
  · exact law_big s w hs
  obtain ⟨n, f, c, l, a, hn, ht, hsame⟩ := lex_same s
  refine law_core s n f c l a w hn ht (by omega) ?_ ?_
  · refine (spec_lex s w (by omega)).mono ?_
    rintro e w' ⟨r, rfl, ho, hb⟩
    obtain ⟨v, rfl, hr⟩ := hsame _ _ _ ho
    exact ⟨v, rfl, hr, hb⟩
  · intro w1 hb1
    refine (implLex_any s m w1 (by omega) (hT.low hb1) (hE.low hb1) (hX.low hb1)).mono ?_
    rintro e w' ⟨r, rfl, ho, hb⟩
    obtain ⟨v, rfl, hr⟩ := hsame _ _ _ ho
    exact ⟨v, rfl, hr, hb⟩
end Go.Proofs.YtmndipnifjpdjaaGreatDoor
namespace Go.Proofs.YtmndipnifjpdjaaGreatDoor
theorem fnExactLex_holds : Rows.FnExactLexCardSaid := card_of (fun s w m hT hE hX => law_any s w m hT hE hX)
#print axioms fnExactLex_holds
end Go.Proofs.YtmndipnifjpdjaaGreatDoor
