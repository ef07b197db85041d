import Derived.BigRegion
import Derived.Deep.RegionWith
import Derived.Test.YtmndipnifjpdjaaGreatDoorQ14
namespace Go.Proofs.YtmndipnifjpdjaaGreatDoor
open Go Go.RowKit
set_option linter.unusedVariables false
def fromE : ByteArray := ⟨#[97, 98, 116, 110, 118, 102, 114, 92, 34, 39, 10]⟩
def toE : ByteArray := ⟨#[7, 8, 9, 10, 11, 12, 13, 92, 34, 39, 10]⟩
theorem fromE_fact : ∀ k, k < 11 → simpleEsc (hb fromE k) = some (hb toE k) ∧ hb fromE k ≠ 120 ∧ isDig (hb fromE k) = false ∧ hb fromE k ≠ 0 := by decide
theorem esc_none {c : Int} (h : ∀ k, k < 11 → c ≠ hb fromE k) : simpleEsc c = none := by
  have h0 : c ≠ 97 := h 0 (by omega)
  have h1 : c ≠ 98 := h 1 (by omega)
  have h2 : c ≠ 116 := h 2 (by omega)
  have h3 : c ≠ 110 := h 3 (by omega)
  have h4 : c ≠ 118 := h 4 (by omega)
  have h5 : c ≠ 102 := h 5 (by omega)
  have h6 : c ≠ 114 := h 6 (by omega)
  have h7 : c ≠ 92 := h 7 (by omega)
  have h8 : c ≠ 34 := h 8 (by omega)
  have h9 : c ≠ 39 := h 9 (by omega)
  have h10 : c ≠ 10 := h 10 (by omega)
  simp [simpleEsc, *]
theorem escF_simple {f : Nat → Int} {N k : Nat} (hN : 2 ≤ N) (hk : k < 11) (h : f 1 = hb fromE k) : escF f N 0 = some (hb toE k, 2) := by
  obtain ⟨a, b, c, d⟩ := fromE_fact k hk
  unfold escF
  rw [if_neg (by omega), show (0 + 1) = 1 from rfl, h, if_neg b, if_neg (by rw [c]; decide), a]
  rfl
theorem escF_hex {f : Nat → Int} {N : Nat} (hN : 2 ≤ N) (h : f 1 = 120) (h2 : 0 ≤ hexVal (f 2)) (h3 : 0 ≤ hexVal (f 3)) : escF f N 0 = some (16 * hexVal (f 2) + hexVal (f 3), 4) := by
  unfold escF
  rw [if_neg (by omega), show (0 + 1) = 1 from rfl, show (0 + 2) = 2 from rfl, show (0 + 3) = 3 from rfl, if_pos h, if_pos ⟨h2, h3⟩]
theorem escF_none {f : Nat → Int} {N : Nat} (h : simpleEsc (f 1) = none) (hd : isDig (f 1) = false) (hx : f 1 = 120 → ¬ (0 ≤ hexVal (f 2) ∧ 0 ≤ hexVal (f 3))) : escF f N 0 = none := by
  unfold escF
  rw [show (0 + 1) = 1 from rfl, show (0 + 2) = 2 from rfl, show (0 + 3) = 3 from rfl]
  by_cases h1 : N ≤ 1
  · rw [if_pos h1]
  · rw [if_neg h1]
    by_cases h2 : f 1 = 120
    · rw [if_pos h2, if_neg (hx h2)]
    · rw [if_neg h2, if_neg (by rw [hd]; decide), h]
      rfl
def dvE (f : Nat → Int) : Nat → Int
  | 0 => 0
  | n + 1 => dvE f n * 10 + f (1 + n) - 48
def DecS (f : Nat → Int) (n : Nat) (d : Int) : Prop := (∀ i, i < n → isDig (f (1 + i)) = true) ∧ d = dvE f n
theorem DecS.next {f : Nat → Int} {n : Nat} {d : Int} (h : DecS f n d) (h' : isDig (f (1 + n)) = true) : DecS f (n + 1) (d * 10 + f (1 + n) - 48) := by
  refine ⟨fun i hi => ?_, ?_⟩
  · by_cases e : i = n
    · subst e; exact h'
    · exact h.1 i (by omega)
  · rw [h.2]; rfl
theorem isDig_rng {c : Int} (h : isDig c = true) : 48 ≤ c ∧ c ≤ 57 := by simpa [isDig] using h
theorem dvE1 (f : Nat → Int) : dvE f 1 = 0 * 10 + f 1 - 48 := rfl
theorem dvE2 (f : Nat → Int) : dvE f 2 = (0 * 10 + f 1 - 48) * 10 + f 2 - 48 := rfl
theorem dvE3 (f : Nat → Int) : dvE f 3 = ((0 * 10 + f 1 - 48) * 10 + f 2 - 48) * 10 + f 3 - 48 := rfl
theorem DecS.rng {f : Nat → Int} {n : Nat} {d : Int} (h : DecS f n d) (hn : n ≤ 3) : 0 ≤ d ∧ d ≤ 999 ∧ (n < 3 → d ≤ 99) := by
  obtain ⟨h1, rfl⟩ := h
  match n, hn with
  | 0, _ => simp [dvE]
  | 1, _ => have a : 48 ≤ f 1 ∧ f 1 ≤ 57 := isDig_rng (h1 0 (by omega)); rw [dvE1]; omega
  | 2, _ => have a : 48 ≤ f 1 ∧ f 1 ≤ 57 := isDig_rng (h1 0 (by omega)); have b : 48 ≤ f 2 ∧ f 2 ≤ 57 := isDig_rng (h1 1 (by omega)); rw [dvE2]; omega
  | 3, _ => have a : 48 ≤ f 1 ∧ f 1 ≤ 57 := isDig_rng (h1 0 (by omega)); have b : 48 ≤ f 2 ∧ f 2 ≤ 57 := isDig_rng (h1 1 (by omega)); have c : 48 ≤ f 3 ∧ f 3 ≤ 57 := isDig_rng (h1 2 (by omega)); rw [dvE3]; omega
theorem escF_dec {f : Nat → Int} {N n : Nat} {d : Int} (hN : 2 ≤ N) (h : DecS f n d) (h1 : 1 ≤ n) (hn : n ≤ 3) (he : n = 3 ∨ isDig (f (1 + n)) = false) : escF f N 0 = if d ≤ 255 then some (d, n + 1) else none := by
  obtain ⟨h2, rfl⟩ := h
  have a := h2 0 (by omega)
  rw [Nat.add_zero] at a
  have a' := isDig_rng a
  unfold escF
  rw [if_neg (by omega), show (0 + 1) = 1 from rfl, show (0 + 2) = 2 from rfl, show (0 + 3) = 3 from rfl, if_neg (by omega), if_pos a]
  match n, hn with
  | 0, _ => omega
  | 1, _ =>
    rcases he with he | he
    · omega
    · have he' : isDig (f 2) = false := he
      rw [if_neg (by rw [he']; decide), if_pos (by rw [dvE1]; omega), dvE1]
      congr 2
      omega
  | 2, _ =>
    have b : isDig (f 2) = true := h2 1 (by omega)
    have b' := isDig_rng b
    rcases he with he | he
    · omega
    · have he' : isDig (f 3) = false := he
      rw [if_pos b, if_neg (by rw [he']; decide), if_pos (by rw [dvE2]; omega), dvE2]
      congr 2
      omega
  | 3, _ =>
    have b : isDig (f 2) = true := h2 1 (by omega)
    have c : isDig (f 3) = true := h2 2 (by omega)
    rw [if_pos b, if_pos c]
    have e : dvE f 3 = (f 1 - 48) * 100 + (f 2 - 48) * 10 + (f 3 - 48) := by rw [dvE3]; omega
    rw [e]
def EscR (s : ByteArray) (S p : Nat) (v : Value) (fc fl fa : Int) (w : World) (e : Ending) (w' : World) : Prop :=
  (∃ (b : Int) (k g : Nat), escF (fr s p) (s.size - p) 0 = some (b, k) ∧ 0 ≤ b ∧ b < 256 ∧ 2 ≤ k ∧ p + k ≤ s.size ∧ e = .returned (.slice (some ⟨g, 0, none⟩) 1 1) ∧ w'.heap[g]? = some (.cells #[.int .u8 b] 5 (0, 0)) ∧ w.heap.size ≤ g ∧ Lx s S (p + k) v fc fl fa w' ∧ w.grownBy w' (some S)) ∨
  (escF (fr s p) (s.size - p) 0 = none ∧ e = .returned (.slice none 0 0) ∧ Lx s S p v 4 ((nlc s p : Int) + 1) p w' ∧ w.grownBy w' (some S))
theorem escR_b {s : ByteArray} {S p : Nat} {v : Value} {fc fl fa : Int} {w w1 : World} {b : Int} {k : Nat} (h : escF (fr s p) (s.size - p) 0 = some (b, k)) (h0 : 0 ≤ b) (h1 : b < 256) (h2 : 2 ≤ k) (h3 : p + k ≤ s.size)
    (hx : Lx s S (p + k) v fc fl fa w1) (hg : w.grownBy w1 (some S)) : EscR s S p v fc fl fa w (.returned (.slice (some ⟨w1.heap.size, 0, none⟩) 1 1)) (w1.alloc (.cells #[.int .u8 b] 5)) :=
  .inl ⟨b, k, w1.heap.size, h, h0, h1, h2, h3, rfl, heap_alloc_new w1 _, hg.size, hx.low ((Below.refl _ _).alloc (Nat.le_refl _) _), grown_trans hg (grown_low ((Below.refl _ _).alloc (Nat.le_refl _) _))⟩
theorem escR_n {s : ByteArray} {S p : Nat} {v : Value} {fc fl fa : Int} {w w1 : World} (h : escF (fr s p) (s.size - p) 0 = none) (hx : Lx s S p v 4 ((nlc s p : Int) + 1) p w1) (hg : w.grownBy w1 (some S)) :
    EscR s S p v fc fl fa w (.returned (.slice none 0 0)) w1 := .inr ⟨h, rfl, hx, hg⟩
def NotFrom (c : Int) (k : Nat) : Prop := ∀ j, j < k → c ≠ hb fromE j
theorem NotFrom.next {c : Int} {k : Nat} (h : NotFrom c k) (h' : c ≠ hb fromE k) : NotFrom c (k + 1) := by
  intro j hj
  by_cases e : j = k
  · subst e; exact h'
  · exact h j (by omega)
theorem u8_id {x : Int} (h0 : 0 ≤ x) (h1 : x < 256) : IntKind.u8.wrap x = x := by
  rw [IntKind.wrap_u8]
  omega
theorem hexVal_le (c : Int) : hexVal c ≤ 15 := by
  unfold hexVal
  repeat (first | omega | split)
set_option maxHeartbeats 8000000 in
set_option maxRecDepth 100000 in
theorem escape_any (s : ByteArray) (S p : Nat) (v : Value) (fc fl fa : Int) (w : World) (hx : Lx s S p v fc fl fa w) (hs : s.size ≤ 32768) (hp : p < s.size) :
    Calls Tryz.prog 65 #[.pointer (some ⟨S, 0, none⟩)] w fun e w' => EscR s S p v fc fl fa w e w' := by
  have Hx := hide hx
  clear hx
  have hnl := nlc_le s p
  go_enter Tryz.func65, Tryz.ntmps65
  go_wp2_with fail
  refine (here_any s S p 1 v fc fl fa _ Hx.out hs (by omega) (by omega)).mono ?_
  rintro e w1 ⟨rfl, m0, rfl⟩
  obtain ⟨c, hc⟩ : ∃ c, hb s (p + 1) = c := ⟨_, rfl⟩
  have hr := hb_rng s (p + 1)
  have Hc : Hid (fr s p 1 = c) := hide hc
  have Hlt : Hid (c ≠ 0 → p + 1 < s.size) := hide (fun h => hb_lt (by rw [hc]; exact h))
  rw [hc] at hr ⊢
  clear hc
  go_wp2
  go_loopw [6] (fun kv wr => ∃ k m : Nat, k ≤ 11 ∧ kv = .int .i64 k ∧ Hid (NotFrom c k) ∧ wr = w.drewN m) (fun kv _ => 12 - (intOf kv).toNat)
  case atStart => exact ⟨0, _, by omega, rfl, hide (fun j hj => by omega), rfl⟩
  case round =>
    obtain ⟨k, m, hk, rfl, HF, rfl⟩ := hrel
    by_cases hk2 : k < 11
    · have hix : ∀ w' : World, (Instr.index 9 (.string ⟨#[97, 98, 116, 110, 118, 102, 114, 92, 34, 39, 10]⟩) (.int .i64 (k : Int))).run Tryz.prog w' = .ok (.int .u8 (hb fromE k)) w' := fun w' => idx_str fromE (i := (k : Int)) w' (by omega) (show (k : Int) < 11 by omega)
      have hix2 : ∀ w' : World, (Instr.index 9 (.string ⟨#[7, 8, 9, 10, 11, 12, 13, 92, 34, 39, 10]⟩) (.int .i64 (k : Int))).run Tryz.prog w' = .ok (.int .u8 (hb toE k)) w' := fun w' => idx_str toE (i := (k : Int)) w' (by omega) (show (k : Int) < 11 by omega)
      obtain ⟨x, hxx⟩ : ∃ x, hb fromE k = x := ⟨_, rfl⟩
      have HXX := hide hxx
      rw [hxx] at hix
      clear hxx
      by_cases hcx : c = x
      · have hlt := Hlt.out (by rw [hcx, ← HXX.out]; exact (fromE_fact k hk2).2.2.2)
        have HE := hide (escF_simple (f := fr s p) (N := s.size - p) (by omega) hk2 (by rw [Hc.out, hcx, HXX.out]))
        have hq := bq_t hcx
        have hd : decide ((p : Int) + 1 < (s.size : Int)) = true := by simp; omega
        have hrt := hb_rng toE k
        obtain ⟨c0, c1, c2, c3, c4, c5, c6, z1, z2, z3, z4, z5, z6⟩ := Hx.out.cells
        clear hcx
        go_wp2
        go_quiet (fail)
        go_wp2_with fail
        clear c0 c1 c2 c3 c4 c5 c6 z1 z2 z3 z4 z5 z6
        refine (step_any s S p 2 v fc fl fa _ (Hx.out.drw _) hs (by omega)).mono ?_
        rintro e w3 ⟨rfl, hx3, hg3⟩
        have HX3 := hide hx3
        have HG3 := hide (grown_trans (grown_drewN w (some S) _) hg3)
        clear hx3 hg3
        go_wp2
        go_ret
        exact escR_b HE.out hrt.1 hrt.2 (by omega) (by omega) HX3.out HG3.out
      · have HF2 := hide (HF.out.next (by rw [HXX.out]; exact hcx))
        have hq := bq_f hcx
        clear hcx
        obtain ⟨c0, c1, c2, c3, c4, c5, c6, z1, z2, z3, z4, z5, z6⟩ := Hx.out.cells
        go_wp2
        go_quiet (fail)
        go_wp2
        go_roundw
        case rel => exact ⟨k + 1, _, by omega, rfl, HF2, rfl⟩
        case measure => simp [intOf]; omega
    · have HSN := hide (esc_none (c := c) (by have := HF.out; rw [show k = 11 by omega] at this; exact this))
      by_cases h120 : c = 120
      · have hlt := Hlt.out (by omega)
        subst h120
        go_wp2_with fail
        refine (here_any s S p 2 v fc fl fa _ (Hx.out.drw _) hs (by omega) (by omega)).mono ?_
        rintro e w1 ⟨rfl, m2, rfl⟩
        obtain ⟨a, ha⟩ : ∃ a, hb s (p + 2) = a := ⟨_, rfl⟩
        have hra := hb_rng s (p + 2)
        have Ha : Hid (fr s p 2 = a) := hide ha
        rw [ha] at hra ⊢
        clear ha
        go_wp2_with fail
        refine (hexDigit_any a _ hra.1 hra.2).mono ?_
        rintro e w1 ⟨rfl, rfl⟩
        have hla := hexVal_le a
        by_cases h2 : 0 ≤ hexVal a
        · go_wp2_with fail
          refine (here_any s S p 3 v fc fl fa _ (Hx.out.drw _) hs (by omega) (by omega)).mono ?_
          rintro e w1 ⟨rfl, m3, rfl⟩
          obtain ⟨b, hb'⟩ : ∃ b, hb s (p + 3) = b := ⟨_, rfl⟩
          have hrb := hb_rng s (p + 3)
          have Hb : Hid (fr s p 3 = b) := hide hb'
          have Hltb : Hid (b ≠ 0 → p + 3 < s.size) := hide (fun h => hb_lt (by rw [hb']; exact h))
          rw [hb'] at hrb ⊢
          have hb2 := hb'
          have HB2 := hide hb2
          clear hb' hb2
          go_wp2_with fail
          refine (hexDigit_any b _ hrb.1 hrb.2).mono ?_
          rintro e w1 ⟨rfl, rfl⟩
          have hlb := hexVal_le b
          by_cases h3 : 0 ≤ hexVal b
          · have hlt3 := Hltb.out (fun e => by subst e; revert h3; decide)
            have HE := hide (escF_hex (f := fr s p) (N := s.size - p) (by omega) Hc.out (by rw [Ha.out]; exact h2) (by rw [Hb.out]; exact h3))
            go_wp2_with fail
            refine (here_any s S p 2 v fc fl fa _ (Hx.out.drw _) hs (by omega) (by omega)).mono ?_
            rintro e w1 ⟨rfl, m4, rfl⟩
            rw [show hb s (p + 2) = a from Ha.out]
            go_wp2_with fail
            refine (hexDigit_any a _ hra.1 hra.2).mono ?_
            rintro e w1 ⟨rfl, rfl⟩
            go_wp2_with fail
            refine (here_any s S p 3 v fc fl fa _ (Hx.out.drw _) hs (by omega) (by omega)).mono ?_
            rintro e w1 ⟨rfl, m5, rfl⟩
            rw [HB2.out]
            go_wp2_with fail
            refine (hexDigit_any b _ hrb.1 hrb.2).mono ?_
            rintro e w1 ⟨rfl, rfl⟩
            go_wp2_with fail
            refine (step_any s S p 4 v fc fl fa _ (Hx.out.drw _) hs (by omega)).mono ?_
            rintro e w3 ⟨rfl, hx3, hg3⟩
            have HX3 := hide hx3
            have HG3 := hide (grown_trans (grown_drewN w (some S) _) hg3)
            clear hx3 hg3
            have hwr := u8_id (x := 16 * hexVal a + hexVal b) (by omega) (by omega)
            go_wp2
            go_ret
            have hh := escR_b HE.out (by rw [Ha.out, Hb.out]; omega) (by rw [Ha.out, Hb.out]; omega) (by omega) (by omega) HX3.out HG3.out
            rw [Ha.out, Hb.out] at hh
            exact hh
          · have HXN : Hid (fr s p 1 = 120 → ¬ (0 ≤ hexVal (fr s p 2) ∧ 0 ≤ hexVal (fr s p 3))) := hide (fun _ h => h3 (by rw [← Hb.out]; exact h.2))
            have hd3 : decide (0 ≤ hexVal b) = false := by simpa using h3
            clear h3
            go_wp2
            go_loopw [8, 9] (fun vv nv wr => ∃ (n m : Nat) (d : Int), n ≤ 3 ∧ nv = .int .i64 n ∧ vv = .int .i64 d ∧ Hid (DecS (fr s p) n d) ∧ wr = w.drewN m) (fun _ nv _ => 4 - (intOf nv).toNat)
            case atStart => exact ⟨0, _, 0, by omega, rfl, rfl, hide ⟨fun i hi => by omega, rfl⟩, rfl⟩
            case round =>
              obtain ⟨n, m, d, hn, rfl, rfl, HD, rfl⟩ := hrel
              obtain ⟨hd0, hd1, hd2⟩ := HD.out.rng hn
              by_cases hn3 : n < 3
              · have hd99 := hd2 hn3
                go_wp2_with fail
                rw [show (1 : Int) + (n : Int) = ((1 + n : Nat) : Int) by omega]
                refine (here_any s S p (1 + n) v fc fl fa _ (Hx.out.drw _) hs (by omega) (by omega)).mono ?_
                rintro e w1 ⟨rfl, q1, rfl⟩
                obtain ⟨y, hy⟩ : ∃ y, hb s (p + (1 + n)) = y := ⟨_, rfl⟩
                have hry := hb_rng s (p + (1 + n))
                have Hy : Hid (fr s p (1 + n) = y) := hide hy
                have HY2 := hide hy
                rw [hy] at hry ⊢
                clear hy
                go_wp2_with fail
                refine (digit_any y _ hry.1 hry.2).mono ?_
                rintro e w1 ⟨rfl, rfl⟩
                cases hdy : isDig y with
                | true =>
                  have hyr := isDig_rng hdy
                  have HD2 : Hid (DecS (fr s p) (n + 1) (d * 10 + y - 48)) := hide (by have := HD.out.next (by rw [Hy.out]; exact hdy); rw [Hy.out] at this; exact this)
                  clear hdy
                  go_wp2_with fail
                  rw [show (1 : Int) + (n : Int) = ((1 + n : Nat) : Int) by omega]
                  refine (here_any s S p (1 + n) v fc fl fa _ (Hx.out.drw _) hs (by omega) (by omega)).mono ?_
                  rintro e w1 ⟨rfl, q2, rfl⟩
                  rw [HY2.out]
                  go_wp2
                  go_roundw
                  case rel => exact ⟨n + 1, _, d * 10 + y - 48, by omega, rfl, rfl, HD2, rfl⟩
                  case measure => simp [intOf]; omega
                | false =>
                  have HDF := hide hdy
                  clear hdy
                  by_cases hn0 : n = 0
                  · subst hn0
                    have HE := hide (escF_none (f := fr s p) (N := s.size - p) (by rw [Hc.out]; exact HSN.out) (by rw [show fr s p 1 = y from Hy.out]; exact HDF.out) HXN.out)
                    obtain ⟨c0, c1, c2, c3, c4, c5, c6, z1, z2, z3, z4, z5, z6⟩ := Hx.out.cells
                    go_wp2
                    go_region_with (go_at_call 38; refine (bad_any s S p v fc fl fa 4 _ _ _ (Hx.out.drw _)).mono ?_; rintro e w3 ⟨rfl, hx3, hg3⟩; have HX3 := hide hx3; have HG3 := hide (grown_trans (grown_drewN w (some S) _) hg3); clear hx3 hg3)
                    all_goals go_wp2
                    all_goals go_ret
                    all_goals exact escR_n HE.out HX3.out HG3.out
                  · have hq0 : ((n : Int) == 0) = false := by simp; omega
                    have HE := hide (escF_dec (f := fr s p) (N := s.size - p) (by have a := isDig_rng (HD.out.1 0 (by omega)); have b : p + 1 < s.size := hb_lt (by show hb s (p + (1 + 0)) ≠ 0; have e : fr s p (1 + 0) = hb s (p + (1 + 0)) := rfl; omega); omega) HD.out (by omega) hn (.inr (by rw [Hy.out]; exact HDF.out)))
                    by_cases h255 : d ≤ 255
                    · have HE2 : Hid (escF (fr s p) (s.size - p) 0 = some (d, n + 1)) := hide (by rw [HE.out, if_pos h255])
                      have hltn : p + n < s.size := by
                        have a := isDig_rng (HD.out.1 (n - 1) (by omega))
                        have e : fr s p (1 + (n - 1)) = hb s (p + n) := by unfold fr; rw [show p + (1 + (n - 1)) = p + n by omega]
                        exact hb_lt (by omega)
                      have hwr := u8_id hd0 (by omega)
                      go_wp2_with fail
                      rw [show (1 : Int) + (n : Int) = ((n + 1 : Nat) : Int) by omega]
                      refine (step_any s S p (n + 1) v fc fl fa _ (Hx.out.drw _) hs (by omega)).mono ?_
                      rintro e w3 ⟨rfl, hx3, hg3⟩
                      have HX3 := hide hx3
                      have HG3 := hide (grown_trans (grown_drewN w (some S) _) hg3)
                      clear hx3 hg3
                      go_wp2
                      go_ret
                      exact escR_b HE2.out hd0 (by omega) (by omega) (by omega) HX3.out HG3.out
                    · have HE2 : Hid (escF (fr s p) (s.size - p) 0 = none) := hide (by rw [HE.out, if_neg h255])
                      have HE := HE2
                      obtain ⟨c0, c1, c2, c3, c4, c5, c6, z1, z2, z3, z4, z5, z6⟩ := Hx.out.cells
                      go_wp2
                      go_region_with (go_at_call 38; refine (bad_any s S p v fc fl fa 4 _ _ _ (Hx.out.drw _)).mono ?_; rintro e w3 ⟨rfl, hx3, hg3⟩; have HX3 := hide hx3; have HG3 := hide (grown_trans (grown_drewN w (some S) _) hg3); clear hx3 hg3)
                      all_goals go_wp2
                      all_goals go_ret
                      all_goals exact escR_n HE.out HX3.out HG3.out
              · obtain rfl : n = 3 := by omega
                have HE := hide (escF_dec (f := fr s p) (N := s.size - p) (by have a := isDig_rng (HD.out.1 0 (by omega)); have b : p + 1 < s.size := hb_lt (by show hb s (p + (1 + 0)) ≠ 0; have e : fr s p (1 + 0) = hb s (p + (1 + 0)) := rfl; omega); omega) HD.out (by omega) hn (.inl rfl))
                by_cases h255 : d ≤ 255
                · have HE2 : Hid (escF (fr s p) (s.size - p) 0 = some (d, 3 + 1)) := hide (by rw [HE.out, if_pos h255])
                  have hltn : p + 3 < s.size := by
                    have a := isDig_rng (HD.out.1 (3 - 1) (by omega))
                    have e : fr s p (1 + (3 - 1)) = hb s (p + 3) := by unfold fr; rw [show p + (1 + (3 - 1)) = p + 3 by omega]
                    exact hb_lt (by omega)
                  have hwr := u8_id hd0 (by omega)
                  go_wp2_with fail
                  refine (step_any s S p (3 + 1) v fc fl fa _ (Hx.out.drw _) hs (by omega)).mono ?_
                  rintro e w3 ⟨rfl, hx3, hg3⟩
                  have HX3 := hide hx3
                  have HG3 := hide (grown_trans (grown_drewN w (some S) _) hg3)
                  clear hx3 hg3
                  go_wp2
                  go_ret
                  exact escR_b HE2.out hd0 (by omega) (by omega) (by omega) HX3.out HG3.out
                · have HE2 : Hid (escF (fr s p) (s.size - p) 0 = none) := hide (by rw [HE.out, if_neg h255])
                  have HE := HE2
                  obtain ⟨c0, c1, c2, c3, c4, c5, c6, z1, z2, z3, z4, z5, z6⟩ := Hx.out.cells
                  go_wp2
                  go_region_with (go_at_call 38; refine (bad_any s S p v fc fl fa 4 _ _ _ (Hx.out.drw _)).mono ?_; rintro e w3 ⟨rfl, hx3, hg3⟩; have HX3 := hide hx3; have HG3 := hide (grown_trans (grown_drewN w (some S) _) hg3); clear hx3 hg3)
                  all_goals go_wp2
                  all_goals go_ret
                  all_goals exact escR_n HE.out HX3.out HG3.out
        · have HXN : Hid (fr s p 1 = 120 → ¬ (0 ≤ hexVal (fr s p 2) ∧ 0 ≤ hexVal (fr s p 3))) := hide (fun _ h => h2 (by rw [← Ha.out]; exact h.1))
          have hd2 : decide (0 ≤ hexVal a) = false := by simpa using h2
          clear h2
          go_wp2
          go_loopw [8, 9] (fun vv nv wr => ∃ (n m : Nat) (d : Int), n ≤ 3 ∧ nv = .int .i64 n ∧ vv = .int .i64 d ∧ Hid (DecS (fr s p) n d) ∧ wr = w.drewN m) (fun _ nv _ => 4 - (intOf nv).toNat)
          case atStart => exact ⟨0, _, 0, by omega, rfl, rfl, hide ⟨fun i hi => by omega, rfl⟩, rfl⟩
          case round =>
            obtain ⟨n, m, d, hn, rfl, rfl, HD, rfl⟩ := hrel
            obtain ⟨hd0, hd1, hd2⟩ := HD.out.rng hn
            by_cases hn3 : n < 3
            · have hd99 := hd2 hn3
              go_wp2_with fail
              rw [show (1 : Int) + (n : Int) = ((1 + n : Nat) : Int) by omega]
              refine (here_any s S p (1 + n) v fc fl fa _ (Hx.out.drw _) hs (by omega) (by omega)).mono ?_
              rintro e w1 ⟨rfl, q1, rfl⟩
              obtain ⟨y, hy⟩ : ∃ y, hb s (p + (1 + n)) = y := ⟨_, rfl⟩
              have hry := hb_rng s (p + (1 + n))
              have Hy : Hid (fr s p (1 + n) = y) := hide hy
              have HY2 := hide hy
              rw [hy] at hry ⊢
              clear hy
              go_wp2_with fail
              refine (digit_any y _ hry.1 hry.2).mono ?_
              rintro e w1 ⟨rfl, rfl⟩
              cases hdy : isDig y with
              | true =>
                have hyr := isDig_rng hdy
                have HD2 : Hid (DecS (fr s p) (n + 1) (d * 10 + y - 48)) := hide (by have := HD.out.next (by rw [Hy.out]; exact hdy); rw [Hy.out] at this; exact this)
                clear hdy
                go_wp2_with fail
                rw [show (1 : Int) + (n : Int) = ((1 + n : Nat) : Int) by omega]
                refine (here_any s S p (1 + n) v fc fl fa _ (Hx.out.drw _) hs (by omega) (by omega)).mono ?_
                rintro e w1 ⟨rfl, q2, rfl⟩
                rw [HY2.out]
                go_wp2
                go_roundw
                case rel => exact ⟨n + 1, _, d * 10 + y - 48, by omega, rfl, rfl, HD2, rfl⟩
                case measure => simp [intOf]; omega
              | false =>
                have HDF := hide hdy
                clear hdy
                by_cases hn0 : n = 0
                · subst hn0
                  have HE := hide (escF_none (f := fr s p) (N := s.size - p) (by rw [Hc.out]; exact HSN.out) (by rw [show fr s p 1 = y from Hy.out]; exact HDF.out) HXN.out)
                  obtain ⟨c0, c1, c2, c3, c4, c5, c6, z1, z2, z3, z4, z5, z6⟩ := Hx.out.cells
                  go_wp2
                  go_region_with (go_at_call 38; refine (bad_any s S p v fc fl fa 4 _ _ _ (Hx.out.drw _)).mono ?_; rintro e w3 ⟨rfl, hx3, hg3⟩; have HX3 := hide hx3; have HG3 := hide (grown_trans (grown_drewN w (some S) _) hg3); clear hx3 hg3)
                  all_goals go_wp2
                  all_goals go_ret
                  all_goals exact escR_n HE.out HX3.out HG3.out
                · have hq0 : ((n : Int) == 0) = false := by simp; omega
                  have HE := hide (escF_dec (f := fr s p) (N := s.size - p) (by have a := isDig_rng (HD.out.1 0 (by omega)); have b : p + 1 < s.size := hb_lt (by show hb s (p + (1 + 0)) ≠ 0; have e : fr s p (1 + 0) = hb s (p + (1 + 0)) := rfl; omega); omega) HD.out (by omega) hn (.inr (by rw [Hy.out]; exact HDF.out)))
                  by_cases h255 : d ≤ 255
                  · have HE2 : Hid (escF (fr s p) (s.size - p) 0 = some (d, n + 1)) := hide (by rw [HE.out, if_pos h255])
                    have hltn : p + n < s.size := by
                      have a := isDig_rng (HD.out.1 (n - 1) (by omega))
                      have e : fr s p (1 + (n - 1)) = hb s (p + n) := by unfold fr; rw [show p + (1 + (n - 1)) = p + n by omega]
                      exact hb_lt (by omega)
                    have hwr := u8_id hd0 (by omega)
                    go_wp2_with fail
                    rw [show (1 : Int) + (n : Int) = ((n + 1 : Nat) : Int) by omega]
                    refine (step_any s S p (n + 1) v fc fl fa _ (Hx.out.drw _) hs (by omega)).mono ?_
                    rintro e w3 ⟨rfl, hx3, hg3⟩
                    have HX3 := hide hx3
                    have HG3 := hide (grown_trans (grown_drewN w (some S) _) hg3)
                    clear hx3 hg3
                    go_wp2
                    go_ret
                    exact escR_b HE2.out hd0 (by omega) (by omega) (by omega) HX3.out HG3.out
                  · have HE2 : Hid (escF (fr s p) (s.size - p) 0 = none) := hide (by rw [HE.out, if_neg h255])
                    have HE := HE2
                    obtain ⟨c0, c1, c2, c3, c4, c5, c6, z1, z2, z3, z4, z5, z6⟩ := Hx.out.cells
                    go_wp2
                    go_region_with (go_at_call 38; refine (bad_any s S p v fc fl fa 4 _ _ _ (Hx.out.drw _)).mono ?_; rintro e w3 ⟨rfl, hx3, hg3⟩; have HX3 := hide hx3; have HG3 := hide (grown_trans (grown_drewN w (some S) _) hg3); clear hx3 hg3)
                    all_goals go_wp2
                    all_goals go_ret
                    all_goals exact escR_n HE.out HX3.out HG3.out
            · obtain rfl : n = 3 := by omega
              have HE := hide (escF_dec (f := fr s p) (N := s.size - p) (by have a := isDig_rng (HD.out.1 0 (by omega)); have b : p + 1 < s.size := hb_lt (by show hb s (p + (1 + 0)) ≠ 0; have e : fr s p (1 + 0) = hb s (p + (1 + 0)) := rfl; omega); omega) HD.out (by omega) hn (.inl rfl))
              by_cases h255 : d ≤ 255
              · have HE2 : Hid (escF (fr s p) (s.size - p) 0 = some (d, 3 + 1)) := hide (by rw [HE.out, if_pos h255])
                have hltn : p + 3 < s.size := by
                  have a := isDig_rng (HD.out.1 (3 - 1) (by omega))
                  have e : fr s p (1 + (3 - 1)) = hb s (p + 3) := by unfold fr; rw [show p + (1 + (3 - 1)) = p + 3 by omega]
                  exact hb_lt (by omega)
                have hwr := u8_id hd0 (by omega)
                go_wp2_with fail
                refine (step_any s S p (3 + 1) v fc fl fa _ (Hx.out.drw _) hs (by omega)).mono ?_
                rintro e w3 ⟨rfl, hx3, hg3⟩
                have HX3 := hide hx3
                have HG3 := hide (grown_trans (grown_drewN w (some S) _) hg3)
                clear hx3 hg3
                go_wp2
                go_ret
                exact escR_b HE2.out hd0 (by omega) (by omega) (by omega) HX3.out HG3.out
              · have HE2 : Hid (escF (fr s p) (s.size - p) 0 = none) := hide (by rw [HE.out, if_neg h255])
                have HE := HE2
                obtain ⟨c0, c1, c2, c3, c4, c5, c6, z1, z2, z3, z4, z5, z6⟩ := Hx.out.cells
                go_wp2
                go_region_with (go_at_call 38; refine (bad_any s S p v fc fl fa 4 _ _ _ (Hx.out.drw _)).mono ?_; rintro e w3 ⟨rfl, hx3, hg3⟩; have HX3 := hide hx3; have HG3 := hide (grown_trans (grown_drewN w (some S) _) hg3); clear hx3 hg3)
                all_goals go_wp2
                all_goals go_ret
                all_goals exact escR_n HE.out HX3.out HG3.out
      · have HXN : Hid (fr s p 1 = 120 → ¬ (0 ≤ hexVal (fr s p 2) ∧ 0 ≤ hexVal (fr s p 3))) := hide (fun h => absurd (Hc.out.symm.trans h) h120)
        have hq120 := bq_f h120
        clear h120
        go_wp2
        go_loopw [8, 9] (fun vv nv wr => ∃ (n m : Nat) (d : Int), n ≤ 3 ∧ nv = .int .i64 n ∧ vv = .int .i64 d ∧ Hid (DecS (fr s p) n d) ∧ wr = w.drewN m) (fun _ nv _ => 4 - (intOf nv).toNat)
        case atStart => exact ⟨0, _, 0, by omega, rfl, rfl, hide ⟨fun i hi => by omega, rfl⟩, rfl⟩
        case round =>
          obtain ⟨n, m, d, hn, rfl, rfl, HD, rfl⟩ := hrel
          obtain ⟨hd0, hd1, hd2⟩ := HD.out.rng hn
          by_cases hn3 : n < 3
          · have hd99 := hd2 hn3
            go_wp2_with fail
            rw [show (1 : Int) + (n : Int) = ((1 + n : Nat) : Int) by omega]
            refine (here_any s S p (1 + n) v fc fl fa _ (Hx.out.drw _) hs (by omega) (by omega)).mono ?_
            rintro e w1 ⟨rfl, q1, rfl⟩
            obtain ⟨y, hy⟩ : ∃ y, hb s (p + (1 + n)) = y := ⟨_, rfl⟩
            have hry := hb_rng s (p + (1 + n))
            have Hy : Hid (fr s p (1 + n) = y) := hide hy
            have HY2 := hide hy
            rw [hy] at hry ⊢
            clear hy
            go_wp2_with fail
            refine (digit_any y _ hry.1 hry.2).mono ?_
            rintro e w1 ⟨rfl, rfl⟩
            cases hdy : isDig y with
            | true =>
              have hyr := isDig_rng hdy
              have HD2 : Hid (DecS (fr s p) (n + 1) (d * 10 + y - 48)) := hide (by have := HD.out.next (by rw [Hy.out]; exact hdy); rw [Hy.out] at this; exact this)
              clear hdy
              go_wp2_with fail
              rw [show (1 : Int) + (n : Int) = ((1 + n : Nat) : Int) by omega]
              refine (here_any s S p (1 + n) v fc fl fa _ (Hx.out.drw _) hs (by omega) (by omega)).mono ?_
              rintro e w1 ⟨rfl, q2, rfl⟩
              rw [HY2.out]
              go_wp2
              go_roundw
              case rel => exact ⟨n + 1, _, d * 10 + y - 48, by omega, rfl, rfl, HD2, rfl⟩
              case measure => simp [intOf]; omega
            | false =>
              have HDF := hide hdy
              clear hdy
              by_cases hn0 : n = 0
              · subst hn0
                have HE := hide (escF_none (f := fr s p) (N := s.size - p) (by rw [Hc.out]; exact HSN.out) (by rw [show fr s p 1 = y from Hy.out]; exact HDF.out) HXN.out)
                obtain ⟨c0, c1, c2, c3, c4, c5, c6, z1, z2, z3, z4, z5, z6⟩ := Hx.out.cells
                go_wp2
                go_region_with (go_at_call 38; refine (bad_any s S p v fc fl fa 4 _ _ _ (Hx.out.drw _)).mono ?_; rintro e w3 ⟨rfl, hx3, hg3⟩; have HX3 := hide hx3; have HG3 := hide (grown_trans (grown_drewN w (some S) _) hg3); clear hx3 hg3)
                all_goals go_wp2
                all_goals go_ret
                all_goals exact escR_n HE.out HX3.out HG3.out
              · have hq0 : ((n : Int) == 0) = false := by simp; omega
                have HE := hide (escF_dec (f := fr s p) (N := s.size - p) (by have a := isDig_rng (HD.out.1 0 (by omega)); have b : p + 1 < s.size := hb_lt (by show hb s (p + (1 + 0)) ≠ 0; have e : fr s p (1 + 0) = hb s (p + (1 + 0)) := rfl; omega); omega) HD.out (by omega) hn (.inr (by rw [Hy.out]; exact HDF.out)))
                by_cases h255 : d ≤ 255
                · have HE2 : Hid (escF (fr s p) (s.size - p) 0 = some (d, n + 1)) := hide (by rw [HE.out, if_pos h255])
                  have hltn : p + n < s.size := by
                    have a := isDig_rng (HD.out.1 (n - 1) (by omega))
                    have e : fr s p (1 + (n - 1)) = hb s (p + n) := by unfold fr; rw [show p + (1 + (n - 1)) = p + n by omega]
                    exact hb_lt (by omega)
                  have hwr := u8_id hd0 (by omega)
                  go_wp2_with fail
                  rw [show (1 : Int) + (n : Int) = ((n + 1 : Nat) : Int) by omega]
                  refine (step_any s S p (n + 1) v fc fl fa _ (Hx.out.drw _) hs (by omega)).mono ?_
                  rintro e w3 ⟨rfl, hx3, hg3⟩
                  have HX3 := hide hx3
                  have HG3 := hide (grown_trans (grown_drewN w (some S) _) hg3)
                  clear hx3 hg3
                  go_wp2
                  go_ret
                  exact escR_b HE2.out hd0 (by omega) (by omega) (by omega) HX3.out HG3.out
                · have HE2 : Hid (escF (fr s p) (s.size - p) 0 = none) := hide (by rw [HE.out, if_neg h255])
                  have HE := HE2
                  obtain ⟨c0, c1, c2, c3, c4, c5, c6, z1, z2, z3, z4, z5, z6⟩ := Hx.out.cells
                  go_wp2
                  go_region_with (go_at_call 38; refine (bad_any s S p v fc fl fa 4 _ _ _ (Hx.out.drw _)).mono ?_; rintro e w3 ⟨rfl, hx3, hg3⟩; have HX3 := hide hx3; have HG3 := hide (grown_trans (grown_drewN w (some S) _) hg3); clear hx3 hg3)
                  all_goals go_wp2
                  all_goals go_ret
                  all_goals exact escR_n HE.out HX3.out HG3.out
          · obtain rfl : n = 3 := by omega
            have HE := hide (escF_dec (f := fr s p) (N := s.size - p) (by have a := isDig_rng (HD.out.1 0 (by omega)); have b : p + 1 < s.size := hb_lt (by show hb s (p + (1 + 0)) ≠ 0; have e : fr s p (1 + 0) = hb s (p + (1 + 0)) := rfl; omega); omega) HD.out (by omega) hn (.inl rfl))
            by_cases h255 : d ≤ 255
            · have HE2 : Hid (escF (fr s p) (s.size - p) 0 = some (d, 3 + 1)) := hide (by rw [HE.out, if_pos h255])
              have hltn : p + 3 < s.size := by
                have a := isDig_rng (HD.out.1 (3 - 1) (by omega))
                have e : fr s p (1 + (3 - 1)) = hb s (p + 3) := by unfold fr; rw [show p + (1 + (3 - 1)) = p + 3 by omega]
                exact hb_lt (by omega)
              have hwr := u8_id hd0 (by omega)
              go_wp2_with fail
              refine (step_any s S p (3 + 1) v fc fl fa _ (Hx.out.drw _) hs (by omega)).mono ?_
              rintro e w3 ⟨rfl, hx3, hg3⟩
              have HX3 := hide hx3
              have HG3 := hide (grown_trans (grown_drewN w (some S) _) hg3)
              clear hx3 hg3
              go_wp2
              go_ret
              exact escR_b HE2.out hd0 (by omega) (by omega) (by omega) HX3.out HG3.out
            · have HE2 : Hid (escF (fr s p) (s.size - p) 0 = none) := hide (by rw [HE.out, if_neg h255])
              have HE := HE2
              obtain ⟨c0, c1, c2, c3, c4, c5, c6, z1, z2, z3, z4, z5, z6⟩ := Hx.out.cells
              go_wp2
              go_region_with (go_at_call 38; refine (bad_any s S p v fc fl fa 4 _ _ _ (Hx.out.drw _)).mono ?_; rintro e w3 ⟨rfl, hx3, hg3⟩; have HX3 := hide hx3; have HG3 := hide (grown_trans (grown_drewN w (some S) _) hg3); clear hx3 hg3)
              all_goals go_wp2
              all_goals go_ret
              all_goals exact escR_n HE.out HX3.out HG3.out
end Go.Proofs.YtmndipnifjpdjaaGreatDoor
