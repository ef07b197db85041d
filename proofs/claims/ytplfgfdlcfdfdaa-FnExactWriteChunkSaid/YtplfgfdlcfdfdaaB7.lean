import Derived.Test.YtplfgfdlcfdfdaaB6
namespace Go.Proofs.Ytplfgfdlcfdfdaa
open Go Go.RowKit
set_option linter.unusedVariables false

/-- The eight cells of a function from q on. -/
def C8 (w : World) (b q : Nat) (p : PV) (s4 s5 s6 s7 : Value) : Prop :=
  w.cell? ⟨b, q, none⟩ = some (.int .i64 p.params) ∧ w.cell? ⟨b, q + 1, none⟩ = some (.int .i64 p.regs) ∧ w.cell? ⟨b, q + 2, none⟩ = some (.int .i64 p.line) ∧ w.cell? ⟨b, q + 3, none⟩ = some (.bool p.dots) ∧
    w.cell? ⟨b, q + 4, none⟩ = some s4 ∧ w.cell? ⟨b, q + 5, none⟩ = some s5 ∧ w.cell? ⟨b, q + 6, none⟩ = some s6 ∧ w.cell? ⟨b, q + 7, none⟩ = some s7
theorem C8.low {w w' : World} {b q B : Nat} {p : PV} {s4 s5 s6 s7 : Value} (h : C8 w b q p s4 s5 s6 s7) (hb : Below B w w') (hB : b < B) : C8 w' b q p s4 s5 s6 s7 := by
  obtain ⟨h0, h1, h2, h3, h4, h5, h6, h7⟩ := h
  exact ⟨(hb.cell (p := ⟨b, q, none⟩) hB).trans h0, (hb.cell (p := ⟨b, q + 1, none⟩) hB).trans h1, (hb.cell (p := ⟨b, q + 2, none⟩) hB).trans h2, (hb.cell (p := ⟨b, q + 3, none⟩) hB).trans h3,
    (hb.cell (p := ⟨b, q + 4, none⟩) hB).trans h4, (hb.cell (p := ⟨b, q + 5, none⟩) hB).trans h5, (hb.cell (p := ⟨b, q + 6, none⟩) hB).trans h6, (hb.cell (p := ⟨b, q + 7, none⟩) hB).trans h7⟩

/-- Functions in memory. -/
def ProsA (w : World) (v : Value) (n : Nat) (P : Nat → PV) : Prop :=
  (n = 0 ∧ ∃ a cap, v = .slice a 0 cap) ∨ ∃ b o cap, v = .slice (some ⟨b, o, none⟩) n cap ∧ b < w.heap.size ∧ n ≤ cap ∧ ∀ i, i < n → ∃ s4 s5 s6 s7, C8 w b (o + i * 8) (P i) s4 s5 s6 s7 ∧ PVA w (P i) s4 s5 s6 s7
theorem ProsA.low {w w' : World} {v : Value} {n B : Nat} {P : Nat → PV} (h : ProsA w v n P) (hb : Below B w w') (hB : w.heap.size ≤ B) : ProsA w' v n P := by
  rcases h with h | ⟨b, o, cap, rfl, hbB, hcap, hc⟩
  · exact .inl h
  · refine .inr ⟨b, o, cap, rfl, Nat.lt_of_lt_of_le hbB hb.size, hcap, fun i hi => ?_⟩
    obtain ⟨s4, s5, s6, s7, h1, h2⟩ := hc i hi
    exact ⟨s4, s5, s6, s7, h1.low hb (Nat.lt_of_lt_of_le hbB hB), h2.low hb hB⟩
theorem ProsA.val {w : World} {v : Value} {n : Nat} {P : Nat → PV} (h : ProsA w v n P) : ∃ a cap, v = .slice a n cap := by
  rcases h with ⟨rfl, a, cap, rfl⟩ | ⟨b, o, cap, rfl, _⟩
  · exact ⟨a, cap, rfl⟩
  · exact ⟨_, cap, rfl⟩

def allFit (n : Nat) (P : Nat → PV) (m : Nat) : Prop := ∀ k, k < n → (P k).fits m
/-- The weight of n functions. -/
def wts (P : Nat → PV) (n : Nat) : Nat := sumN (fun k => (P k).weight) n
theorem wts_0 (P : Nat → PV) : wts P 0 = 0 := rfl
theorem wts_1 (P : Nat → PV) (k : Nat) : wts P (k + 1) = wts P k + (P k).weight := rfl
theorem PV.fits.mono {p : PV} {m m' : Nat} (h : p.fits m) (hm : m ≤ m') : p.fits m' := by
  obtain ⟨h1, h2, h3, h4, h5⟩ := h
  exact ⟨by omega, by omega, by omega, by omega, fun k hk => by have := h5 k hk; omega⟩

set_option maxHeartbeats 800000 in
set_option maxRecDepth 100000 in
theorem szProtoS_any (v : Value) (n : Nat) (P : Nat → PV) (l : Int) (w : World) (h0 : 0 ≤ l) (h1 : l ≤ 1048576) (hn : n ≤ 9223372036854775807) (hs : ∀ k, k < n → (P k).sane) (h : ProsA w v n P) :
    Calls Try.prog 13 #[v, .int .i64 l] w fun e w' => ∃ r, e = .returned (.int .i64 r) ∧ SzR l r (n ≤ l ∧ allFit n P l.toNat ∧ r + n + wts P n = l) ∧ Below w.heap.size w w' := by
  by_cases hl : l < n
  · obtain ⟨a, cap, rfl⟩ := h.val
    clear h hs
    go_enter Try.func13, Try.ntmps13
    go_wp2
    go_ret
    exact ⟨-1, rfl, .inl rfl, Below.refl _ _⟩
  · rcases h with ⟨rfl, a, cap, rfl⟩ | ⟨b, o, cap, rfl, hb, hcap, hc⟩
    · clear hs
      go_enter Try.func13, Try.ntmps13
      go_wp2
      go_loopw [1, 5] (fun lv iv wr => lv = .int .i64 l ∧ iv = .int .i64 0 ∧ wr = w) (fun _ _ _ => 0)
      case atStart => exact ⟨by simp, rfl, rfl⟩
      case round =>
        obtain ⟨rfl, rfl, rfl⟩ := hrel
        go_wp2
        go_ret
        exact ⟨l, rfl, .inr ⟨h0, by omega, by omega, fun k hk => by omega, by rw [wts_0]; omega⟩, Below.refl _ _⟩
    · have HC := hide hc
      have HS := hide hs
      clear hc hs
      go_enter Try.func13, Try.ntmps13
      go_wp2
      go_loopw [1, 5] (fun lv iv wr => ∃ (i : Nat) (r : Int), i ≤ n ∧ iv = .int .i64 i ∧ lv = .int .i64 r ∧ 0 ≤ r ∧ r ≤ l ∧ Hid (allFit i P l.toNat) ∧ Hid (r + n + wts P i = l) ∧ Below w.heap.size w wr) (fun _ iv _ => match iv with | .int _ x => n - x.toNat | _ => 0)
      case atStart => exact ⟨0, l - n, by omega, rfl, rfl, by omega, by omega, hide (fun k hk => by omega), hide (by rw [wts_0]; omega), Below.refl _ _⟩
      case round =>
        obtain ⟨i, r, hi9, rfl, rfl, hr0, hr1, HK, HE, hbw⟩ := hrel
        by_cases hin : i < n
        · obtain ⟨s4, s5, s6, s7, hc8, hpva⟩ := HC.out i hin
          have HP := hide (hpva.low hbw (Nat.le_refl _))
          obtain ⟨c0, c1, c2, c3, c4, c5, c6, c7⟩ := hc8.low hbw hb
          clear hc8 hpva
          go_wp2_with fail
          refine (szProto_any (P i) s4 s5 s6 s7 r wr hr0 (by omega) (HS.out i hin) HP.out).mono ?_
          rintro e w2 ⟨r2, rfl, hr2, hb2⟩
          have hbw2 := hbw.trans (hb2.mono hbw.size)
          clear c0 c1 c2 c3 c4 c5 c6 c7 hb2 hbw HP
          rcases hr2 with rfl | ⟨hr20, hr21, hr22, hr23⟩
          · go_wp2
            go_ret
            exact ⟨-1, rfl, .inl rfl, hbw2⟩
          · have hge : ¬ (r2 < 0) := by omega
            have HR := hide hr22
            have HE2 := hide hr23
            clear hr22 hr23
            go_wp2
            go_roundw
            case rel => exact ⟨i + 1, r2, by omega, by simp, rfl, by omega, by omega, hide (fun k hk => by
              by_cases e : k = i
              · subst e; exact HR.out.mono (by omega)
              · exact HK.out k (by omega)), hide (by have := HE.out; have := HE2.out; rw [wts_1]; omega), hbw2⟩
            case measure => simp; omega
        · obtain rfl : i = n := by omega
          go_wp2
          go_ret
          exact ⟨r, rfl, .inr ⟨hr0, hr1, by omega, HK.out, HE.out⟩, hbw⟩

set_option maxHeartbeats 800000 in
set_option maxRecDepth 100000 in
theorem szChunk_any (v : Value) (n : Nat) (P : Nat → PV) (l : Int) (w : World) (h0 : 0 ≤ l) (h1 : l ≤ 1048576) (hn : n ≤ 9223372036854775807) (hs : ∀ k, k < n → (P k).sane) (h : ProsA w v n P) :
    Calls Try.prog 4 #[.agg #[v], .int .i64 l] w fun e w' => ∃ r, e = .returned (.int .i64 r) ∧ SzR l r (n ≤ l ∧ allFit n P l.toNat ∧ r + n + wts P n = l) ∧ Below w.heap.size w w' := by
  have HA := hide (h.low (b_1 w (.cells #[v] 24)) (Nat.le_refl _))
  have HS := hide hs
  clear h hs
  go_enter Try.func4, Try.ntmps4
  go_wp2_with fail
  refine (szProtoS_any v n P l _ h0 h1 hn HS.out HA.out).mono ?_
  rintro e w2 ⟨r, rfl, hr, hb⟩
  have hb2 := (b_1 w (.cells #[v] 24)).trans (hb.mono (by simp))
  clear hb
  rcases hr with rfl | ⟨h2, h3, h4⟩
  · go_wp2
    go_ret
    exact ⟨-1, rfl, .inl rfl, hb2⟩
  · have hge : ¬ (r < 0) := by omega
    have HR := hide h4
    clear h4
    go_wp2
    go_ret
    exact ⟨r, rfl, .inr ⟨h2, h3, HR.out⟩, hb2⟩

end Go.Proofs.Ytplfgfdlcfdfdaa
