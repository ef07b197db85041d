import Derived.Test.YtplfgfdlcfdfdaaB5
namespace Go.Proofs.Ytplfgfdlcfdfdaa
open Go Go.RowKit
set_option linter.unusedVariables false

/-- What a measuring answers: it is too much, or it fits. -/
def SzR (l r : Int) (Q : Prop) : Prop := r = -1 ∨ (0 ≤ r ∧ r ≤ l ∧ Q)
def sumN (f : Nat → Nat) : Nat → Nat
  | 0 => 0
  | k + 1 => sumN f k + f k
theorem sumN_1 (f : Nat → Nat) (k : Nat) : sumN f (k + 1) = sumN f k + f k := rfl
def szs (x : Nat → ByteArray) (n : Nat) : Nat := sumN (fun k => (x k).size) n
theorem szs_0 (x : Nat → ByteArray) : szs x 0 = 0 := rfl
theorem szs_1 (x : Nat → ByteArray) (k : Nat) : szs x (k + 1) = szs x k + (x k).size := rfl

set_option maxHeartbeats 800000 in
set_option maxRecDepth 100000 in
theorem szConstS_any (v : Value) (n : Nat) (x0 x1 x2 : Nat → Int) (x3 : Nat → ByteArray) (l : Int) (w : World) (h0 : 0 ≤ l) (h1 : l ≤ 1048576) (hn : n ≤ 9223372036854775807) (hs : ∀ k, k < n → (x3 k).size ≤ 9223372036854775807) (h : ConsA w v n x0 x1 x2 x3) :
    Calls Try.prog 44 #[v, .int .i64 l] w fun e w' => ∃ r, e = .returned (.int .i64 r) ∧ SzR l r (n ≤ l ∧ (∀ k, k < n → (x3 k).size ≤ l) ∧ r + n + szs x3 n = l) ∧ Below w.heap.size w w' := by
  by_cases hl : l < n
  · obtain ⟨a, cap, rfl⟩ := h.val
    clear h hs
    go_enter Try.func44, Try.ntmps44
    go_wp2
    go_ret
    exact ⟨-1, rfl, .inl rfl, Below.refl _ _⟩
  · rcases h with ⟨rfl, a, cap, rfl⟩ | ⟨b, o, cap, rfl, hb, hcap, hc⟩
    · clear hs
      go_enter Try.func44, Try.ntmps44
      go_wp2
      go_loopw [1, 5] (fun lv iv wr => lv = .int .i64 l ∧ iv = .int .i64 0 ∧ wr = w) (fun _ _ _ => 0)
      case atStart => exact ⟨by simp, rfl, rfl⟩
      case round =>
        obtain ⟨rfl, rfl, rfl⟩ := hrel
        go_wp2
        go_ret
        exact ⟨l, rfl, .inr ⟨h0, by omega, by omega, fun k hk => by omega, by rw [szs_0]; omega⟩, Below.refl _ _⟩
    · have HC := hide hc
      have HS := hide hs
      clear hc hs
      go_enter Try.func44, Try.ntmps44
      go_wp2
      go_loopw [1, 5] (fun lv iv wr => ∃ (i : Nat) (r : Int), i ≤ n ∧ iv = .int .i64 i ∧ lv = .int .i64 r ∧ 0 ≤ r ∧ r ≤ l ∧ Hid (∀ k, k < i → (x3 k).size ≤ l) ∧ Hid (r + n + szs x3 i = l) ∧ Below w.heap.size w wr) (fun _ iv _ => match iv with | .int _ x => n - x.toNat | _ => 0)
      case atStart => exact ⟨0, l - n, by omega, rfl, rfl, by omega, by omega, hide (fun k hk => by omega), hide (by rw [szs_0]; omega), Below.refl _ _⟩
      case round =>
        obtain ⟨i, r, hi9, rfl, rfl, hr0, hr1, HK, HE, hbw⟩ := hrel
        by_cases hin : i < n
        · have c0 := (hbw.cell (p := ⟨b, o + i * 4, none⟩) (by assumption)).trans (HC.out i hin).1
          have c1 := (hbw.cell (p := ⟨b, o + i * 4 + 1, none⟩) (by assumption)).trans (HC.out i hin).2.1
          have c2 := (hbw.cell (p := ⟨b, o + i * 4 + 2, none⟩) (by assumption)).trans (HC.out i hin).2.2.1
          have c3 := (hbw.cell (p := ⟨b, o + i * 4 + 3, none⟩) (by assumption)).trans (HC.out i hin).2.2.2
          go_wp2_with fail
          refine (szConst_any (x0 i) (x1 i) (x2 i) (x3 i) r wr hr0 (by omega) (HS.out i hin)).mono ?_
          rintro e w2 ⟨rfl, hb2⟩
          have hbw2 := hbw.trans (hb2.mono hbw.size)
          clear c0 c1 c2 c3 hb2 hbw
          by_cases hsz : r < (x3 i).size
          · rw [if_pos hsz]
            go_wp2
            go_ret
            exact ⟨-1, rfl, .inl rfl, hbw2⟩
          · rw [if_neg hsz]
            have hge : ¬ (r - ((x3 i).size : Int) < 0) := by omega
            go_wp2
            go_roundw
            case rel => exact ⟨i + 1, r - ((x3 i).size : Int), by omega, by simp, rfl, by omega, by omega, hide (fun k hk => by
              by_cases e : k = i
              · subst e; omega
              · exact HK.out k (by omega)), hide (by have := HE.out; rw [szs_1]; omega), hbw2⟩
            case measure => simp; omega
        · obtain rfl : i = n := by omega
          go_wp2
          go_ret
          exact ⟨r, rfl, .inr ⟨hr0, hr1, by omega, HK.out, HE.out⟩, hbw⟩

/-- What lies in the memory of an argument is short enough for Go. -/
def PV.weight (p : PV) : Nat := p.nu + p.nc + szs p.c3 p.nc + p.ni + p.nl
def PV.sane (p : PV) : Prop := p.fits 9223372036854775807

/-- A struct that came in lies in a block of its own. -/
def PC (w : World) (g : Nat) (p : PV) (s4 s5 s6 s7 : Value) : Prop :=
  g < w.heap.size ∧ w.cell? ⟨g, 0, none⟩ = some (.int .i64 p.params) ∧ w.cell? ⟨g, 1, none⟩ = some (.int .i64 p.regs) ∧ w.cell? ⟨g, 2, none⟩ = some (.int .i64 p.line) ∧ w.cell? ⟨g, 3, none⟩ = some (.bool p.dots) ∧
    w.cell? ⟨g, 4, none⟩ = some s4 ∧ w.cell? ⟨g, 5, none⟩ = some s5 ∧ w.cell? ⟨g, 6, none⟩ = some s6 ∧ w.cell? ⟨g, 7, none⟩ = some s7
theorem PC.mk (w : World) (T : Nat) (p : PV) (s4 s5 s6 s7 : Value) : PC (w.alloc (.cells #[.int .i64 p.params, .int .i64 p.regs, .int .i64 p.line, .bool p.dots, s4, s5, s6, s7] T)) w.heap.size p s4 s5 s6 s7 := by
  refine ⟨by simp, ?_, ?_, ?_, ?_, ?_, ?_, ?_, ?_⟩ <;> simp
theorem PC.low {w w' : World} {g B : Nat} {p : PV} {s4 s5 s6 s7 : Value} (h : PC w g p s4 s5 s6 s7) (hb : Below B w w') (hB : g < B) : PC w' g p s4 s5 s6 s7 := by
  obtain ⟨h, h0, h1, h2, h3, h4, h5, h6, h7⟩ := h
  exact ⟨Nat.lt_of_lt_of_le h hb.size, (hb.cell (p := ⟨g, 0, none⟩) hB).trans h0, (hb.cell (p := ⟨g, 1, none⟩) hB).trans h1, (hb.cell (p := ⟨g, 2, none⟩) hB).trans h2, (hb.cell (p := ⟨g, 3, none⟩) hB).trans h3,
    (hb.cell (p := ⟨g, 4, none⟩) hB).trans h4, (hb.cell (p := ⟨g, 5, none⟩) hB).trans h5, (hb.cell (p := ⟨g, 6, none⟩) hB).trans h6, (hb.cell (p := ⟨g, 7, none⟩) hB).trans h7⟩

theorem SzR.fst {l : Int} {n : Nat} (h : l < n) : SzR l (-1) (n ≤ l) := .inl rfl

set_option maxHeartbeats 800000 in
set_option maxRecDepth 100000 in
theorem szProto_any (p : PV) (s4 s5 s6 s7 : Value) (l : Int) (w : World) (h0 : 0 ≤ l) (h1 : l ≤ 1048576) (hs : p.sane) (h : PVA w p s4 s5 s6 s7) :
    Calls Try.prog 27 #[p.agg s4 s5 s6 s7, .int .i64 l] w fun e w' => ∃ r, e = .returned (.int .i64 r) ∧ SzR l r (p.fits l.toNat ∧ r + p.weight = l) ∧ Below w.heap.size w w' := by
  obtain ⟨hs1, hs2, hs3, hs4, hs5⟩ := hs
  obtain ⟨a4, k4, rfl⟩ := h.u.val
  obtain ⟨a6, k6, rfl⟩ := h.i.val
  obtain ⟨a7, k7, rfl⟩ := h.l.val
  have HS := hide hs5
  have HPC := hide (PC.mk w 66 p (.slice a4 p.nu k4) s5 (.slice a6 p.ni k6) (.slice a7 p.nl k7))
  have HB := hide (b_1 w (.cells #[.int .i64 p.params, .int .i64 p.regs, .int .i64 p.line, .bool p.dots, .slice a4 p.nu k4, s5, .slice a6 p.ni k6, .slice a7 p.nl k7] 66))
  have HA := hide (h.low HB.out (Nat.le_refl _))
  clear h hs5
  unfold PV.agg
  go_enter Try.func27, Try.ntmps27
  go_wp2_with fail
  generalize w.alloc (.cells #[.int .i64 p.params, .int .i64 p.regs, .int .i64 p.line, .bool p.dots, .slice a4 p.nu k4, s5, .slice a6 p.ni k6, .slice a7 p.nl k7] 66) = w1 at HPC HB HA ⊢
  refine (szUpS_any _ _ _ l w1 h0 h1 hs1).mono ?_
  rintro e w2 ⟨rfl, rfl⟩
  by_cases q1 : l < p.nu
  · rw [if_pos q1]
    go_wp2
    go_ret
    exact ⟨-1, rfl, .inl rfl, HB.out⟩
  rw [if_neg q1]
  have q1' : ¬ (l - (p.nu : Int) < 0) := by omega
  obtain ⟨hg, -, -, -, -, e4, e5, e6, e7⟩ := HPC.out
  go_wp2_with fail
  refine (szConstS_any s5 p.nc p.c0 p.c1 p.c2 p.c3 _ w2 (by omega) (by omega) hs2 HS.out HA.out.c).mono ?_
  rintro e w3 ⟨r3, rfl, hr3, hb3⟩
  have HB3 := hide (HB.out.trans (hb3.mono HB.out.size))
  have HPC3 := hide (HPC.out.low hb3 hg)
  clear e4 e5 e6 e7 hb3 HB HPC HA
  rcases hr3 with rfl | ⟨hr30, hr31, hr32, hr33, hr34⟩
  · go_wp2
    go_ret
    exact ⟨-1, rfl, .inl rfl, HB3.out⟩
  have q3' : ¬ (r3 < 0) := by omega
  have HR := hide hr33
  have HE := hide hr34
  clear hr33 hr34
  obtain ⟨-, -, -, -, -, e4, e5, e6, e7⟩ := HPC3.out
  go_wp2_with fail
  refine (szInstrS_any _ _ _ r3 w3 (by omega) (by omega) hs3).mono ?_
  rintro e w4 ⟨rfl, rfl⟩
  by_cases q4 : r3 < p.ni
  · rw [if_pos q4]
    go_wp2
    go_ret
    exact ⟨-1, rfl, .inl rfl, HB3.out⟩
  rw [if_neg q4]
  have q4' : ¬ (r3 - (p.ni : Int) < 0) := by omega
  go_wp2_with fail
  refine (szIntS_any _ _ _ (r3 - p.ni) w4 (by omega) (by omega) hs4).mono ?_
  rintro e w5 ⟨rfl, rfl⟩
  by_cases q5 : r3 - p.ni < p.nl
  · rw [if_pos q5]
    go_wp2
    go_ret
    exact ⟨-1, rfl, .inl rfl, HB3.out⟩
  rw [if_neg q5]
  have q5' : ¬ (r3 - (p.ni : Int) - (p.nl : Int) < 0) := by omega
  go_wp2
  go_ret
  exact ⟨_, rfl, .inr ⟨by omega, by omega, ⟨by omega, by omega, by omega, by omega, fun k hk => by have := HR.out k hk; omega⟩, by have := HE.out; unfold PV.weight; omega⟩, HB3.out⟩

end Go.Proofs.Ytplfgfdlcfdfdaa
