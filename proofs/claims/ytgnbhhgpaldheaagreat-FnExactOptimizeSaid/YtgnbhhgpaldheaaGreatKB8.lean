import Derived.Test.YtgnbhhgpaldheaaGreatKB1
import Derived.Test.YtgnbhhgpaldheaaGreatKB2
import Derived.Test.YtgnbhhgpaldheaaGreatKB3
import Derived.Test.YtgnbhhgpaldheaaGreatKEG1
namespace Go.Proofs.YtgnbhhgpaldheaaGreat
open Go Go.RowKit
set_option linter.unusedVariables false
structure PV where
  params : Int
  regs : Int
  line : Int
  dots : Bool
  nu : Nat
  u0 : Nat → Bool
  u1 : Nat → Int
  nc : Nat
  c0 : Nat → Int
  c1 : Nat → Int
  c2 : Nat → Int
  c3 : Nat → ByteArray
  ni : Nat
  i0 : Nat → Int
  i1 : Nat → Int
  i2 : Nat → Int
  i3 : Nat → Int
  nl : Nat
  l0 : Nat → Int
structure PVA (w : World) (p : PV) (s4 s5 s6 s7 : Value) : Prop where
  u : UpsA w s4 p.nu p.u0 p.u1
  c : ConsA w s5 p.nc p.c0 p.c1 p.c2 p.c3
  i : InsA w s6 p.ni p.i0 p.i1 p.i2 p.i3
  l : IntsA w s7 p.nl p.l0
theorem PVA.low {w w' : World} {p : PV} {s4 s5 s6 s7 : Value} {B : Nat} (h : PVA w p s4 s5 s6 s7) (hb : Below B w w') (hB : w.heap.size ≤ B) : PVA w' p s4 s5 s6 s7 :=
  ⟨h.u.low hb hB, h.c.low hb hB, h.i.low hb hB, h.l.low hb hB⟩
structure PVO (w : World) (p : PV) (g4 g5 g6 g7 : Nat) : Prop where
  u : UpsO w g4 p.nu p.u0 p.u1
  c : ConsO w g5 p.nc p.c0 p.c1 p.c2 p.c3
  i : InsO w g6 p.ni p.i0 p.i1 p.i2 p.i3
  l : IntsO w g7 p.nl p.l0
def PV.fits (p : PV) (m : Nat) : Prop := p.nu ≤ m ∧ p.nc ≤ m ∧ p.ni ≤ m ∧ p.nl ≤ m ∧ ∀ k, k < p.nc → (p.c3 k).size ≤ m
def PV.agg (p : PV) (s4 s5 s6 s7 : Value) : Value := .agg #[.int .i64 p.params, .int .i64 p.regs, .int .i64 p.line, .bool p.dots, s4, s5, s6, s7]
set_option maxHeartbeats 800000 in
set_option maxRecDepth 100000 in
theorem szUpS_any (a : Option Addr) (n cap : Nat) (l : Int) (w : World) (h0 : 0 ≤ l) (h1 : l ≤ 1048576) (hn : n ≤ 9223372036854775807) :
    Calls Tryz.prog 62 #[.slice a n cap, .int .i64 l] w fun e w' => e = .returned (.int .i64 (if l < n then -1 else l - n)) ∧ w' = w := by
  by_cases h : l < n
  · rw [if_pos h]
    go_enter Tryz.func62, Tryz.ntmps62
    go_wp2
    go_ret
    exact ⟨rfl, rfl⟩
  · rw [if_neg h]
    go_enter Tryz.func62, Tryz.ntmps62
    go_wp2
    go_ret
    exact ⟨rfl, rfl⟩
set_option maxHeartbeats 800000 in
set_option maxRecDepth 100000 in
theorem szInstrS_any (a : Option Addr) (n cap : Nat) (l : Int) (w : World) (h0 : 0 ≤ l) (h1 : l ≤ 1048576) (hn : n ≤ 9223372036854775807) :
    Calls Tryz.prog 64 #[.slice a n cap, .int .i64 l] w fun e w' => e = .returned (.int .i64 (if l < n then -1 else l - n)) ∧ w' = w := by
  by_cases h : l < n
  · rw [if_pos h]
    go_enter Tryz.func64, Tryz.ntmps64
    go_wp2
    go_ret
    exact ⟨rfl, rfl⟩
  · rw [if_neg h]
    go_enter Tryz.func64, Tryz.ntmps64
    go_wp2
    go_ret
    exact ⟨rfl, rfl⟩
set_option maxHeartbeats 800000 in
set_option maxRecDepth 100000 in
theorem szIntS_any (a : Option Addr) (n cap : Nat) (l : Int) (w : World) (h0 : 0 ≤ l) (h1 : l ≤ 1048576) (hn : n ≤ 9223372036854775807) :
    Calls Tryz.prog 65 #[.slice a n cap, .int .i64 l] w fun e w' => e = .returned (.int .i64 (if l < n then -1 else l - n)) ∧ w' = w := by
  by_cases h : l < n
  · rw [if_pos h]
    go_enter Tryz.func65, Tryz.ntmps65
    go_wp2
    go_ret
    exact ⟨rfl, rfl⟩
  · rw [if_neg h]
    go_enter Tryz.func65, Tryz.ntmps65
    go_wp2
    go_ret
    exact ⟨rfl, rfl⟩
set_option maxHeartbeats 800000 in
set_option maxRecDepth 100000 in
theorem szConst_any (p0 p1 p2 : Int) (p3 : ByteArray) (l : Int) (w : World) (h0 : 0 ≤ l) (h1 : l ≤ 1048576) (hs : p3.size ≤ 9223372036854775807) :
    Calls Tryz.prog 102 #[.agg #[.int .i64 p0, .int .i64 p1, .int .u64 p2, .string p3], .int .i64 l] w fun e w' => e = .returned (.int .i64 (if l < p3.size then -1 else l - p3.size)) ∧ Below w.heap.size w w' := by
  by_cases h : l < p3.size
  · rw [if_pos h]
    go_enter Tryz.func102, Tryz.ntmps102
    go_wp2
    go_ret
    exact ⟨rfl, b_1 _ _⟩
  · rw [if_neg h]
    go_enter Tryz.func102, Tryz.ntmps102
    go_wp2
    go_ret
    exact ⟨rfl, b_1 _ _⟩
def SzR (l r : Int) (Q : Prop) : Prop := r = -1 ∨ (0 ≤ r ∧ r ≤ l ∧ Q)
def sumN (f : Nat → Nat) : Nat → Nat
  | 0 => 0
  | k + 1 => sumN f k + f k
def szs (x : Nat → ByteArray) (n : Nat) : Nat := sumN (fun k => (x k).size) n
theorem szs_0 (x : Nat → ByteArray) : szs x 0 = 0 := rfl
theorem szs_1 (x : Nat → ByteArray) (k : Nat) : szs x (k + 1) = szs x k + (x k).size := rfl
set_option maxHeartbeats 800000 in
set_option maxRecDepth 100000 in
theorem szConstS_any (v : Value) (n : Nat) (x0 x1 x2 : Nat → Int) (x3 : Nat → ByteArray) (l : Int) (w : World) (h0 : 0 ≤ l) (h1 : l ≤ 1048576) (hn : n ≤ 9223372036854775807) (hs : ∀ k, k < n → (x3 k).size ≤ 9223372036854775807) (h : ConsA w v n x0 x1 x2 x3) :
    Calls Tryz.prog 63 #[v, .int .i64 l] w fun e w' => ∃ r, e = .returned (.int .i64 r) ∧ SzR l r (n ≤ l ∧ (∀ k, k < n → (x3 k).size ≤ l) ∧ r + n + szs x3 n = l) ∧ Below w.heap.size w w' := by
  by_cases hl : l < n
  · obtain ⟨a, cap, rfl⟩ := h.val
    clear h hs
    go_enter Tryz.func63, Tryz.ntmps63
    go_wp2
    go_ret
    exact ⟨-1, rfl, .inl rfl, Below.refl _ _⟩
  · rcases h with ⟨rfl, a, cap, rfl⟩ | ⟨b, o, cap, rfl, hb, hcap, hc⟩
    · clear hs
      go_enter Tryz.func63, Tryz.ntmps63
      go_wp2
      go_loopw [1, 5] (fun lv iv wr => lv = .int .i64 l ∧ iv = .int .i64 0 ∧ wr = w) (fun _ _ _ => 0)
      case atStart => exact ⟨by simp, rfl, rfl⟩
      case round =>
        obtain ⟨rfl, rfl, rfl⟩ := hrel
        go_wp2
        go_ret
        exact ⟨l, rfl, .inr ⟨h0, by omega, by omega, fun k hk => by omega, by rw [szs_0]; omega⟩, Below.refl _ _⟩
    · have HC := hide hc
      have HS := hide hs
      clear hc hs
      go_enter Tryz.func63, Tryz.ntmps63
      go_wp2
      go_loopw [1, 5] (fun lv iv wr => ∃ (i : Nat) (r : Int), i ≤ n ∧ iv = .int .i64 i ∧ lv = .int .i64 r ∧ 0 ≤ r ∧ r ≤ l ∧ Hid (∀ k, k < i → (x3 k).size ≤ l) ∧ Hid (r + n + szs x3 i = l) ∧ Below w.heap.size w wr) (fun _ iv _ => match iv with | .int _ x => n - x.toNat | _ => 0)
      case atStart => exact ⟨0, l - n, by omega, rfl, rfl, by omega, by omega, hide (fun k hk => by omega), hide (by rw [szs_0]; omega), Below.refl _ _⟩
      case round =>
        obtain ⟨i, r, hi9, rfl, rfl, hr0, hr1, HK, HE, hbw⟩ := hrel
        by_cases hin : i < n
        · have c0 := (hbw.cell (p := ⟨b, o + i * 4, none⟩) (by assumption)).trans (HC.out i hin).1
          have c1 := (hbw.cell (p := ⟨b, o + i * 4 + 1, none⟩) (by assumption)).trans (HC.out i hin).2.1
          have c2 := (hbw.cell (p := ⟨b, o + i * 4 + 2, none⟩) (by assumption)).trans (HC.out i hin).2.2.1
          have c3 := (hbw.cell (p := ⟨b, o + i * 4 + 3, none⟩) (by assumption)).trans (HC.out i hin).2.2.2
          go_wp2_with fail
          refine (szConst_any (x0 i) (x1 i) (x2 i) (x3 i) r wr hr0 (by omega) (HS.out i hin)).mono ?_
          rintro e w2 ⟨rfl, hb2⟩
          have hbw2 := hbw.trans (hb2.mono hbw.size)
          clear c0 c1 c2 c3 hb2 hbw
          by_cases hsz : r < (x3 i).size
          · rw [if_pos hsz]
            go_wp2
            go_ret
            exact ⟨-1, rfl, .inl rfl, hbw2⟩
          · rw [if_neg hsz]
            have hge : ¬ (r - ((x3 i).size : Int) < 0) := by omega
            go_wp2
            go_roundw
            case rel => exact ⟨i + 1, r - ((x3 i).size : Int), by omega, by simp, rfl, by omega, by omega, hide (fun k hk => by
              by_cases e : k = i
              · subst e; omega
              · exact HK.out k (by omega)), hide (by have := HE.out; rw [szs_1]; omega), hbw2⟩
            case measure => simp; omega
        · obtain rfl : i = n := by omega
          go_wp2
          go_ret
          exact ⟨r, rfl, .inr ⟨hr0, hr1, by omega, HK.out, HE.out⟩, hbw⟩
def PV.weight (p : PV) : Nat := p.nu + p.nc + szs p.c3 p.nc + p.ni + p.nl
def PV.sane (p : PV) : Prop := p.fits 9223372036854775807
def PC (w : World) (g : Nat) (p : PV) (s4 s5 s6 s7 : Value) : Prop :=
  g < w.heap.size ∧ w.cell? ⟨g, 0, none⟩ = some (.int .i64 p.params) ∧ w.cell? ⟨g, 1, none⟩ = some (.int .i64 p.regs) ∧ w.cell? ⟨g, 2, none⟩ = some (.int .i64 p.line) ∧ w.cell? ⟨g, 3, none⟩ = some (.bool p.dots) ∧
    w.cell? ⟨g, 4, none⟩ = some s4 ∧ w.cell? ⟨g, 5, none⟩ = some s5 ∧ w.cell? ⟨g, 6, none⟩ = some s6 ∧ w.cell? ⟨g, 7, none⟩ = some s7
theorem PC.mk (w : World) (T : Nat) (p : PV) (s4 s5 s6 s7 : Value) : PC (w.alloc (.cells #[.int .i64 p.params, .int .i64 p.regs, .int .i64 p.line, .bool p.dots, s4, s5, s6, s7] T)) w.heap.size p s4 s5 s6 s7 := by
  refine ⟨by simp, ?_, ?_, ?_, ?_, ?_, ?_, ?_, ?_⟩ <;> simp
theorem PC.low {w w' : World} {g B : Nat} {p : PV} {s4 s5 s6 s7 : Value} (h : PC w g p s4 s5 s6 s7) (hb : Below B w w') (hB : g < B) : PC w' g p s4 s5 s6 s7 := by
  obtain ⟨h, h0, h1, h2, h3, h4, h5, h6, h7⟩ := h
  exact ⟨Nat.lt_of_lt_of_le h hb.size, (hb.cell (p := ⟨g, 0, none⟩) hB).trans h0, (hb.cell (p := ⟨g, 1, none⟩) hB).trans h1, (hb.cell (p := ⟨g, 2, none⟩) hB).trans h2, (hb.cell (p := ⟨g, 3, none⟩) hB).trans h3,
    (hb.cell (p := ⟨g, 4, none⟩) hB).trans h4, (hb.cell (p := ⟨g, 5, none⟩) hB).trans h5, (hb.cell (p := ⟨g, 6, none⟩) hB).trans h6, (hb.cell (p := ⟨g, 7, none⟩) hB).trans h7⟩
theorem SzR.fst {l : Int} {n : Nat} (h : l < n) : SzR l (-1) (n ≤ l) := .inl rfl
set_option maxHeartbeats 800000 in
set_option maxRecDepth 100000 in
theorem szProto_any (p : PV) (s4 s5 s6 s7 : Value) (l : Int) (w : World) (h0 : 0 ≤ l) (h1 : l ≤ 1048576) (hs : p.sane) (h : PVA w p s4 s5 s6 s7) :
    Calls Tryz.prog 26 #[p.agg s4 s5 s6 s7, .int .i64 l] w fun e w' => ∃ r, e = .returned (.int .i64 r) ∧ SzR l r (p.fits l.toNat ∧ r + p.weight = l) ∧ Below w.heap.size w w' := by
  obtain ⟨hs1, hs2, hs3, hs4, hs5⟩ := hs
  obtain ⟨a4, k4, rfl⟩ := h.u.val
  obtain ⟨a6, k6, rfl⟩ := h.i.val
  obtain ⟨a7, k7, rfl⟩ := h.l.val
  have HS := hide hs5
  have HPC := hide (PC.mk w 69 p (.slice a4 p.nu k4) s5 (.slice a6 p.ni k6) (.slice a7 p.nl k7))
  have HB := hide (b_1 w (.cells #[.int .i64 p.params, .int .i64 p.regs, .int .i64 p.line, .bool p.dots, .slice a4 p.nu k4, s5, .slice a6 p.ni k6, .slice a7 p.nl k7] 69))
  have HA := hide (h.low HB.out (Nat.le_refl _))
  clear h hs5
  unfold PV.agg
  go_enter Tryz.func26, Tryz.ntmps26
  go_wp2_with fail
  generalize w.alloc (.cells #[.int .i64 p.params, .int .i64 p.regs, .int .i64 p.line, .bool p.dots, .slice a4 p.nu k4, s5, .slice a6 p.ni k6, .slice a7 p.nl k7] 69) = w1 at HPC HB HA ⊢
  refine (szUpS_any _ _ _ l w1 h0 h1 hs1).mono ?_
  rintro e w2 ⟨rfl, rfl⟩
  by_cases q1 : l < p.nu
  · rw [if_pos q1]
    go_wp2
    go_ret
    exact ⟨-1, rfl, .inl rfl, HB.out⟩
  rw [if_neg q1]
  have q1' : ¬ (l - (p.nu : Int) < 0) := by omega
  obtain ⟨hg, -, -, -, -, e4, e5, e6, e7⟩ := HPC.out
  go_wp2_with fail
  refine (szConstS_any s5 p.nc p.c0 p.c1 p.c2 p.c3 _ w2 (by omega) (by omega) hs2 HS.out HA.out.c).mono ?_
  rintro e w3 ⟨r3, rfl, hr3, hb3⟩
  have HB3 := hide (HB.out.trans (hb3.mono HB.out.size))
  have HPC3 := hide (HPC.out.low hb3 hg)
  clear e4 e5 e6 e7 hb3 HB HPC HA
  rcases hr3 with rfl | ⟨hr30, hr31, hr32, hr33, hr34⟩
  · go_wp2
    go_ret
    exact ⟨-1, rfl, .inl rfl, HB3.out⟩
  have q3' : ¬ (r3 < 0) := by omega
  have HR := hide hr33
  have HE := hide hr34
  clear hr33 hr34
  obtain ⟨-, -, -, -, -, e4, e5, e6, e7⟩ := HPC3.out
  go_wp2_with fail
  refine (szInstrS_any _ _ _ r3 w3 (by omega) (by omega) hs3).mono ?_
  rintro e w4 ⟨rfl, rfl⟩
  by_cases q4 : r3 < p.ni
  · rw [if_pos q4]
    go_wp2
    go_ret
    exact ⟨-1, rfl, .inl rfl, HB3.out⟩
  rw [if_neg q4]
  have q4' : ¬ (r3 - (p.ni : Int) < 0) := by omega
  go_wp2_with fail
  refine (szIntS_any _ _ _ (r3 - p.ni) w4 (by omega) (by omega) hs4).mono ?_
  rintro e w5 ⟨rfl, rfl⟩
  by_cases q5 : r3 - p.ni < p.nl
  · rw [if_pos q5]
    go_wp2
    go_ret
    exact ⟨-1, rfl, .inl rfl, HB3.out⟩
  rw [if_neg q5]
  have q5' : ¬ (r3 - (p.ni : Int) - (p.nl : Int) < 0) := by omega
  go_wp2
  go_ret
  exact ⟨_, rfl, .inr ⟨by omega, by omega, ⟨by omega, by omega, by omega, by omega, fun k hk => by have := HR.out k hk; omega⟩, by have := HE.out; unfold PV.weight; omega⟩, HB3.out⟩
def C8 (w : World) (b q : Nat) (p : PV) (s4 s5 s6 s7 : Value) : Prop :=
  w.cell? ⟨b, q, none⟩ = some (.int .i64 p.params) ∧ w.cell? ⟨b, q + 1, none⟩ = some (.int .i64 p.regs) ∧ w.cell? ⟨b, q + 2, none⟩ = some (.int .i64 p.line) ∧ w.cell? ⟨b, q + 3, none⟩ = some (.bool p.dots) ∧
    w.cell? ⟨b, q + 4, none⟩ = some s4 ∧ w.cell? ⟨b, q + 5, none⟩ = some s5 ∧ w.cell? ⟨b, q + 6, none⟩ = some s6 ∧ w.cell? ⟨b, q + 7, none⟩ = some s7
theorem C8.low {w w' : World} {b q B : Nat} {p : PV} {s4 s5 s6 s7 : Value} (h : C8 w b q p s4 s5 s6 s7) (hb : Below B w w') (hB : b < B) : C8 w' b q p s4 s5 s6 s7 := by
  obtain ⟨h0, h1, h2, h3, h4, h5, h6, h7⟩ := h
  exact ⟨(hb.cell (p := ⟨b, q, none⟩) hB).trans h0, (hb.cell (p := ⟨b, q + 1, none⟩) hB).trans h1, (hb.cell (p := ⟨b, q + 2, none⟩) hB).trans h2, (hb.cell (p := ⟨b, q + 3, none⟩) hB).trans h3,
    (hb.cell (p := ⟨b, q + 4, none⟩) hB).trans h4, (hb.cell (p := ⟨b, q + 5, none⟩) hB).trans h5, (hb.cell (p := ⟨b, q + 6, none⟩) hB).trans h6, (hb.cell (p := ⟨b, q + 7, none⟩) hB).trans h7⟩
def ProsA (w : World) (v : Value) (n : Nat) (P : Nat → PV) : Prop :=
  (n = 0 ∧ ∃ a cap, v = .slice a 0 cap) ∨ ∃ b o cap, v = .slice (some ⟨b, o, none⟩) n cap ∧ b < w.heap.size ∧ n ≤ cap ∧ ∀ i, i < n → ∃ s4 s5 s6 s7, C8 w b (o + i * 8) (P i) s4 s5 s6 s7 ∧ PVA w (P i) s4 s5 s6 s7
theorem ProsA.low {w w' : World} {v : Value} {n B : Nat} {P : Nat → PV} (h : ProsA w v n P) (hb : Below B w w') (hB : w.heap.size ≤ B) : ProsA w' v n P := by
  rcases h with h | ⟨b, o, cap, rfl, hbB, hcap, hc⟩
  · exact .inl h
  · refine .inr ⟨b, o, cap, rfl, Nat.lt_of_lt_of_le hbB hb.size, hcap, fun i hi => ?_⟩
    obtain ⟨s4, s5, s6, s7, h1, h2⟩ := hc i hi
    exact ⟨s4, s5, s6, s7, h1.low hb (Nat.lt_of_lt_of_le hbB hB), h2.low hb hB⟩
theorem ProsA.val {w : World} {v : Value} {n : Nat} {P : Nat → PV} (h : ProsA w v n P) : ∃ a cap, v = .slice a n cap := by
  rcases h with ⟨rfl, a, cap, rfl⟩ | ⟨b, o, cap, rfl, _⟩
  · exact ⟨a, cap, rfl⟩
  · exact ⟨_, cap, rfl⟩
def allFit (n : Nat) (P : Nat → PV) (m : Nat) : Prop := ∀ k, k < n → (P k).fits m
def wts (P : Nat → PV) (n : Nat) : Nat := sumN (fun k => (P k).weight) n
theorem wts_0 (P : Nat → PV) : wts P 0 = 0 := rfl
theorem wts_1 (P : Nat → PV) (k : Nat) : wts P (k + 1) = wts P k + (P k).weight := rfl
theorem PV.fits.mono {p : PV} {m m' : Nat} (h : p.fits m) (hm : m ≤ m') : p.fits m' := by
  obtain ⟨h1, h2, h3, h4, h5⟩ := h
  exact ⟨by omega, by omega, by omega, by omega, fun k hk => by have := h5 k hk; omega⟩
set_option maxHeartbeats 800000 in
set_option maxRecDepth 100000 in
theorem szProtoS_any (v : Value) (n : Nat) (P : Nat → PV) (l : Int) (w : World) (h0 : 0 ≤ l) (h1 : l ≤ 1048576) (hn : n ≤ 9223372036854775807) (hs : ∀ k, k < n → (P k).sane) (h : ProsA w v n P) :
    Calls Tryz.prog 12 #[v, .int .i64 l] w fun e w' => ∃ r, e = .returned (.int .i64 r) ∧ SzR l r (n ≤ l ∧ allFit n P l.toNat ∧ r + n + wts P n = l) ∧ Below w.heap.size w w' := by
  by_cases hl : l < n
  · obtain ⟨a, cap, rfl⟩ := h.val
    clear h hs
    go_enter Tryz.func12, Tryz.ntmps12
    go_wp2
    go_ret
    exact ⟨-1, rfl, .inl rfl, Below.refl _ _⟩
  · rcases h with ⟨rfl, a, cap, rfl⟩ | ⟨b, o, cap, rfl, hb, hcap, hc⟩
    · clear hs
      go_enter Tryz.func12, Tryz.ntmps12
      go_wp2
      go_loopw [1, 5] (fun lv iv wr => lv = .int .i64 l ∧ iv = .int .i64 0 ∧ wr = w) (fun _ _ _ => 0)
      case atStart => exact ⟨by simp, rfl, rfl⟩
      case round =>
        obtain ⟨rfl, rfl, rfl⟩ := hrel
        go_wp2
        go_ret
        exact ⟨l, rfl, .inr ⟨h0, by omega, by omega, fun k hk => by omega, by rw [wts_0]; omega⟩, Below.refl _ _⟩
    · have HC := hide hc
      have HS := hide hs
      clear hc hs
      go_enter Tryz.func12, Tryz.ntmps12
      go_wp2
      go_loopw [1, 5] (fun lv iv wr => ∃ (i : Nat) (r : Int), i ≤ n ∧ iv = .int .i64 i ∧ lv = .int .i64 r ∧ 0 ≤ r ∧ r ≤ l ∧ Hid (allFit i P l.toNat) ∧ Hid (r + n + wts P i = l) ∧ Below w.heap.size w wr) (fun _ iv _ => match iv with | .int _ x => n - x.toNat | _ => 0)
      case atStart => exact ⟨0, l - n, by omega, rfl, rfl, by omega, by omega, hide (fun k hk => by omega), hide (by rw [wts_0]; omega), Below.refl _ _⟩
      case round =>
        obtain ⟨i, r, hi9, rfl, rfl, hr0, hr1, HK, HE, hbw⟩ := hrel
        by_cases hin : i < n
        · obtain ⟨s4, s5, s6, s7, hc8, hpva⟩ := HC.out i hin
          have HP := hide (hpva.low hbw (Nat.le_refl _))
          obtain ⟨c0, c1, c2, c3, c4, c5, c6, c7⟩ := hc8.low hbw hb
          clear hc8 hpva
          go_wp2_with fail
          refine (szProto_any (P i) s4 s5 s6 s7 r wr hr0 (by omega) (HS.out i hin) HP.out).mono ?_
          rintro e w2 ⟨r2, rfl, hr2, hb2⟩
          have hbw2 := hbw.trans (hb2.mono hbw.size)
          clear c0 c1 c2 c3 c4 c5 c6 c7 hb2 hbw HP
          rcases hr2 with rfl | ⟨hr20, hr21, hr22, hr23⟩
          · go_wp2
            go_ret
            exact ⟨-1, rfl, .inl rfl, hbw2⟩
          · have hge : ¬ (r2 < 0) := by omega
            have HR := hide hr22
            have HE2 := hide hr23
            clear hr22 hr23
            go_wp2
            go_roundw
            case rel => exact ⟨i + 1, r2, by omega, by simp, rfl, by omega, by omega, hide (fun k hk => by
              by_cases e : k = i
              · subst e; exact HR.out.mono (by omega)
              · exact HK.out k (by omega)), hide (by have := HE.out; have := HE2.out; rw [wts_1]; omega), hbw2⟩
            case measure => simp; omega
        · obtain rfl : i = n := by omega
          go_wp2
          go_ret
          exact ⟨r, rfl, .inr ⟨hr0, hr1, by omega, HK.out, HE.out⟩, hbw⟩
set_option maxHeartbeats 800000 in
set_option maxRecDepth 100000 in
theorem szChunk_any (v : Value) (n : Nat) (P : Nat → PV) (l : Int) (w : World) (h0 : 0 ≤ l) (h1 : l ≤ 1048576) (hn : n ≤ 9223372036854775807) (hs : ∀ k, k < n → (P k).sane) (h : ProsA w v n P) :
    Calls Tryz.prog 4 #[.agg #[v], .int .i64 l] w fun e w' => ∃ r, e = .returned (.int .i64 r) ∧ SzR l r (n ≤ l ∧ allFit n P l.toNat ∧ r + n + wts P n = l) ∧ Below w.heap.size w w' := by
  have HA := hide (h.low (b_1 w (.cells #[v] 24)) (Nat.le_refl _))
  have HS := hide hs
  clear h hs
  go_enter Tryz.func4, Tryz.ntmps4
  go_wp2_with fail
  refine (szProtoS_any v n P l _ h0 h1 hn HS.out HA.out).mono ?_
  rintro e w2 ⟨r, rfl, hr, hb⟩
  have hb2 := (b_1 w (.cells #[v] 24)).trans (hb.mono (by simp))
  clear hb
  rcases hr with rfl | ⟨h2, h3, h4⟩
  · go_wp2
    go_ret
    exact ⟨-1, rfl, .inl rfl, hb2⟩
  · have hge : ¬ (r < 0) := by omega
    have HR := hide h4
    clear h4
    go_wp2
    go_ret
    exact ⟨r, rfl, .inr ⟨h2, h3, HR.out⟩, hb2⟩
def sl (g n : Nat) : Value := .slice (some ⟨g, 0, none⟩) n n
abbrev nilS : Value := .slice none 0 0
theorem PC.other {w : World} {g g' j : Nat} {p : PV} {s4 s5 s6 s7 x : Value} (h : PC w g p s4 s5 s6 s7) (hn : g ≠ g') : PC (w.setCell ⟨g', j, none⟩ x) g p s4 s5 s6 s7 := by
  obtain ⟨h, h0, h1, h2, h3, h4, h5, h6, h7⟩ := h
  have e : ∀ k, (w.setCell ⟨g', j, none⟩ x).cell? ⟨g, k, none⟩ = w.cell? ⟨g, k, none⟩ := fun k => World.cell?_setCell_other _ _ _ _ (fun e => hn (by injection e with e1; exact e1.symm))
  exact ⟨by simpa using h, (e 0).trans h0, (e 1).trans h1, (e 2).trans h2, (e 3).trans h3, (e 4).trans h4, (e 5).trans h5, (e 6).trans h6, (e 7).trans h7⟩
structure TP (w wr : World) (p : PV) (s4 s5 s6 s7 : Value) (fo : Nat → Value) : Prop where
  pc : PC wr w.heap.size p s4 s5 s6 s7
  rz : ∃ fz, RowF wr 45 (w.heap.size + 1) 8 fz
  ro : RowF wr 45 (w.heap.size + 1 + 1) 8 fo
  be : Below w.heap.size w wr
theorem TP.call {w wr w2 : World} {p : PV} {s4 s5 s6 s7 : Value} {fo : Nat → Value} (h : TP w wr p s4 s5 s6 s7 fo) (hb : Below wr.heap.size wr w2) : TP w w2 p s4 s5 s6 s7 fo := by
  obtain ⟨h1, ⟨fz, h2⟩, h3, h4⟩ := h
  exact ⟨h1.low hb h1.1, ⟨fz, h2.low hb h2.lt⟩, h3.low hb h3.lt, h4.trans (hb.mono h4.size)⟩
theorem TP.put {w wr : World} {p : PV} {s4 s5 s6 s7 : Value} {fo : Nat → Value} (h : TP w wr p s4 s5 s6 s7 fo) {j : Nat} (hj : j < 8) (x : Value) : TP w (wr.setCell ⟨w.heap.size + 1 + 1, j, none⟩ x) p s4 s5 s6 s7 (fun i => if i = j then x else fo i) := by
  obtain ⟨h1, ⟨fz, h2⟩, h3, h4⟩ := h
  exact ⟨h1.other (by omega), ⟨fz, h2.other (by omega)⟩, h3.set hj x, h4.setCell (by show w.heap.size ≤ w.heap.size + 1 + 1; omega) _⟩
theorem TP.start (w : World) (p : PV) (s4 s5 s6 s7 : Value) (zs os : Array Value) (hz : zs.size = 8) (ho : os.size = 8) :
    TP w (((w.alloc (.cells #[.int .i64 p.params, .int .i64 p.regs, .int .i64 p.line, .bool p.dots, s4, s5, s6, s7] 69)).alloc (.cells zs 45)).alloc (.cells os 45)) p s4 s5 s6 s7 (fun j => os.getD j (.bool false)) := by
  have h1 := PC.mk w 69 p s4 s5 s6 s7
  have h3 := b_3 w (.cells #[.int .i64 p.params, .int .i64 p.regs, .int .i64 p.line, .bool p.dots, s4, s5, s6, s7] 69) (.cells zs 45) (.cells os 45)
  have e1 : (w.alloc (.cells #[.int .i64 p.params, .int .i64 p.regs, .int .i64 p.line, .bool p.dots, s4, s5, s6, s7] 69)).heap.size = w.heap.size + 1 := by simp
  generalize w.alloc (.cells #[.int .i64 p.params, .int .i64 p.regs, .int .i64 p.line, .bool p.dots, s4, s5, s6, s7] 69) = wa at *
  have z1 := RowF.mk' wa 45 zs
  have e2 : (wa.alloc (.cells zs 45)).heap.size = wa.heap.size + 1 := by simp
  have z2 := RowF.mk' (wa.alloc (.cells zs 45)) 45 os
  have z3 := z1.low (b_1 _ (.cells os 45)) z1.lt
  rw [e2, e1, ho] at z2
  rw [e1, hz] at z3
  exact ⟨h1.low (b_2 _ _ _) (by omega), ⟨_, z3⟩, z2, h3⟩
set_option maxHeartbeats 800000 in
set_option maxRecDepth 100000 in
theorem toProto_any (p : PV) (s4 s5 s6 s7 : Value) (w : World) (hf : p.fits 1048576) (h : PVA w p s4 s5 s6 s7) :
    Calls Tryz.prog 35 #[p.agg s4 s5 s6 s7] w fun e w' => ∃ g4 g5 g6 g7, e = .returned (p.agg (sl g4 p.nu) (sl g5 p.nc) (sl g6 p.ni) (sl g7 p.nl)) ∧ w.heap.size ≤ g4 ∧ g4 < g5 ∧ g5 < g6 ∧ g6 < g7 ∧ g7 < w'.heap.size ∧ PVO w' p g4 g5 g6 g7 ∧ Below w.heap.size w w' := by
  obtain ⟨hs1, hs2, hs3, hs4, -⟩ := hf
  have HA := hide h
  clear h
  have HT := hide (TP.start w p s4 s5 s6 s7 #[.int .i64 0, .int .i64 0, .int .i64 0, .bool false, nilS, nilS, nilS, nilS] #[.int .i64 p.params, .int .i64 p.regs, .int .i64 p.line, .bool p.dots, nilS, nilS, nilS, nilS] rfl rfl)
  unfold PV.agg
  go_enter Tryz.func35, Tryz.ntmps35
  go_wp2_with fail
  generalize ((w.alloc (.cells #[.int .i64 p.params, .int .i64 p.regs, .int .i64 p.line, .bool p.dots, s4, s5, s6, s7] 69)).alloc (.cells #[.int .i64 0, .int .i64 0, .int .i64 0, .bool false, nilS, nilS, nilS, nilS] 45)).alloc (.cells #[.int .i64 p.params, .int .i64 p.regs, .int .i64 p.line, .bool p.dots, nilS, nilS, nilS, nilS] 45) = w1 at HT ⊢
  refine (toUpS_any s4 p.nu p.u0 p.u1 w1 hs1 (HA.out.u.low HT.out.be (Nat.le_refl _))).mono ?_
  rintro e w2 ⟨rfl, hU, hb4⟩
  have hT := HT.out.call hb4
  have q4 : w.heap.size + 1 + 1 < w1.heap.size := HT.out.ro.lt
  have l4 := hU.lt
  have HU := hide (hU.other (g' := w.heap.size + 1 + 1) (j := 4) (x := .slice (some ⟨w1.heap.size, 0, none⟩) p.nu p.nu) (by omega))
  clear hU hb4 HT
  generalize w1.heap.size = g4 at *
  have d4 := hT.ro.cell (j := 4) (by omega)
  have z4 := hT.ro.frz 4
  have HT := hide (hT.put (j := 4) (by omega) (.slice (some ⟨g4, 0, none⟩) p.nu p.nu))
  clear hT
  have l4' : g4 < (w2.setCell ⟨w.heap.size + 1 + 1, 4, none⟩ (.slice (some ⟨g4, 0, none⟩) p.nu p.nu)).heap.size := by simpa using l4
  have e5 := HT.out.pc.2.2.2.2.2.2.1
  go_wp2_with fail
  clear d4 z4 e5 l4
  generalize w2.setCell ⟨w.heap.size + 1 + 1, 4, none⟩ (.slice (some ⟨g4, 0, none⟩) p.nu p.nu) = w3 at *
  refine (toConstS_any s5 p.nc p.c0 p.c1 p.c2 p.c3 w3 hs2 (HA.out.c.low HT.out.be (Nat.le_refl _))).mono ?_
  rintro e w4 ⟨rfl, hC, hb5⟩
  have hT := HT.out.call hb5
  have q5 : w.heap.size + 1 + 1 < w3.heap.size := HT.out.ro.lt
  have l5 := hC.lt
  have HU := hide ((HU.out.low hb5 HU.out.lt).other (g' := w.heap.size + 1 + 1) (j := 5) (x := .slice (some ⟨w3.heap.size, 0, none⟩) p.nc p.nc) (by omega))
  have HC := hide (hC.other (g' := w.heap.size + 1 + 1) (j := 5) (x := .slice (some ⟨w3.heap.size, 0, none⟩) p.nc p.nc) (by omega))
  clear hC hb5 HT
  generalize w3.heap.size = g5 at *
  have d5 := hT.ro.cell (j := 5) (by omega)
  have z5 := hT.ro.frz 5
  have HT := hide (hT.put (j := 5) (by omega) (.slice (some ⟨g5, 0, none⟩) p.nc p.nc))
  clear hT
  have l5' : g5 < (w4.setCell ⟨w.heap.size + 1 + 1, 5, none⟩ (.slice (some ⟨g5, 0, none⟩) p.nc p.nc)).heap.size := by simpa using l5
  have e6 := HT.out.pc.2.2.2.2.2.2.2.1
  go_wp2_with fail
  clear d5 z5 e6 l5
  generalize w4.setCell ⟨w.heap.size + 1 + 1, 5, none⟩ (.slice (some ⟨g5, 0, none⟩) p.nc p.nc) = w5 at *
  refine (toInstrS_any s6 p.ni p.i0 p.i1 p.i2 p.i3 w5 hs3 (HA.out.i.low HT.out.be (Nat.le_refl _))).mono ?_
  rintro e w6 ⟨rfl, hI, hb6⟩
  have hT := HT.out.call hb6
  have q6 : w.heap.size + 1 + 1 < w5.heap.size := HT.out.ro.lt
  have l6 := hI.lt
  have HU := hide ((HU.out.low hb6 HU.out.lt).other (g' := w.heap.size + 1 + 1) (j := 6) (x := .slice (some ⟨w5.heap.size, 0, none⟩) p.ni p.ni) (by omega))
  have HC := hide ((HC.out.low hb6 HC.out.lt).other (g' := w.heap.size + 1 + 1) (j := 6) (x := .slice (some ⟨w5.heap.size, 0, none⟩) p.ni p.ni) (by omega))
  have HI := hide (hI.other (g' := w.heap.size + 1 + 1) (j := 6) (x := .slice (some ⟨w5.heap.size, 0, none⟩) p.ni p.ni) (by omega))
  clear hI hb6 HT
  generalize w5.heap.size = g6 at *
  have d6 := hT.ro.cell (j := 6) (by omega)
  have z6 := hT.ro.frz 6
  have HT := hide (hT.put (j := 6) (by omega) (.slice (some ⟨g6, 0, none⟩) p.ni p.ni))
  clear hT
  have l6' : g6 < (w6.setCell ⟨w.heap.size + 1 + 1, 6, none⟩ (.slice (some ⟨g6, 0, none⟩) p.ni p.ni)).heap.size := by simpa using l6
  have e7 := HT.out.pc.2.2.2.2.2.2.2.2
  go_wp2_with fail
  clear d6 z6 e7 l6
  generalize w6.setCell ⟨w.heap.size + 1 + 1, 6, none⟩ (.slice (some ⟨g6, 0, none⟩) p.ni p.ni) = w7 at *
  refine (toIntS_any s7 p.nl p.l0 w7 hs4 (HA.out.l.low HT.out.be (Nat.le_refl _))).mono ?_
  rintro e w8 ⟨rfl, hL, hb7⟩
  have hT := HT.out.call hb7
  have q7 : w.heap.size + 1 + 1 < w7.heap.size := HT.out.ro.lt
  have l7 := hL.lt
  have HU := hide ((HU.out.low hb7 HU.out.lt).other (g' := w.heap.size + 1 + 1) (j := 7) (x := .slice (some ⟨w7.heap.size, 0, none⟩) p.nl p.nl) (by omega))
  have HC := hide ((HC.out.low hb7 HC.out.lt).other (g' := w.heap.size + 1 + 1) (j := 7) (x := .slice (some ⟨w7.heap.size, 0, none⟩) p.nl p.nl) (by omega))
  have HI := hide ((HI.out.low hb7 HI.out.lt).other (g' := w.heap.size + 1 + 1) (j := 7) (x := .slice (some ⟨w7.heap.size, 0, none⟩) p.nl p.nl) (by omega))
  have HL := hide (hL.other (g' := w.heap.size + 1 + 1) (j := 7) (x := .slice (some ⟨w7.heap.size, 0, none⟩) p.nl p.nl) (by omega))
  clear hL hb7 HT
  generalize w7.heap.size = g7 at *
  have d7 := hT.ro.cell (j := 7) (by omega)
  have z7 := hT.ro.frz 7
  have HT := hide (hT.put (j := 7) (by omega) (.slice (some ⟨g7, 0, none⟩) p.nl p.nl))
  clear hT
  have l7' : g7 < (w8.setCell ⟨w.heap.size + 1 + 1, 7, none⟩ (.slice (some ⟨g7, 0, none⟩) p.nl p.nl)).heap.size := by simpa using l7
  obtain ⟨fz, hz⟩ := HT.out.rz
  have ho := HT.out.ro
  have y0 := ho.cell (j := 0) (by omega)
  have x0 := hz.cell (j := 0) (by omega)
  have t0 := hz.frz 0
  have y1 := ho.cell (j := 1) (by omega)
  have x1 := hz.cell (j := 1) (by omega)
  have t1 := hz.frz 1
  have y2 := ho.cell (j := 2) (by omega)
  have x2 := hz.cell (j := 2) (by omega)
  have t2 := hz.frz 2
  have y3 := ho.cell (j := 3) (by omega)
  have x3 := hz.cell (j := 3) (by omega)
  have t3 := hz.frz 3
  have y4 := ho.cell (j := 4) (by omega)
  have x4 := hz.cell (j := 4) (by omega)
  have t4 := hz.frz 4
  have y5 := ho.cell (j := 5) (by omega)
  have x5 := hz.cell (j := 5) (by omega)
  have t5 := hz.frz 5
  have y6 := ho.cell (j := 6) (by omega)
  have x6 := hz.cell (j := 6) (by omega)
  have t6 := hz.frz 6
  have y7 := ho.cell (j := 7) (by omega)
  have x7 := hz.cell (j := 7) (by omega)
  have t7 := hz.frz 7
  simp only [Nat.reduceEqDiff, if_true, if_false] at y0 y1 y2 y3 y4 y5 y6 y7
  clear l7 hz ho
  go_wp2
  clear d7 z7 y0 y1 y2 y3 y4 y5 y6 y7
  generalize w8.setCell ⟨w.heap.size + 1 + 1, 7, none⟩ (.slice (some ⟨g7, 0, none⟩) p.nl p.nl) = w9 at *
  have n4 : g4 ≠ w.heap.size + 1 := by omega
  have n5 : g5 ≠ w.heap.size + 1 := by omega
  have n6 : g6 ≠ w.heap.size + 1 := by omega
  have n7 : g7 ≠ w.heap.size + 1 := by omega
  have nb : w.heap.size ≤ w.heap.size + 1 := by omega
  refine bodyPost_ret (v := .agg #[.int .i64 p.params, .int .i64 p.regs, .int .i64 p.line, .bool p.dots, .slice (some ⟨g4, 0, none⟩) p.nu p.nu, .slice (some ⟨g5, 0, none⟩) p.nc p.nc, .slice (some ⟨g6, 0, none⟩) p.ni p.ni, .slice (some ⟨g7, 0, none⟩) p.nl p.nl]) ?_ rfl
    ⟨g4, g5, g6, g7, rfl, by omega, by omega, by omega, by omega, by simpa using l7', ⟨(((((((HU.out.other n4).other n4).other n4).other n4).other n4).other n4).other n4).other n4, (((((((HC.out.other n5).other n5).other n5).other n5).other n5).other n5).other n5).other n5, (((((((HI.out.other n6).other n6).other n6).other n6).other n6).other n6).other n6).other n6, (((((((HL.out.other n7).other n7).other n7).other n7).other n7).other n7).other n7).other n7⟩, (((((((HT.out.be.setCell nb _).setCell nb _).setCell nb _).setCell nb _).setCell nb _).setCell nb _).setCell nb _).setCell nb _⟩
  simp [results, Tryz.results35, go_sem, x0, x1, x2, x3, x4, x5, x6, x7]
end Go.Proofs.YtgnbhhgpaldheaaGreat
