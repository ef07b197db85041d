import Derived.OwnWalk
import Derived.Test.YtamdnnkdnhkghaaGreatDoorT35
import Derived.Test.YtamdnnkdnhkghaaGreatDoorT36
import Derived.Test.YtamdnnkdnhkghaaGreatDoorT37
import Derived.Test.YtamdnnkdnhkghaaGreatDoorT24
import Derived.Test.YtamdnnkdnhkghaaGreatDoorT26
import Derived.Test.YtamdnnkdnhkghaaGreatDoorT27
namespace Go.Proofs.YtamdnnkdnhkghaaGreatDoor

open Go Go.RowKit

set_option linter.unusedVariables false

theorem eTxt_zero : eTxt 0 1 0 = [] ++ [48] ++ [101] ++ [43] ++ [48, 48] := by decide

set_option maxHeartbeats 1600000 in
set_option maxRecDepth 100000 in
theorem efg_zero (base : Nat) (w w0 : World) (v : Value) (he : Efg w0 base 0 [] w v []) :
    Calls Tryz.prog 207 #[v, .bool false, .slice none 0 0, .int .i64 0, .int .i64 0, .int .i64 0, .int .u8 101, .bool false] w fun r w' => ∃ v', r = .returned v' ∧ Efg w0 base 0 [] w' v' (eTxt 0 1 0) := by
  rw [eTxt_zero]
  go_enter Tryz.func207, Tryz.ntmps207
  go_wp2_with (first | (at_builtin; (first | (refine efg_one _ (by assumption) rfl _ _ rfl rfl rfl (by first | (simp; done) | (simp; omega) | (simp [digL_len]; done) | (simp [digL_len]; omega)) ?_; intro zv9 zw9 zh9) | (refine efg_two _ _ (by assumption) rfl _ _ rfl rfl rfl (by first | (simp; done) | (simp; omega) | (simp [digL_len]; done) | (simp [digL_len]; omega)) ?_; intro zv9 zw9 zh9) | (refine efg_three _ _ _ (by assumption) rfl _ _ rfl rfl rfl (by first | (simp; done) | (simp; omega) | (simp [digL_len]; done) | (simp [digL_len]; omega)) ?_; intro zv9 zw9 zh9))) | go_in)
  go_ret
  exact ⟨_, rfl, by assumption⟩

set_option maxHeartbeats 1600000 in
set_option maxRecDepth 100000 in
theorem ftoa_zero (base : Nat) (v : Value) (w : World) (hown : OwnB w base v []) (hbase : base ≤ w.heap.size) (hb0 : 0 < base) :
    Calls Tryz.prog 182 #[v, .float .f64 0, .int .u8 101, .int .i64 0] w fun e w' => ∃ v', e = .returned v' ∧ OwnB w' base v' (eTxt 0 1 0) ∧ Below base w w' := by
  have hfb := run_f64bits2 0
  have e1 : bits .and .u64 0 4503599627370495 = 0 := by decide +kernel
  have e3 : bits .and .i64 0 2047 = 0 := by decide +kernel
  have He : Hid (∀ m, Efg w base 0 [] (w.drewN m) v []) := hide (fun m => ⟨hown.below (below_drw (Below.refl _ _) m), fun hh => by have := (hown.1.lt _ hh).1; omega, by simp; omega, fun j hj => by simp at hj, by simpa using hbase, (below_drw (Below.refl _ _) m).mono hbase⟩)
  clear hown
  go_enter Tryz.func182, Tryz.ntmps182
  go_wp2_with fail
  go_quiet (fail)
  go_wp2_with fail
  refine (efg_zero base _ w v (He.out _)).mono ?_
  rintro e w3 ⟨v3, rfl, he3⟩
  have H3 := hide he3
  clear he3
  go_wp2
  go_ret
  exact ⟨v3, rfl, H3.out.own, H3.out.bel⟩

end Go.Proofs.YtamdnnkdnhkghaaGreatDoor

namespace Go.Proofs.YtamdnnkdnhkghaaGreatDoor

open Go Go.RowKit

set_option linter.unusedVariables false

/-- A float's magnitude as x * 2^E, x with the highest of 64 bits. -/
def xR (r : Nat) : Nat := wM r * 2 ^ (64 - Lib.bitLen (wM r))

def eR (r : Nat) : Int := wE r - (64 - (Lib.bitLen (wM r) : Int))

/-- The variables that 'FormatFloat' reads. -/
structure FEnv (w : World) : Prop where
  sz : 21 < w.heap.size
  rows : ∀ i, i < 696 → w.cell? ⟨20, i * 2, none⟩ = some (.int .u64 ((Go.Pinned.pow10Rows.getD i (0, 0)).1 : Nat)) ∧ w.cell? ⟨20, i * 2 + 1, none⟩ = some (.int .u64 ((Go.Pinned.pow10Rows.getD i (0, 0)).2 : Nat))
  opt : w.cell? ⟨12, 0, none⟩ = some (.bool true)
  tab : Lib.TabIs Tryz.prog w "internal/strconv.uint64pow10" .u64 Lib.pow10Tab

theorem FEnv.below {w w' : World} (h : FEnv w) (hb : Below w.heap.size w w') : FEnv w' := by
  have h1 := h.sz
  have h2 := hb.size
  exact ⟨by omega, fun i hi => ⟨(hb.cell (by show 20 < _; omega)).trans (h.rows i hi).1, (hb.cell (by show 20 < _; omega)).trans (h.rows i hi).2⟩, (hb.cell (by show 12 < _; omega)).trans h.opt, tab_below h.tab (by omega) hb⟩

theorem FEnv.ten {w : World} (h : FEnv w) {n : Nat} (hn : n ≤ 17) : w.cell? ⟨6, n, none⟩ = some (.int .u64 ((10 ^ n : Nat) : Int)) := by
  have := h.tab.cell (by kernel_rfl : Tryz.prog.globalNamed "internal/strconv.uint64pow10" = some 6) n (by show n < 20; omega)
  rw [this, Lib.pow10Tab_at n (by omega)]

theorem wM_pos {r : Nat} (h : 0 < r) : 0 < wM r := by unfold wM; split <;> omega

theorem xR_facts {r : Nat} (h0 : 0 < r) (hr : r < infW) : (∃ y, xR r = 2048 * y) ∧ 9223372036854775808 ≤ xR r ∧ xR r < 18446744073709551616 ∧ 1 ≤ Lib.bitLen (wM r) ∧ Lib.bitLen (wM r) ≤ 53 ∧ -1074 ≤ eR r + 63 ∧ eR r + 63 ≤ 1023 := by
  have hM := wM_lt r
  have hM0 := wM_pos h0
  obtain ⟨b1, b2, b3⟩ := bitLen_bounds (wM r) (by omega) (by omega)
  have hk := wK_lt hr
  have hE : eR r = (wK r : Int) - 1074 - (64 - (Lib.bitLen (wM r) : Int)) := rfl
  have hb53 : Lib.bitLen (wM r) ≤ 53 := by
    have h2 : 2 ^ (Lib.bitLen (wM r) - 1) < 2 ^ 53 := Nat.lt_of_le_of_lt b2 hM
    have := (Nat.pow_lt_pow_iff_right (by omega)).1 h2
    omega
  unfold xR
  generalize Lib.bitLen (wM r) = b at *
  refine ⟨⟨wM r * 2 ^ (53 - b), ?_⟩, ?_, ?_, b1, hb53, by omega, by omega⟩
  · have e : 64 - b = 11 + (53 - b) := by omega
    rw [e, Nat.pow_add]
    generalize 2 ^ (53 - b) = z
    have : (2 : Nat) ^ 11 = 2048 := rfl
    rw [this]
    grind
  · have h1 : 2 ^ (b - 1) * 2 ^ (64 - b) ≤ wM r * 2 ^ (64 - b) := Nat.mul_le_mul_right _ b2
    rw [← Nat.pow_add] at h1
    have e : b - 1 + (64 - b) = 63 := by omega
    rw [e] at h1
    exact h1
  · have h1 : wM r * 2 ^ (64 - b) < 2 ^ b * 2 ^ (64 - b) := Nat.mul_lt_mul_of_pos_right b3 (Nat.pow_pos (by omega))
    rw [← Nat.pow_add] at h1
    have e : b + (64 - b) = 64 := by omega
    rw [e] at h1
    exact h1

theorem wrap_xR {M b x : Nat} (h : M * 2 ^ (64 - b) = x) (hx : x < 18446744073709551616) : IntKind.u64.wrap ((M : Int) * 2 ^ (64 - b)) = (x : Int) := by
  have e : (M : Int) * 2 ^ (64 - b) = (x : Int) := by rw [← h]; push_cast; rfl
  rw [e, IntKind.wrap_u64]
  omega

/-- 'ftoa64' of any float above nought. -/
theorem ftoa_any (r n base : Nat) (v : Value) (w : World) (h0 : 0 < r) (hr : r < infW) (hn1 : 1 ≤ n) (hn2 : n ≤ 17) (hF : FEnv w) (hown : OwnB w base v []) (hbase : base ≤ w.heap.size) :
    Calls Tryz.prog 182 #[v, .float .f64 r, .int .u8 101, .int .i64 ((n : Int) - 1)] w fun e w' => FtoR (xR r) n (eR r) base w e w' := by
  obtain ⟨⟨y, hy⟩, hx1, hx2, b1, b2, hE1, hE2⟩ := xR_facts h0 hr
  have HF : Hid (∀ w1 : World, Below w.heap.size w w1 → Calls Tryz.prog 210 #[.int .u64 (xR r), .int .i64 (eR r), .int .i64 n, .int .i64 ((n : Int) - 1), .int .u8 101] w1 fun e w' => ∃ (d : Nat) (q : Int), e = .returned (.tuple #[.int .u64 d, .int .i64 (-q)]) ∧ FixW (xR r) n (eR r) d q ∧ Below w1.heap.size w1 w') := hide (fun w1 hb => by
    have hF1 := hF.below hb
    exact fixed_any (xR r) y n (eR r) _ w1 hy hx1 hx2 hE1 hE2 hn1 hn2 (by have := hF1.sz; omega) hF1.rows (hF1.ten hn2))
  by_cases hs : r < 4503599627370496
  · have hM : wM r = r := by unfold wM; rw [if_pos hs]
    have hx : r * 2 ^ (64 - Lib.bitLen r) = xR r := by unfold xR; rw [hM]
    have hk : wK r = 0 := by unfold wK; omega
    rw [hM] at b1 b2
    refine ftoa_sub r n (Lib.bitLen r) (xR r) base (eR r) v w h0 hs hn1 hn2 (hide rfl) b1 b2 (hide (wrap_xR hx hx2)) (hide ?_) HF hE1 hE2 hown hbase hF.opt hF.sz hF.tab
    unfold eR wE
    rw [hM, hk]
    omega
  · have hM : wM r = r % 4503599627370496 + 4503599627370496 := by unfold wM; rw [if_neg hs]
    have hx : (r % 4503599627370496 + 4503599627370496) * 2 ^ (64 - Lib.bitLen (r % 4503599627370496 + 4503599627370496)) = xR r := by unfold xR; rw [hM]
    have hk : wK r = r / 4503599627370496 - 1 := rfl
    have hinf : infW = 9218868437227405312 := rfl
    rw [hM] at b1 b2
    refine ftoa_nor r (wK r) (r % 4503599627370496) n (Lib.bitLen (r % 4503599627370496 + 4503599627370496)) (xR r) base (eR r) v w (hide ?_) ?_ (by omega) hn1 hn2 (hide rfl) b1 b2 (hide (wrap_xR hx hx2)) (hide ?_) HF hE1 hE2 hown hbase hF.opt hF.sz hF.tab
    · omega
    · omega
    · unfold eR wE
      rw [hM]
      omega

end Go.Proofs.YtamdnnkdnhkghaaGreatDoor

namespace Go.Proofs.YtamdnnkdnhkghaaGreatDoor

open Go Go.RowKit

set_option linter.unusedVariables false

/-- A list of bytes as a text. -/
def txtB (L : List Int) : List UInt8 := L.map fun z => UInt8.ofNat z.toNat

theorem txtB_back {L : List Int} (h : ∀ z ∈ L, 0 ≤ z ∧ z < 256) : (txtB L).map (fun b => ((b.toNat : Nat) : Int)) = L := by
  unfold txtB
  rw [List.map_map]
  conv => rhs; rw [← List.map_id L]
  refine List.map_congr_left (fun z hz => ?_)
  have := h z hz
  simp only [Function.comp, id]
  rw [UInt8.toNat_ofNat']
  omega

theorem expL_byte {k : Nat} (hk : k < 1000) : ∀ z ∈ expL k, 48 ≤ z ∧ z ≤ 57 := by
  unfold expL
  split
  · intro z hz; simp at hz; omega
  · split
    · intro z hz; simp at hz; omega
    · intro z hz; simp at hz; omega

theorem digL_byte {d n : Nat} : ∀ z ∈ digL d n, 48 ≤ z ∧ z ≤ 57 := by
  intro z hz
  unfold digL at hz
  rw [List.mem_map] at hz
  obtain ⟨j, _, rfl⟩ := hz
  exact dgA_range d n j

theorem mantL_byte {d n : Nat} : ∀ z ∈ mantL d n, (48 ≤ z ∧ z ≤ 57) ∨ z = 46 := by
  intro z hz
  unfold mantL at hz
  rw [List.mem_append] at hz
  rcases hz with hz | hz
  · have : z = dgA d n 0 := by simpa using hz
    subst this
    exact .inl (dgA_range d n 0)
  · split at hz
    · cases hz
    · rcases List.mem_cons.1 hz with hz | hz
      · exact .inr hz
      · exact .inl (digL_byte z (List.mem_of_mem_drop hz))

theorem eTxt_byte {d n : Nat} {X : Int} (h1 : -400 ≤ X) (h2 : X ≤ 400) : ∀ z ∈ eTxt d n X, 0 ≤ z ∧ z < 256 := by
  intro z hz
  unfold eTxt at hz
  rw [List.mem_append, List.mem_append] at hz
  rcases hz with (hz | hz) | hz
  · rcases mantL_byte z hz with h | h <;> omega
  · simp at hz
    split at hz <;> omega
  · have := expL_byte (k := X.natAbs) (by omega) z hz
    omega

/-- The text of a float rounded to n digits. -/
def eStr (d n : Nat) (X : Int) : ByteArray := ⟨(txtB (eTxt d n X)).toArray⟩

theorem eStr_conv {w : World} {v : Value} {d n : Nat} {X : Int} (h1 : -400 ≤ X) (h2 : X ≤ 400) (h : Byt w v (eTxt d n X)) : (convert 29 9 v).run Tryz.prog w = .ok (.string (eStr d n X)) w := by
  refine byt_string ?_
  rw [txtB_back (eTxt_byte h1 h2)]
  exact h

/-- What 'FormatFloat' hands back. -/
def FfR (r n : Nat) (w : World) (e : Ending) (w' : World) : Prop :=
  ∃ d q, e = .returned (.string (eStr d n ((n : Int) - 1 - q))) ∧ FixW (xR r) n (eR r) d q ∧ Below w.heap.size w w'

set_option maxHeartbeats 1600000 in
set_option maxRecDepth 100000 in
theorem iff_any (r n : Nat) (w : World) (h0 : 0 < r) (hr : r < infW) (hn1 : 1 ≤ n) (hn2 : n ≤ 17) (hF : FEnv w) :
    Calls Tryz.prog 145 #[.float .f64 r, .int .u8 101, .int .i64 ((n : Int) - 1), .int .i64 64] w fun e w' => FfR r n w e w' := by
  obtain ⟨i0, hi, hz0, hz1, hz2⟩ := info_parts Tryz.info5
  have hmax : max ((n : Int) - 1 + 4) 24 = 24 := by omega
  have Hx := xR_facts h0 hr
  have HF := hide (fun w1 (hb : Below w.heap.size w w1) (v : Value) (hown : OwnB w1 w.heap.size v []) => ftoa_any r n w.heap.size v w1 h0 hr hn1 hn2 (hF.below hb) hown hb.size)
  clear hF
  go_enter Tryz.func145, Tryz.ntmps145
  go_wp2_with (first
    | (at_make; (refine wpList_make_own _ rfl _ _ _ rfl w.heap.size 5 i0 (.int .u8 0) 1 Tryz.underlying29 hi hz0 hz1 _ _ _ 24 rfl rfl rfl (by rw [hz2]; omega) (by unfold maxLen; omega) (Nat.le_refl _) ?_; intro w1 hrow hgr))
    | fail)
  have hb : Below w.heap.size w w1 := (Below.refl _ _).grown hgr (Nat.le_refl _) (fun q hq => by cases hq)
  have Hb := hide hb
  refine (HF.out w1 hb _ ⟨by simpa using hrow, fun h => by cases h⟩).mono ?_
  clear hb hrow hgr HF
  rintro e w2 ⟨v2, d, q, rfl, hfix, hown, hb2⟩
  have hX := fix_X hfix Hx.2.2.2.2.2.1 Hx.2.2.2.2.2.2
  have hcv := eStr_conv hX.1 hX.2 hown.byt
  have Hfix := hide hfix
  have Hb2 := hide hb2
  clear hfix hown hb2 hX Hx
  go_wp2
  go_ret
  exact ⟨d, q, rfl, Hfix.out, Hb.out.trans Hb2.out⟩

set_option maxHeartbeats 1600000 in
set_option maxRecDepth 100000 in
theorem ff_any (r n : Nat) (w : World) (h0 : 0 < r) (hr : r < infW) (hn1 : 1 ≤ n) (hn2 : n ≤ 17) (hF : FEnv w) :
    Calls Tryz.prog 95 #[.float .f64 r, .int .u8 101, .int .i64 ((n : Int) - 1), .int .i64 64] w fun e w' => FfR r n w e w' := by
  have H := hide (iff_any r n w h0 hr hn1 hn2 hF)
  clear hF
  go_enter Tryz.func95, Tryz.ntmps95
  go_wp2_with fail
  refine H.out.mono ?_
  rintro e w2 ⟨d, q, rfl, hfix, hb2⟩
  have Hfix := hide hfix
  have Hb2 := hide hb2
  clear hfix hb2
  go_wp2
  go_ret
  exact ⟨d, q, rfl, Hfix.out, Hb2.out⟩

set_option maxHeartbeats 1600000 in
set_option maxRecDepth 100000 in
theorem iff_zero (w : World) (hs : 0 < w.heap.size) :
    Calls Tryz.prog 145 #[.float .f64 0, .int .u8 101, .int .i64 0, .int .i64 64] w fun e w' => e = .returned (.string (eStr 0 1 0)) ∧ Below w.heap.size w w' := by
  obtain ⟨i0, hi, hz0, hz1, hz2⟩ := info_parts Tryz.info5
  have HF := hide (fun w1 (hb : Below w.heap.size w w1) (v : Value) (hown : OwnB w1 w.heap.size v []) => ftoa_zero w.heap.size v w1 hown hb.size hs)
  go_enter Tryz.func145, Tryz.ntmps145
  go_wp2_with (first
    | (at_make; (refine wpList_make_own _ rfl _ _ _ rfl w.heap.size 5 i0 (.int .u8 0) 1 Tryz.underlying29 hi hz0 hz1 _ _ _ 24 rfl rfl rfl (by rw [hz2]; omega) (by unfold maxLen; omega) (Nat.le_refl _) ?_; intro w1 hrow hgr))
    | fail)
  have hb : Below w.heap.size w w1 := (Below.refl _ _).grown hgr (Nat.le_refl _) (fun q hq => by cases hq)
  have Hb := hide hb
  refine (HF.out w1 hb _ ⟨by simpa using hrow, fun h => by cases h⟩).mono ?_
  clear hb hrow hgr HF
  rintro e w2 ⟨v2, rfl, hown, hb2⟩
  have hcv := eStr_conv (by decide) (by decide) hown.byt
  have Hb2 := hide hb2
  clear hown hb2
  go_wp2
  go_ret
  exact ⟨rfl, Hb.out.trans Hb2.out⟩

set_option maxHeartbeats 1600000 in
set_option maxRecDepth 100000 in
theorem ff_zero (w : World) (hs : 0 < w.heap.size) :
    Calls Tryz.prog 95 #[.float .f64 0, .int .u8 101, .int .i64 0, .int .i64 64] w fun e w' => e = .returned (.string (eStr 0 1 0)) ∧ Below w.heap.size w w' := by
  have H := hide (iff_zero w hs)
  go_enter Tryz.func95, Tryz.ntmps95
  go_wp2_with fail
  refine H.out.mono ?_
  rintro e w2 ⟨rfl, hb2⟩
  have Hb2 := hide hb2
  clear hb2
  go_wp2
  go_ret
  exact ⟨rfl, Hb2.out⟩

end Go.Proofs.YtamdnnkdnhkghaaGreatDoor

namespace Go.Proofs.YtamdnnkdnhkghaaGreatDoor

open Go Go.RowKit

set_option linter.unusedVariables false

/-- v * 10^p for v = V / 2^c, as a quotient. -/
def gA (V : Nat) (p : Int) : Nat := V * 10 ^ p.toNat

def gB (c : Nat) (p : Int) : Nat := 2 ^ c * 10 ^ (-p).toNat

theorem gB_pos (c : Nat) (p : Int) : 0 < gB c p := Nat.mul_pos (Nat.pow_pos (by omega)) (Nat.pow_pos (by omega))

/-- d * 10^-q is V / 2^c rounded to n digits. -/
structure Fmt (V c n d : Nat) (q : Int) : Prop where
  lo : 10 ^ (n - 1) ≤ d
  hi : d < 10 ^ n
  val : ∃ p : Int, 10 ^ (n - 1) * gB c p ≤ gA V p ∧ gA V p < 10 ^ n * gB c p ∧ ((q = p ∧ d = rq (gA V p) (gB c p)) ∨ (q = p - 1 ∧ d = 10 ^ (n - 1) ∧ rq (gA V p) (gB c p) = 10 ^ n))

theorem g_step (V c : Nat) {p p' : Int} (h : p ≤ p') : gA V p * 10 ^ (p' - p).toNat * gB c p' = gA V p' * gB c p := by
  unfold gA gB
  have e : p.toNat + (p' - p).toNat + (-p').toNat = p'.toNat + (-p).toNat := by omega
  have e2 : 10 ^ p.toNat * 10 ^ (p' - p).toNat * 10 ^ (-p').toNat = 10 ^ p'.toNat * 10 ^ (-p).toNat := by rw [← Nat.pow_add, ← Nat.pow_add, ← Nat.pow_add, e]
  generalize 10 ^ p.toNat = a1 at *
  generalize 10 ^ (p' - p).toNat = a2 at *
  generalize 10 ^ (-p').toNat = a3 at *
  generalize 10 ^ p'.toNat = a4 at *
  generalize 10 ^ (-p).toNat = a5 at *
  generalize 2 ^ c = z
  calc V * a1 * a2 * (z * a3) = V * z * (a1 * a2 * a3) := by grind
    _ = V * z * (a4 * a5) := by rw [e2]
    _ = V * a4 * (z * a5) := by grind

theorem g_ten (V c : Nat) (q : Int) : gA V q * (10 * gB c (q + 1)) = gA V (q + 1) * gB c q := by
  have := g_step V c (p := q) (p' := q + 1) (by omega)
  have e : (q + 1 - q).toNat = 1 := by omega
  rw [e, Nat.pow_one] at this
  rw [← Nat.mul_assoc]
  exact this

theorem ten_pre {n : Nat} (h : 1 ≤ n) : 10 ^ n = 10 * 10 ^ (n - 1) := by
  obtain ⟨j, rfl⟩ : ∃ j, n = j + 1 := ⟨n - 1, by omega⟩
  rw [Nat.pow_succ, Nat.add_sub_cancel]; omega

theorem p_lt {V c n : Nat} {p p' : Int} (hn : 1 ≤ n) (h1 : 10 ^ (n - 1) * gB c p ≤ gA V p) (h2 : gA V p' < 10 ^ n * gB c p') : ¬ p < p' := by
  intro h
  have hs := g_step V c (p := p) (p' := p') (by omega)
  have h10 : 10 ^ 1 ≤ 10 ^ (p' - p).toNat := Nat.pow_le_pow_right (by omega) (by omega)
  have hn10 := ten_pre hn
  have hB := gB_pos c p
  have hB' := gB_pos c p'
  generalize 10 ^ (p' - p).toNat = t at *
  rw [hn10] at h2
  generalize 10 ^ (n - 1) = z at *
  generalize gA V p = A at *
  generalize gA V p' = A' at *
  generalize gB c p = B at *
  generalize gB c p' = B' at *
  have a1 : A' * B < 10 * z * B' * B := Nat.mul_lt_mul_of_pos_right h2 hB
  rw [← hs] at a1
  have a2 : z * B * 10 ≤ A * t := Nat.mul_le_mul h1 h10
  have a3 : z * B * 10 * B' ≤ A * t * B' := Nat.mul_le_mul_right _ a2
  have e : z * B * 10 * B' = 10 * z * B' * B := by grind
  omega

theorem Fmt.unique {V c n d d' : Nat} {q q' : Int} (hn : 1 ≤ n) (h : Fmt V c n d q) (h' : Fmt V c n d' q') : d = d' ∧ q = q' := by
  obtain ⟨p, a1, a2, a3⟩ := h.val
  obtain ⟨p', b1, b2, b3⟩ := h'.val
  have hp : p = p' := by
    have := p_lt hn a1 b2
    have := p_lt hn b1 a2
    omega
  subst hp
  have hlt := h.hi
  have hlt' := h'.hi
  rcases a3 with ⟨q1, d1⟩ | ⟨q1, d1, r1⟩ <;> rcases b3 with ⟨q2, d2⟩ | ⟨q2, d2, r2⟩
  · exact ⟨by rw [d1, d2], by rw [q1, q2]⟩
  · omega
  · omega
  · exact ⟨by rw [d1, d2], by rw [q1, q2]⟩

theorem ratio_le {A B A' B' k : Nat} (hB : 0 < B) (h : A * B' = A' * B) (hk : k * B ≤ A) : k * B' ≤ A' := by
  have h1 : k * B * B' ≤ A * B' := Nat.mul_le_mul_right _ hk
  rw [h] at h1
  have e : k * B * B' = k * B' * B := by grind
  rw [e] at h1
  exact Nat.le_of_mul_le_mul_right h1 hB

theorem ratio_lt {A B A' B' k : Nat} (hB : 0 < B) (hB' : 0 < B') (h : A * B' = A' * B) (hk : A < k * B) : A' < k * B' := by
  have h1 : A * B' < k * B * B' := Nat.mul_lt_mul_of_pos_right hk hB'
  rw [h] at h1
  have e : k * B * B' = k * B' * B := by grind
  rw [e] at h1
  exact Nat.lt_of_mul_lt_mul_right h1

theorem xv {r c : Nat} (hc : c = 1074) : xR r * 2 ^ (eR r).toNat * 2 ^ c = wV r * 2 ^ (-(eR r)).toNat := by
  have hb : Lib.bitLen (wM r) ≤ 64 := by
    by_cases h : wM r = 0
    · rw [h]; decide
    · exact bitLen_le64 _ h (by have := wM_lt r; omega)
  unfold xR wV
  have e : 64 - Lib.bitLen (wM r) + (eR r).toNat + c = wK r + (-(eR r)).toNat := by unfold eR wE; omega
  rw [Nat.mul_assoc, Nat.mul_assoc, ← Nat.pow_add, ← Nat.pow_add, Nat.mul_assoc, ← Nat.pow_add, ← e]
  congr 2
  omega

theorem fg {r c : Nat} (hc : c = 1074) (q : Int) : fA (xR r) (eR r) q * gB c q = gA (wV r) q * fB (eR r) q := by
  have h := xv (r := r) hc
  unfold fA fB gA gB
  generalize 2 ^ (eR r).toNat = a at *
  generalize 2 ^ (-(eR r)).toNat = b at *
  generalize 2 ^ c = z at *
  generalize 10 ^ q.toNat = t
  generalize 10 ^ (-q).toNat = u
  calc xR r * t * a * (z * u) = (xR r * a * z) * (t * u) := by grind
    _ = (wV r * b) * (t * u) := by rw [h]
    _ = wV r * t * (u * b) := by grind

/-- What 'fixedWidthFloat' gives, said of the float. -/
theorem FixW.fmt {r n d c : Nat} {q : Int} (hc : c = 1074) (h0 : 0 < r) (hr : r < infW) (hn : 1 ≤ n) (h : FixW (xR r) n (eR r) d q) : Fmt (wV r) c n d q := by
  obtain ⟨_, hx1, hx2, _, _, hE1, hE2⟩ := xR_facts h0 hr
  have hlow := fmt_lower (n := n) (E := eR r) hn hE1 hE2 hx1
  have hupp := fmt_upper (n := n) (E := eR r) hn hE1 hE2 hx2
  have hn10 := ten_pre hn
  refine ⟨h.lo, h.hi, ?_⟩
  rcases h.val with ⟨hq, hd⟩ | ⟨hq, hd, hge⟩
  · rw [← hq] at hlow hupp
    have hf := fg (r := r) hc q
    have hfB := fB_pos (eR r) q
    have hgB := gB_pos c q
    have hrq : rq (fA (xR r) (eR r) q) (fB (eR r) q) = rq (gA (wV r) q) (gB c q) := rq_ratio hfB hgB hf
    refine ⟨q, ratio_le hfB hf hlow, ratio_lt hfB hgB hf ?_, .inl ⟨rfl, by rw [hd, hrq]⟩⟩
    have := h.hi
    rw [hd] at this
    rw [Nat.mul_comm]
    exact rq_lt hfB this
  · have hp : fpP n (eR r + 63) = q + 1 := by omega
    rw [hp] at hlow hupp
    have hf := fg (r := r) hc (q + 1)
    have hfB := fB_pos (eR r) (q + 1)
    have hgB := gB_pos c (q + 1)
    have hgq := gB_pos c q
    have ht := g_ten (wV r) c q
    have hrq : rq (fA (xR r) (eR r) (q + 1)) (fB (eR r) (q + 1)) = rq (gA (wV r) (q + 1)) (gB c (q + 1)) := rq_ratio hfB hgB hf
    have hrq10 : rq (fA (xR r) (eR r) (q + 1)) (10 * fB (eR r) (q + 1)) = rq (gA (wV r) q) (gB c q) := by
      refine rq_ratio (Nat.mul_pos (by omega) hfB) hgq ?_
      have h1 : fA (xR r) (eR r) (q + 1) * gB c q * gB c (q + 1) = gA (wV r) q * (10 * fB (eR r) (q + 1)) * gB c (q + 1) := by
        calc fA (xR r) (eR r) (q + 1) * gB c q * gB c (q + 1) = (fA (xR r) (eR r) (q + 1) * gB c (q + 1)) * gB c q := by grind
          _ = (gA (wV r) (q + 1) * fB (eR r) (q + 1)) * gB c q := by rw [hf]
          _ = (gA (wV r) (q + 1) * gB c q) * fB (eR r) (q + 1) := by grind
          _ = (gA (wV r) q * (10 * gB c (q + 1))) * fB (eR r) (q + 1) := by rw [ht]
          _ = gA (wV r) q * (10 * fB (eR r) (q + 1)) * gB c (q + 1) := by grind
      exact Nat.eq_of_mul_eq_mul_right hgB h1
    by_cases hbig : 10 ^ n * gB c (q + 1) ≤ gA (wV r) (q + 1)
    · refine ⟨q, ?_, ?_, .inl ⟨rfl, by rw [hd, hrq10]⟩⟩
      · refine ratio_le (A := gA (wV r) (q + 1)) (B := 10 * gB c (q + 1)) (Nat.mul_pos (by omega) hgB) ?_ ?_
        · exact ht.symm
        · rw [hn10] at hbig
          have e : 10 ^ (n - 1) * (10 * gB c (q + 1)) = 10 * 10 ^ (n - 1) * gB c (q + 1) := by grind
          rw [e]; exact hbig
      · have hu : gA (wV r) (q + 1) < 2 * 10 ^ n * gB c (q + 1) := ratio_lt hfB hgB hf hupp
        have hu2 : gA (wV r) q < 2 * 10 ^ (n - 1) * gB c q := by
          refine ratio_lt (A := gA (wV r) (q + 1)) (B := 10 * gB c (q + 1)) (Nat.mul_pos (by omega) hgB) hgq ht.symm ?_
          rw [hn10] at hu
          have e : 2 * 10 ^ (n - 1) * (10 * gB c (q + 1)) = 2 * (10 * 10 ^ (n - 1)) * gB c (q + 1) := by grind
          rw [e]; exact hu
        refine Nat.lt_of_lt_of_le hu2 (Nat.mul_le_mul_right _ ?_)
        omega
    · have hlt : gA (wV r) (q + 1) < 10 ^ n * gB c (q + 1) := by omega
      refine ⟨q + 1, ratio_le hfB hf hlow, hlt, .inr ⟨by omega, ?_, ?_⟩⟩
      · have h1 := h.lo
        have h2 : d ≤ 10 ^ (n - 1) := by
          rw [hd, hrq10]
          refine rq_le hgq ?_
          have := ratio_lt (A := gA (wV r) (q + 1)) (B := 10 * gB c (q + 1)) (k := 10 ^ (n - 1)) (Nat.mul_pos (by omega) hgB) hgq ht.symm (by
            rw [hn10] at hlt
            have e : 10 ^ (n - 1) * (10 * gB c (q + 1)) = 10 * 10 ^ (n - 1) * gB c (q + 1) := by grind
            rw [e]; exact hlt)
          rw [Nat.mul_comm]
          exact Nat.le_of_lt this
        omega
      · have h1 : rq (gA (wV r) (q + 1)) (gB c (q + 1)) ≤ 10 ^ n := rq_le hgB (by rw [Nat.mul_comm]; exact Nat.le_of_lt hlt)
        rw [hrq] at hge
        omega

end Go.Proofs.YtamdnnkdnhkghaaGreatDoor

namespace Go.Proofs.YtamdnnkdnhkghaaGreatDoor

open Go Go.RowKit

set_option linter.unusedVariables false

theorem rq_half2 {A B k : Nat} (hB : 0 < B) (h : rq A B ≤ k) : 2 * A ≤ (2 * k) * B + B := by
  have hd := Nat.div_add_mod A B
  have hm := Nat.mod_lt A hB
  unfold rq at h
  split at h
  · have h1 : A / B + 1 ≤ k := h
    have h3 : (2 * (A / B + 1)) * B ≤ (2 * k) * B := Nat.mul_le_mul_right _ (by omega)
    have h4 : (2 * (A / B + 1)) * B = 2 * (B * (A / B)) + 2 * B := by grind
    omega
  · rename_i hc
    have h1 : A / B ≤ k := h
    have h3 : (2 * (A / B)) * B ≤ (2 * k) * B := Nat.mul_le_mul_right _ (by omega)
    have h4 : (2 * (A / B)) * B = 2 * (B * (A / B)) := by grind
    omega

theorem rq_near {A S M : Nat} (hS : 0 < S) (h1 : 2 * A < 2 * (M * S) + S) (h2 : 2 * (M * S) < 2 * A + S) : rq A S = M := by
  have hd := Nat.div_add_mod A S
  have hm := Nat.mod_lt A hS
  by_cases h : M * S ≤ A
  · have hq : A / S = M := by
      refine Nat.div_eq_of_lt_le h ?_
      rw [Nat.add_mul, Nat.one_mul]
      omega
    unfold rq
    rw [hq] at hd ⊢
    rw [Nat.mul_comm S M] at hd
    rw [if_neg (by omega)]
    omega
  · obtain ⟨j, rfl⟩ : ∃ j, M = j + 1 := ⟨M - 1, by
      rcases Nat.eq_zero_or_pos M with e | e
      · rw [e, Nat.zero_mul] at h; omega
      · omega⟩
    rw [Nat.add_mul, Nat.one_mul] at h h1 h2
    have hq : A / S = j := by
      refine Nat.div_eq_of_lt_le (by omega) ?_
      rw [Nat.add_mul, Nat.one_mul]
      omega
    unfold rq
    rw [hq] at hd ⊢
    rw [Nat.mul_comm S j] at hd
    rw [if_pos (by left; omega)]

theorem word_km (r : Nat) : r = wK r * 4503599627370496 + wM r := by
  unfold wK wM
  split <;> omega

theorem wM_big {r : Nat} : wK r = 0 ∨ 4503599627370496 ≤ wM r := by
  unfold wK wM
  split
  · left; omega
  · right; omega

/-- What lies within a 2^54th of a float is rounded to it. -/
theorem rnd_near {A B r : Nat} (h0 : 0 < r) (hr : r < infW) (hB : 0 < B) (h1 : 18014398509481984 * A < 18014398509481985 * (wV r * B)) (h2 : 18014398509481983 * (wV r * B) < 18014398509481984 * A) : IsRnd A B r := by
  have hM := wM_lt r
  have hM0 := wM_pos h0
  have hw := word_km r
  have hbig := wM_big (r := r)
  unfold wV at h1 h2
  generalize wM r = M at *
  generalize wK r = k at *
  have hT : 0 < 2 ^ k := Nat.pow_pos (by omega)
  have e0 : M * 2 ^ k * B = M * (B * 2 ^ k) := by rw [Nat.mul_assoc, Nat.mul_comm (2 ^ k)]
  rw [e0] at h1 h2
  have hS : 0 < B * 2 ^ k := Nat.mul_pos hB hT
  have e53 : B * 2 ^ (53 + k) = 9007199254740992 * (B * 2 ^ k) := by rw [Nat.pow_add]; grind
  have e52 : B * 2 ^ (52 + k) = 4503599627370496 * (B * 2 ^ k) := by rw [Nat.pow_add]; grind
  have hMS : M * (B * 2 ^ k) ≤ 9007199254740991 * (B * 2 ^ k) := Nat.mul_le_mul_right _ (by omega)
  by_cases hc : k = 0 ∨ B * 2 ^ (52 + k) ≤ A
  · refine ⟨k, ?_, hc, ?_⟩
    · rw [e53]; generalize B * 2 ^ k = S at *; generalize M * S = X at *; omega
    · have : rq A (B * 2 ^ k) = M := by
        generalize B * 2 ^ k = S at *
        refine rq_near hS ?_ ?_
        · generalize M * S = X at *; omega
        · generalize M * S = X at *; omega
      rw [this, ← hw, Nat.min_eq_left (Nat.le_of_lt hr)]
  · have hk : k ≠ 0 := fun h => hc (.inl h)
    have hA : A < 4503599627370496 * (B * 2 ^ k) := by rw [← e52]; exact Nat.lt_of_not_le (fun h => hc (.inr h))
    have hM52 : M = 4503599627370496 := by
      have hge : 4503599627370496 ≤ M := by omega
      rcases Nat.lt_or_ge 4503599627370496 M with hlt | hlt
      · exfalso
        have : 4503599627370497 * (B * 2 ^ k) ≤ M * (B * 2 ^ k) := Nat.mul_le_mul_right _ hlt
        generalize B * 2 ^ k = S at *
        generalize M * S = X at *
        omega
      · omega
    obtain ⟨j, rfl⟩ : ∃ j, k = j + 1 := ⟨k - 1, by omega⟩
    subst hM52
    have e : B * 2 ^ (j + 1) = 2 * (B * 2 ^ j) := by rw [Nat.pow_succ]; grind
    have f53 : B * 2 ^ (53 + j) = 9007199254740992 * (B * 2 ^ j) := by rw [Nat.pow_add]; grind
    have f52 : B * 2 ^ (52 + j) = 4503599627370496 * (B * 2 ^ j) := by rw [Nat.pow_add]; grind
    rw [e] at hA h1 h2 hS
    refine ⟨j, ?_, .inr ?_, ?_⟩
    · rw [f53]; omega
    · rw [f52]; omega
    · have : rq A (B * 2 ^ j) = 9007199254740992 := by
        generalize B * 2 ^ j = S at *
        refine rq_near (by omega) ?_ ?_
        · omega
        · omega
      rw [this]
      have : j * 4503599627370496 + 9007199254740992 = r := by omega
      rw [this, Nat.min_eq_left (Nat.le_of_lt hr)]

/-- How near a rounded number lies. -/
theorem Fmt.err {V c n d : Nat} {q : Int} (hn : 1 ≤ n) (h : Fmt V c n d q) : 2 * (d * gB c q) ≤ 2 * gA V q + gB c q ∧ 2 * gA V q ≤ 2 * (d * gB c q) + gB c q ∧ 20 * (10 ^ (n - 1) * gB c q) ≤ 20 * gA V q + gB c q := by
  obtain ⟨p, a1, a2, a3⟩ := h.val
  rcases a3 with ⟨rfl, hd⟩ | ⟨hq, hd, hr⟩
  · have hB := gB_pos c q
    have h1 := rq_half hB (show d ≤ rq (gA V q) (gB c q) by omega)
    have h2 := rq_half2 hB (show rq (gA V q) (gB c q) ≤ d by omega)
    rw [Nat.mul_assoc] at h1 h2
    refine ⟨h1, h2, ?_⟩
    omega
  · have hp : p = q + 1 := by omega
    subst hp
    have hB := gB_pos c (q + 1)
    have hBq := gB_pos c q
    have ht := g_ten V c q
    have h1 := rq_half hB (show 10 ^ n ≤ rq (gA V (q + 1)) (gB c (q + 1)) by omega)
    rw [ten_pre hn] at h1 a2
    rw [← hd] at h1 a2 ⊢
    have h3 : gA V q < d * gB c q := by
      refine ratio_lt (A := gA V (q + 1)) (B := 10 * gB c (q + 1)) (Nat.mul_pos (by omega) hB) hBq ht.symm ?_
      have e : d * (10 * gB c (q + 1)) = 10 * d * gB c (q + 1) := by grind
      rw [e]; exact a2
    have h4 : 20 * (d * gB c q) ≤ 20 * gA V q + gB c q := by
      have m1 : (2 * (10 * d) * gB c (q + 1)) * gB c q ≤ (2 * gA V (q + 1) + gB c (q + 1)) * gB c q := Nat.mul_le_mul_right _ h1
      have m2 : (2 * gA V (q + 1) + gB c (q + 1)) * gB c q = (20 * gA V q + gB c q) * gB c (q + 1) := by
        calc (2 * gA V (q + 1) + gB c (q + 1)) * gB c q = 2 * (gA V (q + 1) * gB c q) + gB c (q + 1) * gB c q := by grind
          _ = 2 * (gA V q * (10 * gB c (q + 1))) + gB c (q + 1) * gB c q := by rw [ht]
          _ = (20 * gA V q + gB c q) * gB c (q + 1) := by grind
      have m3 : (2 * (10 * d) * gB c (q + 1)) * gB c q = 20 * (d * gB c q) * gB c (q + 1) := by grind
      rw [m2, m3] at m1
      exact Nat.le_of_mul_le_mul_right m1 hB
    refine ⟨by omega, by omega, h4⟩

theorem decRnd_g {d r c : Nat} {q : Int} (hc : c = 1074) : DecRnd d (-q) r ↔ IsRnd (d * gB c q) (10 ^ q.toNat) r := by
  unfold DecRnd gB
  rw [Int.neg_neg, ← hc, Nat.mul_assoc, Nat.mul_comm (2 ^ c)]

/-- Seventeen digits are enough. -/
theorem Fmt.back17 {r c d : Nat} {q : Int} (hc : c = 1074) (h0 : 0 < r) (hr : r < infW) (h : Fmt (wV r) c 17 d q) : DecRnd d (-q) r := by
  obtain ⟨e1, e2, e3⟩ := h.err (by omega)
  rw [decRnd_g hc]
  have hB := gB_pos c q
  have e : wV r * 10 ^ q.toNat = gA (wV r) q := rfl
  have e10 : 10 ^ (17 - 1) = 10000000000000000 := rfl
  rw [e10] at e3
  refine rnd_near h0 hr (Nat.pow_pos (by omega)) ?_ ?_
  · rw [e]; omega
  · rw [e]; omega

/-- The very number reads back. -/
theorem exact_back {r c d : Nat} {q : Int} (hc : c = 1074) (h0 : 0 < r) (hr : r < infW) (h : d * gB c q = gA (wV r) q) : DecRnd d (-q) r := by
  rw [decRnd_g hc, h]
  have e : wV r * 10 ^ q.toNat = gA (wV r) q := rfl
  have hp : 0 < gA (wV r) q := Nat.mul_pos (wV_pos (by omega)) (Nat.pow_pos (by omega))
  refine rnd_near h0 hr (Nat.pow_pos (by omega)) ?_ ?_
  · rw [e]; omega
  · rw [e]; omega

theorem rq_tenth_eq {A B k : Nat} (hB : 0 < B) (h : rq A B = 10 * k) : rq A (10 * B) = k := by
  have h1 := rq_half hB (show 10 * k ≤ rq A B by omega)
  have h2 := rq_half2 hB (show rq A B ≤ 10 * k by omega)
  refine rq_near (Nat.mul_pos (by omega) hB) ?_ ?_
  · have e : k * (10 * B) = 10 * (k * B) := by grind
    have e2 : 2 * (10 * k) * B = 20 * (k * B) := by grind
    rw [e]; rw [e2] at h2
    omega
  · have e : k * (10 * B) = 10 * (k * B) := by grind
    have e2 : 2 * (10 * k) * B = 20 * (k * B) := by grind
    rw [e]; rw [e2] at h1
    omega

/-- A last digit nought is not wanted. -/
theorem Fmt.drop {V c n d : Nat} {q : Int} (hn : 2 ≤ n) (h : Fmt V c n (10 * d) q) : Fmt V c (n - 1) d (q - 1) := by
  obtain ⟨p, a1, a2, a3⟩ := h.val
  have hlo := h.lo
  have hhi := h.hi
  have e1 := ten_pre (n := n) (by omega)
  have e2 := ten_pre (n := n - 1) (by omega)
  have ht := g_ten V c (p - 1)
  have hp : p - 1 + 1 = p := by omega
  rw [hp] at ht
  have hB := gB_pos c p
  have hB1 := gB_pos c (p - 1)
  have hrq : rq (gA V (p - 1)) (gB c (p - 1)) = rq (gA V p) (10 * gB c p) := rq_ratio hB1 (Nat.mul_pos (by omega) hB) ht
  have b1 : 10 ^ (n - 1 - 1) * gB c (p - 1) ≤ gA V (p - 1) := by
    refine ratio_le (A := gA V p) (B := 10 * gB c p) (Nat.mul_pos (by omega) hB) ht.symm ?_
    rw [e2] at a1
    have e : 10 ^ (n - 1 - 1) * (10 * gB c p) = 10 * 10 ^ (n - 1 - 1) * gB c p := by grind
    rw [e]; exact a1
  have b2 : gA V (p - 1) < 10 ^ (n - 1) * gB c (p - 1) := by
    refine ratio_lt (A := gA V p) (B := 10 * gB c p) (Nat.mul_pos (by omega) hB) hB1 ht.symm ?_
    rw [e1] at a2
    have e : 10 ^ (n - 1) * (10 * gB c p) = 10 * 10 ^ (n - 1) * gB c p := by grind
    rw [e]; exact a2
  refine ⟨by omega, by omega, p - 1, b1, b2, ?_⟩
  rcases a3 with ⟨hq, hd⟩ | ⟨hq, hd, hr⟩
  · refine .inl ⟨by omega, ?_⟩
    rw [hrq, rq_tenth_eq hB hd.symm]
  · refine .inr ⟨by omega, by omega, ?_⟩
    rw [hrq, rq_tenth_eq hB (k := 10 ^ (n - 1)) (by rw [hr, e1])]

theorem decRnd_ten {d W : Nat} {q : Int} : DecRnd (10 * d) (-q) W ↔ DecRnd d (-(q - 1)) W := by
  have e : -(q - 1) = -q + (1 : Nat) := by omega
  constructor
  · intro h
    obtain ⟨W', h'⟩ := DecRnd.ex d (-(q - 1))
    rw [e] at h'
    have h2 := h'.shift
    rw [Nat.pow_one, Nat.mul_comm] at h2
    have : W = W' := h.unique h2
    rw [this, e]; exact h'
  · intro h
    rw [e] at h
    have := h.shift
    rw [Nat.pow_one, Nat.mul_comm] at this
    exact this

/-- The first number of digits that read back. -/
structure First (r c n d : Nat) (q : Int) : Prop where
  n1 : 1 ≤ n
  n17 : n ≤ 17
  fmt : Fmt (wV r) c n d q
  back : DecRnd d (-q) r
  least : ∀ m d' q', 1 ≤ m → m < n → Fmt (wV r) c m d' q' → ¬ DecRnd d' (-q') r

theorem First.unique {r c n d n' d' : Nat} {q q' : Int} (h : First r c n d q) (h' : First r c n' d' q') : n = n' ∧ d = d' ∧ q = q' := by
  have hn : n = n' := by
    rcases Nat.lt_trichotomy n n' with g | g | g
    · exact absurd h.back (h'.least n d q h.n1 g h.fmt)
    · exact g
    · exact absurd h'.back (h.least n' d' q' h'.n1 g h'.fmt)
  subst hn
  exact ⟨rfl, h.fmt.unique h.n1 h'.fmt⟩

theorem First.last {r c n d : Nat} {q : Int} (h : First r c n d q) (hn : 2 ≤ n) : d % 10 ≠ 0 := by
  intro h10
  obtain ⟨e, rfl⟩ : ∃ e, d = 10 * e := ⟨d / 10, by omega⟩
  exact h.least (n - 1) e (q - 1) (by omega) (by omega) (h.fmt.drop hn) (decRnd_ten.1 h.back)

end Go.Proofs.YtamdnnkdnhkghaaGreatDoor

namespace Go.Proofs.YtamdnnkdnhkghaaGreatDoor

open Go Go.RowKit

set_option linter.unusedVariables false

theorem bs_eStr {d n : Nat} {X : Int} (h1 : -400 ≤ X) (h2 : X ≤ 400) : bs (eStr d n X) = eTxt d n X := by
  unfold eStr
  rw [bs_of (l := txtB (eTxt d n X)) rfl]
  exact txtB_back (eTxt_byte h1 h2)

theorem fold_dig : ∀ (l : List Int) (a : List Int) (b p : Nat), (∀ c ∈ l, c ≠ 46) → l.foldl dstep (a, b, p) = (a ++ l, b + p * l.length, p)
  | [], a, b, p, _ => by simp
  | c :: l, a, b, p, h => by
    have hc : c ≠ 46 := h c (by simp)
    rw [List.foldl_cons]
    have e : dstep (a, b, p) c = (a ++ [c], b + p, p) := by unfold dstep; rw [if_neg hc]
    rw [e, fold_dig l _ _ _ (fun x hx => h x (by simp [hx]))]
    simp
    rw [Nat.mul_add]
    omega

theorem digL_cons {d n : Nat} (h : 1 ≤ n) : digL d n = dgA d n 0 :: (digL d n).drop 1 := by
  unfold digL
  obtain ⟨j, rfl⟩ : ∃ j, n = j + 1 := ⟨n - 1, by omega⟩
  rw [List.range_succ_eq_map]
  simp

theorem mantL_len {d n : Nat} (h : 1 ≤ n) : (mantL d n).length = if n = 1 then 1 else n + 1 := by
  unfold mantL
  split
  · simp
  · simp [digL_len]; omega

theorem dscan_mantL {d n : Nat} (h : 1 ≤ n) : dscan (mantL d n) = (digL d n, n - 1, if n = 1 then 0 else 1) := by
  have hd : ∀ c ∈ digL d n, c ≠ 46 := fun c hc e => by have := digL_byte c hc; omega
  have hd0 : dgA d n 0 ≠ 46 := by have := dgA_range d n 0; omega
  by_cases h1 : n = 1
  · subst h1
    have e : mantL d 1 = [dgA d 1 0] := rfl
    rw [e]
    have e2 : digL d 1 = [dgA d 1 0] := rfl
    rw [e2]
    unfold dscan
    rw [List.foldl_cons, List.foldl_nil]
    unfold dstep
    rw [if_neg hd0]
    rfl
  · rw [mantL_big (by omega), if_neg h1]
    unfold dscan
    rw [List.foldl_append, List.foldl_append, List.foldl_cons, List.foldl_nil, List.foldl_cons, List.foldl_nil]
    have e1 : dstep ([], 0, 0) (dgA d n 0) = ([dgA d n 0], 0, 0) := by unfold dstep; rw [if_neg hd0]; rfl
    have e2 : dstep ([dgA d n 0], 0, 0) 46 = ([dgA d n 0], 0, 1) := by unfold dstep; rw [if_pos rfl]
    rw [e1, e2, fold_dig _ _ _ _ (fun c hc => hd c (List.mem_of_mem_drop hc))]
    have e3 : [dgA d n 0] ++ (digL d n).drop 1 = digL d n := by conv => rhs; rw [digL_cons h]
                                                                rfl
    rw [e3, List.length_drop, digL_len]
    simp

theorem dval_front {d n : Nat} (h : d < 10 ^ n) : ∀ j, j ≤ n → dval ((digL d n).take j) = d / 10 ^ (n - j)
  | 0, _ => by
    rw [List.take_zero, Nat.sub_zero, Nat.div_eq_of_lt h]
    rfl
  | j + 1, hj => by
    have hlt : j < (digL d n).length := by rw [digL_len]; omega
    have ih := dval_front h j (by omega)
    rw [List.take_succ_eq_append_getElem hlt, dval_snoc, ih]
    have hg : (digL d n)[j] = dgA d n j := by
      have := digL_getD (d := d) (n := n) (j := j) (by omega)
      rw [getD_lt hlt] at this
      exact this
    rw [hg, dgA_val]
    have e1 : n - j = n - (j + 1) + 1 := by omega
    have e2 : n - 1 - j = n - (j + 1) := by omega
    rw [e1, e2, Nat.pow_succ, ← Nat.div_div_eq_div_mul]
    generalize d / 10 ^ (n - (j + 1)) = z
    omega

theorem dval_digL {d n : Nat} (h : d < 10 ^ n) : dval (digL d n) = d := by
  have := dval_front h n (Nat.le_refl _)
  rw [List.take_of_length_le (by rw [digL_len]; exact Nat.le_refl _), Nat.sub_self, Nat.pow_zero, Nat.div_one] at this
  exact this

theorem expB_expL {k : Nat} (hk : k < 1000) : expB (expL k) = some (k : Int) := by
  have hall : allDig (expL k) = true := by
    unfold allDig
    rw [List.all_eq_true]
    intro z hz
    have := expL_byte hk z hz
    unfold isDigI
    simp
    omega
  have hl : 1 ≤ (expL k).length ∧ (expL k).length ≤ 3 := by
    unfold expL; split
    · simp
    · split <;> simp
  unfold expB
  rw [if_pos ⟨hl.1, hl.2, hall⟩]
  congr 1
  unfold expL
  split
  · simp only [dval, List.foldl_cons, List.foldl_nil]; omega
  · split
    · simp only [dval, List.foldl_cons, List.foldl_nil]; omega
    · simp only [dval, List.foldl_cons, List.foldl_nil]; omega

theorem expL_len (k : Nat) : 2 ≤ (expL k).length ∧ (expL k).length ≤ 3 := by
  unfold expL; split
  · simp
  · split <;> simp

/-- The text of a rounded float, as 'ParseFloat' reads it. -/
theorem eStr_txt {d n : Nat} {X : Int} (hn1 : 1 ≤ n) (hn2 : n ≤ 17) (h1 : -400 ≤ X) (h2 : X ≤ 400) :
    Txt (eStr d n X) (mantL d n).length (digL d n) (n - 1) (if n = 1 then 0 else 1) X := by
  have hb := bs_eStr (d := d) (n := n) h1 h2
  have hsz : (eStr d n X).size = (eTxt d n X).length := by rw [← bs_length, hb]
  have hm := mantL_len (d := d) hn1
  have hx := expL_len X.natAbs
  have hlen : (eTxt d n X).length = (mantL d n).length + 2 + (expL X.natAbs).length := by unfold eTxt; simp; omega
  have hk : (mantL d n).length ≤ 18 := by rw [hm]; split <;> omega
  have htake : (bs (eStr d n X)).take (mantL d n).length = mantL d n := by
    rw [hb]
    unfold eTxt
    rw [List.append_assoc, List.take_left]
  have hdrop : (bs (eStr d n X)).drop (mantL d n).length = [101, if X < 0 then 45 else 43] ++ expL X.natAbs := by
    rw [hb]
    unfold eTxt
    rw [List.append_assoc, List.drop_left]
  refine ⟨by omega, by omega, fun j hj => ?_, by rw [htake]; exact dscan_mantL hn1, by split <;> omega, ?_, .inr ⟨by omega, ?_⟩⟩
  · have hj2 : j < (bs (eStr d n X)).length := by rw [bs_length]; omega
    have e : (bs (eStr d n X)).getD j 0 = (mantL d n).getD j 0 := by
      rw [getD_lt hj2, getD_lt hj]
      have : ((bs (eStr d n X)).take (mantL d n).length)[j]'(by rw [htake]; exact hj) = (mantL d n)[j] := by simp only [htake]
      rw [← this, List.getElem_take]
    rw [e, getD_lt hj]
    have := mantL_byte (d := d) (n := n) _ (List.getElem_mem hj)
    unfold isDP isDigI
    simp
    omega
  · rw [digL_cons hn1]; exact fun h => by cases h
  · rw [hdrop]
    unfold expV
    rw [if_pos (by left; rfl)]
    unfold expS
    have ed : List.drop 1 ([101, if X < 0 then 45 else 43] ++ expL X.natAbs) = (if X < 0 then 45 else 43) :: expL X.natAbs := rfl
    rw [ed]
    have e0 : ((if X < 0 then 45 else 43) :: expL X.natAbs : List Int).getD 0 0 = if X < 0 then 45 else 43 := rfl
    have e1 : List.drop 1 ((if X < 0 then 45 else 43) :: expL X.natAbs : List Int) = expL X.natAbs := rfl
    rw [e0, e1, expB_expL (by omega)]
    by_cases hX : X < 0
    · rw [if_pos hX, if_pos rfl]
      simp
      omega
    · rw [if_neg hX, if_neg (by decide), if_pos rfl]
      congr 1
      omega

end Go.Proofs.YtamdnnkdnhkghaaGreatDoor

namespace Go.Proofs.YtamdnnkdnhkghaaGreatDoor

open Go Go.RowKit

set_option linter.unusedVariables false

/-- The decimal digits of a number, none for nought. -/
def digN (n : Nat) : List Int := if n = 0 then [] else decL n

theorem digN_step {X c : Nat} (hc : c < 10) : digN (X * 10 + c) = if X = 0 ∧ c = 0 then [] else digN X ++ [48 + (c : Int)] := by
  unfold digN
  by_cases h : X = 0
  · subst h
    by_cases h0 : c = 0
    · subst h0; rfl
    · rw [if_neg (by omega), if_neg (by omega), if_pos rfl, Nat.zero_mul, Nat.zero_add, decL_small hc, Nat.mod_eq_of_lt hc]
      rfl
  · rw [if_neg (by omega), if_neg (by omega), if_neg h, decL_step (by omega)]
    have e1 : (X * 10 + c) / 10 = X := by omega
    have e2 : (X * 10 + c) % 10 = c := by omega
    rw [e1, e2]

theorem digN_len (X : Nat) : (digN X).length = 0 ↔ X = 0 := by
  unfold digN
  split
  · rename_i h; simp [h]
  · rename_i h
    rw [decL_pre]
    simp [h]

theorem digL_snoc (d n : Nat) : digL d (n + 1) = digL (d / 10) n ++ [48 + ((d % 10 : Nat) : Int)] := by
  unfold digL
  rw [List.range_succ, List.map_append, List.map_singleton]
  congr 1
  · apply List.map_congr_left
    intro j hj
    rw [List.mem_range] at hj
    rw [dgA_val, dgA_val, Nat.div_div_eq_div_mul]
    have e : n + 1 - 1 - j = n - 1 - j + 1 := by omega
    rw [e, Nat.pow_succ, Nat.mul_comm]
  · rw [dgA_val]
    have e : n + 1 - 1 - n = 0 := by omega
    rw [e, Nat.pow_zero, Nat.div_one]

theorem allDig_digL (d n : Nat) : allDig (digL d n) = true := by
  unfold allDig
  rw [List.all_eq_true]
  intro z hz
  have := digL_byte z hz
  unfold isDigI
  simp only [decide_eq_true_eq]
  omega

/-- How many digits a number has, in the words of its digits. -/
theorem digN_digL : ∀ {l N : Nat}, 1 ≤ l → 10 ^ (l - 1) ≤ N → N < 10 ^ l → digN N = digL N l
  | 0, _, h, _, _ => by omega
  | 1, N, _, h1, h2 => by
    have h1' : 1 ≤ N := by simpa using h1
    have h2' : N < 10 := by simpa using h2
    have := digN_step (X := 0) (c := N) h2'
    rw [Nat.zero_mul, Nat.zero_add, if_neg (by omega)] at this
    rw [this, digL_snoc, Nat.mod_eq_of_lt h2']
    rfl
  | l + 2, N, _, h1, h2 => by
    have e1 : l + 2 - 1 = l + 1 := by omega
    rw [e1, Nat.pow_succ] at h1
    rw [Nat.pow_succ] at h2
    have ih := digN_digL (l := l + 1) (N := N / 10) (by omega) (by rw [Nat.add_sub_cancel, Nat.le_div_iff_mul_le (by omega)]; exact h1) (by rw [Nat.div_lt_iff_lt_mul (by omega)]; exact h2)
    have hs := digN_step (X := N / 10) (c := N % 10) (by omega)
    have e2 : N / 10 * 10 + N % 10 = N := by omega
    have hp : 0 < 10 ^ l := Nat.pow_pos (by omega)
    rw [e2, if_neg (by omega), ih] at hs
    rw [hs, ← digL_snoc]

theorem digN_size {N : Nat} (h : 0 < N) : ∃ l, 1 ≤ l ∧ 10 ^ (l - 1) ≤ N ∧ N < 10 ^ l := by
  induction N using Nat.strongRecOn with
  | _ N ih =>
    by_cases h10 : N < 10
    · exact ⟨1, by omega, by show 10 ^ 0 ≤ N; rw [Nat.pow_zero]; omega, by rw [Nat.pow_one]; exact h10⟩
    · obtain ⟨l, h1, h2, h3⟩ := ih (N / 10) (by omega) (by omega)
      refine ⟨l + 1, by omega, ?_, ?_⟩
      · obtain ⟨j, rfl⟩ : ∃ j, l = j + 1 := ⟨l - 1, by omega⟩
        rw [Nat.add_sub_cancel] at h2 ⊢
        rw [Nat.pow_succ]
        omega
      · rw [Nat.pow_succ]
        omega

theorem mod_step (N s t : Nat) : N / 10 ^ s % 10 ^ (t + 1) = N / 10 ^ (s + 1) % 10 ^ t * 10 + N / 10 ^ s % 10 := by
  rw [Nat.pow_succ, Nat.pow_succ, ← Nat.div_div_eq_div_mul, Nat.mul_comm (10 ^ t) 10, Nat.mod_mul]
  omega

/-- Rounding half to even, in the words of digits. -/
theorem rq_digits (N j : Nat) : rq N (10 ^ (j + 1)) = N / 10 ^ (j + 1) + (if 5 < N / 10 ^ j % 10 ∨ (N / 10 ^ j % 10 = 5 ∧ (N % 10 ^ j ≠ 0 ∨ N / 10 ^ (j + 1) % 2 = 1)) then 1 else 0) := by
  unfold rq
  have hz : 0 < 10 ^ j := Nat.pow_pos (by omega)
  have hm : N % 10 ^ (j + 1) = N / 10 ^ j % 10 * 10 ^ j + N % 10 ^ j := by
    rw [Nat.pow_succ, Nat.mod_mul, Nat.mul_comm (10 ^ j)]
    omega
  have hs : N % 10 ^ j < 10 ^ j := Nat.mod_lt _ hz
  rw [hm]
  rw [Nat.pow_succ]
  generalize N / (10 ^ j * 10) = T
  have hg : N / 10 ^ j % 10 < 10 := Nat.mod_lt _ (by omega)
  generalize N / 10 ^ j % 10 = g at *
  generalize N % 10 ^ j = S at *
  generalize 10 ^ j = z at *
  congr 1
  have : g = 0 ∨ g = 1 ∨ g = 2 ∨ g = 3 ∨ g = 4 ∨ g = 5 ∨ g = 6 ∨ g = 7 ∨ g = 8 ∨ g = 9 := by omega
  rcases this with rfl | rfl | rfl | rfl | rfl | rfl | rfl | rfl | rfl | rfl <;> (congr 1; apply propext; constructor <;> intro h <;> omega)

/-- A number of l digits over 10^P, held against V / 2^c. -/
structure Ex (V c N P l : Nat) : Prop where
  l1 : 1 ≤ l
  lo : 10 ^ (l - 1) ≤ N
  hi : N < 10 ^ l
  val : N * 2 ^ c = V * 10 ^ P

theorem Ex.cross {V c N P l k : Nat} (h : Ex V c N P l) (hk : k ≤ l) : N * gB c ((P : Int) - l + k) = gA V ((P : Int) - l + k) * 10 ^ (l - k) := by
  unfold gA gB
  have e : P + (-((P : Int) - l + k)).toNat = ((P : Int) - l + k).toNat + (l - k) := by omega
  rw [← Nat.mul_assoc, h.val, Nat.mul_assoc, ← Nat.pow_add, e, Nat.pow_add, Nat.mul_assoc]

theorem Ex.round {V c N P l k : Nat} (h : Ex V c N P l) (hk1 : 1 ≤ k) (hk : k ≤ l) :
    rq N (10 ^ (l - k)) ≤ 10 ^ k ∧ (rq N (10 ^ (l - k)) = 10 ^ k → Fmt V c k (10 ^ (k - 1)) ((P : Int) - l + k - 1)) ∧ (rq N (10 ^ (l - k)) ≠ 10 ^ k → Fmt V c k (rq N (10 ^ (l - k))) ((P : Int) - l + k)) := by
  have hB := gB_pos c ((P : Int) - l + k)
  have hx := h.cross hk
  have hz : 0 < 10 ^ (l - k) := Nat.pow_pos (by omega)
  have hr : rq (gA V ((P : Int) - l + k)) (gB c ((P : Int) - l + k)) = rq N (10 ^ (l - k)) := (rq_ratio hz hB hx).symm
  have e1 : 10 ^ (l - 1) = 10 ^ (l - k) * 10 ^ (k - 1) := by rw [← Nat.pow_add]; congr 1; omega
  have e2 : 10 ^ l = 10 ^ (l - k) * 10 ^ k := by rw [← Nat.pow_add]; congr 1; omega
  have hlo := h.lo
  have hhi := h.hi
  rw [e1] at hlo
  rw [e2] at hhi
  have r1 : 10 ^ (k - 1) ≤ rq N (10 ^ (l - k)) := rq_ge' hz hlo
  have r2 : rq N (10 ^ (l - k)) ≤ 10 ^ k := rq_le hz (Nat.le_of_lt hhi)
  have v1 : 10 ^ (k - 1) * gB c ((P : Int) - l + k) ≤ gA V ((P : Int) - l + k) := by
    have : 10 ^ (l - k) * 10 ^ (k - 1) * gB c ((P : Int) - l + k) ≤ gA V ((P : Int) - l + k) * 10 ^ (l - k) := by rw [← hx]; exact Nat.mul_le_mul_right _ hlo
    rw [Nat.mul_assoc, Nat.mul_comm] at this
    exact Nat.le_of_mul_le_mul_right this hz
  have v2 : gA V ((P : Int) - l + k) < 10 ^ k * gB c ((P : Int) - l + k) := by
    have : gA V ((P : Int) - l + k) * 10 ^ (l - k) < 10 ^ (l - k) * 10 ^ k * gB c ((P : Int) - l + k) := by rw [← hx]; exact Nat.mul_lt_mul_of_pos_right hhi hB
    rw [Nat.mul_assoc (10 ^ (l - k)), Nat.mul_comm (10 ^ (l - k))] at this
    exact Nat.lt_of_mul_lt_mul_right this
  have hk10 := ten_pre hk1
  have hkp : 0 < 10 ^ (k - 1) := Nat.pow_pos (by omega)
  refine ⟨r2, fun he => ⟨Nat.le_refl _, by omega, _, v1, v2, .inr ⟨rfl, rfl, by rw [hr]; exact he⟩⟩, fun he => ⟨r1, by omega, _, v1, v2, .inl ⟨rfl, hr.symm⟩⟩⟩

theorem rq_one (N : Nat) : rq N 1 = N := by
  unfold rq
  rw [Nat.div_one, Nat.mod_one, if_neg (by omega)]
  rfl

theorem Ex.whole {V c N P l : Nat} (h : Ex V c N P l) : Fmt V c l N (P : Int) := by
  have hr := h.round (k := l) h.l1 (Nat.le_refl _)
  rw [Nat.sub_self, Nat.pow_zero, rq_one] at hr
  have e : (P : Int) - l + l = P := by omega
  rw [e] at hr
  exact hr.2.2 (by have := h.hi; omega)

theorem Ex.back {r c N P l : Nat} (hc : c = 1074) (h0 : 0 < r) (hr : r < infW) (h : Ex (wV r) c N P l) : DecRnd N (-(P : Int)) r := by
  refine exact_back hc h0 hr ?_
  have := h.cross (k := l) (Nat.le_refl _)
  have e : (P : Int) - l + l = P := by omega
  rw [e, Nat.sub_self, Nat.pow_zero, Nat.mul_one] at this
  exact this

end Go.Proofs.YtamdnnkdnhkghaaGreatDoor

namespace Go.Proofs.YtamdnnkdnhkghaaGreatDoor

open Go Go.RowKit

set_option linter.unusedVariables false

/-- 'append([]byte{}, a...)'. -/
theorem app_none {wr : World} {ops : Array Oper} {rest : List Oper} {o : Oper} {a : Act} {Q : Exit → Act → World → Prop} (hgd : o.guard = none) (s x : Operand)
    (ho : o.op = .call { callee := .builtin .append, args := #[s, x], argTypes := #[29, 29] }) (v : Value) (L : List Int) (hbig : Byt wr v L) (hx : a.eval x = v) (hs : a.eval s = .slice (some ⟨wr.heap.size, 0, none⟩) 0 0)
    (hlen : L.length ≤ 10000000000)
    (h : ∀ v' w', OwnB w' wr.heap.size v' L → Below wr.heap.size wr w' → wpList Tryz.prog ops Q rest (a.put o.dst v') w') :
    wpList Tryz.prog ops Q (o :: rest) a (wr.alloc (.cells #[] 5)) := by
  obtain ⟨i0, hi, hz0, hz1, hz2⟩ := info_parts Tryz.info5
  obtain ⟨g, cap, rfl, h2, h3, h4, h5⟩ := hbig
  have hown := ownB_empty wr
  refine wpList_append_own _ hgd s x 29 ho wr.heap.size 5 i0 (.int .u8 0) 1 1 Tryz.underlying29 hi hz0 hz1 hz2 rfl (by decide) _ 0 _ hs hown.1 ⟨g, 0, none⟩ L.length cap (L.map (Value.int .u8)) hx (by simp) (byt_cells h5 _ h4)
    (ints_oneCell _ _) (by unfold maxLen; omega) (by omega) (by simp) ?_
  intro v' w' h1 h2 h3
  refine h v' w' ⟨by simpa using h1, (fun hh => by have := (h3.1 hh).1; cases this)⟩ (((Below.refl _ _).alloc (Nat.le_refl _) _).grown h2 (by simp) (fun q hq => by cases hq; exact Nat.le_refl _))

theorem dval_set : ∀ (L : List Int) (i : Nat) (x : Int), i < L.length → dval (L.set i x) + (L.getD i 0 - 48).toNat * 10 ^ (L.length - 1 - i) = dval L + (x - 48).toNat * 10 ^ (L.length - 1 - i)
  | [], i, x, h => by simp at h
  | c :: l, 0, x, h => by
    rw [List.set_cons_zero, dval_cons, dval_cons]
    simp
    omega
  | c :: l, i + 1, x, h => by
    have ih := dval_set l i x (by simpa using h)
    rw [List.set_cons_succ, dval_cons, dval_cons, List.length_set]
    have e : (c :: l).length - 1 - (i + 1) = l.length - 1 - i := by simp; omega
    have e2 : (c :: l).getD (i + 1) 0 = l.getD i 0 := by simp
    rw [e, e2]
    omega

theorem allDig_set {L : List Int} {i : Nat} {x : Int} (h : allDig L = true) (hx : 48 ≤ x ∧ x ≤ 57) : allDig (L.set i x) = true := by
  unfold allDig at *
  rw [List.all_eq_true] at *
  intro z hz
  rcases List.mem_or_eq_of_mem_set hz with g | g
  · exact h z g
  · subst g
    unfold isDigI
    exact decide_eq_true hx

theorem allDig_mem {L : List Int} (h : allDig L = true) {z : Int} (hz : z ∈ L) : 48 ≤ z ∧ z ≤ 57 := by
  unfold allDig at h
  rw [List.all_eq_true] at h
  have := h z hz
  unfold isDigI at this
  exact of_decide_eq_true this

theorem allDig_digits {L : List Int} (h : allDig L = true) : L = digL (dval L) L.length := by
  have hlt := dval_lt h
  refine dval_inj h (allDig_digL _ _) (by rw [digL_len]) (by rw [dval_digL hlt])

/-- What 'l01Round' hands back. -/
def RouR (N l k : Nat) (w : World) (e : Ending) (w' : World) : Prop :=
  (rq N (10 ^ (l - k)) ≠ 10 ^ k ∧ ∃ v', e = .returned (.tuple #[v', .bool false]) ∧ Byt w' v' (digL (rq N (10 ^ (l - k))) k) ∧ Below w.heap.size w w') ∨
  (rq N (10 ^ (l - k)) = 10 ^ k ∧ ∃ v', e = .returned (.tuple #[v', .bool true]) ∧ Byt w' v' (digL (10 ^ (k - 1)) k) ∧ Below w.heap.size w w')

theorem rou_a {N l k : Nat} {w w' : World} {v' : Value} {L : List Int} (hL : L.length = k) (hd : allDig L = true) (hv : dval L = rq N (10 ^ (l - k))) (hb : Byt w' v' L) (hB : Below w.heap.size w w') :
    RouR N l k w (.returned (.tuple #[v', .bool false])) w' := by
  have hlt := dval_lt hd
  rw [hL] at hlt
  have he := allDig_digits hd
  rw [hL, hv] at he
  rw [he] at hb
  exact .inl ⟨by omega, v', rfl, hb, hB⟩

theorem rou_b {N l k : Nat} {w w' : World} {v' : Value} {L : List Int} (hk : 1 ≤ k) (hL : L.length = k) (hd : allDig L = true) (hv : dval L + 10 ^ k = rq N (10 ^ (l - k))) (hle : rq N (10 ^ (l - k)) ≤ 10 ^ k) (hb : Byt w' v' (49 :: L.take (k - 1))) (hB : Below w.heap.size w w') :
    RouR N l k w (.returned (.tuple #[v', .bool true])) w' := by
  have h0 : dval L = 0 := by omega
  have ht := dval_take_le L (k - 1)
  have htl : (L.take (k - 1)).length = k - 1 := by rw [List.length_take]; omega
  have hd2 : allDig (49 :: L.take (k - 1)) = true := by
    unfold allDig
    rw [List.all_cons, Bool.and_eq_true]
    refine ⟨rfl, ?_⟩
    rw [List.all_eq_true]
    intro z hz
    unfold allDig at hd
    rw [List.all_eq_true] at hd
    exact hd z (List.mem_of_mem_take hz)
  have he := allDig_digits hd2
  have hv2 : dval (49 :: L.take (k - 1)) = 10 ^ (k - 1) := by
    rw [dval_cons, htl]
    have : ((49 : Int) - 48).toNat = 1 := rfl
    rw [this]
    omega
  have hl2 : (49 :: L.take (k - 1)).length = k := by simp; omega
  rw [hv2, hl2] at he
  rw [he] at hb
  exact .inr ⟨by omega, v', rfl, hb, hB⟩

theorem more_step {N s t : Nat} (d : Nat) (hd : d = N / 10 ^ s % 10) : (N / 10 ^ s % 10 ^ (t + 1) ≠ 0) ↔ (N / 10 ^ (s + 1) % 10 ^ t ≠ 0 ∨ d ≠ 0) := by
  rw [mod_step, hd]
  omega

end Go.Proofs.YtamdnnkdnhkghaaGreatDoor
