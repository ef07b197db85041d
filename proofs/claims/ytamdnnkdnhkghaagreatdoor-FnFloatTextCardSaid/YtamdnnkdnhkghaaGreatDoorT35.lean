import Derived.Test.YtamdnnkdnhkghaaGreatDoorT08
import Derived.Test.YtamdnnkdnhkghaaGreatDoorT16
import Derived.Test.YtamdnnkdnhkghaaGreatDoorT05
import Derived.Test.YtamdnnkdnhkghaaGreatDoorT30
import Derived.Test.YtamdnnkdnhkghaaGreatDoorT31
import Derived.Test.YtamdnnkdnhkghaaGreatDoorT32
import Derived.Test.YtamdnnkdnhkghaaGreatDoorT33
import Derived.Test.YtamdnnkdnhkghaaGreatDoorT34
namespace Go.Proofs.YtamdnnkdnhkghaaGreatDoor

open Go Go.RowKit

set_option linter.unusedVariables false

theorem run_f64bits2 (W : Nat) (w : World) : (callFunc 204 #[.float .f64 W]).run Tryz.prog w = .ok (.value (.int .u64 W)) w := by
  rw [run_callFunc_extern (e := Extern.MathFloatBits.float64bits) Tryz.func204 (by kernel_rfl) (by kernel_rfl) (by kernel_rfl) (by kernel_rfl)]
  rfl

theorem u64_mask52 (r : Nat) (h : r < 18446744073709551616) : bits .and .u64 (r : Int) 4503599627370495 = ((r % 4503599627370496 : Nat) : Int) := by
  have := u64_and_nat r 4503599627370495 h (by omega)
  rw [show (4503599627370495 : Nat) = 2 ^ 52 - 1 from rfl, Nat.and_two_pow_sub_one_eq_mod] at this
  exact this

theorem u64_or52 (f : Nat) (h : f < 4503599627370496) : bits .or .u64 (f : Int) 4503599627370496 = ((f + 4503599627370496 : Nat) : Int) := by
  have h1 := u64_or_nat f 4503599627370496 (by omega) (by omega)
  have h2 : f ||| 4503599627370496 = f + 4503599627370496 := by
    have := Nat.two_pow_add_eq_or_of_lt (i := 52) (b := f) h 1
    rw [Nat.or_comm]
    have e : (2 : Nat) ^ 52 * 1 = 4503599627370496 := rfl
    rw [e] at this
    rw [← this]
    exact Nat.add_comm _ _
  rw [h2] at h1
  exact h1

theorem OwnB.below {w w' : World} {base : Nat} {v : Value} {L : List Int} (h : OwnB w base v L) (hb : Below w.heap.size w w') : OwnB w' base v L := by
  obtain ⟨⟨h1, h2⟩, hv⟩ := h
  refine ⟨⟨h1, ?_⟩, hv⟩
  rcases h2 with h2 | ⟨g, cap, cur, h3, h4, h5, h6⟩
  · exact .inl h2
  · refine .inr ⟨g, cap, cur, h3, h4, ?_, h6⟩
    rw [hb.block g (Array.getElem?_eq_some_iff.1 h5).1]
    exact h5

/-- The call of 'fmtEFG' with 'e'. -/
theorem efg_all (d n nz g base : Nat) (X : Int) (w w0 : World) (v : Value) (he : Efg w0 base g (digL d n) w v []) (hn1 : 1 ≤ n) (hn2 : n ≤ 17) (hz1 : 1 ≤ nz) (hz2 : nz ≤ n) (ht : ∀ j, nz ≤ j → j < n → dgA d n j = 48) (hX1 : -400 ≤ X) (hX2 : X ≤ 400) :
    Calls Tryz.prog 207 #[v, .bool false, .slice (some ⟨g, 0, none⟩) 24 24, .int .i64 (X + 1), .int .i64 nz, .int .i64 ((n : Int) - 1), .int .u8 101, .bool false] w fun r w' => ∃ v', r = .returned v' ∧ Efg w0 base g (digL d n) w' v' (eTxt d n X) := by
  rcases Int.lt_or_le X 0 with hneg | hpos
  · obtain ⟨k, hk⟩ : ∃ k : Nat, X = -(k : Int) := ⟨X.natAbs, by omega⟩
    subst hk
    by_cases h1 : n = 1
    · subst h1
      obtain rfl : nz = 1 := by omega
      exact efg_1n d k g base w w0 v he (by omega) (by omega)
    · by_cases h2 : nz = 1
      · subst h2
        exact efg_zn d n k g base w w0 v he (by omega) (by omega) (by omega) hn2 (hide ht)
      · exact efg_mn d n nz k g base w w0 v he (by omega) (by omega) (by omega) hn2 (by omega) hz2 (hide ht)
  · obtain ⟨k, hk⟩ : ∃ k : Nat, X = (k : Int) := ⟨X.natAbs, by omega⟩
    subst hk
    by_cases h1 : n = 1
    · subst h1
      obtain rfl : nz = 1 := by omega
      exact efg_1p d k g base w w0 v he (by omega)
    · by_cases h2 : nz = 1
      · subst h2
        exact efg_zp d n k g base w w0 v he (by omega) (by omega) hn2 (hide ht)
      · exact efg_mp d n nz k g base w w0 v he (by omega) (by omega) hn2 (by omega) hz2 (hide ht)

abbrev bufO : Obj := .cells #[.int .u8 0, .int .u8 0, .int .u8 0, .int .u8 0, .int .u8 0, .int .u8 0, .int .u8 0, .int .u8 0, .int .u8 0, .int .u8 0, .int .u8 0, .int .u8 0, .int .u8 0, .int .u8 0, .int .u8 0, .int .u8 0, .int .u8 0, .int .u8 0, .int .u8 0, .int .u8 0, .int .u8 0, .int .u8 0, .int .u8 0, .int .u8 0] 144

theorem buf_cells (W : World) : ∀ j, j < 24 → (W.alloc bufO).cell? ⟨W.heap.size, j, none⟩ = some (.int .u8 0) ∧ (W.alloc bufO).frozen? ⟨W.heap.size, j, none⟩ = false := by
  intro j hj
  have hA : (#[.int .u8 0, .int .u8 0, .int .u8 0, .int .u8 0, .int .u8 0, .int .u8 0, .int .u8 0, .int .u8 0, .int .u8 0, .int .u8 0, .int .u8 0, .int .u8 0, .int .u8 0, .int .u8 0, .int .u8 0, .int .u8 0, .int .u8 0, .int .u8 0, .int .u8 0, .int .u8 0, .int .u8 0, .int .u8 0, .int .u8 0, .int .u8 0] : Array Value) = Array.replicate 24 (.int .u8 0) := rfl
  have hh : (W.alloc bufO).heap[W.heap.size]? = some bufO := heap_alloc_new W _
  constructor
  · unfold World.cell?
    simp only [hh]
    rw [hA]
    simp [hj]
  · unfold World.frozen?
    simp only [hh]
    simp

theorem tab_below {w w' : World} (h : Lib.TabIs Tryz.prog w "internal/strconv.uint64pow10" .u64 Lib.pow10Tab) (hs : 6 < w.heap.size) (hb : Below w.heap.size w w') : Lib.TabIs Tryz.prog w' "internal/strconv.uint64pow10" .u64 Lib.pow10Tab := by
  unfold Lib.TabIs World.var? at h ⊢
  rw [show Tryz.prog.globalNamed "internal/strconv.uint64pow10" = some 6 by kernel_rfl] at h ⊢
  simp only [Option.bind_some] at h ⊢
  rw [hb.block 6 hs]
  exact h

theorem nDig_eq {d n : Nat} (hn : 1 ≤ n) (h1 : 10 ^ (n - 1) ≤ d) (h2 : d < 10 ^ n) : Lib.nDigits d = n := by
  have := Lib.nDigits_unique (n - 1) d h1 (by rw [Nat.sub_add_cancel hn]; exact h2)
  omega

/-- What 'ftoa64' hands back: M * 2^E rounded to n digits. -/
def FtoR (x n : Nat) (E : Int) (base : Nat) (w : World) (e : Ending) (w' : World) : Prop :=
  ∃ v' d q, e = .returned v' ∧ FixW x n E d q ∧ OwnB w' base v' (eTxt d n ((n : Int) - 1 - q)) ∧ Below base w w'

theorem fix_X {x n d : Nat} {E q : Int} (h : FixW x n E d q) (h1 : -1074 ≤ E + 63) (h2 : E + 63 ≤ 1023) : -400 ≤ (n : Int) - 1 - q ∧ (n : Int) - 1 - q ≤ 400 := by
  have : -400 < l10 (E + 63) ∧ l10 (E + 63) < 399 := by unfold l10; omega
  rcases h.val with ⟨hq, _⟩ | ⟨hq, _⟩
  · unfold fpP at hq; omega
  · unfold fpP at hq; omega

theorem dgA_first {d n : Nat} (hn : 1 ≤ n) (h1 : 10 ^ (n - 1) ≤ d) (h2 : d < 10 ^ n) : dgA d n 0 ≠ 48 := by
  rw [dgA_val]
  have e : n - 1 - 0 = n - 1 := rfl
  rw [e]
  have hp : 0 < 10 ^ (n - 1) := Nat.pow_pos (by omega)
  have h3 : 1 ≤ d / 10 ^ (n - 1) := (Nat.one_le_div_iff hp).2 h1
  have h4 : d / 10 ^ (n - 1) < 10 := by
    rw [Nat.div_lt_iff_lt_mul hp, Nat.mul_comm, ← Nat.pow_succ]
    have : (n - 1).succ = n := by omega
    rw [this]; exact h2
  rw [Nat.mod_eq_of_lt h4]
  omega

/-- Behind 'setDigits': what 'fmtEFG' meets. -/
theorem efg_start {w W w1 w2 : World} {base d n nz : Nat} {v : Value} (hown : OwnB w base v []) (hbase : base ≤ w.heap.size) (hW : Below w.heap.size w W) (hWs : W.heap.size = w.heap.size) (hb1 : Below (W.alloc bufO).heap.size (W.alloc bufO) w1) (hs : SetD w1 w2 w.heap.size d n nz) : Efg w base w.heap.size (digL d n) w2 v [] := by
  have hal : Below w.heap.size w (W.alloc bufO) := hW.alloc (by omega) _
  have hsz : (W.alloc bufO).heap.size = w.heap.size + 1 := by simp; omega
  have h1 : Below w.heap.size w w1 := hal.trans (hb1.mono (by omega))
  have h2 : Below w.heap.size w w2 := h1.trans hs.bel
  have s1 := hb1.size
  have s2 := hs.bel.size
  refine ⟨hown.below h2, ?_, by omega, fun j hj => ?_, by omega, h2.mono hbase⟩
  · intro hh
    have := (hown.1.lt _ hh).2
    omega
  · rw [digL_len] at hj
    rw [hs.dig j hj, digL_getD hj]

end Go.Proofs.YtamdnnkdnhkghaaGreatDoor
