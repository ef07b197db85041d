import Derived.Test.YtplfgfdlcfdfdaaM1
import Derived.Test.YtplfgfdlcfdfdaaA3
import Derived.Deep.DeepCutAuto
namespace Go.Proofs.Ytplfgfdlcfdfdaa
open Go Go.RowKit
set_option linter.unusedVariables false

theorem div2_xor (a b : Nat) : (a ^^^ b) / 2 = (a / 2) ^^^ (b / 2) := by
  have h := Nat.shiftRight_xor_distrib (i := 1) (a := a) (b := b)
  simpa [Nat.shiftRight_eq_div_pow] using h
theorem mod2_xor (a b : Nat) : (a ^^^ b) % 2 = (a % 2) ^^^ (b % 2) := by
  have h := Nat.xor_mod_two_pow (n := 1) (a := a) (b := b)
  simpa using h
theorem div256_xor (a b : Nat) : (a ^^^ b) / 256 = (a / 256) ^^^ (b / 256) := by
  have h := Nat.shiftRight_xor_distrib (i := 8) (a := a) (b := b)
  simpa [Nat.shiftRight_eq_div_pow] using h
theorem mod256_xor (a b : Nat) : (a ^^^ b) % 256 = (a % 256) ^^^ (b % 256) := by
  have h := Nat.xor_mod_two_pow (n := 8) (a := a) (b := b)
  simpa using h
theorem xor_lc (a b c : Nat) : a ^^^ (b ^^^ c) = b ^^^ (a ^^^ c) := by
  rw [← Nat.xor_assoc, Nat.xor_comm a b, Nat.xor_assoc]
theorem cstep_xor (a b : Nat) : cstep (a ^^^ b) = cstep a ^^^ cstep b := by
  unfold cstep
  rw [mod2_xor, div2_xor]
  rcases Nat.mod_two_eq_zero_or_one a with ha | ha <;> rcases Nat.mod_two_eq_zero_or_one b with hb | hb <;> rw [ha, hb]
  · simp
  · simp [Nat.xor_assoc]
  · simp only [Nat.xor_zero, if_true, Nat.zero_ne_one, if_false]
    rw [Nat.xor_assoc, Nat.xor_assoc, Nat.xor_comm (b / 2)]
  · simp only [Nat.xor_self, if_true, Nat.zero_ne_one, if_false]
    rw [Nat.xor_assoc, xor_lc pol, Nat.xor_self, Nat.xor_zero]
theorem csteps_xor (k a b : Nat) : csteps k (a ^^^ b) = csteps k a ^^^ csteps k b := by
  induction k with
  | zero => rfl
  | succ k ih => simp only [csteps, cstep_xor, ih]
theorem csteps_high (k h j : Nat) : csteps k (h * 2 ^ (k + j)) = h * 2 ^ j := by
  induction k generalizing j with
  | zero => simp [csteps]
  | succ k ih =>
    rw [csteps, show k + 1 + j = k + (j + 1) by omega, ih]
    have e : h * 2 ^ (j + 1) = 2 * (h * 2 ^ j) := by rw [Nat.pow_succ, Nat.mul_comm 2, Nat.mul_assoc]
    rw [e]
    unfold cstep
    rw [if_neg (by omega)]
    omega
theorem split8 (x : Nat) : x = (x / 256 * 256) ^^^ (x % 256) := by
  apply Nat.eq_of_testBit_eq
  intro i
  rw [Nat.testBit_xor, show 256 = 2 ^ 8 from rfl, Nat.testBit_mod_two_pow, Nat.testBit_mul_two_pow, Nat.testBit_div_two_pow]
  by_cases h : i < 8
  · simp [h, Nat.not_le.mpr h]
  · have h' : 8 ≤ i := Nat.not_lt.mp h
    simp [h, h', Nat.sub_add_cancel h']
theorem csteps_table (x : Nat) : csteps 8 x = (x / 256) ^^^ csteps 8 (x % 256) := by
  conv => lhs; rw [split8 x, csteps_xor]
  have := csteps_high 8 (x / 256) 0
  rw [show (2 : Nat) ^ (8 + 0) = 256 from rfl, Nat.pow_zero, Nat.mul_one] at this
  rw [this]
theorem crc_table (c b : Nat) (hb : b ≤ 255) : csteps 8 (c ^^^ b) = (c / 256) ^^^ csteps 8 ((c % 256) ^^^ b) := by
  rw [csteps_table, div256_xor, mod256_xor, show b / 256 = 0 by omega, show b % 256 = b by omega, Nat.xor_zero]

theorem bits_xor_u8_nat (a b : Nat) (ha : a < 256) (hb : b < 256) : bits .xor .u8 (a : Int) (b : Int) = ((a ^^^ b : Nat) : Int) := by
  have h := Nat.xor_lt_two_pow (n := 8) (show a < 2 ^ 8 from ha) (show b < 2 ^ 8 from hb)
  have h1 : (BitVec.ofInt 8 (a : Int)).toNat = a := by simp; omega
  have h2 : (BitVec.ofInt 8 (b : Int)).toNat = b := by simp; omega
  show IntKind.u8.wrap (((BitVec.ofInt 8 (a : Int)) ^^^ (BitVec.ofInt 8 (b : Int))).toNat) = _
  rw [BitVec.toNat_xor, h1, h2, IntKind.wrap_u8]
  generalize a ^^^ b = c at h ⊢
  omega

/-- Bytes of an argument: any length. -/
theorem ByA.val {w : World} {v : Value} {n : Nat} {f : Nat → Nat} (h : ByA w v n f) : ∃ a cap, v = .slice a n cap := by
  rcases h with ⟨rfl, a, cap, rfl⟩ | ⟨b, o, cap, rfl, _⟩
  · exact ⟨a, cap, rfl⟩
  · exact ⟨_, cap, rfl⟩

set_option maxHeartbeats 400000 in
set_option maxRecDepth 100000 in
theorem implCrc_any (v : Value) (n : Nat) (f : Nat → Nat) (w : World) (hn : n ≤ 1099511627776) (h : ByA w v n f) :
    Calls Try.prog 24 #[v] w fun e w' => e = .returned (.int .u32 ((crcN f n ^^^ 4294967295 : Nat) : Int)) ∧ Below w.heap.size w w' := by
  have hz := zero_tab
  have HA := hide h
  obtain ⟨sa, cap, rfl⟩ := h.val
  clear h
  go_enter Try.func24, Try.ntmps24
  go_wp2_with fail
  refine (sumWords_any w).mono ?_
  rintro e w1 ⟨rfl, hb1⟩
  have HB1 := hide hb1
  have HA1 := hide (HA.out.low hb1 (Nat.le_refl _))
  clear hb1
  have hsc := run_storeCells_new (P := Try.prog) w1 84 (tabC 0) (tabC 256) (by rw [info_tab, tabC_size]) (by rw [tabC_size, tabC_size]) (tab_one 256)
  go_upto_region 2 with (fail)
  clear hsc
  have hR : RowF (w1.alloc (.cells (tabC 256) 84)) 84 w1.heap.size 256 (tabN 256) := by
    refine ⟨tabC 256, heap_alloc_new w1 _, by rw [tabC_size]; exact Nat.le_refl _, fun j hj => ?_⟩
    simp [tabC, hj]
  have HB2 := hide (HB1.out.trans ((b_1 w1 (.cells (tabC 256) 84)).mono HB1.out.size))
  have HA2 := hide (HA1.out.low (b_1 w1 (.cells (tabC 256) 84)) (Nat.le_refl _))
  have HR := hide hR
  clear hR HA1 HB1
  generalize w1.heap.size = g at HR ⊢
  generalize w1.alloc (.cells (tabC 256) 84) = w2 at HR HB2 HA2 ⊢
  go_wp2
  go_loopw [4, 10] (fun rv iv wr => ∃ i : Nat, i ≤ n ∧ rv = .int .u32 (crcN f i) ∧ iv = .int .i64 i ∧ wr = w2) (fun _ iv _ => match iv with | .int _ x => n - x.toNat | _ => 0)
  case atStart => exact ⟨0, by omega, rfl, rfl, rfl⟩
  case round =>
    obtain ⟨i, hi, rfl, rfl, rfl⟩ := hrel
    by_cases hin : i < n
    · rcases HA2.out with ⟨rfl, _⟩ | ⟨b, o, cap', e, hb, hcap, hc⟩
      · omega
      · simp only [Value.slice.injEq] at e
        obtain ⟨rfl, _, rfl⟩ := e
        obtain ⟨hf, hcell⟩ := hc i hin
        have hl := crcN_lt f i (fun j hj => (hc j (by omega)).1)
        have hcr : crcN f (i + 1) = (crcN f i / 256) ^^^ csteps 8 ((crcN f i % 256) ^^^ f i) := crc_table _ _ hf
        generalize crcN f i = Y at hl hcr
        have hx8 := bits_xor_u8_nat (Y % 256) (f i) (by omega) (by omega)
        have hz8 : (Y % 256) ^^^ f i < 256 := Nat.xor_lt_two_pow (n := 8) (by omega) (by omega)
        generalize (Y % 256) ^^^ f i = Z at hx8 hz8 hcr
        have hx8' : bits .xor .u8 ((Y : Int) % 256) (f i : Int) = (Z : Int) := by rw [← hx8]; congr 1
        have hzi : (Z : Int) < 256 := by omega
        have htab := HR.out.cell hz8
        have hc8 := csteps_lt 8 (show Z < 4294967296 by omega)
        have htn : tabN 256 Z = .int .u32 ((csteps 8 Z : Nat) : Int) := by simp [tabN, hz8]
        rw [htn] at htab
        generalize csteps 8 Z = C at hc8 hcr htab
        have hx32 := bits_xor_u32_nat (Y / 256) C (by omega) hc8
        rw [← hcr] at hx32
        have hx32' : bits .xor .u32 ((Y : Int) / 256) (C : Int) = (crcN f (i + 1) : Int) := by rw [← hx32]; congr 1
        have HX := hide hx32'
        clear hx8 hx32 hx32' hcr hc8 hz8 hl hc hcap hb htn
        generalize hDD : crcN f (i + 1) = D at HX
        replace hDD := hDD.symm
        have hin' : (i : Int) < (n : Int) := by omega
        have HD : Hid (D = crcN f (i + 1)) := hDD
        clear hDD
        go_wp2
        go_roundw
        case rel => exact ⟨i + 1, by omega, by rw [HX.out, HD.out], by simp, trivial⟩
        case measure => simp; omega
    · obtain rfl : i = n := by omega
      have hl := crcN_lt f i (fun j hj => by
        rcases HA2.out with ⟨rfl, _⟩ | ⟨b, o, cap', e, hb, hcap, hc⟩
        · omega
        · exact (hc j (by omega)).1)
      have he : bits .xor .u32 IntKind.u32.max (crcN f i : Int) = ((crcN f i ^^^ 4294967295 : Nat) : Int) := by
        rw [Nat.xor_comm]
        exact bits_xor_u32_nat 4294967295 (crcN f i) (by decide) hl
      have HE := hide he
      clear hl he
      go_wp2
      go_ret
      exact ⟨by rw [← HE.out]; rfl, HB2.out⟩

end Go.Proofs.Ytplfgfdlcfdfdaa
