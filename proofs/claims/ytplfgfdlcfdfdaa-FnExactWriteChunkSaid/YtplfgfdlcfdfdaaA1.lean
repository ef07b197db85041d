import Derived.Test.YtplfgfdlcfdfdaaRows
import Derived.WalkKit
import Derived.ProofKit
import Derived.OpenShut
import Derived.WalkSpells
namespace Go.Proofs.Ytplfgfdlcfdfdaa
open Go Go.RowKit
set_option linter.unusedVariables false

theorem hide {p : Prop} (h : p) : Hid p := h

/-- Bytes in memory: n of them, the j-th is f j. -/
def ByA (w : World) (v : Value) (n : Nat) (f : Nat → Nat) : Prop :=
  (n = 0 ∧ ∃ a cap, v = .slice a 0 cap) ∨ ∃ b o cap, v = .slice (some ⟨b, o, none⟩) n cap ∧ b < w.heap.size ∧ n ≤ cap ∧ ∀ j, j < n → f j ≤ 255 ∧ w.cell? ⟨b, o + j, none⟩ = some (.int .u8 (f j))

theorem ByA.low {w w' : World} {v : Value} {n B : Nat} {f : Nat → Nat} (h : ByA w v n f) (hb : Below B w w') (hB : w.heap.size ≤ B) : ByA w' v n f := by
  rcases h with h | ⟨b, o, cap, rfl, hbB, hcap, hc⟩
  · exact .inl h
  · refine .inr ⟨b, o, cap, rfl, Nat.lt_of_lt_of_le hbB hb.size, hcap, fun j hj => ⟨(hc j hj).1, (hb.cell (p := ⟨b, o + j, none⟩) (Nat.lt_of_lt_of_le hbB hB)).trans (hc j hj).2⟩⟩

def pol : Nat := 3988292384
def cstep (r : Nat) : Nat := if r % 2 = 1 then (r / 2) ^^^ pol else r / 2
def csteps : Nat → Nat → Nat
  | 0, r => r
  | k + 1, r => cstep (csteps k r)
def crcN (f : Nat → Nat) : Nat → Nat
  | 0 => 4294967295
  | k + 1 => csteps 8 (crcN f k ^^^ f k)

theorem bits_xor_u32_nat (a b : Nat) (ha : a < 4294967296) (hb : b < 4294967296) : bits .xor .u32 (a : Int) (b : Int) = ((a ^^^ b : Nat) : Int) := by
  have h := Nat.xor_lt_two_pow (n := 32) (show a < 2 ^ 32 from ha) (show b < 2 ^ 32 from hb)
  have h1 : (BitVec.ofInt 32 (a : Int)).toNat = a := by simp; omega
  have h2 : (BitVec.ofInt 32 (b : Int)).toNat = b := by simp; omega
  show IntKind.u32.wrap (((BitVec.ofInt 32 (a : Int)) ^^^ (BitVec.ofInt 32 (b : Int))).toNat) = _
  rw [BitVec.toNat_xor, h1, h2, IntKind.wrap_u32]
  generalize a ^^^ b = c at h ⊢
  omega

theorem cstep_lt {r : Nat} (h : r < 4294967296) : cstep r < 4294967296 := by
  unfold cstep
  split
  · exact Nat.xor_lt_two_pow (n := 32) (by omega) (by decide)
  · omega

theorem csteps_lt {r : Nat} (k : Nat) (h : r < 4294967296) : csteps k r < 4294967296 := by
  induction k with
  | zero => exact h
  | succ k ih => exact cstep_lt ih

theorem crcN_lt (f : Nat → Nat) (n : Nat) (hf : ∀ j, j < n → f j ≤ 255) : crcN f n < 4294967296 := by
  induction n with
  | zero => simp [crcN]
  | succ n ih =>
    refine csteps_lt 8 (Nat.xor_lt_two_pow (n := 32) (ih (fun j hj => hf j (by omega))) ?_)
    have := hf n (by omega)
    omega

theorem cstep_1 {r : Nat} (h : r % 2 = 1) : cstep r = (r / 2) ^^^ pol := by simp [cstep, h]
theorem cstep_0 {r : Nat} (h : r % 2 = 0) : cstep r = r / 2 := by simp [cstep, h]

theorem cs_1 {S Y : Nat} (h : S = cstep Y) (hl : Y < 4294967296) (hb : ((Y : Int) % 2 == 1) = true) : Value.int .u32 (bits BinOp.xor IntKind.u32 ((Y : Int) / 2 % 4294967296) 3988292384) = Value.int .u32 (S : Int) := by
  have hb' : (Y : Int) % 2 = 1 := by simpa using hb
  have h2 : Y % 2 = 1 := by omega
  have e : (Y : Int) / 2 % 4294967296 = ((Y / 2 : Nat) : Int) := by omega
  rw [h, cstep_1 h2, e]
  exact congrArg (Value.int .u32) (bits_xor_u32_nat (Y / 2) 3988292384 (by omega) (by decide))
theorem cs_0 {S Y : Nat} (h : S = cstep Y) (hl : Y < 4294967296) (hb : ((Y : Int) % 2 == 1) = false) : Value.int .u32 ((Y : Int) / 2 % 4294967296) = Value.int .u32 (S : Int) := by
  have hb' : ¬ (Y : Int) % 2 = 1 := by simpa using hb
  have h2 : Y % 2 = 0 := by omega
  rw [h, cstep_0 h2]
  exact congrArg (Value.int .u32) (by omega)

set_option maxHeartbeats 400000 in
set_option maxRecDepth 100000 in
theorem specCrc_any (v : Value) (n : Nat) (f : Nat → Nat) (w : World) (hn : n ≤ 1099511627776) (h : ByA w v n f) :
    Calls Try.prog 18 #[v] w fun e w' => e = .returned (.int .u32 ((crcN f n ^^^ 4294967295 : Nat) : Int)) ∧ Below w.heap.size w w' := by
  have hfin : ∀ m : Nat, m < 4294967296 → bits .xor .u32 (m : Int) 4294967295 = ((m ^^^ 4294967295 : Nat) : Int) := fun m hm => bits_xor_u32_nat m 4294967295 hm (by decide)
  have h00 : bits .xor .u32 4294967295 4294967295 = ((crcN f 0 ^^^ 4294967295 : Nat) : Int) := by
    rw [crcN]
    exact hfin 4294967295 (by decide)
  rcases h with ⟨rfl, a, cap, rfl⟩ | ⟨b, o, cap, rfl, hb, hcap, hc⟩
  · go_enter Try.func18, Try.ntmps18
    go_wp2
    go_loopw [3, 10] (fun rv iv wr => rv = .int .u32 4294967295 ∧ iv = .int .i64 0 ∧ wr = w) (fun _ _ _ => 0)
    case atStart => exact ⟨rfl, rfl, rfl⟩
    case round =>
      obtain ⟨rfl, rfl, rfl⟩ := hrel
      go_wp2
      go_ret
      refine ⟨?_, Below.refl _ _⟩
      rfl
  · go_enter Try.func18, Try.ntmps18
    go_wp2
    go_loopw [3, 10] (fun rv iv wr => ∃ i : Nat, i ≤ n ∧ rv = .int .u32 (crcN f i) ∧ iv = .int .i64 i ∧ wr = w) (fun _ iv _ => match iv with | .int _ x => n - x.toNat | _ => 0)
    case atStart => exact ⟨0, by omega, rfl, rfl, rfl⟩
    case round =>
      obtain ⟨i, hi, rfl, rfl, rfl⟩ := hrel
      have hl := crcN_lt f i (fun j hj => (hc j (by omega)).1)
      by_cases hin : i < n
      · obtain ⟨hf, hcell⟩ := hc i hin
        have hx := bits_xor_u32_nat (crcN f i) (f i) hl (by omega)
        have hxl : crcN f i ^^^ f i < 4294967296 := Nat.xor_lt_two_pow (n := 32) hl (by omega)
        have hcN : crcN f (i + 1) = csteps 8 (crcN f i ^^^ f i) := rfl
        generalize crcN f i ^^^ f i = X at hx hxl hcN
        have HX := hide hcN
        clear hcN
        go_wp2
        go_loopw [3, 6] (fun rv kv wr2 => ∃ k : Nat, k ≤ 8 ∧ rv = .int .u32 (csteps k X) ∧ kv = .int .i64 k ∧ wr2 = wr) (fun _ kv _ => match kv with | .int _ x => 8 - x.toNat | _ => 0)
        case atStart => exact ⟨0, by omega, rfl, rfl, rfl⟩
        case round =>
          obtain ⟨k, hk, rfl, rfl, rfl⟩ := hrel
          have hkl := csteps_lt k hxl
          by_cases hk8 : k < 8
          · have hs : csteps (k + 1) X = cstep (csteps k X) := rfl
            have HS := hide hs
            clear hs
            generalize csteps k X = Y at hkl HS
            have HL := hide hkl
            clear hkl hxl hx hl hfin h00 hcap hb hc hcell hn hf
            go_wp2
            · rename_i hbit
              go_roundw
              case rel => exact ⟨k + 1, by omega, cs_1 HS.out HL.out hbit, by simp, trivial⟩
              case measure => simp; omega
            · rename_i hbit
              go_roundw
              case rel => exact ⟨k + 1, by omega, cs_0 HS.out HL.out hbit, by simp, trivial⟩
              case measure => simp; omega
          · have hk9 : ¬ ((k : Int) < 8) := by omega
            have HX2 : Hid (csteps k X = crcN f (i + 1)) := hide (by rw [HX.out, show k = 8 by omega])
            generalize csteps k X = Y at HX2 hkl
            clear HX
            go_wp2
            go_roundw
            case rel => exact ⟨i + 1, by omega, by rw [HX2.out], by simp, trivial⟩
            case measure => simp; omega
      · obtain rfl : i = n := by omega
        have he := hfin _ hl
        go_wp2
        go_ret
        exact ⟨rfl, Below.refl _ _⟩

end Go.Proofs.Ytplfgfdlcfdfdaa
