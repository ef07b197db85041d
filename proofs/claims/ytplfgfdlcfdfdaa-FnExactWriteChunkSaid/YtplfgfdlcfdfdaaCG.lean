import Derived.Test.YtplfgfdlcfdfdaaCF
import Derived.Below
import Derived.BigRegion
namespace Go.Proofs.Ytplfgfdlcfdfdaa
open Go Go.RowKit
set_option linter.unusedVariables false

/-- The digits of a number, ahead of what is there. -/
def mk10 : Nat → Nat → List UInt8 → List UInt8
  | 0, _, acc => acc
  | n + 1, k, acc => if k = 0 then acc else mk10 n (k / 10) ((48 + UInt8.ofNat (k % 10)) :: acc)
theorem mk10_zero (n : Nat) (acc : List UInt8) : mk10 n 0 acc = acc := by cases n <;> simp [mk10]
theorem mk10_fuel {n : Nat} : ∀ {m k : Nat} (acc : List UInt8), k ≤ n → k ≤ m → mk10 n k acc = mk10 m k acc := by
  induction n with
  | zero =>
    intro m k acc h1 h2
    obtain rfl : k = 0 := by omega
    rw [mk10_zero, mk10_zero]
  | succ n ih =>
    intro m k acc h1 h2
    cases m with
    | zero =>
      obtain rfl : k = 0 := by omega
      rw [mk10_zero, mk10_zero]
    | succ m =>
      unfold mk10
      split
      · rfl
      · exact ih _ (by omega) (by omega)
def mtx (k : Nat) : ByteArray := ⟨(109 :: mk10 k k []).toArray⟩

theorem one_byte (w : World) (x : Nat) (hx : x < 256) : (convert 26 9 (.slice (some ⟨w.heap.size, 0, none⟩) 1 1)).run Try.prog (w.alloc (.cells #[.int .u8 ((x : Nat) : Int)] 5)) = .ok (.string ⟨#[UInt8.ofNat x]⟩) (w.alloc (.cells #[.int .u8 ((x : Nat) : Int)] 5)) := by
  have e := run_convert_bytes_back (P := Try.prog) (w.alloc (.cells #[.int .u8 ((x : Nat) : Int)] 5)) 26 9 5 ⟨w.heap.size, 0, none⟩ 1 [UInt8.ofNat x] Try.underlying26 Try.underlying5 Try.underlying9 (fun j hj => by
    obtain rfl : j = 0 := by simpa using hj
    have : (UInt8.ofNat x).toNat = x := by simp; omega
    simp [Addr.add, this])
  exact e

set_option maxHeartbeats 3200000 in
set_option maxRecDepth 100000 in
theorem markText_any (k : Nat) (w : World) (hk : 1 ≤ k) (hk2 : k ≤ 100000000) :
    Calls Try.prog 65 #[.int .i64 k] w fun e w' => e = .returned (.string (mtx k)) ∧ Below w.heap.size w w' := by
  go_enter Try.func65, Try.ntmps65
  go_wp2
  go_loopw [0, 3] (fun kv ov wr => ∃ (j : Nat) (acc : List UInt8), kv = .int .i64 j ∧ ov = .string ⟨acc.toArray⟩ ∧ acc.length + j ≤ 100000000 ∧ Hid (mk10 j j acc = mk10 k k []) ∧ Below w.heap.size w wr) (fun kv _ _ => match kv with | .int _ x => x.toNat | _ => 0)
  case atStart => exact ⟨k, [], rfl, rfl, by simp; omega, hide rfl, Below.refl _ _⟩
  case round =>
    obtain ⟨j, acc, rfl, rfl, hj, HM, hbw⟩ := hrel
    by_cases h0 : j = 0
    · subst h0
      go_wp2
      refine bodyPost_ret (v := .string (mtx k)) ?_ rfl ⟨rfl, hbw⟩
      have hm := HM.out
      rw [mk10_zero] at hm
      unfold mtx
      rw [← hm]
      simp [results, Try.results65, go_sem]
      rfl
    · have hcv := one_byte wr (48 + j % 10) (by omega)
      rw [show (((48 + j % 10 : Nat)) : Int) = 48 + (j : Int) % 10 by omega] at hcv
      have hlow : Hid (Below w.heap.size w (wr.alloc (.cells #[.int .u8 (48 + (j : Int) % 10)] 5))) := hide (hbw.alloc hbw.size _)
      go_wp2
      go_roundw
      case rel =>
        refine ⟨j / 10, (48 + UInt8.ofNat (j % 10)) :: acc, by simp, rfl, by simp; omega, hide ?_, hlow.out⟩
        have hm := HM.out
        obtain ⟨i, rfl⟩ : ∃ i, j = i + 1 := ⟨j - 1, by omega⟩
        rw [← hm]
        conv => rhs; unfold mk10
        rw [if_neg h0]
        exact mk10_fuel _ (Nat.le_refl _) (by omega)
      case measure => show ((j : Int) / 10).toNat < ((j : Int)).toNat; omega
end Go.Proofs.Ytplfgfdlcfdfdaa
