import Derived.Test.YtcpeabchaimkaaaDoorJCT
import Derived.Test.YtcpeabchaimkaaaDoorJN2
import Derived.Test.YtcpeabchaimkaaaDoorM2
import Derived.WalkSmall
namespace Go.Proofs.YtcpeabchaimkaaaDoor
open Go Go.RowKit
set_option linter.unusedVariables false

/-- How reading ends where bytes can't be those of a file. -/
def PanE : Ending := .panicked [{ v := .iface 69 (.agg #[.int .i64 12]), recovered := false }]
def ReqR (b : Bool) (w : World) (e : Ending) (w' : World) : Prop := w' = w ∧ ((b = true ∧ e = .returned (.tuple #[])) ∨ (b = false ∧ e = PanE))

set_option maxHeartbeats 1600000 in
set_option maxRecDepth 100000 in
theorem require_any (v : Value) (b : Bool) (w : World) :
    Calls Tryd.prog 29 #[v, .bool b] w fun e w' => ReqR b w e w' := by
  cases b
  · go_enter Tryd.func29, Tryd.ntmps29
    go_wp2
    exact ⟨rfl, rfl, .inr ⟨rfl, rfl⟩⟩
  · go_enter Tryd.func29, Tryd.ntmps29
    go_wp2
    go_end0
    exact ⟨rfl, .inl ⟨rfl, rfl⟩⟩

theorem Keeps.cell {w w' : World} {S : Nat → Prop} (k : Keeps w w' S) {p : Addr} (hp : p.block < w.heap.size) (hn : ¬ S p.block) : w'.cell? p = w.cell? p := World.cell?_of_block (w := w) (k.block p.block hp hn)
/-- The program's reader in block R: what is left of the bytes. -/
def RdP (w : World) (R : Nat) (l : List Int) : Prop := (∃ v, RowF w 51 R 1 (fun _ => v) ∧ SlB w R v l) ∧ BytesL l ∧ l.length ≤ 9223372036854775807
theorem RdP.lt {w : World} {R : Nat} {l : List Int} (h : RdP w R l) : R < w.heap.size := by
  obtain ⟨⟨v, h1, _⟩, _⟩ := h
  exact h1.lt
theorem RdP.keep {w w' : World} {R : Nat} {l : List Int} {S : Nat → Prop} (h : RdP w R l) (k : Keeps w w' S) (hS : ∀ b, S b → R < b) : RdP w' R l := by
  obtain ⟨⟨v, h1, h2⟩, h3⟩ := h
  refine ⟨⟨v, h1.keep k (fun hs => by have := hS R hs; omega), ?_⟩, h3⟩
  rcases h2 with h2 | ⟨b, o, cap, rfl, h4, h5, h6⟩
  · exact .inl h2
  · exact .inr ⟨b, o, cap, rfl, h4, h5, fun j hj => (k.cell (p := ⟨b, o + j, none⟩) (by have := h1.lt; show b < _; omega) (fun hs => by have := hS b hs; omega)).trans (h6 j hj)⟩
def TakR (R n : Nat) (l : List Int) (w : World) (e : Ending) (w' : World) : Prop :=
  Keeps w w' (fun b => b = R) ∧ ((n ≤ l.length ∧ ∃ v', e = .returned v' ∧ SlB w' R v' (l.take n) ∧ RdP w' R (l.drop n)) ∨ (l.length < n ∧ e = PanE))

set_option maxHeartbeats 1600000 in
set_option maxRecDepth 100000 in
theorem take_any (R n : Nat) (l : List Int) (w : World) (hn : n ≤ 9223372036854775807) (h : RdP w R l) :
    Calls Tryd.prog 30 #[.pointer (some ⟨R, 0, none⟩), .int .i64 n] w fun e w' => TakR R n l w e w' := by
  obtain ⟨⟨v, hR, hS⟩, hBy, hl⟩ := h
  have c0 := hR.cell (j := 0) (by omega)
  have z0 := hR.frz 0
  have HR := hide hR
  have HS := hide hS
  have HBy := hide hBy
  clear hR hS hBy
  by_cases hle : n ≤ l.length
  · rcases HS.out with ⟨rfl, a, cap, rfl, ha⟩ | ⟨b, o, cap, rfl, hb, hcap, hc⟩
    · obtain rfl : n = 0 := by simpa using hle
      have HHR := hide (fun x => HR.out.set (j := 0) (by omega) x)
      have HHK := hide (fun x => (Keeps.refl w (fun b => b = R)).setCell (j := 0) rfl x)
      have HBn : Hid (BytesL ([] : List Int)) := HBy
      rcases a with _ | ⟨b, o, sp⟩
      · go_enter Tryd.func30, Tryd.ntmps30
        go_wp2_with fail
        refine (require_any _ _ _).mono ?_
        rintro e w1 ⟨hw, ⟨-, rfl⟩ | ⟨hq, -⟩⟩
        case inr => simp at hq
        obtain rfl := hw.symm
        go_wp2_with fail
        go_ret
        exact ⟨HHK.out _, .inl ⟨Nat.le_refl _, _, rfl, .inl ⟨rfl, _, _, rfl, fun x hx => by cases hx⟩, ⟨_, (HHR.out _).congr (fun j hj => by rw [if_pos (by omega)]), .inl ⟨rfl, _, _, rfl, fun x hx => by cases hx⟩⟩, HBn.out, by simp⟩⟩
      · obtain rfl : sp = none := ha _ rfl
        by_cases hc0 : cap = 0
        · subst hc0
          go_enter Tryd.func30, Tryd.ntmps30
          go_wp2_with fail
          refine (require_any _ _ _).mono ?_
          rintro e w1 ⟨hw, ⟨-, rfl⟩ | ⟨hq, -⟩⟩
          case inr => simp at hq
          obtain rfl := hw.symm
          go_wp2_with fail
          go_ret
          exact ⟨HHK.out _, .inl ⟨Nat.le_refl _, _, rfl, .inl ⟨rfl, _, _, rfl, fun x hx => by cases hx; rfl⟩, ⟨_, (HHR.out _).congr (fun j hj => by rw [if_pos (by omega)]), .inl ⟨rfl, _, _, rfl, fun x hx => by cases hx; rfl⟩⟩, HBn.out, by simp⟩⟩
        · go_enter Tryd.func30, Tryd.ntmps30
          go_wp2_with fail
          refine (require_any _ _ _).mono ?_
          rintro e w1 ⟨hw, ⟨-, rfl⟩ | ⟨hq, -⟩⟩
          case inr => simp at hq
          obtain rfl := hw.symm
          go_wp2_with fail
          go_ret
          exact ⟨HHK.out _, .inl ⟨Nat.le_refl _, _, rfl, .inl ⟨rfl, _, _, rfl, fun x hx => by cases hx; rfl⟩, ⟨_, (HHR.out _).congr (fun j hj => by rw [if_pos (by omega)]), .inl ⟨rfl, _, _, rfl, fun x hx => by cases hx; rfl⟩⟩, HBn.out, by simp⟩⟩
    · have HC := hide hc
      clear hc
      have i1 : (n : Int) ≤ (l.length : Int) := by omega
      have HB := fun x => (Below.refl R w).setCell (p := ⟨R, 0, none⟩) (Nat.le_refl _) x
      have HHB := hide HB
      have HHR := hide (fun x => HR.out.set (j := 0) (by omega) x)
      have HHK := hide (fun x => (Keeps.refl w (fun b => b = R)).setCell (j := 0) rfl x)
      have HBn : Hid (BytesL (l.drop n) ∧ (l.drop n).length ≤ 9223372036854775807) := hide ⟨fun x hx => HBy.out x (List.mem_of_mem_drop hx), by rw [List.length_drop]; omega⟩
      have HT := hide (show ∀ x, SlB (w.setCell ⟨R, 0, none⟩ x) R (.slice (some ⟨b, o, none⟩) n cap) (l.take n) from fun x => .inr ⟨b, o, cap, by rw [List.length_take, Nat.min_eq_left hle], hb, by rw [List.length_take]; omega, fun j hj => by
        rw [List.length_take] at hj
        rw [getD_take (by omega)]
        exact ((HHB.out x).cell (p := ⟨b, o + j, none⟩) hb).trans (HC.out j (by omega))⟩)
      clear HB
      by_cases hcn : cap = n
      · subst hcn
        have hln : l.length = cap := by omega
        have hd : l.drop cap = [] := List.drop_eq_nil_of_le (by omega)
        have HD := hide hd
        have HLn := hide hln
        clear hd hln
        go_enter Tryd.func30, Tryd.ntmps30
        go_wp2_with fail
        refine (require_any _ _ _).mono ?_
        rintro e w1 ⟨hw, ⟨-, rfl⟩ | ⟨hq, -⟩⟩
        case inr => simp at hq
        obtain rfl := hw.symm
        go_wp2_with fail
        go_ret
        refine ⟨HHK.out _, .inl ⟨HLn.out ▸ Nat.le_refl _, _, rfl, HT.out _, ⟨_, (HHR.out _).congr (fun j hj => by rw [if_pos (by omega)]), ?_⟩, HBn.out⟩⟩
        rw [HD.out]
        exact .inl ⟨rfl, some ⟨b, o, none⟩, 0, rfl, fun x hx => by cases hx; rfl⟩
      · have hcn' : ¬ cap - n = 0 := by omega
        go_enter Tryd.func30, Tryd.ntmps30
        go_wp2_with fail
        refine (require_any _ _ _).mono ?_
        rintro e w1 ⟨hw, ⟨-, rfl⟩ | ⟨hq, -⟩⟩
        case inr => simp at hq
        obtain rfl := hw.symm
        go_wp2_with fail
        go_ret
        refine ⟨HHK.out _, .inl ⟨by omega, _, rfl, HT.out _, ⟨_, (HHR.out _).congr (fun j hj => by rw [if_pos (by omega)]), .inr ⟨b, o + n, cap - n, by simp, hb, by simp; omega, fun j hj => ?_⟩⟩, HBn.out⟩⟩
        rw [List.length_drop] at hj
        rw [getD_drop, Nat.add_assoc]
        exact ((HHB.out _).cell (p := ⟨b, o + (n + j), none⟩) hb).trans (HC.out (n + j) (by omega))
  · have i2 : ¬ ((n : Int) ≤ (l.length : Int)) := by omega
    obtain ⟨a, cap, hv⟩ : ∃ a cap, v = .slice a l.length cap := by
      rcases HS.out with ⟨rfl, a, cap, rfl, _⟩ | ⟨b, o, cap, rfl, _⟩
      · exact ⟨_, _, rfl⟩
      · exact ⟨_, _, rfl⟩
    subst hv
    go_enter Tryd.func30, Tryd.ntmps30
    go_wp2_with fail
    refine (require_any _ _ _).mono ?_
    rintro e w1 ⟨hw, ⟨hq, -⟩ | ⟨-, rfl⟩⟩
    · simp at hq
    · subst hw
      exact ⟨rfl, Keeps.refl _ _, .inr ⟨by omega, rfl⟩⟩

end Go.Proofs.YtcpeabchaimkaaaDoor
namespace Go.Proofs.YtcpeabchaimkaaaDoor
open Go Go.RowKit
set_option linter.unusedVariables false

def NumR (R m : Nat) (l : List Int) (w : World) (e : Ending) (w' : World) : Prop :=
  Keeps w w' (fun b => b = R) ∧ ((m ≤ l.length ∧ e = .returned (.int .i64 (wrap64 (leV (l.take m)))) ∧ RdP w' R (l.drop m)) ∨ (l.length < m ∧ e = PanE))

theorem leV_snoc (l : List Int) (x : Int) : leV (l ++ [x]) = leV l + x * 2 ^ (8 * l.length) := by
  induction l with
  | nil => simp [leV]
  | cons y l ih =>
    rw [List.cons_append, leV, ih, leV, List.length_cons, show 8 * (l.length + 1) = 8 * l.length + 8 by omega, Int.pow_add]
    have : (2 : Int) ^ 8 = 256 := by decide
    rw [this]
    generalize (2 : Int) ^ (8 * l.length) = Z
    rw [Int.mul_add, ← Int.add_assoc]
    congr 1
    rw [Int.mul_comm x (Z * 256), Int.mul_comm Z 256, Int.mul_assoc, Int.mul_comm Z x]
theorem leV_take {t : List Int} {i : Nat} (h : i < t.length) : leV (t.take (i + 1)) = leV (t.take i) + t.getD i 0 * 2 ^ (8 * i) := by
  have e : t.take (i + 1) = t.take i ++ [t.getD i 0] := by
    rw [List.take_add_one, List.getElem?_eq_getElem h, List.getD_eq_getElem?_getD, List.getElem?_eq_getElem h]
    rfl
  rw [e, leV_snoc, List.length_take, Nat.min_eq_left (by omega)]
theorem toNat64 (x : Int) : (BitVec.ofInt 64 x).toNat = (x % 18446744073709551616).toNat := by
  rw [BitVec.toNat_ofInt]
  rfl
theorem wrap_nat64 (y : Nat) (h : y < 18446744073709551616) : (BitVec.ofInt 64 (wrap64 (y : Int))).toNat = y := by
  rw [toNat64]
  unfold wrap64
  omega
theorem or64n (a b Z : Nat) (hA : a < Z) (hZ : Z ≤ 72057594037927936) (hB : b ≤ 255) (hor : b * Z + a = b * Z ||| a) :
    bits .or .i64 (wrap64 (a : Int)) (wrap64 ((b * Z : Nat) : Int)) = wrap64 ((b * Z + a : Nat) : Int) := by
  have hbz : b * Z ≤ 255 * 72057594037927936 := Nat.mul_le_mul hB hZ
  have h1 := wrap_nat64 a (by omega)
  have h2 := wrap_nat64 (b * Z) (by omega)
  show IntKind.i64.wrap (((BitVec.ofInt 64 (wrap64 (a : Int))) ||| (BitVec.ofInt 64 (wrap64 ((b * Z : Nat) : Int)))).toNat) = _
  rw [BitVec.toNat_or, h1, h2, Nat.or_comm, ← hor, IntKind.wrap_i64]
  simp only [wrap64]
theorem or64 (A B : Int) (i : Nat) (hi : i ≤ 7) (hA0 : 0 ≤ A) (hA : A < 2 ^ (8 * i)) (hB0 : 0 ≤ B) (hB : B ≤ 255) :
    bits .or .i64 (wrap64 A) (wrap64 (B * 2 ^ (8 * i))) = wrap64 (A + B * 2 ^ (8 * i)) := by
  obtain ⟨a, rfl⟩ : ∃ a : Nat, A = a := ⟨A.toNat, by omega⟩
  obtain ⟨b, rfl⟩ : ∃ b : Nat, B = b := ⟨B.toNat, by omega⟩
  have hp : ((2 : Int) ^ (8 * i)) = ((2 ^ (8 * i) : Nat) : Int) := by simp
  have ha : a < 2 ^ (8 * i) := by rw [hp] at hA; exact Int.ofNat_lt.1 hA
  have hor := Nat.shiftLeft_add_eq_or_of_lt ha b
  rw [Nat.shiftLeft_eq] at hor
  have hle : 2 ^ (8 * i) ≤ 2 ^ 56 := Nat.pow_le_pow_right (by omega) (by omega)
  have := or64n a b (2 ^ (8 * i)) ha hle (by omega) hor
  rw [hp, ← Int.natCast_mul, this, ← Int.natCast_add, Nat.add_comm]

set_option maxHeartbeats 1600000 in
set_option maxRecDepth 100000 in
theorem pnum_any (R m : Nat) (l : List Int) (w : World) (hm : m ≤ 8) (h : RdP w R l) :
    Calls Tryd.prog 31 #[.pointer (some ⟨R, 0, none⟩), .int .i64 m] w fun e w' => NumR R m l w e w' := by
  have HR := hide h
  clear h
  go_enter Tryd.func31, Tryd.ntmps31
  go_wp2_with fail
  refine (take_any R m l w (by omega) HR.out).mono ?_
  rintro e w1 ⟨hk, ⟨hle, v', rfl, hs, hr⟩ | ⟨hlt, rfl⟩⟩
  case inr => exact ⟨rfl, hk, .inr ⟨hlt, rfl⟩⟩
  have HK := hide hk
  have HR1 := hide hr
  have HBt : Hid (BytesL (l.take m)) := hide (fun x hx => HR.out.2.1 x (List.mem_of_mem_take hx))
  have hlen : (l.take m).length = m := by rw [List.length_take]; omega
  have HL := hide hlen
  generalize ht : l.take m = t at *
  have HT := hide ht
  clear hk hr ht
  rcases hs with ⟨rfl, a, cap, rfl, _⟩ | ⟨b, o, cap, rfl, hb, hcap, hc⟩
  · obtain rfl : m = 0 := by simpa using hlen.symm
    go_wp2_with fail
    go_loopw [5, 12] (fun nv iv wr => nv = .int .i64 0 ∧ iv = .int .i64 0 ∧ wr = w1) (fun _ _ _ => 0)
    case atStart => exact ⟨rfl, rfl, rfl⟩
    case round =>
      obtain ⟨rfl, rfl, rfl⟩ := hrel
      go_wp2
      go_ret
      exact ⟨HK.out, .inl ⟨hle, by rw [HT.out]; simp [leV, wrap64], HR1.out⟩⟩
  · have HC := hide hc
    clear hc
    go_wp2_with fail
    go_loopw [5, 12] (fun nv iv wr => ∃ i : Nat, i ≤ m ∧ iv = .int .i64 i ∧ nv = .int .i64 (wrap64 (leV (t.take i))) ∧ wr = w1) (fun _ iv _ => match iv with | .int _ x => m - x.toNat | _ => 0)
    case atStart => exact ⟨0, by omega, rfl, by simp [leV, wrap64], rfl⟩
    case round =>
      obtain ⟨i, hi9, rfl, rfl, rfl⟩ := hrel
      by_cases hin : i < m
      · have c0 := HC.out i (by omega)
        have HStep : Hid (∀ B, B = t.getD i 0 → 0 ≤ B ∧ B ≤ 255 → bits .or .i64 (wrap64 (leV (t.take i))) (wrap64 (B * 2 ^ (8 * i))) = wrap64 (leV (t.take (i + 1)))) := hide (fun B hB hr => by
          have hlv := leV_lt (l := t.take i) (fun x hx => HBt.out x (List.mem_of_mem_take hx))
          rw [List.length_take, Nat.min_eq_left (by omega)] at hlv
          rw [leV_take (by omega), ← hB]
          exact or64 _ _ i (by omega) hlv.1 (by rw [Int.pow_mul]; exact hlv.2) hr.1 hr.2)
        have hb0 : 0 ≤ t.getD i 0 ∧ t.getD i 0 ≤ 255 := HBt.out _ (by rw [List.getD_eq_getElem?_getD, List.getElem?_eq_getElem (by omega)]; exact List.getElem_mem _)
        generalize hB : t.getD i 0 = B at *
        have HB0 := hide (HStep.out B rfl hb0)
        generalize wrap64 (leV (t.take i)) = N at HB0 ⊢
        clear HStep hB
        go_wp2
        go_roundw
        case rel => exact ⟨i + 1, by omega, by simp, by rw [HB0.out], trivial⟩
        case measure => simp; omega
      · obtain rfl : i = m := by omega
        have htk : t.take i = t := List.take_of_length_le (by omega)
        rw [htk]
        have HTk := hide htk
        clear htk
        go_wp2
        go_ret
        exact ⟨HK.out, .inl ⟨hle, by rw [HT.out]; rfl, HR1.out⟩⟩

end Go.Proofs.YtcpeabchaimkaaaDoor
