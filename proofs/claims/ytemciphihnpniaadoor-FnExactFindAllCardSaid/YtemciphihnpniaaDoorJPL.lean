import Derived.Test.YtemciphihnpniaaDoorPD
namespace Go.Proofs.YtemciphihnpniaaDoor
open Go Go.RowKit
set_option linter.unusedVariables false

/-- A set of bytes in memory. -/
def SetF (w : World) (g : Nat) (f : Nat → Bool) : Prop := RowF w 4 g 256 (fun j => .bool (f j))
theorem SetF.put {w : World} {g : Nat} {f : Nat → Bool} (h : SetF w g f) {j : Nat} (hj : j < 256) : SetF (w.setCell ⟨g, j, none⟩ (.bool true)) g (fun c => f c || decide (c = j)) :=
  (RowF.set h hj (.bool true)).congr fun i hi => by
    by_cases e : i = j
    · simp [e]
    · simp [e]
theorem SetF.congr {w : World} {g : Nat} {f f' : Nat → Bool} (h : SetF w g f) (hf : ∀ j, j < 256 → f j = f' j) : SetF w g f' := RowF.congr h fun j hj => by rw [hf j hj]
set_option maxHeartbeats 4000000 in
set_option maxRecDepth 100000 in
theorem escape_up (g : Nat) (f : Nat → Bool) (k : Int) (w : World) (h0 : 0 ≤ k) (h1 : k < 256) (hu : 65 ≤ k ∧ k ≤ 90) (h : SetF w g f) :
    Calls Tryd.prog 59 #[.slice (some ⟨g, 0, none⟩) 256 256, .int .u8 k] w fun e w' => e = .returned (.bool (escOk k)) ∧ Keeps w w' (fun b => b = g) ∧ (escOk k = true → SetF w' g (fun c => f c || escIn k c)) := by
  have HR := hide h
  clear h
  have hL : lowK k = k + 32 := by unfold lowK; rw [if_pos hu]
  have HZ := hide (show escOk k = (clsIs (k + 32) || (!isLow (k + 32) && !isDg k)) by unfold escOk; rw [hL])
  have HI := hide (show ∀ c : Int, escIn k c = if clsIs (k + 32) then !cls (k + 32) c else decide (c = k) by
    intro c
    unfold escIn
    rw [hL]
    split
    · rw [decide_eq_false (show ¬ (k + 32 = k) by omega)]; cases cls (k + 32) c <;> rfl
    · rfl)
  clear hL
  obtain ⟨kn, rfl⟩ := Int.eq_ofNat_of_zero_le h0
  have hu1 : 65 ≤ (kn : Int) := hu.1
  have hu2 : (kn : Int) ≤ 90 := hu.2
  clear hu; have hne : ((kn : Int) + 32 == (kn : Int)) = false := beq_eq_false_iff_ne.2 (by omega)
  go_enter Tryd.func59, Tryd.ntmps59
  go_wp2_with fail
  refine (class_any _ 0 w (by omega) (by omega)).mono ?_
  rintro e w1 ⟨rfl, rfl⟩
  cases hc : clsIs ((kn : Int) + 32) with
  | false =>
    rw [hc] at HZ HI
    have c0 := RowF.cell HR.out (j := kn) (by omega)
    have z0 := RowF.frz HR.out kn
    have HS := hide (SetF.put HR.out (j := kn) (by omega))
    have HK := hide ((Keeps.refl w1 (fun b => b = g)).setCell (g := g) (j := kn) rfl (.bool true))
    go_wp2_with fail
    all_goals
      refine bodyPost_ret (v := .bool (escOk (kn : Int))) ?_ rfl ⟨rfl, HK.out, fun _ => HS.out.congr fun j hj => ?_⟩
      · rw [HZ.out]
        simp [results, Tryd.results59, go_sem, isLow, isDg]
        all_goals try (rw [Bool.eq_iff_iff]; simp)
        all_goals omega
      · rw [HI.out, if_neg (by simp), show decide ((j : Int) = (kn : Int)) = decide (j = kn) from decide_eq_decide.2 (by omega)]
  | true =>
    rw [hc] at HZ HI
    go_wp2_with fail
    go_loopw [8] (fun cv wr => ∃ i : Nat, i ≤ 256 ∧ cv = .int .i64 i ∧ Hid (SetF wr g (fun c => f c || (decide (c < i) && escIn kn c))) ∧ Hid (Keeps w1 wr (fun b => b = g))) (fun cv _ => 256 - ivN cv)
    case atStart => exact ⟨0, by omega, rfl, hide (HR.out.congr fun j hj => by simp), hide (Keeps.refl _ _)⟩
    case round =>
      obtain ⟨i, hi9, rfl, HRw, HKw⟩ := hrel
      by_cases hin : i < 256
      · go_wp2_with fail
        refine (class_any _ (i : Int) wr (by omega) (by omega)).mono ?_
        rintro e w2 ⟨rfl, rfl⟩
        have HIi := hide (HI.out (i : Int))
        cases hq : cls ((kn : Int) + 32) (i : Int) with
        | true =>
          rw [hq] at HIi
          have HN := hide (HRw.out.congr (f' := fun c => f c || (decide (c < i + 1) && escIn kn c)) fun j hj => by
            by_cases e : j = i
            · subst e; rw [HIi.out]; simp
            · simp [show (j < i + 1) = (j < i) by simp; omega])
          clear HRw
          go_wp2_with fail
          go_roundw
          case rel => exact ⟨i + 1, by omega, by simp, HN, HKw⟩
          case measure => show 256 - ivN (.int .i64 _) < 256 - ivN (.int .i64 _); simp [ivN]; omega
        | false =>
          rw [hq] at HIi
          have c0 := RowF.cell HRw.out (j := i) (by omega)
          have z0 := RowF.frz HRw.out i
          have HN := hide ((SetF.put HRw.out (j := i) (by omega)).congr (f' := fun c => f c || (decide (c < i + 1) && escIn kn c)) fun j hj => by
            by_cases e : j = i
            · subst e; rw [HIi.out]; simp
            · simp [e, show (j < i + 1) = (j < i) by simp; omega])
          have HK2 := hide (HKw.out.setCell (S := fun b => b = g) (g := g) (j := i) rfl (.bool true))
          clear HRw HKw
          go_wp2_with fail
          go_roundw
          case rel => exact ⟨i + 1, by omega, by simp, HN, HK2⟩
          case measure => show 256 - ivN (.int .i64 _) < 256 - ivN (.int .i64 _); simp [ivN]; omega
      · obtain rfl : i = 256 := by omega
        go_wp2_with fail
        refine bodyPost_ret (v := .bool (escOk (kn : Int))) ?_ rfl ⟨rfl, HKw.out, fun _ => HRw.out.congr fun j hj => by simp [hj]⟩
        rw [HZ.out]
        simp [results, Tryd.results59, go_sem]
set_option maxHeartbeats 4000000 in
set_option maxRecDepth 100000 in
theorem escape_lo (g : Nat) (f : Nat → Bool) (k : Int) (w : World) (h0 : 0 ≤ k) (h1 : k < 256) (hu : ¬ (65 ≤ k)) (h : SetF w g f) :
    Calls Tryd.prog 59 #[.slice (some ⟨g, 0, none⟩) 256 256, .int .u8 k] w fun e w' => e = .returned (.bool (escOk k)) ∧ Keeps w w' (fun b => b = g) ∧ (escOk k = true → SetF w' g (fun c => f c || escIn k c)) := by
  have HR := hide h
  clear h
  have hL : lowK k = k := by unfold lowK; rw [if_neg (by omega)]
  have HZ := hide (show escOk k = (clsIs (k) || (!isLow (k) && !isDg k)) by unfold escOk; rw [hL])
  have HI := hide (show ∀ c : Int, escIn k c = if clsIs (k) then cls k c else decide (c = k) by
    intro c
    unfold escIn
    rw [hL]
    split
    · rw [decide_eq_true rfl]; cases cls k c <;> rfl
    · rfl)
  clear hL
  obtain ⟨kn, rfl⟩ := Int.eq_ofNat_of_zero_le h0
  go_enter Tryd.func59, Tryd.ntmps59
  go_wp2_with fail
  refine (class_any _ 0 w (by omega) (by omega)).mono ?_
  rintro e w1 ⟨rfl, rfl⟩
  cases hc : clsIs ((kn : Int)) with
  | false =>
    rw [hc] at HZ HI
    have c0 := RowF.cell HR.out (j := kn) (by omega)
    have z0 := RowF.frz HR.out kn
    have HS := hide (SetF.put HR.out (j := kn) (by omega))
    have HK := hide ((Keeps.refl w1 (fun b => b = g)).setCell (g := g) (j := kn) rfl (.bool true))
    go_wp2_with fail
    all_goals
      refine bodyPost_ret (v := .bool (escOk (kn : Int))) ?_ rfl ⟨rfl, HK.out, fun _ => HS.out.congr fun j hj => ?_⟩
      · rw [HZ.out]
        simp [results, Tryd.results59, go_sem, isLow, isDg]
        all_goals try (rw [Bool.eq_iff_iff]; simp)
        all_goals omega
      · rw [HI.out, if_neg (by simp), show decide ((j : Int) = (kn : Int)) = decide (j = kn) from decide_eq_decide.2 (by omega)]
  | true =>
    rw [hc] at HZ HI
    go_wp2_with fail
    go_loopw [8] (fun cv wr => ∃ i : Nat, i ≤ 256 ∧ cv = .int .i64 i ∧ Hid (SetF wr g (fun c => f c || (decide (c < i) && escIn kn c))) ∧ Hid (Keeps w1 wr (fun b => b = g))) (fun cv _ => 256 - ivN cv)
    case atStart => exact ⟨0, by omega, rfl, hide (HR.out.congr fun j hj => by simp), hide (Keeps.refl _ _)⟩
    case round =>
      obtain ⟨i, hi9, rfl, HRw, HKw⟩ := hrel
      by_cases hin : i < 256
      · go_wp2_with fail
        refine (class_any _ (i : Int) wr (by omega) (by omega)).mono ?_
        rintro e w2 ⟨rfl, rfl⟩
        have HIi := hide (HI.out (i : Int))
        cases hq : cls ((kn : Int)) (i : Int) with
        | false =>
          rw [hq] at HIi
          have HN := hide (HRw.out.congr (f' := fun c => f c || (decide (c < i + 1) && escIn kn c)) fun j hj => by
            by_cases e : j = i
            · subst e; rw [HIi.out]; simp
            · simp [show (j < i + 1) = (j < i) by simp; omega])
          clear HRw
          go_wp2_with fail
          go_roundw
          case rel => exact ⟨i + 1, by omega, by simp, HN, HKw⟩
          case measure => show 256 - ivN (.int .i64 _) < 256 - ivN (.int .i64 _); simp [ivN]; omega
        | true =>
          rw [hq] at HIi
          have c0 := RowF.cell HRw.out (j := i) (by omega)
          have z0 := RowF.frz HRw.out i
          have HN := hide ((SetF.put HRw.out (j := i) (by omega)).congr (f' := fun c => f c || (decide (c < i + 1) && escIn kn c)) fun j hj => by
            by_cases e : j = i
            · subst e; rw [HIi.out]; simp
            · simp [e, show (j < i + 1) = (j < i) by simp; omega])
          have HK2 := hide (HKw.out.setCell (S := fun b => b = g) (g := g) (j := i) rfl (.bool true))
          clear HRw HKw
          go_wp2_with fail
          go_roundw
          case rel => exact ⟨i + 1, by omega, by simp, HN, HK2⟩
          case measure => show 256 - ivN (.int .i64 _) < 256 - ivN (.int .i64 _); simp [ivN]; omega
      · obtain rfl : i = 256 := by omega
        go_wp2_with fail
        refine bodyPost_ret (v := .bool (escOk (kn : Int))) ?_ rfl ⟨rfl, HKw.out, fun _ => HRw.out.congr fun j hj => by simp [hj]⟩
        rw [HZ.out]
        simp [results, Tryd.results59, go_sem]
set_option maxHeartbeats 4000000 in
set_option maxRecDepth 100000 in
theorem escape_hi (g : Nat) (f : Nat → Bool) (k : Int) (w : World) (h0 : 0 ≤ k) (h1 : k < 256) (hu : ¬ (k ≤ 90)) (h : SetF w g f) :
    Calls Tryd.prog 59 #[.slice (some ⟨g, 0, none⟩) 256 256, .int .u8 k] w fun e w' => e = .returned (.bool (escOk k)) ∧ Keeps w w' (fun b => b = g) ∧ (escOk k = true → SetF w' g (fun c => f c || escIn k c)) := by
  have HR := hide h
  clear h
  have hL : lowK k = k := by unfold lowK; rw [if_neg (by omega)]
  have HZ := hide (show escOk k = (clsIs (k) || (!isLow (k) && !isDg k)) by unfold escOk; rw [hL])
  have HI := hide (show ∀ c : Int, escIn k c = if clsIs (k) then cls k c else decide (c = k) by
    intro c
    unfold escIn
    rw [hL]
    split
    · rw [decide_eq_true rfl]; cases cls k c <;> rfl
    · rfl)
  clear hL
  obtain ⟨kn, rfl⟩ := Int.eq_ofNat_of_zero_le h0
  have hu1 : 65 ≤ (kn : Int) := by omega
  go_enter Tryd.func59, Tryd.ntmps59
  go_wp2_with fail
  refine (class_any _ 0 w (by omega) (by omega)).mono ?_
  rintro e w1 ⟨rfl, rfl⟩
  cases hc : clsIs ((kn : Int)) with
  | false =>
    rw [hc] at HZ HI
    have c0 := RowF.cell HR.out (j := kn) (by omega)
    have z0 := RowF.frz HR.out kn
    have HS := hide (SetF.put HR.out (j := kn) (by omega))
    have HK := hide ((Keeps.refl w1 (fun b => b = g)).setCell (g := g) (j := kn) rfl (.bool true))
    go_wp2_with fail
    all_goals
      refine bodyPost_ret (v := .bool (escOk (kn : Int))) ?_ rfl ⟨rfl, HK.out, fun _ => HS.out.congr fun j hj => ?_⟩
      · rw [HZ.out]
        simp [results, Tryd.results59, go_sem, isLow, isDg]
        all_goals try (rw [Bool.eq_iff_iff]; simp)
        all_goals omega
      · rw [HI.out, if_neg (by simp), show decide ((j : Int) = (kn : Int)) = decide (j = kn) from decide_eq_decide.2 (by omega)]
  | true =>
    rw [hc] at HZ HI
    go_wp2_with fail
    go_loopw [8] (fun cv wr => ∃ i : Nat, i ≤ 256 ∧ cv = .int .i64 i ∧ Hid (SetF wr g (fun c => f c || (decide (c < i) && escIn kn c))) ∧ Hid (Keeps w1 wr (fun b => b = g))) (fun cv _ => 256 - ivN cv)
    case atStart => exact ⟨0, by omega, rfl, hide (HR.out.congr fun j hj => by simp), hide (Keeps.refl _ _)⟩
    case round =>
      obtain ⟨i, hi9, rfl, HRw, HKw⟩ := hrel
      by_cases hin : i < 256
      · go_wp2_with fail
        refine (class_any _ (i : Int) wr (by omega) (by omega)).mono ?_
        rintro e w2 ⟨rfl, rfl⟩
        have HIi := hide (HI.out (i : Int))
        cases hq : cls ((kn : Int)) (i : Int) with
        | false =>
          rw [hq] at HIi
          have HN := hide (HRw.out.congr (f' := fun c => f c || (decide (c < i + 1) && escIn kn c)) fun j hj => by
            by_cases e : j = i
            · subst e; rw [HIi.out]; simp
            · simp [show (j < i + 1) = (j < i) by simp; omega])
          clear HRw
          go_wp2_with fail
          go_roundw
          case rel => exact ⟨i + 1, by omega, by simp, HN, HKw⟩
          case measure => show 256 - ivN (.int .i64 _) < 256 - ivN (.int .i64 _); simp [ivN]; omega
        | true =>
          rw [hq] at HIi
          have c0 := RowF.cell HRw.out (j := i) (by omega)
          have z0 := RowF.frz HRw.out i
          have HN := hide ((SetF.put HRw.out (j := i) (by omega)).congr (f' := fun c => f c || (decide (c < i + 1) && escIn kn c)) fun j hj => by
            by_cases e : j = i
            · subst e; rw [HIi.out]; simp
            · simp [e, show (j < i + 1) = (j < i) by simp; omega])
          have HK2 := hide (HKw.out.setCell (S := fun b => b = g) (g := g) (j := i) rfl (.bool true))
          clear HRw HKw
          go_wp2_with fail
          go_roundw
          case rel => exact ⟨i + 1, by omega, by simp, HN, HK2⟩
          case measure => show 256 - ivN (.int .i64 _) < 256 - ivN (.int .i64 _); simp [ivN]; omega
      · obtain rfl : i = 256 := by omega
        go_wp2_with fail
        refine bodyPost_ret (v := .bool (escOk (kn : Int))) ?_ rfl ⟨rfl, HKw.out, fun _ => HRw.out.congr fun j hj => by simp [hj]⟩
        rw [HZ.out]
        simp [results, Tryd.results59, go_sem]
theorem escape_any (g : Nat) (f : Nat → Bool) (k : Int) (w : World) (h0 : 0 ≤ k) (h1 : k < 256) (h : SetF w g f) :
    Calls Tryd.prog 59 #[.slice (some ⟨g, 0, none⟩) 256 256, .int .u8 k] w fun e w' => e = .returned (.bool (escOk k)) ∧ Keeps w w' (fun b => b = g) ∧ (escOk k = true → SetF w' g (fun c => f c || escIn k c)) := by
  by_cases hu : 65 ≤ k ∧ k ≤ 90
  · exact escape_up g f k w h0 h1 hu h
  · by_cases hv : 65 ≤ k
    · exact escape_hi g f k w h0 h1 (by omega) h
    · exact escape_lo g f k w h0 h1 hv h

end Go.Proofs.YtemciphihnpniaaDoor
namespace Go.Proofs.YtemciphihnpniaaDoor
open Go Go.RowKit
set_option linter.unusedVariables false

theorem Keeps.drewN {w w' : World} {S : Nat → Prop} (h : Keeps w w' S) (n : Nat) : Keeps w (w'.drewN n) S := ⟨h.os, h.tape, h.output, h.size, h.block⟩
theorem SetF.keep {w w' : World} {g : Nat} {f : Nat → Bool} {S : Nat → Prop} (h : SetF w g f) (k : Keeps w w' S) (hn : ¬ S g) : SetF w' g f := RowF.keep h k hn
theorem Tryd.info4 : (Tryd.prog.info? 4).map (fun i => (i.zero, i.size, i.bytes)) = some (some (.bool false), 1, 1) := by kernel_rfl
/-- A list that was just made. -/
theorem made_row {w : World} {B T g n : Nat} {z : Value} (hz : z.cells = #[z]) (h : w.ownsRow B T 1 (.slice (some ⟨g, 0, none⟩) n n) n (madeCells z.cells (n * 1)).toList) : RowF w T g n (fun _ => z) := by
  have h1 := rowF_owns h
  rw [Nat.mul_one] at h1
  refine h1.congr fun j hj => ?_
  rw [hz, toList_madeCells_one]
  simp [List.getD_eq_getElem?_getD, hj]

/-- The document's reader in block R: the pattern, the place, whether it isn't right, and its three lists. -/
def rcells (p : ByteArray) (at_ : Nat) (bad : Bool) (vi vo vd : Value) : Nat → Value
  | 0 => .string p
  | 1 => .int .i64 at_
  | 2 => .bool bad
  | 3 => vi
  | 4 => vo
  | _ => vd
def RdB (w : World) (R : Nat) (p : ByteArray) (at_ : Nat) (bad : Bool) (vi vo vd : Value) : Prop := RowF w 81 R 6 (rcells p at_ bad vi vo vd)
theorem RdB.keep {w w' : World} {R : Nat} {p : ByteArray} {at_ : Nat} {bad : Bool} {vi vo vd : Value} {S : Nat → Prop} (h : RdB w R p at_ bad vi vo vd) (k : Keeps w w' S) (hn : ¬ S R) : RdB w' R p at_ bad vi vo vd := RowF.keep h k hn
theorem RdB.pos {w : World} {R : Nat} {p : ByteArray} {at_ at' : Nat} {bad : Bool} {vi vo vd : Value} (h : RdB w R p at_ bad vi vo vd) : RdB (w.setCell ⟨R, 1, none⟩ (.int .i64 at')) R p at' bad vi vo vd :=
  (RowF.set h (j := 1) (by omega) _).congr fun j hj => by
    rcases j with _ | _ | _ | _ | _ | j
    all_goals simp [rcells]
theorem RdB.isBad {w : World} {R : Nat} {p : ByteArray} {at_ : Nat} {bad : Bool} {vi vo vd : Value} (h : RdB w R p at_ bad vi vo vd) : RdB (w.setCell ⟨R, 2, none⟩ (.bool true)) R p at_ true vi vo vd :=
  (RowF.set h (j := 2) (by omega) _).congr fun j hj => by
    rcases j with _ | _ | _ | _ | _ | j
    all_goals simp [rcells]
theorem RdB.items {w : World} {R : Nat} {p : ByteArray} {at_ : Nat} {bad : Bool} {vi vo vd v : Value} (h : RdB w R p at_ bad vi vo vd) : RdB (w.setCell ⟨R, 3, none⟩ v) R p at_ bad v vo vd :=
  (RowF.set h (j := 3) (by omega) _).congr fun j hj => by
    rcases j with _ | _ | _ | _ | _ | j
    all_goals simp [rcells]
theorem RdB.opn {w : World} {R : Nat} {p : ByteArray} {at_ : Nat} {bad : Bool} {vi vo vd v : Value} (h : RdB w R p at_ bad vi vo vd) : RdB (w.setCell ⟨R, 4, none⟩ v) R p at_ bad vi v vd :=
  (RowF.set h (j := 4) (by omega) _).congr fun j hj => by
    rcases j with _ | _ | _ | _ | _ | j
    all_goals simp [rcells]
theorem RdB.don {w : World} {R : Nat} {p : ByteArray} {at_ : Nat} {bad : Bool} {vi vo vd v : Value} (h : RdB w R p at_ bad vi vo vd) : RdB (w.setCell ⟨R, 5, none⟩ v) R p at_ bad vi vo v :=
  (RowF.set h (j := 5) (by omega) _).congr fun j hj => by
    rcases j with _ | _ | _ | _ | _ | j
    all_goals simp [rcells]
    all_goals omega

set_option maxHeartbeats 800000 in
set_option maxRecDepth 100000 in
theorem here_any (R : Nat) (p : ByteArray) (at_ d : Nat) (bad : Bool) (vi vo vd : Value) (w : World) (ha : at_ ≤ 100000) (hd : d ≤ 10) (hs : p.size ≤ 100000) (h : RdB w R p at_ bad vi vo vd) :
    Calls Tryd.prog 43 #[.pointer (some ⟨R, 0, none⟩), .int .i64 d] w fun e w' => e = .returned (.tuple #[.int .u8 (hb p (at_ + d)), .bool (decide (at_ + d < p.size))]) ∧ Keeps w w' (fun _ => False) := by
  have c0 : w.cell? ⟨R, 0, none⟩ = some (.string p) := RowF.cell h (j := 0) (by omega)
  have c1 : w.cell? ⟨R, 1, none⟩ = some (.int .i64 at_) := RowF.cell h (j := 1) (by omega)
  clear h
  by_cases hin : at_ + d < p.size
  · have hx : ∀ w' : World, (Instr.index 9 (.string p) (.int .i64 ((at_ : Int) + (d : Int)))).run Tryd.prog w' = .ok (.int .u8 (hb p (at_ + d))) w' := fun w' => by
      rw [idx_str p (i := (at_ : Int) + (d : Int)) w' (by omega) (by omega), show ((at_ : Int) + (d : Int)).toNat = at_ + d by omega]
    have hlt : (at_ : Int) + (d : Int) < (p.size : Int) := by omega
    rw [decide_eq_true hin]
    go_enter Tryd.func43, Tryd.ntmps43
    go_wp2
    go_quiet (fail)
    go_wp2
    go_quiet (fail)
    go_wp2
    refine bodyPost_ret (v := .tuple #[.int .u8 (hb p (at_ + d)), .bool true]) ?_ rfl ⟨rfl, ((Keeps.refl w _).drewN _).drewN _⟩
    simp [results, Tryd.results43, go_sem]
  · have hlt : ¬ ((at_ : Int) + (d : Int) < (p.size : Int)) := by omega
    rw [decide_eq_false hin, hb_out (by omega)]
    go_enter Tryd.func43, Tryd.ntmps43
    go_wp2
    go_quiet (fail)
    go_wp2
    refine bodyPost_ret (v := .tuple #[.int .u8 0, .bool false]) ?_ rfl ⟨rfl, (Keeps.refl w _).drewN _⟩
    simp [results, Tryd.results43, go_sem]

end Go.Proofs.YtemciphihnpniaaDoor
namespace Go.Proofs.YtemciphihnpniaaDoor
open Go Go.RowKit
set_option linter.unusedVariables false

theorem ret_b {a b : Bool} (h : a = b) : Ending.returned (.bool a) = .returned (.bool b) := by rw [h]
theorem ret_i {a b : Int} (h : a = b) : Ending.returned (.int .i64 a) = .returned (.int .i64 b) := by rw [h]
abbrev nilS : Value := .slice none 0 0
/-- An item's cells; u.2 is its set's value. -/
def itC (u : It × Value) : List Value := [.int .i64 u.1.kind, u.2, .int .u8 u.1.sign, .int .i64 u.1.n, .int .u8 u.1.x, .int .u8 u.1.y]
def itsC (us : List (It × Value)) : List Value := us.flatMap itC
def itF (us : List (It × Value)) (j : Nat) : Value := (itsC us).getD j (.bool false)
theorem itsC_len : ∀ us : List (It × Value), (itsC us).length = us.length * 6
  | [] => rfl
  | u :: us => by
    have := itsC_len us
    simp only [itsC, List.flatMap_cons, List.length_append, List.length_cons] at this ⊢
    rw [this]
    simp [itC]
    omega
theorem itF_at : ∀ {us : List (It × Value)} {k : Nat} {u : It × Value}, us[k]? = some u → ∀ j, j < 6 → itF us (k * 6 + j) = (itC u).getD j (.bool false)
  | [], k, u, h, _, _ => by simp at h
  | x :: us, 0, u, h, j, hj => by
    obtain rfl : x = u := by simpa using h
    rw [itF, itsC, List.flatMap_cons, List.getD_eq_getElem?_getD, List.getElem?_append_left (by simp [itC]; omega), List.getD_eq_getElem?_getD, Nat.zero_mul, Nat.zero_add]
  | x :: us, k + 1, u, h, j, hj => by
    have ih := itF_at (us := us) (k := k) (u := u) (by simpa using h) j hj
    rw [itF, itsC, List.flatMap_cons, List.getD_eq_getElem?_getD, List.getElem?_append_right (by simp [itC]; omega)]
    rw [itF, itsC, List.getD_eq_getElem?_getD] at ih
    rw [← ih]
    congr 2
    simp [itC]
    omega
/-- The set of an item in memory. -/
def SetV (w : World) (u : It × Value) : Prop := (u.2 = nilS ∧ u.1.kind ≠ 0 ∧ u.1.kind ≠ 6) ∨ ∃ g, u.2 = .slice (some ⟨g, 0, none⟩) 256 256 ∧ SetF w g u.1.set

/-- The cells of a matching. -/
def mcells (s : ByteArray) (vi vp : Value) (st : Bool) (vf vt : Value) (n : Nat) : Nat → Value
  | 0 => .string s
  | 1 => vi
  | 2 => vp
  | 3 => .bool st
  | 4 => vf
  | 5 => vt
  | _ => .int .i64 n
/-- A matching under way, in block M. -/
structure MS (w : World) (M : Nat) (s : ByteArray) (t : Pt) (us : List (It × Value)) (vi vp vf vt : Value) (σ : Ms) : Prop where
  m : RowF w 61 M 7 (mcells s vi vp t.start vf vt σ.steps)
  i : SlF w 83 6 vi us.length (itF us)
  p : SlF w 4 1 vp t.caps (fun j => .bool (t.place j))
  f : SlF w 3 1 vf t.caps (fun j => .int .i64 (σ.fr j))
  t : SlF w 3 1 vt t.caps (fun j => .int .i64 (σ.tt j))
  a : ∀ g, vf.ownBlock = some g → vt.ownBlock ≠ some g
  s : ∀ u ∈ us, SetV w u
/-- What matching writes. -/
def MW (M : Nat) (vf vt : Value) : Nat → Prop := fun b => b = M ∨ vf.ownBlock = some b ∨ vt.ownBlock = some b
section
variable {w w' : World} {M : Nat} {s : ByteArray} {t : Pt} {us : List (It × Value)} {vi vp vf vt : Value} {σ : Ms}
theorem SetV.keep {u : It × Value} {S : Nat → Prop} (h : SetV w u) (k : Keeps w w' S) (hn : ∀ g, SetF w g u.1.set → ¬ S g) : SetV w' u := by
  rcases h with h | ⟨g, h1, h2⟩
  · exact .inl h
  · exact .inr ⟨g, h1, h2.keep k (hn g h2)⟩
theorem MS.low (h : MS w M s t us vi vp vf vt σ) (k : Keeps w w' (fun _ => False)) : MS w' M s t us vi vp vf vt σ :=
  ⟨h.m.keep k (fun x => x), h.i.keep k (fun _ _ x => x), h.p.keep k (fun _ _ x => x), h.f.keep k (fun _ _ x => x), h.t.keep k (fun _ _ x => x), h.a, fun u hu => (h.s u hu).keep k (fun _ _ x => x)⟩
theorem MS.set (h : MS w M s t us vi vp vf vt σ) {u : It × Value} (hu : u ∈ us) (hk : u.1.kind = 0 ∨ u.1.kind = 6) : ∃ g, u.2 = .slice (some ⟨g, 0, none⟩) 256 256 ∧ SetF w g u.1.set := by
  rcases h.s u hu with ⟨_, h1, h2⟩ | h1
  · omega
  · exact h1
theorem MS.stat (h : MS w M s t us vi vp vf vt σ) (k : Keeps w w' (MW M vf vt)) : SlF w' 83 6 vi us.length (itF us) ∧ SlF w' 4 1 vp t.caps (fun j => .bool (t.place j)) ∧ ∀ u ∈ us, SetV w' u := by
  refine ⟨h.i.keep k ?_, h.p.keep k ?_, fun u hu => (h.s u hu).keep k ?_⟩
  · rintro b hb (rfl | hv | hv)
    · exact (h.i.own hb).apart h.m (by decide) rfl
    · exact (h.i.own hb).apart (h.f.own hv) (by decide) rfl
    · exact (h.i.own hb).apart (h.t.own hv) (by decide) rfl
  · rintro b hb (rfl | hv | hv)
    · exact (h.p.own hb).apart h.m (by decide) rfl
    · exact (h.p.own hb).apart (h.f.own hv) (by decide) rfl
    · exact (h.p.own hb).apart (h.t.own hv) (by decide) rfl
  · rintro g hg (rfl | hv | hv)
    · exact RowF.apart hg h.m (by decide) rfl
    · exact RowF.apart hg (h.f.own hv) (by decide) rfl
    · exact RowF.apart hg (h.t.own hv) (by decide) rfl
theorem MS.step (h : MS w M s t us vi vp vf vt σ) (n : Nat) : MS (w.setCell ⟨M, 6, none⟩ (.int .i64 n)) M s t us vi vp vf vt { σ with steps := n } := by
  have k : Keeps w (w.setCell ⟨M, 6, none⟩ (.int .i64 n)) (fun b => b = M) := (Keeps.refl w (fun b => b = M)).setCell (S := fun b => b = M) (j := 6) rfl _
  obtain ⟨h1, h2, h3⟩ := h.stat (k.mono (fun b hb => .inl hb))
  refine ⟨(h.m.set (j := 6) (by omega) _).congr fun j hj => ?_, h1, h2, h.f.pastG k h.m (by decide), h.t.pastG k h.m (by decide), h.a, h3⟩
  rcases j with _ | _ | _ | _ | _ | _ | _ | j
  all_goals simp [mcells]
  all_goals omega
theorem MS.kstep (n : Nat) : Keeps w (w.setCell ⟨M, 6, none⟩ (.int .i64 n)) (MW M vf vt) := (Keeps.refl w _).setCell (S := MW M vf vt) (j := 6) (.inl rfl) _
theorem SlF.slot {T n : Nat} {v : Value} {f : Nat → Value} (h : SlF w T 1 v n f) {j : Nat} (hj : j < n) : ∃ g cap, v = .slice (some ⟨g, 0, none⟩) n cap ∧ v.ownBlock = some g ∧ RowF w T g n f := by
  obtain ⟨a, cap, rfl, h1, ⟨rfl, h2⟩ | ⟨g, rfl, h3⟩⟩ := h
  · omega
  · exact ⟨g, cap, rfl, rfl, by rw [Nat.mul_one] at h3; exact h3⟩
theorem SlF.upd {T n : Nat} {v : Value} {f f' : Nat → Value} {g j : Nat} {x : Value} (h : SlF w T 1 v n f) (hv : v.ownBlock = some g) (hj : j < n) (hf : ∀ i, i < n → (if i = j then x else f i) = f' i) : SlF (w.setCell ⟨g, j, none⟩ x) T 1 v n f' := by
  have h3 := h.own hv
  obtain ⟨a, cap, rfl, h1, ⟨rfl, h2⟩ | ⟨g', rfl, _⟩⟩ := h
  · omega
  · have e : g' = g := by simpa [Value.ownBlock] using hv
    subst e
    exact ⟨_, cap, rfl, h1, .inr ⟨g', rfl, (h3.set (j := j) (by omega) x).congr fun i hi => hf i (by omega)⟩⟩
theorem MS.setF (h : MS w M s t us vi vp vf vt σ) {g j : Nat} (hv : vf.ownBlock = some g) (hj : j < t.caps) (v : Nat) : MS (w.setCell ⟨g, j, none⟩ (.int .i64 v)) M s t us vi vp vf vt { σ with fr := upd σ.fr j v } := by
  have k : Keeps w (w.setCell ⟨g, j, none⟩ (.int .i64 v)) (fun b => b = g) := (Keeps.refl w (fun b => b = g)).setCell (S := fun b => b = g) (j := j) rfl _
  obtain ⟨h1, h2, h3⟩ := h.stat (k.mono (fun b hb => .inr (.inl (by rw [hb]; exact hv))))
  refine ⟨h.m.keep k (fun e => h.m.apart (h.f.own hv) (by decide) e), h1, h2, h.f.upd hv hj (fun i hi => ?_), h.t.keep k (fun b hb e => h.a g hv (by rw [← e]; exact hb)), h.a, h3⟩
  by_cases e : i = j <;> simp [e, Go.Proofs.YtemciphihnpniaaDoor.upd]
theorem MS.setT (h : MS w M s t us vi vp vf vt σ) {g j : Nat} (hv : vt.ownBlock = some g) (hj : j < t.caps) (v : Nat) : MS (w.setCell ⟨g, j, none⟩ (.int .i64 v)) M s t us vi vp vf vt { σ with tt := upd σ.tt j v } := by
  have k : Keeps w (w.setCell ⟨g, j, none⟩ (.int .i64 v)) (fun b => b = g) := (Keeps.refl w (fun b => b = g)).setCell (S := fun b => b = g) (j := j) rfl _
  obtain ⟨h1, h2, h3⟩ := h.stat (k.mono (fun b hb => .inr (.inr (by rw [hb]; exact hv))))
  refine ⟨h.m.keep k (fun e => h.m.apart (h.t.own hv) (by decide) e), h1, h2, h.f.keep k (fun b hb e => h.a b hb (by rw [e]; exact hv)), h.t.upd hv hj (fun i hi => ?_), h.a, h3⟩
  by_cases e : i = j <;> simp [e, Go.Proofs.YtemciphihnpniaaDoor.upd]
end

set_option maxHeartbeats 800000 in
set_option maxRecDepth 100000 in
theorem has_any (M : Nat) (s : ByteArray) (fm : Nat → Value) (g : Nat) (f : Nat → Bool) (at_ : Nat) (w : World) (ha : at_ ≤ 1000000) (hs : s.size ≤ 65536) (hm : RowF w 61 M 7 fm) (h0 : fm 0 = .string s) (h : SetF w g f) :
    Calls Tryd.prog 46 #[.pointer (some ⟨M, 0, none⟩), .int .i64 at_, .slice (some ⟨g, 0, none⟩) 256 256] w fun e w' => e = .returned (.bool (has s f at_)) ∧ w' = w := by
  have c0 : w.cell? ⟨M, 0, none⟩ = some (.string s) := by rw [← h0]; exact RowF.cell hm (j := 0) (by omega)
  clear hm h0
  by_cases hin : at_ < s.size
  · have hx : ∀ w' : World, (Instr.index 9 (.string s) (.int .i64 (at_ : Int))).run Tryd.prog w' = .ok (.int .u8 (hb s at_)) w' := fun w' => by
      rw [idx_str s (i := (at_ : Int)) w' (by omega) (by omega), Int.toNat_natCast]
    have hlt : (at_ : Int) < (s.size : Int) := by omega
    have b0 := (hb_rng s at_).1
    have b1 := (hb_rng s at_).2
    have c1 := RowF.cell h (j := (hb s at_).toNat) (by omega)
    have HH := hide (show has s f at_ = f (hb s at_).toNat by rw [has, decide_eq_true hin]; rfl)
    clear h
    go_enter Tryd.func46, Tryd.ntmps46
    go_wp2_with fail
    go_ret
    exact ⟨ret_b HH.out.symm, rfl⟩
  · have hlt : ¬ ((at_ : Int) < (s.size : Int)) := by omega
    have HH := hide (show has s f at_ = false by rw [has, decide_eq_false hin]; rfl)
    clear h
    go_enter Tryd.func46, Tryd.ntmps46
    go_wp2_with fail
    go_ret
    exact ⟨ret_b HH.out.symm, rfl⟩
set_option maxHeartbeats 800000 in
set_option maxRecDepth 100000 in
theorem spent_any (M : Nat) (fm : Nat → Value) (n : Nat) (w : World) (hm : RowF w 61 M 7 fm) (h0 : fm 6 = .int .i64 n) :
    Calls Tryd.prog 17 #[.pointer (some ⟨M, 0, none⟩)] w fun e w' => e = .returned (.bool (decide (50000 < n))) ∧ w' = w := by
  have c0 : w.cell? ⟨M, 6, none⟩ = some (.int .i64 n) := by rw [← h0]; exact RowF.cell hm (j := 6) (by omega)
  clear hm h0
  go_enter Tryd.func17, Tryd.ntmps17
  go_wp2_with fail
  go_ret
  exact ⟨ret_b (decide_eq_decide.2 (by omega)), rfl⟩
theorem MS.spentC {w : World} {M : Nat} {s : ByteArray} {t : Pt} {us : List (It × Value)} {vi vp vf vt : Value} {σ : Ms} (h : MS w M s t us vi vp vf vt σ) :
    Calls Tryd.prog 17 #[.pointer (some ⟨M, 0, none⟩)] w fun e w' => e = .returned (.bool σ.spent) ∧ w' = w := spent_any M _ σ.steps w h.m rfl
theorem MS.hasC {w : World} {M : Nat} {s : ByteArray} {t : Pt} {us : List (It × Value)} {vi vp vf vt : Value} {σ : Ms} (h : MS w M s t us vi vp vf vt σ) (hs : s.size ≤ 65536) {g : Nat} {f : Nat → Bool} (hg : SetF w g f) {at_ : Nat} (ha : at_ ≤ 1000000) :
    Calls Tryd.prog 46 #[.pointer (some ⟨M, 0, none⟩), .int .i64 at_, .slice (some ⟨g, 0, none⟩) 256 256] w fun e w' => e = .returned (.bool (has s f at_)) ∧ w' = w := has_any M s _ g f at_ w ha hs h.m rfl hg

end Go.Proofs.YtemciphihnpniaaDoor
