import Derived.Test.YtcpeabchaimkaaaDoorCO
namespace Go.Proofs.YtcpeabchaimkaaaDoor
open Go Go.RowKit
set_option linter.unusedVariables false

/-- A reader's state: what is left, and whether it has run out. -/
abbrev St := List Int × Bool
def nm (k : Nat) (sg : Bool) (s : St) : Int × St := (numV sg (rdT k s.1), (rdD k s.1, rdS k s.1 s.2))
theorem rd_enc {k : Nat} {t r : List Int} (h : t.length = k) : rdT k (t ++ r) = t ∧ rdD k (t ++ r) = r ∧ ∀ sh, rdS k (t ++ r) sh = sh := by
  have hl : k ≤ (t ++ r).length := by rw [List.length_append]; omega
  refine ⟨?_, ?_, fun sh => ?_⟩
  · rw [rdT, if_pos hl, ← h, List.take_left]
  · rw [rdD, if_pos hl, ← h, List.drop_left]
  · rw [rdS, if_pos hl]
theorem nm_enc {k : Nat} {sg sh : Bool} {v : Int} {r : List Int} : nm k sg (u64n v k ++ r, sh) = (numV sg (u64n v k), (r, sh)) := by
  obtain ⟨h1, h2, h3⟩ := rd_enc (k := k) (t := u64n v k) (r := r) (u64n_len v k)
  simp only [nm, h1, h2, h3]
theorem nm_flag {sg sh : Bool} {b : Bool} {r : List Int} : nm 1 sg ([flagI b] ++ r, sh) = (flagI b, (r, sh)) := by
  obtain ⟨h1, h2, h3⟩ := rd_enc (k := 1) (t := [flagI b]) (r := r) rfl
  simp only [nm, h1, h2, h3]
  have : numV sg [flagI b] = flagI b := by
    rw [numV, if_neg (by simp)]
    cases b <;> simp [leV, flagI, wrap64]
  rw [this]
theorem num1 {v : Int} (h : 0 ≤ v ∧ v ≤ 255) (sg : Bool) : numV sg (u64n v 1) = v := by
  rw [numV, if_neg (by rw [u64n_len]; omega), u64n, le1, IntKind.wrap_u64]
  unfold wrap64
  omega
theorem num2 {v : Int} (h : 0 ≤ v ∧ v ≤ 65535) (sg : Bool) : numV sg (u64n v 2) = v := by
  rw [numV, if_neg (by rw [u64n_len]; omega), u64n, le2, IntKind.wrap_u64]
  unfold wrap64
  omega
theorem num4 {v : Int} (h : 0 ≤ v ∧ v ≤ 4294967295) : numV false (u64n v 4) = v := by
  rw [numV, if_neg (by simp), u64n, le4, IntKind.wrap_u64]
  unfold wrap64
  omega
theorem num4s {v : Int} (h : -2147483648 ≤ v ∧ v ≤ 2147483647) : numV true (u64n v 4) = v := by
  have e : leV (u64n v 4) = v % 4294967296 := by
    rw [u64n, le4, IntKind.wrap_u64]
    omega
  rw [numV, e, u64n_len]
  by_cases h0 : 0 ≤ v
  · rw [if_neg (by omega)]
    unfold wrap64
    omega
  · rw [if_pos ⟨rfl, rfl, by omega⟩]
    omega
theorem num8 {v : Int} (h : -9223372036854775808 ≤ v ∧ v ≤ 9223372036854775807) (sg : Bool) : numV sg (u64n v 8) = v := by
  rw [numV, if_neg (by rw [u64n_len]; omega), u64n, le8, IntKind.wrap_u64]
  unfold wrap64
  omega
theorem num8b {v : Int} (h : 0 ≤ v ∧ v < 18446744073709551616) (sg : Bool) : IntKind.u64.wrap (numV sg (u64n (wrap64 v) 8)) = v := by
  rw [numV, if_neg (by rw [u64n_len]; omega), u64n, le8, w64_eq, w64_eq]
  omega

/-- Upvalues, as they are read. -/
def dUps : Nat → St → List (Bool × Int) × St
  | 0, s => ([], s)
  | n + 1, s => if s.2 = true then ([], s) else
    (((nm 1 false s).1 != 0, (nm 1 false (nm 1 false s).2).1) :: (dUps n (nm 1 false (nm 1 false s).2).2).1, (dUps n (nm 1 false (nm 1 false s).2).2).2)
theorem flag_ne (b : Bool) : (flagI b != 0) = b := by cases b <;> simp [flagI]
theorem joinL_cons (F : Nat → List Int) (n : Nat) : joinL F (n + 1) = F 0 ++ joinL (fun k => F (k + 1)) n := by
  simp [joinL, List.range_succ_eq_map, List.flatMap_map]
theorem dUps_enc (n : Nat) : ∀ (u0 : Nat → Bool) (u1 : Nat → Int) (r : List Int), (∀ k, k < n → 0 ≤ u1 k ∧ u1 k ≤ 255) → dUps n (joinL (fun k => [flagI (u0 k)] ++ u64n (u1 k) 1) n ++ r, false) = ((List.range n).map (fun k => (u0 k, u1 k)), (r, false)) := by
  induction n with
  | zero => intro u0 u1 r _; simp [dUps, joinL]
  | succ n ih =>
    intro u0 u1 r h
    have e := ih (fun k => u0 (k + 1)) (fun k => u1 (k + 1)) r (fun k hk => h (k + 1) (by omega))
    rw [joinL_cons, List.append_assoc, List.append_assoc, dUps, if_neg (by simp), nm_flag, nm_enc, e, num1 (h 0 (by omega)), flag_ne]
    simp [List.range_succ_eq_map]

end Go.Proofs.YtcpeabchaimkaaaDoor
namespace Go.Proofs.YtcpeabchaimkaaaDoor
open Go Go.RowKit
set_option linter.unusedVariables false

theorem nm_one {sg sh : Bool} {x : Int} {r : List Int} (h : 0 ≤ x ∧ x ≤ 255) : nm 1 sg ([x] ++ r, sh) = (x, (r, sh)) := by
  obtain ⟨h1, h2, h3⟩ := rd_enc (k := 1) (t := [x]) (r := r) rfl
  simp only [nm, h1, h2, h3]
  have : numV sg [x] = x := by
    rw [numV, if_neg (by simp)]
    simp only [leV]
    unfold wrap64
    omega
  rw [this]
/-- A constant, as it is read: its kind, integer, word and bytes. -/
def dCon (s : St) : (Int × Int × Int × List Int) × St :=
  if (nm 1 false s).1 = 4 then (((nm 1 false s).1, (nm 8 false (nm 1 false s).2).1, 0, []), (nm 8 false (nm 1 false s).2).2)
  else if (nm 1 false s).1 = 5 then (((nm 1 false s).1, 0, IntKind.u64.wrap (nm 8 false (nm 1 false s).2).1, []), (nm 8 false (nm 1 false s).2).2)
  else (((nm 1 false s).1, 0, 0, rdT (nm 4 false (nm 1 false s).2).1.toNat (nm 4 false (nm 1 false s).2).2.1),
    (rdD (nm 4 false (nm 1 false s).2).1.toNat (nm 4 false (nm 1 false s).2).2.1, rdS (nm 4 false (nm 1 false s).2).1.toNat (nm 4 false (nm 1 false s).2).2.1 (nm 4 false (nm 1 false s).2).2.2))
def dCons : Nat → St → List (Int × Int × Int × List Int) × St
  | 0, s => ([], s)
  | n + 1, s => if s.2 = true then ([], s) else ((dCon s).1 :: (dCons n (dCon s).2).1, (dCons n (dCon s).2).2)
/-- An instruction with its line, as it is read. -/
def dIn (s : St) : (Int × Int × Int × Int × Int) × St :=
  (((nm 1 false s).1, (nm 1 false (nm 1 false s).2).1, (nm 4 true (nm 1 false (nm 1 false s).2).2).1, (nm 4 true (nm 4 true (nm 1 false (nm 1 false s).2).2).2).1, (nm 4 false (nm 4 true (nm 4 true (nm 1 false (nm 1 false s).2).2).2).2).1),
    (nm 4 false (nm 4 true (nm 4 true (nm 1 false (nm 1 false s).2).2).2).2).2)
def dIns : Nat → St → List (Int × Int × Int × Int × Int) × St
  | 0, s => ([], s)
  | n + 1, s => if s.2 = true then ([], s) else ((dIn s).1 :: (dIns n (dIn s).2).1, (dIns n (dIn s).2).2)

theorem dCon_enc {p : PV} {k : Nat} {r : List Int} (hp : constOk (p.c0 k) (p.c1 k) (p.c2 k) (p.c3 k)) (rp : -9223372036854775808 ≤ p.c1 k ∧ p.c1 k ≤ 9223372036854775807) (bp : 0 ≤ p.c2 k ∧ p.c2 k < 18446744073709551616) :
    dCon (coL p k ++ r, false) = ((p.c0 k, p.c1 k, p.c2 k, txL (p.c3 k)), (r, false)) := by
  have hE : txL ByteArray.empty = [] := rfl
  rcases hp with ⟨k1, x2, x3⟩ | ⟨k1, x1, x3, -⟩ | ⟨k1, x1, x2, x3⟩
  · have e : coL p k ++ r = [4] ++ (u64n (p.c1 k) 8 ++ r) := by rw [coL, k1, if_pos rfl, List.append_assoc]; rfl
    rw [e, dCon, nm_one (by omega), if_pos rfl, nm_enc, num8 rp, k1, x2, empty_of x3, hE]
  · have e : coL p k ++ r = [5] ++ (u64n (wrap64 (p.c2 k)) 8 ++ r) := by rw [coL, k1, if_neg (by omega), if_pos rfl, List.append_assoc]; rfl
    rw [e, dCon, nm_one (by omega), if_neg (by omega), if_pos rfl, nm_enc, num8b bp, k1, x1, empty_of x3, hE]
  · have e : coL p k ++ r = [6] ++ (u64n (p.c3 k).size 4 ++ (txL (p.c3 k) ++ r)) := by rw [coL, k1, if_neg (by omega), if_neg (by omega), List.append_assoc, List.append_assoc]; rfl
    obtain ⟨h1, h2, h3⟩ := rd_enc (k := (p.c3 k).size) (t := txL (p.c3 k)) (r := r) (txL_len _)
    rw [e, dCon, nm_one (by omega), if_neg (by omega), if_neg (by omega), nm_enc, num4 (by omega)]
    simp only [Int.toNat_natCast, h1, h2, h3]
    rw [k1, x1, x2]
theorem dCons_enc (n : Nat) : ∀ (p : PV) (j : Nat) (r : List Int), (∀ k, k < n → constOk (p.c0 (j + k)) (p.c1 (j + k)) (p.c2 (j + k)) (p.c3 (j + k)) ∧ (-9223372036854775808 ≤ p.c1 (j + k) ∧ p.c1 (j + k) ≤ 9223372036854775807) ∧ (0 ≤ p.c2 (j + k) ∧ p.c2 (j + k) < 18446744073709551616)) →
    dCons n (joinL (fun k => coL p (j + k)) n ++ r, false) = ((List.range n).map (fun k => (p.c0 (j + k), p.c1 (j + k), p.c2 (j + k), txL (p.c3 (j + k)))), (r, false)) := by
  induction n with
  | zero => intro p j r _; simp [dCons, joinL]
  | succ n ih =>
    intro p j r h
    have e := ih p (j + 1) r (fun k hk => by have := h (k + 1) (by omega); rwa [show j + (k + 1) = j + 1 + k by omega] at this)
    obtain ⟨h1, h2, h3⟩ := h 0 (by omega)
    have ej : (fun k => coL p (j + (k + 1))) = fun k => coL p (j + 1 + k) := funext fun k => by rw [show j + (k + 1) = j + 1 + k by omega]
    rw [joinL_cons, ej, List.append_assoc, dCons, if_neg (by simp), dCon_enc h1 h2 h3, e]
    simp only [List.range_succ_eq_map, List.map_cons, List.map_map]
    congr 2
    refine List.map_congr_left fun k _ => ?_
    simp only [Function.comp, Nat.succ_eq_add_one]
    rw [show j + (k + 1) = j + 1 + k by omega]
theorem dIn_enc {p : PV} {k : Nat} {r : List Int} (hp : insOk (p.i0 k) (p.i1 k) (p.i2 k) (p.i3 k) (p.l0 k)) : dIn (inL p k ++ r, false) = ((p.i0 k, p.i1 k, p.i2 k, p.i3 k, p.l0 k), (r, false)) := by
  obtain ⟨⟨a0, a1, a2, a3⟩, a4⟩ := hp
  have a4' := inI_of a4
  simp only [inL, List.append_assoc, dIn, nm_enc]
  rw [num1 (inI_of a0), num1 (inI_of a1), num4s (inI_of a2), num4s (inI_of a3), num4 (by omega)]
theorem dIns_enc (n : Nat) : ∀ (p : PV) (j : Nat) (r : List Int), (∀ k, k < n → insOk (p.i0 (j + k)) (p.i1 (j + k)) (p.i2 (j + k)) (p.i3 (j + k)) (p.l0 (j + k))) →
    dIns n (joinL (fun k => inL p (j + k)) n ++ r, false) = ((List.range n).map (fun k => (p.i0 (j + k), p.i1 (j + k), p.i2 (j + k), p.i3 (j + k), p.l0 (j + k))), (r, false)) := by
  induction n with
  | zero => intro p j r _; simp [dIns, joinL]
  | succ n ih =>
    intro p j r h
    have e := ih p (j + 1) r (fun k hk => by have := h (k + 1) (by omega); rwa [show j + (k + 1) = j + 1 + k by omega] at this)
    have h1 := h 0 (by omega)
    have ej : (fun k => inL p (j + (k + 1))) = fun k => inL p (j + 1 + k) := funext fun k => by rw [show j + (k + 1) = j + 1 + k by omega]
    rw [joinL_cons, ej, List.append_assoc, dIns, if_neg (by simp), dIn_enc h1, e]
    simp only [List.range_succ_eq_map, List.map_cons, List.map_map]
    congr 2
    refine List.map_congr_left fun k _ => ?_
    simp only [Function.comp, Nat.succ_eq_add_one]
    rw [show j + (k + 1) = j + 1 + k by omega]

end Go.Proofs.YtcpeabchaimkaaaDoor
