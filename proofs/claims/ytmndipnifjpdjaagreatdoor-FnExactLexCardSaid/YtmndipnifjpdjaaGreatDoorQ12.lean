import Derived.Test.YtmndipnifjpdjaaGreatDoorQ01
import Derived.Test.YtmndipnifjpdjaaGreatDoorQ11
import Derived.BigQuiet
import Derived.Deep.QuietTactic
import Derived.WalkSmall
namespace Go.Proofs.YtmndipnifjpdjaaGreatDoor
open Go Go.RowKit
set_option linter.unusedVariables false
def hb (s : ByteArray) (k : Nat) : Int := (bs s).getD k 0
theorem hb_in {s : ByteArray} {k : Nat} (h : k < s.size) : hb s k = ((s[k].toNat : Nat) : Int) := bs_getD h
theorem hb_out {s : ByteArray} {k : Nat} (h : s.size ≤ k) : hb s k = 0 := by
  unfold hb
  rw [List.getD_eq_getElem?_getD, List.getElem?_eq_none (by rw [bs_length]; exact h)]
  rfl
theorem hb_lt {s : ByteArray} {k : Nat} (h : hb s k ≠ 0) : k < s.size := by
  rcases Nat.lt_or_ge k s.size with g | g
  · exact g
  · exact absurd (hb_out g) h
theorem hb_rng (s : ByteArray) (k : Nat) : 0 ≤ hb s k ∧ hb s k < 256 := by
  rcases Nat.lt_or_ge k s.size with g | g
  · rw [hb_in g]
    have := (s[k]).toNat_lt
    omega
  · rw [hb_out g]; omega
def isLet (c : Int) : Bool := decide (97 ≤ c ∧ c ≤ 122) || decide (65 ≤ c ∧ c ≤ 90) || decide (c = 95)
def isBl (c : Int) : Bool := decide (c = 9) || decide (c = 10) || decide (c = 13) || decide (c = 32)
def isLD (c : Int) : Bool := isLet c || isDig c
def nlc (s : ByteArray) : Nat → Nat
  | 0 => 0
  | k + 1 => nlc s k + if hb s k = 10 then 1 else 0
theorem nlc_le (s : ByteArray) (k : Nat) : nlc s k ≤ k := by
  induction k with
  | zero => exact Nat.le_refl _
  | succ k ih => unfold nlc; split <;> omega
def fr (s : ByteArray) (p : Nat) : Nat → Int := fun j => hb s (p + j)
theorem hb_rest (s : ByteArray) (p : Nat) : hb (s.extract p s.size) = fr s p := by
  funext j
  unfold hb fr hb
  rw [bs_extract, List.take_of_length_le (by rw [List.length_drop, bs_length]; exact Nat.le_refl _), List.getD_eq_getElem?_getD, List.getElem?_drop, ← List.getD_eq_getElem?_getD]
theorem fr_zero (s : ByteArray) : fr s 0 = hb s := by
  funext j; unfold fr; rw [Nat.zero_add]
theorem hb_part (s : ByteArray) {a b j : Nat} (hb' : b ≤ s.size) (hj : a + j < b) : hb (s.extract a b) j = hb s (a + j) := by
  unfold hb
  rw [bs_extract, List.getD_eq_getElem?_getD, List.getD_eq_getElem?_getD, List.getElem?_take_of_lt (by omega), List.getElem?_drop]
theorem ext_ext (s : ByteArray) {p a b : Nat} (h : p + b ≤ s.size) : (s.extract p s.size).extract a b = s.extract (p + a) (p + b) := by
  apply ByteArray.ext
  rw [ByteArray.data_extract, ByteArray.data_extract, ByteArray.data_extract, Array.extract_extract]
  congr 1
  have : s.size = s.data.size := rfl
  omega
def RunP (P : Int → Bool) (f : Nat → Int) (q : Nat) : Prop := (∀ j, j < q → P (f j) = true) ∧ P (f q) = false
theorem RunP.unique {P : Int → Bool} {f : Nat → Int} {q q' : Nat} (h : RunP P f q) (h' : RunP P f q') : q = q' := by
  rcases Nat.lt_trichotomy q q' with g | g | g
  · have := h'.1 q g; rw [h.2] at this; cases this
  · exact g
  · have := h.1 q' g; rw [h'.2] at this; cases this
def LongOpen (f : Nat → Int) (n : Nat) : Prop := 1 ≤ n ∧ f 0 = 91 ∧ (∀ j, 1 ≤ j → j < n → f j = 61) ∧ f n = 91
def CloseAt (f : Nat → Int) (n c : Nat) : Prop := f c = 93 ∧ (∀ j, 1 ≤ j → j < n → f (c + j) = 61) ∧ f (c + n) = 93
def FirstClose (f : Nat → Int) (n c : Nat) : Prop := n + 1 ≤ c ∧ CloseAt f n c ∧ ∀ c', n + 1 ≤ c' → c' < c → ¬ CloseAt f n c'
def NoClose (f : Nat → Int) (n : Nat) : Prop := ∀ c', n + 1 ≤ c' → ¬ CloseAt f n c'
theorem LongOpen.unique {f : Nat → Int} {n n' : Nat} (h : LongOpen f n) (h' : LongOpen f n') : n = n' := by
  rcases Nat.lt_trichotomy n n' with g | g | g
  · have := h'.2.2.1 n h.1 g; rw [h.2.2.2] at this; omega
  · exact g
  · have := h.2.2.1 n' h'.1 g; rw [h'.2.2.2] at this; omega
theorem FirstClose.unique {f : Nat → Int} {n c c' : Nat} (h : FirstClose f n c) (h' : FirstClose f n c') : c = c' := by
  rcases Nat.lt_trichotomy c c' with g | g | g
  · exact absurd h.2.1 (h'.2.2 c h.1 g)
  · exact g
  · exact absurd h'.2.1 (h.2.2 c' h'.1 g)
theorem FirstClose.not {f : Nat → Int} {n c : Nat} (h : FirstClose f n c) : ¬ NoClose f n := fun g => g c h.1 h.2.1
def longFrom (f : Nat → Int) (n : Nat) : Nat := if f (n + 1) = 10 then n + 2 else n + 1
def simpleEsc (c : Int) : Option Int :=
  if c = 97 then some 7 else if c = 98 then some 8 else if c = 116 then some 9 else if c = 110 then some 10 else if c = 118 then some 11 else if c = 102 then some 12
  else if c = 114 then some 13 else if c = 92 then some 92 else if c = 34 then some 34 else if c = 39 then some 39 else if c = 10 then some 10 else none
def escF (f : Nat → Int) (n j : Nat) : Option (Int × Nat) :=
  if n ≤ j + 1 then none
  else if f (j + 1) = 120 then (if 0 ≤ hexVal (f (j + 2)) ∧ 0 ≤ hexVal (f (j + 3)) then some (16 * hexVal (f (j + 2)) + hexVal (f (j + 3)), 4) else none)
  else if isDig (f (j + 1)) = true then
    (if isDig (f (j + 2)) = true then
      (if isDig (f (j + 3)) = true then
        (if (f (j + 1) - 48) * 100 + (f (j + 2) - 48) * 10 + (f (j + 3) - 48) ≤ 255 then some ((f (j + 1) - 48) * 100 + (f (j + 2) - 48) * 10 + (f (j + 3) - 48), 4) else none)
      else some ((f (j + 1) - 48) * 10 + (f (j + 2) - 48), 3))
    else some (f (j + 1) - 48, 2))
  else (simpleEsc (f (j + 1))).map fun b => (b, 2)
inductive Quo (f : Nat → Int) (n : Nat) (qt : Int) : Nat → List Int → (List Int × Nat) ⊕ (Int × Nat) → Prop
  | close {j : Nat} {l : List Int} : j < n → f j = qt → Quo f n qt j l (.inl (l, j + 1))
  | open_ {j : Nat} {l : List Int} : (n ≤ j ∨ f j = 10) → Quo f n qt j l (.inr (3, 0))
  | esc {j : Nat} {l : List Int} {b : Int} {k : Nat} {r : (List Int × Nat) ⊕ (Int × Nat)} : j < n → f j = 92 → escF f n j = some (b, k) → Quo f n qt (j + k) (l ++ [b]) r → Quo f n qt j l r
  | badEsc {j : Nat} {l : List Int} : j < n → f j = 92 → escF f n j = none → Quo f n qt j l (.inr (4, j))
  | plain {j : Nat} {l : List Int} {r : (List Int × Nat) ⊕ (Int × Nat)} : j < n → f j ≠ qt → f j ≠ 10 → f j ≠ 92 → Quo f n qt (j + 1) (l ++ [f j]) r → Quo f n qt j l r
theorem Quo.unique {f : Nat → Int} {n : Nat} {qt : Int} (hq : qt = 34 ∨ qt = 39) {j : Nat} {l : List Int} {r r' : (List Int × Nat) ⊕ (Int × Nat)} (h : Quo f n qt j l r) : Quo f n qt j l r' → r = r' := by
  induction h with
  | close h1 h2 => intro h'; cases h' <;> first | rfl | (exfalso; omega)
  | open_ h1 => intro h'; cases h' <;> first | rfl | (exfalso; omega)
  | esc h1 h2 h3 h4 ih =>
    intro h'
    cases h' with
    | esc g1 g2 g3 g4 => rw [h3] at g3; cases g3; exact ih g4
    | badEsc g1 g2 g3 => rw [h3] at g3; cases g3
    | close g1 g2 => exfalso; omega
    | open_ g1 => exfalso; omega
    | plain g1 g2 g3 g4 g5 => exfalso; omega
  | badEsc h1 h2 h3 =>
    intro h'
    cases h' with
    | esc g1 g2 g3 g4 => rw [h3] at g3; cases g3
    | badEsc g1 g2 g3 => rfl
    | close g1 g2 => exfalso; omega
    | open_ g1 => exfalso; omega
    | plain g1 g2 g3 g4 g5 => exfalso; omega
  | plain h1 h2 h3 h4 h5 ih =>
    intro h'
    cases h' with
    | plain g1 g2 g3 g4 g5 => exact ih g5
    | esc g1 g2 g3 g4 => exfalso; omega
    | badEsc g1 g2 g3 => exfalso; omega
    | close g1 g2 => exfalso; omega
    | open_ g1 => exfalso; omega
def hexB (f : Nat → Int) : Bool := f 0 == 48 && (f 1 == 120 || f 1 == 88)
def okN (f : Nat → Int) (j : Nat) : Bool := isLD (f j) || f j == 46 || ((f j == 43 || f j == 45) && (decide (0 < j) && (f (j - 1) == 101 || f (j - 1) == 69)) && !hexB f)
def NumE (f : Nat → Int) (e : Nat) : Prop := (∀ j, j < e → okN f j = true) ∧ okN f e = false
theorem NumE.unique {f : Nat → Int} {q q' : Nat} (h : NumE f q) (h' : NumE f q') : q = q' := by
  rcases Nat.lt_trichotomy q q' with g | g | g
  · have := h'.1 q g; rw [h.2] at this; cases this
  · exact g
  · have := h.1 q' g; rw [h'.2] at this; cases this
def wordsL : List ByteArray := [⟨#[97, 110, 100]⟩, ⟨#[98, 114, 101, 97, 107]⟩, ⟨#[100, 111]⟩, ⟨#[101, 108, 115, 101]⟩, ⟨#[101, 108, 115, 101, 105, 102]⟩, ⟨#[101, 110, 100]⟩, ⟨#[102, 97, 108, 115, 101]⟩, ⟨#[102, 111, 114]⟩, ⟨#[102, 117, 110, 99, 116, 105, 111, 110]⟩, ⟨#[103, 111, 116, 111]⟩, ⟨#[105, 102]⟩, ⟨#[105, 110]⟩, ⟨#[108, 111, 99, 97, 108]⟩, ⟨#[110, 105, 108]⟩, ⟨#[110, 111, 116]⟩, ⟨#[111, 114]⟩, ⟨#[114, 101, 112, 101, 97, 116]⟩, ⟨#[114, 101, 116, 117, 114, 110]⟩, ⟨#[116, 104, 101, 110]⟩, ⟨#[116, 114, 117, 101]⟩, ⟨#[117, 110, 116, 105, 108]⟩, ⟨#[119, 104, 105, 108, 101]⟩]
def signsL : List ByteArray := [⟨#[43]⟩, ⟨#[45]⟩, ⟨#[42]⟩, ⟨#[47]⟩, ⟨#[37]⟩, ⟨#[94]⟩, ⟨#[35]⟩, ⟨#[38]⟩, ⟨#[126]⟩, ⟨#[124]⟩, ⟨#[60, 60]⟩, ⟨#[62, 62]⟩, ⟨#[47, 47]⟩, ⟨#[61, 61]⟩, ⟨#[126, 61]⟩, ⟨#[60, 61]⟩, ⟨#[62, 61]⟩, ⟨#[60]⟩, ⟨#[62]⟩, ⟨#[61]⟩, ⟨#[40]⟩, ⟨#[41]⟩, ⟨#[123]⟩, ⟨#[125]⟩, ⟨#[91]⟩, ⟨#[93]⟩, ⟨#[58, 58]⟩, ⟨#[59]⟩, ⟨#[58]⟩, ⟨#[44]⟩, ⟨#[46]⟩, ⟨#[46, 46]⟩, ⟨#[46, 46, 46]⟩]
def SignN (s : ByteArray) (p k : Nat) : Prop := k ≤ 3 ∧ (1 ≤ k → p + k ≤ s.size ∧ s.extract p (p + k) ∈ signsL) ∧ ∀ m, k < m → m ≤ 3 → p + m ≤ s.size → s.extract p (p + m) ∉ signsL
theorem SignN.unique {s : ByteArray} {p k k' : Nat} (h : SignN s p k) (h' : SignN s p k') : k = k' := by
  rcases Nat.lt_trichotomy k k' with g | g | g
  · obtain ⟨a, b⟩ := h'.2.1 (by omega)
    exact absurd b (h.2.2 k' g h'.1 a)
  · exact g
  · obtain ⟨a, b⟩ := h.2.1 (by omega)
    exact absurd b (h'.2.2 k g h.1 a)
open Classical in
noncomputable def wKind (t : ByteArray) : Int := if t ∈ wordsL then 2 else 1
structure Tk where
  kind : Int
  text : ByteArray
  int : Int
  bits : Int
def bytesOf (l : List Int) : ByteArray := ⟨(l.map fun c => c.toNat.toUInt8).toArray⟩
def numB (f : Nat → Int) : Bool := isDig (f 0) || (f 0 == 46 && isDig (f 1))
open Classical in
noncomputable def cls (f : Nat → Int) : Nat :=
  if isLet (f 0) = true then 1 else if numB f = true then 2 else if f 0 = 34 ∨ f 0 = 39 then 3 else if ∃ n, LongOpen f n then 4 else 5
inductive Rd (s : ByteArray) (p : Nat) : (Tk × Nat) ⊕ (Int × Nat) → Prop
  | name {q : Nat} : cls (fr s p) = 1 → RunP isLD (fr s p) q → Rd s p (.inl (⟨wKind (s.extract p (p + q)), s.extract p (p + q), 0, 0⟩, q))
  | num {e : Nat} {fl : Bool} {i b : Int} : cls (fr s p) = 2 → NumE (fr s p) e → PNR (s.extract p (p + e)) (.tuple #[numV fl i b, .bool true]) → Rd s p (.inl (⟨if fl = true then 4 else 3, ⟨#[]⟩, i, b⟩, e))
  | numBad {e : Nat} {fl : Bool} {i b : Int} : cls (fr s p) = 2 → NumE (fr s p) e → PNR (s.extract p (p + e)) (.tuple #[numV fl i b, .bool false]) → Rd s p (.inr (5, 0))
  | quo {l : List Int} {e : Nat} : cls (fr s p) = 3 → Quo (fr s p) (s.size - p) (hb s p) 1 [] (.inl (l, e)) → Rd s p (.inl (⟨5, bytesOf l, 0, 0⟩, e))
  | quoBad {c : Int} {o : Nat} : cls (fr s p) = 3 → Quo (fr s p) (s.size - p) (hb s p) 1 [] (.inr (c, o)) → Rd s p (.inr (c, o))
  | long {n c : Nat} : cls (fr s p) = 4 → LongOpen (fr s p) n → FirstClose (fr s p) n c → Rd s p (.inl (⟨5, s.extract (p + longFrom (fr s p) n) (p + c), 0, 0⟩, c + n + 1))
  | longBad {n : Nat} : cls (fr s p) = 4 → LongOpen (fr s p) n → NoClose (fr s p) n → Rd s p (.inr (6, 0))
  | sign {k : Nat} : cls (fr s p) = 5 → 1 ≤ k → SignN s p k → Rd s p (.inl (⟨6, s.extract p (p + k), 0, 0⟩, k))
  | signBad : cls (fr s p) = 5 → SignN s p 0 → Rd s p (.inr (2, 0))
theorem cls3 {f : Nat → Int} (h : cls f = 3) : f 0 = 34 ∨ f 0 = 39 := by
  unfold cls at h
  split at h
  · cases h
  · split at h
    · cases h
    · split at h
      · assumption
      · split at h <;> cases h
theorem Rd.unique {s : ByteArray} {p : Nat} {r r' : (Tk × Nat) ⊕ (Int × Nat)} (h : Rd s p r) (h' : Rd s p r') : r = r' := by
  cases h with
  | name h1 h2 =>
    cases h' with
    | name g1 g2 => rw [h2.unique g2]
    | _ => omega
  | num h1 h2 h3 =>
    cases h' with
    | num g1 g2 g3 =>
      obtain rfl := h2.unique g2
      have := h3.unique g3
      simp only [Value.tuple.injEq, numV] at this
      have := congrArg (fun a : Array Value => a.toList) this
      simp at this
      obtain ⟨e1, e2, e3⟩ := this
      subst e1 e2 e3
      rfl
    | numBad g1 g2 g3 =>
      obtain rfl := h2.unique g2
      have := h3.unique g3
      simp [numV] at this
    | _ => omega
  | numBad h1 h2 h3 =>
    cases h' with
    | numBad g1 g2 g3 => rfl
    | num g1 g2 g3 =>
      obtain rfl := h2.unique g2
      have := h3.unique g3
      simp [numV] at this
    | _ => omega
  | quo h1 h2 =>
    cases h' with
    | quo g1 g2 => have := h2.unique (by have := cls3 h1; simpa [fr] using this) g2; cases this; rfl
    | quoBad g1 g2 => have := h2.unique (by have := cls3 h1; simpa [fr] using this) g2; cases this
    | _ => omega
  | quoBad h1 h2 =>
    cases h' with
    | quo g1 g2 => have := h2.unique (by have := cls3 h1; simpa [fr] using this) g2; cases this
    | quoBad g1 g2 => have := h2.unique (by have := cls3 h1; simpa [fr] using this) g2; cases this; rfl
    | _ => omega
  | long h1 h2 h3 =>
    cases h' with
    | long g1 g2 g3 => obtain rfl := h2.unique g2; obtain rfl := h3.unique g3; rfl
    | longBad g1 g2 g3 => obtain rfl := h2.unique g2; exact absurd g3 h3.not
    | _ => omega
  | longBad h1 h2 h3 =>
    cases h' with
    | longBad g1 g2 g3 => rfl
    | long g1 g2 g3 => obtain rfl := h2.unique g2; exact absurd h3 g3.not
    | _ => omega
  | sign h1 h2 h3 =>
    cases h' with
    | sign g1 g2 g3 => rw [h3.unique g3]
    | signBad g1 g2 => have := h3.unique g2; omega
    | _ => omega
  | signBad h1 h2 =>
    cases h' with
    | signBad g1 g2 => rfl
    | sign g1 g2 g3 => have := h2.unique g3; omega
    | _ => omega
def ComE (f : Nat → Int) (n q : Nat) : Prop := q ≤ n ∧ (∀ j, 2 ≤ j → j < q → f j ≠ 10) ∧ (q = n ∨ f q = 10) ∧ 2 ≤ q
theorem ComE.unique {f : Nat → Int} {n q q' : Nat} (h : ComE f n q) (h' : ComE f n q') : q = q' := by
  rcases Nat.lt_trichotomy q q' with g | g | g
  · have a := h'.2.1 q h.2.2.2 g
    have b := h.2.2.1
    have c := h'.1
    exfalso
    rcases b with b | b
    · omega
    · exact a b
  · exact g
  · have a := h.2.1 q' h'.2.2.2 g
    have b := h'.2.2.1
    have c := h.1
    exfalso
    rcases b with b | b
    · omega
    · exact a b
def isCom (f : Nat → Int) : Prop := f 0 = 45 ∧ f 1 = 45
inductive Com (f : Nat → Int) (n : Nat) : Option Nat → Prop
  | line {q : Nat} : (¬ ∃ k, LongOpen (fun j => f (2 + j)) k) → ComE f n q → Com f n (some q)
  | long {k c : Nat} : LongOpen (fun j => f (2 + j)) k → FirstClose (fun j => f (2 + j)) k c → Com f n (some (2 + (c + k + 1)))
  | bad {k : Nat} : LongOpen (fun j => f (2 + j)) k → NoClose (fun j => f (2 + j)) k → Com f n none
theorem Com.unique {f : Nat → Int} {n : Nat} {r r' : Option Nat} (h : Com f n r) (h' : Com f n r') : r = r' := by
  cases h with
  | line h1 h2 =>
    cases h' with
    | line g1 g2 => rw [h2.unique g2]
    | long g1 g2 => exact absurd ⟨_, g1⟩ h1
    | bad g1 g2 => exact absurd ⟨_, g1⟩ h1
  | long h1 h2 =>
    cases h' with
    | line g1 g2 => exact absurd ⟨_, h1⟩ g1
    | long g1 g2 => obtain rfl := h1.unique g1; rw [h2.unique g2]
    | bad g1 g2 => obtain rfl := h1.unique g1; exact absurd g2 h2.not
  | bad h1 h2 =>
    cases h' with
    | line g1 g2 => exact absurd ⟨_, h1⟩ g1
    | long g1 g2 => obtain rfl := h1.unique g1; exact absurd h2 g2.not
    | bad g1 g2 => rfl
def addT (t : Tk × Nat) : List (Tk × Nat) ⊕ (Int × Nat) → List (Tk × Nat) ⊕ (Int × Nat)
  | .inl l => .inl (t :: l)
  | .inr f => .inr f
def preT (L : List (Tk × Nat)) : List (Tk × Nat) ⊕ (Int × Nat) → List (Tk × Nat) ⊕ (Int × Nat)
  | .inl l => .inl (L ++ l)
  | .inr f => .inr f
theorem preT_add (L : List (Tk × Nat)) (t : Tk × Nat) (r : List (Tk × Nat) ⊕ (Int × Nat)) : preT (L ++ [t]) r = preT L (addT t r) := by
  cases r <;> simp [preT, addT]
inductive LexR (s : ByteArray) : Nat → List (Tk × Nat) ⊕ (Int × Nat) → Prop
  | done : LexR s s.size (.inl [])
  | blank {p : Nat} {r : List (Tk × Nat) ⊕ (Int × Nat)} : p < s.size → isBl (hb s p) = true → LexR s (p + 1) r → LexR s p r
  | com {p q : Nat} {r : List (Tk × Nat) ⊕ (Int × Nat)} : p < s.size → isCom (fr s p) → Com (fr s p) (s.size - p) (some q) → LexR s (p + q) r → LexR s p r
  | comBad {p : Nat} : p < s.size → isCom (fr s p) → Com (fr s p) (s.size - p) none → LexR s p (.inr (6, p + 2))
  | tok {p k : Nat} {t : Tk} {r : List (Tk × Nat) ⊕ (Int × Nat)} : p < s.size → isBl (hb s p) = false → ¬ isCom (fr s p) → Rd s p (.inl (t, k)) → LexR s (p + k) r → LexR s p (addT (t, p) r)
  | bad {p o : Nat} {c : Int} : p < s.size → isBl (hb s p) = false → ¬ isCom (fr s p) → Rd s p (.inr (c, o)) → LexR s p (.inr (c, p + o))
theorem com_bl {s : ByteArray} {p : Nat} (h : isCom (fr s p)) : isBl (hb s p) = false := by
  have : hb s p = 45 := by simpa [fr] using h.1
  rw [this]
  rfl
theorem LexR.unique {s : ByteArray} {p : Nat} {r : List (Tk × Nat) ⊕ (Int × Nat)} (h : LexR s p r) : ∀ {r' : List (Tk × Nat) ⊕ (Int × Nat)}, LexR s p r' → r = r' := by
  induction h with
  | done =>
    intro r' h'
    generalize e : s.size = z at h'
    cases h' with
    | done => rfl
    | _ => omega
  | blank h1 h2 h3 ih =>
    intro r' h'
    cases h' with
    | done => omega
    | blank g1 g2 g3 => exact ih g3
    | com g1 g2 g3 g4 => rw [com_bl g2] at h2; cases h2
    | comBad g1 g2 g3 => rw [com_bl g2] at h2; cases h2
    | tok g1 g2 g3 g4 g5 => rw [g2] at h2; cases h2
    | bad g1 g2 g3 g4 => rw [g2] at h2; cases h2
  | com h1 h2 h3 h4 ih =>
    intro r' h'
    cases h' with
    | done => omega
    | blank g1 g2 g3 => rw [com_bl h2] at g2; cases g2
    | com g1 g2 g3 g4 => have := h3.unique g3; cases this; exact ih g4
    | comBad g1 g2 g3 => have := h3.unique g3; cases this
    | tok g1 g2 g3 g4 g5 => exact absurd h2 g3
    | bad g1 g2 g3 g4 => exact absurd h2 g3
  | comBad h1 h2 h3 =>
    intro r' h'
    cases h' with
    | done => omega
    | blank g1 g2 g3 => rw [com_bl h2] at g2; cases g2
    | com g1 g2 g3 g4 => have := h3.unique g3; cases this
    | comBad g1 g2 g3 => rfl
    | tok g1 g2 g3 g4 g5 => exact absurd h2 g3
    | bad g1 g2 g3 g4 => exact absurd h2 g3
  | tok h1 h2 h3 h4 h5 ih =>
    intro r' h'
    cases h' with
    | done => omega
    | blank g1 g2 g3 => rw [h2] at g2; cases g2
    | com g1 g2 g3 g4 => exact absurd g2 h3
    | comBad g1 g2 g3 => exact absurd g2 h3
    | tok g1 g2 g3 g4 g5 => have := h4.unique g4; cases this; rw [ih g5]
    | bad g1 g2 g3 g4 => have := h4.unique g4; cases this
  | bad h1 h2 h3 h4 =>
    intro r' h'
    cases h' with
    | done => omega
    | blank g1 g2 g3 => rw [h2] at g2; cases g2
    | com g1 g2 g3 g4 => exact absurd g2 h3
    | comBad g1 g2 g3 => exact absurd g2 h3
    | tok g1 g2 g3 g4 g5 => have := h4.unique g4; cases this
    | bad g1 g2 g3 g4 => have := h4.unique g4; cases this; rfl
def Fwd (s : ByteArray) (L : List (Tk × Nat)) (p : Nat) : Prop := ∀ r, LexR s p r → LexR s 0 (preT L r)
theorem Fwd.start (s : ByteArray) : Fwd s [] 0 := fun r h => by
  cases r <;> exact h
theorem Fwd.blank {s : ByteArray} {L : List (Tk × Nat)} {p : Nat} (h : Fwd s L p) (h1 : p < s.size) (h2 : isBl (hb s p) = true) : Fwd s L (p + 1) := fun r hr => h r (.blank h1 h2 hr)
theorem Fwd.com {s : ByteArray} {L : List (Tk × Nat)} {p q : Nat} (h : Fwd s L p) (h1 : p < s.size) (h2 : isCom (fr s p)) (h3 : Com (fr s p) (s.size - p) (some q)) : Fwd s L (p + q) := fun r hr => h r (.com h1 h2 h3 hr)
theorem Fwd.tok {s : ByteArray} {L : List (Tk × Nat)} {p k : Nat} {t : Tk} (h : Fwd s L p) (h1 : p < s.size) (h2 : isBl (hb s p) = false) (h3 : ¬ isCom (fr s p)) (h4 : Rd s p (.inl (t, k))) : Fwd s (L ++ [(t, p)]) (p + k) := fun r hr => by
  rw [preT_add]
  exact h _ (.tok h1 h2 h3 h4 hr)
theorem Fwd.end {s : ByteArray} {L : List (Tk × Nat)} (h : Fwd s L s.size) : LexR s 0 (.inl L) := by
  have := h _ .done
  simpa [preT] using this
theorem Fwd.comBad {s : ByteArray} {L : List (Tk × Nat)} {p : Nat} (h : Fwd s L p) (h1 : p < s.size) (h2 : isCom (fr s p)) (h3 : Com (fr s p) (s.size - p) none) : LexR s 0 (.inr (6, p + 2)) := h _ (.comBad h1 h2 h3)
theorem Fwd.bad {s : ByteArray} {L : List (Tk × Nat)} {p o : Nat} {c : Int} (h : Fwd s L p) (h1 : p < s.size) (h2 : isBl (hb s p) = false) (h3 : ¬ isCom (fr s p)) (h4 : Rd s p (.inr (c, o))) : LexR s 0 (.inr (c, p + o)) := h _ (.bad h1 h2 h3 h4)
end Go.Proofs.YtmndipnifjpdjaaGreatDoor
namespace Go.Proofs.YtmndipnifjpdjaaGreatDoor
open Go Go.RowKit
set_option linter.unusedVariables false
def Lx (s : ByteArray) (S p : Nat) (v : Value) (fc fl fa : Int) (w : World) : Prop :=
  w.heap[S]? = some (.cells #[.string s, .int .i64 p, .int .i64 ((nlc s p : Int) + 1), v, .int .i64 fc, .int .i64 fl, .int .i64 fa] 41 (0, 0))
structure LxC (s : ByteArray) (S p : Nat) (v : Value) (fc fl fa : Int) (w : World) : Prop where
  c0 : w.cell? ⟨S, 0, none⟩ = some (.string s)
  c1 : w.cell? ⟨S, 1, none⟩ = some (.int .i64 p)
  c2 : w.cell? ⟨S, 2, none⟩ = some (.int .i64 ((nlc s p : Int) + 1))
  c3 : w.cell? ⟨S, 3, none⟩ = some v
  c4 : w.cell? ⟨S, 4, none⟩ = some (.int .i64 fc)
  c5 : w.cell? ⟨S, 5, none⟩ = some (.int .i64 fl)
  c6 : w.cell? ⟨S, 6, none⟩ = some (.int .i64 fa)
  z1 : w.frozen? ⟨S, 1, none⟩ = false
  z2 : w.frozen? ⟨S, 2, none⟩ = false
  z3 : w.frozen? ⟨S, 3, none⟩ = false
  z4 : w.frozen? ⟨S, 4, none⟩ = false
  z5 : w.frozen? ⟨S, 5, none⟩ = false
  z6 : w.frozen? ⟨S, 6, none⟩ = false
theorem Lx.cells {s : ByteArray} {S p : Nat} {v : Value} {fc fl fa : Int} {w : World} (h : Lx s S p v fc fl fa w) : LxC s S p v fc fl fa w := by
  unfold Lx at h
  constructor <;> simp [World.cell?, World.frozen?, h]
theorem Lx.lt {s : ByteArray} {S p : Nat} {v : Value} {fc fl fa : Int} {w : World} (h : Lx s S p v fc fl fa w) : S < w.heap.size := by
  rcases Nat.lt_or_ge S w.heap.size with g | g
  · exact g
  · unfold Lx at h; rw [Array.getElem?_eq_none g] at h; cases h
theorem grown_refl (w : World) (r : Option Nat) : w.grownBy w r := ⟨rfl, rfl, rfl, Nat.le_refl _, fun _ _ _ => rfl⟩
theorem below_dN {B : Nat} {a w : World} (h : Below B a w) (n : Nat) : Below B a (w.drewN n) := ⟨h.os, h.tape, h.output, h.size, h.block⟩
theorem grown_trans {a b c : World} {r : Option Nat} (h : a.grownBy b r) (k : b.grownBy c r) : a.grownBy c r :=
  ⟨k.os.trans h.os, k.tape.trans h.tape, k.output.trans h.output, Nat.le_trans h.size k.size, fun i hi hn => (k.block i (Nat.lt_of_lt_of_le hi h.size) hn).trans (h.block i hi hn)⟩
theorem grown_drewN (w : World) (r : Option Nat) (n : Nat) : w.grownBy (w.drewN n) r := ⟨rfl, rfl, rfl, Nat.le_refl _, fun _ _ _ => rfl⟩
theorem grown_set (w : World) (S j : Nat) (v : Value) : w.grownBy (w.setCell ⟨S, j, none⟩ v) (some S) :=
  ⟨rfl, rfl, rfl, by simp [World.setCell], fun k hk hn => heap_setCell_other w _ k v (fun e => hn (by rw [e]))⟩
theorem grown_low {w w' : World} {r : Option Nat} (h : Below w.heap.size w w') : w.grownBy w' r := ⟨h.os, h.tape, h.output, h.size, fun k hk _ => h.block k hk⟩
theorem gst {a w : World} {S : Nat} (h : a.grownBy w (some S)) (j : Nat) (v : Value) : a.grownBy (w.setCell ⟨S, j, none⟩ v) (some S) := grown_trans h (grown_set _ _ _ _)
theorem gdr {a w : World} {r : Option Nat} (h : a.grownBy w r) (n : Nat) : a.grownBy (w.drewN n) r := grown_trans h (grown_drewN _ _ _)
theorem Lx.low {s : ByteArray} {S p : Nat} {v : Value} {fc fl fa : Int} {w w' : World} (h : Lx s S p v fc fl fa w) (hb : Below w.heap.size w w') : Lx s S p v fc fl fa w' := by
  unfold Lx
  rw [hb.block S h.lt]
  exact h
theorem Lx.drw {s : ByteArray} {S p : Nat} {v : Value} {fc fl fa : Int} {w : World} (h : Lx s S p v fc fl fa w) (n : Nat) : Lx s S p v fc fl fa (w.drewN n) := h
theorem nlc_nl {s : ByteArray} {p : Nat} (h : hb s p = 10) : nlc s (p + 1) = nlc s p + 1 := by
  show nlc s p + _ = _
  rw [if_pos h]
theorem nlc_no {s : ByteArray} {p : Nat} (h : hb s p ≠ 10) : nlc s (p + 1) = nlc s p := by
  show nlc s p + _ = _
  rw [if_neg h]
  rfl
theorem Lx.next_nl {s : ByteArray} {S p : Nat} {v : Value} {fc fl fa : Int} {w : World} (h : Lx s S p v fc fl fa w) (hn : hb s p = 10) :
    Lx s S (p + 1) v fc fl fa ((w.setCell ⟨S, 2, none⟩ (.int .i64 ((nlc s p : Int) + 1 + 1))).setCell ⟨S, 1, none⟩ (.int .i64 ((p : Int) + 1))) := by
  have h1 := heap_setCell_same w S 2 _ _ (.int .i64 ((nlc s p : Int) + 1 + 1)) h
  have h2 := heap_setCell_same _ S 1 _ _ (.int .i64 ((p : Int) + 1)) h1
  unfold Lx
  rw [h2, nlc_nl hn]
  simp
theorem Lx.next_no {s : ByteArray} {S p : Nat} {v : Value} {fc fl fa : Int} {w : World} (h : Lx s S p v fc fl fa w) (hn : hb s p ≠ 10) :
    Lx s S (p + 1) v fc fl fa (w.setCell ⟨S, 1, none⟩ (.int .i64 ((p : Int) + 1))) := by
  have h2 := heap_setCell_same _ S 1 _ _ (.int .i64 ((p : Int) + 1)) h
  unfold Lx
  rw [h2, nlc_no hn]
  simp
theorem drw_drw (w : World) (a b : Nat) : (w.drewN a).drewN b = w.drewN (a + b) := by simp [World.drewN, Nat.add_assoc]
theorem idx_str (s : ByteArray) {i : Int} (w : World) (h0 : 0 ≤ i) (h1 : i < s.size) : (Instr.index 9 (.string s) (.int .i64 i)).run Tryz.prog w = .ok (.int .u8 (hb s i.toNat)) w := by
  rw [run_index_string w 9 s .i64 i Tryz.underlying9, dif_pos ⟨h0, h1⟩, hb_in (by omega)]
theorem slc_str (s : ByteArray) {i j : Int} (w : World) (h0 : 0 ≤ i) (h1 : i ≤ j) (h2 : j ≤ s.size) : (Instr.slice 9 (.string s) (some (.int .i64 i)) (some (.int .i64 j)) none).run Tryz.prog w = .ok (.string (s.extract i.toNat j.toNat)) w :=
  run_slice_string w 9 s .i64 .i64 i j Tryz.underlying9 h0 h1 h2
theorem here_any (s : ByteArray) (S p d : Nat) (v : Value) (fc fl fa : Int) (w : World) (hx : Lx s S p v fc fl fa w) (hs : s.size ≤ 32768) (hp : p ≤ s.size) (hd : d ≤ 40000) :
    Calls Tryz.prog 30 #[.pointer (some ⟨S, 0, none⟩), .int .i64 d] w fun e w' => e = .returned (.int .u8 (hb s (p + d))) ∧ ∃ n, w' = w.drewN n := by
  obtain ⟨c0, c1, c2, c3, c4, c5, c6, z1, z2, z3, z4, z5, z6⟩ := hx.cells
  by_cases h : p + d < s.size
  · have e : ((p : Int) + d).toNat = p + d := by omega
    have hix := fun w' : World => idx_str s (i := (p : Int) + d) w' (by omega) (by omega)
    rw [e] at hix
    go_enter Tryz.func30, Tryz.ntmps30
    go_wp2
    go_quiet (fail)
    go_wp2
    go_quiet (fail)
    go_wp2
    go_ret
    exact ⟨rfl, _, drw_drw _ _ _⟩
  · have hv := hb_out (s := s) (k := p + d) (by omega)
    go_enter Tryz.func30, Tryz.ntmps30
    go_wp2
    go_quiet (fail)
    go_wp2
    go_ret
    refine ⟨?_, _, rfl⟩
    rw [hv]; rfl
theorem ended_any (s : ByteArray) (S p : Nat) (v : Value) (fc fl fa : Int) (w : World) (hx : Lx s S p v fc fl fa w) (hs : s.size ≤ 32768) (hp : p ≤ s.size) :
    Calls Tryz.prog 15 #[.pointer (some ⟨S, 0, none⟩)] w fun e w' => e = .returned (.bool (decide (s.size ≤ p))) ∧ ∃ n, w' = w.drewN n := by
  obtain ⟨c0, c1, c2, c3, c4, c5, c6, z1, z2, z3, z4, z5, z6⟩ := hx.cells
  go_enter Tryz.func15, Tryz.ntmps15
  go_wp2
  go_quiet (fail)
  go_wp2
  go_ret
  exact ⟨by simp, _, rfl⟩
theorem ret_bool {a b : Bool} (h : a = b) : Ending.returned (.bool a) = .returned (.bool b) := by rw [h]
theorem letter_any (c : Int) (w : World) (h0 : 0 ≤ c) (h1 : c < 256) :
    Calls Tryz.prog 33 #[.int .u8 c] w fun e w' => e = .returned (.bool (isLet c)) ∧ w' = w := by
  go_enter Tryz.func33, Tryz.ntmps33
  go_wp2
  all_goals go_ret
  all_goals refine ⟨?_, rfl⟩
  all_goals (refine ret_bool ?_; unfold isLet; rw [Bool.eq_iff_iff]; simp; omega)
theorem Lx.bad {s : ByteArray} {S p : Nat} {v : Value} {fc fl fa a b c : Int} {w : World} (h : Lx s S p v fc fl fa w) :
    Lx s S p v a b c (((w.setCell ⟨S, 4, none⟩ (.int .i64 a)).setCell ⟨S, 5, none⟩ (.int .i64 b)).setCell ⟨S, 6, none⟩ (.int .i64 c)) := by
  have h1 := heap_setCell_same w S 4 _ _ (.int .i64 a) h
  have h2 := heap_setCell_same _ S 5 _ _ (.int .i64 b) h1
  have h3 := heap_setCell_same _ S 6 _ _ (.int .i64 c) h2
  unfold Lx
  rw [h3]
  simp
theorem bad_any (s : ByteArray) (S p : Nat) (v : Value) (fc fl fa a b c : Int) (w : World) (hx : Lx s S p v fc fl fa w) :
    Calls Tryz.prog 38 #[.pointer (some ⟨S, 0, none⟩), .int .i64 a, .int .i64 b, .int .i64 c] w fun e w' => e = .returned (.tuple #[]) ∧ Lx s S p v a b c w' ∧ w.grownBy w' (some S) := by
  have HB := hide (hx.bad (a := a) (b := b) (c := c))
  obtain ⟨c0, c1, c2, c3, c4, c5, c6, z1, z2, z3, z4, z5, z6⟩ := hx.cells
  go_enter Tryz.func38, Tryz.ntmps38
  go_wp2
  go_end0
  exact ⟨rfl, HB.out, grown_trans (grown_trans (grown_set _ _ _ _) (grown_set _ _ _ _)) (grown_set _ _ _ _)⟩
set_option maxHeartbeats 800000 in
theorem step_any (s : ByteArray) (S p k : Nat) (v : Value) (fc fl fa : Int) (w : World) (hx : Lx s S p v fc fl fa w) (hs : s.size ≤ 32768) (hp : p + k ≤ s.size) :
    Calls Tryz.prog 31 #[.pointer (some ⟨S, 0, none⟩), .int .i64 k] w fun e w' => e = .returned (.tuple #[]) ∧ Lx s S (p + k) v fc fl fa w' ∧ w.grownBy w' (some S) := by
  have Hx := hide hx
  clear hx
  go_enter Tryz.func31, Tryz.ntmps31
  go_wp2
  go_loopw [1] (fun nv wr => ∃ i r : Nat, i + r = k ∧ nv = .int .i64 r ∧ Lx s S (p + i) v fc fl fa wr ∧ w.grownBy wr (some S)) (fun nv _ => (intOf nv).toNat)
  case atStart => exact ⟨0, k, by omega, rfl, Hx.out, grown_refl _ _⟩
  case round =>
    obtain ⟨i, r, hi, rfl, hx', hg⟩ := hrel
    have HX := hide hx'
    have HG := hide hg
    clear hx' hg
    by_cases h0 : 0 < r
    · go_wp2_with fail
      refine (ended_any s S (p + i) v fc fl fa wr HX.out hs (by omega)).mono ?_
      rintro e w1 ⟨rfl, n, rfl⟩
      have hd : decide (s.size ≤ p + i) = false := by simp; omega
      rw [hd]
      obtain ⟨c0, c1, c2, c3, c4, c5, c6, z1, z2, z3, z4, z5, z6⟩ := HX.out.cells
      have hlt : p + i < s.size := by omega
      have hnl := nlc_le s (p + i)
      have hv := hb_in hlt
      clear hv
      have hix := fun w' : World => idx_str s (i := (p : Int) + i) w' (by omega) (by omega)
      rw [show ((p : Int) + i).toNat = p + i by omega] at hix
      by_cases h10 : hb s (p + i) = 10
      · have HN := hide (HX.out.next_nl h10)
        rw [h10] at hix
        clear h10
        go_wp2
        go_quiet (fail)
        go_wp2
        go_roundw
        case rel => exact ⟨i + 1, r - 1, by omega, by congr 1; omega, HN.out, gst (gst (gdr HG.out _) _ _) _ _⟩
        case measure => simp [intOf]; omega
      · have HN := hide (HX.out.next_no h10)
        have hq : (hb s (p + i) == 10) = false := by simpa using h10
        clear h10
        go_wp2
        go_quiet (fail)
        go_wp2
        go_roundw
        case rel => exact ⟨i + 1, r - 1, by omega, by congr 1; omega, HN.out, gst (gdr HG.out _) _ _⟩
        case measure => simp [intOf]; omega
    · go_wp2
      go_end0
      exact ⟨rfl, by have : i = k := by omega
                     subst this; exact HX.out, HG.out⟩
end Go.Proofs.YtmndipnifjpdjaaGreatDoor
