import Derived.Test.YtcpeabchaimkaaaDoorCE
namespace Go.Proofs.YtcpeabchaimkaaaDoor
open Go Go.RowKit
set_option linter.unusedVariables false

/-- Bytes as a number, the lowest first. -/
def leV : List Int → Int
  | [] => 0
  | b :: l => b + 256 * leV l
theorem le1 (U : Int) : leV (leI 1 U) = U % 256 := by
  have e : leI 1 U = [U % 256] := by simp [leI, List.range_succ]
  rw [e]; simp [leV]
theorem le2 (U : Int) : leV (leI 2 U) = U % 65536 := by
  have e : leI 2 U = [U % 256, U / 256 % 256] := by simp [leI, List.range_succ]
  rw [e]; simp only [leV]; omega
theorem le4 (U : Int) : leV (leI 4 U) = U % 4294967296 := by
  have e : leI 4 U = [U % 256, U / 256 % 256, U / 65536 % 256, U / 16777216 % 256] := by simp [leI, List.range_succ]
  rw [e]; simp only [leV]; omega
theorem le8 (U : Int) : leV (leI 8 U) = U % 18446744073709551616 := by
  have e : leI 8 U = [U % 256, U / 256 % 256, U / 65536 % 256, U / 16777216 % 256, U / 4294967296 % 256, U / 1099511627776 % 256, U / 281474976710656 % 256, U / 72057594037927936 % 256] := by simp [leI, List.range_succ]
  rw [e]; simp only [leV]; omega

theorem fld {a b : Int} {k : Nat} {r r' : List Int} (h : u64n a k ++ r = u64n b k ++ r') : u64n a k = u64n b k ∧ r = r' := List.append_inj h (by rw [u64n_len, u64n_len])
theorem n1_inj {a b : Int} (h : u64n a 1 = u64n b 1) (ha : 0 ≤ a ∧ a ≤ 255) (hb : 0 ≤ b ∧ b ≤ 255) : a = b := by
  have e := congrArg leV h
  rw [u64n, u64n, le1, le1, IntKind.wrap_u64, IntKind.wrap_u64] at e
  omega
theorem n2_inj {a b : Int} (h : u64n a 2 = u64n b 2) (ha : 0 ≤ a ∧ a ≤ 65535) (hb : 0 ≤ b ∧ b ≤ 65535) : a = b := by
  have e := congrArg leV h
  rw [u64n, u64n, le2, le2, IntKind.wrap_u64, IntKind.wrap_u64] at e
  omega
theorem n4_inj {a b : Int} (h : u64n a 4 = u64n b 4) (ha : 0 ≤ a ∧ a ≤ 2147483647) (hb : 0 ≤ b ∧ b ≤ 2147483647) : a = b := by
  have e := congrArg leV h
  rw [u64n, u64n, le4, le4, IntKind.wrap_u64, IntKind.wrap_u64] at e
  omega
theorem s4_inj {a b : Int} (h : u64n a 4 = u64n b 4) (ha : -2147483648 ≤ a ∧ a ≤ 2147483647) (hb : -2147483648 ≤ b ∧ b ≤ 2147483647) : a = b := by
  have e := congrArg leV h
  rw [u64n, u64n, le4, le4, IntKind.wrap_u64, IntKind.wrap_u64] at e
  omega
theorem s8_inj {a b : Int} (h : u64n a 8 = u64n b 8) (ha : -9223372036854775808 ≤ a ∧ a ≤ 9223372036854775807) (hb : -9223372036854775808 ≤ b ∧ b ≤ 9223372036854775807) : a = b := by
  have e := congrArg leV h
  rw [u64n, u64n, le8, le8, IntKind.wrap_u64, IntKind.wrap_u64] at e
  omega
theorem w64_eq (x : Int) : IntKind.u64.wrap (wrap64 x) = x % 18446744073709551616 := by
  rw [IntKind.wrap_u64]
  unfold wrap64
  omega
theorem b8_inj {a b : Int} (h : u64n (wrap64 a) 8 = u64n (wrap64 b) 8) (ha : 0 ≤ a ∧ a < 18446744073709551616) (hb : 0 ≤ b ∧ b < 18446744073709551616) : a = b := by
  have e := congrArg leV h
  rw [u64n, u64n, le8, le8, w64_eq, w64_eq] at e
  omega
theorem flag_inj {a b : Bool} (h : flagI a = flagI b) : a = b := by
  cases a <;> cases b <;> simp [flagI] at h ⊢
theorem tx_inj {s t : ByteArray} (h : txL s = txL t) : s = t := by
  have e : s.data.toList = t.data.toList := by
    refine List.map_inj_right (f := fun c : UInt8 => (c.toNat : Int)) (fun x y hxy => ?_) |>.1 h
    have h9 : ((x.toNat : Nat) : Int) = ((y.toNat : Nat) : Int) := hxy
    exact UInt8.toNat_inj.1 (by omega)
  cases s; cases t
  simpa using e
theorem join_inj {F F' : Nat → List Int} {E : Nat → Prop} (n : Nat) : ∀ r r', (∀ k, k < n → ∀ r r', F k ++ r = F' k ++ r' → E k ∧ r = r') → joinL F n ++ r = joinL F' n ++ r' → (∀ k, k < n → E k) ∧ r = r' := by
  induction n with
  | zero => intro r r' _ h; exact ⟨fun k hk => by omega, by simpa [joinL] using h⟩
  | succ n ih =>
    intro r r' hE h
    rw [← joinL_step, ← joinL_step, List.append_assoc, List.append_assoc] at h
    obtain ⟨h1, h2⟩ := ih _ _ (fun k hk => hE k (by omega)) h
    obtain ⟨h3, h4⟩ := hE n (by omega) r r' h2
    refine ⟨fun k hk => ?_, h4⟩
    rcases Nat.lt_succ_iff_lt_or_eq.1 hk with h5 | rfl
    · exact h1 k h5
    · exact h3

/-- Integers of constants are integers. -/
def PV.rng (p : PV) : Prop := ∀ k, k < p.nc → -9223372036854775808 ≤ p.c1 k ∧ p.c1 k ≤ 9223372036854775807
/-- The same function, in all that is asked of it. -/
structure PV.same (p q : PV) : Prop where
  h0 : p.params = q.params ∧ p.regs = q.regs ∧ p.line = q.line ∧ p.dots = q.dots
  n : p.nu = q.nu ∧ p.nc = q.nc ∧ p.ni = q.ni ∧ p.nl = q.nl
  u : ∀ k, k < p.nu → p.u0 k = q.u0 k ∧ p.u1 k = q.u1 k
  c : ∀ k, k < p.nc → p.c0 k = q.c0 k ∧ p.c1 k = q.c1 k ∧ p.c2 k = q.c2 k ∧ p.c3 k = q.c3 k
  i : ∀ k, k < p.ni → p.i0 k = q.i0 k ∧ p.i1 k = q.i1 k ∧ p.i2 k = q.i2 k ∧ p.i3 k = q.i3 k
  l : ∀ k, k < p.nl → p.l0 k = q.l0 k
theorem inI_of {v lo hi : Int} (h : inI v lo hi = true) : lo ≤ v ∧ v ≤ hi := by simpa [inI] using h
theorem empty_of {t : ByteArray} (h : t.toList = []) : t = ByteArray.empty := by
  rw [ByteArray.toList_eq] at h
  obtain ⟨⟨l⟩⟩ := t
  have e : l = [] := h
  rw [e]
  rfl
theorem up_inj {p q : PV} {k : Nat} (hp : inI (p.u1 k) 0 255 = true) (hq : inI (q.u1 k) 0 255 = true) {r r' : List Int} (h : upL p k ++ r = upL q k ++ r') : (p.u0 k = q.u0 k ∧ p.u1 k = q.u1 k) ∧ r = r' := by
  obtain ⟨h1, h2⟩ := List.cons.inj (show flagI (p.u0 k) :: (u64n (p.u1 k) 1 ++ r) = flagI (q.u0 k) :: (u64n (q.u1 k) 1 ++ r') from h)
  obtain ⟨h3, h4⟩ := fld h2
  exact ⟨⟨flag_inj h1, n1_inj h3 (inI_of hp) (inI_of hq)⟩, h4⟩
theorem in_inj {p q : PV} {k : Nat} (hp : insOk (p.i0 k) (p.i1 k) (p.i2 k) (p.i3 k) (p.l0 k)) (hq : insOk (q.i0 k) (q.i1 k) (q.i2 k) (q.i3 k) (q.l0 k)) {r r' : List Int} (h : inL p k ++ r = inL q k ++ r') :
    (p.i0 k = q.i0 k ∧ p.i1 k = q.i1 k ∧ p.i2 k = q.i2 k ∧ p.i3 k = q.i3 k ∧ p.l0 k = q.l0 k) ∧ r = r' := by
  simp only [inL, List.append_assoc] at h
  obtain ⟨e0, h⟩ := fld h
  obtain ⟨e1, h⟩ := fld h
  obtain ⟨e2, h⟩ := fld h
  obtain ⟨e3, h⟩ := fld h
  obtain ⟨e4, h⟩ := fld h
  obtain ⟨⟨a0, a1, a2, a3⟩, a4⟩ := hp
  obtain ⟨⟨b0, b1, b2, b3⟩, b4⟩ := hq
  exact ⟨⟨n1_inj e0 (inI_of a0) (inI_of b0), n1_inj e1 (inI_of a1) (inI_of b1), s4_inj e2 (inI_of a2) (inI_of b2), s4_inj e3 (inI_of a3) (inI_of b3), n4_inj e4 (inI_of a4) (inI_of b4)⟩, h⟩
theorem co_inj {p q : PV} {k : Nat} (hp : constOk (p.c0 k) (p.c1 k) (p.c2 k) (p.c3 k)) (hq : constOk (q.c0 k) (q.c1 k) (q.c2 k) (q.c3 k))
    (rp : -9223372036854775808 ≤ p.c1 k ∧ p.c1 k ≤ 9223372036854775807) (rq : -9223372036854775808 ≤ q.c1 k ∧ q.c1 k ≤ 9223372036854775807) (bp : 0 ≤ p.c2 k ∧ p.c2 k < 18446744073709551616) (bq : 0 ≤ q.c2 k ∧ q.c2 k < 18446744073709551616)
    {r r' : List Int} (h : coL p k ++ r = coL q k ++ r') : (p.c0 k = q.c0 k ∧ p.c1 k = q.c1 k ∧ p.c2 k = q.c2 k ∧ p.c3 k = q.c3 k) ∧ r = r' := by
  obtain ⟨h1, h2⟩ := List.cons.inj (show IntKind.u8.wrap (p.c0 k) :: ((if p.c0 k = 4 then u64n (p.c1 k) 8 else if p.c0 k = 5 then u64n (wrap64 (p.c2 k)) 8 else u64n (p.c3 k).size 4 ++ txL (p.c3 k)) ++ r) = IntKind.u8.wrap (q.c0 k) :: ((if q.c0 k = 4 then u64n (q.c1 k) 8 else if q.c0 k = 5 then u64n (wrap64 (q.c2 k)) 8 else u64n (q.c3 k).size 4 ++ txL (q.c3 k)) ++ r') from h)
  rw [IntKind.wrap_u8, IntKind.wrap_u8] at h1
  rcases hp with ⟨k1, x2, x3⟩ | ⟨k1, x1, x3, -⟩ | ⟨k1, x1, x2, x3⟩ <;> rcases hq with ⟨k2, y2, y3⟩ | ⟨k2, y1, y3, -⟩ | ⟨k2, y1, y2, y3⟩ <;> rw [k1, k2] at h1 h2
  all_goals first | (exfalso; omega) | skip
  · simp only [if_true] at h2
    obtain ⟨e, h2⟩ := fld h2
    exact ⟨⟨by rw [k1, k2], s8_inj e rp rq, by rw [x2, y2], by rw [empty_of x3, empty_of y3]⟩, h2⟩
  · simp only [if_true, show ¬ (5 : Int) = 4 by omega, if_false] at h2
    obtain ⟨e, h2⟩ := fld h2
    exact ⟨⟨by rw [k1, k2], by rw [x1, y1], b8_inj e bp bq, by rw [empty_of x3, empty_of y3]⟩, h2⟩
  · simp only [show ¬ (6 : Int) = 4 by omega, show ¬ (6 : Int) = 5 by omega, if_false, List.append_assoc] at h2
    obtain ⟨e, h2⟩ := fld h2
    have es : ((p.c3 k).size : Int) = ((q.c3 k).size : Int) := n4_inj e (by omega) (by omega)
    obtain ⟨e3, h2⟩ := List.append_inj h2 (by rw [txL_len, txL_len]; omega)
    exact ⟨⟨by rw [k1, k2], by rw [x1, y1], by rw [x2, y2], tx_inj e3⟩, h2⟩

end Go.Proofs.YtcpeabchaimkaaaDoor
