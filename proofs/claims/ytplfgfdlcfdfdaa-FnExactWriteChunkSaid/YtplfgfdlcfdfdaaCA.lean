import Derived.Test.YtplfgfdlcfdfdaaBE
namespace Go.Proofs.Ytplfgfdlcfdfdaa
open Go Go.RowKit
set_option linter.unusedVariables false

/-- The slice v is the call's own (blocks from base on), not nil, and holds the bytes L. -/
def OwnL (w : World) (base : Nat) (v : Value) (L : List Int) : Prop := w.ownsRow base 5 1 v L.length (L.map (Value.int .u8)) ∧ v ≠ .slice none 0 0

theorem ownL_empty (w : World) : OwnL (w.alloc (.cells #[] 5)) w.heap.size (.slice (some ⟨w.heap.size, 0, none⟩) 0 0) [] :=
  ⟨World.ownsRow_made w #[] 0 (Nat.le_refl _) (by simp [maxLen]) rfl, fun h => by cases h⟩

theorem news_oneB (wr : World) (u0 : Value) : ∀ j u, [u0][j]? = some u → (wr.alloc (.cells #[u0] 5)).cell? ((⟨wr.heap.size, 0, none⟩ : Addr).add j) = some u := by
  intro j u hj
  match j, hj with
  | 0, hj => simp at hj; subst hj; simp [Addr.add]

/-- 'out = append(out, z)' on a slice of bytes that is the call's own. -/
theorem app_byte {wr : World} {ops : Array Oper} {rest : List Oper} {o : Oper} {a : Act} {Q : Exit → Act → World → Prop} (hgd : o.guard = none) (s x : Operand)
    (ho : o.op = .call { callee := .builtin .append, args := #[s, x], argTypes := #[26, 26] }) (base : Nat) (v : Value) (L : List Int) (z : Int) (hown : OwnL wr base v L) (hs : a.eval s = v) (hx : a.eval x = .slice (some ⟨wr.heap.size, 0, none⟩) 1 1)
    (hlen : L.length ≤ 100000000000000) (hbase : base ≤ wr.heap.size)
    (h : ∀ v' w', OwnL w' base v' (L ++ [z]) → (∀ B w0, Below B w0 wr → B ≤ base → Below B w0 w') → (∀ gx, gx < wr.heap.size → v.ownBlock ≠ some gx → w'.heap[gx]? = wr.heap[gx]?) → wpList Try.prog ops Q rest (a.put o.dst v') w') :
    wpList Try.prog ops Q (o :: rest) a (wr.alloc (.cells #[.int .u8 z] 5)) := by
  obtain ⟨i0, hi, hz0, hz1, hz2⟩ := info_parts Try.info5
  refine wpList_append_own _ hgd s x 26 ho base 5 i0 (.int .u8 0) 1 1 Try.underlying26 hi hz0 hz1 hz2 rfl (by decide) v L.length (L.map (Value.int .u8)) hs (hown.1.alloc _) ⟨wr.heap.size, 0, none⟩ 1 1 [.int .u8 z] hx rfl (news_oneB _ _)
    (fun u hu => by simp at hu; subst hu; rfl) (by unfold maxLen; omega) (by omega) (by simp; omega) ?_
  intro v' w' h1 h2 h3
  refine h v' w' ⟨by simpa using h1, fun hh => hown.2 (h3.1 hh).1⟩ (fun B w0 hb hB => (hb.alloc (by omega) _).grown h2 (by simp; omega) (fun q hq => ?_))
    (fun gx hgx hne => (h2.block gx (by simp; omega) (fun e => hne e.symm)).trans ((b_1 wr _).block gx hgx))
  have := (hown.1.lt q hq).1
  omega

/-- n bytes of a number, the lowest first. -/
def leI (n : Nat) (U : Int) : List Int := (List.range n).map fun j => U / 256 ^ j % 256
theorem leI_step (n : Nat) (U : Int) : leI n U ++ [U / 256 ^ n % 256] = leI (n + 1) U := by
  simp [leI, List.range_succ]
theorem leI_len (n : Nat) (U : Int) : (leI n U).length = n := by simp [leI]
theorem le_next (U : Int) (i : Nat) : U / 256 ^ i / 256 = U / 256 ^ (i + 1) := by
  rw [Int.ediv_ediv_of_nonneg (by exact Int.pow_nonneg (by omega)), Int.pow_succ]

theorem wrap_div {T : Int} (h0 : 0 ≤ T) (h1 : T < 18446744073709551616) : IntKind.u64.wrap (T.tdiv 256) = T / 256 := by
  rw [Int.tdiv_eq_ediv_of_nonneg h0, IntKind.wrap_u64]
  omega

set_option maxHeartbeats 1600000 in
set_option maxRecDepth 100000 in
theorem put_any (v : Int) (n : Nat) (w : World) (hn : n ≤ 8) :
    Calls Try.prog 15 #[.int .i64 v, .int .i64 n] w fun e w' => ∃ v', e = .returned v' ∧ OwnL w' w.heap.size v' (leI n (IntKind.u64.wrap v)) ∧ Below w.heap.size w w' := by
  have hU : 0 ≤ IntKind.u64.wrap v ∧ IntKind.u64.wrap v < 18446744073709551616 := by rw [IntKind.wrap_u64]; omega
  have HU := hide hU
  clear hU
  go_enter Try.func15, Try.ntmps15
  go_wp2
  generalize hUv : IntKind.u64.wrap v = U at *
  have HUv := hide hUv
  clear hUv
  go_loopw [5, 6, 7] (fun uv ov kv wr => ∃ i : Nat, i ≤ n ∧ kv = .int .i64 i ∧ uv = .int .u64 (U / 256 ^ i) ∧ OwnL wr w.heap.size ov (leI i U) ∧ Below w.heap.size w wr) (fun _ _ kv _ => match kv with | .int _ x => n - x.toNat | _ => 0)
  case atStart => exact ⟨0, by omega, rfl, by simp, ownL_empty w, (Below.refl _ _).alloc (Nat.le_refl _) _⟩
  case round =>
    obtain ⟨i, hi9, rfl, rfl, hown, hbw⟩ := hrel
    by_cases hin : i < n
    · have hnext := le_next U i
      have HN := hide hnext
      clear hnext
      have hq0 : 0 ≤ U / 256 ^ i := Int.ediv_nonneg HU.out.1 (Int.pow_nonneg (by omega))
      have HT1 := hide (Int.lt_of_le_of_lt (Int.ediv_le_self (256 ^ i) HU.out.1) HU.out.2)
      have hl := leI_len i U
      have HL := hide (leI_step i U)
      generalize U / 256 ^ i = T at *
      go_wp2_with (first
        | (at_builtin; refine app_byte rfl _ _ rfl w.heap.size _ (leI i U) (T % 256) hown rfl rfl (by omega) hbw.size ?_; intro v' w1 hown' hgrow _)
        | go_in)
      go_roundw
      case rel => exact ⟨i + 1, by omega, by simp, by rw [← HN.out, wrap_div hq0 HT1.out], by rw [← HL.out]; exact hown', hgrow _ _ hbw (Nat.le_refl _)⟩
      case measure => simp; omega
    · obtain rfl : i = n := by omega
      go_wp2
      go_ret
      refine ⟨_, rfl, ?_, hbw⟩
      rw [HUv.out]
      exact hown

end Go.Proofs.Ytplfgfdlcfdfdaa
