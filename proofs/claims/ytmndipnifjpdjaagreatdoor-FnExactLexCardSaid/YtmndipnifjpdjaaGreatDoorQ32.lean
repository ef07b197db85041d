import Derived.Test.YtmndipnifjpdjaaGreatDoorShelf
import Derived.Maps.OwnSet
import Derived.Maps.OwnOps
import Derived.Test.YtmndipnifjpdjaaGreatDoorQ14
import Derived.Test.YtmndipnifjpdjaaGreatDoorCards
import Derived.Lay
import Derived.SevenTiedAt
import Derived.Test.YtmndipnifjpdjaaGreatDoorQ31
namespace Go.Proofs.YtmndipnifjpdjaaGreatDoor
open Go Go.RowKit
set_option linter.unusedVariables false
def fixElem : Value → Option (DataW Unit × List MemPlace)
  | .agg cs => match cs.toList with
    | [.int .i64 c] => some (.lit (.int .i64 c), [])
    | _ => none
  | _ => none
theorem fixElem_mk (c : Int) : fixElem (.agg #[.int .i64 c]) = some (.lit (.int .i64 c), []) := rfl
theorem fixElem_inv {v : Value} {c : Int} {ps : List MemPlace} (h : fixElem v = some (.lit (.int .i64 c), ps)) : v = .agg #[.int .i64 c] := by
  unfold fixElem at h
  split at h
  · rename_i cs
    split at h
    · rename_i c' hc
      cases h
      have : cs = #[.int .i64 c] := by apply Array.ext'; simpa using hc
      rw [this]
    · cases h
  · cases h
def keyL (t : ByteArray) : Lit := .string t.data.toList
theorem keyL_ne {a b : ByteArray} (h : a ≠ b) : keyL a ≠ keyL b := by
  intro e
  apply h
  unfold keyL at e
  have : a.data.toList = b.data.toList := by injection e
  exact ByteArray.ext (Array.toList_inj.1 this)
theorem keyL_ok (t : ByteArray) : WideAt.IsKeyLit (keyL t) := trivial
def putAll (L : List (ByteArray × Int)) : DataW Unit := L.foldl (fun m x => m.put (keyL x.1) (.lit (.int .i64 x.2))) (.map [])
theorem putAll_snoc (L : List (ByteArray × Int)) (x : ByteArray × Int) : putAll (L ++ [x]) = (putAll L).put (keyL x.1) (.lit (.int .i64 x.2)) := by
  unfold putAll
  rw [List.foldl_append]
  rfl
theorem putAll_map (L : List (ByteArray × Int)) : Maps.IsMap (putAll L) := by
  unfold putAll
  have : ∀ (L : List (ByteArray × Int)) (m : DataW Unit), Maps.IsMap m → Maps.IsMap (L.foldl (fun m x => m.put (keyL x.1) (.lit (.int .i64 x.2))) m) := by
    intro L
    induction L with
    | nil => intro m h; exact h
    | cons x L ih => intro m h; exact ih _ (h.put _ _)
  exact this L _ Maps.isMap_empty
theorem putAll_spec (t : ByteArray) (v : Int) : ∀ (n : Nat) (L : List (ByteArray × Int)), L.length = n → (∀ x ∈ L, x.1 = t → x.2 = v) →
    ((∀ x ∈ L, x.1 ≠ t) → Maps.has (putAll L) (keyL t) = false) ∧ ((∃ x ∈ L, x.1 = t) → Maps.has (putAll L) (keyL t) = true ∧ ∀ z, (putAll L).atKey (keyL t) z = .lit (.int .i64 v)) := by
  intro n
  induction n with
  | zero =>
    intro L hL hv
    obtain rfl := List.length_eq_zero_iff.1 hL
    exact ⟨fun _ => rfl, fun ⟨x, hx, _⟩ => by cases hx⟩
  | succ n ih =>
    intro L hL hv
    obtain ⟨L', x, rfl⟩ : ∃ L' x, L = L' ++ [x] := ⟨L.dropLast, L.getLast (by intro e; rw [e] at hL; cases hL), (List.dropLast_concat_getLast _).symm⟩
    obtain ⟨i1, i2⟩ := ih L' (by simpa using hL) (fun y hy => hv y (List.mem_append_left _ hy))
    rw [putAll_snoc]
    by_cases hx : x.1 = t
    · have hx2 := hv x (List.mem_append_right _ (List.mem_singleton.2 rfl)) hx
      rw [hx, hx2]
      refine ⟨fun h => absurd hx (h x (List.mem_append_right _ (List.mem_singleton.2 rfl))), fun _ => ⟨Maps.has_put_same (putAll_map _) (keyL_ok t) _, fun z => Maps.atKey_put_same (putAll_map _) (keyL_ok t) _ z⟩⟩
    · have hk : keyL t ≠ keyL x.1 := keyL_ne (fun e => hx e.symm)
      refine ⟨fun h => ?_, fun h => ?_⟩
      · rw [Maps.has_put_other hk]
        exact i1 (fun y hy => h y (List.mem_append_left _ hy))
      · obtain ⟨y, hy, hyt⟩ := h
        rcases List.mem_append.1 hy with g | g
        · obtain ⟨a, b⟩ := i2 ⟨y, g, hyt⟩
          exact ⟨by rw [Maps.has_put_other hk]; exact a, fun z => by rw [Maps.atKey_put_other hk]; exact b z⟩
        · simp at g
          subst g
          exact absurd hyt hx
def allFix : List (ByteArray × Int) := wordsL.map (fun t => (t, 2)) ++ signsL.map (fun t => (t, 6))
theorem no_both : ∀ t ∈ wordsL, t ∉ signsL := by
  have h : ∀ t ∈ wordsL, ∀ u ∈ signsL, t.data.toList ≠ u.data.toList := by decide +kernel
  intro t h1 h2
  exact h t h1 t h2 rfl
theorem fix_word {t : ByteArray} (h : t ∈ wordsL) : Maps.has (putAll allFix) (keyL t) = true ∧ ∀ z, (putAll allFix).atKey (keyL t) z = .lit (.int .i64 2) := by
  refine (putAll_spec t 2 _ allFix rfl (fun x hx e => ?_)).2 ⟨(t, 2), List.mem_append_left _ (List.mem_map.2 ⟨t, h, rfl⟩), rfl⟩
  rcases List.mem_append.1 hx with g | g
  · obtain ⟨u, _, rfl⟩ := List.mem_map.1 g; rfl
  · obtain ⟨u, hu, rfl⟩ := List.mem_map.1 g
    have e' : u = t := e
    subst e'
    exact absurd hu (no_both u h)
theorem fix_sign {t : ByteArray} (h : t ∈ signsL) : Maps.has (putAll allFix) (keyL t) = true ∧ ∀ z, (putAll allFix).atKey (keyL t) z = .lit (.int .i64 6) := by
  refine (putAll_spec t 6 _ allFix rfl (fun x hx e => ?_)).2 ⟨(t, 6), List.mem_append_right _ (List.mem_map.2 ⟨t, h, rfl⟩), rfl⟩
  rcases List.mem_append.1 hx with g | g
  · obtain ⟨u, hu, rfl⟩ := List.mem_map.1 g
    have e' : u = t := e
    subst e'
    exact absurd h (no_both u hu)
  · obtain ⟨u, _, rfl⟩ := List.mem_map.1 g; rfl
theorem fix_none {t : ByteArray} (h1 : t ∉ wordsL) (h2 : t ∉ signsL) : Maps.has (putAll allFix) (keyL t) = false := by
  refine (putAll_spec t 0 _ allFix rfl (fun x hx e => ?_)).1 (fun x hx e => ?_) <;>
  · exfalso
    rcases List.mem_append.1 hx with g | g
    · obtain ⟨u, hu, rfl⟩ := List.mem_map.1 g
      have e' : u = t := e
      subst e'
      exact h1 hu
    · obtain ⟨u, hu, rfl⟩ := List.mem_map.1 g
      have e' : u = t := e
      subst e'
      exact h2 hu
def FixMap (b : Nat) (w : World) : Prop := w.ownsMap Tryz.prog 9 fixElem b 55 (putAll allFix)
theorem FixMap.low {b : Nat} {w w' : World} (h : FixMap b w) (hb : Below w.heap.size w w') : FixMap b w' :=
  World.ownsMap.kept (row := none) h ⟨hb.os, hb.tape, hb.output, hb.size, fun k hk _ => hb.block k hk⟩ (by simp)
theorem keyed9 : Maps.Keyed Tryz.prog 9 := Maps.string_keyed Tryz.underlying9
theorem under44 : Tryz.prog.underlying 44 = some (.map 9 77) := by kernel_rfl
theorem zero77 (w : World) : (zeroValue 77).run Tryz.prog w = .ok (.agg #[.int .i64 0]) w := by kernel_rfl
theorem fix_look {b : Nat} {w : World} (h : FixMap b w) (t : ByteArray) (ht : t.size ≤ 32768) :
    (t ∈ signsL ∧ (Instr.lookup 44 (.map (some b)) (.string t) true).run Tryz.prog w = .ok (.tuple #[.agg #[.int .i64 6], .bool true]) w) ∨
    (t ∈ wordsL ∧ (Instr.lookup 44 (.map (some b)) (.string t) true).run Tryz.prog w = .ok (.tuple #[.agg #[.int .i64 2], .bool true]) w) ∨
    (t ∉ signsL ∧ t ∉ wordsL ∧ ∃ c, (Instr.lookup 44 (.map (some b)) (.string t) true).run Tryz.prog w = .ok (.tuple #[.agg #[.int .i64 c], .bool false]) w) := by
  have hkey : keyOf Tryz.prog 9 (.string t) = some (keyL t) := Go.WideMaps.keyOf_string_mk Tryz.underlying9 (by unfold maxLen; omega)
  obtain ⟨v, ps, hrun, hv⟩ := World.ownsMap.look_ok h keyed9 under44 (zero77 w) (fixElem_mk 0) hkey
  by_cases h1 : t ∈ signsL
  · obtain ⟨a, c⟩ := fix_sign h1
    rw [c] at hv
    obtain rfl := fixElem_inv hv
    rw [a] at hrun
    exact .inl ⟨h1, hrun⟩
  · by_cases h2 : t ∈ wordsL
    · obtain ⟨a, c⟩ := fix_word h2
      rw [c] at hv
      obtain rfl := fixElem_inv hv
      rw [a] at hrun
      exact .inr (.inl ⟨h2, hrun⟩)
    · have a := fix_none h2 h1
      rw [Maps.atKey_of_not_has a] at hv
      obtain rfl := fixElem_inv hv
      rw [a] at hrun
      exact .inr (.inr ⟨h1, h2, 0, hrun⟩)
end Go.Proofs.YtmndipnifjpdjaaGreatDoor
namespace Go.Proofs.YtmndipnifjpdjaaGreatDoor
open Go
set_option maxRecDepth 100000
theorem closed2 : Tryz.f3.isInstance Tryz.prog Rows.fnExactLexRow.origin Rows.fnExactLexRow.targs := of_decide_eq_true (by kernel_rfl)
theorem closed3 : Tryz.prog.funcNamed Rows.fnExactLexRow.func = some 3 := by kernel_rfl
end Go.Proofs.YtmndipnifjpdjaaGreatDoor
namespace Go.Proofs.YtmndipnifjpdjaaGreatDoor
open Go
set_option maxRecDepth 100000
theorem closed4 : Tryz.f3.isWrapper Tryz.prog Rows.fnExactLexRow.wrapper Rows.fnExactLexRow.mainSum := by unfold Func.isWrapper; first | (rw [if_pos (by decide +kernel)]; kernel_rfl) | (rw [if_neg (by decide +kernel)]; exact ⟨rfl, rfl⟩)
end Go.Proofs.YtmndipnifjpdjaaGreatDoor
namespace Go.Proofs.YtmndipnifjpdjaaGreatDoor
open Go Go.RowKit
set_option linter.unusedVariables false
def rfC (N : Nat) : Nat := size10 N - min (size10 N) 19
def rfM (N : Nat) : Nat := N / 10 ^ rfC N
def rfT (N : Nat) : Bool := decide (N % 10 ^ rfC N ≠ 0)
def rfE (N : Nat) (E : Int) : Int := if rfM N = 0 then 0 else E + rfC N
structure RF (N b p i m nd nm : Nat) (tr : Bool) (dp : Int) : Prop where
  hn : nd = size10 N
  hnm : nm = min nd 19
  hm : m = N / 10 ^ (nd - nm)
  ht : tr = decide (N % 10 ^ (nd - nm) ≠ 0)
  dpp : p = 1 → dp = (nd : Int) - b
  lo : -(i : Int) ≤ dp
  hi : dp ≤ i
  le : nd ≤ i
theorem RF.start : RF 0 0 0 0 0 0 0 false 0 :=
  ⟨size10_zero.symm, rfl, rfl, rfl, fun h => by omega, by omega, by omega, by omega⟩
theorem RF.lt {N b p i m nd nm : Nat} {tr : Bool} {dp : Int} (h : RF N b p i m nd nm tr dp) : m < 10 ^ nm := by
  have h1 := size10_lt N
  have h2 := h.hnm
  rw [h.hm, ← h.hn] at *
  refine Nat.div_lt_of_lt_mul ?_
  rw [← Nat.pow_add, show nd - nm + nm = nd by omega]
  exact h1
theorem RF.zero {N b p i m nm : Nat} {tr : Bool} {dp : Int} (h : RF N b p i m 0 nm tr dp) (hp : p ≤ 1) : RF (N * 10 + (48 - 48 : Int).toNat) (b + p) p (i + 1) m 0 nm tr (dp - 1) := by
  have hN : N = 0 := by
    have h1 := size10_lt N
    rw [← h.hn, Nat.pow_zero] at h1
    omega
  subst hN
  have h1 := h.dpp
  have h2 := h.lo
  have h3 := h.hi
  refine ⟨h.hn, h.hnm, h.hm, h.ht, fun e => ?_, by omega, by omega, by omega⟩
  have := h1 e
  omega
theorem size10_put {N nd : Nat} {c : Int} (hn : nd = size10 N) (hc1 : 48 ≤ c) (hc2 : c ≤ 57) (hz : nd ≠ 0 ∨ c ≠ 48) : nd + 1 = size10 (N * 10 + (c - 48).toNat) := by
  have hne : N * 10 + (c - 48).toNat ≠ 0 := by
    rcases hz with g | g
    · have : N ≠ 0 := by intro e; rw [e, size10_zero] at hn; exact g hn
      omega
    · omega
  rw [size10_step _ _ (by omega), if_neg hne, ← hn]
theorem RF.put1 {N b p i m nd nm : Nat} {tr : Bool} {dp c : Int} (h : RF N b p i m nd nm tr dp) (hp : p ≤ 1) (hc1 : 48 ≤ c) (hc2 : c ≤ 57) (hz : nd ≠ 0 ∨ c ≠ 48) (hm : nm < 19) :
    RF (N * 10 + (c - 48).toNat) (b + p) p (i + 1) (m * 10 + (c - 48).toNat) (nd + 1) (nm + 1) tr dp := by
  have h0 := h.hnm
  have h1 := h.dpp
  have h2 := h.lo
  have h3 := h.hi
  have h4 := h.le
  have hnn : nm = nd := by omega
  have hm0 : m = N := by rw [h.hm, hnn, Nat.sub_self, Nat.pow_zero, Nat.div_one]
  refine ⟨size10_put h.hn hc1 hc2 hz, by omega, ?_, ?_, fun e => ?_, by omega, by omega, by omega⟩
  · rw [hnn, Nat.sub_self, Nat.pow_zero, Nat.div_one, hm0]
  · rw [h.ht, hnn, Nat.sub_self, Nat.sub_self, Nat.pow_zero, Nat.mod_one, Nat.mod_one]
  · have := h1 e; omega
theorem RF.put2 {N b p i m nd nm : Nat} {tr tr' : Bool} {dp c : Int} (h : RF N b p i m nd nm tr dp) (hp : p ≤ 1) (hc1 : 48 ≤ c) (hc2 : c ≤ 57) (hm : ¬ nm < 19) (htr : tr' = (tr || decide (c ≠ 48))) :
    RF (N * 10 + (c - 48).toNat) (b + p) p (i + 1) m (nd + 1) nm tr' dp := by
  have h0 := h.hnm
  have h1 := h.dpp
  have h2 := h.lo
  have h3 := h.hi
  have h4 := h.le
  have e : nd + 1 - nm = nd - nm + 1 := by omega
  have hq : (N * 10 + (c - 48).toNat) / 10 = N := by omega
  have hr : (N * 10 + (c - 48).toNat) % 10 = (c - 48).toNat := by omega
  refine ⟨size10_put h.hn hc1 hc2 (by omega), by omega, ?_, ?_, fun e => ?_, by omega, by omega, by omega⟩
  · rw [e, Nat.pow_succ, Nat.mul_comm (10 ^ (nd - nm)) 10, ← Nat.div_div_eq_div_mul, hq]; exact h.hm
  · rw [htr, h.ht, e, Nat.pow_succ, Nat.mul_comm (10 ^ _) 10, Nat.mod_mul, hq, hr]
    by_cases c0 : c = 48
    · subst c0
      by_cases r0 : N % 10 ^ (nd - nm) = 0
      · simp [r0]
      · have h6 : 10 * (N % 10 ^ (nd - nm)) ≠ 0 := by omega
        simp [r0, h6]
    · have : (c - 48).toNat ≠ 0 := by omega
      have h5 : (c - 48).toNat + 10 * (N % 10 ^ (nd - nm)) ≠ 0 := by omega
      rw [decide_eq_true h5, decide_eq_true c0, Bool.or_true]
  · have := h1 e; omega
theorem RF.point {N i m nd nm : Nat} {tr : Bool} {dp : Int} (h : RF N 0 0 i m nd nm tr dp) : RF N 0 1 (i + 1) m nd nm tr (nd : Int) := by
  have h4 := h.le
  exact ⟨h.hn, h.hnm, h.hm, h.ht, fun _ => by omega, by omega, by omega, by omega⟩
theorem RF.fin {N b p i m nd nm : Nat} {tr : Bool} {dp : Int} (h : RF N b p i m nd nm tr dp) : m = rfM N ∧ tr = rfT N ∧ (nd : Int) - nm = rfC N := by
  have h1 := h.hm
  have h2 := h.ht
  have h3 := h.hnm
  rw [h.hn] at h3
  have hc : nd - nm = rfC N := by unfold rfC; rw [h.hn, ← h3]
  refine ⟨by rw [h1, hc]; rfl, by rw [h2, hc]; rfl, ?_⟩
  have := h.hnm
  omega
theorem lower_fin : ∀ c : Fin 256, (c.val = 46 ∨ (48 ≤ c.val ∧ c.val ≤ 57) ∨ c.val = 101 ∨ c.val = 69) → (bits .or .u8 ((c.val : Nat) : Int) 32 == 120) = false := by decide +kernel
theorem lower_no {n : Nat} (h256 : n < 256) (h : ((n : Nat) : Int) = 46 ∨ (48 ≤ ((n : Nat) : Int) ∧ ((n : Nat) : Int) ≤ 57) ∨ ((n : Nat) : Int) = 101 ∨ ((n : Nat) : Int) = 69) : (bits .or .u8 ((n : Nat) : Int) 32 == 120) = false :=
  lower_fin ⟨n, h256⟩ (by show n = 46 ∨ (48 ≤ n ∧ n ≤ 57) ∨ n = 101 ∨ n = 69; omega)
theorem Txt.nox {s : ByteArray} {k b p : Nat} {ds : List Int} {x : Int} (h : Txt s k ds b p x) (h1 : 1 < s.size) : (bits .or .u8 ((s[1].toNat : Nat) : Int) 32 == 120) = false := by
  refine lower_no (by have := s[1].toNat_lt; exact this) ?_
  have hk0 := h.k0
  by_cases hk : 1 < k
  · rcases dp_at h hk h1 with g | g
    · exact .inl g
    · exact .inr (.inl g)
  · have hk1 : k = 1 := by omega
    rcases h.ex with ⟨g, _⟩ | ⟨g, g2⟩
    · omega
    · have := (exp_cases g2).1
      subst hk1
      rw [bs_getD g] at this
      rcases this with c | c
      · exact .inr (.inr (.inl c))
      · exact .inr (.inr (.inr c))
def RFR (N : Nat) (E : Int) (s : ByteArray) (w : World) (e : Ending) (w' : World) : Prop :=
  e = .returned (.tuple #[.int .u64 (rfM N), .int .i64 (rfE N E), .bool false, .bool (rfT N), .bool false, .int .i64 s.size, .bool true]) ∧ ∃ q, w' = w.drewN q
end Go.Proofs.YtmndipnifjpdjaaGreatDoor
