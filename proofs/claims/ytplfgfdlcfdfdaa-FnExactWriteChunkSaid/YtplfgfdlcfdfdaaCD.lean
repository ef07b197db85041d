import Derived.Test.YtplfgfdlcfdfdaaCC
import Derived.Test.YtplfgfdlcfdfdaaBE
import Derived.Test.YtplfgfdlcfdfdaaBD
import Derived.Deep.RegionHeld3
import Derived.Deep.Onto
import Derived.Deep.RegionLaw
import Derived.Lib.ConvBytes
namespace Go.Proofs.Ytplfgfdlcfdfdaa
open Go Go.RowKit
set_option linter.unusedVariables false

theorem OwnL.mono {w : World} {base base' : Nat} {v : Value} {L : List Int} (h : OwnL w base v L) (hb : base' ≤ base) : OwnL w base' v L := ⟨h.1.mono hb, h.2⟩
theorem parts_of {w : World} {T k : Nat} {vs : Array Value} {Ls : List (List Int)} (hk : vs.size = k) (hl : Ls.length = k) (h : ∀ i (hi : i < vs.size), PartA w vs[i] (Ls.getD i [])) : PartsA (w.alloc (.cells vs T)) (.slice (some ⟨w.heap.size, 0, none⟩) k k) k (fun i => Ls.getD i []) := by
  refine ⟨w.heap.size, 0, k, rfl, by simp, Nat.le_refl _, fun i hi => ⟨vs[i]'(by omega), ?_, (h i (by omega)).low (b_1 w _) (Nat.le_refl _)⟩⟩
  have hR := (RowF.mk' w T vs).cell (j := i) (by omega)
  rw [Nat.zero_add, hR]
  simp [show i < vs.size by omega]
theorem join_2 (L0 L1 : List Int) : joinL (fun i => [L0, L1].getD i []) 2 = L0 ++ L1 := by simp [joinL, List.range_succ]
theorem join_5 (L0 L1 L2 L3 L4 : List Int) : joinL (fun i => [L0, L1, L2, L3, L4].getD i []) 5 = L0 ++ (L1 ++ (L2 ++ (L3 ++ L4))) := by simp [joinL, List.range_succ]
theorem join2 {w : World} {T : Nat} {v0 v1 : Value} {L0 L1 : List Int} (h0 : PartA w v0 L0) (h1 : PartA w v1 L1) (n0 : L0.length ≤ 10000000) (n1 : L1.length ≤ 10000000) :
    Calls Try.prog 14 #[.slice (some ⟨w.heap.size, 0, none⟩) 2 2] (w.alloc (.cells #[v0, v1] T)) fun e w' => ∃ v', e = .returned v' ∧ OwnL w' w.heap.size v' (L0 ++ L1) ∧ Below w.heap.size w w' := by
  refine (join_any _ 2 (fun i => [L0, L1].getD i []) _ (by omega) (fun i hi => ?_) (parts_of rfl rfl fun i hi => ?_)).mono ?_
  · match i, hi with
    | 0, _ => exact n0
    | 1, _ => exact n1
  · match i, hi with
    | 0, _ => exact h0
    | 1, _ => exact h1
  · rintro e w' ⟨v', rfl, ho, hb⟩
    rw [join_2] at ho
    exact ⟨v', rfl, ho.mono (by simp), (b_1 w _).trans (hb.mono (by simp))⟩
theorem join5 {w : World} {T : Nat} {v0 v1 v2 v3 v4 : Value} {L0 L1 L2 L3 L4 : List Int} (h0 : PartA w v0 L0) (h1 : PartA w v1 L1) (h2 : PartA w v2 L2) (h3 : PartA w v3 L3) (h4 : PartA w v4 L4)
    (n0 : L0.length ≤ 10000000) (n1 : L1.length ≤ 10000000) (n2 : L2.length ≤ 10000000) (n3 : L3.length ≤ 10000000) (n4 : L4.length ≤ 10000000) :
    Calls Try.prog 14 #[.slice (some ⟨w.heap.size, 0, none⟩) 5 5] (w.alloc (.cells #[v0, v1, v2, v3, v4] T)) fun e w' => ∃ v', e = .returned v' ∧ OwnL w' w.heap.size v' (L0 ++ (L1 ++ (L2 ++ (L3 ++ L4)))) ∧ Below w.heap.size w w' := by
  refine (join_any _ 5 (fun i => [L0, L1, L2, L3, L4].getD i []) _ (by omega) (fun i hi => ?_) (parts_of rfl rfl fun i hi => ?_)).mono ?_
  · match i, hi with
    | 0, _ => exact n0
    | 1, _ => exact n1
    | 2, _ => exact n2
    | 3, _ => exact n3
    | 4, _ => exact n4
  · match i, hi with
    | 0, _ => exact h0
    | 1, _ => exact h1
    | 2, _ => exact h2
    | 3, _ => exact h3
    | 4, _ => exact h4
  · rintro e w' ⟨v', rfl, ho, hb⟩
    rw [join_5] at ho
    exact ⟨v', rfl, ho.mono (by simp), (b_1 w _).trans (hb.mono (by simp))⟩

theorem OwnL.low {w w' : World} {base B : Nat} {v : Value} {L : List Int} (h : OwnL w base v L) (hb : Below B w w') (hB : w.heap.size ≤ B) : OwnL w' base v L := by
  obtain ⟨⟨h1, h2⟩, hv⟩ := h
  rcases h2 with ⟨rfl, _⟩ | ⟨g, cap, cur, rfl, hBg, hh, hr⟩
  · exact absurd rfl hv
  · have hg : g < w.heap.size := by
      rcases Nat.lt_or_ge g w.heap.size with c | c
      · exact c
      · rw [Array.getElem?_eq_none c] at hh; cases hh
    exact ⟨⟨h1, .inr ⟨g, cap, cur, rfl, hBg, (hb.block g (Nat.lt_of_lt_of_le hg hB)).trans hh, hr⟩⟩, hv⟩
theorem via_drew {w w' : World} (h : Below w.drew.heap.size w.drew w') : Below w.heap.size w w' := (Below.refl w.heap.size w).drew.trans h
theorem OwnL.blk {w : World} {base : Nat} {v : Value} {L : List Int} (h : OwnL w base v L) : ∃ g cap, v = .slice (some ⟨g, 0, none⟩) L.length cap ∧ base ≤ g ∧ g < w.heap.size := by
  obtain ⟨⟨h1, h2⟩, hv⟩ := h
  rcases h2 with ⟨rfl, _⟩ | ⟨g, cap, cur, rfl, hBg, hh, hr⟩
  · exact absurd rfl hv
  · refine ⟨g, cap, rfl, hBg, ?_⟩
    rcases Nat.lt_or_ge g w.heap.size with c | c
    · exact c
    · rw [Array.getElem?_eq_none c] at hh; cases hh

theorem RowF.same {w w' : World} {T g N : Nat} {f : Nat → Value} (h : RowF w T g N f) (e : w'.heap[g]? = w.heap[g]?) : RowF w' T g N f := by
  obtain ⟨cur, h1, h2, h3⟩ := h
  exact ⟨cur, e.trans h1, h2, h3⟩
/-- A slice of bytes of the call's own doesn't lie in a block of another type. -/
theorem OwnL.apart {w : World} {base T g N : Nat} {v : Value} {L : List Int} {f : Nat → Value} (h : OwnL w base v L) (hr : RowF w T g N f) (hT : T ≠ 5) : v.ownBlock ≠ some g := by
  obtain ⟨⟨h1, h2⟩, hv⟩ := h
  obtain ⟨c2, e2, -⟩ := hr
  rcases h2 with ⟨rfl, _⟩ | ⟨g', cap, cur, rfl, hBg, hh, hr⟩
  · exact absurd rfl hv
  · intro e
    have e9 : g' = g := by simpa [Value.ownBlock] using e
    subst e9
    rw [hh] at e2
    simp at e2
    exact hT e2.2.symm

/-- 'append(out, p...)' within a region that draws. -/
theorem app_bytes_op {wr : World} {o : Oper} {a : Act} {K : Act → World → Prop} {Q : Exit → Act → World → Prop} (s x : Operand)
    (ho : o.op = .call { callee := .builtin .append, args := #[s, x], argTypes := #[26, 26] }) (base : Nat) (v u : Value) (L L2 : List Int) (hown : OwnL wr base v L) (hp : PartA wr u L2) (hs : a.eval s = v) (hx : a.eval x = u)
    (hlen : L.length + L2.length ≤ 100000000000000) (hbase : base ≤ wr.heap.size)
    (h : ∀ v' w', OwnL w' base v' (L ++ L2) → (∀ B w0, Below B w0 wr → B ≤ base → Below B w0 w') → (∀ gx, gx < wr.heap.size → v.ownBlock ≠ some gx → w'.heap[gx]? = wr.heap[gx]?) → K (a.put o.dst v') w') :
    o.wp Try.prog a wr K Q := by
  obtain ⟨i0, hi, hz0, hz1, hz2⟩ := info_parts Try.info5
  obtain ⟨b, off, cap, rfl, hb, hc⟩ := hp
  refine wp_append_own _ s x 26 ho base 5 i0 (.int .u8 0) 1 1 Try.underlying26 hi hz0 hz1 hz2 rfl (by decide) v L.length (L.map (Value.int .u8)) hs hown.1 ⟨b, off, none⟩ L2.length cap (L2.map (Value.int .u8)) hx (by simp)
    (fun j z hj => ?_) (fun z hz => ?_) (by unfold maxLen; omega) (by omega) hbase ?_
  · rw [List.getElem?_map] at hj
    obtain ⟨y, hy, rfl⟩ := Option.map_eq_some_iff.1 hj
    obtain ⟨hl, rfl⟩ := List.getElem?_eq_some_iff.1 hy
    rw [add_none', hc j hl, List.getD_eq_getElem?_getD, List.getElem?_eq_getElem hl]
    rfl
  · obtain ⟨y, _, rfl⟩ := List.mem_map.1 hz
    rfl
  · intro v' w' h1 h2 h3
    refine h v' w' ⟨by simpa using h1, fun hh => hown.2 (h3.1 hh).1⟩ (fun B w0 hb hB => hb.grown h2 (by omega) (fun q hq => ?_)) (fun gx hgx hne => h2.block gx hgx (fun e => hne e.symm))
    have := (hown.1.lt q hq).1
    omega

def u64n (v : Int) (n : Nat) : List Int := leI n (IntKind.u64.wrap v)
theorem u64n_len (v : Int) (n : Nat) : (u64n v n).length = n := leI_len n _
/-- The head of a function's bytes. -/
def hdL (p : PV) : List Int := u64n p.params 1 ++ ([flagI p.dots] ++ (u64n p.regs 1 ++ (u64n p.line 4 ++ u64n p.nu 1)))
def upL (p : PV) (k : Nat) : List Int := [flagI (p.u0 k)] ++ u64n (p.u1 k) 1
def txL (s : ByteArray) : List Int := s.data.toList.map fun c => (c.toNat : Int)
def coL (p : PV) (k : Nat) : List Int := [IntKind.u8.wrap (p.c0 k)] ++ (if p.c0 k = 4 then u64n (p.c1 k) 8 else if p.c0 k = 5 then u64n (wrap64 (p.c2 k)) 8 else u64n (p.c3 k).size 4 ++ txL (p.c3 k))
def inL (p : PV) (k : Nat) : List Int := u64n (p.i0 k) 1 ++ (u64n (p.i1 k) 1 ++ (u64n (p.i2 k) 4 ++ (u64n (p.i3 k) 4 ++ u64n (p.l0 k) 4)))
theorem joinL_len {F : Nat → List Int} {m : Nat} : ∀ i, (∀ k, k < i → (F k).length ≤ m) → (joinL F i).length ≤ i * m := by
  intro i
  induction i with
  | zero => intro _; simp [joinL]
  | succ i ih =>
    intro h
    have h1 := ih (fun k hk => h k (by omega))
    have h2 := h i (by omega)
    rw [← joinL_step, List.length_append, Nat.succ_mul]
    omega
theorem hdL_len (p : PV) : (hdL p).length = 8 := by simp [hdL, u64n, leI_len]
def S1 (p : PV) (i : Nat) : List Int := hdL p ++ joinL (upL p) i
def S2 (p : PV) (i : Nat) : List Int := (S1 p p.nu ++ u64n p.nc 2) ++ joinL (coL p) i
def S3 (p : PV) (i : Nat) : List Int := (S2 p p.nc ++ u64n p.ni 2) ++ joinL (inL p) i
/-- The bytes of a function. -/
def pbL (p : PV) : List Int := S3 p p.ni
theorem S1_0 (p : PV) : S1 p 0 = hdL p := by simp [S1, joinL]
theorem S2_0 (p : PV) : S2 p 0 = S1 p p.nu ++ u64n p.nc 2 := by simp [S2, joinL]
theorem S3_0 (p : PV) : S3 p 0 = S2 p p.nc ++ u64n p.ni 2 := by simp [S3, joinL]
theorem S1_1 (p : PV) (i : Nat) : S1 p i ++ upL p i = S1 p (i + 1) := by rw [S1, List.append_assoc, joinL_step]; rfl
theorem S2_1 (p : PV) (i : Nat) : S2 p i ++ coL p i = S2 p (i + 1) := by rw [S2, List.append_assoc, joinL_step]; rfl
theorem S3_1 (p : PV) (i : Nat) : S3 p i ++ inL p i = S3 p (i + 1) := by rw [S3, List.append_assoc, joinL_step]; rfl
theorem upL_len (p : PV) (k : Nat) : (upL p k).length = 2 := by simp [upL, u64n_len]
theorem inL_len (p : PV) (k : Nat) : (inL p k).length = 14 := by simp [inL, u64n_len]
theorem S1_len (p : PV) (i : Nat) : (S1 p i).length ≤ 8 + i * 2 := by
  have := joinL_len (F := upL p) (m := 2) i (fun k _ => Nat.le_of_eq (upL_len p k))
  rw [S1, List.length_append, hdL_len]
  omega
theorem txL_len (s : ByteArray) : (txL s).length = s.size := by rw [txL, List.length_map, Array.length_toList]; rfl
theorem coL_len (p : PV) (k : Nat) : (coL p k).length ≤ 9 + (p.c3 k).size := by
  unfold coL
  rw [List.length_append]
  split
  · rw [u64n_len, List.length_singleton]; omega
  · split
    · rw [u64n_len, List.length_singleton]; omega
    · rw [List.length_append, u64n_len, txL_len, List.length_singleton]; omega
theorem co_len (p : PV) (i : Nat) : (joinL (coL p) i).length ≤ 9 * i + szs p.c3 i := by
  induction i with
  | zero => simp [joinL]
  | succ i ih =>
    have := coL_len p i
    rw [← joinL_step, List.length_append, szs_1]
    omega
theorem S2_len (p : PV) (i : Nat) : (S2 p i).length ≤ 10 + 2 * p.nu + 9 * i + szs p.c3 i := by
  have h1 := S1_len p p.nu
  have h2 := co_len p i
  rw [S2, List.length_append, List.length_append, u64n_len]
  omega
theorem S3_len (p : PV) (i : Nat) : (S3 p i).length ≤ 12 + 2 * p.nu + 9 * p.nc + szs p.c3 p.nc + 14 * i := by
  have h1 := S2_len p p.nc
  have h2 := joinL_len (F := inL p) (m := 14) i (fun k _ => Nat.le_of_eq (inL_len p k))
  rw [S3, List.length_append, List.length_append, u64n_len]
  omega
theorem szs_le {x : Nat → ByteArray} {m : Nat} : ∀ n, (∀ k, k < n → (x k).size ≤ m) → szs x n ≤ n * m := by
  intro n
  induction n with
  | zero => intro _; simp [szs_0]
  | succ n ih =>
    intro h
    have h1 := ih (fun k hk => h k (by omega))
    have h2 := h n (by omega)
    rw [szs_1, Nat.succ_mul]
    omega
theorem szs_at {x : Nat → ByteArray} {n m i : Nat} (h : ∀ k, k < n → (x k).size ≤ m) (hi : i < n) : szs x i ≤ i * m ∧ (x i).size ≤ m := ⟨szs_le i (fun k hk => h k (by omega)), h i hi⟩
theorem txL_get {s : ByteArray} {j : Nat} (h : j < s.size) : (txL s).getD j 0 = ((s.data.toList.getD j 0).toNat : Int) := by
  have h1 : j < s.data.toList.length := by simpa using h
  rw [txL, List.getD_eq_getElem?_getD, List.getElem?_map, List.getD_eq_getElem?_getD, List.getElem?_eq_getElem h1]
  rfl
theorem conv_run (s : ByteArray) (w : World) : Sem.run Try.prog (convert 9 26 (.string s)) w = .ok (.slice (some ⟨w.heap.size, 0, none⟩) s.size (grownCap w s.size 0 5)) (Lib.bytesWorld w 5 s) :=
  Lib.run_convert_string_bytes w 9 26 5 s Try.underlying9 Try.underlying26 Try.underlying5
theorem conv_part (w : World) (s : ByteArray) : PartA (Lib.bytesWorld w 5 s) (.slice (some ⟨w.heap.size, 0, none⟩) s.size (grownCap w s.size 0 5)) (txL s) := by
  refine ⟨w.heap.size, 0, _, by rw [txL_len], by rw [Lib.bytesWorld_size]; omega, fun j hj => ?_⟩
  rw [txL_len] at hj
  rw [Nat.zero_add, Lib.bytesWorld_cell w 5 s j hj, txL_get hj]
theorem conv_below (w : World) (s : ByteArray) : Below w.heap.size w (Lib.bytesWorld w 5 s) := ⟨rfl, rfl, rfl, by rw [Lib.bytesWorld_size]; omega, fun j hj => Lib.bytesWorld_at_old w 5 s j hj⟩

set_option maxHeartbeats 12800000 in
set_option maxRecDepth 100000 in
theorem pb_any (p : PV) (s4 s5 s6 s7 : Value) (w : World) (hf : p.fits 1048576) (hl : p.nl = p.ni) (hbit : p.bitsOk) (h : PVA w p s4 s5 s6 s7) :
    Calls Try.prog 17 #[p.agg s4 s5 s6 s7] w fun e w' => ∃ v', e = .returned v' ∧ OwnL w' w.heap.size v' (pbL p) ∧ Below w.heap.size w w' := by
  obtain ⟨a4, k4, rfl⟩ := h.u.val
  obtain ⟨a5, k5, rfl⟩ := h.c.val
  obtain ⟨a6, k6, rfl⟩ := h.i.val
  obtain ⟨a7, k7, rfl⟩ := h.l.val
  obtain ⟨hf1, hf2, hf3, hf4, hf5⟩ := hf
  have HF := hide hf5
  have HBit := hide hbit
  have HNL := hide hl
  have HPC := hide (PC.mk w 46 p (.slice a4 p.nu k4) (.slice a5 p.nc k5) (.slice a6 p.ni k6) (.slice a7 p.nl k7))
  have HB0 := hide (b_1 w (.cells #[.int .i64 p.params, .int .i64 p.regs, .int .i64 p.line, .bool p.dots, .slice a4 p.nu k4, .slice a5 p.nc k5, .slice a6 p.ni k6, .slice a7 p.nl k7] 46))
  have HA := hide (h.low HB0.out (Nat.le_refl _))
  clear h hf5 hbit hl
  unfold PV.agg
  go_enter Try.func17, Try.ntmps17
  go_wp2_with fail
  generalize w.alloc (.cells #[.int .i64 p.params, .int .i64 p.regs, .int .i64 p.line, .bool p.dots, .slice a4 p.nu k4, .slice a5 p.nc k5, .slice a6 p.ni k6, .slice a7 p.nl k7] 46) = w1 at HPC HB0 HA ⊢
  have HB1 := hide (Below.refl w1.heap.size w1)
  obtain ⟨hl1, q10, q11, q12, q13, q14, q15, q16, q17⟩ := HPC.out
  go_region_held3 (fun w9 => w9.cell? ⟨w.heap.size, 0, none⟩ = some (.int .i64 p.params) ∧ w9.cell? ⟨w.heap.size, 1, none⟩ = some (.int .i64 p.regs) ∧ w9.cell? ⟨w.heap.size, 2, none⟩ = some (.int .i64 p.line) ∧ w9.cell? ⟨w.heap.size, 3, none⟩ = some (.bool p.dots) ∧ w9.cell? ⟨w.heap.size, 4, none⟩ = some (.slice a4 p.nu k4)) (go_keep)
    (first
      | (have _z := HB6
         go_at_call 14
         clear _z
         refine (join5 HP6_2.out HP6_3.out HP6_4.out HP6_5.out HP6_6.out (by rw [leI_len]; omega) (by simp) (by rw [leI_len]; omega) (by rw [leI_len]; omega) (by rw [leI_len]; omega)).mono ?_
         rintro e w7 ⟨v7, rfl, ho, hb⟩
         have HB7 := hide (HB6.out.trans (hb.mono HB6.out.size))
         have q70 := (hb.cell (p := ⟨w.heap.size, 0, none⟩) (Nat.lt_of_lt_of_le hl1 HB6.out.size)).trans q60
         have q71 := (hb.cell (p := ⟨w.heap.size, 1, none⟩) (Nat.lt_of_lt_of_le hl1 HB6.out.size)).trans q61
         have q72 := (hb.cell (p := ⟨w.heap.size, 2, none⟩) (Nat.lt_of_lt_of_le hl1 HB6.out.size)).trans q62
         have q73 := (hb.cell (p := ⟨w.heap.size, 3, none⟩) (Nat.lt_of_lt_of_le hl1 HB6.out.size)).trans q63
         have q74 := (hb.cell (p := ⟨w.heap.size, 4, none⟩) (Nat.lt_of_lt_of_le hl1 HB6.out.size)).trans q64
         have HO7 := hide (ho.mono HB6.out.size)
         clear ho hb)
      | (have _z := HB5
         go_at_call 15
         clear _z
         refine (put_any (p.nu : Int) 1 _ (by omega)).mono ?_
         rintro e w6 ⟨v6, rfl, ho, hb⟩
         obtain ⟨b6, o6, c6, rfl, -⟩ := ho.part
         have HB6 := hide (HB5.out.trans (hb.mono HB5.out.size))
         have q60 := (hb.cell (p := ⟨w.heap.size, 0, none⟩) (Nat.lt_of_lt_of_le hl1 HB5.out.size)).trans q50
         have q61 := (hb.cell (p := ⟨w.heap.size, 1, none⟩) (Nat.lt_of_lt_of_le hl1 HB5.out.size)).trans q51
         have q62 := (hb.cell (p := ⟨w.heap.size, 2, none⟩) (Nat.lt_of_lt_of_le hl1 HB5.out.size)).trans q52
         have q63 := (hb.cell (p := ⟨w.heap.size, 3, none⟩) (Nat.lt_of_lt_of_le hl1 HB5.out.size)).trans q53
         have q64 := (hb.cell (p := ⟨w.heap.size, 4, none⟩) (Nat.lt_of_lt_of_le hl1 HB5.out.size)).trans q54
         have HP6_2 := hide (HP5_2.out.low hb (Nat.le_refl _))
         have HP6_3 := hide (HP5_3.out.low hb (Nat.le_refl _))
         have HP6_4 := hide (HP5_4.out.low hb (Nat.le_refl _))
         have HP6_5 := hide (HP5_5.out.low hb (Nat.le_refl _))
         have HP6_6 := hide ho.part
         clear ho hb)
      | (have _z := HB4
         go_at_call 15
         clear _z
         refine (put_any p.line 4 _ (by omega)).mono ?_
         rintro e w5 ⟨v5, rfl, ho, hb⟩
         obtain ⟨b5, o5, c5, rfl, -⟩ := ho.part
         have HB5 := hide (HB4.out.trans (hb.mono HB4.out.size))
         have q50 := (hb.cell (p := ⟨w.heap.size, 0, none⟩) (Nat.lt_of_lt_of_le hl1 HB4.out.size)).trans q40
         have q51 := (hb.cell (p := ⟨w.heap.size, 1, none⟩) (Nat.lt_of_lt_of_le hl1 HB4.out.size)).trans q41
         have q52 := (hb.cell (p := ⟨w.heap.size, 2, none⟩) (Nat.lt_of_lt_of_le hl1 HB4.out.size)).trans q42
         have q53 := (hb.cell (p := ⟨w.heap.size, 3, none⟩) (Nat.lt_of_lt_of_le hl1 HB4.out.size)).trans q43
         have q54 := (hb.cell (p := ⟨w.heap.size, 4, none⟩) (Nat.lt_of_lt_of_le hl1 HB4.out.size)).trans q44
         have HP5_2 := hide (HP4_2.out.low hb (Nat.le_refl _))
         have HP5_3 := hide (HP4_3.out.low hb (Nat.le_refl _))
         have HP5_4 := hide (HP4_4.out.low hb (Nat.le_refl _))
         have HP5_5 := hide ho.part
         clear ho hb)
      | (have _z := HB3
         go_at_call 15
         clear _z
         refine (put_any p.regs 1 _ (by omega)).mono ?_
         rintro e w4 ⟨v4, rfl, ho, hb⟩
         obtain ⟨b4, o4, c4, rfl, -⟩ := ho.part
         have HB4 := hide (HB3.out.trans (hb.mono HB3.out.size))
         have q40 := (hb.cell (p := ⟨w.heap.size, 0, none⟩) (Nat.lt_of_lt_of_le hl1 HB3.out.size)).trans q30
         have q41 := (hb.cell (p := ⟨w.heap.size, 1, none⟩) (Nat.lt_of_lt_of_le hl1 HB3.out.size)).trans q31
         have q42 := (hb.cell (p := ⟨w.heap.size, 2, none⟩) (Nat.lt_of_lt_of_le hl1 HB3.out.size)).trans q32
         have q43 := (hb.cell (p := ⟨w.heap.size, 3, none⟩) (Nat.lt_of_lt_of_le hl1 HB3.out.size)).trans q33
         have q44 := (hb.cell (p := ⟨w.heap.size, 4, none⟩) (Nat.lt_of_lt_of_le hl1 HB3.out.size)).trans q34
         have HP4_2 := hide (HP3_2.out.low hb (Nat.le_refl _))
         have HP4_3 := hide (HP3_3.out.low hb (Nat.le_refl _))
         have HP4_4 := hide ho.part
         clear ho hb)
      | (have _z := HB2
         go_at_call 30
         clear _z
         refine (flag_any p.dots _).mono ?_
         rintro e w3 ⟨v3, rfl, ho, hb⟩
         obtain ⟨b3, o3, c3, rfl, -⟩ := ho.part
         have HB3 := hide (HB2.out.trans (hb.mono HB2.out.size))
         have q30 := (hb.cell (p := ⟨w.heap.size, 0, none⟩) (Nat.lt_of_lt_of_le hl1 HB2.out.size)).trans q20
         have q31 := (hb.cell (p := ⟨w.heap.size, 1, none⟩) (Nat.lt_of_lt_of_le hl1 HB2.out.size)).trans q21
         have q32 := (hb.cell (p := ⟨w.heap.size, 2, none⟩) (Nat.lt_of_lt_of_le hl1 HB2.out.size)).trans q22
         have q33 := (hb.cell (p := ⟨w.heap.size, 3, none⟩) (Nat.lt_of_lt_of_le hl1 HB2.out.size)).trans q23
         have q34 := (hb.cell (p := ⟨w.heap.size, 4, none⟩) (Nat.lt_of_lt_of_le hl1 HB2.out.size)).trans q24
         have HP3_2 := hide (HP2_2.out.low hb (Nat.le_refl _))
         have HP3_3 := hide ho.part
         clear ho hb)
      | (have _z := HB1
         go_at_call 15
         clear _z
         refine (put_any p.params 1 _ (by omega)).mono ?_
         rintro e w2 ⟨v2, rfl, ho, hb⟩
         obtain ⟨b2, o2, c2, rfl, -⟩ := ho.part
         have HB2 := hide (HB1.out.drew.trans (hb.mono HB1.out.size))
         have q20 := (hb.cell (p := ⟨w.heap.size, 0, none⟩) (Nat.lt_of_lt_of_le hl1 HB1.out.size)).trans q10
         have q21 := (hb.cell (p := ⟨w.heap.size, 1, none⟩) (Nat.lt_of_lt_of_le hl1 HB1.out.size)).trans q11
         have q22 := (hb.cell (p := ⟨w.heap.size, 2, none⟩) (Nat.lt_of_lt_of_le hl1 HB1.out.size)).trans q12
         have q23 := (hb.cell (p := ⟨w.heap.size, 3, none⟩) (Nat.lt_of_lt_of_le hl1 HB1.out.size)).trans q13
         have q24 := (hb.cell (p := ⟨w.heap.size, 4, none⟩) (Nat.lt_of_lt_of_le hl1 HB1.out.size)).trans q14
         have HP2_2 := hide ho.part
         clear ho hb))
  have HO := hide (show OwnL w7 w1.heap.size v7 (hdL p) from HO7.out)
  have hlen7 : (hdL p).length = 8 := by simp [hdL, u64n, leI_len]
  have HL7 := hide hlen7
  clear HP6_2 HP6_3 HP6_4 HP6_5 HP6_6 HP5_2 HP5_3 HP5_4 HP5_5 HP4_2 HP4_3 HP4_4 HP3_2 HP3_3 HP2_2 HO7 hlen7
  go_wp2_with fail
  have HSz := hide (szs_le p.nc HF.out)
  rename_i hH K1 a1
  have HK1 := hide a1
  clear a1 hH q70 q71 q72 q73 q74 q60 q61 q62 q63 q64 q50 q51 q52 q53 q54 q40 q41 q42 q43 q44 q30 q31 q32 q33 q34 q20 q21 q22 q23 q24 HB2 HB3 HB4 HB5 HB6
  go_loopw [3, 31] (fun ov iv wr => ∃ i : Nat, i ≤ p.nu ∧ iv = .int .i64 i ∧ Hid (OwnL wr w1.heap.size ov (S1 p i)) ∧ Hid (Below w1.heap.size w1 wr)) (fun _ iv _ => match iv with | .int _ x => p.nu - x.toNat | _ => 0)
  case atStart => exact ⟨0, by omega, rfl, hide (by rw [S1_0]; exact HO.out), HB7⟩
  case round =>
    clear HO HB7
    obtain ⟨i, hi9, rfl, HOw, HBw⟩ := hrel
    by_cases hin : i < p.nu
    · rcases HA.out.u with ⟨h9, _⟩ | ⟨b, o, cap, e, hb, hcap, hc⟩
      · omega
      · cases e
        have c0 := (HBw.out.cell (p := ⟨b, o + i * 2, none⟩) hb).trans (hc i hin).1
        have c1 := (HBw.out.cell (p := ⟨b, o + i * 2 + 1, none⟩) hb).trans (hc i hin).2
        clear hc
        have HLw := hide (S1_len p i)
        obtain ⟨L, hLL⟩ : ∃ L, L = S1 p i := ⟨_, rfl⟩
        rw [← hLL] at HOw HLw
        have HLL := hide hLL
        clear hLL
        obtain ⟨g8, k8, rfl, hg8, hg9⟩ := HOw.out.blk
        go_wp2_with fail
        have HB1 := hide (HBw.out.alloc HBw.out.size (.cells #[.bool (p.u0 i), .int .i64 (p.u1 i)] 71))
        have HO1 := hide (HOw.out.low (b_1 wr (.cells #[.bool (p.u0 i), .int .i64 (p.u1 i)] 71)) (Nat.le_refl _))
        have HR1 := hide (RowF.mk' wr 71 #[.bool (p.u0 i), .int .i64 (p.u1 i)])
        have q10 : (wr.alloc (.cells #[.bool (p.u0 i), .int .i64 (p.u1 i)] 71)).cell? ⟨wr.heap.size, 0, none⟩ = some (.bool (p.u0 i)) := HR1.out.cell (j := 0) (by simp)
        have q11 : (wr.alloc (.cells #[.bool (p.u0 i), .int .i64 (p.u1 i)] 71)).cell? ⟨wr.heap.size, 1, none⟩ = some (.int .i64 (p.u1 i)) := HR1.out.cell (j := 1) (by simp)
        clear c0 c1
        generalize wr.alloc (.cells #[.bool (p.u0 i), .int .i64 (p.u1 i)] 71) = wx at *
        go_region_held3 (fun w9 => w9.cell? ⟨wr.heap.size, 0, none⟩ = some (.bool (p.u0 i)) ∧ w9.cell? ⟨wr.heap.size, 1, none⟩ = some (.int .i64 (p.u1 i))) (go_keep)
          (first
            | (have _z := HB3
               go_at_call 14
               clear _z
               refine (join2 HP3_2.out HP3_3.out (by simp) (by rw [leI_len]; omega)).mono ?_
               rintro e w4 ⟨v4, rfl, ho, hb⟩
               have HB4 := hide (HB3.out.trans (hb.mono HB3.out.size))
               have HR4 := hide (HR3.out.low hb HR3.out.lt)
               have q40 : w4.cell? ⟨wr.heap.size, 0, none⟩ = some (.bool (p.u0 i)) := HR4.out.cell (j := 0) (by simp)
               have q41 : w4.cell? ⟨wr.heap.size, 1, none⟩ = some (.int .i64 (p.u1 i)) := HR4.out.cell (j := 1) (by simp)
               have HO4 := hide (HO3.out.low hb (Nat.le_refl _))
               have HJ4 := hide ho
               clear ho hb q30 q31)
            | (have _z := HB4
               rw [if_pos (by rfl)]
               clear _z
               refine app_bytes_op _ _ rfl w1.heap.size _ _ (L) (upL p i) HO4.out HJ4.out.part rfl rfl (by have := HLw.out; rw [upL_len]; omega) HB4.out.size ?_
               intro v5 w5 ho hb hc
               have HR5 := hide (HR4.out.same (hc _ HR4.out.lt (HO4.out.apart HR4.out (by decide))))
               have HB5 := hide (hb _ _ HB4.out (Nat.le_refl _))
               have q50 : w5.cell? ⟨wr.heap.size, 0, none⟩ = some (.bool (p.u0 i)) := HR5.out.cell (j := 0) (by simp)
               have q51 : w5.cell? ⟨wr.heap.size, 1, none⟩ = some (.int .i64 (p.u1 i)) := HR5.out.cell (j := 1) (by simp)
               have HO5 := hide ho
               clear ho hb hc q40 q41)
            | (have _z := HB2
               go_at_call 15
               clear _z
               refine (put_any (p.u1 i) 1 _ (by omega)).mono ?_
               rintro e w3 ⟨v3, rfl, ho, hb⟩
               obtain ⟨b3, o3, c3, rfl, -⟩ := ho.part
               have HB3 := hide (HB2.out.trans (hb.mono HB2.out.size))
               have HR3 := hide (HR2.out.low hb HR2.out.lt)
               have q30 : w3.cell? ⟨wr.heap.size, 0, none⟩ = some (.bool (p.u0 i)) := HR3.out.cell (j := 0) (by simp)
               have q31 : w3.cell? ⟨wr.heap.size, 1, none⟩ = some (.int .i64 (p.u1 i)) := HR3.out.cell (j := 1) (by simp)
               have HO3 := hide (HO2.out.low hb (Nat.le_refl _))
               have HP3_2 := hide (HP2_2.out.low hb (Nat.le_refl _))
               have HP3_3 := hide ho.part
               clear ho hb q20 q21)
            | (have _z := HB1
               go_at_call 30
               clear _z
               refine (flag_any (p.u0 i) _).mono ?_
               rintro e w2 ⟨v2, rfl, ho, hb⟩
               obtain ⟨b2, o2, c2, rfl, -⟩ := ho.part
               replace hb := via_drew hb
               have HB2 := hide (HB1.out.trans (hb.mono HB1.out.size))
               have HR2 := hide (HR1.out.low hb HR1.out.lt)
               have q20 : w2.cell? ⟨wr.heap.size, 0, none⟩ = some (.bool (p.u0 i)) := HR2.out.cell (j := 0) (by simp)
               have q21 : w2.cell? ⟨wr.heap.size, 1, none⟩ = some (.int .i64 (p.u1 i)) := HR2.out.cell (j := 1) (by simp)
               have HO2 := hide (HO1.out.low hb (Nat.le_refl _))
               have HP2_2 := hide ho.part
               clear ho hb q10 q11))
        have HX := hide (show OwnL w5 w1.heap.size v5 (S1 p (i + 1)) from by
          have h9 := HO5.out
          rw [HLL.out, S1_1] at h9
          exact h9)
        clear HP2_2 HP3_2 HP3_3 HO2 HO3 HO4 HJ4 HO5 HO1 HOw HLL HLw
        go_wp2_with fail
        go_roundw
        case rel => exact ⟨i + 1, by omega, by simp, HX, HB5⟩
        case measure => simp; omega
    · obtain rfl : i = p.nu := by omega
      go_wp2
      refine HK1.out _ _ ?_
      clear HK1
      obtain ⟨-, -, -, -, -, d4, d5, d6, d7⟩ := HPC.out.low HBw.out hl1
      go_wp2_with fail
      clear d4 d5 d6 d7
      refine (put_any (p.nc : Int) 2 wr (by omega)).mono ?_
      rintro e wa ⟨va, rfl, ho, hb⟩
      obtain ⟨ba, oa, ca, rfl, -⟩ := ho.part
      have HOa := hide (HOw.out.low hb (Nat.le_refl _))
      have HJa := hide ho.part
      have HBa := hide (HBw.out.trans (hb.mono HBw.out.size))
      have HLa := hide (S1_len p p.nu)
      clear ho hb
      obtain ⟨L, hLL⟩ : ∃ L, L = S1 p p.nu := ⟨_, rfl⟩
      rw [← hLL] at HOw HOa HLa
      have HLL := hide hLL
      clear hLL
      go_wp2_with (first
        | (at_builtin
           refine app_bytes rfl _ _ rfl w1.heap.size _ _ L (u64n p.nc 2) HOa.out HJa.out rfl rfl (by have := HLa.out; have := HSz.out; rw [u64n_len]; omega) HBa.out.size ?_
           intro vb wb hob hgrow _
           have HBb := hide (hgrow _ _ HBa.out (Nat.le_refl _))
           have HOb := hide (show OwnL wb w1.heap.size vb (S2 p 0) from by rw [S2_0, ← HLL.out]; exact hob)
           clear hob hgrow
           obtain ⟨-, -, -, -, -, d4, d5, d6, d7⟩ := HPC.out.low HBb.out hl1)
        | go_in)
      clear HOa HJa HBa HLa HOw HBw HLL d4 d5 d6 d7
      rename_i K2 a2
      have HK2 := hide a2
      clear a2
      go_loopw [3, 55] (fun ov iv wr => ∃ i : Nat, i ≤ p.nc ∧ iv = .int .i64 i ∧ Hid (OwnL wr w1.heap.size ov (S2 p i)) ∧ Hid (Below w1.heap.size w1 wr)) (fun _ iv _ => match iv with | .int _ x => p.nc - x.toNat | _ => 0)
      case atStart => exact ⟨0, by omega, rfl, HOb, HBb⟩
      case round =>
        clear HOb HBb
        obtain ⟨i, hi9, rfl, HOw, HBw⟩ := hrel
        by_cases hin : i < p.nc
        · rcases HA.out.c with ⟨h9, _⟩ | ⟨b, o, cap, e, hb, hcap, hc⟩
          · omega
          · cases e
            have c0 := (HBw.out.cell (p := ⟨b, o + i * 4, none⟩) hb).trans (hc i hin).1
            have c1 := (HBw.out.cell (p := ⟨b, o + i * 4 + 1, none⟩) hb).trans (hc i hin).2.1
            have c2 := (HBw.out.cell (p := ⟨b, o + i * 4 + 2, none⟩) hb).trans (hc i hin).2.2.1
            have c3 := (HBw.out.cell (p := ⟨b, o + i * 4 + 3, none⟩) hb).trans (hc i hin).2.2.2
            clear hc
            have HLw := hide (S2_len p i)
            obtain ⟨L, hLL⟩ : ∃ L, L = S2 p i := ⟨_, rfl⟩
            rw [← hLL] at HOw HLw
            have HLL := hide hLL
            clear hLL
            obtain ⟨g8, k8, rfl, hg8, hg9⟩ := HOw.out.blk
            obtain ⟨kd, hkd⟩ : ∃ kd, kd = p.c0 i := ⟨_, rfl⟩
            rw [← hkd] at c0
            have HKD := hide hkd
            clear hkd
            have HB1 := hide (HBw.out.alloc HBw.out.size (.cells #[.int .i64 kd, .int .i64 (p.c1 i), .int .u64 (p.c2 i), .string (p.c3 i)] 73))
            have HO1 := hide (HOw.out.low (b_1 wr (.cells #[.int .i64 kd, .int .i64 (p.c1 i), .int .u64 (p.c2 i), .string (p.c3 i)] 73)) (Nat.le_refl _))
            have HR1 := hide (RowF.mk' wr 73 #[.int .i64 kd, .int .i64 (p.c1 i), .int .u64 (p.c2 i), .string (p.c3 i)])
            have HSi := hide (szs_at HF.out hin)
            by_cases h4 : kd = 4
            · subst h4
              go_wp2_with (first
              | (go_at_call 15
                 refine (put_any _ 8 _ (by omega)).mono ?_
                 rintro e wc ⟨vc, rfl, ho, hb⟩
                 obtain ⟨bc, oc, cc, rfl, -⟩ := ho.part
                 have HBc := hide (HBb.out.trans (hb.mono HBb.out.size))
                 have HOc := hide (HOb.out.low hb (Nat.le_refl _))
                 have HPc := hide ho.part
                 clear ho hb)
              | (have _z := HBc
                 at_builtin
                 clear _z
                 refine app_bytes rfl _ _ rfl w1.heap.size _ _ _ _ HOc.out HPc.out rfl rfl (by have := HLw.out; have := HSi.out; rw [List.length_append, leI_len, List.length_singleton]; omega) HBc.out.size ?_
                 intro vd wd hod hgrow _
                 have HBd := hide (hgrow _ _ HBc.out (Nat.le_refl _))
                 have HOd := hide hod
                 clear hod hgrow)
              | (have _z := HO1
                 at_builtin
                 clear _z
                 refine app_byte rfl _ _ rfl w1.heap.size _ L _ HO1.out rfl (by show Value.slice (some ⟨wr.heap.size + 1, 0, none⟩) 1 1 = _; simp) (by have := HLw.out; have := HSi.out; omega) HB1.out.size ?_
                 intro vb wb hob hgrow hc
                 have HBb := hide (hgrow _ _ HB1.out (Nat.le_refl _))
                 have HOb := hide hob
                 have HRb := hide (HR1.out.same (hc _ HR1.out.lt (HO1.out.apart HR1.out (by decide))))
                 have r0 : wb.cell? ⟨wr.heap.size, 0, none⟩ = some (.int .i64 4) := HRb.out.cell (j := 0) (by simp)
                 have r1 : wb.cell? ⟨wr.heap.size, 1, none⟩ = some (.int .i64 (p.c1 i)) := HRb.out.cell (j := 1) (by simp)
                 have r2 : wb.cell? ⟨wr.heap.size, 2, none⟩ = some (.int .u64 (p.c2 i)) := HRb.out.cell (j := 2) (by simp)
                 have r3 : wb.cell? ⟨wr.heap.size, 3, none⟩ = some (.string (p.c3 i)) := HRb.out.cell (j := 3) (by simp)
                 clear hob hgrow hc HO1 HB1)
              | go_in)
              have HX := hide (show OwnL wd w1.heap.size vd (S2 p (i + 1)) from by
                have h9 := HOd.out
                rw [HLL.out] at h9
                rw [← S2_1, coL, ← HKD.out]
                simpa [show IntKind.u8.wrap 4 = 4 from rfl, u64n] using h9)
              go_roundw
              case rel => exact ⟨i + 1, by omega, by simp, HX, HBd⟩
              case measure => simp; omega
            · by_cases h5 : kd = 5
              · subst h5
                go_wp2_with (first
                | (go_at_call 15
                   refine (put_any _ 8 _ (by omega)).mono ?_
                   rintro e wc ⟨vc, rfl, ho, hb⟩
                   obtain ⟨bc, oc, cc, rfl, -⟩ := ho.part
                   have HBc := hide (HBb.out.trans (hb.mono HBb.out.size))
                   have HOc := hide (HOb.out.low hb (Nat.le_refl _))
                   have HPc := hide ho.part
                   clear ho hb)
                | (have _z := HBc
                   at_builtin
                   clear _z
                   refine app_bytes rfl _ _ rfl w1.heap.size _ _ _ _ HOc.out HPc.out rfl rfl (by have := HLw.out; have := HSi.out; rw [List.length_append, leI_len, List.length_singleton]; omega) HBc.out.size ?_
                   intro vd wd hod hgrow _
                   have HBd := hide (hgrow _ _ HBc.out (Nat.le_refl _))
                   have HOd := hide hod
                   clear hod hgrow)
                | (have _z := HO1
                   at_builtin
                   clear _z
                   refine app_byte rfl _ _ rfl w1.heap.size _ L _ HO1.out rfl (by show Value.slice (some ⟨wr.heap.size + 1, 0, none⟩) 1 1 = _; simp) (by have := HLw.out; have := HSi.out; omega) HB1.out.size ?_
                   intro vb wb hob hgrow hc
                   have HBb := hide (hgrow _ _ HB1.out (Nat.le_refl _))
                   have HOb := hide hob
                   have HRb := hide (HR1.out.same (hc _ HR1.out.lt (HO1.out.apart HR1.out (by decide))))
                   have r0 : wb.cell? ⟨wr.heap.size, 0, none⟩ = some (.int .i64 5) := HRb.out.cell (j := 0) (by simp)
                   have r1 : wb.cell? ⟨wr.heap.size, 1, none⟩ = some (.int .i64 (p.c1 i)) := HRb.out.cell (j := 1) (by simp)
                   have r2 : wb.cell? ⟨wr.heap.size, 2, none⟩ = some (.int .u64 (p.c2 i)) := HRb.out.cell (j := 2) (by simp)
                   have r3 : wb.cell? ⟨wr.heap.size, 3, none⟩ = some (.string (p.c3 i)) := HRb.out.cell (j := 3) (by simp)
                   clear hob hgrow hc HO1 HB1)
                | go_in)
                have HX := hide (show OwnL wd w1.heap.size vd (S2 p (i + 1)) from by
                  have h9 := HOd.out
                  rw [HLL.out] at h9
                  rw [← S2_1, coL, ← HKD.out]
                  simpa [show IntKind.u8.wrap 5 = 5 from rfl, u64n] using h9)
                go_roundw
                case rel => exact ⟨i + 1, by omega, by simp, HX, HBd⟩
                case measure => simp; omega
              · have n4 : (kd == 4) = false := by simp; exact h4
                have n5 : (kd == 5) = false := by simp; exact h5
                go_wp2_with (first
                | (have _z := HO1
                   at_builtin
                   clear _z
                   refine app_byte rfl _ _ rfl w1.heap.size _ L _ HO1.out rfl (by show Value.slice (some ⟨wr.heap.size + 1, 0, none⟩) 1 1 = _; simp) (by have := HLw.out; have := HSi.out; omega) HB1.out.size ?_
                   intro vb wb hob hgrow hc
                   have HBb := hide (hgrow _ _ HB1.out (Nat.le_refl _))
                   have HOb := hide hob
                   have HRb := hide (HR1.out.same (hc _ HR1.out.lt (HO1.out.apart HR1.out (by decide))))
                   have r0 : wb.cell? ⟨wr.heap.size, 0, none⟩ = some (.int .i64 kd) := HRb.out.cell (j := 0) (by simp)
                   have r1 : wb.cell? ⟨wr.heap.size, 1, none⟩ = some (.int .i64 (p.c1 i)) := HRb.out.cell (j := 1) (by simp)
                   have r2 : wb.cell? ⟨wr.heap.size, 2, none⟩ = some (.int .u64 (p.c2 i)) := HRb.out.cell (j := 2) (by simp)
                   have r3 : wb.cell? ⟨wr.heap.size, 3, none⟩ = some (.string (p.c3 i)) := HRb.out.cell (j := 3) (by simp)
                   clear hob hgrow hc HO1 HB1)
                | go_in)
                have HOc := hide (show OwnL wb w1.heap.size vb (L ++ [IntKind.u8.wrap kd]) from HOb.out)
                obtain ⟨L9, hL9⟩ : ∃ L9, L9 = L ++ [IntKind.u8.wrap kd] := ⟨_, rfl⟩
                rw [← hL9] at HOc
                have HL9 := hide hL9
                have HLn := hide (show L9.length = L.length + 1 by rw [hL9]; simp)
                clear hL9 HOb
                obtain ⟨g9, k9, rfl, hg8', hg9'⟩ := HOc.out.blk
                have HO1 := HOc
                have HB1 := HBb
                have HR1 := HRb
                have hconv := conv_run (p.c3 i)
                have rB : (Lib.bytesWorld wb.drew 5 (p.c3 i)).cell? ⟨wr.heap.size, 3, none⟩ = some (.string (p.c3 i)) := ((conv_below wb.drew (p.c3 i)).cell (p := ⟨wr.heap.size, 3, none⟩) HRb.out.lt).trans r3
                go_region_law
                  (first
                  | (have _z := HU3
                     go_simp
                     go_at_call 14
                     clear _z
                     refine (join2 HU3.out HV3.out (by rw [leI_len]; omega) (by rw [txL_len]; have := HSi.out; omega)).mono ?_
                     rintro e w4 ⟨v4, rfl, ho, hb⟩
                     have HB4 := hide (HB3.out.trans (hb.mono HB3.out.size))
                     have HR4 := hide (HR3.out.low hb HR3.out.lt)
                     have HO4 := hide (HO3.out.low hb (Nat.le_refl _))
                     have HJ4 := hide ho
                     clear ho hb)
                  | (have _z := HB4
                     rw [if_pos (by rfl)]
                     clear _z
                     refine app_bytes_op _ _ rfl w1.heap.size _ _ L9 (u64n (p.c3 i).size 4 ++ txL (p.c3 i)) HO4.out HJ4.out.part rfl rfl (by have := HLw.out; have := HSi.out; have := HLn.out; rw [List.length_append, u64n_len, txL_len]; omega) HB4.out.size ?_
                     intro v5 w5 ho hb _
                     have HB5 := hide (hb _ _ HB4.out (Nat.le_refl _))
                     have HO5 := hide ho
                     clear ho hb)
                  | (have _z := HU2
                     go_simp
                     go_at_call 14
                     clear _z
                     have hb0 := conv_below w2 (p.c3 i)
                     have HB3 := hide (HB2.out.trans (hb0.mono HB2.out.size))
                     have HR3 := hide (HR2.out.low hb0 HR2.out.lt)
                     have HO3 := hide (HO2.out.low hb0 (Nat.le_refl _))
                     have HU3 := hide (HU2.out.low hb0 (Nat.le_refl _))
                     have HV3 := hide (conv_part w2 (p.c3 i))
                     clear hb0
                     refine (join2 HU3.out HV3.out (by rw [leI_len]; omega) (by rw [txL_len]; have := HSi.out; omega)).mono ?_
                     rintro e w4 ⟨v4, rfl, ho, hb⟩
                     have HB4 := hide (HB3.out.trans (hb.mono HB3.out.size))
                     have HR4 := hide (HR3.out.low hb HR3.out.lt)
                     have HO4 := hide (HO3.out.low hb (Nat.le_refl _))
                     have HJ4 := hide ho
                     clear ho hb)
                  | (go_simp
                     go_at_call 15
                     show Calls _ _ _ (Lib.bytesWorld _ _ _) _
                     have hb0 := conv_below wb.drew (p.c3 i)
                     have HB9 := hide (HB1.out.drew.trans (hb0.mono HB1.out.size))
                     have HR9 := hide (HR1.out.low ((Below.refl _ _).drew.trans hb0) HR1.out.lt)
                     have HO9 := hide (HO1.out.low ((Below.refl _ _).drew.trans hb0) (Nat.le_refl _))
                     have HV9 := hide (conv_part wb.drew (p.c3 i))
                     clear hb0
                     refine (put_any ((p.c3 i).size : Int) 4 _ (by omega)).mono ?_
                     rintro e w3 ⟨v3, rfl, ho, hb⟩
                     obtain ⟨b3, o3, c3, rfl, -⟩ := ho.part
                     have HB3 := hide (HB9.out.trans (hb.mono HB9.out.size))
                     have HR3 := hide (HR9.out.low hb HR9.out.lt)
                     have HO3 := hide (HO9.out.low hb (Nat.le_refl _))
                     have HV3 := hide (HV9.out.low hb (Nat.le_refl _))
                     have HU3 := hide ho.part
                     clear ho hb)
                  | (go_simp
                     go_at_call 15
                     refine (put_any ((p.c3 i).size : Int) 4 _ (by omega)).mono ?_
                     rintro e w2 ⟨v2, rfl, ho, hb⟩
                     obtain ⟨b2, o2, c2, rfl, -⟩ := ho.part
                     have HB2 := hide (HB1.out.drew.trans (hb.mono HB1.out.size))
                     have HR2 := hide (HR1.out.low ((Below.refl _ _).drew.trans hb) HR1.out.lt)
                     have HO2 := hide (HO1.out.low ((Below.refl _ _).drew.trans hb) (Nat.le_refl _))
                     have q23 : w2.cell? ⟨wr.heap.size, 3, none⟩ = some (.string (p.c3 i)) := HR2.out.cell (j := 3) (by simp)
                     have HU2 := hide ho.part
                     clear ho hb))
                all_goals
                  have HX := hide (show OwnL w5 w1.heap.size v5 (S2 p (i + 1)) from by
                    have h9 := HO5.out
                    rw [HL9.out, HLL.out] at h9
                    rw [← S2_1, coL, ← HKD.out, if_neg h4, if_neg h5]
                    simpa using h9)
                  clear HO5 HO4 HO3 HJ4 HU3 HV3 HR3 HR4
                all_goals go_wp2_with fail
                all_goals go_roundw
                all_goals first | exact ⟨i + 1, by omega, by simp, HX, HB5⟩ | (simp; omega)
        · obtain rfl : i = p.nc := by omega
          go_wp2
          refine HK2.out _ _ ?_
          clear HK2
          obtain ⟨-, -, -, -, -, d4, d5, d6, d7⟩ := HPC.out.low HBw.out hl1
          go_wp2_with fail
          clear d4 d5 d6 d7
          refine (put_any (p.ni : Int) 2 wr (by omega)).mono ?_
          rintro e wa ⟨va, rfl, ho, hb⟩
          obtain ⟨ba, oa, ca, rfl, -⟩ := ho.part
          have HOa := hide (HOw.out.low hb (Nat.le_refl _))
          have HJa := hide ho.part
          have HBa := hide (HBw.out.trans (hb.mono HBw.out.size))
          have HLa := hide (S2_len p p.nc)
          clear ho hb
          obtain ⟨L, hLL⟩ : ∃ L, L = S2 p p.nc := ⟨_, rfl⟩
          rw [← hLL] at HOw HOa HLa
          have HLL := hide hLL
          clear hLL
          go_wp2_with (first
            | (at_builtin
               refine app_bytes rfl _ _ rfl w1.heap.size _ _ L (u64n p.ni 2) HOa.out HJa.out rfl rfl (by have := HLa.out; have := HSz.out; rw [u64n_len]; omega) HBa.out.size ?_
               intro vb wb hob hgrow _
               have HBb := hide (hgrow _ _ HBa.out (Nat.le_refl _))
               have HOb := hide (show OwnL wb w1.heap.size vb (S3 p 0) from by rw [S3_0, ← HLL.out]; exact hob)
               clear hob hgrow
               obtain ⟨-, -, -, -, -, d4, d5, d6, d7⟩ := HPC.out.low HBb.out hl1)
            | go_in)
          clear HOa HJa HBa HLa HOw HBw HLL d4 d5 d6 d7
          rename_i K3 a3
          have HK3 := hide a3
          clear a3
          go_loopw [3, 103] (fun ov iv wr => ∃ i : Nat, i ≤ p.ni ∧ iv = .int .i64 i ∧ Hid (OwnL wr w1.heap.size ov (S3 p i)) ∧ Hid (Below w1.heap.size w1 wr)) (fun _ iv _ => match iv with | .int _ x => p.ni - x.toNat | _ => 0)
          case atStart => exact ⟨0, by omega, rfl, HOb, HBb⟩
          case round =>
            clear HOb HBb
            obtain ⟨i, hi9, rfl, HOw, HBw⟩ := hrel
            by_cases hin : i < p.ni
            · rcases HA.out.i with ⟨h9, _⟩ | ⟨b, o, cap, e, hb, hcap, hc⟩
              · omega
              · cases e
                have c0 := (HBw.out.cell (p := ⟨b, o + i * 4, none⟩) hb).trans (hc i hin).1
                have c1 := (HBw.out.cell (p := ⟨b, o + i * 4 + 1, none⟩) hb).trans (hc i hin).2.1
                have c2 := (HBw.out.cell (p := ⟨b, o + i * 4 + 2, none⟩) hb).trans (hc i hin).2.2.1
                have c3 := (HBw.out.cell (p := ⟨b, o + i * 4 + 3, none⟩) hb).trans (hc i hin).2.2.2
                clear hc
                have HLw := hide (S3_len p i)
                obtain ⟨L, hLL⟩ : ∃ L, L = S3 p i := ⟨_, rfl⟩
                rw [← hLL] at HOw HLw
                have HLL := hide hLL
                clear hLL
                obtain ⟨g8, k8, rfl, hg8, hg9⟩ := HOw.out.blk
                rcases HA.out.l with ⟨h8, _⟩ | ⟨b7, o7, cap7, e7, hb7, hcap7, hc7⟩
                · have := HNL.out; omega
                cases e7
                have cL := hc7 i (by have := HNL.out; omega)
                have hiL : (i : Int) < (p.nl : Int) := by have := HNL.out; omega
                clear hc7
                go_wp2_with fail
                have HB1 := hide (HBw.out.alloc HBw.out.size (.cells #[.int .i64 (p.i0 i), .int .i64 (p.i1 i), .int .i64 (p.i2 i), .int .i64 (p.i3 i)] 76))
                have HO1 := hide (HOw.out.low (b_1 wr (.cells #[.int .i64 (p.i0 i), .int .i64 (p.i1 i), .int .i64 (p.i2 i), .int .i64 (p.i3 i)] 76)) (Nat.le_refl _))
                have HR1 := hide (RowF.mk' wr 76 #[.int .i64 (p.i0 i), .int .i64 (p.i1 i), .int .i64 (p.i2 i), .int .i64 (p.i3 i)])
                clear c0 c1 c2 c3
                have HQ7 := hide q17
                clear q10 q11 q12 q13 q14 q15 q16 q17
                have HQL := hide cL
                clear cL
                have q10 : (wr.alloc (.cells #[.int .i64 (p.i0 i), .int .i64 (p.i1 i), .int .i64 (p.i2 i), .int .i64 (p.i3 i)] 76)).cell? ⟨wr.heap.size, 0, none⟩ = some (.int .i64 (p.i0 i)) := HR1.out.cell (j := 0) (by simp)
                have q11 : (wr.alloc (.cells #[.int .i64 (p.i0 i), .int .i64 (p.i1 i), .int .i64 (p.i2 i), .int .i64 (p.i3 i)] 76)).cell? ⟨wr.heap.size, 1, none⟩ = some (.int .i64 (p.i1 i)) := HR1.out.cell (j := 1) (by simp)
                have q12 : (wr.alloc (.cells #[.int .i64 (p.i0 i), .int .i64 (p.i1 i), .int .i64 (p.i2 i), .int .i64 (p.i3 i)] 76)).cell? ⟨wr.heap.size, 2, none⟩ = some (.int .i64 (p.i2 i)) := HR1.out.cell (j := 2) (by simp)
                have q13 : (wr.alloc (.cells #[.int .i64 (p.i0 i), .int .i64 (p.i1 i), .int .i64 (p.i2 i), .int .i64 (p.i3 i)] 76)).cell? ⟨wr.heap.size, 3, none⟩ = some (.int .i64 (p.i3 i)) := HR1.out.cell (j := 3) (by simp)
                have q17 := (HB1.out.cell (p := ⟨w.heap.size, 7, none⟩) hl1).trans HQ7.out
                have q19 := (HB1.out.cell (p := ⟨b7, o7 + i, none⟩) hb7).trans HQL.out
                generalize wr.alloc (.cells #[.int .i64 (p.i0 i), .int .i64 (p.i1 i), .int .i64 (p.i2 i), .int .i64 (p.i3 i)] 76) = wx at *
                go_region_held3 (fun w9 => w9.cell? ⟨wr.heap.size, 0, none⟩ = some (.int .i64 (p.i0 i)) ∧ w9.cell? ⟨wr.heap.size, 1, none⟩ = some (.int .i64 (p.i1 i)) ∧ w9.cell? ⟨wr.heap.size, 2, none⟩ = some (.int .i64 (p.i2 i)) ∧ w9.cell? ⟨wr.heap.size, 3, none⟩ = some (.int .i64 (p.i3 i)) ∧ w9.cell? ⟨w.heap.size, 7, none⟩ = some (.slice (some ⟨b7, o7, none⟩) p.nl k7) ∧ w9.cell? ⟨b7, o7 + i, none⟩ = some (.int .i64 (p.l0 i))) (first | exact ⟨q80, q81, q82, q83, q87, q89⟩ | exact ⟨q70, q71, q72, q73, q77, q79⟩ | exact ⟨q60, q61, q62, q63, q67, q69⟩ | exact ⟨q50, q51, q52, q53, q57, q59⟩ | exact ⟨q40, q41, q42, q43, q47, q49⟩ | exact ⟨q30, q31, q32, q33, q37, q39⟩ | exact ⟨q20, q21, q22, q23, q27, q29⟩ | exact ⟨q10, q11, q12, q13, q17, q19⟩ | go_keep)
                  (first
                 | (have _z := HB6
                    go_at_call 14
                    clear _z
                    refine (join5 HP6_2.out HP6_3.out HP6_4.out HP6_5.out HP6_6.out (by rw [leI_len]; omega) (by rw [leI_len]; omega) (by rw [leI_len]; omega) (by rw [leI_len]; omega) (by rw [leI_len]; omega)).mono ?_
                    rintro e w7 ⟨v7, rfl, ho, hb⟩
                    have HB7 := hide (HB6.out.trans (hb.mono HB6.out.size))
                    have HR7 := hide (HR6.out.low hb HR6.out.lt)
                    have q70 : w7.cell? ⟨wr.heap.size, 0, none⟩ = some (.int .i64 (p.i0 i)) := HR7.out.cell (j := 0) (by simp)
                    have q71 : w7.cell? ⟨wr.heap.size, 1, none⟩ = some (.int .i64 (p.i1 i)) := HR7.out.cell (j := 1) (by simp)
                    have q72 : w7.cell? ⟨wr.heap.size, 2, none⟩ = some (.int .i64 (p.i2 i)) := HR7.out.cell (j := 2) (by simp)
                    have q73 : w7.cell? ⟨wr.heap.size, 3, none⟩ = some (.int .i64 (p.i3 i)) := HR7.out.cell (j := 3) (by simp)
                    have q77 := (HB7.out.cell (p := ⟨w.heap.size, 7, none⟩) hl1).trans HQ7.out
                    have q79 := (HB7.out.cell (p := ⟨b7, o7 + i, none⟩) hb7).trans HQL.out
                    have HO7 := hide (HO6.out.low hb (Nat.le_refl _))
                    have HJ7 := hide ho
                    clear ho hb q60 q61 q62 q63 q67 q69)
                 | (have _z := HB7
                    rw [if_pos (by rfl)]
                    clear _z
                    refine app_bytes_op _ _ rfl w1.heap.size _ _ (L) (inL p i) HO7.out HJ7.out.part rfl rfl (by have := HLw.out; have := HSz.out; rw [inL_len]; omega) HB7.out.size ?_
                    intro v8 w8 ho hb hc
                    have HR8 := hide (HR7.out.same (hc _ HR7.out.lt (HO7.out.apart HR7.out (by decide))))
                    have HB8 := hide (hb _ _ HB7.out (Nat.le_refl _))
                    have q80 : w8.cell? ⟨wr.heap.size, 0, none⟩ = some (.int .i64 (p.i0 i)) := HR8.out.cell (j := 0) (by simp)
                    have q81 : w8.cell? ⟨wr.heap.size, 1, none⟩ = some (.int .i64 (p.i1 i)) := HR8.out.cell (j := 1) (by simp)
                    have q82 : w8.cell? ⟨wr.heap.size, 2, none⟩ = some (.int .i64 (p.i2 i)) := HR8.out.cell (j := 2) (by simp)
                    have q83 : w8.cell? ⟨wr.heap.size, 3, none⟩ = some (.int .i64 (p.i3 i)) := HR8.out.cell (j := 3) (by simp)
                    have q87 := (HB8.out.cell (p := ⟨w.heap.size, 7, none⟩) hl1).trans HQ7.out
                    have q89 := (HB8.out.cell (p := ⟨b7, o7 + i, none⟩) hb7).trans HQL.out
                    have HO8 := hide ho
                    clear ho hb hc q70 q71 q72 q73 q77 q79)
                 | (have _z := HB5
                    go_at_call 15
                    clear _z
                    refine (put_any (p.l0 i) 4 _ (by omega)).mono ?_
                    rintro e w6 ⟨v6, rfl, ho, hb⟩
                    obtain ⟨b6, o6, c6, rfl, -⟩ := ho.part
                    have HB6 := hide (HB5.out.trans (hb.mono HB5.out.size))
                    have HR6 := hide (HR5.out.low hb HR5.out.lt)
                    have q60 : w6.cell? ⟨wr.heap.size, 0, none⟩ = some (.int .i64 (p.i0 i)) := HR6.out.cell (j := 0) (by simp)
                    have q61 : w6.cell? ⟨wr.heap.size, 1, none⟩ = some (.int .i64 (p.i1 i)) := HR6.out.cell (j := 1) (by simp)
                    have q62 : w6.cell? ⟨wr.heap.size, 2, none⟩ = some (.int .i64 (p.i2 i)) := HR6.out.cell (j := 2) (by simp)
                    have q63 : w6.cell? ⟨wr.heap.size, 3, none⟩ = some (.int .i64 (p.i3 i)) := HR6.out.cell (j := 3) (by simp)
                    have q67 := (HB6.out.cell (p := ⟨w.heap.size, 7, none⟩) hl1).trans HQ7.out
                    have q69 := (HB6.out.cell (p := ⟨b7, o7 + i, none⟩) hb7).trans HQL.out
                    have HO6 := hide (HO5.out.low hb (Nat.le_refl _))
                    have HP6_2 := hide (HP5_2.out.low hb (Nat.le_refl _))
                    have HP6_3 := hide (HP5_3.out.low hb (Nat.le_refl _))
                    have HP6_4 := hide (HP5_4.out.low hb (Nat.le_refl _))
                    have HP6_5 := hide (HP5_5.out.low hb (Nat.le_refl _))
                    have HP6_6 := hide ho.part
                    clear ho hb q50 q51 q52 q53 q57 q59)
                 | (have _z := HB4
                    go_at_call 15
                    clear _z
                    refine (put_any (p.i3 i) 4 _ (by omega)).mono ?_
                    rintro e w5 ⟨v5, rfl, ho, hb⟩
                    obtain ⟨b5, o5, c5, rfl, -⟩ := ho.part
                    have HB5 := hide (HB4.out.trans (hb.mono HB4.out.size))
                    have HR5 := hide (HR4.out.low hb HR4.out.lt)
                    have q50 : w5.cell? ⟨wr.heap.size, 0, none⟩ = some (.int .i64 (p.i0 i)) := HR5.out.cell (j := 0) (by simp)
                    have q51 : w5.cell? ⟨wr.heap.size, 1, none⟩ = some (.int .i64 (p.i1 i)) := HR5.out.cell (j := 1) (by simp)
                    have q52 : w5.cell? ⟨wr.heap.size, 2, none⟩ = some (.int .i64 (p.i2 i)) := HR5.out.cell (j := 2) (by simp)
                    have q53 : w5.cell? ⟨wr.heap.size, 3, none⟩ = some (.int .i64 (p.i3 i)) := HR5.out.cell (j := 3) (by simp)
                    have q57 := (HB5.out.cell (p := ⟨w.heap.size, 7, none⟩) hl1).trans HQ7.out
                    have q59 := (HB5.out.cell (p := ⟨b7, o7 + i, none⟩) hb7).trans HQL.out
                    have HO5 := hide (HO4.out.low hb (Nat.le_refl _))
                    have HP5_2 := hide (HP4_2.out.low hb (Nat.le_refl _))
                    have HP5_3 := hide (HP4_3.out.low hb (Nat.le_refl _))
                    have HP5_4 := hide (HP4_4.out.low hb (Nat.le_refl _))
                    have HP5_5 := hide ho.part
                    clear ho hb q40 q41 q42 q43 q47 q49)
                 | (have _z := HB3
                    go_at_call 15
                    clear _z
                    refine (put_any (p.i2 i) 4 _ (by omega)).mono ?_
                    rintro e w4 ⟨v4, rfl, ho, hb⟩
                    obtain ⟨b4, o4, c4, rfl, -⟩ := ho.part
                    have HB4 := hide (HB3.out.trans (hb.mono HB3.out.size))
                    have HR4 := hide (HR3.out.low hb HR3.out.lt)
                    have q40 : w4.cell? ⟨wr.heap.size, 0, none⟩ = some (.int .i64 (p.i0 i)) := HR4.out.cell (j := 0) (by simp)
                    have q41 : w4.cell? ⟨wr.heap.size, 1, none⟩ = some (.int .i64 (p.i1 i)) := HR4.out.cell (j := 1) (by simp)
                    have q42 : w4.cell? ⟨wr.heap.size, 2, none⟩ = some (.int .i64 (p.i2 i)) := HR4.out.cell (j := 2) (by simp)
                    have q43 : w4.cell? ⟨wr.heap.size, 3, none⟩ = some (.int .i64 (p.i3 i)) := HR4.out.cell (j := 3) (by simp)
                    have q47 := (HB4.out.cell (p := ⟨w.heap.size, 7, none⟩) hl1).trans HQ7.out
                    have q49 := (HB4.out.cell (p := ⟨b7, o7 + i, none⟩) hb7).trans HQL.out
                    have HO4 := hide (HO3.out.low hb (Nat.le_refl _))
                    have HP4_2 := hide (HP3_2.out.low hb (Nat.le_refl _))
                    have HP4_3 := hide (HP3_3.out.low hb (Nat.le_refl _))
                    have HP4_4 := hide ho.part
                    clear ho hb q30 q31 q32 q33 q37 q39)
                 | (have _z := HB2
                    go_at_call 15
                    clear _z
                    refine (put_any (p.i1 i) 1 _ (by omega)).mono ?_
                    rintro e w3 ⟨v3, rfl, ho, hb⟩
                    obtain ⟨b3, o3, c3, rfl, -⟩ := ho.part
                    have HB3 := hide (HB2.out.trans (hb.mono HB2.out.size))
                    have HR3 := hide (HR2.out.low hb HR2.out.lt)
                    have q30 : w3.cell? ⟨wr.heap.size, 0, none⟩ = some (.int .i64 (p.i0 i)) := HR3.out.cell (j := 0) (by simp)
                    have q31 : w3.cell? ⟨wr.heap.size, 1, none⟩ = some (.int .i64 (p.i1 i)) := HR3.out.cell (j := 1) (by simp)
                    have q32 : w3.cell? ⟨wr.heap.size, 2, none⟩ = some (.int .i64 (p.i2 i)) := HR3.out.cell (j := 2) (by simp)
                    have q33 : w3.cell? ⟨wr.heap.size, 3, none⟩ = some (.int .i64 (p.i3 i)) := HR3.out.cell (j := 3) (by simp)
                    have q37 := (HB3.out.cell (p := ⟨w.heap.size, 7, none⟩) hl1).trans HQ7.out
                    have q39 := (HB3.out.cell (p := ⟨b7, o7 + i, none⟩) hb7).trans HQL.out
                    have HO3 := hide (HO2.out.low hb (Nat.le_refl _))
                    have HP3_2 := hide (HP2_2.out.low hb (Nat.le_refl _))
                    have HP3_3 := hide ho.part
                    clear ho hb q20 q21 q22 q23 q27 q29)
                 | (have _z := HB1
                    go_at_call 15
                    clear _z
                    refine (put_any (p.i0 i) 1 _ (by omega)).mono ?_
                    rintro e w2 ⟨v2, rfl, ho, hb⟩
                    obtain ⟨b2, o2, c2, rfl, -⟩ := ho.part
                    replace hb := via_drew hb
                    have HB2 := hide (HB1.out.trans (hb.mono HB1.out.size))
                    have HR2 := hide (HR1.out.low hb HR1.out.lt)
                    have q20 : w2.cell? ⟨wr.heap.size, 0, none⟩ = some (.int .i64 (p.i0 i)) := HR2.out.cell (j := 0) (by simp)
                    have q21 : w2.cell? ⟨wr.heap.size, 1, none⟩ = some (.int .i64 (p.i1 i)) := HR2.out.cell (j := 1) (by simp)
                    have q22 : w2.cell? ⟨wr.heap.size, 2, none⟩ = some (.int .i64 (p.i2 i)) := HR2.out.cell (j := 2) (by simp)
                    have q23 : w2.cell? ⟨wr.heap.size, 3, none⟩ = some (.int .i64 (p.i3 i)) := HR2.out.cell (j := 3) (by simp)
                    have q27 := (HB2.out.cell (p := ⟨w.heap.size, 7, none⟩) hl1).trans HQ7.out
                    have q29 := (HB2.out.cell (p := ⟨b7, o7 + i, none⟩) hb7).trans HQL.out
                    have HO2 := hide (HO1.out.low hb (Nat.le_refl _))
                    have HP2_2 := hide ho.part
                    clear ho hb q10 q11 q12 q13 q17 q19))
                have HX := hide (show OwnL w8 w1.heap.size v8 (S3 p (i + 1)) from by
                  have h9 := HO8.out
                  rw [HLL.out, S3_1] at h9
                  exact h9)
                clear HP2_2 HP3_2 HP3_3 HP4_2 HP4_3 HP4_4 HP5_2 HP5_3 HP5_4 HP5_5 HP6_2 HP6_3 HP6_4 HP6_5 HP6_6 HO2 HO3 HO4 HO5 HO6 HO7 HJ7 HO8 HO1 HOw HLL HLw
                go_wp2_with fail
                go_roundw
                case rel => exact ⟨i + 1, by omega, by simp, HX, HB8⟩
                case measure => simp; omega
            · obtain rfl : i = p.ni := by omega
              go_wp2
              refine HK3.out _ _ ?_
              clear HK3
              go_wp2_with fail
              go_ret
              exact ⟨_, rfl, HOw.out.mono HB0.out.size, HB0.out.trans (HBw.out.mono HB0.out.size)⟩

end Go.Proofs.Ytplfgfdlcfdfdaa
