import Derived.Test.YtamdnnkdnhkghaaGreatDoorT27
import Derived.Test.YtamdnnkdnhkghaaGreatDoorT41
namespace Go.Proofs.YtamdnnkdnhkghaaGreatDoor

open Go Go.RowKit

set_option linter.unusedVariables false

def sgL (s : Bool) : List Int := if s then [45] else []

/-- The text of a finite magnitude. -/
def MagT (r c : Nat) (L : List Int) : Prop := (r = 0 ∧ L = [48, 46, 48]) ∨ (0 < r ∧ ∃ n d q, First r c n d q ∧ L = FT d n ((n : Int) - 1 - q))

theorem MagT.unique {r c : Nat} {L L' : List Int} (h : MagT r c L) (h' : MagT r c L') : L = L' := by
  rcases h with ⟨h0, rfl⟩ | ⟨h0, n, d, q, hf, rfl⟩
  · rcases h' with ⟨_, rfl⟩ | ⟨h0', _⟩
    · rfl
    · omega
  · rcases h' with ⟨h0', rfl⟩ | ⟨_, n', d', q', hf', rfl⟩
    · omega
    · obtain ⟨rfl, rfl, rfl⟩ := hf.unique hf'
      rfl

/-- The text of a float's word. -/
def WordT (s : Bool) (r c : Nat) (T : ByteArray) : Prop :=
  (infW < r ∧ T = strL [110, 97, 110]) ∨ (r = infW ∧ T = strL (sgL s ++ [105, 110, 102])) ∨ (r < infW ∧ ∃ L, MagT r c L ∧ T = strL (sgL s ++ L))

theorem WordT.unique {s : Bool} {r c : Nat} {T T' : ByteArray} (h : WordT s r c T) (h' : WordT s r c T') : T = T' := by
  rcases h with ⟨h0, rfl⟩ | ⟨h0, rfl⟩ | ⟨h0, L, hL, rfl⟩
  · rcases h' with ⟨_, rfl⟩ | ⟨h1, _⟩ | ⟨h1, _⟩
    · rfl
    · omega
    · omega
  · rcases h' with ⟨h1, _⟩ | ⟨_, rfl⟩ | ⟨h1, _⟩
    · omega
    · rfl
    · omega
  · rcases h' with ⟨h1, _⟩ | ⟨h1, _⟩ | ⟨_, L', hL', rfl⟩
    · omega
    · omega
    · rw [hL.unique hL']

theorem below_al {w w2 : World} {o : Obj} (h : Below (w.alloc o).heap.size (w.alloc o) w2) : Below w.heap.size w w2 :=
  ((Below.refl _ _).alloc (Nat.le_refl _) o).trans (h.mono (by simp))

theorem floatOf_num (W : Nat) (i : Int) (w : World) :
    Calls Tryz.prog 22 #[.agg #[.bool true, .int .i64 i, .int .u64 W]] w fun e w' => e = .returned (.float .f64 W) ∧ Below w.heap.size w w' := by
  have ht := run_frombitsM W
  go_enter Tryz.func22, Tryz.ntmps22
  go_wp2
  all_goals go_ret
  all_goals exact ⟨rfl, (Below.refl _ _).alloc (Nat.le_refl _) _⟩

theorem mag_all (r c : Nat) (w : World) (hc : c = 1074) (hr : r < infW) (hF : FE w) :
    Calls Tryz.prog 26 #[.float .f64 r] w fun e w' => ∃ L, e = .returned (.string (strL L)) ∧ MagT r c L ∧ Below w.heap.size w w' ∧ L.length ≤ 100 := by
  by_cases h0 : r = 0
  · subst h0
    refine (mag_zero w hF).mono ?_
    rintro e w' ⟨rfl, hb⟩
    exact ⟨_, rfl, .inl ⟨rfl, rfl⟩, hb, by decide⟩
  · refine (mag_any r c w hc (by omega) hr hF).mono ?_
    rintro e w' ⟨n, d, q, rfl, hfirst, hX1, hX2, hb⟩
    refine ⟨_, rfl, .inr ⟨by omega, n, d, q, hfirst, rfl⟩, hb, ?_⟩
    have h1 := hfirst.n1
    have h2 := hfirst.n17
    unfold FT
    split
    · have := eTxt_len (d := d) (X := (n : Int) - 1 - q) h1 h2
      omega
    · rename_i hX
      unfold plainL
      split
      · simp [digL_len]; omega
      · split
        · simp [digL_len]; omega
        · simp [digL_len]; omega

/-- How 'FormatNumber' ends. -/
def FNum (T : ByteArray → Prop) (w : World) (e : Ending) (w' : World) : Prop := ∃ t, e = .returned (.string t) ∧ T t ∧ Below w.heap.size w w'

theorem self_all {s : Bool} {r : Nat} (h : r ≤ infW) : FloatKind.f64.format.order (wordS s r) (wordS s r) = some .eq := by
  have := order_all (s := s) (t := s) h h
  rw [icmp_eq rfl] at this
  exact this

theorem self_nan {s : Bool} {r : Nat} (h1 : infW < r) (h2 : r < 9223372036854775808) : FloatKind.f64.format.order (wordS s r) (wordS s r) = none := by
  show Ieee.Datum.order (Ieee.double.read (wordS s r)) (Ieee.double.read (wordS s r)) = none
  rw [read_nanS h1 h2]
  rfl

def CB (f : Nat) (args : Array Value) (b : Bool) : Prop := ∀ w, Calls Tryz.prog f args w fun e w' => e = .returned (.bool b) ∧ w' = w

theorem nanC {s : Bool} {r : Nat} (h2 : r < 9223372036854775808) : CB 23 #[.float .f64 (wordS s r)] (decide (infW < r)) := by
  intro w
  have := isNaNF_any (wordS s r) w
  by_cases h : infW < r
  · rw [self_nan h h2] at this
    rw [decide_eq_true h]
    exact this
  · rw [self_all (by omega)] at this
    rw [decide_eq_false h]
    exact this

theorem infC1 {s : Bool} {r : Nat} (h : r ≤ infW) : CB 24 #[.float .f64 (wordS s r), .int .i64 1] (!s && decide (r = infW)) := by
  intro w
  have := isInf1_any (wordS s r) w
  rw [inf_max h] at this
  exact this

theorem infC2 {s : Bool} {r : Nat} (h : r ≤ infW) : CB 24 #[.float .f64 (wordS s r), .int .i64 (-1)] (s && decide (r = infW)) := by
  intro w
  have hr : r < 9223372036854775808 := by unfold infW at h; omega
  have := isInf2_any (wordS s r) (wordS (!s) r) w (run_negS s r hr)
  rw [inf_max h, Bool.not_not] at this
  exact this

theorem signC {s : Bool} {r : Nat} (h : r < 9223372036854775808) : CB 25 #[.float .f64 (wordS s r)] s := fun w => signbit_any _ s w (sign_wrap h)

set_option maxHeartbeats 1600000 in
set_option maxRecDepth 100000 in
theorem fn_nan (i : Int) (W : Nat)  (w : World) (h1 : CB 23 #[.float .f64 W] true)  :
    Calls Tryz.prog 10 #[.agg #[.bool true, .int .i64 i, .int .u64 W]] w fun e w' => FNum (fun t => t = strL [110, 97, 110]) w e w' := by
  have H1 := hide (fun w => floatOf_num W i w)
  have G1 := hide h1

  clear h1 
  go_enter Tryz.func10, Tryz.ntmps10
  go_wp2_with fail
  refine (H1.out _).mono ?_
  rintro e w1 ⟨rfl, hb1⟩
  have Hb1 := hide hb1
  clear hb1
  go_wp2_with fail
  refine (G1.out _).mono ?_
  rintro e w2 ⟨rfl, rfl⟩

  go_wp2
  go_ret
  exact ⟨_, rfl, rfl, below_al Hb1.out⟩

set_option maxHeartbeats 1600000 in
set_option maxRecDepth 100000 in
theorem fn_inf (i : Int) (W : Nat)  (w : World) (h1 : CB 23 #[.float .f64 W] false) (h2 : CB 24 #[.float .f64 W, .int .i64 1] true) :
    Calls Tryz.prog 10 #[.agg #[.bool true, .int .i64 i, .int .u64 W]] w fun e w' => FNum (fun t => t = strL [105, 110, 102]) w e w' := by
  have H1 := hide (fun w => floatOf_num W i w)
  have G1 := hide h1
  have G2 := hide h2
  clear h1 h2
  go_enter Tryz.func10, Tryz.ntmps10
  go_wp2_with fail
  refine (H1.out _).mono ?_
  rintro e w1 ⟨rfl, hb1⟩
  have Hb1 := hide hb1
  clear hb1
  go_wp2_with fail
  refine (G1.out _).mono ?_
  rintro e w2 ⟨rfl, rfl⟩
  go_wp2_with fail
  refine (G2.out _).mono ?_
  rintro e w2 ⟨rfl, rfl⟩

  go_wp2
  go_ret
  exact ⟨_, rfl, rfl, below_al Hb1.out⟩

set_option maxHeartbeats 1600000 in
set_option maxRecDepth 100000 in
theorem fn_minf (i : Int) (W : Nat)  (w : World) (h1 : CB 23 #[.float .f64 W] false) (h2 : CB 24 #[.float .f64 W, .int .i64 1] false) (h3 : CB 24 #[.float .f64 W, .int .i64 (-1)] true) :
    Calls Tryz.prog 10 #[.agg #[.bool true, .int .i64 i, .int .u64 W]] w fun e w' => FNum (fun t => t = strL [45, 105, 110, 102]) w e w' := by
  have H1 := hide (fun w => floatOf_num W i w)
  have G1 := hide h1
  have G2 := hide h2
  have G3 := hide h3
  clear h1 h2 h3
  go_enter Tryz.func10, Tryz.ntmps10
  go_wp2_with fail
  refine (H1.out _).mono ?_
  rintro e w1 ⟨rfl, hb1⟩
  have Hb1 := hide hb1
  clear hb1
  go_wp2_with fail
  refine (G1.out _).mono ?_
  rintro e w2 ⟨rfl, rfl⟩
  go_wp2_with fail
  refine (G2.out _).mono ?_
  rintro e w2 ⟨rfl, rfl⟩
  go_wp2_with fail
  refine (G3.out _).mono ?_
  rintro e w2 ⟨rfl, rfl⟩

  go_wp2
  go_ret
  exact ⟨_, rfl, rfl, below_al Hb1.out⟩

set_option maxHeartbeats 1600000 in
set_option maxRecDepth 100000 in
theorem fn_pos (i : Int) (W : Nat)  (M : List Int → Prop) (w : World) (HM : ∀ w1, Below w.heap.size w w1 → Calls Tryz.prog 26 #[.float .f64 W] w1 fun e w' => ∃ L, e = .returned (.string (strL L)) ∧ M L ∧ Below w1.heap.size w1 w' ∧ L.length ≤ 100) (h1 : CB 23 #[.float .f64 W] false) (h2 : CB 24 #[.float .f64 W, .int .i64 1] false) (h3 : CB 24 #[.float .f64 W, .int .i64 (-1)] false) (h4 : CB 25 #[.float .f64 W] false) :
    Calls Tryz.prog 10 #[.agg #[.bool true, .int .i64 i, .int .u64 W]] w fun e w' => FNum (fun t => ∃ L, M L ∧ t = strL L) w e w' := by
  have H1 := hide (fun w => floatOf_num W i w)
  have G1 := hide h1
  have G2 := hide h2
  have G3 := hide h3
  have G4 := hide h4
  have GM := hide HM
  clear h1 h2 h3 h4 HM
  go_enter Tryz.func10, Tryz.ntmps10
  go_wp2_with fail
  refine (H1.out _).mono ?_
  rintro e w1 ⟨rfl, hb1⟩
  have Hb1 := hide hb1
  clear hb1
  go_wp2_with fail
  refine (G1.out _).mono ?_
  rintro e w2 ⟨rfl, rfl⟩
  go_wp2_with fail
  refine (G2.out _).mono ?_
  rintro e w2 ⟨rfl, rfl⟩
  go_wp2_with fail
  refine (G3.out _).mono ?_
  rintro e w2 ⟨rfl, rfl⟩
  go_wp2_with fail
  refine (G4.out _).mono ?_
  rintro e w2 ⟨rfl, rfl⟩
  go_wp2_with fail
  refine (GM.out _ (below_al Hb1.out)).mono ?_
  rintro e w3 ⟨L, rfl, hL, hb3, hlen⟩
  have HL := hide hL
  have Hb3 := hide ((below_al Hb1.out).trans (hb3.mono (below_al Hb1.out).size))
  clear hb3 hL
  have hsz := strL_size L

  go_wp2
  go_ret
  exact ⟨_, rfl, ⟨L, HL.out, rfl⟩, Hb3.out⟩

set_option maxHeartbeats 1600000 in
set_option maxRecDepth 100000 in
theorem fn_neg (i : Int) (W : Nat) (r : Nat) (hneg : ∀ w, Sem.run Tryz.prog (Op.unary UnOp.neg (Value.float FloatKind.f64 W)) w = Result.ok (Value.float FloatKind.f64 r) w) (M : List Int → Prop) (w : World) (HM : ∀ w1, Below w.heap.size w w1 → Calls Tryz.prog 26 #[.float .f64 r] w1 fun e w' => ∃ L, e = .returned (.string (strL L)) ∧ M L ∧ Below w1.heap.size w1 w' ∧ L.length ≤ 100) (h1 : CB 23 #[.float .f64 W] false) (h2 : CB 24 #[.float .f64 W, .int .i64 1] false) (h3 : CB 24 #[.float .f64 W, .int .i64 (-1)] false) (h4 : CB 25 #[.float .f64 W] true) :
    Calls Tryz.prog 10 #[.agg #[.bool true, .int .i64 i, .int .u64 W]] w fun e w' => FNum (fun t => ∃ L, M L ∧ t = strL ([45] ++ L)) w e w' := by
  have H1 := hide (fun w => floatOf_num W i w)
  have G1 := hide h1
  have G2 := hide h2
  have G3 := hide h3
  have G4 := hide h4
  have GM := hide HM
  clear h1 h2 h3 h4 HM
  go_enter Tryz.func10, Tryz.ntmps10
  go_wp2_with fail
  refine (H1.out _).mono ?_
  rintro e w1 ⟨rfl, hb1⟩
  have Hb1 := hide hb1
  clear hb1
  go_wp2_with fail
  refine (G1.out _).mono ?_
  rintro e w2 ⟨rfl, rfl⟩
  go_wp2_with fail
  refine (G2.out _).mono ?_
  rintro e w2 ⟨rfl, rfl⟩
  go_wp2_with fail
  refine (G3.out _).mono ?_
  rintro e w2 ⟨rfl, rfl⟩
  go_wp2_with fail
  refine (G4.out _).mono ?_
  rintro e w2 ⟨rfl, rfl⟩
  go_wp2_with fail
  refine (GM.out _ (below_al Hb1.out)).mono ?_
  rintro e w3 ⟨L, rfl, hL, hb3, hlen⟩
  have HL := hide hL
  have Hb3 := hide ((below_al Hb1.out).trans (hb3.mono (below_al Hb1.out).size))
  clear hb3 hL
  have hsz := strL_size L

  go_wp2
  go_ret
  exact ⟨_, rfl, ⟨L, HL.out, strL_append [45] L⟩, Hb3.out⟩

set_option maxHeartbeats 1600000 in
set_option maxRecDepth 100000 in
theorem fn_int (i u : Int) (w : World) (h0 : -9223372036854775808 ≤ i) (h1 : i ≤ 9223372036854775807) (hF : FE w) :
    Calls Tryz.prog 10 #[.agg #[.bool false, .int .i64 i, .int .u64 u]] w fun e w' => FNum (fun t => t = ⟨(Lib.itoa i).toArray⟩) w e w' := by
  have HI := hide (fun (w1 : World) (hb : Below w.heap.size w w1) => itoa_any i h0 h1 w1 ((hF.below hb).f.tab))
  clear hF
  go_enter Tryz.func10, Tryz.ntmps10
  go_wp2_with fail
  refine (HI.out _ ((Below.refl _ _).alloc (Nat.le_refl _) _)).mono ?_
  rintro e w1 ⟨rfl, hb1⟩
  have Hb1 := hide hb1
  clear hb1
  go_wp2
  go_ret
  exact ⟨_, rfl, rfl, below_al Hb1.out⟩

/-- The program's 'FormatNumber' at a float. -/
theorem fn_float (i : Int) (s : Bool) (r c : Nat) (w : World) (hc : c = 1074) (hr : r < 9223372036854775808) (hF : FE w) :
    Calls Tryz.prog 10 #[.agg #[.bool true, .int .i64 i, .int .u64 (wordS s r : Nat)]] w fun e w' => FNum (WordT s r c) w e w' := by
  have c1 := nanC (s := s) hr
  by_cases hn : infW < r
  · rw [decide_eq_true hn] at c1
    refine (fn_nan i _ w c1).mono ?_
    rintro e w' ⟨t, rfl, rfl, hb⟩
    exact ⟨_, rfl, .inl ⟨hn, rfl⟩, hb⟩
  · rw [decide_eq_false hn] at c1
    have c2 := infC1 (s := s) (r := r) (by omega)
    have c3 := infC2 (s := s) (r := r) (by omega)
    by_cases hi : r = infW
    · rw [decide_eq_true hi] at c2 c3
      cases s with
      | false =>
        refine (fn_inf i _ w c1 c2).mono ?_
        rintro e w' ⟨t, rfl, rfl, hb⟩
        exact ⟨_, rfl, .inr (.inl ⟨hi, rfl⟩), hb⟩
      | true =>
        refine (fn_minf i _ w c1 c2 c3).mono ?_
        rintro e w' ⟨t, rfl, rfl, hb⟩
        exact ⟨_, rfl, .inr (.inl ⟨hi, rfl⟩), hb⟩
    · rw [decide_eq_false hi, Bool.and_false] at c2 c3
      have c4 := signC (s := s) hr
      have hlt : r < infW := by omega
      cases s with
      | false =>
        refine (fn_pos i _ (MagT r c) w (fun w1 hb => mag_all r c w1 hc hlt (hF.below hb)) c1 c2 c3 c4).mono ?_
        rintro e w' ⟨t, rfl, ⟨L, hL, rfl⟩, hb⟩
        exact ⟨_, rfl, .inr (.inr ⟨hlt, L, hL, rfl⟩), hb⟩
      | true =>
        refine (fn_neg i _ r (run_negS true r hr) (MagT r c) w (fun w1 hb => mag_all r c w1 hc hlt (hF.below hb)) c1 c2 c3 c4).mono ?_
        rintro e w' ⟨t, rfl, ⟨L, hL, rfl⟩, hb⟩
        exact ⟨_, rfl, .inr (.inr ⟨hlt, L, hL, rfl⟩), hb⟩

end Go.Proofs.YtamdnnkdnhkghaaGreatDoor
