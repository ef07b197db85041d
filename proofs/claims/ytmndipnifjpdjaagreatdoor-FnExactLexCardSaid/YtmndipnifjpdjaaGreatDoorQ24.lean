import Derived.Below
import Derived.BigRegion
import Derived.Test.YtmndipnifjpdjaaGreatDoorQ01
import Derived.Deep.RegionHeld3
import Derived.Deep.QuietTactic
import Derived.BigQuiet
import Derived.Test.YtmndipnifjpdjaaGreatDoorQ21
namespace Go.Proofs.YtmndipnifjpdjaaGreatDoor
open Go Go.RowKit
set_option linter.unusedVariables false
def mk10 : Nat → Nat → List UInt8 → List UInt8
  | 0, _, acc => acc
  | n + 1, k, acc => if k = 0 then acc else mk10 n (k / 10) ((48 + UInt8.ofNat (k % 10)) :: acc)
theorem mk10_zero (n : Nat) (acc : List UInt8) : mk10 n 0 acc = acc := by cases n <;> simp [mk10]
theorem mk10_fuel {n : Nat} : ∀ {m k : Nat} (acc : List UInt8), k ≤ n → k ≤ m → mk10 n k acc = mk10 m k acc := by
  induction n with
  | zero =>
    intro m k acc h1 h2
    obtain rfl : k = 0 := by omega
    rw [mk10_zero, mk10_zero]
  | succ n ih =>
    intro m k acc h1 h2
    cases m with
    | zero =>
      obtain rfl : k = 0 := by omega
      rw [mk10_zero, mk10_zero]
    | succ m =>
      unfold mk10
      split
      · rfl
      · exact ih _ (by omega) (by omega)
def mtx (k : Nat) : ByteArray := ⟨(109 :: mk10 k k []).toArray⟩
theorem one_byte (w : World) (x : Nat) (hx : x < 256) : (convert 33 9 (.slice (some ⟨w.heap.size, 0, none⟩) 1 1)).run Tryz.prog (w.alloc (.cells #[.int .u8 ((x : Nat) : Int)] 5)) = .ok (.string ⟨#[UInt8.ofNat x]⟩) (w.alloc (.cells #[.int .u8 ((x : Nat) : Int)] 5)) := by
  have e := run_convert_bytes_back (P := Tryz.prog) (w.alloc (.cells #[.int .u8 ((x : Nat) : Int)] 5)) 33 9 5 ⟨w.heap.size, 0, none⟩ 1 [UInt8.ofNat x] Tryz.underlying33 Tryz.underlying5 Tryz.underlying9 (fun j hj => by
    obtain rfl : j = 0 := by simpa using hj
    have : (UInt8.ofNat x).toNat = x := by simp; omega
    simp [Addr.add, this])
  exact e
set_option maxHeartbeats 3200000 in
set_option maxRecDepth 100000 in
theorem markText_any (k : Nat) (w : World) (hk : 1 ≤ k) (hk2 : k ≤ 1000000) :
    Calls Tryz.prog 20 #[.int .i64 k] w fun e w' => e = .returned (.string (mtx k)) ∧ Below w.heap.size w w' := by
  go_enter Tryz.func20, Tryz.ntmps20
  go_wp2
  go_loopw [0, 3] (fun kv ov wr => ∃ (j : Nat) (acc : List UInt8), kv = .int .i64 j ∧ ov = .string ⟨acc.toArray⟩ ∧ acc.length + j ≤ 1000000 ∧ Hid (mk10 j j acc = mk10 k k []) ∧ Below w.heap.size w wr) (fun kv _ _ => match kv with | .int _ x => x.toNat | _ => 0)
  case atStart => exact ⟨k, [], rfl, rfl, by simp; omega, hide rfl, Below.refl _ _⟩
  case round =>
    obtain ⟨j, acc, rfl, rfl, hj, HM, hbw⟩ := hrel
    by_cases h0 : j = 0
    · subst h0
      go_wp2
      refine bodyPost_ret (v := .string (mtx k)) ?_ rfl ⟨rfl, hbw⟩
      have hm := HM.out
      rw [mk10_zero] at hm
      unfold mtx
      rw [← hm]
      simp [results, Tryz.results20, go_sem]
      rfl
    · have hcv := one_byte wr (48 + j % 10) (by omega)
      rw [show (((48 + j % 10 : Nat)) : Int) = 48 + (j : Int) % 10 by omega] at hcv
      have hlow : Hid (Below w.heap.size w (wr.alloc (.cells #[.int .u8 (48 + (j : Int) % 10)] 5))) := hide (hbw.alloc hbw.size _)
      go_wp2
      go_roundw
      case rel =>
        refine ⟨j / 10, (48 + UInt8.ofNat (j % 10)) :: acc, by simp, rfl, by simp; omega, hide ?_, hlow.out⟩
        have hm := HM.out
        obtain ⟨i, rfl⟩ : ∃ i, j = i + 1 := ⟨j - 1, by omega⟩
        rw [← hm]
        conv => rhs; unfold mk10
        rw [if_neg h0]
        exact mk10_fuel _ (Nat.le_refl _) (by omega)
      case measure => show ((j : Int) / 10).toNat < ((j : Int)).toNat; omega
end Go.Proofs.YtmndipnifjpdjaaGreatDoor
namespace Go.Proofs.YtmndipnifjpdjaaGreatDoor
open Go Go.RowKit
set_option linter.unusedVariables false
def RowF (w : World) (g n : Nat) (f : Nat → Value) : Prop := ∃ cur : Array Value, w.heap[g]? = some (.cells cur 37 (0, 0)) ∧ n * 6 ≤ cur.size ∧ ∀ j, j < n * 6 → cur[j]? = some (f j)
theorem RowF.cell {w : World} {g n : Nat} {f : Nat → Value} (h : RowF w g n f) {j : Nat} (hj : j < n * 6) : w.cell? ⟨g, j, none⟩ = some (f j) := by
  obtain ⟨cur, h1, h2, h3⟩ := h
  have := h3 j hj
  simp [World.cell?, h1, this]
theorem RowF.frz {w : World} {g n : Nat} {f : Nat → Value} (h : RowF w g n f) (j : Nat) : w.frozen? ⟨g, j, none⟩ = false := by
  obtain ⟨cur, h1, h2, h3⟩ := h
  simp [World.frozen?, h1]
theorem RowF.low {w w' : World} {g n b : Nat} {f : Nat → Value} (h : RowF w g n f) (hb : Below b w w') (hg : g < b) : RowF w' g n f := by
  obtain ⟨cur, h1, h2, h3⟩ := h
  exact ⟨cur, (hb.block g hg).trans h1, h2, h3⟩
theorem RowF.lt {w : World} {g n : Nat} {f : Nat → Value} (h : RowF w g n f) : g < w.heap.size := by
  obtain ⟨cur, h1, h2, h3⟩ := h
  rcases Nat.lt_or_ge g w.heap.size with c | c
  · exact c
  · rw [Array.getElem?_eq_none c] at h1; cases h1
theorem RowF.set {w : World} {g n : Nat} {f : Nat → Value} (h : RowF w g n f) {j : Nat} (hj : j < n * 6) (x : Value) : RowF (w.setCell ⟨g, j, none⟩ x) g n (fun i => if i = j then x else f i) := by
  obtain ⟨cur, h1, h2, h3⟩ := h
  have e := heap_setCell_same w g j _ _ x h1
  refine ⟨_, e, by simpa using h2, fun i hi => ?_⟩
  by_cases hij : i = j
  · subst hij
    have h9 : i < cur.size := by omega
    simp [h9]
  · have := h3 i hi
    simp [hij, Ne.symm hij, this]
theorem RowF.congr {w : World} {g n : Nat} {f f' : Nat → Value} (h : RowF w g n f) (hf : ∀ j, j < n * 6 → f j = f' j) : RowF w g n f' := by
  obtain ⟨cur, h1, h2, h3⟩ := h
  exact ⟨cur, h1, h2, fun j hj => by rw [h3 j hj, hf j hj]⟩
theorem RowF.kept {w w' : World} {g n : Nat} {f : Nat → Value} {row : Option Nat} (h : RowF w g n f) (hg : w.grownBy w' row) (hn : some g ≠ row) : RowF w' g n f := by
  obtain ⟨cur, h1, h2, h3⟩ := h
  exact ⟨cur, (hg.block g (RowF.lt ⟨cur, h1, h2, h3⟩) hn).trans h1, h2, h3⟩
def mkV (j : Nat) : Value := if j % 6 = 3 then .string (mtx (1 + j)) else if j % 6 = 5 then .int .u64 (1 + (j : Int)) else .int .i64 (1 + (j : Int))
def mkF (i : Nat) (f : Nat → Value) : Nat → Value := fun j => if j < i * 6 then mkV j else f j
theorem mkV_0 (i : Nat) : mkV (i * 6) = .int .i64 (1 + 6 * (i : Int)) := by
  unfold mkV
  rw [if_neg (by omega), if_neg (by omega)]
  congr 1
  omega
theorem mkV_1 (i : Nat) : mkV (i * 6 + 1) = .int .i64 (1 + 6 * (i : Int) + 1) := by
  unfold mkV
  rw [if_neg (by omega), if_neg (by omega)]
  congr 1
  omega
theorem mkV_2 (i : Nat) : mkV (i * 6 + 2) = .int .i64 (1 + 6 * (i : Int) + 1 + 1) := by
  unfold mkV
  rw [if_neg (by omega), if_neg (by omega)]
  congr 1
  omega
theorem mkV_3 (i : Nat) : mkV (i * 6 + 3) = .string (mtx (4 + 6 * i)) := by
  unfold mkV
  rw [if_pos (by omega)]
  congr 2
  omega
theorem mkV_4 (i : Nat) : mkV (i * 6 + 4) = .int .i64 (1 + 6 * (i : Int) + 1 + 1 + 1 + 1) := by
  unfold mkV
  rw [if_neg (by omega), if_neg (by omega)]
  congr 1
  omega
theorem mkV_5 (i : Nat) : mkV (i * 6 + 5) = .int .u64 (1 + 6 * (i : Int) + 1 + 1 + 1 + 1 + 1) := by
  unfold mkV
  rw [if_neg (by omega), if_pos (by omega)]
  congr 1
  omega
theorem mk_six {w : World} {g n i : Nat} {f : Nat → Value} {x0 x1 x2 x3 x4 x5 : Value} (h : RowF w g n (fun j => if j = i * 6 + 5 then x5 else if j = i * 6 + 4 then x4 else if j = i * 6 + 3 then x3 else if j = i * 6 + 2 then x2 else if j = i * 6 + 1 then x1 else if j = i * 6 then x0 else mkF i f j))
    (h0 : x0 = mkV (i * 6)) (h1 : x1 = mkV (i * 6 + 1)) (h2 : x2 = mkV (i * 6 + 2)) (h3 : x3 = mkV (i * 6 + 3)) (h4 : x4 = mkV (i * 6 + 4)) (h5 : x5 = mkV (i * 6 + 5)) : RowF w g n (mkF (i + 1) f) := by
  subst h0 h1 h2 h3 h4 h5
  refine h.congr (fun j hj => ?_)
  by_cases e5 : j = i * 6 + 5
  · rw [if_pos e5]; unfold mkF; rw [if_pos (by omega), e5]
  rw [if_neg e5]
  by_cases e4 : j = i * 6 + 4
  · rw [if_pos e4]; unfold mkF; rw [if_pos (by omega), e4]
  rw [if_neg e4]
  by_cases e3 : j = i * 6 + 3
  · rw [if_pos e3]; unfold mkF; rw [if_pos (by omega), e3]
  rw [if_neg e3]
  by_cases e2 : j = i * 6 + 2
  · rw [if_pos e2]; unfold mkF; rw [if_pos (by omega), e2]
  rw [if_neg e2]
  by_cases e1 : j = i * 6 + 1
  · rw [if_pos e1]; unfold mkF; rw [if_pos (by omega), e1]
  rw [if_neg e1]
  by_cases e0 : j = i * 6
  · rw [if_pos e0]; unfold mkF; rw [if_pos (by omega), e0]
  rw [if_neg e0]
  unfold mkF
  by_cases hl : j < i * 6
  · rw [if_pos hl, if_pos (by omega)]
  · rw [if_neg hl, if_neg (by omega)]
theorem grown_set' (w : World) (S j : Nat) (v : Value) : w.grownBy (w.setCell ⟨S, j, none⟩ v) (some S) :=
  ⟨rfl, rfl, rfl, by simp [World.setCell], fun k hk hn => heap_setCell_other w _ k v (fun e => hn (by rw [e]))⟩
theorem grown_tr {a b c : World} {r : Option Nat} (h : a.grownBy b r) (k : b.grownBy c r) : a.grownBy c r :=
  ⟨k.os.trans h.os, k.tape.trans h.tape, k.output.trans h.output, Nat.le_trans h.size k.size, fun i hi hn => (k.block i (Nat.lt_of_lt_of_le hi h.size) hn).trans (h.block i hi hn)⟩
theorem grown_lw {w w' : World} {r : Option Nat} (h : Below w.heap.size w w') : w.grownBy w' r := ⟨h.os, h.tape, h.output, h.size, fun k hk _ => h.block k hk⟩
set_option maxHeartbeats 3200000 in
set_option maxRecDepth 100000 in
theorem mark_any (g n cap : Nat) (f : Nat → Value) (w : World) (hn : n ≤ 32769) (hnc : n ≤ cap) (hf : RowF w g n f) :
    Calls Tryz.prog 10 #[.slice (some ⟨g, 0, none⟩) n cap, .int .i64 1] w fun e w' => e = .returned (.int .i64 (1 + 6 * (n : Int))) ∧ RowF w' g n mkV ∧ w.grownBy w' (some g) := by
  go_enter Tryz.func10, Tryz.ntmps10
  go_wp2
  go_loopw [1, 5] (fun kv iv wr => ∃ i : Nat, i ≤ n ∧ iv = .int .i64 i ∧ kv = .int .i64 (1 + 6 * (i : Int)) ∧ RowF wr g n (mkF i f) ∧ w.grownBy wr (some g)) (fun _ iv _ => match iv with | .int _ x => n - x.toNat | _ => 0)
  case atStart => exact ⟨0, by omega, rfl, rfl, hf.congr (fun j _ => by unfold mkF; rw [if_neg (by omega)]), ⟨rfl, rfl, rfl, Nat.le_refl _, fun _ _ _ => rfl⟩⟩
  case round =>
    obtain ⟨i, hi, rfl, rfl, hr, hg⟩ := hrel
    by_cases hin : i < n
    · have c0 := hr.cell (j := i * 6) (by omega)
      have c1 := hr.cell (j := i * 6 + 1) (by omega)
      have c2 := hr.cell (j := i * 6 + 2) (by omega)
      have z0 := hr.frz (i * 6)
      have z1 := hr.frz (i * 6 + 1)
      have z2 := hr.frz (i * 6 + 2)
      have HR1 := hide (((hr.set (j := i * 6) (by omega) (.int .i64 (1 + 6 * (i : Int)))).set (j := i * 6 + 1) (by omega) (.int .i64 (1 + 6 * (i : Int) + 1))).set (j := i * 6 + 2) (by omega) (.int .i64 (1 + 6 * (i : Int) + 1 + 1)))
      have HG1 := hide (grown_tr (grown_tr (grown_tr hg (grown_set' _ g (i * 6) (.int .i64 (1 + 6 * (i : Int))))) (grown_set' _ g (i * 6 + 1) (.int .i64 (1 + 6 * (i : Int) + 1)))) (grown_set' _ g (i * 6 + 2) (.int .i64 (1 + 6 * (i : Int) + 1 + 1))))
      go_wp2_with fail
      clear c0 c1 c2 z0 z1 z2
      generalize ((wr.setCell ⟨g, i * 6, none⟩ (.int .i64 (1 + 6 * (i : Int)))).setCell ⟨g, i * 6 + 1, none⟩ (.int .i64 (1 + 6 * (i : Int) + 1))).setCell ⟨g, i * 6 + 2, none⟩ (.int .i64 (1 + 6 * (i : Int) + 1 + 1)) = w1 at HR1 HG1 ⊢
      have hm := markText_any (4 + 6 * i) w1 (by omega) (by omega)
      rw [show (((4 + 6 * i : Nat)) : Int) = 1 + 6 * (i : Int) + 1 + 1 + 1 by omega] at hm
      refine hm.mono ?_
      clear hm
      rintro e w2 ⟨rfl, hb2⟩
      have hr2 := HR1.out.low hb2 HR1.out.lt
      have hg2 := grown_tr HG1.out (grown_lw hb2)
      clear hb2 HR1 HG1 hr hg
      have c3 := hr2.cell (j := i * 6 + 3) (by omega)
      have c4 := hr2.cell (j := i * 6 + 4) (by omega)
      have c5 := hr2.cell (j := i * 6 + 5) (by omega)
      have z3 := hr2.frz (i * 6 + 3)
      have z4 := hr2.frz (i * 6 + 4)
      have z5 := hr2.frz (i * 6 + 5)
      have HR3 := hide (mk_six (((hr2.set (j := i * 6 + 3) (by omega) (.string (mtx (4 + 6 * i)))).set (j := i * 6 + 4) (by omega) (.int .i64 (1 + 6 * (i : Int) + 1 + 1 + 1 + 1))).set (j := i * 6 + 5) (by omega) (.int .u64 (1 + 6 * (i : Int) + 1 + 1 + 1 + 1 + 1))) (mkV_0 i).symm (mkV_1 i).symm (mkV_2 i).symm (mkV_3 i).symm (mkV_4 i).symm (mkV_5 i).symm)
      have HG3 := hide (grown_tr (grown_tr (grown_tr hg2 (grown_set' _ g (i * 6 + 3) (.string (mtx (4 + 6 * i))))) (grown_set' _ g (i * 6 + 4) (.int .i64 (1 + 6 * (i : Int) + 1 + 1 + 1 + 1)))) (grown_set' _ g (i * 6 + 5) (.int .u64 (1 + 6 * (i : Int) + 1 + 1 + 1 + 1 + 1))))
      go_wp2
      go_roundw
      case rel => exact ⟨i + 1, by omega, by simp, by congr 1, HR3.out, HG3.out⟩
      case measure => simp; omega
    · obtain rfl : i = n := by omega
      go_wp2
      go_ret
      exact ⟨rfl, hr.congr (fun j hj => by unfold mkF; rw [if_pos hj]), hg⟩
end Go.Proofs.YtmndipnifjpdjaaGreatDoor
namespace Go.Proofs.YtmndipnifjpdjaaGreatDoor
open Go Go.RowKit
set_option linter.unusedVariables false
set_option maxHeartbeats 3200000 in
set_option maxRecDepth 100000 in
theorem held_any (g n cap : Nat) (w : World) (hn : n ≤ 32769) (hnc : n ≤ cap) (hf : RowF w g n mkV) :
    Calls Tryz.prog 11 #[.slice (some ⟨g, 0, none⟩) n cap, .int .i64 1] w fun e w' => e = .returned (.int .i64 (1 + 6 * (n : Int))) ∧ Below w.heap.size w w' := by
  go_enter Tryz.func11, Tryz.ntmps11
  go_wp2
  go_loopw [1, 5] (fun kv iv wr => ∃ i : Nat, i ≤ n ∧ iv = .int .i64 i ∧ kv = .int .i64 (1 + 6 * (i : Int)) ∧ Below w.heap.size w wr) (fun _ iv _ => match iv with | .int _ x => n - x.toNat | _ => 0)
  case atStart => exact ⟨0, by omega, rfl, rfl, Below.refl _ _⟩
  case round =>
    obtain ⟨i, hi, rfl, rfl, hb⟩ := hrel
    have hr := hf.low hb hf.lt
    by_cases hin : i < n
    · have c0 := hr.cell (j := i * 6) (by omega)
      have c1 := hr.cell (j := i * 6 + 1) (by omega)
      have c2 := hr.cell (j := i * 6 + 2) (by omega)
      have c3 := hr.cell (j := i * 6 + 3) (by omega)
      rw [mkV_0] at c0
      rw [mkV_1] at c1
      rw [mkV_2] at c2
      rw [mkV_3] at c3
      have HB := hide hb
      have HR := hide hr
      clear hb hr
      have HMT : Hid (∀ w', Calls Tryz.prog 20 #[.int .i64 (1 + 6 * (i : Int) + 1 + 1 + 1)] w' fun e w'' => e = .returned (.string (mtx (4 + 6 * i))) ∧ Below w'.heap.size w' w'') := hide (fun w' => by
        have hm := markText_any (4 + 6 * i) w' (by omega) (by omega)
        rw [show (((4 + 6 * i : Nat)) : Int) = 1 + 6 * (i : Int) + 1 + 1 + 1 by omega] at hm
        exact hm)
      have hglt := HR.out.lt
      go_wp2_with fail
      go_region_held3 (fun w' => w'.cell? ⟨g, i * 6 + 3, none⟩ = some (.string (mtx (4 + 6 * i)))) (go_keep)
        (first | (go_at_call 20; refine (HMT.out _).mono ?_; rintro e w2 ⟨rfl, hb2⟩; have q3 : w2.cell? ⟨g, i * 6 + 3, none⟩ = some (.string (mtx (4 + 6 * i))) := (hb2.cell (p := ⟨g, i * 6 + 3, none⟩) hglt).trans c3; have HB2 := hide hb2; clear hb2))
      have HB3 := hide (HB.out.drew.trans (HB2.out.mono HB.out.size))
      have hr2 := hf.low HB3.out hf.lt
      have c4 := hr2.cell (j := i * 6 + 4) (by omega)
      have c5 := hr2.cell (j := i * 6 + 5) (by omega)
      rw [mkV_4] at c4
      rw [mkV_5] at c5
      clear hr2 HMT c0 c1 c2 c3 q3
      go_wp2
      go_roundw
      case rel => exact ⟨i + 1, by omega, by simp, by congr 1, HB3.out⟩
      case measure => simp; omega
    · obtain rfl : i = n := by omega
      go_wp2
      go_ret
      exact ⟨rfl, hb⟩
end Go.Proofs.YtmndipnifjpdjaaGreatDoor
namespace Go.Proofs.YtmndipnifjpdjaaGreatDoor
open Go Go.RowKit
set_option linter.unusedVariables false
theorem below_two (w : World) (o o' : Obj) : Below w.heap.size w ((w.alloc o).alloc o') := ((Below.refl _ _).alloc (Nat.le_refl _) _).alloc (by simp) _
set_option maxHeartbeats 3200000 in
set_option maxRecDepth 100000 in
theorem eqTok_any (k l a x b : Int) (tx : ByteArray) (w : World) :
    Calls Tryz.prog 19 #[.agg #[.int .i64 k, .int .i64 l, .int .i64 a, .string tx, .int .i64 x, .int .u64 b], .agg #[.int .i64 k, .int .i64 l, .int .i64 a, .string tx, .int .i64 x, .int .u64 b]] w fun e w' => e = .returned (.bool true) ∧ Below w.heap.size w w' := by
  go_enter Tryz.func19, Tryz.ntmps19
  go_wp2
  go_ret
  exact ⟨rfl, below_two _ _ _⟩
set_option maxHeartbeats 3200000 in
set_option maxRecDepth 100000 in
theorem eqFault_any (k l a : Int) (w : World) :
    Calls Tryz.prog 9 #[.agg #[.int .i64 k, .int .i64 l, .int .i64 a], .agg #[.int .i64 k, .int .i64 l, .int .i64 a]] w fun e w' => e = .returned (.bool true) ∧ Below w.heap.size w w' := by
  go_enter Tryz.func9, Tryz.ntmps9
  go_wp2
  go_ret
  exact ⟨rfl, below_two _ _ _⟩
def TokF (n : Nat) (f : Nat → Value) : Prop := ∀ i, i < n → ∃ (k l a x b : Int) (tx : ByteArray), f (i * 6) = .int .i64 k ∧ f (i * 6 + 1) = .int .i64 l ∧ f (i * 6 + 2) = .int .i64 a ∧ f (i * 6 + 3) = .string tx ∧ f (i * 6 + 4) = .int .i64 x ∧ f (i * 6 + 5) = .int .u64 b
set_option maxHeartbeats 3200000 in
set_option maxRecDepth 100000 in
theorem eqToks_any (g g' n cap cap' : Nat) (f : Nat → Value) (w : World) (hn : n ≤ 32769) (hnc : n ≤ cap) (hnc' : n ≤ cap') (hf : RowF w g n f) (hf' : RowF w g' n f) (ht : TokF n f) :
    Calls Tryz.prog 8 #[.slice (some ⟨g, 0, none⟩) n cap, .slice (some ⟨g', 0, none⟩) n cap'] w fun e w' => e = .returned (.bool true) ∧ Below w.heap.size w w' := by
  have HT := hide ht
  clear ht
  go_enter Tryz.func8, Tryz.ntmps8
  go_wp2
  go_loopw [5] (fun iv wr => ∃ i : Nat, i ≤ n ∧ iv = .int .i64 i ∧ Below w.heap.size w wr) (fun iv _ => match iv with | .int _ x => n - x.toNat | _ => 0)
  case atStart => exact ⟨0, by omega, rfl, Below.refl _ _⟩
  case round =>
    obtain ⟨i, hi, rfl, hb⟩ := hrel
    by_cases hin : i < n
    · obtain ⟨k, l, a, x, b, tx, e0, e1, e2, e3, e4, e5⟩ := HT.out i hin
      have hr := hf.low hb hf.lt
      have hr' := hf'.low hb hf'.lt
      have c0 := hr.cell (j := i * 6) (by omega)
      have c1 := hr.cell (j := i * 6 + 1) (by omega)
      have c2 := hr.cell (j := i * 6 + 2) (by omega)
      have c3 := hr.cell (j := i * 6 + 3) (by omega)
      have c4 := hr.cell (j := i * 6 + 4) (by omega)
      have c5 := hr.cell (j := i * 6 + 5) (by omega)
      have d0 := hr'.cell (j := i * 6) (by omega)
      have d1 := hr'.cell (j := i * 6 + 1) (by omega)
      have d2 := hr'.cell (j := i * 6 + 2) (by omega)
      have d3 := hr'.cell (j := i * 6 + 3) (by omega)
      have d4 := hr'.cell (j := i * 6 + 4) (by omega)
      have d5 := hr'.cell (j := i * 6 + 5) (by omega)
      rw [e0] at c0 d0
      rw [e1] at c1 d1
      rw [e2] at c2 d2
      rw [e3] at c3 d3
      rw [e4] at c4 d4
      rw [e5] at c5 d5
      clear e0 e1 e2 e3 e4 e5
      have hl := hr.lt
      have hl' := hr'.lt
      have HB := hide hb
      clear hb hr hr'
      go_wp2_with fail
      go_region_held3 (fun w' => (w'.cell? ⟨g, i * 6, none⟩ = some (.int .i64 k) ∧ w'.cell? ⟨g, i * 6 + 1, none⟩ = some (.int .i64 l) ∧ w'.cell? ⟨g, i * 6 + 2, none⟩ = some (.int .i64 a) ∧ w'.cell? ⟨g, i * 6 + 3, none⟩ = some (.string tx) ∧ w'.cell? ⟨g, i * 6 + 4, none⟩ = some (.int .i64 x) ∧ w'.cell? ⟨g, i * 6 + 5, none⟩ = some (.int .u64 b)) ∧ w'.cell? ⟨g', i * 6, none⟩ = some (.int .i64 k) ∧ w'.cell? ⟨g', i * 6 + 1, none⟩ = some (.int .i64 l) ∧ w'.cell? ⟨g', i * 6 + 2, none⟩ = some (.int .i64 a) ∧ w'.cell? ⟨g', i * 6 + 3, none⟩ = some (.string tx) ∧ w'.cell? ⟨g', i * 6 + 4, none⟩ = some (.int .i64 x) ∧ w'.cell? ⟨g', i * 6 + 5, none⟩ = some (.int .u64 b)) (go_keep)
        (first | (go_at_call 19; refine (eqTok_any k l a x b tx _).mono ?_; rintro e w2 ⟨rfl, hb2⟩; have q0 := (hb2.cell (p := ⟨g, i * 6, none⟩) hl).trans c0; have q1 := (hb2.cell (p := ⟨g, i * 6 + 1, none⟩) hl).trans c1; have q2 := (hb2.cell (p := ⟨g, i * 6 + 2, none⟩) hl).trans c2; have q3 := (hb2.cell (p := ⟨g, i * 6 + 3, none⟩) hl).trans c3; have q4 := (hb2.cell (p := ⟨g, i * 6 + 4, none⟩) hl).trans c4; have q5 := (hb2.cell (p := ⟨g, i * 6 + 5, none⟩) hl).trans c5; have r0 := (hb2.cell (p := ⟨g', i * 6, none⟩) hl').trans d0; have r1 := (hb2.cell (p := ⟨g', i * 6 + 1, none⟩) hl').trans d1; have r2 := (hb2.cell (p := ⟨g', i * 6 + 2, none⟩) hl').trans d2; have r3 := (hb2.cell (p := ⟨g', i * 6 + 3, none⟩) hl').trans d3; have r4 := (hb2.cell (p := ⟨g', i * 6 + 4, none⟩) hl').trans d4; have r5 := (hb2.cell (p := ⟨g', i * 6 + 5, none⟩) hl').trans d5; have HB2 := hide hb2; clear hb2))
      have HB3 := hide (HB.out.drew.trans (HB2.out.mono HB.out.size))
      rename_i hh
      clear hh c0 c1 c2 c3 c4 c5 d0 d1 d2 d3 d4 d5 q0 q1 q2 q3 q4 q5 r0 r1 r2 r3 r4 r5
      go_wp2
      go_roundw
      case rel => exact ⟨i + 1, by omega, by simp, HB3.out⟩
      case measure => simp; omega
    · obtain rfl : i = n := by omega
      go_wp2
      go_ret
      exact ⟨rfl, hb⟩
theorem eqToks_nil (w : World) : Calls Tryz.prog 8 #[.slice none 0 0, .slice none 0 0] w fun e w' => e = .returned (.bool true) ∧ Below w.heap.size w w' := by
  go_enter Tryz.func8, Tryz.ntmps8
  go_wp2
  go_loopw [5] (fun iv wr => iv = .int .i64 0 ∧ wr = w) (fun _ _ => 0)
  case atStart => exact ⟨rfl, rfl⟩
  case round =>
    obtain ⟨rfl, rfl⟩ := hrel
    go_wp2
    go_ret
    exact ⟨rfl, Below.refl _ _⟩
theorem mark_nil (w : World) : Calls Tryz.prog 10 #[.slice none 0 0, .int .i64 1] w fun e w' => e = .returned (.int .i64 1) ∧ Below w.heap.size w w' := by
  go_enter Tryz.func10, Tryz.ntmps10
  go_wp2
  go_loopw [1, 5] (fun kv iv wr => kv = .int .i64 1 ∧ iv = .int .i64 0 ∧ wr = w) (fun _ _ _ => 0)
  case atStart => exact ⟨rfl, rfl, rfl⟩
  case round =>
    obtain ⟨rfl, rfl, rfl⟩ := hrel
    go_wp2
    go_ret
    exact ⟨rfl, Below.refl _ _⟩
theorem held_nil (w : World) : Calls Tryz.prog 11 #[.slice none 0 0, .int .i64 1] w fun e w' => e = .returned (.int .i64 1) ∧ Below w.heap.size w w' := by
  go_enter Tryz.func11, Tryz.ntmps11
  go_wp2
  go_loopw [1, 5] (fun kv iv wr => kv = .int .i64 1 ∧ iv = .int .i64 0 ∧ wr = w) (fun _ _ _ => 0)
  case atStart => exact ⟨rfl, rfl, rfl⟩
  case round =>
    obtain ⟨rfl, rfl, rfl⟩ := hrel
    go_wp2
    go_ret
    exact ⟨rfl, Below.refl _ _⟩
end Go.Proofs.YtmndipnifjpdjaaGreatDoor
namespace Go.Proofs.YtmndipnifjpdjaaGreatDoor
open Go Go.RowKit
set_option linter.unusedVariables false
def Rows (b : Nat) (w : World) (v : Value) (n : Nat) (f : Nat → Value) : Prop :=
  (v = .slice none 0 0 ∧ n = 0) ∨ (1 ≤ n ∧ ∃ g cap, v = .slice (some ⟨g, 0, none⟩) n cap ∧ b ≤ g ∧ n ≤ cap ∧ RowF w g n f)
theorem Rows.low {b : Nat} {w w' : World} {v : Value} {n : Nat} {f : Nat → Value} (h : Rows b w v n f) (hb : Below w.heap.size w w') : Rows b w' v n f := by
  rcases h with h | ⟨h1, g, cap, rfl, h2, h3, h4⟩
  · exact .inl h
  · exact .inr ⟨h1, g, cap, rfl, h2, h3, h4.low hb h4.lt⟩
theorem Rows.lt {b : Nat} {w : World} {v : Value} {n : Nat} {f : Nat → Value} (h : Rows b w v n f) : ∀ g, v.ownBlock = some g → b ≤ g ∧ g < w.heap.size := by
  intro g e
  rcases h with ⟨rfl, _⟩ | ⟨h1, g', cap, rfl, h2, h3, h4⟩
  · cases e
  · injection e with e
    have e' : g' = g := e
    subst e'
    exact ⟨h2, h4.lt⟩
theorem Rows.kept {b : Nat} {w w' : World} {v : Value} {n : Nat} {f : Nat → Value} {row : Option Nat} (h : Rows b w v n f) (hg : w.grownBy w' row) (hn : ∀ g, row = some g → w.heap.size ≤ g ∨ v.ownBlock ≠ some g) : Rows b w' v n f := by
  rcases h with h | ⟨h1, g, cap, rfl, h2, h3, h4⟩
  · exact .inl h
  · refine .inr ⟨h1, g, cap, rfl, h2, h3, h4.kept hg (fun e => ?_)⟩
    rcases hn g e.symm with c | c
    · have := h4.lt; omega
    · exact c rfl
theorem eqS {b b' n : Nat} {w : World} {v v' : Value} {f : Nat → Value} (hn : n ≤ 32769) (h : Rows b w v n f) (h' : Rows b' w v' n f) (ht : TokF n f) :
    Calls Tryz.prog 8 #[v, v'] w fun e w' => e = .returned (.bool true) ∧ Below w.heap.size w w' := by
  rcases h with ⟨rfl, h0⟩ | ⟨h1, g, cap, rfl, h2, h3, h4⟩
  · rcases h' with ⟨rfl, _⟩ | ⟨h1', _⟩
    · exact eqToks_nil w
    · omega
  · rcases h' with ⟨rfl, h0⟩ | ⟨h1', g', cap', rfl, h2', h3', h4'⟩
    · omega
    · exact eqToks_any g g' n cap cap' f w hn h3 h3' h4 h4' ht
theorem markS {b n : Nat} {w : World} {v : Value} {f : Nat → Value} (hn : n ≤ 32769) (h : Rows b w v n f) :
    Calls Tryz.prog 10 #[v, .int .i64 1] w fun e w' => e = .returned (.int .i64 (1 + 6 * (n : Int))) ∧ Rows b w' v n mkV ∧ w.grownBy w' v.ownBlock := by
  rcases h with ⟨rfl, h0⟩ | ⟨h1, g, cap, rfl, h2, h3, h4⟩
  · refine (mark_nil w).mono ?_
    rintro e w' ⟨rfl, hb⟩
    subst h0
    exact ⟨rfl, .inl ⟨rfl, rfl⟩, grown_lw hb⟩
  · refine (mark_any g n cap f w hn h3 h4).mono ?_
    rintro e w' ⟨rfl, hr, hg⟩
    exact ⟨rfl, .inr ⟨h1, g, cap, rfl, h2, h3, hr⟩, hg⟩
theorem heldS {b n : Nat} {w : World} {v : Value} (hn : n ≤ 32769) (h : Rows b w v n mkV) :
    Calls Tryz.prog 11 #[v, .int .i64 1] w fun e w' => e = .returned (.int .i64 (1 + 6 * (n : Int))) ∧ Below w.heap.size w w' := by
  rcases h with ⟨rfl, h0⟩ | ⟨h1, g, cap, rfl, h2, h3, h4⟩
  · refine (held_nil w).mono ?_
    rintro e w' ⟨rfl, hb⟩
    subst h0
    exact ⟨rfl, hb⟩
  · exact held_any g n cap w hn h3 h4
def FltB (E : Nat) (c l a : Int) (w : World) : Prop := w.heap[E]? = some (.cells #[.int .i64 c, .int .i64 l, .int .i64 a] 24 (0, 0))
structure FltC (E : Nat) (c l a : Int) (w : World) : Prop where
  e0 : w.cell? ⟨E, 0, none⟩ = some (.int .i64 c)
  e1 : w.cell? ⟨E, 1, none⟩ = some (.int .i64 l)
  e2 : w.cell? ⟨E, 2, none⟩ = some (.int .i64 a)
theorem FltB.cells {E : Nat} {c l a : Int} {w : World} (h : FltB E c l a w) : FltC E c l a w := by
  unfold FltB at h
  constructor <;> simp [World.cell?, h]
theorem FltB.lt {E : Nat} {c l a : Int} {w : World} (h : FltB E c l a w) : E < w.heap.size := by
  rcases Nat.lt_or_ge E w.heap.size with g | g
  · exact g
  · unfold FltB at h; rw [Array.getElem?_eq_none g] at h; cases h
theorem FltB.low {E : Nat} {c l a : Int} {w w' : World} (h : FltB E c l a w) (hb : Below w.heap.size w w') : FltB E c l a w' := (hb.block E h.lt).trans h
theorem FltB.kept {E : Nat} {c l a : Int} {w w' : World} {row : Option Nat} (h : FltB E c l a w) (hg : w.grownBy w' row) (hn : row ≠ some E) : FltB E c l a w' := (hg.block E h.lt (Ne.symm hn)).trans h
set_option maxHeartbeats 6400000 in
set_option maxRecDepth 100000 in
theorem law_core (s : ByteArray) (n : Nat) (f : Nat → Value) (fc fl fa : Int) (w : World) (hn : n ≤ 32769) (ht : TokF n f) (hs : s.size ≤ 1048576)
    (h6 : Calls Tryz.prog 6 #[.string s] w fun e w' => ∃ v, e = .returned (.tuple #[v, .agg #[.int .i64 fc, .int .i64 fl, .int .i64 fa]]) ∧ Rows w.heap.size w' v n f ∧ Below w.heap.size w w')
    (h7 : ∀ w', Below w.heap.size w w' → Calls Tryz.prog 7 #[.string s] w' fun e w'' => ∃ v, e = .returned (.tuple #[v, .agg #[.int .i64 fc, .int .i64 fl, .int .i64 fa]]) ∧ Rows w'.heap.size w'' v n f ∧ Below w'.heap.size w' w'') :
    Calls Tryz.prog 3 #[.string s] w fun e w' => e = .returned (.bool true) ∧ Below w.heap.size w w' := by
  have HT := hide ht
  have H6 := hide h6
  have H7 := hide h7
  clear ht h6 h7
  have hd : decide ((s.size : Int) > 1048576) = false := by simp; omega
  go_enter Tryz.func3, Tryz.ntmps3
  go_wp2_with fail
  refine H6.out.mono ?_
  rintro e w1 ⟨v0, rfl, hr, hb⟩
  have HR0 := hide hr
  have HB1 := hide hb
  clear hr hb H6
  obtain ⟨E0, hE0⟩ : ∃ E0, w1.heap.size = E0 := ⟨_, rfl⟩
  have HA1 : Hid (Rows w.heap.size (w1.alloc (.cells #[.int .i64 fc, .int .i64 fl, .int .i64 fa] 24)) v0 n f ∧ FltB E0 fc fl fa (w1.alloc (.cells #[.int .i64 fc, .int .i64 fl, .int .i64 fa] 24)) ∧ Below w.heap.size w (w1.alloc (.cells #[.int .i64 fc, .int .i64 fl, .int .i64 fa] 24))) :=
    hide ⟨HR0.out.low ((Below.refl _ _).alloc (Nat.le_refl _) _), by rw [← hE0]; exact heap_alloc_new w1 _, HB1.out.alloc HB1.out.size _⟩
  go_wp2_with fail
  generalize w1.alloc (.cells #[.int .i64 fc, .int .i64 fl, .int .i64 fa] 24) = w2 at HA1 ⊢
  clear HR0 HB1 hE0
  refine (H7.out w2 HA1.out.2.2).mono ?_
  rintro e w3 ⟨v1, rfl, hr, hb⟩
  have HR1 := hide hr
  have HB3 := hide hb
  clear hr hb
  obtain ⟨E1, hE1⟩ : ∃ E1, w3.heap.size = E1 := ⟨_, rfl⟩
  have HA3 : Hid (Rows w2.heap.size (w3.alloc (.cells #[.int .i64 fc, .int .i64 fl, .int .i64 fa] 24)) v1 n f ∧ FltB E1 fc fl fa (w3.alloc (.cells #[.int .i64 fc, .int .i64 fl, .int .i64 fa] 24)) ∧ Below w2.heap.size w2 (w3.alloc (.cells #[.int .i64 fc, .int .i64 fl, .int .i64 fa] 24)) ∧ v1.ownBlock ≠ some E1) :=
    hide ⟨HR1.out.low ((Below.refl _ _).alloc (Nat.le_refl _) _), by rw [← hE1]; exact heap_alloc_new w3 _, HB3.out.alloc HB3.out.size _, fun e => by have := (HR1.out.lt E1 e).2; omega⟩
  go_wp2_with fail
  generalize w3.alloc (.cells #[.int .i64 fc, .int .i64 fl, .int .i64 fa] 24) = w4 at HA3 ⊢
  clear HR1 HB3 hE1
  have HR0 := hide (HA1.out.1.low HA3.out.2.2.1)
  have HF0 := hide (HA1.out.2.1.low HA3.out.2.2.1)
  refine (eqS hn HA3.out.1 HR0.out HT.out).mono ?_
  rintro e w5 ⟨rfl, hb⟩
  have HB5 := hide hb
  clear hb
  have hf1 := HA3.out.2.1.low HB5.out
  have hf0 := HF0.out.low HB5.out
  obtain ⟨e0, e1, e2⟩ := hf1.cells
  obtain ⟨d0, d1, d2⟩ := hf0.cells
  clear hf0 hf1
  go_wp2_with fail
  clear e0 e1 e2 d0 d1 d2
  refine (eqFault_any fc fl fa _).mono ?_
  rintro e w6 ⟨rfl, hb⟩
  have HB6 := hide (HB5.out.trans (hb.mono HB5.out.size))
  clear hb HB5
  go_wp2_with fail
  refine (markS hn (HA3.out.1.low HB6.out)).mono ?_
  rintro e w7 ⟨rfl, hr, hg⟩
  have HS7 : Hid (Rows w2.heap.size w7 v1 n mkV ∧ Rows w.heap.size w7 v0 n f ∧ FltB E0 fc fl fa w7 ∧ Below w.heap.size w w7) := hide (by
    have hlt1 := HA3.out.1.lt
    have hlt0 := HA1.out.1.lt
    have hE0 := HA1.out.2.1.lt
    have hw2 := HA1.out.2.2.size
    refine ⟨hr, (HR0.out.low HB6.out).kept hg (fun g e => .inr (fun e' => ?_)), (HF0.out.low HB6.out).kept hg (fun e => ?_), ?_⟩
    · have a1 := (hlt1 g e).1
      have a0 := (hlt0 g e').2
      omega
    · have a1 := (hlt1 E0 e).1
      omega
    · have b4 := HA1.out.2.2.trans (HA3.out.2.2.1.mono hw2)
      have b6 := b4.trans (HB6.out.mono b4.size)
      exact b6.grown hg b6.size (fun k e => Nat.le_trans hw2 (hlt1 k e).1))
  clear hr hg HA3 HR0 HF0 HB6 HA1
  go_wp2_with fail
  refine (heldS hn HS7.out.1).mono ?_
  rintro e w8 ⟨rfl, hb⟩
  have HS8 : Hid (Rows w2.heap.size w8 v1 n mkV ∧ Rows w.heap.size w8 v0 n f ∧ FltB E0 fc fl fa w8 ∧ Below w.heap.size w w8) := hide ⟨HS7.out.1.low hb, HS7.out.2.1.low hb, HS7.out.2.2.1.low hb, HS7.out.2.2.2.trans (hb.mono HS7.out.2.2.2.size)⟩
  clear hb HS7
  have hge : ¬ (1 + 6 * (n : Int) < 0) := by omega
  go_wp2_with fail
  refine (H7.out w8 HS8.out.2.2.2).mono ?_
  rintro e w9 ⟨v2, rfl, hr, hb⟩
  obtain ⟨E2, hE2⟩ : ∃ E2, w9.heap.size = E2 := ⟨_, rfl⟩
  have HS10 : Hid (Rows w8.heap.size (w9.alloc (.cells #[.int .i64 fc, .int .i64 fl, .int .i64 fa] 24)) v2 n f ∧ FltB E2 fc fl fa (w9.alloc (.cells #[.int .i64 fc, .int .i64 fl, .int .i64 fa] 24)) ∧ Below w8.heap.size w8 (w9.alloc (.cells #[.int .i64 fc, .int .i64 fl, .int .i64 fa] 24))) :=
    hide ⟨hr.low ((Below.refl _ _).alloc (Nat.le_refl _) _), by rw [← hE2]; exact heap_alloc_new w9 _, hb.alloc hb.size _⟩
  clear hr hb
  go_wp2_with fail
  generalize w9.alloc (.cells #[.int .i64 fc, .int .i64 fl, .int .i64 fa] 24) = w10 at HS10 ⊢
  clear hE2
  refine (eqS hn HS10.out.1 (HS8.out.2.1.low HS10.out.2.2) HT.out).mono ?_
  rintro e w11 ⟨rfl, hb⟩
  have HB11 := hide hb
  clear hb
  have hf1 := HS10.out.2.1.low HB11.out
  have hf0 := (HS8.out.2.2.1.low HS10.out.2.2).low HB11.out
  obtain ⟨e0, e1, e2⟩ := hf1.cells
  obtain ⟨d0, d1, d2⟩ := hf0.cells
  clear hf0 hf1
  go_wp2_with fail
  clear e0 e1 e2 d0 d1 d2
  refine (eqFault_any fc fl fa _).mono ?_
  rintro e w12 ⟨rfl, hb⟩
  have HB12 := hide (HB11.out.trans (hb.mono HB11.out.size))
  clear hb HB11
  have HR12 := hide ((HS8.out.1.low HS10.out.2.2).low HB12.out)
  go_wp2_with fail
  refine (heldS hn HR12.out).mono ?_
  rintro e w13 ⟨rfl, hb⟩
  have HEND : Hid (Below w.heap.size w w13) := hide (by
    have b8 := HS8.out.2.2.2
    have b10 := b8.trans (HS10.out.2.2.mono b8.size)
    have b12 := b10.trans (HB12.out.mono b10.size)
    exact b12.trans (hb.mono b12.size))
  clear hb
  go_wp2
  go_ret
  exact ⟨rfl, HEND.out⟩
theorem law_big (s : ByteArray) (w : World) (hs : 1048576 < s.size) : Calls Tryz.prog 3 #[.string s] w fun e w' => e = .returned (.bool true) ∧ Below w.heap.size w w' := by
  have hd : decide ((s.size : Int) > 1048576) = true := by simp; omega
  go_enter Tryz.func3, Tryz.ntmps3
  go_wp2
  go_ret
  exact ⟨rfl, Below.refl _ _⟩
end Go.Proofs.YtmndipnifjpdjaaGreatDoor
namespace Go.Proofs.YtmndipnifjpdjaaGreatDoor
open Go Go.RowKit
set_option linter.unusedVariables false
def Pz (D : Nat → Int) (nd r : Nat) : Nat := dv D (min r nd) * 10 ^ (r - nd)
theorem pz_le {D : Nat → Int} {nd r : Nat} (h : r ≤ nd) : Pz D nd r = dv D r := by
  unfold Pz; rw [Nat.min_eq_left h, show r - nd = 0 by omega, Nat.pow_zero, Nat.mul_one]
theorem pz_ge {D : Nat → Int} {nd r : Nat} (h : nd ≤ r) : Pz D nd r = dv D nd * 10 ^ (r - nd) := by
  unfold Pz; rw [Nat.min_eq_right h]
theorem pz_lt {D : Nat → Int} {nd r : Nat} (h : r < nd) : Pz D nd (r + 1) = Pz D nd r * 10 + dgt D r := by
  rw [pz_le (by omega), pz_le (by omega)]; rfl
theorem pz_out {D : Nat → Int} {nd r : Nat} (h : nd ≤ r) : Pz D nd (r + 1) = Pz D nd r * 10 + 0 := by
  rw [pz_ge h, pz_ge (by omega), show r + 1 - nd = r - nd + 1 by omega, Nat.pow_succ, Nat.mul_assoc, Nat.add_zero]
def RSt (D : Nat → Int) (nd k r t n : Nat) (D' : Nat → Int) (tr tr' : Bool) : Prop :=
  ∃ R, Pz D nd r = n + 10 * 2 ^ k * (dv D' (min t 800) * 10 ^ (t - 800) + R) ∧ R < 10 ^ (t - 800) ∧ OkDig D' (min t 800) ∧ (t ≠ 0 → D' 0 ≠ 48) ∧ (t = 0 → 2 ^ k ≤ n) ∧ n < 10 * 2 ^ k ∧ tr' = (tr || decide (R ≠ 0))
theorem rst_start {D D' : Nat → Int} {nd k r n : Nat} {tr : Bool} (hn : Pz D nd r = n) (h1 : 2 ^ k ≤ n) (h2 : n < 10 * 2 ^ k) : RSt D nd k r 0 n D' tr tr := by
  refine ⟨0, ?_, by simp, fun i hi => by omega, fun h => absurd rfl h, fun _ => h1, h2, by simp⟩
  simp [dv, hn]
theorem rst_num {P n c : Nat} (hc : c ≤ 9) : (n % P) * 10 + c < 10 * P ∨ P = 0 := by
  by_cases h : P = 0
  · exact .inr h
  · have := Nat.mod_lt n (Nat.pos_of_ne_zero h); left; omega
theorem rst_alg {P n c d S pr pr' : Nat} (h : pr = n + 10 * P * S) (hpr : pr' = pr * 10 + c) (hd : d = n / P) : pr' = ((n % P) * 10 + c) + 10 * P * (S * 10 + d) := by
  have e := Nat.div_add_mod n P
  rw [← hd] at e
  rw [hpr, h, Nat.mul_add, Nat.add_mul]
  have e2 : 10 * P * S * 10 = 10 * P * (S * 10) := by rw [Nat.mul_assoc (10 * P)]
  have e3 : 10 * P * d = 10 * (P * d) := Nat.mul_assoc _ _ _
  rw [e2, e3]
  generalize 10 * P * (S * 10) = y
  generalize P * d = z at *
  omega
theorem rst_put {D D' : Nat → Int} {nd k r t n c d n' : Nat} {tr tr' : Bool} (h : RSt D nd k r t n D' tr tr') (ht : t < 800) (hpz : Pz D nd (r + 1) = Pz D nd r * 10 + c) (hc : c ≤ 9) (hd : d = n / 2 ^ k) (hn' : n' = (n % 2 ^ k) * 10 + c) :
    RSt D nd k (r + 1) (t + 1) n' (updD D' t (d + 48)) tr tr' ∧ d ≤ 9 := by
  obtain ⟨R, h1, h2, h3, h4, h5, h6, h7⟩ := h
  have hp : 0 < 2 ^ k := Nat.pow_pos (by omega)
  have hd9 : d ≤ 9 := by
    have : n / 2 ^ k < 10 := Nat.div_lt_of_lt_mul (by rw [Nat.mul_comm]; exact h6)
    omega
  have m1 : min t 800 = t := Nat.min_eq_left (by omega)
  have m2 : min (t + 1) 800 = t + 1 := Nat.min_eq_left (by omega)
  have z1 : t - 800 = 0 := Nat.sub_eq_zero_of_le (Nat.le_of_lt ht)
  have z2 : t + 1 - 800 = 0 := Nat.sub_eq_zero_of_le ht
  rw [m1] at h1 h3
  rw [z1, Nat.pow_zero] at h1 h2
  have hR : R = 0 := by omega
  subst hR
  refine ⟨⟨0, ?_, p10 _, fun i hi => ?_, fun _ => ?_, fun h => by omega, ?_, h7⟩, hd9⟩
  · rw [m2, z2, Nat.pow_zero, Nat.mul_one, Nat.add_zero, dv_snoc, hn', show ((d : Int) + 48 - 48).toNat = d by omega]
    rw [Nat.mul_one, Nat.add_zero] at h1
    exact rst_alg h1 hpz hd
  · rw [m2] at hi
    by_cases e : i = t
    · subst e; rw [updD_same]; omega
    · rw [updD_other e]; exact h3 i (by omega)
  · by_cases e : t = 0
    · subst e
      rw [updD_same]
      have h8 := h5 rfl
      have : 1 ≤ n / 2 ^ k := (Nat.one_le_div_iff hp).2 h8
      omega
    · rw [updD_other (by omega)]; exact h4 e
  · rw [hn']
    have := rst_num (P := 2 ^ k) (n := n) hc
    omega
theorem rst_drop {D D' : Nat → Int} {nd k r t n c d n' : Nat} {tr tr' tr'' : Bool} (h : RSt D nd k r t n D' tr tr') (ht : 800 ≤ t) (hpz : Pz D nd (r + 1) = Pz D nd r * 10 + c) (hc : c ≤ 9) (hd : d = n / 2 ^ k) (hn' : n' = (n % 2 ^ k) * 10 + c)
    (htr : tr'' = (tr' || decide (d ≠ 0))) : RSt D nd k (r + 1) (t + 1) n' D' tr tr'' ∧ d ≤ 9 := by
  obtain ⟨R, h1, h2, h3, h4, h5, h6, h7⟩ := h
  have hp : 0 < 2 ^ k := Nat.pow_pos (by omega)
  have hd9 : d ≤ 9 := by
    have : n / 2 ^ k < 10 := Nat.div_lt_of_lt_mul (by rw [Nat.mul_comm]; exact h6)
    omega
  have m1 : min t 800 = 800 := Nat.min_eq_right (by omega)
  have m2 : min (t + 1) 800 = 800 := Nat.min_eq_right (by omega)
  have z2 : 10 ^ (t + 1 - 800) = 10 ^ (t - 800) * 10 := by rw [show t + 1 - 800 = (t - 800) + 1 by omega, Nat.pow_succ]
  rw [m1] at h1 h3
  refine ⟨⟨R * 10 + d, ?_, by rw [z2]; omega, by rw [m2]; exact h3, fun _ => h4 (by omega), fun h => by omega, ?_, ?_⟩, hd9⟩
  · rw [m2, z2, hn', ← Nat.mul_assoc, ← Nat.add_assoc, ← Nat.add_mul]
    exact rst_alg h1 hpz hd
  · rw [hn']
    have := rst_num (P := 2 ^ k) (n := n) hc
    omega
  · have key : (decide (R ≠ 0) || decide (d ≠ 0)) = decide (R * 10 + d ≠ 0) := by
      by_cases hR : R = 0
      · simp [hR]
      · simp [hR]; omega
    rw [htr, h7, Bool.or_assoc, key]
theorem rst_end {D D' : Nat → Int} {nd k r r0 t : Nat} {dp : Int} {tr tr' : Bool} (h : RSt D nd k r t 0 D' tr tr') (hr : nd ≤ r) (hr2 : r ≤ nd + k + 1) (hrt : r = r0 + t) (hnd : (nd : Int) = (nd : Int)) :
    Shf (dv D nd * 5 ^ k) (dp - nd - k) tr D' (trimN D' (min t 800)) (trimDp (trimN D' (min t 800)) (dp - ((r0 : Int) - 1))) tr' := by
  obtain ⟨R, h1, h2, h3, h4, h5, h6, h7⟩ := h
  have hp : 0 < 2 ^ k := Nat.pow_pos (by omega)
  have ht : t ≠ 0 := by intro e; have := h5 e; omega
  rw [pz_ge hr, Nat.zero_add] at h1
  have hX : dv D nd * 5 ^ k = (dv D' (min t 800) * 10 ^ (t - 800) + R) * 10 ^ (k + 1 - (r - nd)) := by
    refine Nat.eq_of_mul_eq_mul_right (Nat.mul_pos (p10 (r - nd)) hp) ?_
    have e10 : 2 ^ k * 5 ^ k = 10 ^ k := by rw [← Nat.mul_pow]
    calc dv D nd * 5 ^ k * (10 ^ (r - nd) * 2 ^ k) = dv D nd * 10 ^ (r - nd) * (2 ^ k * 5 ^ k) := by
            generalize dv D nd = a; generalize 5 ^ k = b; generalize 10 ^ (r - nd) = c; generalize 2 ^ k = d
            rw [Nat.mul_assoc, Nat.mul_assoc, Nat.mul_left_comm b c, Nat.mul_comm b d]
      _ = 10 * 2 ^ k * (dv D' (min t 800) * 10 ^ (t - 800) + R) * 10 ^ k := by rw [h1, e10]
      _ = (dv D' (min t 800) * 10 ^ (t - 800) + R) * (10 ^ (k + 1)) * 2 ^ k := by
            rw [Nat.pow_succ]
            generalize dv D' (min t 800) * 10 ^ (t - 800) + R = a; generalize 10 ^ k = b; generalize 2 ^ k = d
            simp only [Nat.mul_comm, Nat.mul_left_comm]
      _ = (dv D' (min t 800) * 10 ^ (t - 800) + R) * 10 ^ (k + 1 - (r - nd)) * (10 ^ (r - nd) * 2 ^ k) := by
            rw [show 10 ^ (k + 1) = 10 ^ (k + 1 - (r - nd)) * 10 ^ (r - nd) by rw [← Nat.pow_add]; congr 1; omega]
            simp only [Nat.mul_assoc]
  by_cases h8 : t ≤ 800
  · have z1 : t - 800 = 0 := by omega
    rw [z1, Nat.pow_zero] at h2
    have hR : R = 0 := by omega
    rw [hR, z1, Nat.pow_zero, Nat.mul_one, Nat.add_zero] at hX
    refine shf_of_z (j := 0) (r := R) (z := k + 1 - (r - nd)) h3 (by omega) (by omega) (h4 ht) ?_ (by rw [hR]; exact Nat.one_pos) ?_ (.inl rfl) h7
    · rw [hX, hR, Nat.pow_zero, Nat.mul_one]; exact (Nat.add_zero _).symm
    · rw [Nat.min_eq_left h8]; omega
  · have hm : min t 800 = 800 := Nat.min_eq_right (by omega)
    refine shf_of_z (j := t - 800 + (k + 1 - (r - nd))) (r := R * 10 ^ (k + 1 - (r - nd))) (z := 0) h3 (by omega) (by omega) (h4 ht) ?_ ?_ ?_ (.inr hm) ?_
    · rw [hX, Nat.add_mul, Nat.pow_zero, Nat.mul_one, Nat.mul_assoc, ← Nat.pow_add]
    · rw [Nat.pow_add]; exact Nat.mul_lt_mul_of_pos_right h2 (p10 _)
    · rw [hm]; omega
    · rw [h7]
      congr 1
      have hq := p10 (k + 1 - (r - nd))
      generalize 10 ^ (k + 1 - (r - nd)) = q at *
      by_cases hR : R = 0
      · simp [hR]
      · have : R * q ≠ 0 := Nat.mul_ne_zero hR (by omega)
        simp [hR, this]
theorem dvd_round {r nd k n : Nat} (hr : nd ≤ r) (h : 2 ^ (min (r - nd) k) ∣ n) : 2 ^ (min (r + 1 - nd) k) ∣ (n % 2 ^ k) * 10 + 0 := by
  rw [Nat.add_zero]
  by_cases hk : k ≤ r - nd
  · rw [Nat.min_eq_right hk] at h
    rw [Nat.mod_eq_zero_of_dvd h, Nat.zero_mul]
    exact Nat.dvd_zero _
  · rw [Nat.min_eq_left (by omega)] at h
    rw [Nat.min_eq_left (by omega), show r + 1 - nd = (r - nd) + 1 by omega, Nat.pow_succ]
    refine Nat.mul_dvd_mul ?_ (by decide)
    exact (Nat.dvd_mod_iff (Nat.pow_dvd_pow 2 (by omega))).2 h
theorem dvd_last {r nd k n : Nat} (hr : r = nd + k) (h : 2 ^ (min (r - nd) k) ∣ n) : (n % 2 ^ k) * 10 + 0 = 0 := by
  rw [Nat.min_eq_right (by omega)] at h
  rw [Nat.mod_eq_zero_of_dvd h]
theorem rs_next {n P m : Nat} {x : Int} (hP : P ≤ 1152921504606846976) (hn : n < P) (hx1 : 48 ≤ x) (hx2 : x ≤ 57) (hm : m = n * 10 + (x - 48).toNat) :
    IntKind.u64.wrap (IntKind.u64.wrap (IntKind.u64.wrap ((n : Int) * 10) + x) - 48) = (m : Int) := by
  rw [u64_id (x := (n : Int) * 10) (by omega) (by omega), u64_id (x := (n : Int) * 10 + x) (by omega) (by omega), u64_id (by omega) (by omega)]
  omega
theorem rs_ten {n P m : Nat} (hP : P ≤ 1152921504606846976) (hn : n < P) (hm : m = n * 10) : IntKind.u64.wrap ((n : Int) * 10) = (m : Int) := by
  rw [u64_id (x := (n : Int) * 10) (by omega) (by omega)]
  omega
theorem rs_div (n k : Nat) {d : Nat} (hd : d = n / 2 ^ k) : (n : Int) / 2 ^ k = (d : Int) := by
  have e2k : ((2 ^ k : Nat) : Int) = (2 : Int) ^ k := by simp
  rw [← e2k, hd]
  exact (Int.natCast_ediv n (2 ^ k)).symm
theorem rs_mask {k mk : Nat} (hP : 2 ^ k ≤ 1152921504606846976) (hp : 0 < 2 ^ k) (hm : mk = 2 ^ k - 1) : IntKind.u64.wrap (IntKind.u64.wrap (2 ^ k) - 1) = (mk : Int) := by
  have e2k : ((2 ^ k : Nat) : Int) = (2 : Int) ^ k := by simp
  rw [← e2k]
  generalize 2 ^ k = P at *
  rw [u64_id (x := (P : Int)) (by omega) (by omega), u64_id (by omega) (by omega)]
  omega
theorem rs_and {n k mk a : Nat} (hP : 2 ^ k ≤ 1152921504606846976) (hn : n < 10 * 2 ^ k) (hm : mk = 2 ^ k - 1) (ha : a = n % 2 ^ k) : bits .and .u64 (n : Int) (mk : Int) = (a : Int) := by
  rw [u64_and_nat n mk (by omega) (by omega), hm, Nat.and_two_pow_sub_one_eq_mod, ha]
theorem rs_byte {d : Nat} (hd : d ≤ 9) : IntKind.u64.wrap ((d : Int) + 48) % 256 = (d : Int) + 48 := by
  rw [u64_id (by omega) (by omega)]; omega
theorem rs_t {n k : Nat} (h : n < 2 ^ k) : ((n : Int) / 2 ^ k == 0) = true := by
  rw [rs_div n k rfl, Nat.div_eq_of_lt h]; rfl
theorem rs_f {n k : Nat} (hp : 0 < 2 ^ k) (h : 2 ^ k ≤ n) : ((n : Int) / 2 ^ k == 0) = false := by
  rw [rs_div n k rfl, beq_eq_false_iff_ne]
  have := (Nat.one_le_div_iff hp).2 h
  omega
end Go.Proofs.YtmndipnifjpdjaaGreatDoor
