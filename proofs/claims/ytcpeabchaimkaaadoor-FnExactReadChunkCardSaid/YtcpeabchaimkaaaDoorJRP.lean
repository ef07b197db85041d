import Derived.Test.YtcpeabchaimkaaaDoorRL
import Derived.Test.YtcpeabchaimkaaaDoorRM
import Derived.Defers
import Derived.Recover
import Derived.Laws.Pointers
import Derived.Tactics
import Derived.Tactics2
namespace Go.Proofs.YtcpeabchaimkaaaDoor
open Go Go.RowKit Go.Extern.Stop Go.Stop Go.Extern
set_option linter.unusedVariables false

theorem ErrT.low {w w' : World} {B : Nat} (h : ErrT w) (hb : Below B w w') (hB : 0 < B) : ErrT w' := (hb.cell (p := ⟨0, 0, none⟩) hB).trans h
theorem ta_err (v : Value) (w : World) : (Instr.typeAssert (.iface 69 v) 20 71 true).run Tryd.prog w = .ok (.tuple #[.iface 69 v, .bool true]) w := by kernel_rfl
set_option maxHeartbeats 1600000 in
set_option maxRecDepth 100000 in
theorem fileCode_any (w : World) (hg : ErrT w) (h0 : 0 < w.heap.size) :
    Calls Tryd.prog 17 #[.iface 69 (.agg #[.int .i64 12])] w fun e w' => e = .returned (.int .i64 12) ∧ Below w.heap.size w w' := by
  have hA := RowF.mk' w 69 #[.int .i64 0]
  have HA := hide (hA.congr (fun j hj => one_row (.int .i64 0) hj))
  have HG := hide (hg.low (b_1 w (.cells #[.int .i64 0] 69)) h0)
  have HB := hide (b_1 w (.cells #[.int .i64 0] 69))
  have hta := ta_err
  clear hA hg
  go_enter Tryd.func17, Tryd.ntmps17
  go_wp2_with fail
  generalize w.alloc (.cells #[.int .i64 0] 69) = w1 at *
  refine (as_hit w.heap.size 12 (.int .i64 0) w1 HG.out HA.out).mono ?_
  rintro e w2 ⟨rfl, hc, hk⟩
  have HK := hide hk
  clear hk
  go_wp2_with fail
  go_ret
  exact ⟨rfl, HB.out.trans (HK.out.below (B := w.heap.size) HB.out.size (fun b hb => by omega))⟩

end Go.Proofs.YtcpeabchaimkaaaDoor
namespace Go.Proofs.YtcpeabchaimkaaaDoor
open Go Go.RowKit
set_option linter.unusedVariables false

set_option maxHeartbeats 1600000 in
set_option maxRecDepth 100000 in
theorem caught_panic (gc gk : Nat) (old : Value) (n : Int) (w : World) (hg : ErrT w) (h0 : 0 < w.heap.size) (hne : gc ≠ gk) (hc : RowF w 25 gc 1 (fun _ => old)) (hk : RowF w 3 gk 1 (fun _ => .int .i64 n)) :
    CallsD Tryd.prog 16 #[.pointer (some ⟨gc, 0, none⟩), .pointer (some ⟨gk, 0, none⟩)] (.panicking [{ v := .iface 69 (.agg #[.int .i64 12]), recovered := false }]) w fun e u' w' =>
      e = .returned (.tuple #[]) ∧ u' = .panicking [{ v := .iface 69 (.agg #[.int .i64 12]), recovered := true }] ∧ ∃ w1, Below w.heap.size w w1 ∧ w' = (w1.setCell ⟨gc, 0, none⟩ nilS).setCell ⟨gk, 0, none⟩ (.int .i64 12) := by
  refine callsD_of_wpS Tryd.func16 rfl fun c₀ cs hu => ?_
  apply wpS_seq
  apply wpS_region
  simp [wpOpsS, go_sem, recoverD, hu, Tryd.ntmps16, Exit.thenS]
  refine wpS_of_wp ?_
  go_wp2_with fail
  refine (fileCode_any w hg h0).mono ?_
  rintro e w1 ⟨rfl, hb⟩
  have c1 : w1.cell? ⟨gc, 0, none⟩ = some old := (hc.low hb hc.lt).cell (j := 0) (by omega)
  have f1 := (hc.low hb hc.lt).frz 0
  have c2 : (w1.setCell ⟨gc, 0, none⟩ nilS).cell? ⟨gk, 0, none⟩ = some (.int .i64 n) := ((hk.low hb hk.lt).other (g' := gc) (j := 0) (x := nilS) (fun e => hne e.symm)).cell (j := 0) (by omega)
  have f2 := ((hk.low hb hk.lt).other (g' := gc) (j := 0) (x := nilS) (fun e => hne e.symm)).frz 0
  have HB := hide hb
  clear hc hk hb
  go_wp2_with fail
  exact ⟨rfl, _, rfl, .tuple #[], by simp [results, Tryd.results16, go_sem], rfl, rfl, w1, HB.out, rfl⟩

set_option maxHeartbeats 1600000 in
set_option maxRecDepth 100000 in
theorem caught_none (gc gk : Nat) (w : World) :
    CallsD Tryd.prog 16 #[.pointer (some ⟨gc, 0, none⟩), .pointer (some ⟨gk, 0, none⟩)] .returning w fun e u' w' => e = .returned (.tuple #[]) ∧ u' = .returning ∧ w' = w := by
  refine callsD_of_wpS Tryd.func16 rfl fun c₀ cs hu => ?_
  apply wpS_seq
  apply wpS_region
  simp [wpOpsS, go_sem, recoverD, hu, Tryd.ntmps16, Exit.thenS]
  refine wpS_of_wp ?_
  go_wp2_with fail
  cases c₀
  simp_all [bodyPostS, results, Tryd.results16]

end Go.Proofs.YtcpeabchaimkaaaDoor
namespace Go.Proofs.YtcpeabchaimkaaaDoor
open Go Go.RowKit
set_option linter.unusedVariables false

/-- What the program's ReadChunk comes to: the functions whose file the bytes are, or 12 and nothing. -/
def ReadR (l : List Int) (w : World) (e : Ending) (w' : World) : Prop :=
  Below w.heap.size w w' ∧ ((∃ ys v lo, Fok (ys.map FV.x) ∧ l = fdFile (ys.map FV.x) ∧ e = .returned (.tuple #[.agg #[v], .int .i64 0]) ∧ w.heap.size ≤ lo ∧ w'.ownsRow lo 44 8 v ys.length (fvC ys) ∧ Rows w' lo ys w'.heap.size) ∨ ((∀ xs, Fok xs → l ≠ fdFile xs) ∧ e = .returned (.tuple #[.agg #[nilS], .int .i64 12])))

set_option maxHeartbeats 1600000 in
set_option maxRecDepth 100000 in
theorem implRead_any (v : Value) (l : List Int) (w : World) (hl : l.length ≤ 1048576) (hB : BytesL l) (hs : SlB w w.heap.size v l) (hg : ErrT w) (h0 : 0 < w.heap.size) :
    Calls Tryd.prog 6 #[v] w fun e w' => ReadR l w e w' := by
  have hmf : ∀ (fn : Fn) (first cap : Array Value) (w : World), (Instr.makeFunc fn first cap).run Tryd.prog w = .ok (.func fn first cap) w := fun _ _ _ _ => rfl
  obtain ⟨a, cap, rfl⟩ : ∃ a cap, v = .slice a l.length cap := by
    rcases hs with ⟨rfl, a, cap, rfl, _⟩ | ⟨b, o, cap, rfl, _⟩
    · exact ⟨_, _, rfl⟩
    · exact ⟨_, _, rfl⟩
  have b3 := b_3 w (.cells #[nilS] 25) (.cells #[.int .i64 0] 3) (.cells #[.slice a l.length cap] 51)
  have s1 : (w.alloc (.cells #[nilS] 25)).heap.size = w.heap.size + 1 := by simp
  have s2 : ((w.alloc (.cells #[nilS] 25)).alloc (.cells #[.int .i64 0] 3)).heap.size = w.heap.size + 1 + 1 := by simp
  have s3 : (((w.alloc (.cells #[nilS] 25)).alloc (.cells #[.int .i64 0] 3)).alloc (.cells #[.slice a l.length cap] 51)).heap.size = w.heap.size + 1 + 1 + 1 := by simp
  have r1 : RowF (w.alloc (.cells #[nilS] 25)) 25 w.heap.size 1 (fun _ => nilS) := (RowF.mk' w 25 #[nilS]).congr (fun j hj => one_row nilS hj)
  have r1 := (r1.low (b_1 (w.alloc (.cells #[nilS] 25)) (.cells #[.int .i64 0] 3)) (by rw [s1]; omega)).low (b_1 ((w.alloc (.cells #[nilS] 25)).alloc (.cells #[.int .i64 0] 3)) (.cells #[.slice a l.length cap] 51)) (by rw [s2]; omega)
  have r2 : RowF ((w.alloc (.cells #[nilS] 25)).alloc (.cells #[.int .i64 0] 3)) 3 (w.alloc (.cells #[nilS] 25)).heap.size 1 (fun _ => .int .i64 0) := (RowF.mk' (w.alloc (.cells #[nilS] 25)) 3 #[.int .i64 0]).congr (fun j hj => one_row (.int .i64 0) hj)
  rw [s1] at r2
  have r2 := r2.low (b_1 ((w.alloc (.cells #[nilS] 25)).alloc (.cells #[.int .i64 0] 3)) (.cells #[.slice a l.length cap] 51)) (by rw [s2]; omega)
  have r3 := (RowF.mk' ((w.alloc (.cells #[nilS] 25)).alloc (.cells #[.int .i64 0] 3)) 51 #[.slice a l.length cap]).congr (fun j hj => one_row (.slice a l.length cap) hj)
  rw [s2] at r3
  have HRd := hide (show RdP (((w.alloc (.cells #[nilS] 25)).alloc (.cells #[.int .i64 0] 3)).alloc (.cells #[.slice a l.length cap] 51)) (w.heap.size + 1 + 1) l from ⟨⟨_, r3, by
    rcases hs.low b3 (Nat.le_refl _) with h | ⟨b1, o1, c1, h1, h2, h3⟩
    · exact .inl h
    · exact .inr ⟨b1, o1, c1, h1, by omega, h3⟩⟩, hB, by omega⟩)
  have HG := hide (hg.low b3 h0)
  have HB3 := hide b3
  have HR1 := hide r1
  have HR2 := hide r2
  have HS3 := hide s3
  clear b3 s1 s2 s3 r1 r2 r3 hs hg hB
  go_enter_defers Tryd.func6, Tryd.ntmps6
  go_wp2_with fail
  generalize (((w.alloc (.cells #[nilS] 25)).alloc (.cells #[.int .i64 0] 3)).alloc (.cells #[.slice a l.length cap] 51)) = w3 at *
  refine (chunk_p (w.heap.size + 1 + 1) l w3 hl HRd.out).mono ?_
  rintro e w4 ⟨hk, ⟨ys, v', lo, hok, hfl, rfl, hlo, hown, hrows⟩ | ⟨hno, rfl⟩⟩
  case inr =>
    have hs3 := HS3.out
    have r1 := HR1.out.keep hk (by omega)
    have r2 := HR2.out.keep hk (by omega)
    have hb : Below w.heap.size w w4 := HB3.out.trans (hk.below (B := w.heap.size) HB3.out.size (by omega))
    refine leaves_cons (f := 16) (args := #[.pointer (some ⟨w.heap.size, 0, none⟩), .pointer (some ⟨w.heap.size + 1, 0, none⟩)]) (by simp) (by simp [go_sem]) ?_
    refine (caught_panic w.heap.size (w.heap.size + 1) nilS 0 w4 ?_ ?_ (by omega) r1 r2).mono ?_
    · exact HG.out.low (hk.below (B := w.heap.size) HB3.out.size (by omega)) h0
    · have := hk.size; omega
    rintro e u' w'' ⟨rfl, rfl, w5, hb5, rfl⟩
    have q1 := (r1.low hb5 r1.lt).set (j := 0) (by omega) nilS
    have q1 := (q1.other (g' := w.heap.size + 1) (j := 0) (x := .int .i64 12) (by omega)).cell (j := 0) (by omega)
    have q2 := ((r2.low hb5 r2.lt).other (g' := w.heap.size) (j := 0) (x := nilS) (by omega)).set (j := 0) (by omega) (.int .i64 12)
    have q2 := q2.cell (j := 0) (by omega)
    simp only [if_true] at q1 q2
    have HW : Below w.heap.size w ((w5.setCell ⟨w.heap.size, 0, none⟩ nilS).setCell ⟨w.heap.size + 1, 0, none⟩ (.int .i64 12)) :=
      ((hb.trans (hb5.mono (by have := hk.size; omega))).setCell (p := ⟨w.heap.size, 0, none⟩) (Nat.le_refl _) _).setCell (p := ⟨w.heap.size + 1, 0, none⟩) (by show _ ≤ w.heap.size + 1; omega) _
    generalize (w5.setCell ⟨w.heap.size, 0, none⟩ nilS).setCell ⟨w.heap.size + 1, 0, none⟩ (.int .i64 12) = w6 at *
    simp [Leaves, settle, results, Tryd.results6, go_sem, q1, q2]
    exact ⟨HW, .inr ⟨hno, rfl⟩⟩
  obtain ⟨a9, k9, rfl⟩ := owns_val hown
  have hs3 := HS3.out
  have r1 := HR1.out.keep hk (by omega)
  have r2 := HR2.out.keep hk (by omega)
  have hb : Below w.heap.size w w4 := HB3.out.trans (hk.below (B := w.heap.size) HB3.out.size (by omega))
  have c1 := r1.cell (j := 0) (by omega)
  have f1 := r1.frz 0
  have q1 := (r1.set (j := 0) (by omega) (.slice a9 ys.length k9)).other (g' := w.heap.size + 1) (j := 0) (x := .int .i64 0) (by omega)
  have q1 := q1.cell (j := 0) (by omega)
  have q2 := r2.other (g' := w.heap.size) (j := 0) (x := .slice a9 ys.length k9) (by omega)
  have c2 := q2.cell (j := 0) (by omega)
  have f2 := q2.frz 0
  have q2 := (q2.set (j := 0) (by omega) (.int .i64 0)).cell (j := 0) (by omega)
  simp only [if_true] at q1 q2
  have k1 : Keeps w4 (w4.setCell ⟨w.heap.size, 0, none⟩ (.slice a9 ys.length k9)) (fun b => b = w.heap.size ∨ b = w.heap.size + 1) := (Keeps.refl w4 _).setCell (g := w.heap.size) (j := 0) (.inl rfl) _
  have k2 := k1.setCell (g := w.heap.size + 1) (j := 0) (.inr rfl) (.int .i64 0)
  have HW := hide (hb.trans (k2.below (B := w.heap.size) hb.size (by omega)))
  have HO := hide (owns_keep hown k2 (by omega))
  have HRw := hide (Rows.more (lo := 0) (hrows.keep (Kept4.of (lo := lo) k2 (by omega)) (Nat.le_refl _)) k2.size (Nat.le_refl _))
  have HF := hide hfl
  have HOk := hide hok
  have Q1 := hide q1
  have Q2 := hide q2
  clear k1 k2 hown hrows hfl hok hk hb r1 r2 q1 q2
  go_wp2_with fail
  refine leaves_cons (f := 16) (args := #[.pointer (some ⟨w.heap.size, 0, none⟩), .pointer (some ⟨w.heap.size + 1, 0, none⟩)]) (by simp) (by simp [go_sem]) ?_
  refine (caught_none w.heap.size (w.heap.size + 1) _).mono ?_
  rintro e u' w'' ⟨rfl, rfl, rfl⟩
  have q1 := Q1.out
  have q2 := Q2.out
  generalize (w4.setCell ⟨w.heap.size, 0, none⟩ (.slice a9 ys.length k9)).setCell ⟨w.heap.size + 1, 0, none⟩ (.int .i64 0) = w6 at *
  simp [Leaves, settle, results, Tryd.results6, go_sem, q1, q2]
  exact ⟨HW.out, .inl ⟨ys, _, lo, HOk.out, HF.out, rfl, by omega, HO.out, HRw.out⟩⟩

end Go.Proofs.YtcpeabchaimkaaaDoor
