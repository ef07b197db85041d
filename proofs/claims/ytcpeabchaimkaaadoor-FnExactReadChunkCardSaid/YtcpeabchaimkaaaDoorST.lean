import Derived.Test.YtcpeabchaimkaaaDoorSS
namespace Go.Proofs.YtcpeabchaimkaaaDoor
open Go Go.RowKit
set_option linter.unusedVariables false

theorem Rows.le {w : World} : ∀ {lo : Nat} {ys : List FV} {hi : Nat}, Rows w lo ys hi → lo ≤ hi
  | lo, [], hi, h => h.1
  | lo, y :: ys, hi, ⟨mid, h1, h2⟩ => Nat.le_trans h1.le (Rows.le h2)
theorem owns_stay {w w' : World} {base e size n : Nat} {v : Value} {xs : List Value} (h : w.ownsRow base e size v n xs) (hs : ∀ g, v.ownBlock = some g → w'.heap[g]? = w.heap[g]?) : w'.ownsRow base e size v n xs := by
  obtain ⟨h1, h2 | ⟨g, cap, cur, rfl, hBg, hh, hr⟩⟩ := h
  · exact ⟨h1, .inl h2⟩
  · exact ⟨h1, .inr ⟨g, cap, cur, rfl, hBg, (hs g (by simp [Value.ownBlock])).trans hh, hr⟩⟩
theorem Rows.stay {w w' : World} (hz : w.heap.size ≤ w'.heap.size) : ∀ {lo : Nat} {ys : List FV} {hi : Nat}, (∀ b, lo ≤ b → b < hi → w'.heap[b]? = w.heap[b]?) → Rows w lo ys hi → Rows w' lo ys hi
  | lo, [], hi, _, h => ⟨h.1, Nat.le_trans h.2 hz⟩
  | lo, y :: ys, hi, hs, ⟨mid, h1, h2⟩ =>
    have hm := Rows.le h2
    ⟨mid, { h1 with sz := Nat.le_trans h1.sz hz, u := owns_stay h1.u (fun g hg => hs g (h1.u.lt g hg).1 (Nat.lt_of_lt_of_le (h1.bu g hg) hm)), c := owns_stay h1.c (fun g hg => hs g (h1.c.lt g hg).1 (Nat.lt_of_lt_of_le (h1.bc g hg) hm)), i := owns_stay h1.i (fun g hg => hs g (h1.i.lt g hg).1 (Nat.lt_of_lt_of_le (h1.bi g hg) hm)), l := owns_stay h1.l (fun g hg => hs g (h1.l.lt g hg).1 (Nat.lt_of_lt_of_le (h1.bl g hg) hm)) },
      Rows.stay hz (fun b hb hb2 => hs b (Nat.le_trans h1.le hb) hb2) h2⟩
/-- A chunk that was read: its functions' list v and their lists, all from lo on and below hi. -/
def ChO (w : World) (lo hi : Nat) (v : Value) (ys : List FV) : Prop := w.ownsRow lo 44 8 v ys.length (fvC ys) ∧ Rows w lo ys hi ∧ (∀ g, v.ownBlock = some g → g < hi) ∧ hi ≤ w.heap.size
/-- It is marked; its blocks lie from lo on. -/
def ChM (w : World) (v : Value) (ys : List FV) : Prop := ∃ a cap, v = .slice a ys.length cap ∧ ys.length ≤ cap ∧ ((a = none ∧ ys.length = 0) ∨ ∃ G, a = some ⟨G, 0, none⟩ ∧ MkS w G ys.length (fun j => ys.getD j fv0) 1 ys.length)
theorem ChM.low {w w' : World} {v : Value} {ys : List FV} {B : Nat} (h : ChM w v ys) (hb : Below B w w') (hB : w.heap.size ≤ B) : ChM w' v ys := by
  obtain ⟨a, cap, rfl, h1, h2 | ⟨G, rfl, h2⟩⟩ := h
  · exact ⟨a, cap, rfl, h1, .inl h2⟩
  · exact ⟨_, cap, rfl, h1, .inr ⟨G, rfl, h2.low hb hB⟩⟩
theorem ChO.keep {w w' : World} {lo hi : Nat} {v : Value} {ys : List FV} {S : Nat → Prop} (h : ChO w lo hi v ys) (k : Keeps w w' S) (hS : ∀ b, lo ≤ b → b < hi → ¬ S b) : ChO w' lo hi v ys := by
  obtain ⟨h1, h2, h3, h4⟩ := h
  have hs : ∀ b, lo ≤ b → b < hi → w'.heap[b]? = w.heap[b]? := fun b hb hb2 => k.block b (by omega) (hS b hb hb2)
  exact ⟨owns_stay h1 (fun g hg => hs g (h1.lt g hg).1 (h3 g hg)), h2.stay k.size hs, h3, Nat.le_trans h4 k.size⟩
theorem ChO.low {w w' : World} {lo hi : Nat} {v : Value} {ys : List FV} {B : Nat} (h : ChO w lo hi v ys) (hb : Below B w w') (hB : w.heap.size ≤ B) : ChO w' lo hi v ys := h.keep (Keeps.of hb hB (fun _ => False)) (fun _ _ _ x => x)
theorem ChO.pros {w : World} {lo hi : Nat} {v : Value} {ys : List FV} (h : ChO w lo hi v ys) : ProsA w v ys.length (pvs ys) := pros_of h.1 h.2.1
theorem ChO.form {w : World} {lo hi : Nat} {v : Value} {ys : List FV} (h : ChO w lo hi v ys) : ∃ a cap, v = .slice a ys.length cap := owns_val h.1
theorem ChO.start {w : World} {lo hi : Nat} {v : Value} {ys : List FV} (h : ChO w lo hi v ys) : ∃ a cap, v = .slice a ys.length cap ∧ ys.length ≤ cap ∧ ((a = none ∧ ys.length = 0) ∨ ∃ G L, a = some ⟨G, 0, none⟩ ∧ (lo ≤ G ∧ G < hi) ∧ LayF ys.length (fun j => ys.getD j fv0) L ∧ (∀ j, j < ys.length → ∀ b, FvB (ys.getD j fv0) b → lo ≤ b ∧ b < hi) ∧ MkS w G ys.length (fun j => ys.getD j fv0) 1 0) := by
  obtain ⟨ho, hr, hvb, _⟩ := h
  obtain ⟨L, hL0, hL, hs⟩ := LayF.of hr
  have hat : ∀ j, j < ys.length → PlF w (ys.getD j fv0) := fun j hj => by
    obtain ⟨a, b, h⟩ := hr.at j fv0 hj
    exact PlF.of h
  have ho' := ho
  obtain ⟨h1, ⟨rfl, h2⟩ | ⟨G, cap, cur, rfl, hb, hg, hnc, hrest⟩⟩ := ho'
  · refine ⟨none, 0, ?_, by omega, .inl ⟨rfl, h2⟩⟩
    rw [h2]
  · refine ⟨_, cap, rfl, hnc, .inr ⟨G, L, rfl, ⟨hb, hvb G (by simp [Value.ownBlock])⟩, hL, fun j hj b hb => ?_, ⟨⟨_, rowF_owns ho, fun j hj => ?_, fun j hj => by omega⟩, fun j hj => by omega, fun j _ hj => hat j hj⟩⟩⟩
    · have h1 := hL.blk j hj b hb
      have h2 := (hs j (Nat.le_of_lt hj)).1
      have h3 := (hs (j + 1) hj).2
      omega
    · have e := fun c hc => flat_getD FV.cells 8 (fun _ => rfl) (.bool false) fv0 ys j c hj hc
      exact ⟨e 4 (by omega), e 5 (by omega), e 6 (by omega), e 7 (by omega)⟩

set_option maxRecDepth 100000 in
theorem markProtoS_0 (a : Option Addr) (cap : Nat) (w : World) : Calls Tryd.prog 20 #[.slice a 0 cap, .int .i64 1] w fun e w' => e = .returned (.int .i64 1) ∧ w' = w := by
  go_enter Tryd.func20, Tryd.ntmps20
  go_wp2
  go_loopw [1, 5] (fun kv iv wr => kv = .int .i64 1 ∧ iv = .int .i64 0 ∧ wr = w) (fun _ _ _ => 0)
  case atStart => exact ⟨rfl, rfl, rfl⟩
  case round =>
    obtain ⟨rfl, rfl, rfl⟩ := hrel
    go_wp2
    go_ret
    exact ⟨rfl, rfl⟩
set_option maxRecDepth 100000 in
theorem heldProtoS_0 (a : Option Addr) (cap : Nat) (w : World) : Calls Tryd.prog 21 #[.slice a 0 cap, .int .i64 1] w fun e w' => e = .returned (.int .i64 1) ∧ w' = w := by
  go_enter Tryd.func21, Tryd.ntmps21
  go_wp2
  go_loopw [1, 5] (fun kv iv wr => kv = .int .i64 1 ∧ iv = .int .i64 0 ∧ wr = w) (fun _ _ _ => 0)
  case atStart => exact ⟨rfl, rfl, rfl⟩
  case round =>
    obtain ⟨rfl, rfl, rfl⟩ := hrel
    go_wp2
    go_ret
    exact ⟨rfl, rfl⟩
set_option maxHeartbeats 800000 in
set_option maxRecDepth 100000 in
theorem markChunk_f (lo hi : Nat) (v : Value) (ys : List FV) (w : World) (hn : ys.length ≤ 1048576) (hwt : wts (pvs ys) ys.length ≤ 1048576) (h : ChO w lo hi v ys) :
    Calls Tryd.prog 10 #[.agg #[v], .int .i64 1] w fun e w' => e = .returned (.int .i64 (kF (fun j => ys.getD j fv0) 1 ys.length)) ∧ ChM w' v ys ∧ Keeps w w' (fun b => lo ≤ b ∧ b < hi) := by
  obtain ⟨a, cap, rfl⟩ := h.form
  have HB := hide (b_1 w (.cells #[.slice a ys.length cap] 25))
  have HE := hide (h.low HB.out (Nat.le_refl _))
  have HW := hide hwt
  clear h hwt
  go_enter Tryd.func10, Tryd.ntmps10
  go_wp2_with fail
  generalize w.alloc (.cells #[.slice a ys.length cap] 25) = w1 at *
  obtain ⟨a1, c1, e1, hc, ⟨rfl, h0⟩ | ⟨G, L, rfl, hG, hL, hbl, hM⟩⟩ := HE.out.start
  · obtain ⟨rfl, rfl⟩ : a = none ∧ cap = c1 := by simpa using e1
    rw [h0]
    refine (markProtoS_0 none cap w1).mono ?_
    rintro e w2 ⟨rfl, rfl⟩
    go_wp2_with fail
    go_ret
    refine ⟨by rw [h0]; rfl, ⟨none, cap, rfl, hc, .inl ⟨rfl, h0⟩⟩, Keeps.of HB.out (Nat.le_refl _) _⟩
  · obtain ⟨rfl, rfl⟩ : a = some ⟨G, 0, none⟩ ∧ cap = c1 := by simpa using e1
    refine (markProtoS_f G ys.length cap (fun j => ys.getD j fv0) L w1 hn hc HW.out hL hM).mono ?_
    rintro e w2 ⟨rfl, hm, hk⟩
    have HM := hide hm
    have HK := hide ((Keeps.of HB.out (Nat.le_refl _) (fun b => lo ≤ b ∧ b < hi)).trans (hk.mono (fun b hb => by
      rcases hb with rfl | ⟨j, hj, hb⟩
      · exact hG
      · exact hbl j hj b hb)))
    clear hm hk hM hL hbl
    go_wp2_with fail
    go_ret
    exact ⟨rfl, ⟨_, cap, rfl, hc, .inr ⟨G, rfl, HM.out⟩⟩, HK.out⟩

set_option maxHeartbeats 800000 in
set_option maxRecDepth 100000 in
theorem heldChunk_f (v : Value) (ys : List FV) (w : World) (hn : ys.length ≤ 1048576) (hwt : wts (pvs ys) ys.length ≤ 1048576) (h : ChM w v ys) :
    Calls Tryd.prog 11 #[.agg #[v], .int .i64 1] w fun e w' => e = .returned (.int .i64 (kF (fun j => ys.getD j fv0) 1 ys.length)) ∧ Below w.heap.size w w' := by
  obtain ⟨a, cap, rfl, hc, h2⟩ := h
  have HB := hide (b_1 w (.cells #[.slice a ys.length cap] 25))
  have HE := hide h2
  have HW := hide hwt
  have hK : ¬ ((kF (fun j => ys.getD j fv0) 1 ys.length : Int) < 0) := by omega
  clear h2 hwt
  go_enter Tryd.func11, Tryd.ntmps11
  go_wp2_with fail
  generalize w.alloc (.cells #[.slice a ys.length cap] 25) = w1 at *
  rcases HE.out with ⟨rfl, h0⟩ | ⟨G, rfl, hM⟩
  · rw [h0]
    refine (heldProtoS_0 none cap w1).mono ?_
    rintro e w2 ⟨rfl, rfl⟩
    go_wp2_with fail
    go_ret
    exact ⟨by rw [h0]; rfl, HB.out⟩
  · refine (heldProtoS_f G ys.length cap (fun j => ys.getD j fv0) w1 hn hc HW.out (hM.low HB.out (Nat.le_refl _))).mono ?_
    rintro e w2 ⟨rfl, hb⟩
    have HB2 := hide (HB.out.trans (hb.mono HB.out.size))
    clear hb hM
    go_wp2_with fail
    go_ret
    exact ⟨rfl, HB2.out⟩

end Go.Proofs.YtcpeabchaimkaaaDoor
