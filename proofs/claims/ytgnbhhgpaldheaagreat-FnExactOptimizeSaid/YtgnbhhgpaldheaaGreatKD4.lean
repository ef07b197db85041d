import Derived.Test.YtgnbhhgpaldheaaGreatKBK
import Derived.Test.YtgnbhhgpaldheaaGreatKBQ
import Derived.Test.YtgnbhhgpaldheaaGreatKSP
import Derived.OwnWalk
import Derived.Laws.OwnMore
import Derived.Tactics
import Derived.Tactics2
import Derived.Deep.DeepCutAuto
import Derived.Deep.Slices
import Derived.WalkSpells
namespace Go.Proofs.YtgnbhhgpaldheaaGreat
open Go Go.RowKit
set_option linter.unusedVariables false
set_option maxHeartbeats 1600000 in
set_option maxRecDepth 100000 in
theorem jumps_any (o : Int) (w : World) : Calls Tryz.prog 75 #[.int .i64 o] w fun e w' => e = .returned (.bool (jmp o)) ∧ w' = w := by
  go_enter Tryz.func75, Tryz.ntmps75
  go_wp2
  all_goals go_ret
  all_goals refine ⟨?_, rfl⟩
  all_goals (simp_all [jmp])
def aimI (i0 i1 i2 : Nat → Int) (o a : Int) (t : Nat) : Int :=
  if i0 t = 25 then i2 t else if (o = 26 ∨ o = 27) ∧ i0 t = o ∧ i1 t = a then i2 t else if (o = 26 ∨ o = 27) ∧ (i0 t = 26 ∨ i0 t = 27) ∧ i1 t = a then (t : Int) + 1 else t
set_option maxHeartbeats 3200000 in
set_option maxRecDepth 100000 in
theorem aim_any (v : Value) (n : Nat) (i0 i1 i2 i3 : Nat → Int) (o a x : Int) (t : Nat) (w : World) (ht : t < n) (hn : n ≤ 1048576) (h : InsA w v n i0 i1 i2 i3) :
    Calls Tryz.prog 76 #[v, insV o a (t : Int) x] w fun e w' => e = .returned (.int .i64 (aimI i0 i1 i2 o a t)) ∧ Below w.heap.size w w' := by
  obtain ⟨b, p, cap, rfl, hb, c0, c1, c2, c3⟩ := ins_at h ht
  have hB := b_1 w (.cells #[.int .i64 o, .int .i64 a, .int .i64 (t : Int), .int .i64 x] 51)
  have d0 := (hB.cell (p := ⟨b, p + t * 4, none⟩) hb).trans c0
  have d1 := (hB.cell (p := ⟨b, p + t * 4 + 1, none⟩) hb).trans c1
  have d2 := (hB.cell (p := ⟨b, p + t * 4 + 2, none⟩) hb).trans c2
  have d3 := (hB.cell (p := ⟨b, p + t * 4 + 3, none⟩) hb).trans c3
  clear c0 c1 c2 c3 hB h
  obtain ⟨A, hA⟩ : ∃ A, aimI i0 i1 i2 o a t = A := ⟨_, rfl⟩
  rw [hA]
  have HA := hide hA
  clear hA
  unfold insV
  go_enter Tryz.func76, Tryz.ntmps76
  go_wp2
  all_goals go_ret
  all_goals refine ⟨ret_int ?_, b_2 _ _ _⟩
  all_goals (rw [← HA.out]; unfold aimI; simp_all)
theorem Keeps.past {w w' : World} {S : Nat → Prop} (h : Keeps w w' S) {g j : Nat} (hg : w.heap.size ≤ g) (x : Value) : Keeps w (w'.setCell ⟨g, j, none⟩ x) S := by
  have e : Below g w' (w'.setCell ⟨g, j, none⟩ x) := (Below.refl g w').setCell (Nat.le_refl _) x
  exact ⟨e.os.trans h.os, e.tape.trans h.tape, e.output.trans h.output, Nat.le_trans h.size e.size, fun b hb hn => (e.block b (by omega)).trans (h.block b hb hn)⟩
theorem owns_less {w : World} {base base' e size n : Nat} {v : Value} {xs : List Value} (h : w.ownsRow base e size v n xs) (hb : base' ≤ base) : w.ownsRow base' e size v n xs := by
  obtain ⟨h1, h2 | ⟨g, cap, cur, h3, h4, h5⟩⟩ := h
  · exact ⟨h1, .inl h2⟩
  · exact ⟨h1, .inr ⟨g, cap, cur, h3, Nat.le_trans hb h4, h5⟩⟩
theorem owns_val {w : World} {base e size n : Nat} {v : Value} {xs : List Value} (h : w.ownsRow base e size v n xs) : ∃ a cap, v = .slice a n cap := by
  obtain ⟨-, ⟨rfl, h2⟩ | ⟨g, cap, cur, rfl, _⟩⟩ := h
  · exact ⟨none, 0, by rw [h2]⟩
  · exact ⟨_, _, rfl⟩
theorem append_where {P : Program} (w : World) (base : Nat) (t ty e : TypeId) (i : TypeInfo) (z : Value) (size bytes : Nat) (ht : P.underlying t = some (.slice e)) (hi : P.info? e = some i) (hz : i.zero = some z)
    (hsize : i.size = size) (hby : i.bytes = bytes) (hzs : z.cells.size = size) (hsz : 0 < size)
    (v : Value) (n : Nat) (xs : List Value) (hown : w.ownsRow base e size v n xs)
    (a : Addr) (m c : Nat) (news : List Value) (hl : news.length = m * size) (hnews : ∀ j u, news[j]? = some u → w.cell? (a.add j) = some u) (h1 : ∀ u ∈ news, u.oneCell' = true)
    (h63 : n + m ≤ maxLen) (hbytes : (n + m) * bytes ≤ 140737488355328) (hm : 0 < m) {v' : Value} {w' : World} (hr : (Builtin.append_ #[t, t] ty #[v, .slice (some a) m c]).run P w = .ok v' w') :
    ∀ g, v'.ownBlock = some g → v.ownBlock = some g ∨ w.heap.size ≤ g := by
  subst hsize
  subst hby
  have hsmall : n + m ≤ 9223372036854775807 := by simp only [maxLen] at h63; omega
  intro g hg
  rcases hown.2 with ⟨rfl, rfl⟩ | ⟨g', cap, cur, rfl, hbg, hgg, hnc, hcm, hcs, htake⟩
  · have hr2 := run_append_nil (P := P) w t ty e i z ht hi hz a m c news hl hnews (by omega) (by omega) (by have hb := hbytes; simp only [Nat.zero_add] at hb; omega)
    rw [hr2] at hr
    simp only [Result.ok.injEq] at hr
    obtain ⟨rfl, -⟩ := hr
    right
    simp [Value.ownBlock] at hg
    omega
  · by_cases hroom : n + m ≤ cap
    · have hfit : n * i.size + news.length ≤ cur.size := by rw [hl, hcs, ← Nat.add_mul]; exact Nat.mul_le_mul_right _ hroom
      have hr2 := run_append_room (P := P) w t ty e i ht hi g' n cap cur hgg a m c news hl hnews h1 hroom hfit
      rw [hr2] at hr
      simp only [Result.ok.injEq] at hr
      obtain ⟨rfl, -⟩ := hr
      left
      simpa [Value.ownBlock] using hg
    · have holds : ∀ j u, xs[j]? = some u → w.cell? ((⟨g', 0, none⟩ : Addr).add j) = some u := hown.cells (g := g') rfl
      have hr2 := run_append_grow (P := P) w t ty e i z ht hi hz ⟨g', 0, none⟩ n cap xs hown.1 holds a m c news hl hnews (by omega) (by omega) (growslice_fits (by omega) hbytes)
      rw [hr2] at hr
      simp only [Result.ok.injEq] at hr
      obtain ⟨rfl, -⟩ := hr
      right
      simp [Value.ownBlock] at hg
      omega
theorem wpList_append_at {P : Program} (w : World) {ops : Array Oper} {rest : List Oper} {o : Oper} {a : Act} {Q : Exit → Act → World → Prop} (hgd : o.guard = none) (s x : Operand) (t : TypeId)
    (ho : o.op = .call { callee := .builtin .append, args := #[s, x], argTypes := #[t, t] })
    (base : Nat) (e : TypeId) (i : TypeInfo) (z : Value) (size bytes : Nat) (ht : P.underlying t = some (.slice e)) (hi : P.info? e = some i) (hz : i.zero = some z)
    (hsize : i.size = size) (hby : i.bytes = bytes) (hzs : z.cells.size = size) (hsz : 0 < size)
    (v : Value) (n : Nat) (xs : List Value) (hs : a.eval s = v) (hown : w.ownsRow base e size v n xs)
    (ad : Addr) (m c : Nat) (news : List Value) (hx : a.eval x = .slice (some ad) m c) (hl : news.length = m * size) (hnews : ∀ j u, news[j]? = some u → w.cell? (ad.add j) = some u) (h1 : ∀ u ∈ news, u.oneCell' = true)
    (h63 : n + m ≤ maxLen) (hbytes : (n + m) * bytes ≤ 140737488355328) (hbase : base ≤ w.heap.size) (hm : 0 < m)
    (h : ∀ v' w', w'.ownsRow base e size v' (n + m) (xs ++ news) → w.grownBy w' v.ownBlock → (∀ g, v'.ownBlock = some g → v.ownBlock = some g ∨ w.heap.size ≤ g) → wpList P ops Q rest (a.put o.dst v') w') : wpList P ops Q (o :: rest) a w :=
  wpList_plain hgd fun _ hK => by
    obtain ⟨v', w', hr, h2, h3, h4⟩ := run_append_own (P := P) w base t o.type e i z size bytes ht hi hz hsize hby hzs hsz v n xs hown ad m c news hl hnews h1 h63 hbytes hbase
    have h5 := append_where w base t o.type e i z size bytes ht hi hz hsize hby hzs hsz v n xs hown ad m c news hl hnews h1 h63 hbytes hm hr
    unfold Oper.wp execOp
    simp only [ho, resolve, invoke, builtin, Sem.run_bind, Sem.run_pure, Result.andThen_ok, List.map_toArray, List.map_cons, List.map_nil, hs, hx, hr]
    exact hK _ _ (h v' w' h2 h3 h5)
theorem owns_rowF {w : World} {B T s n g : Nat} {v : Value} {xs : List Value} (h : w.ownsRow B T s v n xs) (hv : v.ownBlock = some g) : RowF w T g (n * s) (fun j => xs.getD j (.bool false)) := by
  obtain ⟨h1, ⟨rfl, h2⟩ | ⟨g', cap, cur, rfl, hb, hg, hr⟩⟩ := h
  · simp [Value.ownBlock] at hv
  · have e : g' = g := by simpa [Value.ownBlock] using hv
    subst e
    exact rowF_owns ⟨h1, .inr ⟨g', cap, cur, rfl, hb, hg, hr⟩⟩
theorem owns_apart {w : World} {B T s n T' g N : Nat} {v : Value} {xs : List Value} {f : Nat → Value} (h : w.ownsRow B T s v n xs) (h' : RowF w T' g N f) (hT : T ≠ T') : v.ownBlock ≠ some g := fun e => (owns_rowF h e).apart h' hT rfl
theorem owns_past {w w' : World} {base e size n : Nat} {v : Value} {xs : List Value} {S : Nat → Prop} (h : w.ownsRow base e size v n xs) (k : Keeps w w' S) (hS : ∀ g, v.ownBlock = some g → ¬ S g) : w'.ownsRow base e size v n xs := by
  obtain ⟨h1, h2 | ⟨g, cap, cur, rfl, hBg, hh, hr⟩⟩ := h
  · exact ⟨h1, .inl h2⟩
  · have hg : g < w.heap.size := by
      rcases Nat.lt_or_ge g w.heap.size with c | c
      · exact c
      · rw [Array.getElem?_eq_none c] at hh; cases hh
    exact ⟨h1, .inr ⟨g, cap, cur, rfl, hBg, (k.block g hg (hS g (by simp [Value.ownBlock]))).trans hh, hr⟩⟩
theorem owns_pre {w : World} {base e size n m cap : Nat} {a : Option Addr} {xs : List Value} (h : w.ownsRow base e size (.slice a n cap) n xs) (hm : m ≤ n) : w.ownsRow base e size (.slice a m cap) m (xs.take (m * size)) := by
  obtain ⟨h1, h2 | ⟨g, cap', cur, hv, hBg, hh, hnc, hcm, hcs, ht⟩⟩ := h
  · obtain ⟨hv, rfl⟩ := h2
    obtain rfl : m = 0 := by omega
    refine ⟨by simp, .inl ⟨?_, rfl⟩⟩
    exact hv
  · have hms : m * size ≤ n * size := Nat.mul_le_mul_right _ hm
    refine ⟨by rw [List.length_take, h1]; omega, .inr ⟨g, cap', cur, ?_, hBg, hh, Nat.le_trans hm hnc, hcm, hcs, ?_⟩⟩
    · simp at hv
      simp [hv]
    · rw [← ht, List.take_take, Nat.min_eq_left hms]
theorem owns_set {w : World} {base T s n g cap i : Nat} {xs : List Value} (h : w.ownsRow base T s (.slice (some ⟨g, 0, none⟩) n cap) n xs) (hi : i < n * s) (x : Value) : (w.setCell ⟨g, i, none⟩ x).ownsRow base T s (.slice (some ⟨g, 0, none⟩) n cap) n (xs.set i x) := by
  obtain ⟨h1, ⟨h2, _⟩ | ⟨g', cap', cur, hv, hBg, hh, hnc, hcm, hcs, ht⟩⟩ := h
  · simp at h2
  · simp at hv
    obtain ⟨rfl, rfl⟩ := hv
    refine ⟨by simpa using h1, .inr ⟨g, cap, _, rfl, hBg, heap_setCell_same w g i _ _ x hh, hnc, hcm, by simpa using hcs, ?_⟩⟩
    have hc : i < cur.size := by
      rw [hcs]
      exact Nat.lt_of_lt_of_le hi (Nat.mul_le_mul_right _ hnc)
    rw [← ht]
    simp [List.take_set]
theorem owns_blk {w : World} {B e s n g : Nat} {v : Value} {xs : List Value} (h : w.ownsRow B e s v n xs) (hv : v.ownBlock = some g) : B ≤ g ∧ g < w.heap.size := by
  obtain ⟨h1, ⟨rfl, h2⟩ | ⟨g', cap, cur, rfl, hb, hg, hr⟩⟩ := h
  · simp [Value.ownBlock] at hv
  · have e : g' = g := by simpa [Value.ownBlock] using hv
    subst e
    exact owns_lt ⟨h1, .inr ⟨g', cap, cur, rfl, hb, hg, hr⟩⟩
theorem app_k {wr : World} {ops : Array Oper} {rest : List Oper} {o : Oper} {a : Act} {Q : Exit → Act → World → Prop} (hgd : o.guard = none) (s x : Operand) (TS T size bytes : Nat) (z : Value)
    (ho : o.op = .call { callee := .builtin .append, args := #[s, x], argTypes := #[TS, TS] }) (hU : Tryz.prog.underlying TS = some (.slice T)) (hI : (Tryz.prog.info? T).map (fun i => (i.zero, i.size, i.bytes)) = some (some z, size, bytes)) (hz : z.cells.size = size) (hsz : 0 < size)
    (base : Nat) (v : Value) (n : Nat) (xs cs : List Value) (hown : wr.ownsRow base T size v n xs) (hs : a.eval s = v) (hx : a.eval x = .slice (some ⟨wr.heap.size, 0, none⟩) 1 1) (hcs : cs.length = size) (h1 : ∀ u ∈ cs, u.oneCell' = true)
    (hlen : (n + 1) * bytes ≤ 140737488355328) (hb0 : 0 < bytes) (hbase : base ≤ wr.heap.size)
    (h : ∀ v' w', w'.ownsRow base T size v' (n + 1) (xs ++ cs) → Keeps wr w' (fun b => v.ownBlock = some b) → (∀ g, v'.ownBlock = some g → v.ownBlock = some g ∨ wr.heap.size ≤ g) → wpList Tryz.prog ops Q rest (a.put o.dst v') w') :
    wpList Tryz.prog ops Q (o :: rest) a (wr.alloc (.cells cs.toArray T)) := by
  obtain ⟨i0, hi, hz0, hz1, hz2⟩ := info_parts hI
  have hn : n + 1 ≤ 140737488355328 := Nat.le_trans (Nat.le_mul_of_pos_right _ hb0) hlen
  have hb1 : Below wr.heap.size wr (wr.alloc (.cells cs.toArray T)) := b_1 wr _
  refine wpList_append_at _ hgd s x TS ho base T i0 z size bytes hU hi hz0 hz1 hz2 hz hsz v n xs hs (hown.alloc _) ⟨wr.heap.size, 0, none⟩ 1 1 cs hx (by omega)
    (fun j u hj => ?_) h1 (by unfold maxLen; omega) hlen (by simp; omega) (by omega) ?_
  · rw [add_none', Nat.zero_add]
    obtain ⟨hl, rfl⟩ := List.getElem?_eq_some_iff.1 hj
    have := (RowF.mk' wr T cs.toArray).cell (j := j) (by simpa using hl)
    rw [this]
    simp [hl]
  · intro v' w' h1 h2 h3
    refine h v' w' h1 ⟨h2.os.trans hb1.os, h2.tape.trans hb1.tape, h2.output.trans hb1.output, Nat.le_trans hb1.size h2.size, fun b hb hn => ?_⟩ (fun g e => ?_)
    · exact (h2.block b (Nat.lt_of_lt_of_le hb hb1.size) (fun e => hn e.symm)).trans (hb1.block b hb)
    · rcases h3 g e with y | y
      · exact .inl y
      · right
        simp at y; omega
def cfI (n : Nat) (i0 i1 i2 : Nat → Int) : Cf := ⟨n, i0, i1, fun k => (i2 k).toNat, fun _ => true, fun k => i0 k == 2 && i1 k == i2 k⟩
theorem cfI_L {n : Nat} {i0 i1 i2 : Nat → Int} {k : Nat} : (cfI n i0 i1 i2).L k ↔ k < n := ⟨fun h => h.1, fun h => ⟨h, rfl⟩⟩
def insC (i0 i1 i2 i3 : Nat → Int) (j : Nat) : Value := if j % 4 = 0 then .int .i64 (i0 (j / 4)) else if j % 4 = 1 then .int .i64 (i1 (j / 4)) else if j % 4 = 2 then .int .i64 (i2 (j / 4)) else .int .i64 (i3 (j / 4))
theorem insC_0 (i0 i1 i2 i3 : Nat → Int) (i : Nat) : insC i0 i1 i2 i3 (i * 4) = .int .i64 (i0 i) := by unfold insC; rw [if_pos (by omega), show i * 4 / 4 = i by omega]
theorem insC_1 (i0 i1 i2 i3 : Nat → Int) (i : Nat) : insC i0 i1 i2 i3 (i * 4 + 1) = .int .i64 (i1 i) := by unfold insC; rw [if_neg (by omega), if_pos (by omega), show (i * 4 + 1) / 4 = i by omega]
theorem insC_2 (i0 i1 i2 i3 : Nat → Int) (i : Nat) : insC i0 i1 i2 i3 (i * 4 + 2) = .int .i64 (i2 i) := by unfold insC; rw [if_neg (by omega), if_neg (by omega), if_pos (by omega), show (i * 4 + 2) / 4 = i by omega]
theorem insC_3 (i0 i1 i2 i3 : Nat → Int) (i : Nat) : insC i0 i1 i2 i3 (i * 4 + 3) = .int .i64 (i3 i) := by unfold insC; rw [if_neg (by omega), if_neg (by omega), if_neg (by omega), show (i * 4 + 3) / 4 = i by omega]
theorem insC_one (i0 i1 i2 i3 : Nat → Int) (j : Nat) : (insC i0 i1 i2 i3 j).oneCell' = true := by unfold insC; repeat (first | (split; rfl) | rfl)
theorem ins_cells {w : World} {b o n : Nat} {i0 i1 i2 i3 : Nat → Int} (h : ∀ i, i < n → w.cell? ⟨b, o + i * 4, none⟩ = some (.int .i64 (i0 i)) ∧ w.cell? ⟨b, o + i * 4 + 1, none⟩ = some (.int .i64 (i1 i)) ∧ w.cell? ⟨b, o + i * 4 + 2, none⟩ = some (.int .i64 (i2 i)) ∧ w.cell? ⟨b, o + i * 4 + 3, none⟩ = some (.int .i64 (i3 i))) {j : Nat} (hj : j < n * 4) : w.cell? ⟨b, o + j, none⟩ = some (insC i0 i1 i2 i3 j) := by
  obtain ⟨h0, h1, h2, h3⟩ := h (j / 4) (by omega)
  have hd : j = j / 4 * 4 + j % 4 := by omega
  rcases (show j % 4 = 0 ∨ j % 4 = 1 ∨ j % 4 = 2 ∨ j % 4 = 3 by omega) with e | e | e | e <;> rw [e] at hd
  · rw [Nat.add_zero] at hd; rw [hd, insC_0]; rw [hd] at h0; simpa using h0
  · rw [hd, insC_1, ← Nat.add_assoc]; exact h1
  · rw [hd, insC_2, ← Nat.add_assoc]; exact h2
  · rw [hd, insC_3, ← Nat.add_assoc]; exact h3
theorem InsO.of_row {w : World} {g n : Nat} {i0 i1 i2 i3 : Nat → Int} {f : Nat → Value} (h : RowF w 51 g (n * 4) f) (hf : ∀ j, j < n * 4 → f j = insC i0 i1 i2 i3 j) : InsO w g n i0 i1 i2 i3 :=
  ⟨f, h, fun i hi => ⟨by rw [hf _ (by omega), insC_0], by rw [hf _ (by omega), insC_1], by rw [hf _ (by omega), insC_2], by rw [hf _ (by omega), insC_3]⟩⟩
theorem InsO.cells {w : World} {g n : Nat} {i0 i1 i2 i3 : Nat → Int} (h : InsO w g n i0 i1 i2 i3) {i : Nat} (hi : i < n) : w.cell? ⟨g, i * 4, none⟩ = some (.int .i64 (i0 i)) ∧ w.cell? ⟨g, i * 4 + 1, none⟩ = some (.int .i64 (i1 i)) ∧ w.cell? ⟨g, i * 4 + 2, none⟩ = some (.int .i64 (i2 i)) ∧ w.cell? ⟨g, i * 4 + 3, none⟩ = some (.int .i64 (i3 i)) := by
  obtain ⟨f, h1, h2⟩ := h
  obtain ⟨e0, e1, e2, e3⟩ := h2 i hi
  exact ⟨by rw [h1.cell (by omega), e0], by rw [h1.cell (by omega), e1], by rw [h1.cell (by omega), e2], by rw [h1.cell (by omega), e3]⟩
theorem InsO.frz {w : World} {g n : Nat} {i0 i1 i2 i3 : Nat → Int} (h : InsO w g n i0 i1 i2 i3) (j : Nat) : w.frozen? ⟨g, j, none⟩ = false := by
  obtain ⟨f, h1, h2⟩ := h
  exact h1.frz j
theorem InsO.a {w : World} {g n cap : Nat} {i0 i1 i2 i3 : Nat → Int} (h : InsO w g n i0 i1 i2 i3) (hc : n ≤ cap) : InsA w (.slice (some ⟨g, 0, none⟩) n cap) n i0 i1 i2 i3 :=
  .inr ⟨g, 0, cap, rfl, h.lt, hc, fun i hi => by rw [Nat.zero_add]; exact h.cells hi⟩
theorem InsO.set2 {w : World} {g n : Nat} {i0 i1 i2 i3 : Nat → Int} (h : InsO w g n i0 i1 i2 i3) {k : Nat} (hk : k < n) (x : Int) : InsO (w.setCell ⟨g, k * 4 + 2, none⟩ (.int .i64 x)) g n i0 i1 (fun q => if q = k then x else i2 q) i3 := by
  obtain ⟨f, h1, h2⟩ := h
  refine ⟨_, h1.set (by omega) _, fun i hi => ?_⟩
  obtain ⟨e0, e1, e2, e3⟩ := h2 i hi
  refine ⟨?_, ?_, ?_, ?_⟩
  · rw [if_neg (by omega)]; exact e0
  · rw [if_neg (by omega)]; exact e1
  · by_cases c : i = k
    · subst c; simp
    · rw [if_neg (by omega)]; simp only [if_neg c]; exact e2
  · rw [if_neg (by omega)]; exact e3
theorem InsO.keep {w w' : World} {g n : Nat} {i0 i1 i2 i3 : Nat → Int} {S : Nat → Prop} (h : InsO w g n i0 i1 i2 i3) (k : Keeps w w' S) (hn : ¬ S g) : InsO w' g n i0 i1 i2 i3 := by
  obtain ⟨f, h1, h2⟩ := h
  exact ⟨f, h1.keep k hn, h2⟩
theorem InsO.congr {w : World} {g n : Nat} {i0 i1 i2 i3 j0 j1 j2 j3 : Nat → Int} (h : InsO w g n i0 i1 i2 i3) (h0 : ∀ k, k < n → j0 k = i0 k) (h1 : ∀ k, k < n → j1 k = i1 k) (h2 : ∀ k, k < n → j2 k = i2 k) (h3 : ∀ k, k < n → j3 k = i3 k) : InsO w g n j0 j1 j2 j3 := by
  obtain ⟨f, a, b⟩ := h
  exact ⟨f, a, fun i hi => by rw [h0 i hi, h1 i hi, h2 i hi, h3 i hi]; exact b i hi⟩
def Cf.thrJ (c : Cf) (j : Nat) : Cf := (List.range j).foldl (fun d q => d.thr1 (c.n - 1 - q)) c
theorem thrJ_1 (c : Cf) (j : Nat) : c.thrJ (j + 1) = (c.thrJ j).thr1 (c.n - 1 - j) := by
  unfold Cf.thrJ
  rw [List.range_succ, List.foldl_append]
  rfl
theorem thrJ_all (c : Cf) : c.thrJ c.n = c.all := by
  have e : (List.range c.n).reverse = (List.range c.n).map (fun q => c.n - 1 - q) := by
    refine List.ext_getElem (by simp) (fun i h1 h2 => ?_)
    simp
  unfold Cf.thrJ Cf.all Cf.thr
  rw [e, List.foldl_map]
theorem thrJ_sb (c : Cf) : ∀ j, Sb c (c.thrJ j)
  | 0 => Sb.refl c
  | j + 1 => by rw [thrJ_1]; exact (thrJ_sb c j).trans (Sb.thr1 _ _)
theorem thrJ_ok {c : Cf} (h : c.Ok) : ∀ j, j ≤ c.n → (c.thrJ j).Ok
  | 0, _ => h
  | j + 1, hj => by rw [thrJ_1]; exact (thrJ_ok h j (by omega)).thr1 (by rw [(thrJ_sb c j).n]; omega)
def goals (i0 i2 : Nat → Int) (c : Cf) (q : Nat) : Int := if jmp (i0 q) = true then (c.b q : Int) else i2 q
theorem nx_all {c : Cf} (h : c.Ok) (hl : ∀ k, k < c.n → c.lf k = true) {t : Nat} (ht : t < c.n) (ha : awy (c.op t) = false) : c.nx t = t + 1 ∧ t + 1 < c.n := by
  have hf := h.f t ⟨ht, hl t ht⟩ ha
  by_cases e : t + 1 < c.n
  · exact ⟨Cf.nf_self ⟨e, hl _ e⟩, e⟩
  · have : c.nf (t + 1) = c.n := Cf.nf_past (by omega)
    unfold Cf.nx at hf
    omega
theorem aimI_snd {c : Cf} (h : c.Ok) (hl : ∀ k, k < c.n → c.lf k = true) {i2 : Nat → Int} {k t : Nat} (ht : t < c.n) (hne : t ≠ k) (x : Int) :
    aimI c.op c.a (fun q => if q = k then x else goals c.op i2 c q) (c.op k) (c.a k) t = ((match c.snd (c.op k) (c.a k) t with | some t' => t' | none => t : Nat) : Int) := by
  unfold aimI Cf.snd
  simp only [if_neg hne]
  by_cases e1 : c.op t = 25
  · rw [if_pos e1, if_pos e1]
    unfold goals
    rw [if_pos (by rw [e1]; rfl)]
  · rw [if_neg e1, if_neg e1]
    by_cases e2 : chs (c.op k) = true ∧ chs (c.op t) = true ∧ c.a k = c.a t
    · rw [if_pos e2]
      obtain ⟨q1, q2, q3⟩ := e2
      have k1 : c.op k = 26 ∨ c.op k = 27 := by simpa [chs] using q1
      have k2 : c.op t = 26 ∨ c.op t = 27 := by simpa [chs] using q2
      by_cases e3 : c.op k = c.op t
      · rw [if_pos e3, if_pos ⟨k1, e3.symm, q3.symm⟩]
        unfold goals
        rw [if_pos (chs_jmp q2)]
      · rw [if_neg e3, if_neg (fun z => e3 z.2.1.symm), if_pos ⟨k1, k2, q3.symm⟩]
        have ha : awy (c.op t) = false := by rcases k2 with q | q <;> rw [q] <;> rfl
        have := (nx_all h hl ht ha).1
        simp only [this]
        omega
    · rw [if_neg e2]
      have no : ¬ ((c.op k = 26 ∨ c.op k = 27) ∧ (c.op t = 26 ∨ c.op t = 27) ∧ c.a t = c.a k) := fun z => e2 ⟨by simpa [chs] using z.1, by simpa [chs] using z.2.1, z.2.2.symm⟩
      rw [if_neg (fun z => no ⟨z.1, by rw [z.2.1]; exact z.1, z.2.2⟩), if_neg no]
theorem snd_ne {c : Cf} (h : c.Ok) {o x : Int} {t t' : Nat} (ht : c.L t) (e : c.snd o x t = some t') : t' ≠ t := by
  rintro rfl
  rcases (h.snd ht e).2 with k | k
  · omega
  · rw [snd_tick k] at e; cases e
def mTh (c : Cf) (t : Nat) : Nat := if c.op t = 1 then 0 else c.n - t + 1
theorem mTh_less {c : Cf} (h : c.Ok) {o x : Int} {t t' : Nat} (ht : c.L t) (e : c.snd o x t = some t') : mTh c t' < mTh c t := by
  have h1 : c.op t ≠ 1 := fun k => by rw [snd_tick k] at e; cases e
  have := ht.1
  obtain ⟨q1, q2⟩ := h.snd ht e
  have := q1.1
  unfold mTh
  rw [if_neg h1]
  split
  · omega
  · rcases q2 with q | q
    · omega
    · rename_i z; exact (z q).elim
theorem ne_q {c : Cf} {i0 : Nat → Int} {q t : Nat} (ho : c.op = i0) (hj : jmp (i0 q) = true) (h : q < t ∨ c.op t = 1) : t ≠ q := by
  rintro rfl
  rcases h with k | k
  · omega
  · rw [ho] at k; rw [k] at hj; exact absurd hj (by decide)
set_option maxHeartbeats 3200000 in
set_option maxRecDepth 100000 in
theorem thread_any (v : Value) (n : Nat) (i0 i1 i2 i3 : Nat → Int) (w : World) (hn : n ≤ 1048576) (h : InsA w v n i0 i1 i2 i3) (hok : (cfI n i0 i1 i2).Ok) (hpos : ∀ k, k < n → jmp (i0 k) = true → 0 ≤ i2 k) :
    Calls Tryz.prog 30 #[v] w fun e w' => ∃ g cap, e = .returned (.slice (some ⟨g, 0, none⟩) n cap) ∧ w.heap.size ≤ g ∧ n ≤ cap ∧ InsO w' g n i0 i1 (goals i0 i2 (cfI n i0 i1 i2).all) i3 ∧ Below w.heap.size w w' := by
  have hn1 : 0 < n := by have := (Cf.nf_L hok.e).1.1; exact Nat.lt_of_le_of_lt (Nat.zero_le _) this
  rcases h with ⟨h9, _⟩ | ⟨b, o, cap, rfl, hb, hcap, hc⟩
  · omega
  have HOk := hide hok
  have HPos := hide hpos
  have HC := hide (fun j (hj : j < n * 4) => ins_cells hc hj)
  obtain ⟨i9, hi0, hz0, hz1, hz2⟩ := info_parts Tryz.info51
  have HI0 := hide (And.intro hi0 (And.intro hz0 (And.intro hz1 hz2)))
  have HB0 := hide (b_1 w (.cells #[] 51))
  have HE0 := hide (show (w.alloc (.cells #[] 51)).ownsRow w.heap.size 51 4 (.slice (some ⟨w.heap.size, 0, none⟩) 0 0) 0 [] from ⟨by simp, .inr ⟨w.heap.size, 0, #[], rfl, Nat.le_refl _, heap_alloc_new w _, Nat.le_refl _, by unfold maxLen; omega, by simp, by simp⟩⟩)
  clear hok hpos hc hi0 hz0 hz1 hz2
  go_enter Tryz.func30, Tryz.ntmps30
  go_wp2_with (first
    | (at_builtin
       refine wpList_append_at _ rfl (.tmp 6) (.tmp 7) 42 rfl w.heap.size 51 i9 (.agg #[.int .i64 0, .int .i64 0, .int .i64 0, .int .i64 0]) 4 32 Tryz.underlying42 HI0.out.1 HI0.out.2.1 HI0.out.2.2.1 HI0.out.2.2.2 rfl (by decide) (.slice (some ⟨w.heap.size, 0, none⟩) 0 0) 0 [] rfl HE0.out ⟨b, o, none⟩ n cap ((List.range (n * 4)).map (insC i0 i1 i2 i3)) rfl (by simp) (fun j u hj => ?_) (fun u hu => ?_) (by unfold maxLen; omega) (by omega) HB0.out.size hn1 ?_
       · have hjl : j < n * 4 := by have := (List.getElem?_eq_some_iff.1 hj).1; simpa using this
         rw [add_none', HB0.out.cell (p := ⟨b, o + j, none⟩) hb, HC.out j hjl]
         simp [hjl] at hj
         rw [hj]
       · simp only [List.mem_map] at hu
         obtain ⟨c, _, rfl⟩ := hu
         exact insC_one _ _ _ _ _
       intro v' w1 hv1 hv2 hv3
       rw [Nat.zero_add, List.nil_append] at hv1
       obtain ⟨G', cap1, hvf⟩ := owns_val hv1
       subst hvf)
    | fail)
  rcases hv1.2 with ⟨h9, h9'⟩ | ⟨G, capx, cur, hvv, hGl, hGh, hcap1, hr2⟩
  · omega
  simp only [Value.slice.injEq, true_and] at hvv
  obtain ⟨rfl, rfl⟩ := hvv
  have HI := hide (InsO.of_row (rowF_owns hv1) (fun j hj => by simp [hj]) : InsO w1 G n i0 i1 i2 i3)
  have HB1 := hide (HB0.out.grown hv2 HB0.out.size (fun x e => by simp [Value.ownBlock] at e; omega))
  have HG := hide hGl
  have HCap := hide hcap1
  clear hv1 hv2 hv3 hGh hr2 HE0 HC HB0 HI0 hGl hcap1 hb
  have HGo : Hid (∀ c : Cf, goals i0 i2 c = goals i0 i2 c) := hide (fun _ => rfl)
  have HS : Hid (InsO w1 G n i0 i1 (goals i0 i2 ((cfI n i0 i1 i2).thrJ 0)) i3) := hide (HI.out.congr (fun _ _ => rfl) (fun _ _ => rfl) (fun k hk => by
    unfold goals
    split
    · rename_i z
      have := HPos.out k hk z
      show ((i2 k).toNat : Int) = i2 k
      omega
    · rfl) (fun _ _ => rfl))
  clear HI HGo
  go_loopw [4] (fun kv wr => ∃ k : Nat, k ≤ n ∧ kv = .int .i64 ((k : Int) - 1) ∧ Hid (InsO wr G n i0 i1 (goals i0 i2 ((cfI n i0 i1 i2).thrJ (n - k))) i3) ∧ Hid (Below w.heap.size w wr)) (fun kv _ => match kv with | .int _ x => (x + 1).toNat | _ => 0)
  case atStart => exact ⟨n, Nat.le_refl _, rfl, hide (by rw [Nat.sub_self]; exact HS.out), HB1⟩
  case round =>
    clear HS HB1
    obtain ⟨k, hk, rfl, HI, HB⟩ := hrel
    by_cases hk0 : k = 0
    · subst hk0
      have HI2 : Hid (InsO wr G n i0 i1 (goals i0 i2 (cfI n i0 i1 i2).all) i3) := hide (by have := HI.out; rw [Nat.sub_zero, show (cfI n i0 i1 i2).thrJ n = (cfI n i0 i1 i2).all from thrJ_all (cfI n i0 i1 i2)] at this; exact this)
      clear HI
      go_wp2
      go_ret
      exact ⟨G, cap1, rfl, HG.out, HCap.out, HI2.out, HB.out⟩
    · obtain ⟨q, rfl⟩ : ∃ q, k = q + 1 := ⟨k - 1, by omega⟩
      rw [show (((q + 1 : Nat) : Int) - 1) = (q : Int) by omega]
      obtain ⟨c, hc⟩ : ∃ c, (cfI n i0 i1 i2).thrJ (n - (q + 1)) = c := ⟨_, rfl⟩
      have sb := thrJ_sb (cfI n i0 i1 i2) (n - (q + 1))
      have okc := thrJ_ok HOk.out (n - (q + 1)) (by show n - (q + 1) ≤ n; omega)
      have hnext : (cfI n i0 i1 i2).thrJ (n - q) = c.thr1 q := by
        rw [show n - q = (n - (q + 1)) + 1 by omega, thrJ_1, hc]
        show c.thr1 (n - 1 - (n - (q + 1))) = _
        rw [show n - 1 - (n - (q + 1)) = q by omega]
      rw [hc] at sb okc HI
      have hop : c.op = i0 := sb.op
      have ha : c.a = i1 := sb.a
      have hcn : c.n = n := sb.n
      have hlf : ∀ z, z < c.n → c.lf z = true := fun z _ => by rw [sb.lf]; rfl
      have HSb := hide (And.intro hop (And.intro ha (And.intro hcn hlf)))
      have HOkc := hide okc
      have HNx := hide hnext
      clear sb okc hop ha hcn hlf hc hnext
      have hqn : q < n := by omega
      obtain ⟨c0, c1, c2, c3⟩ := HI.out.cells hqn
      have z0 := HI.out.frz (q * 4)
      rcases hJ : jmp (i0 q) with _ | _
      · clear c1 c2 c3
        go_wp2_with (first
          | (go_at_call 75; refine (jumps_any _ _).mono ?_; rintro e w' ⟨rfl, hw⟩; obtain rfl := hw.symm; rw [hJ])
          | fail)
        go_roundw
        case rel => exact ⟨q, by omega, by simp, hide (by rw [HNx.out]; unfold Cf.thr1; rw [if_neg (by unfold Cf.jl; rw [HSb.out.1, hJ]; simp)]; exact HI.out), HB⟩
        case measure => simp
      · have HJ := hide hJ
        clear c1 c2 c3
        go_wp2_with (first
          | (go_at_call 75; refine (jumps_any _ _).mono ?_; rintro e w' ⟨rfl, hw⟩; obtain rfl := hw.symm; rw [hJ])
          | fail)
        have HST : Hid (c.L (c.b q) ∧ (q < c.b q ∨ c.op (c.b q) = 1) ∧ c.fol (c.op q) (c.a q) (c.n + 1) (c.b q) = c.last q) := hide (by
          have hj : jmp (c.op q) = true := by rw [HSb.out.1]; exact HJ.out
          have hL : c.L q := ⟨by rw [HSb.out.2.2.1]; exact hqn, HSb.out.2.2.2 q (by rw [HSb.out.2.2.1]; exact hqn)⟩
          obtain ⟨q1, q2⟩ := HOkc.out.j q hL hj
          refine ⟨q1, ?_, rfl⟩
          rcases Nat.lt_or_ge q (c.b q) with k | k
          · exact .inl k
          · exact .inr (q2 k))
        have HI0 : Hid (InsO wr G n i0 i1 (fun z => if z = q then ((c.b q : Nat) : Int) else goals i0 i2 c z) i3) := hide (HI.out.congr (fun _ _ => rfl) (fun _ _ => rfl) (fun z _ => by
          by_cases e : z = q
          · subst e
            simp only [if_true]
            unfold goals
            rw [if_pos HJ.out]
          · simp only [if_neg e]) (fun _ _ => rfl))
        clear HI c0 z0 hJ
        go_loopg [] (mTh c (c.b q)) (fun m ws => ∃ t : Nat, Hid (mTh c t = m) ∧ Hid (c.L t ∧ (q < t ∨ c.op t = 1) ∧ c.fol (c.op q) (c.a q) (c.n + 1) t = c.last q) ∧ Hid (InsO ws G n i0 i1 (fun z => if z = q then (t : Int) else goals i0 i2 c z) i3) ∧ Hid (Below w.heap.size w ws))
        case atStart => exact ⟨c.b q, hide rfl, HST, HI0, HB⟩
        case round =>
          clear HST HI0 HB
          obtain ⟨t, HM, HT, HI, HB⟩ := hrel
          have htn : t < n := by have := HT.out.1.1; rw [HSb.out.2.2.1] at this; exact this
          obtain ⟨c0, c1, c2, c3⟩ := HI.out.cells hqn
          simp only [if_true] at c2
          have hz2 := HI.out.frz (q * 4 + 2)
          go_wp2_with fail
          refine (aim_any _ n i0 i1 (fun z => if z = q then (t : Int) else goals i0 i2 c z) i3 (i0 q) (i1 q) (i3 q) t wr htn hn (HI.out.a HCap.out)).mono ?_
          rintro e w2 ⟨rfl, hb2⟩
          have HI2 := hide (HI.out.low hb2 HI.out.lt)
          have HB2 := hide (HB.out.trans (hb2.mono HB.out.size))
          have hA := aimI_snd HOkc.out HSb.out.2.2.2 (i2 := i2) (k := q) (t := t) (by rw [HSb.out.2.2.1]; exact htn) (ne_q HSb.out.1 HJ.out HT.out.2.1) (t : Int)
          rw [HSb.out.1, HSb.out.2.1] at hA
          rw [hA]
          clear hA c0 c1 c2 c3 hz2 hb2 HI HB
          obtain ⟨c0, c1, c2, c3⟩ := HI2.out.cells hqn
          simp only [if_true] at c2
          have hz2 := HI2.out.frz (q * 4 + 2)
          clear c0 c1 c3
          cases hs : c.snd (i0 q) (i1 q) t with
          | none =>
            have HS := hide hs
            clear hs
            simp only []
            go_wp2_with fail
            go_roundw
            case rel => exact ⟨q, by omega, by simp, hide (by
              rw [HNx.out]
              have hl : c.last q = t := by
                rw [← HT.out.2.2]
                exact fol_end (by rw [HSb.out.1, HSb.out.2.1]; exact HS.out) _
              refine HI2.out.congr (fun _ _ => rfl) (fun _ _ => rfl) (fun z hz => ?_) (fun _ _ => rfl)
              unfold Cf.thr1
              rw [if_pos (by unfold Cf.jl; rw [HSb.out.2.2.2 q (by rw [HSb.out.2.2.1]; exact hqn), HSb.out.1, HJ.out]; rfl)]
              unfold goals
              by_cases e : z = q
              · subst e
                simp only [if_true]
                rw [if_pos HJ.out]
                show (((if z = z then c.last z else c.b z : Nat)) : Int) = _
                rw [if_pos rfl, hl]
              · simp only [if_neg e]
                split
                · show (((if z = q then c.last q else c.b z : Nat)) : Int) = _
                  rw [if_neg e]
                · rfl), HB2⟩
            case measure => simp
          | some t' =>
            have hL := HT.out.1
            have hne := snd_ne HOkc.out hL hs
            have HS := hide (show c.L t' ∧ (q < t' ∨ c.op t' = 1) ∧ c.fol (c.op q) (c.a q) (c.n + 1) t' = c.last q ∧ mTh c t' < mTh c t from by
              have hs' : c.snd (c.op q) (c.a q) t = some t' := by rw [HSb.out.1, HSb.out.2.1]; exact hs
              have o := HOkc.out.snd hL hs'
              refine ⟨o.1, ?_, ?_, mTh_less HOkc.out hL hs'⟩
              · rcases HT.out.2.1 with k | k
                · rcases o.2 with z | z
                  · exact .inl (by omega)
                  · exact .inr z
                · rw [snd_tick k] at hs'; cases hs'
              · rw [← HT.out.2.2, fol_step HOkc.out hL hs'])
            have hnei : ((t' : Int) == (t : Int)) = false := by simp; omega
            clear hs
            simp only []
            go_wp2_with fail
            go_roundg (mTh c t')
            case rel => exact ⟨t', hide rfl, hide ⟨HS.out.1, HS.out.2.1, HS.out.2.2.1⟩, hide ((HI2.out.set2 hqn (t' : Int)).congr (fun _ _ => rfl) (fun _ _ => rfl) (fun z _ => by
              by_cases e : z = q
              · subst e; simp
              · simp only [if_neg e]) (fun _ _ => rfl)), hide (HB2.out.setCell HG.out _)⟩
            case measure => have h1 := HM.out; have h2 := HS.out.2.2.2; omega
def unS (s : Nat → Bool) (n : Nat) : Nat := (List.range n).countP (fun k => !s k)
theorem unS_le (s : Nat → Bool) (n : Nat) : unS s n ≤ n := by
  have := List.countP_le_length (p := fun k => !s k) (l := List.range n)
  rw [List.length_range] at this
  exact this
theorem unS_on (s : Nat → Bool) (n : Nat) : unS s (n + 1) = unS s n + (if s n then 0 else 1) := by
  unfold unS
  rw [List.range_succ, List.countP_append]
  cases h : s n <;> simp [h]
theorem unS_set {s : Nat → Bool} {k : Nat} : ∀ {n : Nat}, k < n → s k = false → unS (fun q => if q = k then true else s q) n + 1 = unS s n
  | 0, h, _ => by omega
  | n + 1, h, hk => by
    rw [unS_on, unS_on]
    by_cases e : n = k
    · subst e
      have : ∀ m, m ≤ n → unS (fun q => if q = n then true else s q) m = unS s m := by
        intro m
        induction m with
        | zero => intro _; rfl
        | succ m ih => intro hm; rw [unS_on, unS_on, ih (by omega), if_neg (by omega : ¬ m = n)]
      rw [this n (Nat.le_refl _), hk]
      simp
    · have := unS_set (s := s) (k := k) (n := n) (by omega) hk
      rw [if_neg e]
      omega
structure RcS (c : Cf) (s : Nat → Bool) (td : List Nat) : Prop where
  r : ∀ k, s k = true → c.R k
  t : ∀ k ∈ td, c.R k
  j : ∀ k, s k = true → jmp (c.op k) = true → s (c.b k) = true ∨ c.b k ∈ td
  x : ∀ k, s k = true → awy (c.op k) = false → s (c.nx k) = true ∨ c.nx k ∈ td
  z : s (c.nf 0) = true ∨ c.nf 0 ∈ td
theorem RcS.done {c : Cf} {s : Nat → Bool} (h : RcS c s []) (k : Nat) : s k = true ↔ c.R k := by
  refine ⟨h.r k, fun hr => hr (fun q => s q = true) ⟨?_, fun p _ hp => ⟨fun hj => ?_, fun ha => ?_⟩⟩⟩
  · rcases h.z with q | q
    · exact q
    · cases q
  · rcases h.j p hp hj with q | q
    · exact q
    · cases q
  · rcases h.x p hp ha with q | q
    · exact q
    · cases q
theorem RcS.old {c : Cf} {s : Nat → Bool} {td : List Nat} {k : Nat} (h : RcS c s (td ++ [k])) (hk : s k = true) : RcS c s td := by
  have key : ∀ q, s q = true ∨ q ∈ td ++ [k] → s q = true ∨ q ∈ td := fun q hq => by
    rcases hq with e | e
    · exact .inl e
    · rcases List.mem_append.1 e with e | e
      · exact .inr e
      · simp at e; subst e; exact .inl hk
  exact ⟨h.r, fun q hq => h.t q (List.mem_append_left _ hq), fun q a b => key _ (h.j q a b), fun q a b => key _ (h.x q a b), key _ h.z⟩
theorem RcS.new {c : Cf} {s : Nat → Bool} {td td' : List Nat} {k : Nat} (h : RcS c s (td ++ [k])) (ok : c.Ok) (hd : ∀ q, q ∈ td' ↔ q ∈ td ∨ (jmp (c.op k) = true ∧ q = c.b k) ∨ (awy (c.op k) = false ∧ q = c.nx k)) : RcS c (fun q => if q = k then true else s q) td' := by
  have hk : c.R k := h.t k (by simp)
  have kL := ok.RL hk
  have key : ∀ q, s q = true ∨ q ∈ td ++ [k] → (if q = k then true else s q) = true ∨ q ∈ td' := fun q hq => by
    by_cases e : q = k
    · exact .inl (by rw [if_pos e])
    · rcases hq with e' | e'
      · exact .inl (by rw [if_neg e]; exact e')
      · rcases List.mem_append.1 e' with e' | e'
        · exact .inr ((hd q).2 (.inl e'))
        · simp at e'; exact (e e').elim
  refine ⟨fun q hq => ?_, fun q hq => ?_, fun q hq hj => ?_, fun q hq ha => ?_, key _ h.z⟩
  · by_cases e : q = k
    · rw [e]; exact hk
    · simp only [if_neg e] at hq; exact h.r q hq
  · rcases (hd q).1 hq with e | ⟨e, rfl⟩ | ⟨e, rfl⟩
    · exact h.t q (List.mem_append_left _ e)
    · exact R_jump kL hk e
    · exact R_next kL hk e
  · by_cases e : q = k
    · subst e; exact .inr ((hd _).2 (.inr (.inl ⟨hj, rfl⟩)))
    · simp only [if_neg e] at hq; exact key _ (h.j q hq hj)
  · by_cases e : q = k
    · subst e; exact .inr ((hd _).2 (.inr (.inr ⟨ha, rfl⟩)))
    · simp only [if_neg e] at hq; exact key _ (h.x q hq ha)
theorem RcS.start (c : Cf) : RcS c (fun _ => false) [c.nf 0] :=
  { r := fun k h => absurd h (by simp)
    t := fun k h => by rw [List.mem_singleton] at h; rw [h]; exact R_first c
    j := fun k h => absurd h (by simp)
    x := fun k h => absurd h (by simp)
    z := .inr (by simp) }
def natC (td : List Nat) : List Value := td.map fun (x : Nat) => .int .i64 (x : Int)
def BoolO (w : World) (g n : Nat) (s : Nat → Bool) : Prop := RowF w 4 g (n * 1) (fun j => .bool (s j))
theorem BoolO.set {w : World} {g n : Nat} {s : Nat → Bool} (h : BoolO w g n s) {k : Nat} (hk : k < n) (x : Bool) : BoolO (w.setCell ⟨g, k, none⟩ (.bool x)) g n (fun q => if q = k then x else s q) :=
  (RowF.set h (j := k) (by omega) (.bool x)).congr (fun j _ => by by_cases e : j = k <;> simp [e])
theorem made_bool (n : Nat) {j : Nat} (hj : j < n) : (madeCells (Value.bool false).cells n).toList.getD j (.bool false) = .bool false := by
  show (madeCells #[.bool false] n).toList.getD j (.bool false) = _
  rw [toList_madeCells_one]
  simp [List.getD_eq_getElem?_getD, hj]
theorem made_int (n : Nat) {j : Nat} (hj : j < n) : (madeCells (Value.int .i64 0).cells n).toList.getD j (.bool false) = .int .i64 0 := by
  show (madeCells #[.int .i64 0] n).toList.getD j (.bool false) = _
  rw [toList_madeCells_one]
  simp [List.getD_eq_getElem?_getD, hj]
theorem Tryz.info4 : (Tryz.prog.info? 4).map (fun i => (i.zero, i.size, i.bytes)) = some (some (.bool false), 1, 1) := by kernel_rfl
end Go.Proofs.YtgnbhhgpaldheaaGreat
