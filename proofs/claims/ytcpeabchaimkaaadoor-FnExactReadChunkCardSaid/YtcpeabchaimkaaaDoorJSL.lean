import Derived.Test.YtcpeabchaimkaaaDoorJSJ
namespace Go.Proofs.YtcpeabchaimkaaaDoor
open Go Go.RowKit
set_option linter.unusedVariables false

theorem rd_len {k : Nat} {l : List Int} {sh : Bool} (h : rdS k l sh = false) : sh = false ∧ l.length = k + (rdD k l).length ∧ (rdT k l).length = k := by
  unfold rdS at h
  unfold rdD rdT
  by_cases c : k ≤ l.length
  · rw [if_pos c] at h
    rw [if_pos c, if_pos c, List.length_drop, List.length_take]
    exact ⟨h, by omega, by omega⟩
  · rw [if_neg c] at h
    cases h
theorem nm_len {k : Nat} {sg : Bool} {s : St} (h : (nm k sg s).2.2 = false) : s.2 = false ∧ s.1.length = k + (nm k sg s).2.1.length := ⟨(rd_len h).1, (rd_len h).2.1⟩
theorem dUps_len : ∀ (n : Nat) (s : St), (dUps n s).2.2 = false → s.2 = false ∧ s.1.length = 2 * (dUps n s).1.length + (dUps n s).2.1.length
  | 0, s, h => ⟨h, by simp [dUps]⟩
  | n + 1, s, h => by
    rcases hb : s.2 with _ | _
    · rw [dUps_1 n hb] at h ⊢
      obtain ⟨h1, h2⟩ := dUps_len n _ h
      obtain ⟨h3, h4⟩ := nm_len h1
      obtain ⟨h5, h6⟩ := nm_len h3
      refine ⟨rfl, ?_⟩
      simp only [List.length_cons]
      omega
    · rw [dUps_sh _ hb] at h
      rw [hb] at h
      cases h
def dwc (cs : List DC) : Nat := cs.length + (cs.map fun u => u.2.2.2.length).sum
theorem dCon_len (s : St) (h : (dCon s).2.2 = false) : s.2 = false ∧ 1 + (dCon s).1.2.2.2.length + (dCon s).2.1.length ≤ s.1.length := by
  unfold dCon at h ⊢
  by_cases h4 : (nm 1 false s).1 = 4
  · simp only [if_pos h4] at h ⊢
    obtain ⟨h1, h2⟩ := nm_len h
    obtain ⟨h3, h5⟩ := nm_len h1
    exact ⟨h3, by simp only [List.length_nil]; omega⟩
  · by_cases h5 : (nm 1 false s).1 = 5
    · simp only [if_neg h4, if_pos h5] at h ⊢
      obtain ⟨h1, h2⟩ := nm_len h
      obtain ⟨h3, h5⟩ := nm_len h1
      exact ⟨h3, by simp only [List.length_nil]; omega⟩
    · simp only [if_neg h4, if_neg h5] at h ⊢
      obtain ⟨h1, h2, h6⟩ := rd_len h
      obtain ⟨h3, h7⟩ := nm_len h1
      obtain ⟨h8, h9⟩ := nm_len h3
      exact ⟨h8, by omega⟩
theorem dCons_len : ∀ (n : Nat) (s : St), (dCons n s).2.2 = false → s.2 = false ∧ dwc (dCons n s).1 + (dCons n s).2.1.length ≤ s.1.length
  | 0, s, h => ⟨h, by simp [dCons, dwc]⟩
  | n + 1, s, h => by
    rcases hb : s.2 with _ | _
    · rw [dCons_1 n hb] at h ⊢
      obtain ⟨h1, h2⟩ := dCons_len n _ h
      obtain ⟨h3, h4⟩ := dCon_len s h1
      refine ⟨rfl, ?_⟩
      simp only [dwc, List.length_cons, List.map_cons, List.sum_cons] at h2 ⊢
      omega
    · rw [dCons_sh _ hb] at h
      rw [hb] at h
      cases h
theorem dIns_len : ∀ (n : Nat) (s : St), (dIns n s).2.2 = false → s.2 = false ∧ 2 * (dIns n s).1.length + (dIns n s).2.1.length ≤ s.1.length
  | 0, s, h => ⟨h, by simp [dIns]⟩
  | n + 1, s, h => by
    rcases hb : s.2 with _ | _
    · rw [dIns_1 n hb] at h ⊢
      obtain ⟨h1, h2⟩ := dIns_len n _ h
      unfold dIn at h1 h2 ⊢
      simp only at h1 h2 ⊢
      obtain ⟨g1, e1⟩ := nm_len h1
      obtain ⟨g2, e2⟩ := nm_len g1
      obtain ⟨g3, e3⟩ := nm_len g2
      obtain ⟨g4, e4⟩ := nm_len g3
      obtain ⟨g5, e5⟩ := nm_len g4
      refine ⟨by trivial, ?_⟩
      simp only [List.length_cons]
      omega
    · rw [dIns_sh _ hb] at h
      rw [hb] at h
      cases h
def dwt (d : DP) : Nat := d.ups.length + dwc d.cons + 2 * d.ins.length
theorem dProto_len (s : St) (h : (dProto s).2.2 = false) : s.2 = false ∧ 1 + dwt (dProto s).1 + (dProto s).2.1.length ≤ s.1.length := by
  have hI : (dI s).2.2 = false := h
  obtain ⟨h1, h2⟩ := dIns_len _ _ hI
  obtain ⟨h3, h4⟩ := nm_len h1
  obtain ⟨h5, h6⟩ := dCons_len _ _ h3
  obtain ⟨h7, h8⟩ := nm_len h5
  obtain ⟨h9, g0⟩ := dUps_len _ _ h7
  obtain ⟨g1, e1⟩ := nm_len (k := 1) (sg := false) (s := (nm 4 false (nm 1 false (nm 1 false (nm 1 false s).2).2).2).2) h9
  obtain ⟨g2, e2⟩ := nm_len (k := 4) (sg := false) (s := (nm 1 false (nm 1 false (nm 1 false s).2).2).2) g1
  obtain ⟨g3, e3⟩ := nm_len (k := 1) (sg := false) (s := (nm 1 false (nm 1 false s).2).2) g2
  obtain ⟨g4, e4⟩ := nm_len (k := 1) (sg := false) (s := (nm 1 false s).2) g3
  obtain ⟨g5, e5⟩ := nm_len (k := 1) (sg := false) (s := s) g4
  refine ⟨g5, ?_⟩
  have k1 : (dProto s).1.ups = (dU s).1 := rfl
  have k2 : (dProto s).1.cons = (dC s).1 := rfl
  have k3 : (dProto s).1.ins = (dI s).1 := rfl
  have k4 : (dProto s).2 = (dI s).2 := rfl
  rw [dwt, k1, k2, k3, k4]
  have q1 : 2 * (dI s).1.length + (dI s).2.1.length ≤ (nm 2 false (dC s).2).2.1.length := h2
  have q2 : dwc (dC s).1 + (dC s).2.1.length ≤ (nm 2 false (dU s).2).2.1.length := h6
  have q3 : (dH s).2.1.length = 2 * (dU s).1.length + (dU s).2.1.length := g0
  have q4 : (dH s).2.1.length ≤ s.1.length - 1 := by
    show (nm 1 false (nm 4 false (nm 1 false (nm 1 false (nm 1 false s).2).2).2).2).2.1.length ≤ _
    omega
  omega
theorem dProtos_len : ∀ (n : Nat) (s : St), (dProtos n s).2.2 = false → s.2 = false ∧ (dProtos n s).1.length + ((dProtos n s).1.map dwt).sum + (dProtos n s).2.1.length ≤ s.1.length
  | 0, s, h => ⟨h, by simp [dProtos]⟩
  | n + 1, s, h => by
    rcases hb : s.2 with _ | _
    · have e : dProtos (n + 1) s = ((dProto s).1 :: (dProtos n (dProto s).2).1, (dProtos n (dProto s).2).2) := by rw [dProtos, if_neg (by rw [hb]; simp)]
      rw [e] at h ⊢
      obtain ⟨h1, h2⟩ := dProtos_len n _ h
      obtain ⟨h3, h4⟩ := dProto_len s h1
      refine ⟨rfl, ?_⟩
      simp only [List.length_cons, List.map_cons, List.sum_cons]
      omega
    · have e : dProtos (n + 1) s = ([], s) := by rw [dProtos, if_pos hb]
      rw [e] at h
      rw [hb] at h
      cases h

end Go.Proofs.YtcpeabchaimkaaaDoor
namespace Go.Proofs.YtcpeabchaimkaaaDoor
open Go Go.RowKit
set_option linter.unusedVariables false

theorem sumN_front (f : Nat → Nat) : ∀ n, sumN f (n + 1) = f 0 + sumN (fun k => f (k + 1)) n
  | 0 => by simp [sumN]
  | n + 1 => by rw [sumN_1, sumN_front f n, sumN_1]; omega
theorem sumN_list {α : Type} (g : α → Nat) (d : α) : ∀ xs : List α, sumN (fun k => g (xs.getD k d)) xs.length = (xs.map g).sum
  | [] => rfl
  | x :: xs => by
    rw [List.length_cons, sumN_front, List.map_cons, List.sum_cons]
    have := sumN_list g d xs
    exact congrArg (g x + ·) this
theorem le_sum {α : Type} {g : α → Nat} : ∀ {xs : List α} {x : α}, x ∈ xs → g x ≤ (xs.map g).sum
  | y :: xs, x, h => by
    rw [List.map_cons, List.sum_cons]
    rcases List.mem_cons.1 h with rfl | h
    · omega
    · have := le_sum (g := g) h
      omega
theorem getE_mem {α : Type} {xs : List α} {k : Nat} {d : α} (h : k < xs.length) : xs.getD k d ∈ xs := by
  rw [List.getD_eq_getElem?_getD, List.getElem?_eq_getElem h]
  exact List.getElem_mem _
theorem fd_weight (d : DP) : d.fd.pv.weight = dwt d := by
  have h := sumN_list (fun u : Con => u.2.2.2.size) (0, 0, 0, ⟨#[]⟩) d.fd.cons
  have e : (d.fd.cons.map fun u : Con => u.2.2.2.size) = d.cons.map fun u => u.2.2.2.length := by
    simp only [DP.fd, List.map_map]
    refine List.map_congr_left fun u _ => ?_
    simp [toCon, bsL_size]
  rw [e] at h
  have h2 : szs d.fd.pv.c3 d.fd.pv.nc = (d.cons.map fun u => u.2.2.2.length).sum := h
  have l1 : d.fd.pv.nc = d.cons.length := by simp [FD.pv, DP.fd]
  have l2 : d.fd.pv.ni = d.ins.length := by simp [FD.pv, DP.fd]
  have l3 : d.fd.pv.nl = d.ins.length := by simp [FD.pv, DP.fd]
  have l4 : d.fd.pv.nu = d.ups.length := rfl
  have goal : d.fd.pv.nu + d.fd.pv.nc + szs d.fd.pv.c3 d.fd.pv.nc + d.fd.pv.ni + d.fd.pv.nl = d.ups.length + (d.cons.length + (d.cons.map fun u => u.2.2.2.length).sum) + 2 * d.ins.length := by omega
  exact goal
def bitL (cs : List DC) : Prop := ∀ u ∈ cs, 0 ≤ u.2.2.1 ∧ u.2.2.1 < 18446744073709551616
theorem dCon_bits (s : St) : 0 ≤ (dCon s).1.2.2.1 ∧ (dCon s).1.2.2.1 < 18446744073709551616 := by
  unfold dCon
  split
  · simp
  · split
    · simp only [IntKind.wrap_u64]
      omega
    · simp
theorem dCons_bits : ∀ (n : Nat) (s : St), bitL (dCons n s).1
  | 0, s => by simp [dCons, bitL]
  | n + 1, s => by
    rw [dCons]
    split
    · simp [bitL]
    · intro u hu
      rcases List.mem_cons.1 hu with rfl | h
      · exact dCon_bits s
      · exact dCons_bits n _ u h
theorem dProtos_bits : ∀ (n : Nat) (s : St), ∀ d ∈ (dProtos n s).1, bitL d.cons
  | 0, s => by simp [dProtos]
  | n + 1, s => by
    rw [dProtos]
    split
    · simp
    · intro d hd
      rcases List.mem_cons.1 hd with rfl | h
      · exact dCons_bits _ _
      · exact dProtos_bits n _ d h
/-- What writing asks of functions that were read. -/
theorem read_fits {n : Nat} {s : St} {ys : List FV} (hl : s.1.length ≤ 1048576) (hs : (dProtos n s).2.2 = false) (hy : ys.map FV.x = (dProtos n s).1.map DP.fd) :
    ys.length ≤ 1048576 ∧ allFit ys.length (fun k => (ys.getD k fv0).x.pv) 1048576 ∧ allBits ys.length (fun k => (ys.getD k fv0).x.pv) ∧ wts (fun k => (ys.getD k fv0).x.pv) ys.length ≤ 1048576 := by
  obtain ⟨h1, h2⟩ := dProtos_len n s hs
  have hb := dProtos_bits n s
  generalize (dProtos n s).1 = ds at *
  have hlen : ys.length = ds.length := by have := congrArg List.length hy; simpa using this
  have hw : (ys.map fun y => y.x.pv.weight) = ds.map dwt := by
    have e1 : (ys.map fun y => y.x.pv.weight) = (ys.map FV.x).map (fun x => x.pv.weight) := by rw [List.map_map]; rfl
    rw [e1, hy, List.map_map]
    exact List.map_congr_left fun d _ => fd_weight d
  have hwt : wts (fun k => (ys.getD k fv0).x.pv) ys.length = (ds.map dwt).sum := by rw [← hw]; exact sumN_list (fun y : FV => y.x.pv.weight) fv0 ys
  have hmem : ∀ k, k < ys.length → ∃ d ∈ ds, (ys.getD k fv0).x = d.fd := fun k hk => by
    have : (ys.getD k fv0).x ∈ ys.map FV.x := List.mem_map_of_mem (getE_mem hk)
    rw [hy] at this
    obtain ⟨d, hd, e⟩ := List.mem_map.1 this
    exact ⟨d, hd, e.symm⟩
  refine ⟨by omega, fun k hk => ?_, fun k hk => ?_, by rw [hwt]; omega⟩
  · obtain ⟨d, hd, e⟩ := hmem k hk
    have h9 := le_sum (g := dwt) hd
    rw [← fd_weight] at h9
    simp only [e]
    have hc : ∀ j, j < d.fd.pv.nc → (d.fd.pv.c3 j).size ≤ szs d.fd.pv.c3 d.fd.pv.nc := fun j hj => by
      have q1 : szs d.fd.pv.c3 d.fd.pv.nc = (d.fd.cons.map fun u : Con => u.2.2.2.size).sum := sumN_list (fun u : Con => u.2.2.2.size) (0, 0, 0, ⟨#[]⟩) d.fd.cons
      rw [q1]
      exact le_sum (g := fun u : Con => u.2.2.2.size) (getE_mem hj)
    unfold PV.weight at h9
    exact ⟨by omega, by omega, by omega, by omega, fun j hj => by have := hc j hj; omega⟩
  · obtain ⟨d, hd, e⟩ := hmem k hk
    simp only [e]
    intro j hj
    have hm : (d.fd.cons.getD j (0, 0, 0, ⟨#[]⟩)) ∈ d.cons.map toCon := getE_mem hj
    obtain ⟨u, hu, e2⟩ := List.mem_map.1 hm
    have := hb d hd u hu
    show 0 ≤ (d.fd.cons.getD j (0, 0, 0, ⟨#[]⟩)).2.2.1 ∧ (d.fd.cons.getD j (0, 0, 0, ⟨#[]⟩)).2.2.1 < 18446744073709551616
    rw [← e2]
    exact this

end Go.Proofs.YtcpeabchaimkaaaDoor
