import Derived.Test.YtcpeabchaimkaaaDoorSM
namespace Go.Proofs.YtcpeabchaimkaaaDoor
open Go Go.RowKit
set_option linter.unusedVariables false

theorem join_enc {α : Type} (E : α → List Int) (d : α) : ∀ xs : List α, joinL (fun k => E (xs.getD k d)) xs.length = encL E xs
  | [] => rfl
  | x :: xs => by
    rw [List.length_cons, joinL_cons, encL_cons]
    have := join_enc E d xs
    exact congrArg (E x ++ ·) this
theorem fdE_pb (x : FD) : fdE x = pbL x.pv := by
  have h1 : joinL (upL x.pv) x.ups.length = encL upE x.ups := join_enc upE (false, 0) x.ups
  have h2 : joinL (coL x.pv) x.cons.length = encL conE x.cons := join_enc conE (0, 0, 0, ⟨#[]⟩) x.cons
  have h3 : joinL (inL x.pv) x.ins.length = encL ilE x.ins := by
    rw [← join_enc ilE ((0, 0, 0, 0), 0) x.ins]
    congr 1
  have h4 : pbL x.pv = ((((hdL x.pv ++ joinL (upL x.pv) x.ups.length) ++ u64n x.cons.length 2) ++ joinL (coL x.pv) x.cons.length) ++ u64n x.ins.length 2) ++ joinL (inL x.pv) x.ins.length := rfl
  have h5 : hdL x.pv = u64n x.params 1 ++ ([flagI x.dots] ++ (u64n x.regs 1 ++ (u64n x.line 4 ++ u64n x.ups.length 1))) := rfl
  rw [h4, h1, h2, h3, h5]
  simp only [fdE, t1, t2, t3, t4, t5, t6, t7, t8, List.append_assoc]
def fd0 : FD := ⟨0, 0, 0, false, [], [], []⟩
theorem fdFile_eq (xs : List FD) : fdFile xs = fileL xs.length (fun k => (xs.getD k fd0).pv) := by
  have h1 : joinL (fun k => pbL (xs.getD k fd0).pv) xs.length = encL fdE xs := by
    rw [← join_enc fdE fd0 xs]
    congr 1
    funext k
    exact (fdE_pb _).symm
  have h2 : chL xs.length (fun k => (xs.getD k fd0).pv) xs.length = fbody xs := by rw [chL, h1, fbody, List.append_assoc]
  rw [fdFile, fileL, h2]
theorem inI_mk {v lo hi : Int} (h : lo ≤ v ∧ v ≤ hi) : inI v lo hi = true := by simpa [inI] using h
theorem FD.ok.plain {x : FD} (h : x.ok) : plainOk x.pv ∧ x.pv.bitsOk ∧ x.pv.rng := by
  refine ⟨⟨⟨inI_mk h.p, inI_mk h.g, inI_mk h.l, h.nu, h.nc, h.ni, rfl⟩, fun k hk => inI_mk (h.u _ (getE_mem hk)), fun k hk => (h.c _ (getE_mem hk)).1, fun k hk => ?_⟩, fun k hk => (h.c _ (getE_mem hk)).2.2, fun k hk => (h.c _ (getE_mem hk)).2.1⟩
  obtain ⟨⟨h1, h2, h3, h4⟩, h5⟩ := h.i _ (getE_mem (d := ((0, 0, 0, 0), 0)) hk)
  exact ⟨⟨inI_mk h1, inI_mk h2, inI_mk h3, inI_mk h4⟩, inI_mk h5⟩
theorem mem_getD {α : Type} {xs : List α} {x : α} (d : α) (h : x ∈ xs) : ∃ k, k < xs.length ∧ xs.getD k d = x := by
  obtain ⟨k, hk, e⟩ := List.mem_iff_getElem.1 h
  exact ⟨k, hk, by rw [List.getD_eq_getElem?_getD, List.getElem?_eq_getElem hk]; exact e⟩
theorem FD.ok.of {x : FD} (h : plainOk x.pv) (hb : x.pv.bitsOk) (hr : x.pv.rng) : x.ok := by
  obtain ⟨⟨a1, a2, a3, a4, a5, a6, a7⟩, au, ac, ai⟩ := h
  refine ⟨inI_of a1, inI_of a2, inI_of a3, a4, a5, a6, fun y hy => ?_, fun y hy => ?_, fun y hy => ?_⟩
  · obtain ⟨k, hk, rfl⟩ := mem_getD (false, 0) hy
    exact inI_of (au k hk)
  · obtain ⟨k, hk, rfl⟩ := mem_getD (0, 0, 0, ⟨#[]⟩) hy
    exact ⟨ac k hk, hr k hk, hb k hk⟩
  · obtain ⟨k, hk, rfl⟩ := mem_getD ((0, 0, 0, 0), 0) hy
    obtain ⟨⟨h1, h2, h3, h4⟩, h5⟩ := ai k hk
    exact ⟨⟨inI_of h1, inI_of h2, inI_of h3, inI_of h4⟩, inI_of h5⟩
/-- The same function, as it is read, is the same. -/
theorem list_ext {α : Type} (d : α) {xs ys : List α} (hl : xs.length = ys.length) (h : ∀ k, k < xs.length → xs.getD k d = ys.getD k d) : xs = ys := by
  refine List.ext_getElem hl fun k h1 h2 => ?_
  have := h k h1
  rwa [List.getD_eq_getElem?_getD, List.getD_eq_getElem?_getD, List.getElem?_eq_getElem h1, List.getElem?_eq_getElem h2] at this
theorem FD.same {x y : FD} (h : x.pv.same y.pv) : x = y := by
  obtain ⟨⟨h1, h2, h3, h4⟩, ⟨n1, n2, n3, n4⟩, hu, hc, hi, hl⟩ := h
  obtain ⟨x0, x1, x2, x3, x4, x5, x6⟩ := x
  obtain ⟨y0, y1, y2, y3, y4, y5, y6⟩ := y
  have e1 : x0 = y0 := h1
  have e2 : x1 = y1 := h2
  have e3 : x2 = y2 := h3
  have e4 : x3 = y3 := h4
  have e5 : x4 = y4 := list_ext (false, 0) n1 (fun k hk => Prod.ext (hu k hk).1 (hu k hk).2)
  have e6 : x5 = y5 := list_ext ((0, 0, 0, ⟨#[]⟩) : Con) n2 (fun k hk => Prod.ext (hc k hk).1 (Prod.ext (hc k hk).2.1 (Prod.ext (hc k hk).2.2.1 (hc k hk).2.2.2)))
  have e7 : x6 = y6 := list_ext ((0, 0, 0, 0), 0) n3 (fun k hk => Prod.ext (Prod.ext (hi k hk).1 (Prod.ext (hi k hk).2.1 (Prod.ext (hi k hk).2.2.1 (hi k hk).2.2.2))) (hl k hk))
  rw [e1, e2, e3, e4, e5, e6, e7]

theorem getD_map' {α β : Type} (f : α → β) (d : α) (xs : List α) (k : Nat) : (xs.map f).getD k (f d) = f (xs.getD k d) := by
  rw [List.getD_eq_getElem?_getD, List.getD_eq_getElem?_getD, List.getElem?_map]
  cases xs[k]? <;> rfl
theorem pvs_eq (ys : List FV) : pvs ys = fun k => ((ys.map FV.x).getD k fd0).pv := by
  funext k
  have := getD_map' FV.x fv0 ys k
  exact congrArg FD.pv this.symm
theorem fd_same (d : DP) : d.fd.pv.same d.pv := by
  refine ⟨⟨rfl, rfl, rfl, rfl⟩, ⟨rfl, List.length_map .., List.length_map .., List.length_map ..⟩, fun k _ => ⟨rfl, rfl⟩, fun k _ => ?_, fun k _ => ?_, fun k _ => ?_⟩
  · have := getD_map' toCon (0, 0, 0, []) d.cons k
    have e : (d.fd.cons.getD k (0, 0, 0, ⟨#[]⟩)) = toCon (d.cons.getD k (0, 0, 0, [])) := this
    simp only [FD.pv, e]
    exact ⟨rfl, rfl, rfl, rfl⟩
  · have := getD_map' toIL (0, 0, 0, 0, 0) d.ins k
    have e : (d.fd.ins.getD k ((0, 0, 0, 0), 0)) = toIL (d.ins.getD k (0, 0, 0, 0, 0)) := this
    simp only [FD.pv, e]
    exact ⟨rfl, rfl, rfl, rfl⟩
  · have := getD_map' toIL (0, 0, 0, 0, 0) d.ins k
    have e : (d.fd.ins.getD k ((0, 0, 0, 0), 0)) = toIL (d.ins.getD k (0, 0, 0, 0, 0)) := this
    simp only [FD.pv, e]
    rfl
theorem PV.same.trans' {p q r : PV} (h : p.same q) (k : q.same r) : p.same r := by
  obtain ⟨⟨a1, a2, a3, a4⟩, ⟨b1, b2, b3, b4⟩, hu, hc, hi, hl⟩ := h
  obtain ⟨⟨c1, c2, c3, c4⟩, ⟨d1, d2, d3, d4⟩, ku, kc, ki, kl⟩ := k
  refine ⟨⟨a1.trans c1, a2.trans c2, a3.trans c3, a4.trans c4⟩, ⟨b1.trans d1, b2.trans d2, b3.trans d3, b4.trans d4⟩, fun k hk => ?_, fun k hk => ?_, fun k hk => ?_, fun k hk => (hl k hk).trans (kl k (by omega))⟩
  · have x := hu k hk; have y := ku k (by omega); exact ⟨x.1.trans y.1, x.2.trans y.2⟩
  · have x := hc k hk; have y := kc k (by omega); exact ⟨x.1.trans y.1, x.2.1.trans y.2.1, x.2.2.1.trans y.2.2.1, x.2.2.2.trans y.2.2.2⟩
  · have x := hi k hk; have y := ki k (by omega); exact ⟨x.1.trans y.1, x.2.1.trans y.2.1, x.2.2.1.trans y.2.2.1, x.2.2.2.trans y.2.2.2⟩
/-- A right file is read by the document to the functions that the program reads of it. -/
theorem read_yes {l : List Int} {xs : List FD} {ys : List FV} (hx : Fok xs) (hl : l = fdFile xs) (hy : ys.map FV.x = (dFile l).1.map DP.fd) : ReadOk l ys ∧ ys.map FV.x = xs := by
  have hP := fun k hk => (hx.1 _ (getE_mem (d := fd0) (k := k) hk)).plain
  have e0 := hl.trans (fdFile_eq xs)
  have hpl : allPlain xs.length (fun k => (xs.getD k fd0).pv) := ⟨hx.2, fun k hk => (hP k hk).1⟩
  obtain ⟨ds, r, e1, e2, e3⟩ := dFile_enc hpl (fun k hk => (hP k hk).2.1) (fun k hk => (hP k hk).2.2)
  rw [← e0] at e1
  have e4 : ds.map DP.fd = xs := by
    refine List.ext_getElem (by rw [List.length_map, e2]) fun k h1 h2 => ?_
    rw [List.getElem_map]
    have h3 : k < ds.length := by rw [e2]; exact h2
    have h4 := (fd_same ds[k]).trans' (e3 k h3)
    have h5 := FD.same h4
    rw [h5, List.getD_eq_getElem?_getD, List.getElem?_eq_getElem h2]
    rfl
  rw [e1] at hy
  have e5 : ys.map FV.x = xs := hy.trans e4
  have e6 : ys.length = xs.length := by rw [← e5, List.length_map]
  refine ⟨⟨by rw [e1], ?_, ?_⟩, e5⟩
  · rw [pvs_eq, e5, e6]
    exact hpl
  · rw [pvs_eq, e5, e6]
    exact e0.symm

theorem numV_rng (t : List Int) : -9223372036854775808 ≤ numV false t ∧ numV false t ≤ 9223372036854775807 := by
  rw [numV, if_neg (by simp)]
  unfold wrap64
  omega
theorem dCon_rng (s : St) : -9223372036854775808 ≤ (dCon s).1.2.1 ∧ (dCon s).1.2.1 ≤ 9223372036854775807 := by
  unfold dCon
  split
  · exact numV_rng _
  · split <;> exact z64
theorem dCons_rng : ∀ (n : Nat) (s : St), ∀ u ∈ (dCons n s).1, -9223372036854775808 ≤ u.2.1 ∧ u.2.1 ≤ 9223372036854775807
  | 0, s => by simp [dCons]
  | n + 1, s => by
    rw [dCons]
    split
    · simp
    · intro u hu
      rcases List.mem_cons.1 hu with rfl | h
      · exact dCon_rng s
      · exact dCons_rng n _ u h
theorem dProtos_rng : ∀ (n : Nat) (s : St), ∀ d ∈ (dProtos n s).1, ∀ u ∈ d.cons, -9223372036854775808 ≤ u.2.1 ∧ u.2.1 ≤ 9223372036854775807
  | 0, s => by simp [dProtos]
  | n + 1, s => by
    rw [dProtos]
    split
    · simp
    · intro d hd
      rcases List.mem_cons.1 hd with rfl | h
      · exact dCons_rng _ _
      · exact dProtos_rng n _ d h
/-- What the document takes for a file is one. -/
theorem read_no {l : List Int} {ys : List FV} (h : ReadOk l ys) (hy : ys.map FV.x = (dFile l).1.map DP.fd) : Fok (ys.map FV.x) ∧ l = fdFile (ys.map FV.x) := by
  obtain ⟨h1, h2, h3⟩ := h
  have hlen : (ys.map FV.x).length = ys.length := List.length_map ..
  refine ⟨⟨fun x hx => ?_, by rw [hlen]; exact h2.1⟩, ?_⟩
  · obtain ⟨k, hk, e⟩ := mem_getD fd0 hx
    have hp := h2.2 k (by omega)
    rw [pvs_eq] at hp
    simp only [e] at hp
    have hx2 := hx
    rw [hy] at hx2
    obtain ⟨d, hd, rfl⟩ := List.mem_map.1 hx2
    refine FD.ok.of hp (fun j hj => ?_) (fun j hj => ?_)
    · obtain ⟨u, hu, e2⟩ := List.mem_map.1 (getE_mem (d := ((0, 0, 0, ⟨#[]⟩) : Con)) (xs := d.cons.map toCon) hj)
      have := dProtos_bits _ _ d hd u hu
      show 0 ≤ (d.fd.cons.getD j (0, 0, 0, ⟨#[]⟩)).2.2.1 ∧ (d.fd.cons.getD j (0, 0, 0, ⟨#[]⟩)).2.2.1 < 18446744073709551616
      rw [show d.fd.cons = d.cons.map toCon from rfl, ← e2]
      exact this
    · obtain ⟨u, hu, e2⟩ := List.mem_map.1 (getE_mem (d := ((0, 0, 0, ⟨#[]⟩) : Con)) (xs := d.cons.map toCon) hj)
      have := dProtos_rng _ _ d hd u hu
      show -9223372036854775808 ≤ (d.fd.cons.getD j (0, 0, 0, ⟨#[]⟩)).2.1 ∧ (d.fd.cons.getD j (0, 0, 0, ⟨#[]⟩)).2.1 ≤ 9223372036854775807
      rw [show d.fd.cons = d.cons.map toCon from rfl, ← e2]
      exact this
  · rw [fdFile_eq, hlen, ← pvs_eq]
    exact h3.symm

end Go.Proofs.YtcpeabchaimkaaaDoor
