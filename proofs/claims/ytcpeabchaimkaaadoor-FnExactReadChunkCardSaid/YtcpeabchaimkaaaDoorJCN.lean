import Derived.Test.YtcpeabchaimkaaaDoorCL
import Derived.Test.YtcpeabchaimkaaaDoorJCG
namespace Go.Proofs.YtcpeabchaimkaaaDoor
open Go Go.RowKit
set_option linter.unusedVariables false

theorem pb_inj {p q : PV} (hp : plainOk p) (hq : plainOk q) (bp : p.bitsOk) (bq : q.bitsOk) (rp : p.rng) (rq : q.rng) {r r' : List Int} (h : pbL p ++ r = pbL q ++ r') : p.same q ∧ r = r' := by
  obtain ⟨⟨a1, a2, a3, a4, a5, a6, a7⟩, au, ac, ai⟩ := hp
  obtain ⟨⟨b1, b2, b3, b4, b5, b6, b7⟩, bu, bc, bi⟩ := hq
  simp only [pbL, S3, S2, S1, hdL, List.append_assoc] at h
  obtain ⟨e1, h⟩ := fld h
  obtain ⟨e2, h⟩ := List.cons.inj (show flagI p.dots :: (u64n p.regs 1 ++ _) = flagI q.dots :: (u64n q.regs 1 ++ _) from h)
  obtain ⟨e3, h⟩ := fld h
  obtain ⟨e4, h⟩ := fld h
  obtain ⟨e5, h⟩ := fld h
  have nu : p.nu = q.nu := by have := n1_inj e5 (by omega) (by omega); omega
  rw [← nu] at h
  obtain ⟨hu, h⟩ := join_inj (E := fun k => p.u0 k = q.u0 k ∧ p.u1 k = q.u1 k) p.nu _ _ (fun k hk r r' hh => up_inj (au k hk) (bu k (by omega)) hh) h
  obtain ⟨e6, h⟩ := fld h
  have nc : p.nc = q.nc := by have := n2_inj e6 (by omega) (by omega); omega
  rw [← nc] at h
  obtain ⟨hc, h⟩ := join_inj (E := fun k => p.c0 k = q.c0 k ∧ p.c1 k = q.c1 k ∧ p.c2 k = q.c2 k ∧ p.c3 k = q.c3 k) p.nc _ _ (fun k hk r r' hh => co_inj (ac k hk) (bc k (by omega)) (rp k hk) (rq k (by omega)) (bp k hk) (bq k (by omega)) hh) h
  obtain ⟨e7, h⟩ := fld h
  have ni : p.ni = q.ni := by have := n2_inj e7 (by omega) (by omega); omega
  rw [← ni] at h
  obtain ⟨hi, h⟩ := join_inj (E := fun k => p.i0 k = q.i0 k ∧ p.i1 k = q.i1 k ∧ p.i2 k = q.i2 k ∧ p.i3 k = q.i3 k ∧ p.l0 k = q.l0 k) p.ni _ _ (fun k hk r r' hh => in_inj (ai k hk) (bi k (by omega)) hh) h
  refine ⟨⟨⟨n1_inj e1 (inI_of a1) (inI_of b1), n1_inj e3 (inI_of a2) (inI_of b2), n4_inj e4 (inI_of a3) (inI_of b3), flag_inj e2⟩, ⟨nu, nc, ni, by omega⟩, hu, hc, fun k hk => ⟨(hi k hk).1, (hi k hk).2.1, (hi k hk).2.2.1, (hi k hk).2.2.2.1⟩, fun k hk => (hi k (by omega)).2.2.2.2⟩, h⟩

def allRng (n : Nat) (P : Nat → PV) : Prop := ∀ k, k < n → (P k).rng
/-- A file has one chunk. -/
theorem fileL_inj {n m : Nat} {P Q : Nat → PV} (hp : allPlain n P) (hq : allPlain m Q) (bp : allBits n P) (bq : allBits m Q) (rp : allRng n P) (rq : allRng m Q) (h : fileL n P = fileL m Q) : n = m ∧ ∀ k, k < n → (P k).same (Q k) := by
  simp only [fileL, chL, List.append_assoc] at h
  have h := List.append_cancel_left h
  obtain ⟨e, h⟩ := fld h
  have nm : n = m := by have := n2_inj e (by have := hp.1; omega) (by have := hq.1; omega); omega
  subst nm
  exact ⟨rfl, (join_inj (E := fun k => (P k).same (Q k)) n _ _ (fun k hk r r' hh => pb_inj (hp.2 k hk) (hq.2 k hk) (bp k hk) (bq k hk) (rp k hk) (rq k hk) hh) h).1⟩

theorem UpsA.same {w : World} {v : Value} {n : Nat} {x0 y0 : Nat → Bool} {x1 y1 : Nat → Int} (h : UpsA w v n x0 x1) (e : ∀ k, k < n → x0 k = y0 k ∧ x1 k = y1 k) : UpsA w v n y0 y1 := by
  rcases h with h | ⟨b, o, cap, rfl, h1, h2, h3⟩
  · exact .inl h
  · exact .inr ⟨b, o, cap, rfl, h1, h2, fun i hi => by rw [← (e i hi).1, ← (e i hi).2]; exact h3 i hi⟩
theorem ConsA.same {w : World} {v : Value} {n : Nat} {x0 x1 x2 y0 y1 y2 : Nat → Int} {x3 y3 : Nat → ByteArray} (h : ConsA w v n x0 x1 x2 x3) (e : ∀ k, k < n → x0 k = y0 k ∧ x1 k = y1 k ∧ x2 k = y2 k ∧ x3 k = y3 k) : ConsA w v n y0 y1 y2 y3 := by
  rcases h with h | ⟨b, o, cap, rfl, h1, h2, h3⟩
  · exact .inl h
  · exact .inr ⟨b, o, cap, rfl, h1, h2, fun i hi => by rw [← (e i hi).1, ← (e i hi).2.1, ← (e i hi).2.2.1, ← (e i hi).2.2.2]; exact h3 i hi⟩
theorem InsA.same {w : World} {v : Value} {n : Nat} {x0 x1 x2 x3 y0 y1 y2 y3 : Nat → Int} (h : InsA w v n x0 x1 x2 x3) (e : ∀ k, k < n → x0 k = y0 k ∧ x1 k = y1 k ∧ x2 k = y2 k ∧ x3 k = y3 k) : InsA w v n y0 y1 y2 y3 := by
  rcases h with h | ⟨b, o, cap, rfl, h1, h2, h3⟩
  · exact .inl h
  · exact .inr ⟨b, o, cap, rfl, h1, h2, fun i hi => by rw [← (e i hi).1, ← (e i hi).2.1, ← (e i hi).2.2.1, ← (e i hi).2.2.2]; exact h3 i hi⟩
theorem IntsA.same {w : World} {v : Value} {n : Nat} {x0 y0 : Nat → Int} (h : IntsA w v n x0) (e : ∀ k, k < n → x0 k = y0 k) : IntsA w v n y0 := by
  rcases h with h | ⟨b, o, cap, rfl, h1, h2, h3⟩
  · exact .inl h
  · exact .inr ⟨b, o, cap, rfl, h1, h2, fun i hi => by rw [← e i hi]; exact h3 i hi⟩
theorem PVA.same {w : World} {p q : PV} {s4 s5 s6 s7 : Value} (h : PVA w p s4 s5 s6 s7) (e : p.same q) : PVA w q s4 s5 s6 s7 := by
  obtain ⟨⟨_, _, _, _⟩, ⟨n1, n2, n3, n4⟩, hu, hc, hi, hl⟩ := e
  exact ⟨n1 ▸ h.u.same hu, n2 ▸ h.c.same hc, n3 ▸ h.i.same hi, n4 ▸ h.l.same hl⟩
theorem ProsA.same {w : World} {v : Value} {n : Nat} {P Q : Nat → PV} (h : ProsA w v n P) (e : ∀ k, k < n → (P k).same (Q k)) : ProsA w v n Q := by
  rcases h with h | ⟨b, o, cap, rfl, h1, h2, h3⟩
  · exact .inl h
  · refine .inr ⟨b, o, cap, rfl, h1, h2, fun i hi => ?_⟩
    obtain ⟨s4, s5, s6, s7, hc, hv⟩ := h3 i hi
    obtain ⟨y1, y2, y3, y4⟩ := (e i hi).h0
    refine ⟨s4, s5, s6, s7, ?_, hv.same (e i hi)⟩
    unfold C8 at hc ⊢
    rw [← y1, ← y2, ← y3, ← y4]
    exact hc

end Go.Proofs.YtcpeabchaimkaaaDoor
namespace Go.Proofs.YtcpeabchaimkaaaDoor
open Go Go.RowKit
set_option linter.unusedVariables false

/-- A slice of the bytes l, in a block ahead of B. -/
def SlB (w : World) (B : Nat) (v : Value) (l : List Int) : Prop :=
  (l = [] ∧ ∃ a cap, v = .slice a 0 cap ∧ ∀ x, a = some x → x.spot = none) ∨ (∃ b o cap, v = .slice (some ⟨b, o, none⟩) l.length cap ∧ b < B ∧ l.length ≤ cap ∧ ∀ j, j < l.length → w.cell? ⟨b, o + j, none⟩ = some (.int .u8 (l.getD j 0)))
theorem SlB.low {w w' : World} {B C : Nat} {v : Value} {l : List Int} (h : SlB w B v l) (hb : Below C w w') (hB : B ≤ C) : SlB w' B v l := by
  rcases h with h | ⟨b, o, cap, rfl, h1, h2, h3⟩
  · exact .inl h
  · exact .inr ⟨b, o, cap, rfl, h1, h2, fun j hj => (hb.cell (p := ⟨b, o + j, none⟩) (Nat.lt_of_lt_of_le h1 hB)).trans (h3 j hj)⟩
/-- The reader in block R: what is left of the bytes, and whether they have run out. -/
def RdS (w : World) (R : Nat) (l : List Int) (sh : Bool) : Prop := ∃ v f, RowF w 36 R 2 f ∧ f 0 = v ∧ f 1 = .bool sh ∧ SlB w R v l
theorem RdS.low {w w' : World} {R C : Nat} {l : List Int} {sh : Bool} (h : RdS w R l sh) (hb : Below C w w') (hB : R < C) : RdS w' R l sh := by
  obtain ⟨v, f, h1, h2, h3, h4⟩ := h
  exact ⟨v, f, h1.low hb hB, h2, h3, h4.low hb (Nat.le_of_lt hB)⟩
theorem getD_take {l : List Int} {n j : Nat} (h : j < n) : (l.take n).getD j 0 = l.getD j 0 := by
  rw [List.getD_eq_getElem?_getD, List.getElem?_take, if_pos h, List.getD_eq_getElem?_getD]
theorem getD_drop {l : List Int} {n j : Nat} : (l.drop n).getD j 0 = l.getD (n + j) 0 := by
  rw [List.getD_eq_getElem?_getD, List.getElem?_drop, List.getD_eq_getElem?_getD]

set_option maxHeartbeats 800000 in
set_option maxRecDepth 100000 in
theorem bytes_any (R n : Nat) (l : List Int) (sh : Bool) (w : World) (hn : n ≤ 9223372036854775807) (hl : l.length ≤ 9223372036854775807) (h : RdS w R l sh) :
    Calls Tryd.prog 12 #[.pointer (some ⟨R, 0, none⟩), .int .i64 n] w fun e w' => ∃ v', e = .returned v' ∧ Keeps w w' (fun b => b = R) ∧
      ((n ≤ l.length ∧ SlB w' R v' (l.take n) ∧ RdS w' R (l.drop n) sh) ∨ (l.length < n ∧ v' = .slice none 0 0 ∧ RdS w' R [] true)) := by
  obtain ⟨v, f, hR, h0, h1, hS⟩ := h
  have c0 := hR.cell (j := 0) (by omega)
  have c1 := hR.cell (j := 1) (by omega)
  have z0 := hR.frz 0
  have z1 := hR.frz 1
  rw [h0] at c0
  rw [h1] at c1
  have HR := hide hR
  have HS := hide hS
  have H0 := hide h0
  have H1 := hide h1
  clear hR hS h0 h1
  by_cases hle : n ≤ l.length
  · rcases HS.out with ⟨rfl, a, cap, rfl, ha⟩ | ⟨b, o, cap, rfl, hb, hcap, hc⟩
    · obtain rfl : n = 0 := by simpa using hle
      have HHR := hide (fun x => HR.out.set (j := 0) (by omega) x)
      have HHK := hide (fun x => (Keeps.refl w (fun b => b = R)).setCell (j := 0) rfl x)
      rcases a with _ | ⟨b, o, sp⟩
      · go_enter Tryd.func12, Tryd.ntmps12
        go_wp2_with fail
        go_ret
        exact ⟨_, rfl, HHK.out _, .inl ⟨Nat.le_refl _, .inl ⟨rfl, _, _, rfl, fun x hx => by cases hx⟩, _, _, HHR.out _, rfl, H1.out, .inl ⟨rfl, _, _, rfl, fun x hx => by cases hx⟩⟩⟩
      · obtain rfl : sp = none := ha _ rfl
        by_cases hc0 : cap = 0
        · subst hc0
          go_enter Tryd.func12, Tryd.ntmps12
          go_wp2_with fail
          go_ret
          exact ⟨_, rfl, HHK.out _, .inl ⟨Nat.le_refl _, .inl ⟨rfl, _, _, rfl, fun x hx => by cases hx; rfl⟩, _, _, HHR.out _, rfl, H1.out, .inl ⟨rfl, _, _, rfl, fun x hx => by cases hx; rfl⟩⟩⟩
        · go_enter Tryd.func12, Tryd.ntmps12
          go_wp2_with fail
          go_ret
          exact ⟨_, rfl, HHK.out _, .inl ⟨Nat.le_refl _, .inl ⟨rfl, _, _, rfl, fun x hx => by cases hx; rfl⟩, _, _, HHR.out _, rfl, H1.out, .inl ⟨rfl, _, _, rfl, fun x hx => by cases hx; rfl⟩⟩⟩
    · have HC := hide hc
      clear hc
      have i1 : (n : Int) ≤ (l.length : Int) := by omega
      have i2 : ¬ ((n : Int) > (l.length : Int)) := by omega
      go_enter Tryd.func12, Tryd.ntmps12
      have HB := fun x => (Below.refl R w).setCell (p := ⟨R, 0, none⟩) (Nat.le_refl _) x
      have HHB := hide HB
      have HHR := hide (fun x => HR.out.set (j := 0) (by omega) x)
      have HHK := hide (fun x => (Keeps.refl w (fun b => b = R)).setCell (j := 0) rfl x)
      have HT := hide (show ∀ x, SlB (w.setCell ⟨R, 0, none⟩ x) R (.slice (some ⟨b, o, none⟩) n cap) (l.take n) from fun x => .inr ⟨b, o, cap, by rw [List.length_take, Nat.min_eq_left hle], hb, by rw [List.length_take]; omega, fun j hj => by
        rw [List.length_take] at hj
        rw [getD_take (by omega)]
        exact ((HHB.out x).cell (p := ⟨b, o + j, none⟩) hb).trans (HC.out j (by omega))⟩)
      clear HB
      by_cases hcn : cap = n
      · subst hcn
        have hln : l.length = cap := by omega
        have hd : l.drop cap = [] := List.drop_eq_nil_of_le (by omega)
        have HD := hide hd
        have HLn := hide hln
        clear hd hln
        go_wp2_with fail
        go_ret
        refine ⟨_, rfl, HHK.out _, .inl ⟨HT.out _, _, _, HHR.out _, rfl, H1.out, ?_⟩⟩
        rw [HD.out]
        exact .inl ⟨rfl, some ⟨b, o, none⟩, 0, rfl, fun x hx => by cases hx; rfl⟩
      · have hcn' : ¬ cap - n = 0 := by omega
        go_wp2_with fail
        go_ret
        refine ⟨_, rfl, HHK.out _, .inl ⟨HT.out _, _, _, HHR.out _, rfl, H1.out, .inr ⟨b, o + n, cap - n, by simp, hb, by simp; omega, fun j hj => ?_⟩⟩⟩
        rw [List.length_drop] at hj
        rw [getD_drop, Nat.add_assoc]
        exact ((HHB.out _).cell (p := ⟨b, o + (n + j), none⟩) hb).trans (HC.out (n + j) (by omega))
  · have i2 : (n : Int) > (l.length : Int) := by omega
    obtain ⟨a, cap, hv⟩ : ∃ a cap, v = .slice a l.length cap := by
      rcases HS.out with ⟨rfl, a, cap, rfl, _⟩ | ⟨b, o, cap, rfl, _⟩
      · exact ⟨_, _, rfl⟩
      · exact ⟨_, _, rfl⟩
    subst hv
    have HW := hide ((HR.out.set (j := 1) (by omega) (.bool true)).set (j := 0) (by omega) (.slice none 0 0))
    have HK := hide (((Keeps.refl w (fun b => b = R)).setCell (j := 1) rfl (.bool true)).setCell (j := 0) rfl (.slice none 0 0))
    go_enter Tryd.func12, Tryd.ntmps12
    go_wp2_with fail
    go_ret
    exact ⟨_, rfl, HK.out, .inr ⟨by omega, rfl, _, _, HW.out, rfl, rfl, .inl ⟨rfl, none, 0, rfl, fun x hx => by cases hx⟩⟩⟩

end Go.Proofs.YtcpeabchaimkaaaDoor
