import Derived.Test.YtemciphihnpniaaDoorPG
import Derived.Test.YtemciphihnpniaaDoorJPL
import Derived.Test.YtemciphihnpniaaDoorPM
namespace Go.Proofs.YtemciphihnpniaaDoor
open Go Go.RowKit
set_option linter.unusedVariables false

set_option maxHeartbeats 8000000 in
set_option maxRecDepth 100000 in
theorem one_any (R : Nat) (p : ByteArray) (at_ : Nat) (vi vo vd : Value) (w : World) (ha : at_ < p.size) (hp : p.size ≤ 200) (h : RdB w R p at_ false vi vo vd) :
    Calls Tryd.prog 45 #[.pointer (some ⟨R, 0, none⟩)] w fun e w' => SetR R p vi vo vd (rdOne p at_) w e w' := by
  obtain ⟨i0, hi, hz0, hz1, hz2⟩ := info_parts Tryd.info4
  have hRl : R < w.heap.size := RowF.lt h
  have HR := hide h
  clear h
  go_enter Tryd.func45, Tryd.ntmps45
  go_wp2_with (first
    | (at_make
       refine wpList_make_full _ rfl _ _ 54 rfl w.heap.size 4 i0 (.bool false) 1 Tryd.underlying54 hi hz0 hz1 _ _ _ _ 256 rfl rfl rfl rfl (by rw [hz2]; omega) (by unfold maxLen; omega) (Nat.le_refl _) ?_
       intro w1 hown hgrow
       have HS0 := hide (show SetF w1 w.heap.size (fun _ => false) from made_row rfl hown)
       have hb1 : Below w.heap.size w w1 := (Below.refl _ _).grown hgrow (Nat.le_refl _) (fun _ h => by cases h)
       have HK0 := hide (Keeps.of hb1 (Nat.le_refl _) (fun b => b = R))
       have HR1 := hide (RdB.keep HR.out (Keeps.of hb1 (Nat.le_refl _) (fun _ => False)) (fun x => x))
       clear hown hgrow hb1))
  obtain ⟨g, hgg⟩ : ∃ g, g = w.heap.size := ⟨_, rfl⟩
  rw [← hgg] at HS0 ⊢
  have hg : w.heap.size ≤ g := by omega
  have hgR : R ≠ g := by omega
  clear hgg HR
  refine (here_in R p at_ 0 false vi vo vd w1 (by omega) (by omega) (by omega) HR1.out (by omega)).mono ?_
  rintro e w2 ⟨rfl, hk2⟩
  rw [Nat.add_zero]
  have HRd := hide (RdB.keep HR1.out hk2 (fun x => x))
  have HSet := hide (SetF.keep HS0.out hk2 (fun x => x))
  have HKw := hide (HK0.out.on hk2 (fun b _ hb => hb.elim))
  clear hk2 HR1 HS0 HK0
  have hcn0 := (hb_rng p at_).1
  have hcn1 := (hb_rng p at_).2
  have c1 : w2.cell? ⟨R, 1, none⟩ = some (.int .i64 at_) := RowF.cell HRd.out (j := 1) (by omega)
  have z1 : w2.frozen? ⟨R, 1, none⟩ = false := RowF.frz HRd.out 1
  by_cases h91 : hb p at_ = 91
  · have HO := hide (show rdOne p at_ = rdSet p at_ by rw [rdOne, if_pos h91])
    go_wp2_with fail
    refine (set_any R p at_ vi vo vd w2 ha hp HRd.out).mono ?_
    rintro e w3 ⟨hk3, g3, rfl, hg3, hr⟩
    have HK3 := hide (HKw.out.trans hk3)
    have hs2 := HKw.out.size
    have HR3 := hide hr
    clear hk3 hr HRd HSet HKw
    go_wp2_with fail
    refine bodyPost_ret (v := .slice (some ⟨g3, 0, none⟩) 256 256) ?_ rfl ⟨HK3.out, g3, rfl, by omega, by rw [HO.out]; exact HR3.out⟩
    simp [results, Tryd.results45, go_sem]
  by_cases h46 : hb p at_ = 46
  · have HO := hide (show rdOne p at_ = some (fun _ => true, at_ + 1) by rw [rdOne, if_neg h91, if_pos h46])
    clear c1 z1
    go_wp2_with fail
    go_loopw [27] (fun iv wr => ∃ i : Nat, i ≤ 256 ∧ iv = .int .i64 i ∧ Hid (RdB wr R p at_ false vi vo vd) ∧ Hid (SetF wr g (fun c => decide (c < i))) ∧ Hid (Keeps w wr (fun b => b = R))) (fun iv _ => 256 - ivN iv)
    case atStart => exact ⟨0, by omega, rfl, HRd, hide (HSet.out.congr fun j hj => by simp), HKw⟩
    case round =>
      clear HRd HSet HKw
      obtain ⟨i, hi1, rfl, HRd, HSet, HKw⟩ := hrel
      by_cases hin : i < 256
      · have d0 := RowF.cell HSet.out (j := i) (by omega)
        have e0 := RowF.frz HSet.out i
        have HSx := hide ((SetF.put HSet.out (j := i) (by omega)).congr (f' := fun c => decide (c < i + 1)) fun j hj => by
          rw [Bool.eq_iff_iff]
          simp
          omega)
        have HRx := hide (RdB.keep HRd.out ((Keeps.refl wr (fun b => b = g)).setCell (g := g) (j := i) rfl (.bool true)) (by omega))
        have HKx := hide (HKw.out.past (g := g) (j := i) hg (.bool true))
        clear HSet HRd HKw
        go_wp2_with fail
        go_roundw
        case rel => exact ⟨i + 1, by omega, by simp, HRx, HSx, HKx⟩
        case measure => show 256 - ivN (.int .i64 _) < 256 - ivN (.int .i64 _); simp [ivN]; omega
      · obtain rfl : i = 256 := by omega
        have c1 : wr.cell? ⟨R, 1, none⟩ = some (.int .i64 at_) := RowF.cell HRd.out (j := 1) (by omega)
        have z1 : wr.frozen? ⟨R, 1, none⟩ = false := RowF.frz HRd.out 1
        have HN := hide (RdB.pos (at' := at_ + 1) HRd.out)
        have HS := hide (SetF.keep HSet.out ((Keeps.refl wr (fun b => b = R)).setCell (g := R) (j := 1) rfl (.int .i64 ((at_ + 1 : Nat) : Int))) (by omega))
        have HK := hide (HKw.out.setCell (S := fun b => b = R) (g := R) (j := 1) rfl (.int .i64 ((at_ + 1 : Nat) : Int)))
        rw [show ((at_ + 1 : Nat) : Int) = (at_ : Int) + 1 by omega] at HN HS HK
        go_wp2_with fail
        refine bodyPost_ret (v := .slice (some ⟨g, 0, none⟩) 256 256) ?_ rfl ⟨HK.out, g, rfl, hg, .inl ⟨fun _ => true, at_ + 1, HO.out, HN.out, HS.out.congr fun j hj => by simp [hj], by omega⟩⟩
        simp [results, Tryd.results45, go_sem]
  by_cases h37 : hb p at_ = 37
  · clear c1 z1
    by_cases hr1 : at_ + 1 < p.size
    · go_wp2_with fail
      refine (here_in R p at_ 1 false vi vo vd w2 (by omega) (by omega) (by omega) HRd.out (by omega)).mono ?_
      rintro e w3 ⟨rfl, hk3⟩
      have HRd := hide (RdB.keep HRd.out hk3 (fun x => x))
      have HSet := hide (SetF.keep HSet.out hk3 (fun x => x))
      have HKw := hide (HKw.out.on hk3 (fun b _ hb => hb.elim))
      clear hk3
      have hdn := hb_rng p (at_ + 1)
      go_wp2_with fail
      refine (escape_any g (fun _ => false) (hb p (at_ + 1)) w3 hdn.1 hdn.2 HSet.out).mono ?_
      rintro e w5 ⟨rfl, hk5, hs5⟩
      have HRd := hide (RdB.keep HRd.out hk5 (by omega))
      have HKw := hide (HKw.out.on hk5 (fun b hb hb2 => by omega))
      clear hk5 HSet
      cases hok : escOk (hb p (at_ + 1)) with
      | true =>
        have HO := hide (show rdOne p at_ = some (fun c : Nat => escIn (hb p (at_ + 1)) (c : Int), at_ + 2) by rw [rdOne, if_neg h91, if_neg h46, if_pos h37, if_pos ⟨hr1, hok⟩])
        have HSet := hide ((hs5 hok).congr (f' := fun c : Nat => escIn (hb p (at_ + 1)) (c : Int)) fun j hj => by simp)
        clear hs5
        have c1 : w5.cell? ⟨R, 1, none⟩ = some (.int .i64 at_) := RowF.cell HRd.out (j := 1) (by omega)
        have z1 : w5.frozen? ⟨R, 1, none⟩ = false := RowF.frz HRd.out 1
        have HN1 := hide (RdB.pos (at' := at_ + 1) HRd.out)
        have HN := hide (RdB.pos (at' := at_ + 2) HN1.out)
        have HS := hide (SetF.keep HSet.out (((Keeps.refl w5 (fun b => b = R)).setCell (g := R) (j := 1) rfl (.int .i64 ((at_ + 1 : Nat) : Int))).setCell (g := R) (j := 1) rfl (.int .i64 ((at_ + 2 : Nat) : Int))) (by omega))
        have HK := hide ((HKw.out.setCell (S := fun b => b = R) (g := R) (j := 1) rfl (.int .i64 ((at_ + 1 : Nat) : Int))).setCell (S := fun b => b = R) (g := R) (j := 1) rfl (.int .i64 ((at_ + 2 : Nat) : Int)))
        have c2 : (w5.setCell ⟨R, 1, none⟩ (.int .i64 ((at_ + 1 : Nat) : Int))).cell? ⟨R, 1, none⟩ = some (.int .i64 ((at_ + 1 : Nat) : Int)) := RowF.cell HN1.out (j := 1) (by omega)
        have z2 : (w5.setCell ⟨R, 1, none⟩ (.int .i64 ((at_ + 1 : Nat) : Int))).frozen? ⟨R, 1, none⟩ = false := RowF.frz HN1.out 1
        rw [show ((at_ + 2 : Nat) : Int) = (at_ : Int) + 1 + 1 by omega, show ((at_ + 1 : Nat) : Int) = (at_ : Int) + 1 by omega] at HN HS HK
        rw [show ((at_ + 1 : Nat) : Int) = (at_ : Int) + 1 by omega] at c2 z2
        clear HRd HSet HKw HN1
        go_wp2_with fail
        refine bodyPost_ret (v := .slice (some ⟨g, 0, none⟩) 256 256) ?_ rfl ⟨HK.out, g, rfl, hg, .inl ⟨_, at_ + 2, HO.out, HN.out, HS.out, by omega⟩⟩
        simp [results, Tryd.results45, go_sem]
      | false =>
        have HO := hide (show rdOne p at_ = none by rw [rdOne, if_neg h91, if_neg h46, if_pos h37, if_neg (by rw [hok]; simp)])
        clear hs5
        have b2 : w5.cell? ⟨R, 2, none⟩ = some (.bool false) := RowF.cell HRd.out (j := 2) (by omega)
        have y2 : w5.frozen? ⟨R, 2, none⟩ = false := RowF.frz HRd.out 2
        have HB := hide (RdB.isBad HRd.out)
        have c1 : (w5.setCell ⟨R, 2, none⟩ (.bool true)).cell? ⟨R, 1, none⟩ = some (.int .i64 at_) := RowF.cell HB.out (j := 1) (by omega)
        have z1 : (w5.setCell ⟨R, 2, none⟩ (.bool true)).frozen? ⟨R, 1, none⟩ = false := RowF.frz HB.out 1
        have HN1 := hide (RdB.pos (at' := at_ + 1) HB.out)
        have HN := hide (RdB.pos (at' := at_ + 2) HN1.out)
        have HK := hide (((HKw.out.setCell (S := fun b => b = R) (g := R) (j := 2) rfl (.bool true)).setCell (S := fun b => b = R) (g := R) (j := 1) rfl (.int .i64 ((at_ + 1 : Nat) : Int))).setCell (S := fun b => b = R) (g := R) (j := 1) rfl (.int .i64 ((at_ + 2 : Nat) : Int)))
        have c2 := RowF.cell HN1.out (j := 1) (by omega)
        have z2 := RowF.frz HN1.out 1
        simp only [rcells] at c2
        rw [show ((at_ + 2 : Nat) : Int) = (at_ : Int) + 1 + 1 by omega, show ((at_ + 1 : Nat) : Int) = (at_ : Int) + 1 by omega] at HN HK
        rw [show ((at_ + 1 : Nat) : Int) = (at_ : Int) + 1 by omega] at c2 z2
        clear HRd HKw HN1 HB
        go_wp2_with fail
        refine bodyPost_ret (v := .slice (some ⟨g, 0, none⟩) 256 256) ?_ rfl ⟨HK.out, g, rfl, hg, .inr ⟨HO.out, at_ + 2, by omega, HN.out⟩⟩
        simp [results, Tryd.results45, go_sem]
    · have HO := hide (show rdOne p at_ = none by rw [rdOne, if_neg h91, if_neg h46, if_pos h37, if_neg (by omega)])
      go_wp2_with fail
      refine (here_out R p at_ 1 false vi vo vd w2 (by omega) (by omega) (by omega) HRd.out (by omega)).mono ?_
      rintro e w5 ⟨rfl, hk3⟩
      have HRd := hide (RdB.keep HRd.out hk3 (fun x => x))
      have HKw := hide (HKw.out.on hk3 (fun b _ hb => hb.elim))
      clear hk3 HSet
      have b2 : w5.cell? ⟨R, 2, none⟩ = some (.bool false) := RowF.cell HRd.out (j := 2) (by omega)
      have y2 : w5.frozen? ⟨R, 2, none⟩ = false := RowF.frz HRd.out 2
      have HB := hide (RdB.isBad HRd.out)
      have c1 : (w5.setCell ⟨R, 2, none⟩ (.bool true)).cell? ⟨R, 1, none⟩ = some (.int .i64 at_) := RowF.cell HB.out (j := 1) (by omega)
      have z1 : (w5.setCell ⟨R, 2, none⟩ (.bool true)).frozen? ⟨R, 1, none⟩ = false := RowF.frz HB.out 1
      have HN1 := hide (RdB.pos (at' := at_ + 1) HB.out)
      have HN := hide (RdB.pos (at' := at_ + 2) HN1.out)
      have HK := hide (((HKw.out.setCell (S := fun b => b = R) (g := R) (j := 2) rfl (.bool true)).setCell (S := fun b => b = R) (g := R) (j := 1) rfl (.int .i64 ((at_ + 1 : Nat) : Int))).setCell (S := fun b => b = R) (g := R) (j := 1) rfl (.int .i64 ((at_ + 2 : Nat) : Int)))
      have c2 := RowF.cell HN1.out (j := 1) (by omega)
      have z2 := RowF.frz HN1.out 1
      simp only [rcells] at c2
      rw [show ((at_ + 2 : Nat) : Int) = (at_ : Int) + 1 + 1 by omega, show ((at_ + 1 : Nat) : Int) = (at_ : Int) + 1 by omega] at HN HK
      rw [show ((at_ + 1 : Nat) : Int) = (at_ : Int) + 1 by omega] at c2 z2
      clear HRd HKw HN1 HB
      go_wp2_with fail
      refine bodyPost_ret (v := .slice (some ⟨g, 0, none⟩) 256 256) ?_ rfl ⟨HK.out, g, rfl, hg, .inr ⟨HO.out, at_ + 2, by omega, HN.out⟩⟩
      simp [results, Tryd.results45, go_sem]
  · have HO := hide (show rdOne p at_ = some (fun c : Nat => decide ((c : Int) = hb p at_), at_ + 1) by rw [rdOne, if_neg h91, if_neg h46, if_neg h37])
    have d0 : w2.cell? ⟨g, (hb p at_).toNat, none⟩ = some (.bool false) := RowF.cell HSet.out (j := (hb p at_).toNat) (by omega)
    have e0 : w2.frozen? ⟨g, (hb p at_).toNat, none⟩ = false := RowF.frz HSet.out (hb p at_).toNat
    have HSet := hide ((SetF.put HSet.out (j := (hb p at_).toNat) (by omega)).congr (f' := fun c : Nat => decide ((c : Int) = hb p at_)) fun j hj => by rw [show decide ((j : Int) = hb p at_) = decide (j = (hb p at_).toNat) from decide_eq_decide.2 (by omega)]; simp)
    have HRd := hide (RdB.keep HRd.out ((Keeps.refl w2 (fun b => b = g)).setCell (g := g) (j := (hb p at_).toNat) rfl (.bool true)) (by omega))
    have HKw := hide (HKw.out.past (g := g) (j := (hb p at_).toNat) hg (.bool true))
    have c2 : (w2.setCell ⟨g, (hb p at_).toNat, none⟩ (.bool true)).cell? ⟨R, 1, none⟩ = some (.int .i64 at_) := RowF.cell HRd.out (j := 1) (by omega)
    have z2 : (w2.setCell ⟨g, (hb p at_).toNat, none⟩ (.bool true)).frozen? ⟨R, 1, none⟩ = false := RowF.frz HRd.out 1
    have HN := hide (RdB.pos (at' := at_ + 1) HRd.out)
    have HS := hide (SetF.keep HSet.out ((Keeps.refl (w2.setCell ⟨g, (hb p at_).toNat, none⟩ (.bool true)) (fun b => b = R)).setCell (g := R) (j := 1) rfl (.int .i64 ((at_ + 1 : Nat) : Int))) (by omega))
    have HK := hide (HKw.out.setCell (S := fun b => b = R) (g := R) (j := 1) rfl (.int .i64 ((at_ + 1 : Nat) : Int)))
    rw [show ((at_ + 1 : Nat) : Int) = (at_ : Int) + 1 by omega] at HN HS HK
    clear c1 z1 HRd HSet HKw
    go_wp2_with fail
    refine bodyPost_ret (v := .slice (some ⟨g, 0, none⟩) 256 256) ?_ rfl ⟨HK.out, g, rfl, hg, .inl ⟨_, at_ + 1, HO.out, HN.out, HS.out, by omega⟩⟩
    simp [results, Tryd.results45, go_sem]

end Go.Proofs.YtemciphihnpniaaDoor
namespace Go.Proofs.YtemciphihnpniaaDoor
open Go Go.RowKit
set_option linter.unusedVariables false

/-- Where the list lies behind an append: where it lay, or past all that was. -/
theorem append_where {P : Program} (w : World) (base : Nat) (t ty e : TypeId) (i : TypeInfo) (z : Value) (size bytes : Nat) (ht : P.underlying t = some (.slice e)) (hi : P.info? e = some i) (hz : i.zero = some z)
    (hsize : i.size = size) (hby : i.bytes = bytes) (hzs : z.cells.size = size) (hsz : 0 < size)
    (v : Value) (n : Nat) (xs : List Value) (hown : w.ownsRow base e size v n xs)
    (a : Addr) (m c : Nat) (news : List Value) (hl : news.length = m * size) (hnews : ∀ j u, news[j]? = some u → w.cell? (a.add j) = some u) (h1 : ∀ u ∈ news, u.oneCell' = true)
    (h63 : n + m ≤ maxLen) (hbytes : (n + m) * bytes ≤ 140737488355328) (hm : 0 < m) {v' : Value} {w' : World} (hr : (Builtin.append_ #[t, t] ty #[v, .slice (some a) m c]).run P w = .ok v' w') :
    ∀ g, v'.ownBlock = some g → v.ownBlock = some g ∨ w.heap.size ≤ g := by
  subst hsize
  subst hby
  have hsmall : n + m ≤ 9223372036854775807 := by simp only [maxLen] at h63; omega
  intro g hg
  rcases hown.2 with ⟨rfl, rfl⟩ | ⟨g', cap, cur, rfl, hbg, hgg, hnc, hcm, hcs, htake⟩
  · have hr2 := run_append_nil (P := P) w t ty e i z ht hi hz a m c news hl hnews (by omega) (by omega) (by have hb := hbytes; simp only [Nat.zero_add] at hb; omega)
    rw [hr2] at hr
    simp only [Result.ok.injEq] at hr
    obtain ⟨rfl, -⟩ := hr
    right
    simp [Value.ownBlock] at hg
    omega
  · by_cases hroom : n + m ≤ cap
    · have hfit : n * i.size + news.length ≤ cur.size := by rw [hl, hcs, ← Nat.add_mul]; exact Nat.mul_le_mul_right _ hroom
      have hr2 := run_append_room (P := P) w t ty e i ht hi g' n cap cur hgg a m c news hl hnews h1 hroom hfit
      rw [hr2] at hr
      simp only [Result.ok.injEq] at hr
      obtain ⟨rfl, -⟩ := hr
      left
      simpa [Value.ownBlock] using hg
    · have holds : ∀ j u, xs[j]? = some u → w.cell? ((⟨g', 0, none⟩ : Addr).add j) = some u := hown.cells (g := g') rfl
      have hr2 := run_append_grow (P := P) w t ty e i z ht hi hz ⟨g', 0, none⟩ n cap xs hown.1 holds a m c news hl hnews (by omega) (by omega) (growslice_fits (by omega) hbytes)
      rw [hr2] at hr
      simp only [Result.ok.injEq] at hr
      obtain ⟨rfl, -⟩ := hr
      right
      simp [Value.ownBlock] at hg
      omega
theorem wpList_append_at {P : Program} (w : World) {ops : Array Oper} {rest : List Oper} {o : Oper} {a : Act} {Q : Exit → Act → World → Prop} (hgd : o.guard = none) (s x : Operand) (t : TypeId)
    (ho : o.op = .call { callee := .builtin .append, args := #[s, x], argTypes := #[t, t] })
    (base : Nat) (e : TypeId) (i : TypeInfo) (z : Value) (size bytes : Nat) (ht : P.underlying t = some (.slice e)) (hi : P.info? e = some i) (hz : i.zero = some z)
    (hsize : i.size = size) (hby : i.bytes = bytes) (hzs : z.cells.size = size) (hsz : 0 < size)
    (v : Value) (n : Nat) (xs : List Value) (hs : a.eval s = v) (hown : w.ownsRow base e size v n xs)
    (ad : Addr) (m c : Nat) (news : List Value) (hx : a.eval x = .slice (some ad) m c) (hl : news.length = m * size) (hnews : ∀ j u, news[j]? = some u → w.cell? (ad.add j) = some u) (h1 : ∀ u ∈ news, u.oneCell' = true)
    (h63 : n + m ≤ maxLen) (hbytes : (n + m) * bytes ≤ 140737488355328) (hbase : base ≤ w.heap.size) (hm : 0 < m)
    (h : ∀ v' w', w'.ownsRow base e size v' (n + m) (xs ++ news) → w.grownBy w' v.ownBlock → (∀ g, v'.ownBlock = some g → v.ownBlock = some g ∨ w.heap.size ≤ g) → wpList P ops Q rest (a.put o.dst v') w') : wpList P ops Q (o :: rest) a w :=
  wpList_plain hgd fun _ hK => by
    obtain ⟨v', w', hr, h2, h3, h4⟩ := run_append_own (P := P) w base t o.type e i z size bytes ht hi hz hsize hby hzs hsz v n xs hown ad m c news hl hnews h1 h63 hbytes hbase
    have h5 := append_where w base t o.type e i z size bytes ht hi hz hsize hby hzs hsz v n xs hown ad m c news hl hnews h1 h63 hbytes hm hr
    unfold Oper.wp execOp
    simp only [ho, resolve, invoke, builtin, Sem.run_bind, Sem.run_pure, Result.andThen_ok, List.map_toArray, List.map_cons, List.map_nil, hs, hx, hr]
    exact hK _ _ (h v' w' h2 h3 h5)
/-- 's = append(s, x)' of one more, and where it lies then. -/
theorem app_at {wr : World} {ops : Array Oper} {rest : List Oper} {o : Oper} {a : Act} {Q : Exit → Act → World → Prop} (hgd : o.guard = none) (s x : Operand) (TS T size bytes : Nat) (z : Value)
    (ho : o.op = .call { callee := .builtin .append, args := #[s, x], argTypes := #[TS, TS] }) (hU : Tryd.prog.underlying TS = some (.slice T)) (hI : (Tryd.prog.info? T).map (fun i => (i.zero, i.size, i.bytes)) = some (some z, size, bytes)) (hz : z.cells.size = size) (hsz : 0 < size)
    (base : Nat) (v : Value) (n : Nat) (xs cs : List Value) (hown : wr.ownsRow base T size v n xs) (hs : a.eval s = v) (hx : a.eval x = .slice (some ⟨wr.heap.size, 0, none⟩) 1 1) (hcs : cs.length = size) (h1 : ∀ u ∈ cs, u.oneCell' = true)
    (hlen : (n + 1) * bytes ≤ 140737488355328) (hb0 : 0 < bytes) (hbase : base ≤ wr.heap.size)
    (h : ∀ v' w', w'.ownsRow base T size v' (n + 1) (xs ++ cs) → (∀ B w0, Below B w0 wr → B ≤ base → Below B w0 w') → (∀ gx, gx < wr.heap.size → v.ownBlock ≠ some gx → w'.heap[gx]? = wr.heap[gx]?) → (∀ gx, gx < wr.heap.size → v.ownBlock ≠ some gx → v'.ownBlock ≠ some gx) → wpList Tryd.prog ops Q rest (a.put o.dst v') w') :
    wpList Tryd.prog ops Q (o :: rest) a (wr.alloc (.cells cs.toArray T)) := by
  obtain ⟨i0, hi, hz0, hz1, hz2⟩ := info_parts hI
  have hn : n + 1 ≤ 140737488355328 := Nat.le_trans (Nat.le_mul_of_pos_right _ hb0) hlen
  refine wpList_append_at _ hgd s x TS ho base T i0 z size bytes hU hi hz0 hz1 hz2 hz hsz v n xs hs (hown.alloc _) ⟨wr.heap.size, 0, none⟩ 1 1 cs hx (by omega)
    (fun j u hj => ?_) h1 (by unfold maxLen; omega) hlen (by simp; omega) (by omega) ?_
  · rw [add_none', Nat.zero_add]
    obtain ⟨hl, rfl⟩ := List.getElem?_eq_some_iff.1 hj
    have := (RowF.mk' wr T cs.toArray).cell (j := j) (by simpa using hl)
    rw [this]
    simp [hl]
  · intro v' w' h1 h2 h3
    refine h v' w' h1 (fun B w0 hb hB => (hb.alloc (by omega) _).grown h2 (by simp; omega) (fun q hq => ?_))
      (fun gx hgx hne => (h2.block gx (by simp; omega) (fun e => hne e.symm)).trans ((b_1 wr _).block gx hgx)) (fun gx hgx hne e => ?_)
    · have := (hown.lt q hq).1
      omega
    · rcases h3 gx e with x | x
      · exact hne x
      · simp at x; omega

end Go.Proofs.YtemciphihnpniaaDoor
namespace Go.Proofs.YtemciphihnpniaaDoor
open Go Go.RowKit
set_option linter.unusedVariables false

def opC (l : List Nat) : List Value := l.map fun n : Nat => .int .i64 (n : Int)
def boC (l : List Bool) : List Value := l.map fun b => .bool b
/-- A pattern that the document's reader is reading, in block R. -/
structure QR (w : World) (R : Nat) (p : ByteArray) (pos : Nat) (us : List (It × Value)) (opn : List Nat) (done : List Bool) (vi vo vd : Value) : Prop where
  b : RdB w R p pos false vi vo vd
  i : w.ownsRow (R + 1) 83 6 vi us.length (itsC us)
  n : w.ownsRow (R + 1) 3 1 vo opn.length (opC opn)
  d : w.ownsRow (R + 1) 4 1 vd done.length (boC done)
  s : ∀ u ∈ us, SetV w u
  a : ∀ u ∈ us, ∀ g, u.2.ownBlock = some g → R < g ∧ vd.ownBlock ≠ some g
theorem owns_blt {w : World} {B e s n g : Nat} {v : Value} {xs : List Value} (h : w.ownsRow B e s v n xs) (hv : v.ownBlock = some g) : B ≤ g ∧ g < w.heap.size := by
  obtain ⟨h1, ⟨rfl, h2⟩ | ⟨g', cap, cur, rfl, hb, hg, _⟩⟩ := h
  · simp [Value.ownBlock] at hv
  · have e : g' = g := by simpa [Value.ownBlock] using hv
    subst e
    refine ⟨hb, ?_⟩
    rcases Nat.lt_or_ge g' w.heap.size with c | c
    · exact c
    · rw [Array.getElem?_eq_none c] at hg; cases hg
theorem owns_rowF {w : World} {B T s n g : Nat} {v : Value} {xs : List Value} (h : w.ownsRow B T s v n xs) (hv : v.ownBlock = some g) : ∃ f, RowF w T g (n * s) f := by
  obtain ⟨f, hf⟩ := SlF.of h
  exact ⟨f, hf.own hv⟩
theorem owns_apart {w : World} {B T s n B' T' s' n' g : Nat} {v v' : Value} {xs xs' : List Value} (h : w.ownsRow B T s v n xs) (h' : w.ownsRow B' T' s' v' n' xs') (hT : T ≠ T') (hv : v.ownBlock = some g) : v'.ownBlock ≠ some g := by
  intro hv'
  obtain ⟨f, hf⟩ := owns_rowF h hv
  obtain ⟨f', hf'⟩ := owns_rowF h' hv'
  exact hf.apart hf' hT rfl
section
variable {w w' : World} {R : Nat} {p : ByteArray} {pos : Nat} {us : List (It × Value)} {opn : List Nat} {done : List Bool} {vi vo vd : Value}
theorem QR.keep (h : QR w R p pos us opn done vi vo vd) (k : Keeps w w' (fun _ => False)) : QR w' R p pos us opn done vi vo vd :=
  ⟨h.b.keep k (fun x => x), owns_keep h.i k (fun _ x => x.elim), owns_keep h.n k (fun _ x => x.elim), owns_keep h.d k (fun _ x => x.elim), fun u hu => (h.s u hu).keep k (fun _ _ x => x), h.a⟩
theorem QR.setR (h : QR w R p pos us opn done vi vo vd) (k : Keeps w w' (fun b => b = R)) {pos' : Nat} (hb : RdB w' R p pos' false vi vo vd) : QR w' R p pos' us opn done vi vo vd :=
  ⟨hb, owns_keep h.i k (by omega), owns_keep h.n k (by omega), owns_keep h.d k (by omega), fun u hu => (h.s u hu).keep k (fun g hg x => by
    subst x
    exact RowF.apart hg h.b (by decide) rfl), h.a⟩
theorem QR.posn (h : QR w R p pos us opn done vi vo vd) (q : Nat) : QR (w.setCell ⟨R, 1, none⟩ (.int .i64 q)) R p q us opn done vi vo vd :=
  h.setR ((Keeps.refl w (fun b => b = R)).setCell (S := fun b => b = R) (j := 1) rfl _) h.b.pos
/-- A store into a block past all, of another list. -/
theorem QR.past {X j : Nat} {x : Value} (h : QR w R p pos us opn done vi vo vd) (hX : w.heap.size ≤ X) : QR (w.setCell ⟨X, j, none⟩ x) R p pos us opn done vi vo vd := by
  refine h.keep ?_
  have e : Below X w (w.setCell ⟨X, j, none⟩ x) := (Below.refl X w).setCell (Nat.le_refl _) x
  exact ⟨e.os, e.tape, e.output, e.size, fun b hb _ => e.block b (by omega)⟩
theorem QR.app_i {w5 : World} {v' : Value} (h : QR w R p pos us opn done vi vo vd) (u : It × Value) (hu : SetV w u) (hua : ∀ g, u.2.ownBlock = some g → R < g ∧ vd.ownBlock ≠ some g)
    (h1 : w5.ownsRow (R + 1) 83 6 v' (us.length + 1) (itsC us ++ itC u)) (h2 : ∀ B w0, Below B w0 w → B ≤ R + 1 → Below B w0 w5) (h3 : ∀ gx, gx < w.heap.size → vi.ownBlock ≠ some gx → w5.heap[gx]? = w.heap[gx]?) :
    QR (w5.setCell ⟨R, 3, none⟩ v') R p pos (us ++ [u]) opn done v' vo vd := by
  have hb : Below (R + 1) w w5 := h2 _ _ (Below.refl _ _) (Nat.le_refl _)
  have k5 : Keeps w w5 (fun b => vi.ownBlock = some b) := ⟨hb.os, hb.tape, hb.output, hb.size, h3⟩
  have k : Keeps w5 (w5.setCell ⟨R, 3, none⟩ v') (fun b => b = R) := (Keeps.refl w5 (fun b => b = R)).setCell (S := fun b => b = R) (j := 3) rfl v'
  have hb5 : RdB w5 R p pos false vi vo vd := RowF.low h.b hb (by omega)
  have hs : ∀ u9, SetV w u9 → SetV (w5.setCell ⟨R, 3, none⟩ v') u9 := fun u9 h9 => (h9.keep k5 (fun g hg x => by
      obtain ⟨f, hf⟩ := owns_rowF h.i x
      exact RowF.apart hg hf (by decide) rfl)).keep k (fun g hg x => by
      subst x
      exact RowF.apart hg hb5 (by decide) rfl)
  refine ⟨hb5.items, ?_, owns_keep (owns_stay h.n (fun g hg => h3 g (owns_blt h.n hg).2 (owns_apart h.n h.i (by decide) hg))) k (by omega), owns_keep (owns_stay h.d (fun g hg => h3 g (owns_blt h.d hg).2 (owns_apart h.d h.i (by decide) hg))) k (by omega), ?_, ?_⟩
  · rw [List.length_append, List.length_singleton, show itsC (us ++ [u]) = itsC us ++ itC u by simp [itsC]]
    exact owns_keep h1 k (by omega)
  · intro u9 h9
    rcases List.mem_append.1 h9 with h9 | h9
    · exact hs u9 (h.s u9 h9)
    · rw [List.mem_singleton.1 h9]; exact hs u hu
  · intro u9 h9
    rcases List.mem_append.1 h9 with h9 | h9
    · exact h.a u9 h9
    · rw [List.mem_singleton.1 h9]; exact hua
theorem QR.app_n {w5 : World} {v' : Value} (h : QR w R p pos us opn done vi vo vd) (x : Nat)
    (h1 : w5.ownsRow (R + 1) 3 1 v' (opn.length + 1) (opC opn ++ [.int .i64 x])) (h2 : ∀ B w0, Below B w0 w → B ≤ R + 1 → Below B w0 w5) (h3 : ∀ gx, gx < w.heap.size → vo.ownBlock ≠ some gx → w5.heap[gx]? = w.heap[gx]?) :
    QR (w5.setCell ⟨R, 4, none⟩ v') R p pos us (opn ++ [x]) done vi v' vd := by
  have hb : Below (R + 1) w w5 := h2 _ _ (Below.refl _ _) (Nat.le_refl _)
  have k5 : Keeps w w5 (fun b => vo.ownBlock = some b) := ⟨hb.os, hb.tape, hb.output, hb.size, h3⟩
  have k : Keeps w5 (w5.setCell ⟨R, 4, none⟩ v') (fun b => b = R) := (Keeps.refl w5 (fun b => b = R)).setCell (S := fun b => b = R) (j := 4) rfl v'
  have hb5 : RdB w5 R p pos false vi vo vd := RowF.low h.b hb (by omega)
  refine ⟨hb5.opn, owns_keep (owns_stay h.i (fun g hg => h3 g (owns_blt h.i hg).2 (owns_apart h.i h.n (by decide) hg))) k (by omega), ?_, owns_keep (owns_stay h.d (fun g hg => h3 g (owns_blt h.d hg).2 (owns_apart h.d h.n (by decide) hg))) k (by omega), fun u hu => ((h.s u hu).keep k5 (fun g hg x => by
      obtain ⟨f, hf⟩ := owns_rowF h.n x
      exact RowF.apart hg hf (by decide) rfl)).keep k (fun g hg x => by
      subst x
      exact RowF.apart hg hb5 (by decide) rfl), h.a⟩
  rw [List.length_append, List.length_singleton, show opC (opn ++ [x]) = opC opn ++ [.int .i64 x] by simp [opC]]
  exact owns_keep h1 k (by omega)
theorem QR.app_d {w5 : World} {v' : Value} (h : QR w R p pos us opn done vi vo vd) (x : Bool)
    (h1 : w5.ownsRow (R + 1) 4 1 v' (done.length + 1) (boC done ++ [.bool x])) (h2 : ∀ B w0, Below B w0 w → B ≤ R + 1 → Below B w0 w5) (h3 : ∀ gx, gx < w.heap.size → vd.ownBlock ≠ some gx → w5.heap[gx]? = w.heap[gx]?)
    (h4 : ∀ gx, gx < w.heap.size → vd.ownBlock ≠ some gx → v'.ownBlock ≠ some gx) :
    QR (w5.setCell ⟨R, 5, none⟩ v') R p pos us opn (done ++ [x]) vi vo v' := by
  have hb : Below (R + 1) w w5 := h2 _ _ (Below.refl _ _) (Nat.le_refl _)
  have k5 : Keeps w w5 (fun b => vd.ownBlock = some b) := ⟨hb.os, hb.tape, hb.output, hb.size, h3⟩
  have k : Keeps w5 (w5.setCell ⟨R, 5, none⟩ v') (fun b => b = R) := (Keeps.refl w5 (fun b => b = R)).setCell (S := fun b => b = R) (j := 5) rfl v'
  have hb5 : RdB w5 R p pos false vi vo vd := RowF.low h.b hb (by omega)
  refine ⟨hb5.don, owns_keep (owns_stay h.i (fun g hg => h3 g (owns_blt h.i hg).2 (owns_apart h.i h.d (by decide) hg))) k (by omega), owns_keep (owns_stay h.n (fun g hg => h3 g (owns_blt h.n hg).2 (owns_apart h.n h.d (by decide) hg))) k (by omega), ?_, fun u hu => ?_, fun u hu g hg => ⟨(h.a u hu g hg).1, ?_⟩⟩
  · rw [List.length_append, List.length_singleton, show boC (done ++ [x]) = boC done ++ [.bool x] by simp [boC]]
    exact owns_keep h1 k (by omega)
  · rcases h.s u hu with h9 | ⟨g, h9, h8⟩
    · exact .inl h9
    · have h7 := (h.a u hu g (by rw [h9]; rfl)).2
      exact .inr ⟨g, h9, (h8.keep k5 (fun x => h7 x)).keep k (fun x => by subst x; exact RowF.apart h8 h.b (by decide) rfl)⟩
  · rcases h.s u hu with ⟨h9, _⟩ | ⟨g', h9, h8⟩
    · rw [h9] at hg; simp [Value.ownBlock] at hg
    · rw [h9] at hg
      have e : g' = g := by simpa [Value.ownBlock] using hg
      subst e
      exact h4 g' (RowF.lt h8) (h.a u hu g' (by rw [h9]; rfl)).2
/-- One more capture is done. -/
theorem QR.set_d {g j : Nat} (h : QR w R p pos us opn done vi vo vd) (hv : vd.ownBlock = some g) (hj : j < done.length) : QR (w.setCell ⟨g, j, none⟩ (.bool true)) R p pos us opn (done.set j true) vi vo vd := by
  have k : Keeps w (w.setCell ⟨g, j, none⟩ (.bool true)) (fun b => b = g) := (Keeps.refl w (fun b => b = g)).setCell (S := fun b => b = g) (j := j) rfl _
  obtain ⟨f, hf⟩ := owns_rowF h.d hv
  have hR := owns_blt h.d hv
  refine ⟨h.b.keep k (by omega), owns_stay h.i (fun b hb => k.block b (owns_blt h.i hb).2 (fun e => owns_apart h.i h.d (by decide) hb (by rw [e]; exact hv))), owns_stay h.n (fun b hb => k.block b (owns_blt h.n hb).2 (fun e => owns_apart h.n h.d (by decide) hb (by rw [e]; exact hv))), ?_, fun u hu => ?_, h.a⟩
  · have hd := h.d
    obtain ⟨h1, ⟨rfl, h2⟩ | ⟨g', cap, cur, rfl, hb, hg, hnc, hcm, hcs, htake⟩⟩ := hd
    · simp [Value.ownBlock] at hv
    · have e : g' = g := by simpa [Value.ownBlock] using hv
      subst e
      refine ⟨by simp [boC], .inr ⟨g', cap, _, by simp, hb, heap_setCell_same w g' j _ _ _ hg, by simpa using hnc, hcm, by simpa using hcs, ?_⟩⟩
      simp only [List.length_set, Nat.mul_one] at htake ⊢
      rw [boC, List.map_set, ← boC, ← htake]
      simp [List.take_set]
  · rcases h.s u hu with h9 | ⟨g', h9, h8⟩
    · exact .inl h9
    · exact .inr ⟨g', h9, h8.keep k (fun e => (h.a u hu g' (by rw [h9]; rfl)).2 (by rw [e]; exact hv))⟩
/-- The last that is open is taken away. -/
theorem QR.cut {a : Option Addr} {cap : Nat} (h : QR w R p pos us opn done vi (.slice a opn.length cap) vd) (hn : opn ≠ []) : QR (w.setCell ⟨R, 4, none⟩ (.slice a (opn.length - 1) cap)) R p pos us opn.dropLast done vi (.slice a (opn.length - 1) cap) vd := by
  have k : Keeps w (w.setCell ⟨R, 4, none⟩ (.slice a (opn.length - 1) cap)) (fun b => b = R) := (Keeps.refl w (fun b => b = R)).setCell (S := fun b => b = R) (j := 4) rfl _
  refine ⟨h.b.opn, owns_keep h.i k (by omega), ?_, owns_keep h.d k (by omega), fun u hu => (h.s u hu).keep k (fun g hg x => by
    subst x
    exact RowF.apart hg h.b (by decide) rfl), h.a⟩
  have hd := owns_keep h.n k (by omega)
  have hl : opn.length ≠ 0 := fun e => hn (List.length_eq_zero_iff.1 e)
  obtain ⟨h1, ⟨h0, h2⟩ | ⟨g', cap', cur, h0, hb, hg, hnc, hcm, hcs, htake⟩⟩ := hd
  · omega
  · simp only [Value.slice.injEq, true_and] at h0
    obtain ⟨rfl, rfl⟩ := h0
    refine ⟨by simp [opC], .inr ⟨g', cap, cur, by simp, hb, hg, by simp; omega, hcm, hcs, ?_⟩⟩
    simp only [List.length_dropLast, Nat.mul_one] at htake ⊢
    have hlen := congrArg List.length htake
    rw [opC, List.map_dropLast, ← opC, ← htake, List.dropLast_eq_take, List.take_take, hlen]
    simp only [opC, List.length_map]
    rw [Nat.min_eq_left (by omega)]
end
/-- What reading an item comes to. -/
def ItR (R : Nat) (p : ByteArray) (pos : Nat) (r : Option Rd) (w : World) (e : Ending) (w' : World) : Prop :=
  e = .returned (.tuple #[]) ∧ Below R w w' ∧ ((∃ rd us vi vo vd, r = some rd ∧ us.map Prod.fst = rd.items ∧ QR w' R p rd.pos us rd.opn rd.done vi vo vd ∧ pos < rd.pos ∧ rd.pos ≤ p.size) ∨ (r = none ∧ ∃ q vi vo vd, q ≤ 100000 ∧ RdB w' R p q true vi vo vd))
theorem Tryd.info83 : (Tryd.prog.info? 83).map (fun i => (i.zero, i.size, i.bytes)) = some (some (.agg #[.int .i64 0, nilS, .int .u8 0, .int .i64 0, .int .u8 0, .int .u8 0]), 6, 56) := by kernel_rfl
theorem one_it (u : It) (a : Option Addr) (n c : Nat) : ∀ v ∈ itC (u, .slice a n c), v.oneCell' = true := by
  intro v hv
  simp only [itC, List.mem_cons, List.not_mem_nil, or_false] at hv
  rcases hv with rfl | rfl | rfl | rfl | rfl | rfl <;> rfl

end Go.Proofs.YtemciphihnpniaaDoor
