import Derived.Test.YtamdnnkdnhkghaaGreatDoorQ05
import Derived.WalkSmall
namespace Go.Proofs.YtamdnnkdnhkghaaGreatDoor
open Go Go.RowKit
set_option linter.unusedVariables false

theorem cmpI_lt {x y : Nat} (h : x < y) : cmpI x y = -1 := by simp [cmpI, h]
theorem cmpI_gt {x y : Nat} (h : y < x) : cmpI x y = 1 := by unfold cmpI; rw [if_neg (by omega), if_pos h]
theorem cmpI_eq {x y : Nat} (h : x = y) : cmpI x y = 0 := by subst h; simp [cmpI]

set_option maxHeartbeats 800000 in
set_option maxRecDepth 100000 in
theorem cmp_any (x y : Nat) (va vb : Value) (w : World) (ha : Big w va (dig x)) (hb : Big w vb (dig y)) (hl : (dig x).length ≤ 100000000) (hl2 : (dig y).length ≤ 100000000) :
    Calls Tryz.prog 131 #[va, vb] w fun e w' => e = .returned (.int .i64 (cmpI x y)) ∧ Below w.heap.size w w' := by
  obtain ⟨g, cap, rfl, h2, h3, h4, h5⟩ := ha
  obtain ⟨g', cap', rfl, h2', h3', h4', h5'⟩ := hb
  unfold maxLen at h3 h3'
  have Hx := hide (div_of_dig x)
  have Hy := hide (div_of_dig y)
  have Hxy := hide (@lt_of_dig_length x y)
  have Hyx := hide (@lt_of_dig_length y x)
  generalize (dig x).length = len at *
  generalize (dig y).length = len' at *
  by_cases hne : len = len'
  · subst hne
    clear Hxy Hyx
    go_enter Tryz.func131, Tryz.ntmps131
    go_wp2
    go_loopw [5] (fun i wr => ∃ j : Nat, j ≤ len ∧ i = .int .i64 ((j : Int) - 1) ∧ Hid (x / 10000 ^ j = y / 10000 ^ j) ∧ Below w.heap.size w wr) (fun i _ => (intOf i + 1).toNat)
    case atStart => exact ⟨len, Nat.le_refl _, rfl, hide (by rw [Hx.out, Hy.out]), Below.refl _ _⟩
    case round =>
      obtain ⟨j, hj, rfl, he, hbe⟩ := hrel
      cases j with
      | zero =>
        go_wp2
        go_ret
        exact ⟨ret_int (cmpI_eq (by simpa using he.out)).symm, hbe⟩
      | succ k =>
        have hcx : wr.cell? ⟨g, k, none⟩ = some (.int .i64 ((dig x).getD k 0)) := (hbe.cell (by exact h4)).trans (h5 k (by omega))
        have hcy : wr.cell? ⟨g', k, none⟩ = some (.int .i64 ((dig y).getD k 0)) := (hbe.cell (by exact h4')).trans (h5' k (by omega))
        rw [dig_getD] at hcx hcy
        have K1 := hide (@cmp_lt x y k he.out)
        have K2 := hide (@cmp_lt y x k he.out.symm)
        have K3 := hide (@cmp_eq x y k he.out)
        generalize x / 10000 ^ k % 10000 = dx at *
        generalize y / 10000 ^ k % 10000 = dy at *
        clear he
        rcases Nat.lt_trichotomy dx dy with h | h | h
        · have hn1 : ((dx : Int) != dy) = true := by rw [bne_iff_ne]; omega
          go_wp2
          go_quiet (fail)
          go_wp2
          go_quiet (fail)
          go_wp2
          go_ret
          exact ⟨ret_int (cmpI_lt (K1.out h)).symm, below_drewN (below_drewN hbe _) _⟩
        · have hn1 : ((dx : Int) != dy) = false := by subst h; simp
          go_wp2
          go_quiet (fail)
          go_wp2
          go_roundw
          case rel => exact ⟨k, by omega, rfl, hide (K3.out h), below_drewN hbe _⟩
          case measure => simp [intOf]
        · have hn1 : ((dx : Int) != dy) = true := by rw [bne_iff_ne]; omega
          go_wp2
          go_quiet (fail)
          go_wp2
          go_quiet (fail)
          go_wp2
          go_ret
          exact ⟨ret_int (cmpI_gt (K2.out h)).symm, below_drewN (below_drewN hbe _) _⟩
  · go_enter Tryz.func131, Tryz.ntmps131
    have hn1 : ((len : Int) != len') = true := by rw [bne_iff_ne]; omega
    by_cases hlt : len < len'
    · go_wp2
      go_ret
      exact ⟨ret_int (cmpI_lt (Hxy.out hlt)).symm, Below.refl _ _⟩
    · go_wp2
      go_ret
      exact ⟨ret_int (cmpI_gt (Hyx.out (by omega))).symm, Below.refl _ _⟩

theorem news_one (wr : World) (u0 : Value) : ∀ j u, [u0][j]? = some u → (wr.alloc (.cells #[u0] 3)).cell? ((⟨wr.heap.size, 0, none⟩ : Addr).add j) = some u := by
  intro j u hj
  match j, hj with
  | 0, hj => simp at hj; subst hj; simp [Addr.add]

/-- The slice v is the call's own (blocks from base on), not nil, and holds the numbers L. -/
def OwnI (w : World) (base : Nat) (v : Value) (L : List Int) : Prop := w.ownsRow base 3 1 v L.length (L.map (Value.int .i64)) ∧ v ≠ .slice none 0 0

theorem OwnI.big {w : World} {base : Nat} {v : Value} {L : List Int} (h : OwnI w base v L) : Big w v L := big_of_owns h.1 h.2

theorem ownI_empty (w : World) : OwnI (w.alloc (.cells #[] 3)) w.heap.size (.slice (some ⟨w.heap.size, 0, none⟩) 0 0) [] :=
  ⟨World.ownsRow_made w #[] 0 (Nat.le_refl _) (by simp [maxLen]) rfl, fun h => by cases h⟩

/-- 'out = append(out, z)' on a slice of ints that is the call's own. -/
theorem app_int {wr : World} {ops : Array Oper} {rest : List Oper} {o : Oper} {a : Act} {Q : Exit → Act → World → Prop} (hgd : o.guard = none) (s x : Operand)
    (ho : o.op = .call { callee := .builtin .append, args := #[s, x], argTypes := #[121, 121] }) (base : Nat) (v : Value) (L : List Int) (z : Int) (hown : OwnI wr base v L) (hs : a.eval s = v) (hx : a.eval x = .slice (some ⟨wr.heap.size, 0, none⟩) 1 1)
    (hlen : L.length ≤ 10000000000) (hbase : base ≤ wr.heap.size)
    (h : ∀ v' w', OwnI w' base v' (L ++ [z]) → (∀ B w0, Below B w0 wr → B ≤ base → Below B w0 w') → wpList Tryz.prog ops Q rest (a.put o.dst v') w') :
    wpList Tryz.prog ops Q (o :: rest) a (wr.alloc (.cells #[.int .i64 z] 3)) := by
  obtain ⟨i0, hi, hz0, hz1, hz2⟩ := info_parts Tryz.info3
  refine wpList_append_own _ hgd s x 121 ho base 3 i0 (.int .i64 0) 1 8 Tryz.underlying121 hi hz0 hz1 hz2 rfl (by decide) v L.length (L.map (Value.int .i64)) hs (hown.1.alloc _) ⟨wr.heap.size, 0, none⟩ 1 1 [.int .i64 z] hx rfl (news_one _ _)
    (fun u hu => by simp at hu; subst hu; rfl) (by unfold maxLen; omega) (by omega) (by simp; omega) ?_
  intro v' w' h1 h2 h3
  refine h v' w' ⟨by simpa using h1, fun hh => hown.2 (h3.1 hh).1⟩ (fun B w0 hb hB => (hb.alloc (by omega) _).grown h2 (by simp; omega) (fun q hq => ?_))
  have := (hown.1.lt q hq).1
  omega

set_option maxHeartbeats 1600000 in
set_option maxRecDepth 100000 in
theorem minus_any (x y : Nat) (va vb : Value) (w : World) (ha : Big w va (dig x)) (hb : Big w vb (dig y)) (hl : (dig x).length ≤ 100000000) (hyx : y ≤ x) :
    Calls Tryz.prog 132 #[va, vb] w fun e w' => ∃ v', e = .returned v' ∧ Big w' v' (dig (x - y)) ∧ Below w.heap.size w w' := by
  obtain ⟨g, cap, rfl, h2, h3, h4, h5⟩ := ha
  obtain ⟨g', cap', rfl, h2', h3', h4', h5'⟩ := hb
  unfold maxLen at h3 h3'
  have hll := dig_length_mono hyx
  have Hx := hide (mod_all x)
  have Hy := hide (div_of_dig y)
  have Hy2 := hide (Nat.lt_of_le_of_lt hyx (dig_lt x))
  have Hyx := hide hyx
  clear hyx
  generalize (dig x).length = len at *
  generalize hlen : (dig y).length = len' at *
  have Hlen := hide hlen
  clear hlen
  go_enter Tryz.func132, Tryz.ntmps132
  go_wp2
  go_loopw [5, 6, 12] (fun o c i wr => ∃ (k bo : Nat) (L : List Int), k ≤ len ∧ i = .int .i64 k ∧ c = .int .i64 bo ∧ bo ≤ 1 ∧ L.length = k ∧ OwnI wr w.heap.size o L ∧
      OkD L ∧ nval L + y % 10000 ^ k = x % 10000 ^ k + 10000 ^ k * bo ∧ Below w.heap.size w wr) (fun _ _ i _ => len - (intOf i).toNat)
  case atStart =>
    refine ⟨0, 0, [], Nat.zero_le _, rfl, rfl, by omega, rfl, ownI_empty w, ?_, ?_, (Below.refl _ _).alloc (Nat.le_refl _) _⟩
    · intro d hd; cases hd
    · simp [nval, Nat.mod_one]
  case round =>
    obtain ⟨k, bo, L, hk, rfl, rfl, hbo, hLk, hown, hok, hval, hb⟩ := hrel
    have hbs := hb.size
    by_cases hlt : k < len
    · have hcx : wr.cell? ⟨g, k, none⟩ = some (.int .i64 ((dig x).getD k 0)) := (hb.cell (by exact h4)).trans (h5 k (by omega))
      have hcy : k < len' → wr.cell? ⟨g', k, none⟩ = some (.int .i64 ((dig y).getD k 0)) := fun hk' => (hb.cell (by exact h4')).trans (h5' k hk')
      rw [dig_getD] at hcx hcy
      have hyz : len' ≤ k → y / 10000 ^ k % 10000 = 0 := fun hh => by
        have : y / 10000 ^ k = 0 := Nat.div_eq_of_lt (Nat.lt_of_lt_of_le (dig_lt y) (by rw [Hlen.out]; exact Nat.pow_le_pow_right (by omega) hh))
        omega
      have S := fun d bo' => @minus_step x y k bo _ _ d bo' L hLk rfl rfl hval
      have hdx : x / 10000 ^ k % 10000 < 10000 := by omega
      have hdy : y / 10000 ^ k % 10000 < 10000 := by omega
      generalize x / 10000 ^ k % 10000 = dx at *
      generalize y / 10000 ^ k % 10000 = dy at *
      have HS := hide S
      have HLk := hide hLk
      have Hyz := hide hyz
      clear hval hLk S hyz h5 h5'
      obtain ⟨d, bo', hdd, hd1, hbo', hsg⟩ : ∃ d bo' : Nat, (d : Int) + dy + bo = dx + 10000 * bo' ∧ d < 10000 ∧ bo' ≤ 1 ∧ (bo' = 1 ↔ (dx : Int) - bo - dy < 0) := by
        by_cases hneg : (dx : Int) - bo - dy < 0
        · exact ⟨dx + 10000 - bo - dy, 1, by omega, by omega, by omega, by omega⟩
        · exact ⟨dx - bo - dy, 0, by omega, by omega, by omega, by omega⟩
      have Hdd := hide hdd
      have Hsg := hide hsg
      clear hdd hsg
      by_cases hin : k < len'
      · have hcy' := hcy hin
        by_cases hneg : (dx : Int) - bo - dy < 0
        · go_wp2_with (first
            | (at_builtin; (refine app_int rfl _ _ rfl w.heap.size _ L ((dx : Int) - bo - dy + 10000) hown rfl rfl (by have := HLk.out; omega) hbs ?_; intro v' w1 hown' hgrow))
            | go_in)
          have hde : (dx : Int) - bo - dy + 10000 = ((d : Nat) : Int) ∧ bo' = 1 := by have := Hdd.out; have := Hsg.out; omega
          have R : OwnI w1 w.heap.size v' (L ++ [(d : Int)]) ∧ Below w.heap.size w w1 := ⟨by rw [hde.1] at hown'; exact hown', hgrow _ _ hb (Nat.le_refl _)⟩
          have T := hide (HS.out d bo' (by have := Hdd.out; omega))
          have Hbo := hide hde.2
          clear hown' hgrow hown hde
          go_wp2
          go_roundw
          case rel => exact ⟨k + 1, bo', L ++ [(d : Int)], by omega, by go_num, by rw [Hbo.out]; rfl, hbo', by have := HLk.out; simp; omega, R.1, okD_snoc hok (by omega) (by omega), T.out, R.2⟩
          case measure => simp [intOf]; omega
        · go_wp2_with (first
            | (at_builtin; refine app_int rfl _ _ rfl w.heap.size _ L ((dx : Int) - bo - dy) hown rfl rfl (by have := HLk.out; omega) hbs ?_; intro v' w1 hown' hgrow)
            | go_in)
          have hde : (dx : Int) - bo - dy = ((d : Nat) : Int) ∧ bo' = 0 := by have := Hdd.out; have := Hsg.out; omega
          have R : OwnI w1 w.heap.size v' (L ++ [(d : Int)]) ∧ Below w.heap.size w w1 := ⟨by rw [hde.1] at hown'; exact hown', hgrow _ _ hb (Nat.le_refl _)⟩
          have T := hide (HS.out d bo' (by have := Hdd.out; omega))
          have Hbo := hide hde.2
          clear hown' hgrow hown hde
          go_wp2
          go_roundw
          case rel => exact ⟨k + 1, bo', L ++ [(d : Int)], by omega, by go_num, by rw [Hbo.out]; rfl, hbo', by have := HLk.out; simp; omega, R.1, okD_snoc hok (by omega) (by omega), T.out, R.2⟩
          case measure => simp [intOf]; omega
      · have hdy0 := Hyz.out (by omega)
        subst hdy0
        by_cases hneg : (dx : Int) - bo < 0
        · go_wp2_with (first
            | (at_builtin; refine app_int rfl _ _ rfl w.heap.size _ L ((dx : Int) - bo + 10000) hown rfl rfl (by have := HLk.out; omega) hbs ?_; intro v' w1 hown' hgrow)
            | go_in)
          have hde : (dx : Int) - bo + 10000 = ((d : Nat) : Int) ∧ bo' = 1 := by have := Hdd.out; have := Hsg.out; omega
          have R : OwnI w1 w.heap.size v' (L ++ [(d : Int)]) ∧ Below w.heap.size w w1 := ⟨by rw [hde.1] at hown'; exact hown', hgrow _ _ hb (Nat.le_refl _)⟩
          have T := hide (HS.out d bo' (by have := Hdd.out; omega))
          have Hbo := hide hde.2
          clear hown' hgrow hown hde
          go_wp2
          go_roundw
          case rel => exact ⟨k + 1, bo', L ++ [(d : Int)], by omega, by go_num, by rw [Hbo.out]; rfl, hbo', by have := HLk.out; simp; omega, R.1, okD_snoc hok (by omega) (by omega), T.out, R.2⟩
          case measure => simp [intOf]; omega
        · go_wp2_with (first
            | (at_builtin; refine app_int rfl _ _ rfl w.heap.size _ L ((dx : Int) - bo) hown rfl rfl (by have := HLk.out; omega) hbs ?_; intro v' w1 hown' hgrow)
            | go_in)
          have hde : (dx : Int) - bo = ((d : Nat) : Int) ∧ bo' = 0 := by have := Hdd.out; have := Hsg.out; omega
          have R : OwnI w1 w.heap.size v' (L ++ [(d : Int)]) ∧ Below w.heap.size w w1 := ⟨by rw [hde.1] at hown'; exact hown', hgrow _ _ hb (Nat.le_refl _)⟩
          have T := hide (HS.out d bo' (by have := Hdd.out; omega))
          have Hbo := hide hde.2
          clear hown' hgrow hown hde
          go_wp2
          go_roundw
          case rel => exact ⟨k + 1, bo', L ++ [(d : Int)], by omega, by go_num, by rw [Hbo.out]; rfl, hbo', by have := HLk.out; simp; omega, R.1, okD_snoc hok (by omega) (by omega), T.out, R.2⟩
          case measure => simp [intOf]; omega
    · have hkl : k = len := by omega
      subst hkl
      have hv : nval L = x - y ∧ bo = 0 := by
        rw [Hx.out, Nat.mod_eq_of_lt Hy2.out] at hval
        have h1 := nval_lt hok
        rw [hLk] at h1
        have h2 := Hyx.out
        have h3 := Hy2.out
        by_cases hb0 : bo = 0
        · subst hb0; simp at hval; omega
        · have : bo = 1 := by omega
          subst this; omega
      have Hv := hide hv.1
      have hbig := hown.big
      clear hv hval
      go_wp2_with (go_at_call 172; refine (trim_any L _ _ hbig (by omega) hok).mono ?_; rintro e w' ⟨v', rfl, hbig', rfl⟩)
      go_ret
      exact ⟨_, rfl, by rw [← Hv.out]; exact hbig', hb⟩

end Go.Proofs.YtamdnnkdnhkghaaGreatDoor

namespace Go.Proofs.YtamdnnkdnhkghaaGreatDoor
open Go Go.RowKit
set_option linter.unusedVariables false

theorem times_int (n m c0 : Nat) (M C : Int) (hM : M = (m : Int)) (hC : C = (c0 : Int)) (v : Value) (w : World) (h : Big w v (dig n)) (hl : (dig n).length ≤ 100000) (hm : m ≤ 10000) (hc0 : c0 ≤ 100000000) :
    Calls Tryz.prog 158 #[v, .int .i64 M, .int .i64 C] w fun e w' => ∃ v', e = .returned v' ∧ Big w' v' (dig (n * m + c0)) ∧ Below w.heap.size w w' := by
  subst hM; subst hC; exact times_any n m c0 v w h hl hm hc0

theorem dig_length_mul {n m k : Nat} (h : m ≤ 10000 ^ k) : (dig (n * m)).length ≤ (dig n).length + k := by
  refine dig_length_le ?_
  rw [Nat.pow_add]
  have h1 := dig_lt n
  rcases Nat.eq_zero_or_pos m with rfl | hm
  · rw [Nat.mul_zero]; exact Nat.mul_pos (Nat.pow_pos (by omega)) (Nat.pow_pos (by omega))
  · exact Nat.lt_of_lt_of_le (Nat.mul_lt_mul_of_pos_right h1 hm) (Nat.mul_le_mul_left _ h)

theorem dig_length_two (n j : Nat) : (dig (n * 2 ^ j)).length ≤ (dig n).length + j :=
  dig_length_mul (Nat.pow_le_pow_left (by omega) j)

theorem dig_length_ten (n j : Nat) : (dig (n * 10 ^ j)).length ≤ (dig n).length + j :=
  dig_length_mul (Nat.pow_le_pow_left (by omega) j)

set_option maxHeartbeats 800000 in
set_option maxRecDepth 100000 in
theorem two_any (n k : Nat) (v : Value) (w : World) (h : Big w v (dig n)) (hl : (dig n).length + k ≤ 100000) :
    Calls Tryz.prog 129 #[v, .int .i64 k] w fun e w' => ∃ v', e = .returned v' ∧ Big w' v' (dig (n * 2 ^ k)) ∧ Below w.heap.size w w' := by
  have HL := hide (dig_length_two n)
  generalize (dig n).length = len at *
  go_enter Tryz.func129, Tryz.ntmps129
  go_wp2
  go_loopw [0, 1] (fun a i wr => ∃ j r : Nat, j + r ≤ k ∧ k ≤ j + r ∧ i = .int .i64 r ∧ Big wr a (dig (n * 2 ^ j)) ∧ Below w.heap.size w wr) (fun _ i _ => (intOf i).toNat)
  case atStart => exact ⟨0, k, by omega, by omega, rfl, by simpa using h, Below.refl _ _⟩
  case round =>
    obtain ⟨j, r, hj1, hj2, rfl, hbig, hb⟩ := hrel
    have hlj := HL.out j
    by_cases hr : 12 ≤ r
    · go_wp2_with (go_at_call 158; refine (times_int (n * 2 ^ j) 4096 0 _ _ rfl rfl _ _ hbig (by omega) (by omega) (by omega)).mono ?_; rintro e w' ⟨v', rfl, hbig', hb'⟩)
      go_roundw
      case rel => exact ⟨j + 12, r - 12, by omega, by omega, by go_num, by rw [Nat.pow_add, ← Nat.mul_assoc]; simpa using hbig', hb.trans (hb'.mono hb.size)⟩
      case measure => simp [intOf]; omega
    · go_wp2
      go_loopw [0, 1] (fun a i wr => ∃ j r : Nat, j + r ≤ k ∧ k ≤ j + r ∧ i = .int .i64 r ∧ Big wr a (dig (n * 2 ^ j)) ∧ Below w.heap.size w wr) (fun _ i _ => (intOf i).toNat)
      case atStart => exact ⟨j, r, hj1, hj2, rfl, hbig, hb⟩
      case round =>
        clear hbig hb hlj hj1 hj2 hr
        obtain ⟨j, r, hj1, hj2, rfl, hbig, hb⟩ := hrel
        have hlj := HL.out j
        by_cases hr : 0 < r
        · go_wp2_with (go_at_call 158; refine (times_int (n * 2 ^ j) 2 0 _ _ rfl rfl _ _ hbig (by omega) (by omega) (by omega)).mono ?_; rintro e w' ⟨v', rfl, hbig', hb'⟩)
          go_roundw
          case rel => exact ⟨j + 1, r - 1, by omega, by omega, by go_num, by rw [Nat.pow_add, ← Nat.mul_assoc]; simpa using hbig', hb.trans (hb'.mono hb.size)⟩
          case measure => simp [intOf]; omega
        · have hjk : j = k := by omega
          go_wp2
          go_ret
          exact ⟨_, rfl, by rw [← hjk]; exact hbig, hb⟩
end Go.Proofs.YtamdnnkdnhkghaaGreatDoor

namespace Go.Proofs.YtamdnnkdnhkghaaGreatDoor
open Go Go.RowKit
set_option linter.unusedVariables false

theorem dig_mul_10000 {n : Nat} (h : n ≠ 0) : dig (n * 10000) = 0 :: dig n := by
  rw [dig_pos (by omega)]
  have e1 : n * 10000 % 10000 = 0 := by omega
  have e2 : n * 10000 / 10000 = n := by omega
  rw [e1, e2]; rfl

theorem big_cells {w : World} {g : Nat} {l : List Int} (h5 : ∀ j, j < l.length → w.cell? ⟨g, j, none⟩ = some (.int .i64 (l.getD j 0))) (o : Obj) (hg : g < w.heap.size) :
    ∀ j u, (l.map (Value.int .i64))[j]? = some u → (w.alloc o).cell? ((⟨g, 0, none⟩ : Addr).add j) = some u := by
  intro j u hj
  rw [List.getElem?_map] at hj
  cases hx : l[j]? with
  | none => rw [hx] at hj; simp at hj
  | some x =>
    rw [hx] at hj
    simp at hj
    subst hj
    obtain ⟨hlt, hxx⟩ := List.getElem?_eq_some_iff.1 hx
    have := h5 j hlt
    rw [getD_lt hlt, hxx] at this
    rw [← this]
    have hb : Below w.heap.size w (w.alloc o) := (Below.refl _ _).alloc (Nat.le_refl _) o
    rw [← hb.cell (p := ⟨g, j, none⟩) hg]
    simp only [Addr.add]
    by_cases e : j = 0
    · subst e; simp
    · simp [e]

/-- 'append([]int{0}, a...)'. -/
theorem app_zero {wr : World} {ops : Array Oper} {rest : List Oper} {o : Oper} {a : Act} {Q : Exit → Act → World → Prop} (hgd : o.guard = none) (s x : Operand)
    (ho : o.op = .call { callee := .builtin .append, args := #[s, x], argTypes := #[121, 121] }) (v : Value) (L : List Int) (hbig : Big wr v L) (hx : a.eval x = v) (hs : a.eval s = .slice (some ⟨wr.heap.size, 0, none⟩) 1 1)
    (hlen : L.length ≤ 10000000000)
    (h : ∀ v' w', Big w' v' (0 :: L) → Below wr.heap.size wr w' → wpList Tryz.prog ops Q rest (a.put o.dst v') w') :
    wpList Tryz.prog ops Q (o :: rest) a (wr.alloc (.cells #[.int .i64 0] 3)) := by
  obtain ⟨i0, hi, hz0, hz1, hz2⟩ := info_parts Tryz.info3
  obtain ⟨g, cap, rfl, h2, h3, h4, h5⟩ := hbig
  have hown := World.ownsRow_lit (base := wr.heap.size) (e := 3) (size := 1) wr #[.int .i64 0] 1 (Nat.le_refl _) (by simp [maxLen]) rfl
  refine wpList_append_own _ hgd s x 121 ho wr.heap.size 3 i0 (.int .i64 0) 1 8 Tryz.underlying121 hi hz0 hz1 hz2 rfl (by decide) _ 1 _ hs hown ⟨g, 0, none⟩ L.length cap (L.map (Value.int .i64)) hx (by simp) (big_cells h5 _ h4)
    (ints_oneCell _ _) (by unfold maxLen; omega) (by omega) (by simp) ?_
  intro v' w' h1 h2 h3
  refine h v' w' (big_of_owns (B := wr.heap.size) (L := 0 :: L) ?_ (fun hh => by have := (h3.1 hh).1; cases this)) (((Below.refl _ _).alloc (Nat.le_refl _) _).grown h2 (by simp) (fun q hq => by cases hq; exact Nat.le_refl _))
  have e : (0 :: L).length = 1 + L.length := by simp; omega
  rw [e]; simpa using h1

set_option maxHeartbeats 800000 in
set_option maxRecDepth 100000 in
theorem pow10_any (n k : Nat) (v : Value) (w : World) (h : Big w v (dig n)) (hn : n ≠ 0) (hl : (dig n).length + k ≤ 100000) :
    Calls Tryz.prog 167 #[v, .int .i64 k] w fun e w' => ∃ v', e = .returned v' ∧ Big w' v' (dig (n * 10 ^ k)) ∧ Below w.heap.size w w' := by
  have HL := hide (dig_length_ten n)
  have Hn := hide hn
  clear hn
  generalize (dig n).length = len at *
  go_enter Tryz.func167, Tryz.ntmps167
  go_wp2
  go_loopw [0, 1] (fun a i wr => ∃ j r : Nat, j + r ≤ k ∧ k ≤ j + r ∧ i = .int .i64 r ∧ Big wr a (dig (n * 10 ^ j)) ∧ Below w.heap.size w wr) (fun _ i _ => (intOf i).toNat)
  case atStart => exact ⟨0, k, by omega, by omega, rfl, by simpa using h, Below.refl _ _⟩
  case round =>
    obtain ⟨j, r, hj1, hj2, rfl, hbig, hb⟩ := hrel
    have hlj := HL.out j
    by_cases hr : 4 ≤ r
    · go_wp2_with (first
        | (at_builtin; refine app_zero rfl _ _ rfl _ _ hbig rfl rfl (by omega) ?_; intro v' w1 hbig' hb')
        | go_in)
      have Hz := hide (dig_mul_10000 (n := n * 10 ^ j) (by have := Hn.out; exact Nat.mul_ne_zero this (Nat.pos_iff_ne_zero.1 (Nat.pow_pos (by omega)))))
      go_wp2
      go_roundw
      case rel => exact ⟨j + 4, r - 4, by omega, by omega, by go_num, by rw [Nat.pow_add, ← Nat.mul_assoc]; rw [← Hz.out] at hbig'; exact hbig', hb.trans (hb'.mono hb.size)⟩
      case measure => simp [intOf]; omega
    · go_wp2
      go_loopw [0, 1] (fun a i wr => ∃ j r : Nat, j + r ≤ k ∧ k ≤ j + r ∧ i = .int .i64 r ∧ Big wr a (dig (n * 10 ^ j)) ∧ Below w.heap.size w wr) (fun _ i _ => (intOf i).toNat)
      case atStart => exact ⟨j, r, hj1, hj2, rfl, hbig, hb⟩
      case round =>
        clear hbig hb hlj hj1 hj2 hr
        obtain ⟨j, r, hj1, hj2, rfl, hbig, hb⟩ := hrel
        have hlj := HL.out j
        by_cases hr : 0 < r
        · go_wp2_with (go_at_call 158; refine (times_int (n * 10 ^ j) 10 0 _ _ rfl rfl _ _ hbig (by omega) (by omega) (by omega)).mono ?_; rintro e w' ⟨v', rfl, hbig', hb'⟩)
          go_roundw
          case rel => exact ⟨j + 1, r - 1, by omega, by omega, by go_num, by rw [Nat.pow_add, ← Nat.mul_assoc]; simpa using hbig', hb.trans (hb'.mono hb.size)⟩
          case measure => simp [intOf]; omega
        · have hjk : j = k := by omega
          subst hjk
          go_wp2_with (go_at_call 172; refine (trim_any _ _ _ hbig (by omega) (dig_ok _)).mono ?_; rintro e w' ⟨v', rfl, hbig', rfl⟩)
          go_ret
          exact ⟨_, rfl, by rw [nval_dig] at hbig'; exact hbig', hb⟩
end Go.Proofs.YtamdnnkdnhkghaaGreatDoor
