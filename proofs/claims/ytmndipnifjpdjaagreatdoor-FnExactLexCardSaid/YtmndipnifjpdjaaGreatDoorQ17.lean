import GoSem.PinnedTables
namespace Go.Proofs.YtmndipnifjpdjaaGreatDoor
def lb : Nat → Nat → Nat → Nat → Nat → Nat
  | 0, _, _, _, _ => 0
  | fuel + 1, a, m, l, r =>
    if a = 0 then 18446744073709551616
    else
      let c := (l + a - 1) / a
      if a * c ≤ r then c
      else (l + m * lb fuel (m % a) a (a - r % a) (a - l % a) + a - 1) / a
theorem lb_sound (fuel : Nat) : ∀ (a m l r x : Nat), 0 < l → l ≤ r → r < m → l ≤ a * x % m → a * x % m ≤ r → a < m → a = 0 ∨ lb fuel a m l r ≤ x := by
  induction fuel with
  | zero => intro a m l r x _ _ _ _ _ _; right; exact Nat.zero_le _
  | succ fuel ih =>
    intro a m l r x hl hlr hrm h1 h2 ham
    by_cases ha : a = 0
    · left; exact ha
    · right
      have hapos : 0 < a := Nat.pos_of_ne_zero ha
      unfold lb
      rw [if_neg ha]
      have hdiv := Nat.div_add_mod (a * x) m
      generalize hz : a * x % m = z at *
      generalize hy : a * x / m = y at *
      dsimp only
      split
      · rename_i hc
        refine Nat.le_of_lt_succ ?_
        rw [Nat.div_lt_iff_lt_mul hapos]
        have hle : l ≤ a * x := by omega
        have e : (x + 1) * a = a * x + a := by rw [Nat.succ_mul, Nat.mul_comm]
        show l + a - 1 < (x + 1) * a
        omega
      · rename_i hc
        have hr : r < a * ((l + a - 1) / a) := Nat.lt_of_not_le hc
        have q1 := Nat.div_add_mod (l + a - 1) a
        have q2 := Nat.mod_lt (l + a - 1) hapos
        generalize (l + a - 1) / a = c at *
        generalize (l + a - 1) % a = cm at *
        obtain ⟨t, rfl⟩ : ∃ t, c = t + 1 := ⟨c - 1, by
          rcases Nat.eq_zero_or_pos c with h | h
          · subst h; rw [Nat.mul_zero] at hr; omega
          · omega⟩
        have hat : a * (t + 1) = a * t + a := Nat.mul_succ a t
        rw [hat] at hr q1
        have key : ∀ w, l ≤ w → w ≤ r → w % a = w - a * t := by
          intro w hw1 hw2
          have : w = a * t + (w - a * t) := by omega
          rw [this, Nat.mul_add_mod, Nat.mod_eq_of_lt (by omega)]
          omega
        have hl' := key l (Nat.le_refl _) hlr
        have hr' := key r hlr (Nat.le_refl _)
        have hz' := key z h1 h2
        rw [hl', hr']
        have hmy : m % a * y % a = a - (z - a * t) := by
          rw [Nat.mod_mul_mod]
          have e1 : m * y + (z - a * t) = a * (x - t) := by
            rw [Nat.mul_sub]
            omega
          have hpos : 0 < z - a * t := by omega
          have hltz : z - a * t < a := by omega
          obtain ⟨g, hg⟩ : ∃ g, x - t = g + 1 := ⟨x - t - 1, by
            rcases Nat.eq_zero_or_pos (x - t) with h | h
            · rw [h, Nat.mul_zero] at e1; omega
            · omega⟩
          rw [hg, Nat.mul_succ] at e1
          have e2 : m * y = a * g + (a - (z - a * t)) := by omega
          rw [e2, Nat.mul_add_mod, Nat.mod_eq_of_lt (by omega)]
        have hI := ih (m % a) a (a - (r - a * t)) (a - (l - a * t)) y (by omega) (by omega) (by omega) (by omega) (by omega) (Nat.mod_lt _ hapos)
        rcases hI with h0 | hI
        · rw [h0, Nat.zero_mul, Nat.zero_mod] at hmy; omega
        · refine Nat.le_of_lt_succ ?_
          rw [Nat.div_lt_iff_lt_mul hapos]
          have hml : m * lb fuel (m % a) a (a - (r - a * t)) (a - (l - a * t)) ≤ m * y := Nat.mul_le_mul_left _ hI
          have e : (x + 1) * a = a * x + a := by rw [Nat.succ_mul, Nat.mul_comm]
          show _ < (x + 1) * a
          omega
def lp10 (p : Int) : Int := (p * 108853) / 32768
def pmOf (r : Nat × Nat) : Nat := r.1 * 18446744073709551616 - r.2
def numT (p : Int) : Nat := 10 ^ p.toNat * 2 ^ (127 - lp10 p).toNat
def denT (p : Int) : Nat := 10 ^ (-p).toNat * 2 ^ (lp10 p - 127).toNat
def rowOk (p : Int) (r : Nat × Nat) : Bool :=
  decide (r.1 < 18446744073709551616 ∧ r.2 < 18446744073709551616 ∧ r.2 ≤ r.1 * 18446744073709551616 ∧ numT p ≤ pmOf r * denT p ∧ pmOf r * denT p < numT p + denT p)
def farOk (r : Nat × Nat) : Bool :=
  let off := pmOf r * 9223372036854775808 % 87112285931760246646623899502532662132736
  let l := (174224571863520493293247799005065324265472 - 18446744073709551616 - off) % 87112285931760246646623899502532662132736
  decide (0 < l ∧ l + 36893488147419103232 < 87112285931760246646623899502532662132736 ∧ pmOf r % 87112285931760246646623899502532662132736 ≠ 0 ∧ 9223372036854775808 ≤ lb 300 (pmOf r % 87112285931760246646623899502532662132736) 87112285931760246646623899502532662132736 l (l + 36893488147419103232))
theorem far_of {r : Nat × Nat} (h : farOk r = true) (x : Nat) (h1 : 9223372036854775808 ≤ x) (h2 : x < 18446744073709551616) :
    18446744073709551616 < x * pmOf r % 87112285931760246646623899502532662132736 ∧ x * pmOf r % 87112285931760246646623899502532662132736 < 87112285931760246646623899502532662132736 - 18446744073709551616 := by
  have h' := of_decide_eq_true h
  generalize pmOf r = P at *
  obtain ⟨t, rfl⟩ : ∃ t, x = 9223372036854775808 + t := ⟨x - 9223372036854775808, by omega⟩
  have ht : t < 9223372036854775808 := by omega
  have e : (9223372036854775808 + t) * P % 87112285931760246646623899502532662132736 = (P * 9223372036854775808 % 87112285931760246646623899502532662132736 + P % 87112285931760246646623899502532662132736 * t % 87112285931760246646623899502532662132736) % 87112285931760246646623899502532662132736 := by
    rw [Nat.add_mul, Nat.add_mod, Nat.mul_comm 9223372036854775808 P, Nat.mul_comm t P, Nat.mod_mul_mod]
  rw [e]
  generalize ho : P * 9223372036854775808 % 87112285931760246646623899502532662132736 = off at *
  have hoff : off < 87112285931760246646623899502532662132736 := by rw [← ho]; exact Nat.mod_lt _ (by omega)
  obtain ⟨c1, c2, c3, c4⟩ := h'
  have snd := lb_sound 300 (P % 87112285931760246646623899502532662132736) 87112285931760246646623899502532662132736 ((174224571863520493293247799005065324265472 - 18446744073709551616 - off) % 87112285931760246646623899502532662132736) ((174224571863520493293247799005065324265472 - 18446744073709551616 - off) % 87112285931760246646623899502532662132736 + 36893488147419103232) t c1 (by omega) c2
  generalize hzz : P % 87112285931760246646623899502532662132736 * t % 87112285931760246646623899502532662132736 = z at *
  have hz : z < 87112285931760246646623899502532662132736 := by rw [← hzz]; exact Nat.mod_lt _ (by omega)
  have hl : (174224571863520493293247799005065324265472 - 18446744073709551616 - off) % 87112285931760246646623899502532662132736 = if off ≤ 87112285931760246646623899502532662132736 - 18446744073709551616 then 87112285931760246646623899502532662132736 - 18446744073709551616 - off else 174224571863520493293247799005065324265472 - 18446744073709551616 - off := by
    split <;> omega
  have hPm : P % 87112285931760246646623899502532662132736 < 87112285931760246646623899502532662132736 := Nat.mod_lt _ (by omega)
  generalize lb 300 (P % 87112285931760246646623899502532662132736) 87112285931760246646623899502532662132736 ((174224571863520493293247799005065324265472 - 18446744073709551616 - off) % 87112285931760246646623899502532662132736) ((174224571863520493293247799005065324265472 - 18446744073709551616 - off) % 87112285931760246646623899502532662132736 + 36893488147419103232) = LB at *
  generalize (174224571863520493293247799005065324265472 - 18446744073709551616 - off) % 87112285931760246646623899502532662132736 = l at *
  by_cases hin : l ≤ z ∧ z ≤ l + 36893488147419103232
  · have := snd hin.1 hin.2 hPm
    omega
  · have hr : (off + z) % 87112285931760246646623899502532662132736 = if off + z < 87112285931760246646623899502532662132736 then off + z else off + z - 87112285931760246646623899502532662132736 := by
      split <;> omega
    rw [hr]
    split at hl <;> split <;> omega
def allRows : Bool := (List.range 696).all fun i => rowOk ((i : Int) - 348) (Go.Pinned.pow10Rows.getD i (0, 0))
def farRows : Bool := (List.range 696).all fun i => (decide (318 ≤ i) && decide (i ≤ 375)) || decide (i < 3) || decide (658 < i) || farOk (Go.Pinned.pow10Rows.getD i (0, 0))
set_option maxRecDepth 100000 in
theorem allRows_ok : allRows = true := by decide +kernel
set_option maxRecDepth 100000 in
theorem farRows_ok : farRows = true := by decide +kernel
end Go.Proofs.YtmndipnifjpdjaaGreatDoor
