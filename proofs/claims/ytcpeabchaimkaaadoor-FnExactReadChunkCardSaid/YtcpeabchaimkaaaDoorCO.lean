import Derived.Test.YtcpeabchaimkaaaDoorJCN
namespace Go.Proofs.YtcpeabchaimkaaaDoor
open Go Go.RowKit
set_option linter.unusedVariables false

/-- The next n bytes, none if there aren't as many; and what is behind them. -/
def rdT (n : Nat) (l : List Int) : List Int := if n ≤ l.length then l.take n else []
def rdD (n : Nat) (l : List Int) : List Int := if n ≤ l.length then l.drop n else []
def rdS (n : Nat) (l : List Int) (sh : Bool) : Bool := if n ≤ l.length then sh else true
theorem rdT_len {n : Nat} {l : List Int} : (rdT n l).length ≤ n := by
  unfold rdT
  split
  · rw [List.length_take]; omega
  · simp
theorem BytesL.rdT {n : Nat} {l : List Int} (h : BytesL l) : BytesL (rdT n l) := by
  unfold Proofs.YtcpeabchaimkaaaDoor.rdT
  split
  · exact fun x hx => h x (List.mem_of_mem_take hx)
  · intro x hx; cases hx
theorem BytesL.rdD {n : Nat} {l : List Int} (h : BytesL l) : BytesL (rdD n l) := by
  unfold Proofs.YtcpeabchaimkaaaDoor.rdD
  split
  · exact fun x hx => h x (List.mem_of_mem_drop hx)
  · intro x hx; cases hx
theorem leV_lt {l : List Int} (h : BytesL l) : 0 ≤ leV l ∧ leV l < 256 ^ l.length := by
  induction l with
  | nil => simp [leV]
  | cons b l ih =>
    obtain ⟨h1, h2⟩ := ih (fun x hx => h x (List.mem_cons_of_mem _ hx))
    obtain ⟨h3, h4⟩ := h b List.mem_cons_self
    rw [leV, List.length_cons, Int.pow_succ]
    omega
theorem leV_small {l : List Int} (h : BytesL l) (hl : l.length ≤ 7) : 0 ≤ leV l ∧ leV l < 72057594037927936 := by
  obtain ⟨h1, h2⟩ := leV_lt h
  refine ⟨h1, ?_⟩
  have hx : l.length = 0 ∨ l.length = 1 ∨ l.length = 2 ∨ l.length = 3 ∨ l.length = 4 ∨ l.length = 5 ∨ l.length = 6 ∨ l.length = 7 := by omega
  rcases hx with e | e | e | e | e | e | e | e <;> rw [e] at h2 <;> exact Int.lt_of_lt_of_le h2 (by decide)
theorem leV_drop {t : List Int} {m : Nat} (h : m < t.length) : leV (t.drop m) = t.getD m 0 + 256 * leV (t.drop (m + 1)) := by
  rw [List.drop_eq_getElem_cons h, leV, List.getD_eq_getElem?_getD, List.getElem?_eq_getElem h]
  rfl
/-- What bytes say as a number; with sign, four of them as a two's complement. -/
def numV (sg : Bool) (t : List Int) : Int := if sg = true ∧ t.length = 4 ∧ 2147483648 ≤ leV t then leV t - 4294967296 else wrap64 (leV t)
theorem SlB.form {w : World} {B : Nat} {v : Value} {l : List Int} (h : SlB w B v l) : ∃ a cap, v = .slice a l.length cap := by
  rcases h with ⟨rfl, a, cap, rfl, _⟩ | ⟨b, o, cap, rfl, _⟩
  · exact ⟨_, _, rfl⟩
  · exact ⟨_, _, rfl⟩

set_option maxHeartbeats 800000 in
set_option maxRecDepth 100000 in
theorem number_any (R n : Nat) (sg : Bool) (l : List Int) (sh : Bool) (w : World) (hn : n ≤ 8) (hl : l.length ≤ 9223372036854775807) (hB : BytesL l) (h : RdS w R l sh) :
    Calls Tryd.prog 13 #[.pointer (some ⟨R, 0, none⟩), .int .i64 n, .bool sg] w fun e w' => e = .returned (.int .i64 (numV sg (rdT n l))) ∧ Keeps w w' (fun b => b = R) ∧ RdS w' R (rdD n l) (rdS n l sh) := by
  have HB := hide (hB.rdT (n := n))
  have HN := hide h
  clear hB h
  go_enter Tryd.func13, Tryd.ntmps13
  go_wp2_with fail
  refine (bytes_any R n l sh w (by omega) hl HN.out).mono ?_
  rintro e w1 ⟨v, rfl, hk, hc⟩
  have hall : SlB w1 R v (rdT n l) ∧ RdS w1 R (rdD n l) (rdS n l sh) := by
    unfold rdT rdD rdS
    rcases hc with ⟨h1, h2, h3⟩ | ⟨h1, rfl, h3⟩
    · rw [if_pos h1, if_pos h1, if_pos h1]; exact ⟨h2, h3⟩
    · rw [if_neg (by omega), if_neg (by omega), if_neg (by omega)]; exact ⟨.inl ⟨rfl, none, 0, rfl, fun x hx => by cases hx⟩, h3⟩
  have hlt := rdT_len (n := n) (l := l)
  have HK := hide hk
  have HS := hide hall.1
  have HD := hide hall.2
  clear hk hc hall
  generalize hte : rdT n l = t at *
  have HTE := hide hte
  clear hte
  obtain ⟨a, cap, rfl⟩ := HS.out.form
  go_wp2_with fail
  go_loopw [7, 9] (fun uv kv wr => ∃ m : Nat, m ≤ t.length ∧ kv = .int .i64 ((m : Int) - 1) ∧ uv = .int .u64 (leV (t.drop m)) ∧ wr = w1) (fun _ kv _ => match kv with | .int _ x => (x + 1).toNat | _ => 0)
  case atStart => exact ⟨t.length, Nat.le_refl _, rfl, by simp [leV], rfl⟩
  case round =>
    obtain ⟨m, hm, rfl, rfl, rfl⟩ := hrel
    by_cases hm0 : m = 0
    · subst hm0
      have hv : leV (t.drop 0) = leV t := by simp
      rw [hv]
      clear hv
      cases sg
      · have HV := hide (show numV false (rdT n l) = wrap64 (leV t) by rw [HTE.out]; simp [numV])
        generalize leV t = u at *
        go_wp2_with fail
        go_ret
        exact ⟨by rw [HV.out]; rfl, HK.out, HD.out⟩
      · by_cases h4 : t.length = 4
        · have hsm := leV_small HB.out (by omega)
          have h44 : ((t.length : Int) == 4) = true := by rw [h4]; rfl
          have HT4 := hide h4
          clear h4
          by_cases h5 : 2147483648 ≤ leV t
          · have HV := hide (show numV true (rdT n l) = leV t - 4294967296 by rw [HTE.out, numV, if_pos ⟨rfl, HT4.out, h5⟩])
            generalize leV t = u at *
            obtain ⟨s1, s2⟩ := hsm
            go_wp2_with fail
            go_ret
            exact ⟨by rw [HV.out]; rfl, HK.out, HD.out⟩
          · have HV := hide (show numV true (rdT n l) = leV t by rw [HTE.out, numV, if_neg (fun h => h5 h.2.2)]; unfold wrap64; omega)
            generalize leV t = u at *
            obtain ⟨s1, s2⟩ := hsm
            go_wp2_with fail
            go_ret
            exact ⟨by rw [HV.out]; rfl, HK.out, HD.out⟩
        · have h44 : ((t.length : Int) == 4) = false := by simp; omega
          have HV := hide (show numV true (rdT n l) = wrap64 (leV t) by rw [HTE.out, numV, if_neg (fun h => h4 h.2.1)])
          generalize leV t = u at *
          go_wp2_with fail
          go_ret
          exact ⟨by rw [HV.out]; rfl, HK.out, HD.out⟩
    · obtain ⟨m, rfl⟩ : ∃ k, m = k + 1 := ⟨m - 1, by omega⟩
      rcases HS.out with ⟨rfl, _⟩ | ⟨b, o, cap', e, hb, hcap, hc⟩
      · simp at hm
      · cases e
        have c0 := hc m (by omega)
        have hd := leV_drop (t := t) (m := m) (by omega)
        have hsm := leV_small (l := t.drop (m + 1)) (fun x hx => HB.out x (List.mem_of_mem_drop hx)) (by rw [List.length_drop]; omega)
        have hby := HB.out (t.getD m 0) (by rw [List.getD_eq_getElem?_getD, List.getElem?_eq_getElem (show m < t.length by omega)]; exact List.getElem_mem _)
        have HDm := hide hd
        clear hd hc
        generalize leV (t.drop (m + 1)) = u at *
        generalize t.getD m 0 = y at *
        obtain ⟨s1, s2⟩ := hsm
        obtain ⟨y1, y2⟩ := hby
        go_wp2_with fail
        exact ⟨⟨m, by omega, rfl, by rw [HDm.out]; exact congrArg _ (by omega), trivial⟩, by show ((m : Int) - 1 + 1).toNat < (((m + 1 : Nat) : Int) - 1 + 1).toNat; omega⟩

end Go.Proofs.YtcpeabchaimkaaaDoor
