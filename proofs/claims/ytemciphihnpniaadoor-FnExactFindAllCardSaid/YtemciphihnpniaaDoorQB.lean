import Derived.Test.YtemciphihnpniaaDoorJQA
namespace Go.Proofs.YtemciphihnpniaaDoor
open Go Go.RowKit Go.Shelf
set_option linter.unusedVariables false

/-- What must be right about an item behind others. -/
structure PreOk (pl : Nat → Bool) (pre : List It) (it : It) : Prop where
  wf : wfAt 16 pre it
  shut : it.kind = 3 → ∀ j ∈ pre, j.kind = 1 ∨ j.kind = 3 → j.n ≠ it.n
  back : it.kind = 4 → (pl it.n = true ∧ ∃ j ∈ pre, j.kind = 1 ∧ j.n = it.n) ∨ (pl it.n = false ∧ (∃ j ∈ pre, j.kind = 2 ∧ j.n = it.n) ∧ ∃ j ∈ pre, j.kind = 3 ∧ j.n = it.n)
/-- The value of an item as the program has it: its function, what that holds, and what lies in memory. S: no box of it lies there. -/
def ItV (w : World) (S : Nat) (it : It) (fi : Nat) (ci : Array Value) : Prop :=
  (∃ C : Nat, it.kind = 0 ∧ it.sign = 0 ∧ ClF w C it.set ∧ C ≠ S ∧ fi = 90 ∧ ci = #[.pointer (some ⟨C, 0, none⟩)]) ∨
  (∃ C : Nat, it.kind = 0 ∧ it.sign = 63 ∧ ClF w C it.set ∧ C ≠ S ∧ fi = 89 ∧ ci = #[.pointer (some ⟨C, 0, none⟩)]) ∨
  (∃ C : Nat, it.kind = 0 ∧ it.sign = 45 ∧ ClF w C it.set ∧ C ≠ S ∧ fi = 88 ∧ ci = #[.pointer (some ⟨C, 0, none⟩)]) ∨
  (∃ C L least : Nat, it.kind = 0 ∧ (it.sign = 42 ∨ it.sign = 43) ∧ ClF w C it.set ∧ C ≠ S ∧ w.cell? ⟨L, 0, none⟩ = some (.int .i64 least) ∧ L ≠ S ∧ (least = if it.sign = 43 then 1 else 0) ∧ fi = 86 ∧ ci = #[.pointer (some ⟨C, 0, none⟩), .pointer (some ⟨L, 0, none⟩)]) ∨
  (∃ B : Nat, it.kind = 1 ∧ w.cell? ⟨B, 0, none⟩ = some (.int .i64 it.n) ∧ B ≠ S ∧ fi = 61 ∧ ci = #[.pointer (some ⟨B, 0, none⟩)]) ∨
  (∃ B : Nat, it.kind = 2 ∧ w.cell? ⟨B, 0, none⟩ = some (.int .i64 it.n) ∧ B ≠ S ∧ fi = 62 ∧ ci = #[.pointer (some ⟨B, 0, none⟩)]) ∨
  (∃ B : Nat, it.kind = 3 ∧ w.cell? ⟨B, 0, none⟩ = some (.int .i64 it.n) ∧ B ≠ S ∧ fi = 76 ∧ ci = #[.pointer (some ⟨B, 0, none⟩)]) ∨
  (∃ B : Nat, it.kind = 4 ∧ w.cell? ⟨B, 0, none⟩ = some (.int .i64 it.n) ∧ B ≠ S ∧ fi = 77 ∧ ci = #[.pointer (some ⟨B, 0, none⟩)]) ∨
  (∃ A B : Nat, it.kind = 5 ∧ w.cell? ⟨A, 0, none⟩ = some (.int .u8 it.x) ∧ w.cell? ⟨B, 0, none⟩ = some (.int .u8 it.y) ∧ A ≠ S ∧ B ≠ S ∧ fi = 79 ∧ ci = #[.pointer (some ⟨A, 0, none⟩), .pointer (some ⟨B, 0, none⟩)]) ∨
  (∃ C : Nat, it.kind = 6 ∧ ClF w C it.set ∧ C ≠ S ∧ fi = 83 ∧ ci = #[.pointer (some ⟨C, 0, none⟩)]) ∨
  (it.kind = 7 ∧ fi = 48 ∧ ci = #[])
theorem ItV.single {w : World} {S : Nat} {it : It} (C : Nat) (hk : it.kind = 0) (hs : it.sign = 0) (h : ClF w C it.set) (hC : C ≠ S) : ItV w S it 90 #[.pointer (some ⟨C, 0, none⟩)] := .inl ⟨C, hk, hs, h, hC, rfl, rfl⟩
theorem ItV.opt {w : World} {S : Nat} {it : It} (C : Nat) (hk : it.kind = 0) (hs : it.sign = 63) (h : ClF w C it.set) (hC : C ≠ S) : ItV w S it 89 #[.pointer (some ⟨C, 0, none⟩)] := .inr (.inl ⟨C, hk, hs, h, hC, rfl, rfl⟩)
theorem ItV.short {w : World} {S : Nat} {it : It} (C : Nat) (hk : it.kind = 0) (hs : it.sign = 45) (h : ClF w C it.set) (hC : C ≠ S) : ItV w S it 88 #[.pointer (some ⟨C, 0, none⟩)] := .inr (.inr (.inl ⟨C, hk, hs, h, hC, rfl, rfl⟩))
theorem ItV.long {w : World} {S : Nat} {it : It} (C L least : Nat) (hk : it.kind = 0) (hs : it.sign = 42 ∨ it.sign = 43) (h : ClF w C it.set) (hC : C ≠ S) (hl : w.cell? ⟨L, 0, none⟩ = some (.int .i64 least)) (hL : L ≠ S) (hle : least = if it.sign = 43 then 1 else 0) : ItV w S it 86 #[.pointer (some ⟨C, 0, none⟩), .pointer (some ⟨L, 0, none⟩)] := .inr (.inr (.inr (.inl ⟨C, L, least, hk, hs, h, hC, hl, hL, hle, rfl, rfl⟩)))
theorem ItV.place {w : World} {S : Nat} {it : It} (B : Nat) (hk : it.kind = 1) (h : w.cell? ⟨B, 0, none⟩ = some (.int .i64 it.n)) (hB : B ≠ S) : ItV w S it 61 #[.pointer (some ⟨B, 0, none⟩)] := .inr (.inr (.inr (.inr (.inl ⟨B, hk, h, hB, rfl, rfl⟩))))
theorem ItV.opn {w : World} {S : Nat} {it : It} (B : Nat) (hk : it.kind = 2) (h : w.cell? ⟨B, 0, none⟩ = some (.int .i64 it.n)) (hB : B ≠ S) : ItV w S it 62 #[.pointer (some ⟨B, 0, none⟩)] := .inr (.inr (.inr (.inr (.inr (.inl ⟨B, hk, h, hB, rfl, rfl⟩)))))
theorem ItV.shut {w : World} {S : Nat} {it : It} (B : Nat) (hk : it.kind = 3) (h : w.cell? ⟨B, 0, none⟩ = some (.int .i64 it.n)) (hB : B ≠ S) : ItV w S it 76 #[.pointer (some ⟨B, 0, none⟩)] := .inr (.inr (.inr (.inr (.inr (.inr (.inl ⟨B, hk, h, hB, rfl, rfl⟩))))))
theorem ItV.back {w : World} {S : Nat} {it : It} (B : Nat) (hk : it.kind = 4) (h : w.cell? ⟨B, 0, none⟩ = some (.int .i64 it.n)) (hB : B ≠ S) : ItV w S it 77 #[.pointer (some ⟨B, 0, none⟩)] := .inr (.inr (.inr (.inr (.inr (.inr (.inr (.inl ⟨B, hk, h, hB, rfl, rfl⟩)))))))
theorem ItV.pair {w : World} {S : Nat} {it : It} (A B : Nat) (hk : it.kind = 5) (h : w.cell? ⟨A, 0, none⟩ = some (.int .u8 it.x)) (h' : w.cell? ⟨B, 0, none⟩ = some (.int .u8 it.y)) (hA : A ≠ S) (hB : B ≠ S) : ItV w S it 79 #[.pointer (some ⟨A, 0, none⟩), .pointer (some ⟨B, 0, none⟩)] := .inr (.inr (.inr (.inr (.inr (.inr (.inr (.inr (.inl ⟨A, B, hk, h, h', hA, hB, rfl, rfl⟩))))))))
theorem ItV.edge {w : World} {S : Nat} {it : It} (C : Nat) (hk : it.kind = 6) (h : ClF w C it.set) (hC : C ≠ S) : ItV w S it 83 #[.pointer (some ⟨C, 0, none⟩)] := .inr (.inr (.inr (.inr (.inr (.inr (.inr (.inr (.inr (.inl ⟨C, hk, h, hC, rfl, rfl⟩)))))))))
theorem ItV.fin {w : World} {S : Nat} {it : It} (hk : it.kind = 7) : ItV w S it 48 #[] := .inr (.inr (.inr (.inr (.inr (.inr (.inr (.inr (.inr (.inr (⟨hk, rfl, rfl⟩))))))))))
theorem ItV.keep {w w' : World} {S fi : Nat} {it : It} {ci : Array Value} (h : ItV w S it fi ci) (k : Keeps w w' (fun b => b = S)) : ItV w' S it fi ci := by
  rcases h with ⟨C, hk, hs, h, hC, rfl, rfl⟩ | ⟨C, hk, hs, h, hC, rfl, rfl⟩ | ⟨C, hk, hs, h, hC, rfl, rfl⟩ | ⟨C, L, least, hk, hs, h, hC, hl, hL, hle, rfl, rfl⟩ | ⟨B, hk, h, hB, rfl, rfl⟩ | ⟨B, hk, h, hB, rfl, rfl⟩ | ⟨B, hk, h, hB, rfl, rfl⟩ | ⟨B, hk, h, hB, rfl, rfl⟩ | ⟨A, B, hk, h, h', hA, hB, rfl, rfl⟩ | ⟨C, hk, h, hC, rfl, rfl⟩ | ⟨hk, rfl, rfl⟩
  · exact .single C hk hs (RowF.keep h k hC) hC
  · exact .opt C hk hs (RowF.keep h k hC) hC
  · exact .short C hk hs (RowF.keep h k hC) hC
  · exact .long C L least hk hs (RowF.keep h k hC) hC (cell_keep k hL hl) hL hle
  · exact .place B hk (cell_keep k hB h) hB
  · exact .opn B hk (cell_keep k hB h) hB
  · exact .shut B hk (cell_keep k hB h) hB
  · exact .back B hk (cell_keep k hB h) hB
  · exact .pair A B hk (cell_keep k hA h) (cell_keep k hB h') hA hB
  · exact .edge C hk (RowF.keep h k hC) hC
  · exact .fin hk
theorem itM_0 {s : ByteArray} {pl : Nat → Bool} {it : It} {nx : Nx} {at_ : Nat} {σ : Ms} (h : it.kind = 0) : itM s pl it nx at_ σ = oneM s it nx at_ σ := by rw [itM, if_pos h]
theorem itM_12 {s : ByteArray} {pl : Nat → Bool} {it : It} {nx : Nx} {at_ : Nat} {σ : Ms} (h : it.kind = 1 ∨ it.kind = 2) : itM s pl it nx at_ σ = openM it nx at_ σ := by rw [itM, if_neg (by omega), if_pos h]
theorem itM_3 {s : ByteArray} {pl : Nat → Bool} {it : It} {nx : Nx} {at_ : Nat} {σ : Ms} (h : it.kind = 3) : itM s pl it nx at_ σ = shutM it nx at_ σ := by rw [itM, if_neg (by omega), if_neg (by omega), if_pos h]
theorem itM_4 {s : ByteArray} {pl : Nat → Bool} {it : It} {nx : Nx} {at_ : Nat} {σ : Ms} (h : it.kind = 4) : itM s pl it nx at_ σ = backM s (pl it.n) (σ.fr it.n) (σ.tt it.n) nx at_ σ := by rw [itM, if_neg (by omega), if_neg (by omega), if_neg (by omega), if_pos h]
theorem itM_5 {s : ByteArray} {pl : Nat → Bool} {it : It} {nx : Nx} {at_ : Nat} {σ : Ms} (h : it.kind = 5) : itM s pl it nx at_ σ = pairR s it nx at_ σ := by rw [itM, if_neg (by omega), if_neg (by omega), if_neg (by omega), if_neg (by omega), if_pos h]
theorem itM_6 {s : ByteArray} {pl : Nat → Bool} {it : It} {nx : Nx} {at_ : Nat} {σ : Ms} (h : it.kind = 6) : itM s pl it nx at_ σ = edgeM s it nx at_ σ := by rw [itM, if_neg (by omega), if_neg (by omega), if_neg (by omega), if_neg (by omega), if_neg (by omega), if_pos h]
theorem itM_7 {s : ByteArray} {pl : Nat → Bool} {it : It} {nx : Nx} {at_ : Nat} {σ : Ms} (h : it.kind = 7) : itM s pl it nx at_ σ = endM s nx at_ σ := by rw [itM, if_neg (by omega), if_neg (by omega), if_neg (by omega), if_neg (by omega), if_neg (by omega), if_neg (by omega)]
/-- Each item value is that item. -/
theorem itv_ok (X : Sx) (pl : Nat → Bool) (pre : List It) (it : It) (fi : Nat) (ci : Array Value) (w0 : World) (hs : X.s.size ≤ 65536) (hp : PreOk pl pre it) (h : ItV w0 X.S it fi ci) : ItOk X pl pre it fi ci (fun w => ItV w X.S it fi ci) := by
  have en : ∀ (args : Array Value) (w : World), (callFunc fi args).run Tryd.prog w = .ok (.enter fi args) w := by
    rcases h with ⟨_, _, _, _, _, rfl, rfl⟩ | ⟨_, _, _, _, _, rfl, rfl⟩ | ⟨_, _, _, _, _, rfl, rfl⟩ | ⟨_, _, _, _, _, _, _, _, _, _, rfl, rfl⟩ | ⟨_, _, _, _, rfl, rfl⟩ | ⟨_, _, _, _, rfl, rfl⟩ | ⟨_, _, _, _, rfl, rfl⟩ | ⟨_, _, _, _, rfl, rfl⟩ | ⟨_, _, _, _, _, _, _, rfl, rfl⟩ | ⟨_, _, _, _, rfl, rfl⟩ | ⟨_, rfl, rfl⟩
    · exact enters_of Tryd.func90 (by kernel_rfl) rfl
    · exact enters_of Tryd.func89 (by kernel_rfl) rfl
    · exact enters_of Tryd.func88 (by kernel_rfl) rfl
    · exact enters_of Tryd.func86 (by kernel_rfl) rfl
    · exact enters_of Tryd.func61 (by kernel_rfl) rfl
    · exact enters_of Tryd.func62 (by kernel_rfl) rfl
    · exact enters_of Tryd.func76 (by kernel_rfl) rfl
    · exact enters_of Tryd.func77 (by kernel_rfl) rfl
    · exact enters_of Tryd.func79 (by kernel_rfl) rfl
    · exact enters_of Tryd.func83 (by kernel_rfl) rfl
    · exact enters_of Tryd.func48 (by kernel_rfl) rfl
  refine ⟨en, fun w w' h k => h.keep k, ?_⟩
  clear h en w0
  intro nx fn bd cs D at_ σ nt to_ w hw hre hD hE hb ha h5 hc hg
  have hco : it.kind = 0 ∨ 3 < it.kind → Cap (pre ++ [it]) σ at_ := fun h => hc.other h
  have hgo : it.kind = 0 ∨ 3 < it.kind → Ag (pre ++ [it]) nt σ := fun h => hg.other h rfl rfl
  rcases hE with ⟨C, hk, hs0, hcl, hC, rfl, rfl⟩ | ⟨C, hk, hs0, hcl, hC, rfl, rfl⟩ | ⟨C, hk, hs0, hcl, hC, rfl, rfl⟩ | ⟨C, L, least, hk, hs0, hcl, hC, hl, hL, hle, rfl, rfl⟩ | ⟨B, hk, h, hB, rfl, rfl⟩ | ⟨B, hk, h, hB, rfl, rfl⟩ | ⟨B, hk, h, hB, rfl, rfl⟩ | ⟨B, hk, h, hB, rfl, rfl⟩ | ⟨A, B, hk, h, h', hA, hB, rfl, rfl⟩ | ⟨C, hk, h, hC, rfl, rfl⟩ | ⟨hk, rfl, rfl⟩
  · rw [itM_0 hk]; exact it_single X pre it nx fn bd cs D at_ σ nt to_ w hs hw hD hb ha h5 (hco (.inl hk)) (hgo (.inl hk)) C hcl hC hs0
  · rw [itM_0 hk]; exact it_opt X pre it nx fn bd cs D at_ σ nt to_ w hs hw hD hb ha h5 (hco (.inl hk)) (hgo (.inl hk)) C hcl hC hs0 hre
  · rw [itM_0 hk]; exact it_short X pre it nx fn bd cs D at_ σ nt to_ w hs hw hD hb ha h5 (hco (.inl hk)) (hgo (.inl hk)) C hcl hC hs0 hre
  · rw [itM_0 hk]; exact it_long X pre it nx fn bd cs D at_ σ nt to_ w hs hw hD hb ha h5 (hco (.inl hk)) (hgo (.inl hk)) C L least hcl hC hl hL (by omega) (by omega) (by omega) hle hre
  · rw [itM_12 (.inl hk)]; exact it_place X pre it nx fn bd cs D at_ σ nt to_ w hs hw hD hb ha h5 hc hg B h (hp.wf.1 (.inl hk)).1 16 hp.wf hk
  · rw [itM_12 (.inr hk)]; exact it_open X pre it nx fn bd cs D at_ σ nt to_ w hs hw hD hb ha h5 hc hg B h (hp.wf.1 (.inr hk)).1 16 hp.wf hk
  · rw [itM_3 hk]; exact it_shut X pre it nx fn bd cs D at_ σ nt to_ w hs hw hD hb ha h5 hc hg B h (hp.wf.2.1 hk).1 16 hp.wf hk (hp.shut hk)
  · rw [itM_4 hk]
    have hn := (hp.wf.2.2 hk).1
    rcases hp.back hk with ⟨hpl, j, hj, hj1, hj2⟩ | ⟨hpl, ⟨j, hj, hj1, hj2⟩, ⟨i, hi, hi1, hi2⟩⟩
    · have h1 := (hg j hj).1 hj1
      have h2 := hc.1 j hj (.inl hj1)
      rw [hj2] at h1 h2
      have := it_back X pre it nx fn bd cs D at_ σ nt to_ w hs hw hD hb ha h5 (hco (.inr (by omega))) (hgo (.inr (by omega))) B h hn true (σ.fr it.n) (σ.fr it.n) h1 (Nat.le_refl _) h2
      rw [show backM X.s (pl it.n) (σ.fr it.n) (σ.tt it.n) nx at_ σ = backM X.s true (σ.fr it.n) (σ.fr it.n) nx at_ σ by rw [backM, backM, if_pos hpl, if_pos rfl]]
      exact this
    · have h1 := (hg j hj).2.1 hj1
      have h3 := (hg i hi).2.2 hi1
      have h2 := hc.2 i hi hi1
      rw [hj2] at h1
      rw [hi2] at h3 h2
      have h4 : nt it.n = (false, σ.fr it.n, σ.tt it.n) := by
        rw [← h1.1, ← h1.2, ← h3]
      rw [hpl]
      exact it_back X pre it nx fn bd cs D at_ σ nt to_ w hs hw hD hb ha h5 (hco (.inr (by omega))) (hgo (.inr (by omega))) B h hn false (σ.fr it.n) (σ.tt it.n) h4 h2.1 h2.2
  · rw [itM_5 hk]; exact it_pair X pre it nx fn bd cs D at_ σ nt to_ w hs hw hD hb ha h5 (hco (.inr (by omega))) (hgo (.inr (by omega))) A B h h' hA hB
  · rw [itM_6 hk]; exact it_edge X pre it nx fn bd cs D at_ σ nt to_ w hs hw hD hb ha h5 (hco (.inr (by omega))) (hgo (.inr (by omega))) C h hC
  · rw [itM_7 hk]; exact it_end X pre it nx fn bd cs D at_ σ nt to_ w hs hw hD hb ha h5 (hco (.inr (by omega))) (hgo (.inr (by omega)))

/-! The places that a pattern's items must keep. -/
structure RdK (R : Rd) : Prop where
  nod : R.opn.Nodup
  lt : ∀ n ∈ R.opn, n < R.done.length
  opn : ∀ n ∈ R.opn, R.done.getD n false = false
  don : ∀ j ∈ R.items, j.kind = 1 ∨ j.kind = 3 → R.done.getD j.n false = true
  pre : ∀ k (hk : k < R.items.length), R.items[k].kind = 3 → ∀ j ∈ R.items.take k, j.kind = 1 ∨ j.kind = 3 → j.n ≠ R.items[k].n

end Go.Proofs.YtemciphihnpniaaDoor
