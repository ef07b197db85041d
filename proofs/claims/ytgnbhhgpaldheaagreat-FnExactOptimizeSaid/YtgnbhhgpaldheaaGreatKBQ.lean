import Derived.Test.YtgnbhhgpaldheaaGreatKBE
import Derived.Test.YtgnbhhgpaldheaaGreatKBD
import Derived.Deep.RegionHeld3
import Derived.Deep.Onto
import Derived.Deep.RegionLaw
import Derived.Lib.ConvBytes
import Derived.Test.YtgnbhhgpaldheaaGreatKBF
import Derived.Deep.Slices
import Derived.Lib.SmallJoins
import Derived.Below
import Derived.BigRegion
import Derived.Test.YtgnbhhgpaldheaaGreatKEG1
import Derived.Shelf.LaysM
import Derived.Shelf.Strconv.Clone
import Derived.Test.YtgnbhhgpaldheaaGreatProg
import Derived.Test.YtgnbhhgpaldheaaGreatRows
import Derived.LaidSub
import Derived.WalkKit
import Derived.ProofKit
import Derived.OpenShut
import Derived.Deep.DeepHandedRow
import Derived.ChangeMaps5
import Derived.Carry
import Derived.ChangeOld
import Derived.ChangeSlices
namespace Go.Proofs.YtgnbhhgpaldheaaGreat
open Go Go.RowKit
set_option linter.unusedVariables false
def OwnL (w : World) (base : Nat) (v : Value) (L : List Int) : Prop := w.ownsRow base 5 1 v L.length (L.map (Value.int .u8)) ∧ v ≠ .slice none 0 0
def leI (n : Nat) (U : Int) : List Int := (List.range n).map fun j => U / 256 ^ j % 256
def PartA (w : World) (u : Value) (L : List Int) : Prop := ∃ b o cap, u = .slice (some ⟨b, o, none⟩) L.length cap ∧ b < w.heap.size ∧ ∀ j, j < L.length → w.cell? ⟨b, o + j, none⟩ = some (.int .u8 (L.getD j 0))
theorem PartA.low {w w' : World} {u : Value} {L : List Int} {B : Nat} (h : PartA w u L) (hb : Below B w w') (hB : w.heap.size ≤ B) : PartA w' u L := by
  obtain ⟨b, o, cap, rfl, h1, h2⟩ := h
  exact ⟨b, o, cap, rfl, Nat.lt_of_lt_of_le h1 hb.size, fun j hj => (hb.cell (p := ⟨b, o + j, none⟩) (Nat.lt_of_lt_of_le h1 hB)).trans (h2 j hj)⟩
theorem add_none' (b o k : Nat) : (⟨b, o, none⟩ : Addr).add k = ⟨b, o + k, none⟩ := by
  unfold Addr.add
  split
  · rename_i h; subst h; rfl
  · rfl
def joinL (F : Nat → List Int) (i : Nat) : List Int := (List.range i).flatMap F
def PartsA (w : World) (v : Value) (n : Nat) (F : Nat → List Int) : Prop := ∃ b o cap, v = .slice (some ⟨b, o, none⟩) n cap ∧ b < w.heap.size ∧ n ≤ cap ∧ ∀ i, i < n → ∃ u, w.cell? ⟨b, o + i, none⟩ = some u ∧ PartA w u (F i)
def flagI (b : Bool) : Int := if b then 1 else 0
theorem OwnL.mono {w : World} {base base' : Nat} {v : Value} {L : List Int} (h : OwnL w base v L) (hb : base' ≤ base) : OwnL w base' v L := ⟨h.1.mono hb, h.2⟩
theorem OwnL.low {w w' : World} {base B : Nat} {v : Value} {L : List Int} (h : OwnL w base v L) (hb : Below B w w') (hB : w.heap.size ≤ B) : OwnL w' base v L := by
  obtain ⟨⟨h1, h2⟩, hv⟩ := h
  rcases h2 with ⟨rfl, _⟩ | ⟨g, cap, cur, rfl, hBg, hh, hr⟩
  · exact absurd rfl hv
  · have hg : g < w.heap.size := by
      rcases Nat.lt_or_ge g w.heap.size with c | c
      · exact c
      · rw [Array.getElem?_eq_none c] at hh; cases hh
    exact ⟨⟨h1, .inr ⟨g, cap, cur, rfl, hBg, (hb.block g (Nat.lt_of_lt_of_le hg hB)).trans hh, hr⟩⟩, hv⟩
theorem OwnL.blk {w : World} {base : Nat} {v : Value} {L : List Int} (h : OwnL w base v L) : ∃ g cap, v = .slice (some ⟨g, 0, none⟩) L.length cap ∧ base ≤ g ∧ g < w.heap.size := by
  obtain ⟨⟨h1, h2⟩, hv⟩ := h
  rcases h2 with ⟨rfl, _⟩ | ⟨g, cap, cur, rfl, hBg, hh, hr⟩
  · exact absurd rfl hv
  · refine ⟨g, cap, rfl, hBg, ?_⟩
    rcases Nat.lt_or_ge g w.heap.size with c | c
    · exact c
    · rw [Array.getElem?_eq_none c] at hh; cases hh
theorem RowF.same {w w' : World} {T g N : Nat} {f : Nat → Value} (h : RowF w T g N f) (e : w'.heap[g]? = w.heap[g]?) : RowF w' T g N f := by
  obtain ⟨cur, h1, h2, h3⟩ := h
  exact ⟨cur, e.trans h1, h2, h3⟩
theorem OwnL.apart {w : World} {base T g N : Nat} {v : Value} {L : List Int} {f : Nat → Value} (h : OwnL w base v L) (hr : RowF w T g N f) (hT : T ≠ 5) : v.ownBlock ≠ some g := by
  obtain ⟨⟨h1, h2⟩, hv⟩ := h
  obtain ⟨c2, e2, -⟩ := hr
  rcases h2 with ⟨rfl, _⟩ | ⟨g', cap, cur, rfl, hBg, hh, hr⟩
  · exact absurd rfl hv
  · intro e
    have e9 : g' = g := by simpa [Value.ownBlock] using e
    subst e9
    rw [hh] at e2
    simp at e2
    exact hT e2.2.symm
def u64n (v : Int) (n : Nat) : List Int := leI n (IntKind.u64.wrap v)
def hdL (p : PV) : List Int := u64n p.params 1 ++ ([flagI p.dots] ++ (u64n p.regs 1 ++ (u64n p.line 4 ++ u64n p.nu 1)))
def upL (p : PV) (k : Nat) : List Int := [flagI (p.u0 k)] ++ u64n (p.u1 k) 1
def txL (s : ByteArray) : List Int := s.data.toList.map fun c => (c.toNat : Int)
def coL (p : PV) (k : Nat) : List Int := [IntKind.u8.wrap (p.c0 k)] ++ (if p.c0 k = 4 then u64n (p.c1 k) 8 else if p.c0 k = 5 then u64n (wrap64 (p.c2 k)) 8 else u64n (p.c3 k).size 4 ++ txL (p.c3 k))
def inL (p : PV) (k : Nat) : List Int := u64n (p.i0 k) 1 ++ (u64n (p.i1 k) 1 ++ (u64n (p.i2 k) 4 ++ (u64n (p.i3 k) 4 ++ u64n (p.l0 k) 4)))
def S1 (p : PV) (i : Nat) : List Int := hdL p ++ joinL (upL p) i
def S2 (p : PV) (i : Nat) : List Int := (S1 p p.nu ++ u64n p.nc 2) ++ joinL (coL p) i
def S3 (p : PV) (i : Nat) : List Int := (S2 p p.nc ++ u64n p.ni 2) ++ joinL (inL p) i
def pbL (p : PV) : List Int := S3 p p.ni
end Go.Proofs.YtgnbhhgpaldheaaGreat
namespace Go.Proofs.YtgnbhhgpaldheaaGreat
open Go Go.RowKit Go.Joins
set_option linter.unusedVariables false
def BytesL (L : List Int) : Prop := ∀ x ∈ L, 0 ≤ x ∧ x ≤ 255
theorem BytesL.app {L M : List Int} (h : BytesL L) (g : BytesL M) : BytesL (L ++ M) := fun x hx => by
  rcases List.mem_append.1 hx with h1 | h1
  · exact h x h1
  · exact g x h1
theorem BytesL.join {F : Nat → List Int} (i : Nat) (h : ∀ k, BytesL (F k)) : BytesL (joinL F i) := fun x hx => by
  obtain ⟨k, -, hk⟩ := List.mem_flatMap.1 hx
  exact h k x hk
theorem BytesL.u64n (v : Int) (n : Nat) : BytesL (u64n v n) := fun x hx => by
  obtain ⟨k, -, rfl⟩ := List.mem_map.1 hx
  omega
theorem BytesL.one {z : Int} (h0 : 0 ≤ z) (h1 : z ≤ 255) : BytesL [z] := fun x hx => by
  have e := List.mem_singleton.1 hx
  omega
theorem BytesL.flag (b : Bool) : BytesL [flagI b] := BytesL.one (by unfold flagI; split <;> omega) (by unfold flagI; split <;> omega)
theorem BytesL.tx (s : ByteArray) : BytesL (txL s) := fun x hx => by
  obtain ⟨c, -, rfl⟩ := List.mem_map.1 hx
  have := c.toNat_lt
  omega
theorem BytesL.co (p : PV) (k : Nat) : BytesL (coL p k) := by
  refine BytesL.app (BytesL.one (by rw [IntKind.wrap_u8]; omega) (by rw [IntKind.wrap_u8]; omega)) ?_
  split
  · exact BytesL.u64n _ _
  · split
    · exact BytesL.u64n _ _
    · exact (BytesL.u64n _ _).app (BytesL.tx _)
theorem BytesL.pb (p : PV) : BytesL (pbL p) := by
  refine BytesL.app (BytesL.app (BytesL.app (BytesL.app (BytesL.app ?_ ?_) (BytesL.u64n _ _)) ?_) (BytesL.u64n _ _)) ?_
  · exact (BytesL.u64n _ _).app ((BytesL.flag _).app ((BytesL.u64n _ _).app ((BytesL.u64n _ _).app (BytesL.u64n _ _))))
  · exact BytesL.join _ fun k => (BytesL.flag _).app (BytesL.u64n _ _)
  · exact BytesL.join _ fun k => BytesL.co p k
  · exact BytesL.join _ fun k => (BytesL.u64n _ _).app ((BytesL.u64n _ _).app ((BytesL.u64n _ _).app ((BytesL.u64n _ _).app (BytesL.u64n _ _))))
def magic : List Int := [99, 104, 117, 110, 107, 45, 48, 49]
def chL (n : Nat) (P : Nat → PV) (i : Nat) : List Int := (magic ++ u64n n 2) ++ joinL (fun k => pbL (P k)) i
theorem BytesL.ch (n : Nat) (P : Nat → PV) (i : Nat) : BytesL (chL n P i) :=
  BytesL.app (BytesL.app (fun x hx => by simp [magic] at hx; omega) (BytesL.u64n _ _)) (BytesL.join _ fun k => BytesL.pb _)
theorem wts_mono (P : Nat → PV) {i n : Nat} (h : i ≤ n) : wts P i ≤ wts P n := by
  induction h with
  | refl => exact Nat.le_refl _
  | step _ ih => exact Nat.le_trans ih (by rw [wts_1]; omega)
def natF (L : List Int) (j : Nat) : Nat := (L.getD j 0).toNat
def crcL (L : List Int) : Nat := crcN (natF L) L.length ^^^ 4294967295
def allPlain (n : Nat) (P : Nat → PV) : Prop := n ≤ 65535 ∧ ∀ k, k < n → plainOk (P k)
def fileL (n : Nat) (P : Nat → PV) : List Int := chL n P n ++ u64n (wrap64 (crcL (chL n P n))) 4
def WrR (w : World) (base : Nat) (n : Nat) (P : Nat → PV) (v : Value) (c : Int) : Prop := (allPlain n P ∧ c = 0 ∧ OwnL w base v (fileL n P)) ∨ (¬ allPlain n P ∧ c = 12 ∧ v = .slice none 0 0)
def ivN : Value → Nat
  | .int _ x => x.toNat
  | _ => 0
def magA : Array Value := #[.int .u8 99, .int .u8 104, .int .u8 117, .int .u8 110, .int .u8 107, .int .u8 45, .int .u8 48, .int .u8 49]
end Go.Proofs.YtgnbhhgpaldheaaGreat
namespace Go.Proofs.YtgnbhhgpaldheaaGreat
open Go Go.RowKit
set_option linter.unusedVariables false
structure Keeps (w w' : World) (S : Nat → Prop) : Prop where
  os : w'.os = w.os
  tape : w'.tape = w.tape
  output : w'.output = w.output
  size : w.heap.size ≤ w'.heap.size
  block : ∀ b, b < w.heap.size → ¬ S b → w'.heap[b]? = w.heap[b]?
theorem Keeps.refl (w : World) (S : Nat → Prop) : Keeps w w S := ⟨rfl, rfl, rfl, Nat.le_refl _, fun _ _ _ => rfl⟩
theorem Keeps.trans {w w' w'' : World} {S : Nat → Prop} (h : Keeps w w' S) (k : Keeps w' w'' S) : Keeps w w'' S :=
  ⟨k.os.trans h.os, k.tape.trans h.tape, k.output.trans h.output, Nat.le_trans h.size k.size, fun b hb hs => (k.block b (Nat.lt_of_lt_of_le hb h.size) hs).trans (h.block b hb hs)⟩
theorem Keeps.mono {w w' : World} {S S' : Nat → Prop} (h : Keeps w w' S) (hs : ∀ b, S b → S' b) : Keeps w w' S' := ⟨h.os, h.tape, h.output, h.size, fun b hb hn => h.block b hb (fun x => hn (hs b x))⟩
theorem Keeps.of {w w' : World} {B : Nat} (h : Below B w w') (hB : w.heap.size ≤ B) (S : Nat → Prop) : Keeps w w' S := ⟨h.os, h.tape, h.output, h.size, fun b hb _ => h.block b (Nat.lt_of_lt_of_le hb hB)⟩
theorem Keeps.below {w w' : World} {S : Nat → Prop} {B : Nat} (h : Keeps w w' S) (hB : B ≤ w.heap.size) (hS : ∀ b, S b → B ≤ b) : Below B w w' :=
  ⟨h.os, h.tape, h.output, h.size, fun b hb => h.block b (by omega) (fun x => by have := hS b x; omega)⟩
theorem Keeps.setCell {w w' : World} {S : Nat → Prop} (h : Keeps w w' S) {g j : Nat} (hg : S g) (x : Value) : Keeps w (w'.setCell ⟨g, j, none⟩ x) S := by
  have e : Below g w' (w'.setCell ⟨g, j, none⟩ x) := (Below.refl g w').setCell (Nat.le_refl _) x
  refine ⟨e.os.trans h.os, e.tape.trans h.tape, e.output.trans h.output, Nat.le_trans h.size e.size, fun b hb hn => ?_⟩
  rw [heap_setCell_other w' ⟨g, j, none⟩ b x (fun e => hn (by subst e; exact hg))]
  exact h.block b hb hn
theorem RowF.keep {w w' : World} {T g N : Nat} {f : Nat → Value} {S : Nat → Prop} (h : RowF w T g N f) (k : Keeps w w' S) (hn : ¬ S g) : RowF w' T g N f := h.same (k.block g h.lt hn)
theorem OwnL.keep {w w' : World} {base : Nat} {v : Value} {L : List Int} {S : Nat → Prop} (h : OwnL w base v L) (k : Keeps w w' S) (hS : ∀ b, S b → b < base) : OwnL w' base v L := by
  obtain ⟨⟨h1, h2⟩, hv⟩ := h
  rcases h2 with ⟨rfl, _⟩ | ⟨g, cap, cur, rfl, hBg, hh, hr⟩
  · exact absurd rfl hv
  · have hg : g < w.heap.size := by
      rcases Nat.lt_or_ge g w.heap.size with c | c
      · exact c
      · rw [Array.getElem?_eq_none c] at hh; cases hh
    exact ⟨⟨h1, .inr ⟨g, cap, cur, rfl, hBg, (k.block g hg (fun x => by have := hS g x; omega)).trans hh, hr⟩⟩, hv⟩
theorem OwnL.row {w : World} {base : Nat} {v : Value} {L : List Int} (h : OwnL w base v L) : ∃ g cap, v = .slice (some ⟨g, 0, none⟩) L.length cap ∧ base ≤ g ∧ RowF w 5 g L.length (fun j => .int .u8 (L.getD j 0)) := by
  obtain ⟨⟨h1, h2⟩, hv⟩ := h
  rcases h2 with ⟨rfl, _⟩ | ⟨g, cap, cur, rfl, hBg, hh, hn, hm, hs, ht⟩
  · exact absurd rfl hv
  · refine ⟨g, cap, rfl, hBg, cur, hh, by omega, fun j hj => ?_⟩
    have hc : j < cur.size := by omega
    have e1 : (cur.toList.take (L.length * 1))[j]? = some cur[j] := by
      rw [List.getElem?_take, if_pos (by omega)]
      simp [hc]
    rw [ht, List.getElem?_map, List.getElem?_eq_getElem hj] at e1
    have e2 : Value.int .u8 L[j] = cur[j] := by simpa using e1
    show _ = some (Value.int .u8 (L.getD j 0))
    rw [Array.getElem?_eq_getElem hc, ← e2, List.getD_eq_getElem?_getD, List.getElem?_eq_getElem hj]
    rfl
def mkB (k j : Nat) : Value := .int .u8 (IntKind.u8.wrap ((k : Int) + (j : Int)))
def mk10 : Nat → Nat → List UInt8 → List UInt8
  | 0, _, acc => acc
  | n + 1, k, acc => if k = 0 then acc else mk10 n (k / 10) ((48 + UInt8.ofNat (k % 10)) :: acc)
theorem mk10_zero (n : Nat) (acc : List UInt8) : mk10 n 0 acc = acc := by cases n <;> simp [mk10]
theorem mk10_fuel {n : Nat} : ∀ {m k : Nat} (acc : List UInt8), k ≤ n → k ≤ m → mk10 n k acc = mk10 m k acc := by
  induction n with
  | zero =>
    intro m k acc h1 h2
    obtain rfl : k = 0 := by omega
    rw [mk10_zero, mk10_zero]
  | succ n ih =>
    intro m k acc h1 h2
    cases m with
    | zero =>
      obtain rfl : k = 0 := by omega
      rw [mk10_zero, mk10_zero]
    | succ m =>
      unfold mk10
      split
      · rfl
      · exact ih _ (by omega) (by omega)
def mtx (k : Nat) : ByteArray := ⟨(109 :: mk10 k k []).toArray⟩
theorem one_byte (w : World) (x : Nat) (hx : x < 256) : (convert 172 9 (.slice (some ⟨w.heap.size, 0, none⟩) 1 1)).run Tryz.prog (w.alloc (.cells #[.int .u8 ((x : Nat) : Int)] 5)) = .ok (.string ⟨#[UInt8.ofNat x]⟩) (w.alloc (.cells #[.int .u8 ((x : Nat) : Int)] 5)) := by
  have e := run_convert_bytes_back (P := Tryz.prog) (w.alloc (.cells #[.int .u8 ((x : Nat) : Int)] 5)) 172 9 5 ⟨w.heap.size, 0, none⟩ 1 [UInt8.ofNat x] Tryz.underlying172 Tryz.underlying5 Tryz.underlying9 (fun j hj => by
    obtain rfl : j = 0 := by simpa using hj
    have : (UInt8.ofNat x).toNat = x := by simp; omega
    simp [Addr.add, this])
  exact e
set_option maxHeartbeats 3200000 in
set_option maxRecDepth 100000 in
theorem markText_any (k : Nat) (w : World) (hk : 1 ≤ k) (hk2 : k ≤ 100000000) :
    Calls Tryz.prog 101 #[.int .i64 k] w fun e w' => e = .returned (.string (mtx k)) ∧ Below w.heap.size w w' := by
  go_enter Tryz.func101, Tryz.ntmps101
  go_wp2
  go_loopw [0, 3] (fun kv ov wr => ∃ (j : Nat) (acc : List UInt8), kv = .int .i64 j ∧ ov = .string ⟨acc.toArray⟩ ∧ acc.length + j ≤ 100000000 ∧ Hid (mk10 j j acc = mk10 k k []) ∧ Below w.heap.size w wr) (fun kv _ _ => match kv with | .int _ x => x.toNat | _ => 0)
  case atStart => exact ⟨k, [], rfl, rfl, by simp; omega, hide rfl, Below.refl _ _⟩
  case round =>
    obtain ⟨j, acc, rfl, rfl, hj, HM, hbw⟩ := hrel
    by_cases h0 : j = 0
    · subst h0
      go_wp2
      refine bodyPost_ret (v := .string (mtx k)) ?_ rfl ⟨rfl, hbw⟩
      have hm := HM.out
      rw [mk10_zero] at hm
      unfold mtx
      rw [← hm]
      simp [results, Tryz.results101, go_sem]
      rfl
    · have hcv := one_byte wr (48 + j % 10) (by omega)
      rw [show (((48 + j % 10 : Nat)) : Int) = 48 + (j : Int) % 10 by omega] at hcv
      have hlow : Hid (Below w.heap.size w (wr.alloc (.cells #[.int .u8 (48 + (j : Int) % 10)] 5))) := hide (hbw.alloc hbw.size _)
      go_wp2
      go_roundw
      case rel =>
        refine ⟨j / 10, (48 + UInt8.ofNat (j % 10)) :: acc, by simp, rfl, by simp; omega, hide ?_, hlow.out⟩
        have hm := HM.out
        obtain ⟨i, rfl⟩ : ∃ i, j = i + 1 := ⟨j - 1, by omega⟩
        rw [← hm]
        conv => rhs; unfold mk10
        rw [if_neg h0]
        exact mk10_fuel _ (Nat.le_refl _) (by omega)
      case measure => show ((j : Int) / 10).toNat < ((j : Int)).toNat; omega
end Go.Proofs.YtgnbhhgpaldheaaGreat
namespace Go.Proofs.YtgnbhhgpaldheaaGreat
set_option linter.unusedVariables false
theorem Cmp.nf0 {c d : Cf} (x : Cmp c d) : d.nf 0 = c.rk (c.nf 0) := by
  rw [x.nf (Nat.zero_le _), rk_nf (Nat.zero_le _)]
  rfl
theorem Cmp.R {c d : Cf} (x : Cmp c d) (h : c.Ok) {p : Nat} (hp : c.L p) : d.R (c.rk p) ↔ c.R p := by
  constructor
  · intro r
    have cl : d.Cl (fun k => ∀ q, c.L q → c.rk q = k → c.R q) := by
      refine ⟨fun q hq e => ?_, fun k hk hs => ?_⟩
      · have := rk_inj hq (Cf.nf_L h.e).1 (e.trans x.nf0)
        rw [this]; exact R_first c
      · obtain ⟨s, hs1, rfl⟩ := x.at hk.1
        have hr := hs s hs1 rfl
        refine ⟨fun hj q hq e => ?_, fun ha q hq e => ?_⟩
        · rw [x.op s hs1] at hj
          rw [x.b s hs1 hj] at e
          rw [rk_inj hq (h.j s hs1 hj).1 e]
          exact R_jump hs1 hr hj
        · rw [x.op s hs1] at ha
          rw [x.nx hs1] at e
          rw [rk_inj hq (h.nx hs1 ha).1 e]
          exact R_next hs1 hr ha
    exact r _ cl p hp rfl
  · intro r
    refine r (fun q => d.R (c.rk q)) ⟨by show d.R (c.rk (c.nf 0)); rw [← x.nf0]; exact R_first d, fun q hq hr => ⟨fun hj => ?_, fun ha => ?_⟩⟩
    · show d.R (c.rk (c.b q))
      rw [← x.b q hq hj]
      exact R_jump (x.L hq) hr (by rw [x.op q hq]; exact hj)
    · show d.R (c.rk (c.nx q))
      rw [← x.nx hq]
      exact R_next (x.L hq) hr (by rw [x.op q hq]; exact ha)
theorem Cmp.idl {c d : Cf} (x : Cmp c d) (h : c.Ok) {p : Nat} (hp : c.L p) : d.idl (c.rk p) = c.idl p := by
  unfold Cf.idl
  rw [x.mv p hp, x.op p hp]
  cases hm : c.mv p with
  | true => rfl
  | false =>
    cases hk : (c.op p == 25 || chs (c.op p)) with
    | false => rfl
    | true =>
      have hj : jmp (c.op p) = true := by
        simp at hk
        rcases hk with k | k
        · rw [k]; rfl
        · exact chs_jmp k
      rw [x.b p hp hj, x.nx hp]
      have hb := (h.j p hp hj).1
      by_cases e : c.b p = c.nx p
      · rw [e]; simp
      · have : c.rk (c.b p) ≠ c.rk (c.nx p) := fun k => by
          rcases (c.nf_out (p + 1)).1 with q | q
          · exact e (rk_inj hb q.1 k)
          · rw [show c.nx p = c.n from q] at k
            have := rk_lt hb hb.1
            omega
        rw [beq_eq_false_iff_ne.2 this, beq_eq_false_iff_ne.2 e]
theorem Cmp.rkD {c d : Cf} (x : Cmp c d) {D E : Nat → Bool} (he : ∀ p, c.L p → E (c.rk p) = D p) : ∀ p, p ≤ c.n → (c.drp D).rk p = (d.drp E).rk (c.rk p)
  | 0, _ => rfl
  | p + 1, hp => by
    rw [rk_on, rk_on, x.rkD he p (by omega)]
    show (d.drp E).rk (c.rk p) + (if (c.lf p && !D p) = true then 1 else 0) = _
    cases hl : c.lf p with
    | false => rfl
    | true =>
      have hL : c.L p := ⟨by omega, hl⟩
      show _ = (d.drp E).rk (c.rk p + 1)
      rw [rk_on]
      show _ = (d.drp E).rk (c.rk p) + (if (d.lf (c.rk p) && !E (c.rk p)) = true then 1 else 0)
      rw [(x.L hL).2, he p hL]
theorem Cmp.cut {c d e : Cf} (x : Cmp c d) (h : c.Ok) {D E : Nat → Bool} (he : ∀ p, c.L p → E (c.rk p) = D p) (y : Cmp (d.cut E) e) : Cmp (c.cut D) e := by
  have key : ∀ p, p ≤ c.n → (c.cut D).rk p = (d.cut E).rk (c.rk p) := fun p hp => x.rkD he p hp
  have lft : ∀ p, (c.cut D).L p → c.L p ∧ (d.cut E).L (c.rk p) := fun p hp => by
    obtain ⟨h1, h2⟩ := cut_L.1 hp
    exact ⟨h1, cut_L.2 ⟨x.L h1, by rw [he p h1]; exact h2⟩⟩
  refine ⟨?_, y.lf, fun p hp => ?_, fun p hp => ?_, fun p hp => ?_, fun p hp hj => ?_, y.dm⟩
  · show e.n = (c.cut D).rk c.n
    rw [key c.n (Nat.le_refl _), ← x.n]
    exact y.n
  · obtain ⟨h1, h2⟩ := lft p hp
    rw [key p (Nat.le_of_lt h1.1), y.op _ h2]
    exact x.op p h1
  · obtain ⟨h1, h2⟩ := lft p hp
    rw [key p (Nat.le_of_lt h1.1), y.a _ h2]
    exact x.a p h1
  · obtain ⟨h1, h2⟩ := lft p hp
    rw [key p (Nat.le_of_lt h1.1), y.mv _ h2]
    exact x.mv p h1
  · obtain ⟨h1, h2⟩ := lft p hp
    have hj' : jmp (c.op p) = true := hj
    have hb := (h.j p h1 hj').1
    rw [key p (Nat.le_of_lt h1.1), y.b _ h2 (by show jmp (d.op (c.rk p)) = true; rw [x.op p h1]; exact hj')]
    show (d.drp E).rk ((d.drp E).nf (d.b (c.rk p))) = (c.drp D).rk ((c.drp D).nf (c.b p))
    rw [x.b p h1 hj', rk_nf (c := d.drp E) (Nat.le_of_lt (x.L hb).1), rk_nf (c := c.drp D) (Nat.le_of_lt hb.1), x.rkD he _ (Nat.le_of_lt hb.1)]
structure Eb (c d : Cf) : Prop where
  n : d.n = c.n
  op : d.op = c.op
  a : d.a = c.a
  lf : ∀ p, p < c.n → d.lf p = c.lf p
  mv : d.mv = c.mv
  b : ∀ p, c.L p → jmp (c.op p) = true → d.b p = c.b p
theorem Eb.L {c d : Cf} (x : Eb c d) (p : Nat) : d.L p ↔ c.L p := by
  unfold Cf.L
  rw [x.n]
  exact ⟨fun h => ⟨h.1, by rw [← x.lf p h.1]; exact h.2⟩, fun h => ⟨h.1, by rw [x.lf p h.1]; exact h.2⟩⟩
theorem Eb.nf {c d : Cf} (x : Eb c d) (p : Nat) : d.nf p = c.nf p := Cf.nf_congr x.n x.lf p
theorem Eb.symm {c d : Cf} (x : Eb c d) : Eb d c := ⟨x.n.symm, x.op.symm, x.a.symm, fun p hp => (x.lf p (by rw [← x.n]; exact hp)).symm, x.mv.symm, fun p hp hj => (x.b p ((x.L p).1 hp) (by rw [← x.op]; exact hj)).symm⟩
theorem Eb.ok {c d : Cf} (x : Eb c d) (h : c.Ok) : d.Ok := by
  refine ⟨fun p hp hj => ?_, fun p hp ha => ?_, by rw [x.nf, x.n]; exact h.e, fun p hm => ?_⟩
  · have hp' := (x.L p).1 hp
    rw [x.op] at hj
    obtain ⟨j1, j2⟩ := h.j p hp' hj
    rw [x.b p hp' hj, x.L, x.op]
    exact ⟨j1, j2⟩
  · have hp' := (x.L p).1 hp
    rw [x.op] at ha
    show d.nf (p + 1) < d.n
    rw [x.nf, x.n]
    exact h.f p hp' ha
  · rw [x.mv] at hm
    rw [x.op]; exact h.m p hm
theorem Eb.rk {c d : Cf} (x : Eb c d) : ∀ p, p ≤ c.n → d.rk p = c.rk p
  | 0, _ => rfl
  | p + 1, h => by rw [rk_on, rk_on, x.rk p (by omega), x.lf p (by omega)]
theorem Eb.cmp {c d e : Cf} (x : Eb c d) (h : c.Ok) (y : Cmp c e) : Cmp d e := by
  refine ⟨by rw [x.n, x.rk _ (Nat.le_refl _)]; exact y.n, y.lf, fun p hp => ?_, fun p hp => ?_, fun p hp => ?_, fun p hp hj => ?_, y.dm⟩
  all_goals (have hp' := (x.L p).1 hp; rw [x.rk p (Nat.le_of_lt hp'.1)])
  · rw [x.op]; exact y.op p hp'
  · rw [x.a]; exact y.a p hp'
  · rw [x.mv]; exact y.mv p hp'
  · rw [x.op] at hj
    rw [x.b p hp' hj, x.rk _ (Nat.le_of_lt (h.j p hp' hj).1.1)]; exact y.b p hp' hj
theorem Eb.R {c d : Cf} (x : Eb c d) {p : Nat} (h : c.R p) : d.R p := by
  refine h d.R ⟨by rw [← x.nf]; exact R_first d, fun q hq hr => ⟨fun hj => ?_, fun ha => ?_⟩⟩
  · rw [← x.b q hq hj]
    exact R_jump ((x.L q).2 hq) hr (by rw [x.op]; exact hj)
  · show d.R (c.nf (q + 1))
    rw [← x.nf]
    exact R_next ((x.L q).2 hq) hr (by rw [x.op]; exact ha)
theorem Eb.idl {c d : Cf} (x : Eb c d) {p : Nat} (hp : c.L p) : d.idl p = c.idl p := by
  unfold Cf.idl
  rw [x.mv, x.op, show d.nx p = c.nx p from x.nf (p + 1)]
  cases hk : (c.op p == 25 || chs (c.op p)) with
  | false => rfl
  | true =>
    have hj : jmp (c.op p) = true := by
      simp at hk
      rcases hk with k | k
      · rw [k]; rfl
      · exact chs_jmp k
    rw [x.b p hp hj]
def Cf.on (c : Cf) (p t : Nat) : Bool := c.op t == 25 || (chs (c.op p) && chs (c.op t) && c.a p == c.a t)
theorem St_on {c : Cf} {p : Nat} : c.St p ↔ c.on p (c.b p) = false := by
  unfold Cf.St Cf.snd Cf.on
  split
  · rename_i e; simp [e]
  · rename_i e
    split
    · rename_i k
      constructor
      · intro q; split at q <;> cases q
      · intro q; simp [k.1, k.2.1, k.2.2] at q
    · rename_i k
      refine ⟨fun _ => ?_, fun _ => rfl⟩
      rw [Bool.or_eq_false_iff]
      refine ⟨beq_eq_false_iff_ne.2 e, ?_⟩
      cases q : (chs (c.op p) && chs (c.op (c.b p)) && c.a p == c.a (c.b p)) with
      | false => rfl
      | true =>
        simp only [Bool.and_eq_true, beq_iff_eq] at q
        exact (k ⟨q.1.1, q.1.2, q.2⟩).elim
structure Ps (c : Cf) (ls tc : Nat → Bool) (cm : Nat → List Nat) (un : Bool) : Prop where
  ok : c.Ok
  st : ∀ p, c.L p → jmp (c.op p) = true → ls p = false → c.St p ∧ p ∈ cm (c.b p)
  cm : ∀ t, c.L t → ∀ p ∈ cm t, c.L p → jmp (c.op p) = true ∧ ls p = false ∧ c.b p = t
  td : ∀ p, c.L p → c.idl p = true → tc p = true ∨ ls p = true
  un : un = false → ∀ p, c.L p → c.R p
structure Pm (c : Cf) (tc : Nat → Bool) (cm : Nat → List Nat) (un : Bool) : Prop where
  ok : c.Ok
  st : ∀ p, c.L p → jmp (c.op p) = true → c.St p ∧ p ∈ cm (c.b p)
  cm : ∀ t, c.L t → ∀ p ∈ cm t, c.L p → jmp (c.op p) = true ∧ c.b p = t
  td : ∀ p, c.L p → c.idl p = true → tc p = true
  un : un = false → ∀ p, c.L p → c.R p
theorem Pm.ps {c : Cf} {tc : Nat → Bool} {cm : Nat → List Nat} {un : Bool} (x : Pm c tc cm un) {ls : Nat → Bool} (hl : ∀ p, c.L p → ls p = false) : Ps c ls tc cm un :=
  ⟨x.ok, fun p hp hj _ => x.st p hp hj, fun t ht p h hp => ⟨(x.cm t ht p h hp).1, hl p hp, (x.cm t ht p h hp).2⟩, fun p hp hi => .inl (x.td p hp hi), x.un⟩
def lsD (c : Cf) (ls : Nat → Bool) : List Nat := ((List.range c.n).filter ls).reverse
theorem Ps.all {c : Cf} {ls tc : Nat → Bool} {cm : Nat → List Nat} {un : Bool} (x : Ps c ls tc cm un) : c.all = c.thr (lsD c ls) := by
  unfold Cf.all lsD
  rw [← List.filter_reverse]
  refine thr_filter ls _ c x.ok (fun p hp => ?_) (fun p hp hj hl => ?_)
  · rw [List.mem_reverse, List.mem_range] at hp; exact hp
  · rw [List.mem_reverse, List.mem_range] at hp
    obtain ⟨h1, h2⟩ := Cf.jl_L hp hj
    exact (x.st p h1 h2 hl).1
theorem thr_b : ∀ (l : List Nat) (c : Cf) (p : Nat), p ∉ l → (c.thr l).b p = c.b p
  | [], c, p, _ => rfl
  | q :: l, c, p, h => by
    show ((c.thr1 q).thr l).b p = _
    rw [thr_b l _ p (fun k => h (List.mem_cons_of_mem _ k))]
    unfold Cf.thr1
    split
    · show (if p = q then _ else c.b p) = _
      rw [if_neg (fun k : p = q => h (by rw [k]; exact List.mem_cons_self))]
    · rfl
theorem all_Sb (c : Cf) : Sb c c.all := Sb.thr _ c
theorem all_St {c : Cf} (h : c.Ok) : c.all.Ok ∧ ∀ p, c.L p → jmp (c.op p) = true → c.all.St p := by
  obtain ⟨h1, _, h3⟩ := Cf.Ok.thr (List.range c.n).reverse c h (fun p hp => by rw [List.mem_reverse, List.mem_range] at hp; exact hp)
  exact ⟨h1, fun p hp hj => h3 p (by rw [List.mem_reverse, List.mem_range]; exact hp.1) (by unfold Cf.jl; rw [hp.2, hj]; rfl)⟩
theorem Ps.aimed {c : Cf} {ls tc tc' : Nat → Bool} {cm cm' : Nat → List Nat} {un un' : Bool} (x : Ps c ls tc cm un)
    (hl : ∀ p, ls p = true → jmp (c.op p) = true) (hc : ∀ t p, p ∈ cm' t ↔ p ∈ cm t ∨ (c.L p ∧ ls p = true ∧ c.all.b p = t)) (ht : ∀ p, tc' p = true ↔ tc p = true ∨ (c.L p ∧ ls p = true)) (hu : un' = false → un = false ∧ ∀ p, c.L p → jmp (c.op p) = true → c.all.b p = c.b p) : Pm c.all tc' cm' un' := by
  have sb := all_Sb c
  obtain ⟨ok, st⟩ := all_St x.ok
  have hb : ∀ p, p < c.n → ls p = false → c.all.b p = c.b p := fun p hp h => by
    rw [x.all]
    refine thr_b _ c p (fun k => ?_)
    unfold lsD at k
    rw [List.mem_reverse, List.mem_filter] at k
    rw [h] at k; cases k.2
  have hnx : ∀ p, c.all.nx p = c.nx p := fun p => Cf.nf_congr sb.n (fun q _ => by rw [sb.lf]) (p + 1)
  refine ⟨ok, fun p hp hj => ?_, fun t ht' p hp hL => ?_, fun p hp hi => ?_, fun e p hp => ?_⟩
  · have hp' := (sb.L p).1 hp
    rw [sb.op] at hj
    refine ⟨st p hp' hj, (hc _ p).2 ?_⟩
    cases e : ls p with
    | true => exact .inr ⟨hp', rfl, rfl⟩
    | false =>
      rw [hb p hp'.1 e]
      exact .inl (x.st p hp' hj e).2
  · have ht2 := (sb.L t).1 ht'
    have hL' := (sb.L p).1 hL
    rw [sb.op]
    rcases (hc t p).1 hp with k | ⟨_, k2, k3⟩
    · obtain ⟨c1, c2, c3⟩ := x.cm t ht2 p k hL'
      exact ⟨c1, by rw [hb p hL'.1 c2]; exact c3⟩
    · exact ⟨hl p k2, k3⟩
  · have hp' := (sb.L p).1 hp
    rw [ht]
    cases e : ls p with
    | true => exact .inr ⟨hp', rfl⟩
    | false =>
      left
      have : c.idl p = true := by
        unfold Cf.idl at hi ⊢
        rw [sb.mv, sb.op, hb p hp'.1 e, hnx] at hi
        exact hi
      rcases x.td p hp' this with k | k
      · exact k
      · rw [k] at e; cases e
  · obtain ⟨e1, e2⟩ := hu e
    have eb : Eb c c.all := ⟨sb.n, sb.op, sb.a, fun _ _ => by rw [sb.lf], sb.mv, e2⟩
    exact eb.R (x.un e1 p ((sb.L p).1 hp))
def Cf.pv (c : Cf) : Nat → Option Nat
  | 0 => none
  | p + 1 => if c.lf p then some p else c.pv p
theorem pv_some {c : Cf} : ∀ {p q : Nat}, c.pv p = some q → q < p ∧ c.lf q = true ∧ ∀ r, q < r → r < p → c.lf r = false
  | 0, q, h => by cases h
  | p + 1, q, h => by
    unfold Cf.pv at h
    split at h
    · rename_i e
      cases h
      exact ⟨by omega, e, fun r h1 h2 => by omega⟩
    · rename_i e
      obtain ⟨h1, h2, h3⟩ := pv_some h
      refine ⟨by omega, h2, fun r k1 k2 => ?_⟩
      by_cases d : r = p
      · subst d; simpa using e
      · exact h3 r k1 (by omega)
theorem pv_none {c : Cf} : ∀ {p : Nat}, c.pv p = none → ∀ r, r < p → c.lf r = false
  | 0, _, r, h => by omega
  | p + 1, h, r, hr => by
    unfold Cf.pv at h
    split at h
    · cases h
    · rename_i e
      by_cases d : r = p
      · subst d; simpa using e
      · exact pv_none h r (by omega)
structure Ou where
  c : Cf
  ls : Nat → Bool
  tc : Nat → Bool
def Ou.one (cm : Nat → List Nat) (s : Ou) (p : Nat) : Ou :=
  ⟨{ s.c with lf := fun q => s.c.lf q && !(q == p), b := fun q => if q ∈ cm p then s.c.nx p else s.c.b q },
   fun q => s.ls q || decide (q ∈ cm p), fun q => s.tc q || s.c.pv p == some q⟩
def Ou.run (cm : Nat → List Nat) (s : Ou) (l : List Nat) : Ou := l.foldl (Ou.one cm) s
structure OuI (cm : Nat → List Nat) (s0 : Ou) (D : Nat → Bool) (m : Nat) (s : Ou) : Prop where
  n : s.c.n = s0.c.n
  op : s.c.op = s0.c.op
  a : s.c.a = s0.c.a
  mv : s.c.mv = s0.c.mv
  lf : ∀ p, p < s0.c.n → s.c.lf p = (s0.c.lf p && !(D p && decide (m ≤ p)))
  b1 : ∀ p, s0.c.L p → jmp (s0.c.op p) = true → D p = false → s0.c.b p < m ∨ D (s0.c.b p) = false → s.c.b p = s0.c.b p
  b2 : ∀ p, s0.c.L p → jmp (s0.c.op p) = true → D p = false → m ≤ s0.c.b p → D (s0.c.b p) = true → s.c.b p = (s0.c.drp D).nf (s0.c.b p)
  l1 : ∀ p, s0.c.L p → D p = false → s0.ls p = false → s.ls p = true → jmp (s0.c.op p) = true ∧ m ≤ s0.c.b p ∧ D (s0.c.b p) = true
  l2 : ∀ p, s0.c.L p → D p = false → jmp (s0.c.op p) = true → m ≤ s0.c.b p → D (s0.c.b p) = true → s.ls p = true
  l3 : ∀ p, s0.ls p = true → s.ls p = true
  t1 : ∀ p, s0.tc p = true → s.tc p = true
  t2 : ∀ p, s0.c.L p → D p = false → s0.c.nx p < s0.c.n → m ≤ s0.c.nx p → D (s0.c.nx p) = true → s.tc p = true
theorem OuI.start (cm : Nat → List Nat) (s : Ou) (D : Nat → Bool) (hb : ∀ p, s.c.L p → jmp (s.c.op p) = true → s.c.b p < s.c.n) : OuI cm s D s.c.n s := by
  refine ⟨rfl, rfl, rfl, rfl, fun p hp => ?_, fun _ _ _ _ _ => rfl, fun p hp hj _ h _ => ?_, fun p hp hd h1 h2 => ?_, fun p hp _ hj h _ => ?_, fun _ h => h, fun _ h => h, fun p hp _ h1 h2 _ => by omega⟩
  · rw [decide_eq_false (by omega), Bool.and_false, Bool.not_false, Bool.and_true]
  · have := hb p hp hj; omega
  · rw [h1] at h2; cases h2
  · have := hb p hp hj; omega
theorem Cf.nf_from {c d : Cf} {p : Nat} (hn : d.n = c.n) (hl : ∀ q, p ≤ q → q < c.n → d.lf q = c.lf q) : d.nf p = c.nf p := by
  rcases Nat.lt_or_ge c.n p with e | e
  · rw [Cf.nf_past (by omega), Cf.nf_past (by omega), hn]
  · obtain ⟨k1, k2⟩ := c.nf_out p
    have hL : ∀ q, p ≤ q → (d.L q ↔ c.L q) := fun q hq => by
      unfold Cf.L
      rw [hn]
      exact ⟨fun h => ⟨h.1, by rw [← hl q hq h.1]; exact h.2⟩, fun h => ⟨h.1, by rw [hl q hq h.1]; exact h.2⟩⟩
    refine Cf.nf_eq ?_ (fun r h1 h2 h3 => k2 r h1 h2 ((hL r h1).1 h3)) (by omega)
    rcases k1 with k1 | k1
    · exact .inl ⟨(hL _ k1.2).2 k1.1, k1.2⟩
    · exact .inr (by rw [hn]; exact k1)
theorem pv_eq {c : Cf} {p q : Nat} (h : q < p) (hq : c.lf q = true) (hr : ∀ r, q < r → r < p → c.lf r = false) : c.pv p = some q := by
  cases e : c.pv p with
  | none => rw [pv_none e q h] at hq; cases hq
  | some t =>
    obtain ⟨h1, h2, h3⟩ := pv_some e
    rcases Nat.lt_trichotomy t q with d | d | d
    · rw [h3 q d h] at hq; cases hq
    · rw [d]
    · rw [hr t d h1] at h2; cases h2
theorem OuI.skip {cm : Nat → List Nat} {s0 s : Ou} {D : Nat → Bool} {m : Nat} (x : OuI cm s0 D (m + 1) s) (hb : ∀ p, s0.c.L p → jmp (s0.c.op p) = true → s0.c.L (s0.c.b p)) (hm : (s0.c.lf m && D m) = false) : OuI cm s0 D m s := by
  have no : s0.c.L m → D m = false := fun h => by rw [h.2] at hm; simpa using hm
  refine ⟨x.n, x.op, x.a, x.mv, fun p hp => ?_, fun p hp hj hd h => x.b1 p hp hj hd (h.imp (fun k => by omega) id), fun p hp hj hd h1 h2 => ?_, fun p hp hd h1 h2 => ?_, fun p hp hd hj h1 h2 => ?_, x.l3, x.t1, fun p hp hd h1 h2 h3 => ?_⟩
  · rw [x.lf p hp]
    by_cases e : p = m
    · subst e
      cases h1 : s0.c.lf p with
      | false => rfl
      | true => rw [no ⟨hp, h1⟩]; rfl
    · have : decide (m + 1 ≤ p) = decide (m ≤ p) := by
        by_cases k : m ≤ p
        · rw [decide_eq_true k, decide_eq_true (by omega)]
        · rw [decide_eq_false k, decide_eq_false (by omega)]
      rw [this]
  · have hL := hb p hp hj
    by_cases e : s0.c.b p = m
    · rw [e] at hL h2; rw [no hL] at h2; cases h2
    · exact x.b2 p hp hj hd (by omega) h2
  · obtain ⟨k1, k2, k3⟩ := x.l1 p hp hd h1 h2
    exact ⟨k1, by omega, k3⟩
  · have hL := hb p hp hj
    by_cases e : s0.c.b p = m
    · rw [e] at hL h2; rw [no hL] at h2; cases h2
    · exact x.l2 p hp hd hj (by omega) h2
  · by_cases e : s0.c.nx p = m
    · have hL := (Cf.nf_L h1).1
      rw [show s0.c.nf (p + 1) = m from e] at hL
      rw [e, no hL] at h3
      cases h3
    · exact x.t2 p hp hd h1 (by omega) h3
theorem OuI.step {cm : Nat → List Nat} {s0 s : Ou} {D : Nat → Bool} {m : Nat} (x : OuI cm s0 D (m + 1) s) (hm : s0.c.L m) (hD : D m = true)
    (hst : ∀ p, s0.c.L p → jmp (s0.c.op p) = true → p ∈ cm (s0.c.b p)) (hcm : ∀ t, s0.c.L t → ∀ p ∈ cm t, s0.c.L p → jmp (s0.c.op p) = true ∧ s0.c.b p = t) : OuI cm s0 D m (s.one cm m) := by
  have hlf : ∀ p, p < s0.c.n → p ≠ m → s.c.lf p = (s0.c.lf p && !(D p && decide (m ≤ p))) := fun p hp e => by
    rw [x.lf p hp]
    have : decide (m + 1 ≤ p) = decide (m ≤ p) := by
      by_cases k : m ≤ p
      · rw [decide_eq_true k, decide_eq_true (by omega)]
      · rw [decide_eq_false k, decide_eq_false (by omega)]
    rw [this]
  have hnx : s.c.nx m = (s0.c.drp D).nf m := by
    rw [drp_gone hm hD]
    refine Cf.nf_from (c := s0.c.drp D) x.n (fun q h1 h2 => ?_)
    rw [hlf q h2 (by omega), decide_eq_true (by omega), Bool.and_true]
    rfl
  have notin : ∀ p, s0.c.L p → s0.c.b p ≠ m → p ∉ cm m := fun p hp h k => h (hcm m hm p k hp).2
  refine ⟨x.n, x.op, x.a, x.mv, fun p hp => ?_, fun p hp hj hd h => ?_, fun p hp hj hd h1 h2 => ?_, fun p hp hd h1 h2 => ?_, fun p hp hd hj h1 h2 => ?_, fun p h => ?_, fun p h => ?_, fun p hp hd h1 h2 h3 => ?_⟩
  · show (s.c.lf p && !(p == m)) = _
    by_cases e : p = m
    · subst e
      rw [hD, decide_eq_true (Nat.le_refl _)]
      simp
    · rw [hlf p hp e, beq_eq_false_iff_ne.2 e, Bool.not_false, Bool.and_true]
  · have hne : s0.c.b p ≠ m := fun e => by
      rcases h with k | k
      · omega
      · rw [e, hD] at k; cases k
    show (if p ∈ cm m then s.c.nx m else s.c.b p) = _
    rw [if_neg (notin p hp hne)]
    exact x.b1 p hp hj hd (h.imp (fun k => by omega) id)
  · show (if p ∈ cm m then s.c.nx m else s.c.b p) = _
    by_cases e : s0.c.b p = m
    · have := hst p hp hj
      rw [e] at this
      rw [if_pos this, hnx, e]
    · rw [if_neg (notin p hp e)]
      exact x.b2 p hp hj hd (by omega) h2
  · have h2' : (s.ls p || decide (p ∈ cm m)) = true := h2
    rw [Bool.or_eq_true, decide_eq_true_eq] at h2'
    rcases h2' with k | k
    · obtain ⟨k1, k2, k3⟩ := x.l1 p hp hd h1 k
      exact ⟨k1, by omega, k3⟩
    · obtain ⟨k1, k2⟩ := hcm m hm p k hp
      exact ⟨k1, by omega, by rw [k2]; exact hD⟩
  · show (s.ls p || decide (p ∈ cm m)) = true
    by_cases e : s0.c.b p = m
    · have := hst p hp hj
      rw [e] at this
      rw [decide_eq_true this, Bool.or_true]
    · rw [x.l2 p hp hd hj (by omega) h2, Bool.true_or]
  · show (s.ls p || decide (p ∈ cm m)) = true
    rw [x.l3 p h, Bool.true_or]
  · show (s.tc p || s.c.pv m == some p) = true
    rw [x.t1 p h, Bool.true_or]
  · show (s.tc p || s.c.pv m == some p) = true
    by_cases e : s0.c.nx p = m
    · have hpm : p < m := by have := (Cf.nf_L h1).2; rw [show s0.c.nf (p + 1) = m from e] at this; omega
      have : s.c.pv m = some p := by
        refine pv_eq hpm ?_ (fun r k1 k2 => ?_)
        · rw [hlf p hp.1 (by omega), hp.2, hd]; rfl
        · rw [hlf r (by have := hm.1; omega) (by omega)]
          have hn : ¬ s0.c.L r := (s0.c.nf_out (p + 1)).2 r k1 (by rw [show s0.c.nf (p + 1) = m from e]; exact k2)
          have hrn : r < s0.c.n := by have := hm.1; omega
          cases hl : s0.c.lf r with
          | false => rfl
          | true => exact (hn ⟨hrn, hl⟩).elim
      rw [this]
      simp
    · rw [x.t2 p hp hd h1 (by omega) h3, Bool.true_or]
theorem OuI.run {cm : Nat → List Nat} {s0 : Ou} {D : Nat → Bool} (hb : ∀ p, s0.c.L p → jmp (s0.c.op p) = true → s0.c.L (s0.c.b p))
    (hst : ∀ p, s0.c.L p → jmp (s0.c.op p) = true → p ∈ cm (s0.c.b p)) (hcm : ∀ t, s0.c.L t → ∀ p ∈ cm t, s0.c.L p → jmp (s0.c.op p) = true ∧ s0.c.b p = t) :
    ∀ (m : Nat) (s : Ou), m ≤ s0.c.n → OuI cm s0 D m s → OuI cm s0 D 0 (s.run cm ((List.range m).filter (fun p => s0.c.lf p && D p)).reverse)
  | 0, s, _, x => x
  | m + 1, s, hm, x => by
    rw [List.range_succ, List.filter_append, List.reverse_append]
    cases e : (s0.c.lf m && D m) with
    | true =>
      have e' := e
      rw [Bool.and_eq_true] at e'
      have : [m].filter (fun p => s0.c.lf p && D p) = [m] := by simp [e]
      rw [this]
      exact OuI.run hb hst hcm m (s.one cm m) (by omega) (x.step ⟨by omega, e'.1⟩ e'.2 hst hcm)
    | false =>
      have : [m].filter (fun p => s0.c.lf p && D p) = [] := by simp [e]
      rw [this]
      exact OuI.run hb hst hcm m s (by omega) (x.skip hb e)
theorem OuI.eb {cm : Nat → List Nat} {s0 s : Ou} {D : Nat → Bool} (o : OuI cm s0 D 0 s) (h : s0.c.Ok) : Eb (s0.c.cut D) s.c := by
  refine ⟨o.n, o.op, o.a, fun p hp => ?_, o.mv, fun p hp hj => ?_⟩
  · rw [o.lf p hp, decide_eq_true (Nat.zero_le _), Bool.and_true]
    rfl
  · obtain ⟨h1, h2⟩ := cut_L.1 hp
    have hb := (h.j p h1 hj).1
    show s.c.b p = (s0.c.drp D).nf (s0.c.b p)
    cases e : D (s0.c.b p) with
    | true => exact o.b2 p h1 hj h2 (Nat.zero_le _) e
    | false => rw [o.b1 p h1 hj h2 (.inr e), drp_self hb e]
theorem Pm.out {c : Cf} {tc tcI ls0 : Nat → Bool} {cm : Nat → List Nat} {un : Bool} {D : Nat → Bool} {s : Ou} (x : Pm c tc cm un) (hl : ∀ p, c.L p → ls0 p = false) (o : OuI cm ⟨c, ls0, tcI⟩ D 0 s) (hok : (c.cut D).Ok) (hall : ∀ p, (c.cut D).L p → (c.cut D).R p)
    (htc : ∀ p, c.L p → D p = false → c.idl p = true → tcI p = true) : Ps s.c s.ls s.tc cm false := by
  have eb := o.eb x.ok
  have lft : ∀ p, s.c.L p → c.L p ∧ D p = false := fun p hp => cut_L.1 ((eb.L p).1 hp)
  have nol : ∀ p, c.L p → D p = false → s.ls p = false → jmp (c.op p) = true → D (c.b p) = false := fun p hp hd hs hj => by
    cases e : D (c.b p) with
    | false => rfl
    | true => rw [o.l2 p hp hd hj (Nat.zero_le _) e] at hs; cases hs
  have eop : s.c.op = c.op := o.op
  have ea : s.c.a = c.a := o.a
  have emv : s.c.mv = c.mv := o.mv
  refine ⟨eb.ok hok, fun p hp hj hs => ?_, fun t ht p hp hL => ?_, fun p hp hi => ?_, fun _ p hp => eb.R (hall p ((eb.L p).1 hp))⟩
  · obtain ⟨h1, h2⟩ := lft p hp
    rw [eop] at hj
    have hd := nol p h1 h2 hs hj
    have hb : s.c.b p = c.b p := o.b1 p h1 hj h2 (.inr hd)
    obtain ⟨k1, k2⟩ := x.st p h1 hj
    rw [hb]
    refine ⟨?_, k2⟩
    rw [St_on] at k1 ⊢
    rw [hb]
    unfold Cf.on at k1 ⊢
    rw [eop, ea]
    exact k1
  · obtain ⟨h1, h2⟩ := lft p hL
    obtain ⟨t1, t2⟩ := lft t ht
    obtain ⟨k1, k2⟩ := x.cm t t1 p hp h1
    rw [eop]
    refine ⟨k1, ?_, ?_⟩
    · cases e : s.ls p with
      | false => rfl
      | true =>
        obtain ⟨_, _, q⟩ := o.l1 p h1 h2 (hl p h1) e
        have q' : D (c.b p) = true := q
        rw [k2, t2] at q'
        cases q'
    · have : s.c.b p = c.b p := o.b1 p h1 k1 h2 (.inr (by show D (c.b p) = false; rw [k2]; exact t2))
      rw [this]; exact k2
  · obtain ⟨h1, h2⟩ := lft p hp
    cases e : s.ls p with
    | true => exact .inr rfl
    | false =>
      left
      have hnxs : s.c.nx p = (c.drp D).nf (c.nx p) := by
        show s.c.nf (p + 1) = (c.drp D).nf (c.nf (p + 1))
        rw [eb.nf, cut_nf, drp_nf (p := p + 1) h1.1]
      by_cases hlt : c.nx p < c.n
      · cases hd : D (c.nx p) with
        | true => exact o.t2 p h1 h2 hlt (Nat.zero_le _) hd
        | false =>
          rw [drp_self (show c.L (c.nx p) from (Cf.nf_L hlt).1) hd] at hnxs
          refine o.t1 p (htc p h1 h2 ?_)
          unfold Cf.idl at hi ⊢
          rw [emv, eop, hnxs] at hi
          cases hk : (c.op p == 25 || chs (c.op p)) with
          | false => rw [hk] at hi; exact hi
          | true =>
            have hj : jmp (c.op p) = true := by
              simp at hk
              rcases hk with k | k
              · rw [k]; rfl
              · exact chs_jmp k
            rw [hk, o.b1 p h1 hj h2 (.inr (nol p h1 h2 e hj))] at hi
            exact hi
      · exfalso
        have hn : c.nx p = c.n := by have := c.nf_le (p + 1); show c.nf (p + 1) = _; unfold Cf.nx at hlt; omega
        rw [hn, show (c.drp D).nf c.n = c.n from Cf.nf_past (c := c.drp D) (Nat.le_refl _)] at hnxs
        have hi2 := (eb.ok hok).idl hp hi
        have := hi2.1.1
        rw [hnxs, o.n] at this
        exact absurd this (by show ¬ c.n < c.n; omega)
open Classical in
noncomputable def Cf.un (c : Cf) (p : Nat) : Bool := decide (¬ c.R p)
theorem un_iff {c : Cf} (p : Nat) : c.un p = true ↔ ¬ c.R p := by unfold Cf.un; simp
theorem Pm.outR {c : Cf} {tc ls0 : Nat → Bool} {cm : Nat → List Nat} {un : Bool} {s : Ou} (x : Pm c tc cm un) (hl : ∀ p, c.L p → ls0 p = false) (o : OuI cm ⟨c, ls0, tc⟩ c.un 0 s) : Pm s.c s.tc cm false ∧ (∀ p, s.c.L p → s.ls p = false) ∧ Eb (c.cut c.un) s.c := by
  obtain ⟨k1, k2⟩ := x.ok.cutR (D := c.un) (fun p _ => un_iff p)
  have ps := x.out hl o k1 k2 (fun p hp _ hi => x.td p hp hi)
  have eb := o.eb x.ok
  have hls : ∀ p, s.c.L p → s.ls p = false := fun p hp => by
    obtain ⟨h1, h2⟩ := cut_L.1 ((eb.L p).1 hp)
    cases e : s.ls p with
    | false => rfl
    | true =>
      obtain ⟨q1, _, q⟩ := o.l1 p h1 h2 (hl p h1) e
      have q' : c.un (c.b p) = true := q
      have hr : c.R p := Classical.byContradiction fun k => by rw [(un_iff p).2 k] at h2; cases h2
      exact ((un_iff _).1 q' (R_jump h1 hr q1)).elim
  refine ⟨⟨ps.ok, fun p hp hj => ps.st p hp hj (hls p hp), fun t ht p hp hL => ?_, fun p hp hi => ?_, ps.un⟩, hls, eb⟩
  · obtain ⟨c1, _, c3⟩ := ps.cm t ht p hp hL
    exact ⟨c1, c3⟩
  · rcases ps.td p hp hi with k | k
    · exact k
    · rw [hls p hp] at k; cases k
theorem Pm.outI {c : Cf} {tc ls0 : Nat → Bool} {cm : Nat → List Nat} {s : Ou} (x : Pm c tc cm false) (hl : ∀ p, c.L p → ls0 p = false) (o : OuI cm ⟨c, ls0, fun _ => false⟩ c.idl 0 s) : Ps s.c s.ls s.tc cm false ∧ Eb (c.cut c.idl) s.c := by
  obtain ⟨k1, k2, _⟩ := x.ok.cutI
  exact ⟨x.out hl o k1 (k2 (x.un rfl)) (fun p hp hd hi => by rw [hi] at hd; cases hd), o.eb x.ok⟩
theorem cut_none {c : Cf} (h : c.Ok) {D : Nat → Bool} (hd : ∀ p, c.L p → D p = false) : Eb (c.cut D) c := by
  have hlf : ∀ p, p < c.n → c.lf p = (c.drp D).lf p := fun p hp => by
    show c.lf p = (c.lf p && !D p)
    cases e : c.lf p with
    | false => rfl
    | true => rw [hd p ⟨hp, e⟩]; rfl
  refine ⟨rfl, rfl, rfl, hlf, rfl, fun p hp hj => ?_⟩
  have hb := (h.j p (cut_L.1 hp).1 hj).1
  exact (drp_self hb (hd _ hb)).symm
def SpR (d e : Cf) : Prop := ∃ e1, Cmp (d.all.cut d.all.un) e1 ∧ Cmp (e1.cut e1.idl) e
theorem Cmp.un {c d : Cf} (x : Cmp c d) (h : c.Ok) {p : Nat} (hp : c.L p) : d.un (c.rk p) = c.un p := by
  have := x.R h hp
  cases e : c.un p with
  | true => exact (un_iff _).2 (fun k => (un_iff p).1 e (this.1 k))
  | false =>
    cases e2 : d.un (c.rk p) with
    | false => rfl
    | true =>
      have : ¬ c.R p := fun k => (un_iff _).1 e2 (this.2 k)
      rw [(un_iff p).2 this] at e
      cases e
theorem round_cmp {c c2 c3 d e : Cf} (x : Cmp c d) (h : c.Ok) (h2 : Eb (c.all.cut c.all.un) c2) (h3 : Eb (c2.cut c2.idl) c3) (hr : SpR d e) : Cmp c3 e := by
  obtain ⟨e1, y1, y2⟩ := hr
  have x1 := x.all h
  have ok1 := (all_St h).1
  have ok1c := (ok1.cutR (D := c.all.un) (fun p _ => un_iff p)).1
  have z1 := h2.cmp ok1c (x1.cut ok1 (fun p hp => x1.un ok1 hp) y1)
  have ok2 := h2.ok ok1c
  exact h3.cmp ok2.cutI.1 (z1.cut ok2 (fun p hp => z1.idl ok2 hp) y2)
theorem rk_cut_le (c : Cf) (D : Nat → Bool) : ∀ p, (c.cut D).rk p ≤ c.rk p
  | 0 => Nat.le_refl _
  | p + 1 => by
    rw [rk_on, rk_on]
    have := rk_cut_le c D p
    have : (if (c.cut D).lf p = true then 1 else 0) ≤ (if c.lf p = true then 1 else 0) := by
      show (if (c.lf p && !D p) = true then 1 else 0) ≤ _
      cases c.lf p <;> simp
      cases D p <;> simp
    omega
theorem rk_cut_eq {c : Cf} {D : Nat → Bool} : ∀ p, p ≤ c.n → (c.cut D).rk p = c.rk p → ∀ q, q < p → c.L q → D q = false
  | 0, _, _, q, hq, _ => by omega
  | p + 1, hp, h, q, hq, hL => by
    rw [rk_on, rk_on] at h
    have h1 := rk_cut_le c D p
    have h2 : (if (c.cut D).lf p = true then 1 else 0) = (if (c.lf p && !D p) = true then 1 else 0) := rfl
    rw [h2] at h
    by_cases e : q = p
    · subst e
      rw [hL.2] at h
      cases hd : D q with
      | false => rfl
      | true => rw [hd] at h; simp at h; omega
    · refine rk_cut_eq p (by omega) ?_ q (by omega) hL
      have : (if (c.lf p && !D p) = true then 1 else 0) ≤ (if c.lf p = true then 1 else 0) := by
        cases c.lf p <;> simp
        cases D p <;> simp
      omega
theorem SpR.same {d e : Cf} (h : d.Ok) (hl : ∀ k, k < d.n → d.lf k = true) (r : SpR d e) : e.n ≤ d.n ∧ (e.n = d.n → (∀ k, d.L k → d.all.R k) ∧ (∀ k, d.L k → d.all.idl k = false) ∧ Cmp d.all e) := by
  obtain ⟨e1, y1, y2⟩ := r
  have sb := all_Sb d
  have hrk : ∀ (c : Cf) (m : Nat), (∀ k, k < m → c.lf k = true) → c.rk m = m := by
    intro c m
    induction m with
    | zero => intro _; rfl
    | succ m ih => intro hm; rw [rk_on, ih (fun k hk => hm k (by omega)), hm m (by omega)]; rfl
  have r0 : d.all.rk d.all.n = d.n := by rw [sb.n]; exact hrk d.all d.n (fun k hk => by rw [sb.lf]; exact hl k hk)
  have n1 : e1.n ≤ d.n := by rw [y1.n]; exact Nat.le_trans (rk_cut_le _ _ _) (Nat.le_of_eq r0)
  have r1 : e1.rk e1.n = e1.n := hrk e1 e1.n y1.lf
  have n2 : e.n ≤ e1.n := by rw [y2.n]; exact Nat.le_trans (rk_cut_le _ _ _) (Nat.le_of_eq r1)
  refine ⟨by omega, fun he => ?_⟩
  have ok1 := (all_St h).1
  have hR : ∀ k, d.all.L k → d.all.un k = false := fun k hk => rk_cut_eq d.all.n (Nat.le_refl _) (by
    have := y1.n
    show (d.all.cut d.all.un).rk d.all.n = d.all.rk d.all.n
    rw [r0]
    have h9 : e1.n = (d.all.cut d.all.un).rk d.all.n := y1.n
    omega) k hk.1 hk
  have eb1 := cut_none ok1 hR
  have z1 : Cmp d.all e1 := eb1.cmp (ok1.cutR (D := d.all.un) (fun p _ => un_iff p)).1 y1
  have ok2 := z1.ok ok1
  have hI : ∀ k, e1.L k → e1.idl k = false := fun k hk => rk_cut_eq e1.n (Nat.le_refl _) (by
    rw [r1]
    have h9 : e.n = (e1.cut e1.idl).rk e1.n := y2.n
    omega) k hk.1 hk
  have eb2 := cut_none ok2 hI
  have z2 : Cmp e1 e := eb2.cmp ok2.cutI.1 y2
  have idn : ∀ k, k ≤ d.n → d.all.rk k = k := fun k hk => hrk d.all k (fun j hj => by rw [sb.lf]; exact hl j (by omega))
  refine ⟨fun k hk => ?_, fun k hk => ?_, ?_⟩
  · have := hR k ((sb.L k).2 hk)
    exact Classical.byContradiction fun q => by rw [(un_iff k).2 q] at this; cases this
  · have hk' := (sb.L k).2 hk
    rw [← z1.idl ok1 hk']
    exact hI _ (z1.L hk')
  · exact z1.cut ok1 (D := fun _ => false) (E := e1.idl) (fun p hp => hI _ (z1.L hp)) y2 |> fun q => (cut_none ok1 (fun _ _ => rfl)).cmp ((cut_none ok1 (D := fun _ => false) (fun _ _ => rfl)).symm.ok ok1) q
theorem Eb.trans {c d e : Cf} (x : Eb c d) (y : Eb d e) : Eb c e :=
  ⟨y.n.trans x.n, y.op.trans x.op, y.a.trans x.a, fun p hp => (y.lf p (by rw [x.n]; exact hp)).trans (x.lf p hp), y.mv.trans x.mv, fun p hp hj => (y.b p ((x.L p).2 hp) (by rw [x.op]; exact hj)).trans (x.b p hp hj)⟩
theorem Eb.rfl' (c : Cf) : Eb c c := ⟨rfl, rfl, rfl, fun _ _ => rfl, rfl, fun _ _ _ => rfl⟩
def ImR (c c3 : Cf) : Prop := ∃ c2, Eb (c.all.cut c.all.un) c2 ∧ Eb (c2.cut c2.idl) c3
def Cf.Tn (c : Cf) : Prop := ∃ p, c.L p ∧ jmp (c.op p) = true ∧ c.all.b p ≠ c.b p
def ImT (c c3 : Cf) : Prop := c.Tn ∨ ∃ p, c.L p ∧ ¬ c3.L p
def SpT (d e : Cf) : Prop := d.Tn ∨ e.n ≠ d.n
theorem ImR.n {c c3 : Cf} (r : ImR c c3) : c3.n = c.n ∧ c3.op = c.op ∧ c3.a = c.a ∧ c3.mv = c.mv := by
  obtain ⟨c2, x, y⟩ := r
  have s := all_Sb c
  have e1 : (c2.cut c2.idl).n = c2.n := rfl
  have e2 : (c.all.cut c.all.un).n = c.all.n := rfl
  refine ⟨?_, ?_, ?_, ?_⟩
  · rw [y.n]; show c2.n = _; rw [x.n]; exact s.n
  · rw [y.op]; show c2.op = _; rw [x.op]; exact s.op
  · rw [y.a]; show c2.a = _; rw [x.a]; exact s.a
  · rw [y.mv]; show c2.mv = _; rw [x.mv]; exact s.mv
theorem ImR.sub {c c3 : Cf} (r : ImR c c3) {p : Nat} (h : c3.L p) : c.L p := by
  obtain ⟨c2, x, y⟩ := r
  have h1 := (cut_L.1 ((y.L p).1 h)).1
  have h2 := (cut_L.1 ((x.L p).1 h1)).1
  exact ((all_Sb c).L p).1 h2
theorem ImR.ok {c c3 : Cf} (r : ImR c c3) (h : c.Ok) : c3.Ok := by
  obtain ⟨c2, x, y⟩ := r
  have k2 := x.ok ((all_St h).1.cutR (D := c.all.un) (fun p _ => un_iff p)).1
  exact y.ok k2.cutI.1
theorem rk_sub {c d : Cf} : ∀ m, (∀ q, q < m → d.lf q = true → c.lf q = true) → d.rk m ≤ c.rk m ∧ (d.rk m = c.rk m → ∀ q, q < m → c.lf q = true → d.lf q = true) ∧ ((∀ q, q < m → c.lf q = true → d.lf q = true) → d.rk m = c.rk m)
  | 0, _ => ⟨Nat.le_refl _, fun _ q hq => by omega, fun _ => rfl⟩
  | m + 1, h => by
    obtain ⟨h1, h2, h3⟩ := rk_sub m (fun q hq => h q (by omega))
    have hm := h m (by omega)
    rw [rk_on, rk_on]
    have hle : (if d.lf m = true then 1 else 0) ≤ (if c.lf m = true then 1 else 0) := by
      cases e : d.lf m with
      | false => simp
      | true => rw [hm e]; simp
    refine ⟨by omega, fun e q hq hc => ?_, fun k => ?_⟩
    · by_cases d' : q = m
      · subst d'
        rw [hc] at e
        cases e2 : d.lf q with
        | true => rfl
        | false => rw [e2] at e; simp at e; omega
      · exact h2 (by omega) q (by omega) hc
    · rw [h3 (fun q hq => k q (by omega))]
      have : d.lf m = c.lf m := by
        cases e : c.lf m with
        | true => exact k m (by omega) e
        | false => cases e2 : d.lf m with
          | false => rfl
          | true => rw [hm e2] at e; cases e
      rw [this]
theorem all_rk (c : Cf) : c.all.rk = c.rk := by
  funext p
  unfold Cf.rk
  rw [(all_Sb c).lf]
theorem Cmp.Tn {c d : Cf} (x : Cmp c d) (h : c.Ok) : d.Tn ↔ c.Tn := by
  have xa := x.all h
  have oka := (all_St h).1
  have s := all_Sb c
  have key : ∀ p, c.L p → jmp (c.op p) = true → (d.all.b (c.rk p) ≠ d.b (c.rk p) ↔ c.all.b p ≠ c.b p) := fun p hp hj => by
    have hpa := (s.L p).2 hp
    have hja : jmp (c.all.op p) = true := by rw [s.op]; exact hj
    have e1 : d.all.b (c.rk p) = c.rk (c.all.b p) := by
      have := xa.b p hpa hja
      rw [all_rk] at this
      exact this
    have e2 := x.b p hp hj
    rw [e1, e2]
    have l1 := (s.L _).1 (oka.j p hpa hja).1
    have l2 := (h.j p hp hj).1
    exact ⟨fun k e => k (by rw [e]), fun k e => k (rk_inj l1 l2 e)⟩
  constructor
  · rintro ⟨k, hk, hj, hb⟩
    obtain ⟨p, hp, rfl⟩ := x.at hk.1
    rw [x.op p hp] at hj
    exact ⟨p, hp, hj, (key p hp hj).1 hb⟩
  · rintro ⟨p, hp, hj, hb⟩
    exact ⟨c.rk p, x.L hp, by rw [x.op p hp]; exact hj, (key p hp hj).2 hb⟩
theorem flag_iff {c c3 d e : Cf} (x : Cmp c d) (y : Cmp c3 e) (h : c.Ok) (r : ImR c c3) : SpT d e ↔ ImT c c3 := by
  unfold SpT ImT
  rw [x.Tn h]
  have hs := rk_sub (c := c) (d := c3) c.n (fun q hq hl => (r.sub ⟨by rw [r.n.1]; exact hq, hl⟩).2)
  have e1 : e.n = c3.rk c.n := by rw [y.n, r.n.1]
  have e2 := x.n
  constructor
  · rintro (k | k)
    · exact .inl k
    · refine .inr (Classical.byContradiction fun q => k ?_)
      rw [e1, e2]
      exact hs.2.2 (fun p hp hl => Classical.byContradiction fun k2 => q ⟨p, ⟨hp, hl⟩, fun k3 => k2 k3.2⟩)
  · rintro (k | ⟨p, hp, hn⟩)
    · exact .inl k
    · refine .inr (fun k => hn ?_)
      rw [e1, e2] at k
      exact ⟨by rw [r.n.1]; exact hp.1, hs.2.1 k p hp.1 hp.2⟩
open Classical in
noncomputable def Cf.bit (c : Cf) : Nat := if c.Tn then 1 else 0
theorem bit_1 {c : Cf} (h : c.Tn) : c.bit = 1 := by unfold Cf.bit; rw [if_pos h]
theorem bit_0 {c : Cf} (h : ¬ c.Tn) : c.bit = 0 := by unfold Cf.bit; rw [if_neg h]
theorem bit_le (c : Cf) : c.bit ≤ 1 := by
  by_cases h : c.Tn
  · rw [bit_1 h]; omega
  · rw [bit_0 h]; omega
noncomputable def Cf.mI (c : Cf) : Nat := 2 * c.rk c.n + c.bit
theorem thr_same : ∀ (l : List Nat) (c : Cf), (∀ p, p < c.n → c.jl p = true → c.St p) → (∀ p ∈ l, p < c.n) → c.thr l = c
  | [], c, _, _ => rfl
  | q :: l, c, h, hl => by
    show (c.thr1 q).thr l = c
    have : c.thr1 q = c := by
      unfold Cf.thr1
      split
      · rename_i k
        exact aim_same (h q (hl q List.mem_cons_self) k)
      · rfl
    rw [this]
    exact thr_same l c h (fun p hp => hl p (List.mem_cons_of_mem _ hp))
theorem all_same {c : Cf} (h : ∀ p, c.L p → jmp (c.op p) = true → c.St p) : c.all = c :=
  thr_same _ c (fun p hp hj => h p (Cf.jl_L hp hj).1 (Cf.jl_L hp hj).2) (fun p hp => by rw [List.mem_reverse, List.mem_range] at hp; exact hp)
theorem ImR.less {c c3 : Cf} (r : ImR c c3) (h : c.Ok) (t : ImT c c3) : c3.mI < c.mI := by
  have hs := rk_sub (c := c) (d := c3) c.n (fun q hq hl => (r.sub ⟨by rw [r.n.1]; exact hq, hl⟩).2)
  unfold Cf.mI
  rw [r.n.1]
  by_cases hrem : ∃ p, c.L p ∧ ¬ c3.L p
  · have hlt : c3.rk c.n < c.rk c.n := by
      rcases Nat.lt_or_ge (c3.rk c.n) (c.rk c.n) with k | k
      · exact k
      · exfalso
        obtain ⟨p, hp, hn⟩ := hrem
        exact hn ⟨by rw [r.n.1]; exact hp.1, hs.2.1 (by omega) p hp.1 hp.2⟩
    have := bit_le c3
    omega
  · have hall : ∀ p, c.L p → c3.L p := fun p hp => Classical.byContradiction fun k => hrem ⟨p, hp, k⟩
    have ht : c.Tn := by
      rcases t with k | k
      · exact k
      · exact (hrem k).elim
    have hn : ¬ c3.Tn := by
      obtain ⟨c2, x, y⟩ := r
      have s := all_Sb c
      have ok1 := all_St h
      have ok2 := (x.ok (ok1.1.cutR (D := c.all.un) (fun p _ => un_iff p)).1)
      have n1 : ∀ p, c.all.L p → c.all.un p = false := fun p hp => by
        have := hall p ((s.L p).1 hp)
        exact (cut_L.1 ((x.L p).1 (cut_L.1 ((y.L p).1 this)).1)).2
      have n2 : ∀ p, c2.L p → c2.idl p = false := fun p hp => by
        have h2 := (cut_L.1 ((x.L p).1 hp)).1
        have := hall p ((s.L p).1 h2)
        exact (cut_L.1 ((y.L p).1 this)).2
      have z : Eb c.all c3 := (((cut_none ok1.1 n1).symm.trans x).trans (cut_none ok2 n2).symm).trans y
      have hst : ∀ p, c3.L p → jmp (c3.op p) = true → c3.St p := fun p hp hj => by
        have hp' := (z.L p).1 hp
        rw [z.op] at hj
        have k := ok1.2 p ((s.L p).1 hp') (by rw [s.op] at hj; exact hj)
        rw [St_on] at k ⊢
        have hb := z.b p hp' hj
        unfold Cf.on at k ⊢
        rw [hb, z.op, z.a]
        exact k
      rintro ⟨p, hp, hj, hb⟩
      rw [all_same hst] at hb
      exact hb rfl
    rw [bit_1 ht, bit_0 hn]
    omega
theorem Cmp.mI {c d : Cf} (x : Cmp c d) (h : c.Ok) : d.mI = c.mI := by
  unfold Cf.mI
  have e1 : d.rk d.n = c.rk c.n := by
    have : ∀ m, m ≤ d.n → d.rk m = m := by
      intro m
      induction m with
      | zero => intro _; rfl
      | succ m ih => intro hm; rw [rk_on, ih (by omega), x.lf m (by omega)]; rfl
    rw [this _ (Nat.le_refl _), x.n]
  rw [e1]
  by_cases k : c.Tn
  · rw [bit_1 k, bit_1 ((x.Tn h).2 k)]
  · rw [bit_0 k, bit_0 (fun q => k ((x.Tn h).1 q))]
def FinI : Nat → Cf → Cf → Prop
  | 0, c, c' => ImR c c' ∧ ¬ ImT c c'
  | k + 1, c, c' => ∃ c1, ImR c c1 ∧ ImT c c1 ∧ FinI k c1 c'
theorem FinI.n {c' : Cf} : ∀ {k : Nat} {c : Cf}, FinI k c c' → c'.n = c.n ∧ c'.op = c.op ∧ c'.a = c.a ∧ c'.mv = c.mv ∧ (∀ p, c'.L p → c.L p) ∧ (c.Ok → c'.Ok)
  | 0, c, ⟨r, _⟩ => ⟨r.n.1, r.n.2.1, r.n.2.2.1, r.n.2.2.2, fun p hp => r.sub hp, r.ok⟩
  | k + 1, c, ⟨c1, r, _, f⟩ => by
    obtain ⟨h1, h2, h3, h4, h5, h6⟩ := f.n
    obtain ⟨g1, g2, g3, g4⟩ := r.n
    exact ⟨h1.trans g1, h2.trans g2, h3.trans g3, h4.trans g4, fun p hp => r.sub (h5 p hp), fun h => h6 (r.ok h)⟩
def SpP {α : Type} (d : Cf) (Y : Nat → α) (e : Cf) (Z : Nat → α) : Prop :=
  ∃ (e1 : Cf) (Y1 : Nat → α), Cmp (d.all.cut d.all.un) e1 ∧ (∀ q, (d.all.cut d.all.un).L q → Y1 ((d.all.cut d.all.un).rk q) = Y q) ∧ Cmp (e1.cut e1.idl) e ∧ ∀ q, (e1.cut e1.idl).L q → Z ((e1.cut e1.idl).rk q) = Y1 q
theorem SpP.r {α : Type} {d e : Cf} {Y Z : Nat → α} (h : SpP d Y e Z) : SpR d e := by
  obtain ⟨e1, Y1, h1, _, h2, _⟩ := h
  exact ⟨e1, h1, h2⟩
def FinS {α : Type} : Nat → Cf → (Nat → α) → Cf → (Nat → α) → Prop
  | 0, d, Y, e, Z => SpP d Y e Z ∧ ¬ SpT d e
  | k + 1, d, Y, e, Z => ∃ (e1 : Cf) (Y1 : Nat → α), SpP d Y e1 Y1 ∧ SpT d e1 ∧ FinS k e1 Y1 e Z
theorem round_pay {α : Type} {c c3 d e : Cf} {X Y Z : Nat → α} (x : Cmp c d) (h : c.Ok) (r : ImR c c3) (s : SpP d Y e Z) (hy : ∀ p, c.L p → Y (c.rk p) = X p) : Cmp c3 e ∧ ∀ p, c3.L p → Z (c3.rk p) = X p := by
  obtain ⟨c2, h2, h3⟩ := r
  obtain ⟨e1, Y1, y1, py1, y2, py2⟩ := s
  have x1 := x.all h
  have ok1 := (all_St h).1
  have ok1c := (ok1.cutR (D := c.all.un) (fun p _ => un_iff p)).1
  have hun : ∀ p, c.all.L p → d.all.un (c.all.rk p) = c.all.un p := fun p hp => x1.un ok1 hp
  have z1 := h2.cmp ok1c (x1.cut ok1 hun y1)
  have ok2 := h2.ok ok1c
  have hid : ∀ p, c2.L p → e1.idl (c2.rk p) = c2.idl p := fun p hp => z1.idl ok2 hp
  have z3 := h3.cmp ok2.cutI.1 (z1.cut ok2 hid y2)
  refine ⟨z3, fun p hp => ?_⟩
  have l2c := (h3.L p).1 hp
  obtain ⟨l2, i2⟩ := cut_L.1 l2c
  have l1c := (h2.L p).1 l2
  obtain ⟨l1, u1⟩ := cut_L.1 l1c
  have l0 := ((all_Sb c).L p).1 l1
  have n2 : c2.n = c.n := h2.n.trans (all_Sb c).n
  have r1 : c2.rk p = (d.all.cut d.all.un).rk (c.rk p) := by
    rw [h2.rk p (Nat.le_of_lt l1.1)]
    have := x1.rkD (D := c.all.un) (E := d.all.un) hun p (Nat.le_of_lt l1.1)
    rw [all_rk] at this
    exact this
  have r2 : c3.rk p = (e1.cut e1.idl).rk (c2.rk p) := by
    rw [h3.rk p (Nat.le_of_lt l2.1)]
    exact z1.rkD (D := c2.idl) (E := e1.idl) hid p (Nat.le_of_lt l2.1)
  have hL1 : (d.all.cut d.all.un).L (c.rk p) := by
    refine cut_L.2 ⟨?_, ?_⟩
    · have := x1.L l1
      rw [all_rk] at this
      exact this
    · have := hun p l1
      rw [all_rk] at this
      rw [this]; exact u1
  have hL2 : (e1.cut e1.idl).L (c2.rk p) := cut_L.2 ⟨z1.L l2, by rw [hid p l2]; exact i2⟩
  rw [r2, py2 _ hL2, r1, py1 _ hL1, hy p l0]
theorem fin_join {α : Type} {c' e : Cf} {Z X : Nat → α} : ∀ (K M : Nat) (c d : Cf) (Y : Nat → α), Cmp c d → c.Ok → (∀ p, c.L p → Y (c.rk p) = X p) → FinI K c c' → FinS M d Y e Z → Cmp c' e ∧ ∀ p, c'.L p → Z (c'.rk p) = X p
  | 0, 0, c, d, Y, x, h, hy, ⟨r, _⟩, ⟨s, _⟩ => round_pay x h r s hy
  | 0, M + 1, c, d, Y, x, h, hy, ⟨r, t⟩, ⟨e1, Y1, s, t1, _⟩ => ((t ((flag_iff x (round_pay x h r s hy).1 h r).1 t1))).elim
  | K + 1, 0, c, d, Y, x, h, hy, ⟨c1, r, t, _⟩, ⟨s, t1⟩ => (t1 ((flag_iff x (round_pay x h r s hy).1 h r).2 t)).elim
  | K + 1, M + 1, c, d, Y, x, h, hy, ⟨c1, r, _, f⟩, ⟨e1, Y1, s, _, g⟩ => by
    obtain ⟨y, p1⟩ := round_pay x h r s hy
    exact fin_join K M c1 e1 Y1 y (r.ok h) p1 f g
theorem SpR.less {d e : Cf} (h : d.Ok) (hl : ∀ k, k < d.n → d.lf k = true) (s : SpR d e) (t : SpT d e) : e.mI < d.mI ∧ e.Ok := by
  have idn : ∀ m, m ≤ d.n → d.rk m = m := by
    intro m
    induction m with
    | zero => intro _; rfl
    | succ m ih => intro hm; rw [rk_on, ih (by omega), hl m (by omega)]; rfl
  have x : Cmp d d := by
    refine ⟨(idn _ (Nat.le_refl _)).symm, hl, fun p hp => by rw [idn p (Nat.le_of_lt hp.1)], fun p hp => by rw [idn p (Nat.le_of_lt hp.1)], fun p hp => by rw [idn p (Nat.le_of_lt hp.1)], fun p hp hj => ?_, h.m⟩
    rw [idn p (Nat.le_of_lt hp.1), idn _ (Nat.le_of_lt (h.j p hp hj).1.1)]
  obtain ⟨c2, hc2⟩ : ∃ c2, c2 = d.all.cut d.all.un := ⟨_, rfl⟩
  have r : ImR d (c2.cut c2.idl) := ⟨c2, by rw [hc2]; exact Eb.rfl' _, Eb.rfl' _⟩
  have y : Cmp (c2.cut c2.idl) e := round_cmp x h (c2 := c2) (c3 := c2.cut c2.idl) (by rw [hc2]; exact Eb.rfl' _) (Eb.rfl' _) s
  rw [y.mI (r.ok h)]
  exact ⟨r.less h ((flag_iff x y h r).1 t), y.ok (r.ok h)⟩
end Go.Proofs.YtgnbhhgpaldheaaGreat
namespace Go.Proofs
open Go.Shelf
def Tryz.laysM316_ren : Go.Shelf.Ren := ⟨fun | 316 => 95 | n => n, fun | 9 => 9 | 3 => 3 | 4 => 4 | 37 => 172 | 0 => 0 | 127 => 173 | 5 => 5 | n => n, fun | n => n⟩
theorem Tryz.laysM316 : Go.Proofs.LaysM.n316 Tryz.prog Tryz.laysM316_ren := {
  mixed := by kernel_rfl
  f316 := Tryz.func95.trans (congrArg some (by kernel_rfl))
  t0 := Tryz.underlying0
  a0 := Tryz.isAgg0
  z0 := Tryz.sizeOf0
  v0 := Tryz.zeroValue0
  t3 := Tryz.underlying3
  a3 := Tryz.isAgg3
  z3 := Tryz.sizeOf3
  v3 := Tryz.zeroValue3
  t4 := Tryz.underlying4
  a4 := Tryz.isAgg4
  z4 := Tryz.sizeOf4
  v4 := Tryz.zeroValue4
  t9 := Tryz.underlying9
  a9 := Tryz.isAgg9
  z9 := Tryz.sizeOf9
  v9 := Tryz.zeroValue9
  t37 := Tryz.underlying172
  a37 := Tryz.isAgg172
  z37 := Tryz.sizeOf172
  v37 := Tryz.zeroValue172
  t127 := Tryz.underlying173
  a127 := Tryz.isAgg173
  z127 := Tryz.sizeOf173
  v127 := Tryz.zeroValue173
  t5 := Tryz.underlying5
  a5 := Tryz.isAgg5
  z5 := Tryz.sizeOf5
  v5 := Tryz.zeroValue5
  i0 := by kernel_rfl
  i3 := by kernel_rfl
  i4 := by kernel_rfl
  i5 := by kernel_rfl
  i9 := by kernel_rfl
  i37 := by kernel_rfl
  i127 := by kernel_rfl }
open Go.RowKit in
theorem Tryz.stringslite_Clone (s : ByteArray) (w : World) (hlim : s.size ≤ 281474976710656) :
    Calls Tryz.prog 95 #[.string s] w fun e w' => e = .returned (.string s) ∧ Below w.heap.size w w' := Any.stringslite_Clone Tryz.laysM316 s w hlim
end Go.Proofs
namespace Go.Proofs.YtgnbhhgpaldheaaGreat
open Go Go.RowKit
set_option linter.unusedVariables false
def leV : List Int → Int
  | [] => 0
  | b :: l => b + 256 * leV l
def PV.rng (p : PV) : Prop := ∀ k, k < p.nc → -9223372036854775808 ≤ p.c1 k ∧ p.c1 k ≤ 9223372036854775807
structure PV.same (p q : PV) : Prop where
  h0 : p.params = q.params ∧ p.regs = q.regs ∧ p.line = q.line ∧ p.dots = q.dots
  n : p.nu = q.nu ∧ p.nc = q.nc ∧ p.ni = q.ni ∧ p.nl = q.nl
  u : ∀ k, k < p.nu → p.u0 k = q.u0 k ∧ p.u1 k = q.u1 k
  c : ∀ k, k < p.nc → p.c0 k = q.c0 k ∧ p.c1 k = q.c1 k ∧ p.c2 k = q.c2 k ∧ p.c3 k = q.c3 k
  i : ∀ k, k < p.ni → p.i0 k = q.i0 k ∧ p.i1 k = q.i1 k ∧ p.i2 k = q.i2 k ∧ p.i3 k = q.i3 k
  l : ∀ k, k < p.nl → p.l0 k = q.l0 k
def allRng (n : Nat) (P : Nat → PV) : Prop := ∀ k, k < n → (P k).rng
theorem UpsA.same {w : World} {v : Value} {n : Nat} {x0 y0 : Nat → Bool} {x1 y1 : Nat → Int} (h : UpsA w v n x0 x1) (e : ∀ k, k < n → x0 k = y0 k ∧ x1 k = y1 k) : UpsA w v n y0 y1 := by
  rcases h with h | ⟨b, o, cap, rfl, h1, h2, h3⟩
  · exact .inl h
  · exact .inr ⟨b, o, cap, rfl, h1, h2, fun i hi => by rw [← (e i hi).1, ← (e i hi).2]; exact h3 i hi⟩
theorem ConsA.same {w : World} {v : Value} {n : Nat} {x0 x1 x2 y0 y1 y2 : Nat → Int} {x3 y3 : Nat → ByteArray} (h : ConsA w v n x0 x1 x2 x3) (e : ∀ k, k < n → x0 k = y0 k ∧ x1 k = y1 k ∧ x2 k = y2 k ∧ x3 k = y3 k) : ConsA w v n y0 y1 y2 y3 := by
  rcases h with h | ⟨b, o, cap, rfl, h1, h2, h3⟩
  · exact .inl h
  · exact .inr ⟨b, o, cap, rfl, h1, h2, fun i hi => by rw [← (e i hi).1, ← (e i hi).2.1, ← (e i hi).2.2.1, ← (e i hi).2.2.2]; exact h3 i hi⟩
theorem InsA.same {w : World} {v : Value} {n : Nat} {x0 x1 x2 x3 y0 y1 y2 y3 : Nat → Int} (h : InsA w v n x0 x1 x2 x3) (e : ∀ k, k < n → x0 k = y0 k ∧ x1 k = y1 k ∧ x2 k = y2 k ∧ x3 k = y3 k) : InsA w v n y0 y1 y2 y3 := by
  rcases h with h | ⟨b, o, cap, rfl, h1, h2, h3⟩
  · exact .inl h
  · exact .inr ⟨b, o, cap, rfl, h1, h2, fun i hi => by rw [← (e i hi).1, ← (e i hi).2.1, ← (e i hi).2.2.1, ← (e i hi).2.2.2]; exact h3 i hi⟩
theorem IntsA.same {w : World} {v : Value} {n : Nat} {x0 y0 : Nat → Int} (h : IntsA w v n x0) (e : ∀ k, k < n → x0 k = y0 k) : IntsA w v n y0 := by
  rcases h with h | ⟨b, o, cap, rfl, h1, h2, h3⟩
  · exact .inl h
  · exact .inr ⟨b, o, cap, rfl, h1, h2, fun i hi => by rw [← e i hi]; exact h3 i hi⟩
theorem PVA.same {w : World} {p q : PV} {s4 s5 s6 s7 : Value} (h : PVA w p s4 s5 s6 s7) (e : p.same q) : PVA w q s4 s5 s6 s7 := by
  obtain ⟨⟨_, _, _, _⟩, ⟨n1, n2, n3, n4⟩, hu, hc, hi, hl⟩ := e
  exact ⟨n1 ▸ h.u.same hu, n2 ▸ h.c.same hc, n3 ▸ h.i.same hi, n4 ▸ h.l.same hl⟩
theorem ProsA.same {w : World} {v : Value} {n : Nat} {P Q : Nat → PV} (h : ProsA w v n P) (e : ∀ k, k < n → (P k).same (Q k)) : ProsA w v n Q := by
  rcases h with h | ⟨b, o, cap, rfl, h1, h2, h3⟩
  · exact .inl h
  · refine .inr ⟨b, o, cap, rfl, h1, h2, fun i hi => ?_⟩
    obtain ⟨s4, s5, s6, s7, hc, hv⟩ := h3 i hi
    obtain ⟨y1, y2, y3, y4⟩ := (e i hi).h0
    refine ⟨s4, s5, s6, s7, ?_, hv.same (e i hi)⟩
    unfold C8 at hc ⊢
    rw [← y1, ← y2, ← y3, ← y4]
    exact hc
end Go.Proofs.YtgnbhhgpaldheaaGreat
namespace Go.Proofs.YtgnbhhgpaldheaaGreat
open Go.ChangeShapes Go.WideShapes Go.ChangeAt Go Go.RowKit Go.ChangeMaps Go.WideElems
set_option linter.unusedVariables false
theorem post_low {H : Type} {enc : TypeId × Value → H} {P : Program} {f : Func} {s : ChangeSpec} {apart fresh handsOn again : Bool} {W W' : World} {args : Array Value} {v : Value} {ds gs : List (DataW H)} {before pa pv : List MemPlace}
    (hW : DataW.Whole enc P f.params.toList s.vars apart W args.toList ds gs before)
    (hres : ∀ (b : Nat) (sp : Nat → Bool) (hd : Bool), DataW.TrodAll enc P W' b sp hd f.resultTypes.toList (v.resultList f.resultTypes.size) (s.fn H (ds ++ gs)).results [])
    (hargs : ∀ sp : Nat → Bool, (∀ p ∈ before, sp p.block = true) → DataW.TrodAll enc P W' 0 sp true f.params.toList args.toList (s.fn H (ds ++ gs)).args pa)
    (hvars : ∀ sp : Nat → Bool, (∀ p ∈ before, sp p.block = true) → DataW.TrodVars enc P W' sp s.vars (s.fn H (ds ++ gs)).vars pv)
    (hps : before = pa ++ pv) (hb : Below W.heap.size W W')
    (hok : ∀ (j : Nat) (t : TypeId) (r : Value), f.resultTypes[j]? = some t → (v.resultList f.resultTypes.size)[j]? = some r → Value.okWide P W' .any 0 t r) :
    s.post enc P f apart fresh handsOn again W args v W' := by
  have hlt := hW.lt
  have hold : ∀ p ∈ before, (fun b => decide (b < W.heap.size)) p.block = true := fun p hp => by simpa using hlt p hp
  refine ⟨ds, gs, before, [], pa, pv, hW, hres _ _ _, hargs _ hold, hvars _ hold, World.keptBut_mono (fun p hp => ⟨hp, ?_⟩) (hb.frame _), fun _ => ?_⟩
  · rw [hps, List.mem_append] at hp
    exact Or.inr hp
  · obtain ⟨_, _, _, _, _, hz, hn⟩ := hW
    refine ⟨hok, _, _, ([] ++ pa) ++ pv, ⟨[] ++ pa, pv, trodAll_append (hargs _ (fun _ _ => rfl)) (hres _ _ _), hvars _ (fun _ _ => rfl), rfl, ?_, ?_⟩, ?_⟩
    · intro b off hp
      have hp' : MemPlace.cell b off ∈ before := by rw [hps]; simpa using hp
      rw [hb.frozen (p := ⟨b, off, none⟩) (hlt _ hp')]
      exact hz b off hp'
    · intro ha
      have := hn ha
      rw [hps] at this
      simpa using this
    · intro p hp _
      rw [hps]
      simpa using hp
theorem cell_lt {w : World} {b o : Nat} {sp : Option Nat} {v : Value} (h : w.cell? ⟨b, o, sp⟩ = some v) : b < w.heap.size := by
  rcases Nat.lt_or_ge b w.heap.size with g | g
  · exact g
  · exfalso
    unfold World.cell? at h
    rw [Array.getElem?_eq_none g] at h
    cases h
theorem cell_spot0 {w : World} {b o : Nat} {sp : Option Nat} {v : Value} (h : w.cell? ⟨b, o, sp⟩ = some v) : sp = none := by
  rcases sp with _ | x
  · rfl
  · exact absurd h (by unfold World.cell?; split <;> simp)
theorem add_none (b o k : Nat) : (⟨b, o, none⟩ : Addr).add k = ⟨b, o + k, none⟩ := by
  unfold Addr.add
  split
  · rename_i h; subst h; rfl
  · rfl
theorem Tryz.own : ownKnob Tryz.prog.godebug = none := by kernel_rfl
theorem Tryz.laidOut : laidOutB Tryz.prog = true := by kernel_rfl
end Go.Proofs.YtgnbhhgpaldheaaGreat
namespace Go.Proofs.YtgnbhhgpaldheaaGreat
open Go.ChangeShapes Go.WideShapes Go.ChangeAt Go Go.RowKit Go.ChangeMaps Go.WideElems Go.Joins Go.Deep
set_option linter.unusedVariables false
section
variable {H : Type} {enc : TypeId × Value → H} {P : Program} {w : World} {sp : Nat → Bool} {hd : Bool}
theorem row_open {t e : TypeId} {sz fuel n cap : Nat} {a : Option Addr} {x : DataW H × List MemPlace} (ht : P.underlying t = some (.slice e)) (hc : P.cellsOf e = sz) (hsz : 0 < sz)
    (h : DataW.trod enc P w 0 sp hd fuel t [.slice a n cap] = some x) :
    n ≤ maxLen ∧ (n = 0 ∨ ∃ b o m, a = some ⟨b, o, none⟩ ∧ b < w.heap.size ∧ n ≤ cap ∧ ∀ i, i < n → ∃ cs y, cs.length = sz ∧ (∀ j, j < sz → w.cell? ⟨b, o + (i * sz + j), none⟩ = cs[j]?) ∧ DataW.trod enc P w 0 sp hd m e cs = some y) := by
  rcases open_slice ht h with ⟨h0, _⟩ | ⟨a', len, cap', m, q, D, Pl, h0, _, hlc, hcm, hm, _, hel⟩
  · simp at h0
    obtain ⟨-, rfl, -⟩ := h0
    exact ⟨Nat.zero_le _, .inl rfl⟩
  · simp at h0
    obtain ⟨rfl, rfl, rfl⟩ := h0
    refine ⟨by omega, ?_⟩
    by_cases hn : n = 0
    · exact .inl hn
    right
    have hnm : n ≤ m := by rw [hm]; split <;> omega
    obtain ⟨b, o, s⟩ := a'
    obtain ⟨cs0, hc0, _⟩ := hel 0 (by omega)
    obtain ⟨_, l0, k0⟩ := World.cells?_some hc0
    have k1 := k0 0 (by omega)
    rw [Nat.zero_mul, List.getElem?_eq_getElem (by omega)] at k1
    have hs : s = none := cell_spot0 k1
    subst hs
    refine ⟨b, o, q, rfl, cell_lt k1, hlc, fun i hi => ?_⟩
    obtain ⟨cs, hcs, htr⟩ := hel i (by omega)
    obtain ⟨_, l1, k2⟩ := World.cells?_some hcs
    refine ⟨cs, _, by omega, fun j hj => ?_, htr⟩
    have k3 := k2 j (by omega)
    rw [add_none, add_none, hc, Nat.add_assoc] at k3
    exact k3
theorem kid1 {fs : Array Field} {t : TypeId} {fuel : Nat} {cs : List Value} {x : DataW H × List MemPlace} (ht : P.underlying t = some (.struct fs)) (h : DataW.trod enc P w 0 sp hd fuel t cs = some x) (j : Nat) (f : Field) (hf : fs[j]? = some f) (hc : P.cellsOf f.type = 1) (ho : f.offset = j) {v : Value} (hv : cs[j]? = some v) :
    ∃ n y, DataW.trod enc P w 0 sp hd n f.type [v] = some y := by
  obtain ⟨xs, n, _, rfl, hl, hlen, hF⟩ := DataW.trod_struct ht h
  have hk := hF j f hf
  rw [hc, ho] at hk
  have e : (cs.drop j).take 1 = [v] := by
    rw [List.getElem?_eq_some_iff] at hv
    obtain ⟨hj, rfl⟩ := hv
    rw [List.drop_eq_getElem_cons hj]
    rfl
  rw [e] at hk
  have hj : j < xs.length := by
    rw [hlen]
    exact (Array.getElem?_eq_some_iff.1 hf).1
  rw [List.getElem?_eq_getElem hj] at hk
  exact ⟨n, _, hk⟩
end
theorem u64_wf {n : Int} (h : (Lit.int .u64 n).wf = true) : 0 ≤ n ∧ n < 18446744073709551616 := by
  have m1 : IntKind.u64.min = 0 := by decide
  have m2 : IntKind.u64.max = 18446744073709551615 := by decide
  simp only [Lit.wf, Bool.and_eq_true, decide_eq_true_eq, m1, m2] at h
  omega
theorem Ups_open {H : Type} {enc : TypeId × Value → H} {W : World} {sp : Nat → Bool} {hd : Bool} {fuel n cap : Nat} {a : Option Addr} {x : DataW H × List MemPlace} (h : DataW.trod enc Tryz.prog W 0 sp hd fuel 65 [.slice a n cap] = some x) :
    n ≤ maxLen ∧ ∃ x0 x1, UpsA W (.slice a n cap) n x0 x1 := by
  obtain ⟨hn, h⟩ := row_open Tryz.underlying65 (show Tryz.prog.cellsOf 152 = 2 by kernel_rfl) (by omega) h
  refine ⟨hn, ?_⟩
  rcases h with rfl | ⟨b, o, m, rfl, hb, hcap, hel⟩
  · exact ⟨fun _ => false, fun _ => 0, .inl ⟨rfl, _, _, rfl⟩⟩
  · have key : ∀ i, ∃ q : Bool × Int, i < n → (W.cell? ⟨b, o + i * 2, none⟩ = some (.bool (q.1)) ∧ W.cell? ⟨b, o + i * 2 + 1, none⟩ = some (.int .i64 (q.2))) := by
      intro i
      by_cases hi : i < n
      · obtain ⟨cs, y, hl, hcell, htr⟩ := hel i hi
        obtain ⟨v0, hv0⟩ : ∃ v, cs[0]? = some v := ⟨cs[0]'(by omega), List.getElem?_eq_getElem (by omega)⟩
        obtain ⟨n0, y0, t0⟩ := kid1 Tryz.underlying152 htr 0 _ rfl (by kernel_rfl) rfl hv0
        obtain ⟨z0, e0, _⟩ := DataW.trod_bool Tryz.underlying4 t0
        simp at e0
        subst e0
        obtain ⟨v1, hv1⟩ : ∃ v, cs[1]? = some v := ⟨cs[1]'(by omega), List.getElem?_eq_getElem (by omega)⟩
        obtain ⟨n1, y1, t1⟩ := kid1 Tryz.underlying152 htr 1 _ rfl (by kernel_rfl) rfl hv1
        obtain ⟨z1, e1, _, w1⟩ := DataW.trod_int Tryz.underlying3 t1
        simp at e1
        subst e1
        exact ⟨⟨z0, z1⟩, fun _ => ⟨(hcell 0 (by omega)).trans hv0, (hcell 1 (by omega)).trans hv1⟩⟩
      · exact ⟨⟨false, 0⟩, fun h => absurd h hi⟩
    exact ⟨fun i => (Classical.choose (key i)).1, fun i => (Classical.choose (key i)).2, .inr ⟨b, o, cap, rfl, hb, hcap, fun i hi => (Classical.choose_spec (key i) hi)⟩⟩
theorem Cons_open {H : Type} {enc : TypeId × Value → H} {W : World} {sp : Nat → Bool} {hd : Bool} {fuel n cap : Nat} {a : Option Addr} {x : DataW H × List MemPlace} (h : DataW.trod enc Tryz.prog W 0 sp hd fuel 66 [.slice a n cap] = some x) :
    n ≤ maxLen ∧ ∃ x0 x1 x2 x3, ConsA W (.slice a n cap) n x0 x1 x2 x3 ∧ (∀ i, i < n → 0 ≤ x2 i ∧ x2 i < 18446744073709551616) ∧ (∀ i, i < n → (x3 i).size ≤ maxLen) := by
  obtain ⟨hn, h⟩ := row_open Tryz.underlying66 (show Tryz.prog.cellsOf 148 = 4 by kernel_rfl) (by omega) h
  refine ⟨hn, ?_⟩
  rcases h with rfl | ⟨b, o, m, rfl, hb, hcap, hel⟩
  · exact ⟨fun _ => 0, fun _ => 0, fun _ => 0, fun _ => ByteArray.empty, ⟨.inl ⟨rfl, _, _, rfl⟩, fun i hi => by omega, fun i hi => by omega⟩⟩
  · have key : ∀ i, ∃ q : Int × Int × Int × ByteArray, i < n → (W.cell? ⟨b, o + i * 4, none⟩ = some (.int .i64 (q.1)) ∧ W.cell? ⟨b, o + i * 4 + 1, none⟩ = some (.int .i64 (q.2.1)) ∧ W.cell? ⟨b, o + i * 4 + 2, none⟩ = some (.int .u64 (q.2.2.1)) ∧ W.cell? ⟨b, o + i * 4 + 3, none⟩ = some (.string (q.2.2.2))) ∧ 0 ≤ q.2.2.1 ∧ q.2.2.1 < 18446744073709551616 ∧ (q.2.2.2).size ≤ maxLen := by
      intro i
      by_cases hi : i < n
      · obtain ⟨cs, y, hl, hcell, htr⟩ := hel i hi
        obtain ⟨v0, hv0⟩ : ∃ v, cs[0]? = some v := ⟨cs[0]'(by omega), List.getElem?_eq_getElem (by omega)⟩
        obtain ⟨n0, y0, t0⟩ := kid1 Tryz.underlying148 htr 0 _ rfl (by kernel_rfl) rfl hv0
        obtain ⟨z0, e0, _, w0⟩ := DataW.trod_int Tryz.underlying3 t0
        simp at e0
        subst e0
        obtain ⟨v1, hv1⟩ : ∃ v, cs[1]? = some v := ⟨cs[1]'(by omega), List.getElem?_eq_getElem (by omega)⟩
        obtain ⟨n1, y1, t1⟩ := kid1 Tryz.underlying148 htr 1 _ rfl (by kernel_rfl) rfl hv1
        obtain ⟨z1, e1, _, w1⟩ := DataW.trod_int Tryz.underlying3 t1
        simp at e1
        subst e1
        obtain ⟨v2, hv2⟩ : ∃ v, cs[2]? = some v := ⟨cs[2]'(by omega), List.getElem?_eq_getElem (by omega)⟩
        obtain ⟨n2, y2, t2⟩ := kid1 Tryz.underlying148 htr 2 _ rfl (by kernel_rfl) rfl hv2
        obtain ⟨z2, e2, _, w2⟩ := DataW.trod_int Tryz.underlying79 t2
        simp at e2
        subst e2
        obtain ⟨v3, hv3⟩ : ∃ v, cs[3]? = some v := ⟨cs[3]'(by omega), List.getElem?_eq_getElem (by omega)⟩
        obtain ⟨n3, y3, t3⟩ := kid1 Tryz.underlying148 htr 3 _ rfl (by kernel_rfl) rfl hv3
        obtain ⟨z3, e3, _, w3⟩ := DataW.trod_string Tryz.underlying9 t3
        simp at e3
        subst e3
        exact ⟨⟨z0, z1, z2, z3⟩, fun _ => ⟨⟨(hcell 0 (by omega)).trans hv0, (hcell 1 (by omega)).trans hv1, (hcell 2 (by omega)).trans hv2, (hcell 3 (by omega)).trans hv3⟩, (u64_wf w2).1, (u64_wf w2).2, w3⟩⟩
      · exact ⟨⟨0, 0, 0, ByteArray.empty⟩, fun h => absurd h hi⟩
    exact ⟨fun i => (Classical.choose (key i)).1, fun i => (Classical.choose (key i)).2.1, fun i => (Classical.choose (key i)).2.2.1, fun i => (Classical.choose (key i)).2.2.2, .inr ⟨b, o, cap, rfl, hb, hcap, fun i hi => (Classical.choose_spec (key i) hi).1⟩, fun i hi => ⟨(Classical.choose_spec (key i) hi).2.1, (Classical.choose_spec (key i) hi).2.2.1⟩, fun i hi => (Classical.choose_spec (key i) hi).2.2.2⟩
theorem Ins_open {H : Type} {enc : TypeId × Value → H} {W : World} {sp : Nat → Bool} {hd : Bool} {fuel n cap : Nat} {a : Option Addr} {x : DataW H × List MemPlace} (h : DataW.trod enc Tryz.prog W 0 sp hd fuel 67 [.slice a n cap] = some x) :
    n ≤ maxLen ∧ ∃ x0 x1 x2 x3, InsA W (.slice a n cap) n x0 x1 x2 x3 := by
  obtain ⟨hn, h⟩ := row_open Tryz.underlying67 (show Tryz.prog.cellsOf 155 = 4 by kernel_rfl) (by omega) h
  refine ⟨hn, ?_⟩
  rcases h with rfl | ⟨b, o, m, rfl, hb, hcap, hel⟩
  · exact ⟨fun _ => 0, fun _ => 0, fun _ => 0, fun _ => 0, .inl ⟨rfl, _, _, rfl⟩⟩
  · have key : ∀ i, ∃ q : Int × Int × Int × Int, i < n → (W.cell? ⟨b, o + i * 4, none⟩ = some (.int .i64 (q.1)) ∧ W.cell? ⟨b, o + i * 4 + 1, none⟩ = some (.int .i64 (q.2.1)) ∧ W.cell? ⟨b, o + i * 4 + 2, none⟩ = some (.int .i64 (q.2.2.1)) ∧ W.cell? ⟨b, o + i * 4 + 3, none⟩ = some (.int .i64 (q.2.2.2))) := by
      intro i
      by_cases hi : i < n
      · obtain ⟨cs, y, hl, hcell, htr⟩ := hel i hi
        obtain ⟨v0, hv0⟩ : ∃ v, cs[0]? = some v := ⟨cs[0]'(by omega), List.getElem?_eq_getElem (by omega)⟩
        obtain ⟨n0, y0, t0⟩ := kid1 Tryz.underlying155 htr 0 _ rfl (by kernel_rfl) rfl hv0
        obtain ⟨z0, e0, _, w0⟩ := DataW.trod_int Tryz.underlying3 t0
        simp at e0
        subst e0
        obtain ⟨v1, hv1⟩ : ∃ v, cs[1]? = some v := ⟨cs[1]'(by omega), List.getElem?_eq_getElem (by omega)⟩
        obtain ⟨n1, y1, t1⟩ := kid1 Tryz.underlying155 htr 1 _ rfl (by kernel_rfl) rfl hv1
        obtain ⟨z1, e1, _, w1⟩ := DataW.trod_int Tryz.underlying3 t1
        simp at e1
        subst e1
        obtain ⟨v2, hv2⟩ : ∃ v, cs[2]? = some v := ⟨cs[2]'(by omega), List.getElem?_eq_getElem (by omega)⟩
        obtain ⟨n2, y2, t2⟩ := kid1 Tryz.underlying155 htr 2 _ rfl (by kernel_rfl) rfl hv2
        obtain ⟨z2, e2, _, w2⟩ := DataW.trod_int Tryz.underlying3 t2
        simp at e2
        subst e2
        obtain ⟨v3, hv3⟩ : ∃ v, cs[3]? = some v := ⟨cs[3]'(by omega), List.getElem?_eq_getElem (by omega)⟩
        obtain ⟨n3, y3, t3⟩ := kid1 Tryz.underlying155 htr 3 _ rfl (by kernel_rfl) rfl hv3
        obtain ⟨z3, e3, _, w3⟩ := DataW.trod_int Tryz.underlying3 t3
        simp at e3
        subst e3
        exact ⟨⟨z0, z1, z2, z3⟩, fun _ => ⟨(hcell 0 (by omega)).trans hv0, (hcell 1 (by omega)).trans hv1, (hcell 2 (by omega)).trans hv2, (hcell 3 (by omega)).trans hv3⟩⟩
      · exact ⟨⟨0, 0, 0, 0⟩, fun h => absurd h hi⟩
    exact ⟨fun i => (Classical.choose (key i)).1, fun i => (Classical.choose (key i)).2.1, fun i => (Classical.choose (key i)).2.2.1, fun i => (Classical.choose (key i)).2.2.2, .inr ⟨b, o, cap, rfl, hb, hcap, fun i hi => (Classical.choose_spec (key i) hi)⟩⟩
theorem Ints_open {H : Type} {enc : TypeId × Value → H} {W : World} {sp : Nat → Bool} {hd : Bool} {fuel n cap : Nat} {a : Option Addr} {x : DataW H × List MemPlace} (h : DataW.trod enc Tryz.prog W 0 sp hd fuel 43 [.slice a n cap] = some x) :
    n ≤ maxLen ∧ ∃ x0, IntsA W (.slice a n cap) n x0 := by
  obtain ⟨hn, h⟩ := row_open Tryz.underlying43 (show Tryz.prog.cellsOf 3 = 1 by kernel_rfl) (by omega) h
  refine ⟨hn, ?_⟩
  rcases h with rfl | ⟨b, o, m, rfl, hb, hcap, hel⟩
  · exact ⟨fun _ => 0, .inl ⟨rfl, _, _, rfl⟩⟩
  · have key : ∀ i, ∃ q : Int, i < n → (W.cell? ⟨b, o + i, none⟩ = some (.int .i64 (q))) := by
      intro i
      by_cases hi : i < n
      · obtain ⟨cs, y, hl, hcell, htr⟩ := hel i hi
        obtain ⟨v0, hv0⟩ : ∃ v, cs[0]? = some v := ⟨cs[0]'(by omega), List.getElem?_eq_getElem (by omega)⟩
        have ecs : cs = [v0] := by
          match cs, hl with
          | [c], _ => simp at hv0; rw [hv0]
        rw [ecs] at htr
        obtain ⟨z0, e0, _, w0⟩ := DataW.trod_int Tryz.underlying3 htr
        simp at e0
        subst e0
        exact ⟨z0, fun _ => ((by simpa using hcell 0 (by omega)) : W.cell? ⟨b, o + i, none⟩ = cs[0]?).trans hv0⟩
      · exact ⟨0, fun h => absurd h hi⟩
    exact ⟨fun i => (Classical.choose (key i)), .inr ⟨b, o, cap, rfl, hb, hcap, fun i hi => (Classical.choose_spec (key i) hi)⟩⟩
theorem slice_form' {H : Type} {enc : TypeId × Value → H} {P : Program} {W : World} {sp : Nat → Bool} {hd : Bool} {fuel : Nat} {t e : TypeId} {v : Value} {x : DataW H × List MemPlace} (ht : P.underlying t = some (.slice e))
    (h : DataW.trod enc P W 0 sp hd fuel t [v] = some x) : ∃ a n cap, v = .slice a n cap := by
  rcases open_slice ht h with ⟨h0, _⟩ | ⟨a', len, cap', m, q, D, Pl, h0, _⟩
  · simp at h0
    exact ⟨_, _, _, h0⟩
  · simp at h0
    exact ⟨_, _, _, h0⟩
def PV.nil : PV := ⟨0, 0, 0, false, 0, fun _ => false, fun _ => 0, 0, fun _ => 0, fun _ => 0, fun _ => 0, fun _ => ByteArray.empty, 0, fun _ => 0, fun _ => 0, fun _ => 0, fun _ => 0, 0, fun _ => 0⟩
theorem maxLen_le : maxLen ≤ 9223372036854775807 := by unfold maxLen; omega
theorem pros_open {H : Type} {enc : TypeId × Value → H} {W : World} {sp : Nat → Bool} {hd : Bool} {fuel n cap : Nat} {a : Option Addr} {x : DataW H × List MemPlace} (h : DataW.trod enc Tryz.prog W 0 sp hd fuel 22 [.slice a n cap] = some x) :
    n ≤ 9223372036854775807 ∧ ∃ P, ProsA W (.slice a n cap) n P ∧ (∀ k, k < n → (P k).sane) ∧ allBits n P := by
  obtain ⟨hn, h⟩ := row_open Tryz.underlying22 (show Tryz.prog.cellsOf 69 = 8 by kernel_rfl) (by omega) h
  refine ⟨Nat.le_trans hn maxLen_le, ?_⟩
  rcases h with rfl | ⟨b, o, m, rfl, hb, hcap, hel⟩
  · exact ⟨fun _ => PV.nil, .inl ⟨rfl, _, _, rfl⟩, fun i hi => by omega, fun i hi => by omega⟩
  · have key : ∀ i, ∃ q : PV, i < n → (∃ s4 s5 s6 s7, C8 W b (o + i * 8) q s4 s5 s6 s7 ∧ PVA W q s4 s5 s6 s7) ∧ q.sane ∧ q.bitsOk := by
      intro i
      by_cases hi : i < n
      · obtain ⟨cs, y, hl, hcell, htr⟩ := hel i hi
        have hv : ∀ j, j < 8 → ∃ v, cs[j]? = some v := fun j hj => ⟨cs[j]'(by omega), List.getElem?_eq_getElem (by omega)⟩
        obtain ⟨v0, hv0⟩ := hv 0 (by omega)
        obtain ⟨v1, hv1⟩ := hv 1 (by omega)
        obtain ⟨v2, hv2⟩ := hv 2 (by omega)
        obtain ⟨v3, hv3⟩ := hv 3 (by omega)
        obtain ⟨v4, hv4⟩ := hv 4 (by omega)
        obtain ⟨v5, hv5⟩ := hv 5 (by omega)
        obtain ⟨v6, hv6⟩ := hv 6 (by omega)
        obtain ⟨v7, hv7⟩ := hv 7 (by omega)
        obtain ⟨_, _, t0⟩ := kid1 Tryz.underlying69 htr 0 _ rfl (by kernel_rfl) rfl hv0
        obtain ⟨_, _, t1⟩ := kid1 Tryz.underlying69 htr 1 _ rfl (by kernel_rfl) rfl hv1
        obtain ⟨_, _, t2⟩ := kid1 Tryz.underlying69 htr 2 _ rfl (by kernel_rfl) rfl hv2
        obtain ⟨_, _, t3⟩ := kid1 Tryz.underlying69 htr 3 _ rfl (by kernel_rfl) rfl hv3
        obtain ⟨_, _, t4⟩ := kid1 Tryz.underlying69 htr 4 _ rfl (by kernel_rfl) rfl hv4
        obtain ⟨_, _, t5⟩ := kid1 Tryz.underlying69 htr 5 _ rfl (by kernel_rfl) rfl hv5
        obtain ⟨_, _, t6⟩ := kid1 Tryz.underlying69 htr 6 _ rfl (by kernel_rfl) rfl hv6
        obtain ⟨_, _, t7⟩ := kid1 Tryz.underlying69 htr 7 _ rfl (by kernel_rfl) rfl hv7
        obtain ⟨z0, e0, _⟩ := DataW.trod_int Tryz.underlying3 t0
        obtain ⟨z1, e1, _⟩ := DataW.trod_int Tryz.underlying3 t1
        obtain ⟨z2, e2, _⟩ := DataW.trod_int Tryz.underlying3 t2
        obtain ⟨z3, e3, _⟩ := DataW.trod_bool Tryz.underlying4 t3
        simp at e0 e1 e2 e3
        subst e0 e1 e2 e3
        obtain ⟨a4, n4, k4, rfl⟩ := slice_form' Tryz.underlying65 t4
        obtain ⟨a5, n5, k5, rfl⟩ := slice_form' Tryz.underlying66 t5
        obtain ⟨a6, n6, k6, rfl⟩ := slice_form' Tryz.underlying67 t6
        obtain ⟨a7, n7, k7, rfl⟩ := slice_form' Tryz.underlying43 t7
        obtain ⟨l4, x0, x1, p4⟩ := Ups_open t4
        obtain ⟨l5, y0, y1, y2, y3, p5, p5b, p5s⟩ := Cons_open t5
        obtain ⟨l6, i0, i1, i2, i3, p6⟩ := Ins_open t6
        obtain ⟨l7, j0, p7⟩ := Ints_open t7
        have hm := maxLen_le
        refine ⟨⟨z0, z1, z2, z3, n4, x0, x1, n5, y0, y1, y2, y3, n6, i0, i1, i2, i3, n7, j0⟩, fun _ => ⟨⟨_, _, _, _, ⟨(hcell 0 (by omega)).trans hv0, (hcell 1 (by omega)).trans hv1, (hcell 2 (by omega)).trans hv2, (hcell 3 (by omega)).trans hv3, (hcell 4 (by omega)).trans hv4, (hcell 5 (by omega)).trans hv5, (hcell 6 (by omega)).trans hv6, (hcell 7 (by omega)).trans hv7⟩, ⟨p4, p5, p6, p7⟩⟩, ⟨?_, ?_, ?_, ?_, fun k hk => ?_⟩, p5b⟩⟩
        · exact Nat.le_trans l4 hm
        · exact Nat.le_trans l5 hm
        · exact Nat.le_trans l6 hm
        · exact Nat.le_trans l7 hm
        · exact Nat.le_trans (p5s k hk) hm
      · exact ⟨PV.nil, fun h => absurd h hi⟩
    exact ⟨fun i => Classical.choose (key i), .inr ⟨b, o, cap, rfl, hb, hcap, fun i hi => (Classical.choose_spec (key i) hi).1⟩, fun i hi => (Classical.choose_spec (key i) hi).2.1, fun i hi => (Classical.choose_spec (key i) hi).2.2⟩
theorem cells_chunk : Tryz.prog.cellsOf 24 = 1 := by kernel_rfl
set_option maxRecDepth 100000 in
theorem chunk_open {H : Type} {enc : TypeId × Value → H} {W : World} {sp : Nat → Bool} {hd : Bool} {fuel b0 : Nat} {r : Reach} {v : Value} {x : DataW H × List MemPlace} (hval : Value.okWide Tryz.prog W r b0 24 v)
    (h : DataW.trod enc Tryz.prog W 0 sp hd fuel 24 v.cells.toList = some x) :
    ∃ a n cap P, v = .agg #[.slice a n cap] ∧ n ≤ 9223372036854775807 ∧ ProsA W (.slice a n cap) n P ∧ (∀ k, k < n → (P k).sane) ∧ allBits n P := by
  obtain ⟨cs, rfl, hsz⟩ := okWide_struct Tryz.underlying24 hval
  have h1 : cs.size = 1 := hsz.trans cells_chunk
  obtain ⟨c, rfl⟩ : ∃ c, cs = #[c] := by
    obtain ⟨l⟩ := cs
    match l, h1 with
    | [c], _ => exact ⟨c, rfl⟩
  obtain ⟨_, _, t0⟩ := kid1 Tryz.underlying24 h 0 _ rfl (by kernel_rfl) rfl (v := c) rfl
  obtain ⟨a, n, cap, rfl⟩ := slice_form' Tryz.underlying22 t0
  obtain ⟨hn, P, h2, h3, h4⟩ := pros_open t0
  exact ⟨a, n, cap, P, rfl, hn, h2, h3, h4⟩
end Go.Proofs.YtgnbhhgpaldheaaGreat
