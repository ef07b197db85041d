import Derived.Test.YtcpeabchaimkaaaDoorJCQ
namespace Go.Proofs.YtcpeabchaimkaaaDoor
open Go Go.RowKit
set_option linter.unusedVariables false

/-- Bytes as a text. -/
def bsL (t : List Int) : ByteArray := ⟨(t.map fun x => UInt8.ofNat x.toNat).toArray⟩
theorem bsL_tx (s : ByteArray) : bsL (txL s) = s := by
  obtain ⟨⟨l⟩⟩ := s
  have : (l.map fun c : UInt8 => ((c.toNat : Nat) : Int)).map (fun x => UInt8.ofNat x.toNat) = l := by
    rw [List.map_map]
    conv => rhs; rw [← List.map_id l]
    refine List.map_congr_left fun c _ => ?_
    simp
  unfold bsL txL
  rw [this]
/-- A function, as it is read. -/
structure DP where
  params : Int
  regs : Int
  line : Int
  dots : Bool
  ups : List (Bool × Int)
  cons : List (Int × Int × Int × List Int)
  ins : List (Int × Int × Int × Int × Int)
def DP.pv (d : DP) : PV := ⟨d.params, d.regs, d.line, d.dots, d.ups.length, fun k => (d.ups.getD k (false, 0)).1, fun k => (d.ups.getD k (false, 0)).2,
  d.cons.length, fun k => (d.cons.getD k (0, 0, 0, [])).1, fun k => (d.cons.getD k (0, 0, 0, [])).2.1, fun k => (d.cons.getD k (0, 0, 0, [])).2.2.1, fun k => bsL (d.cons.getD k (0, 0, 0, [])).2.2.2,
  d.ins.length, fun k => (d.ins.getD k (0, 0, 0, 0, 0)).1, fun k => (d.ins.getD k (0, 0, 0, 0, 0)).2.1, fun k => (d.ins.getD k (0, 0, 0, 0, 0)).2.2.1, fun k => (d.ins.getD k (0, 0, 0, 0, 0)).2.2.2.1,
  d.ins.length, fun k => (d.ins.getD k (0, 0, 0, 0, 0)).2.2.2.2⟩
/-- The five numbers ahead of the upvalues. -/
def dH (s : St) : (Int × Int × Int × Int × Int) × St :=
  (((nm 1 false s).1, (nm 1 false (nm 1 false s).2).1, (nm 1 false (nm 1 false (nm 1 false s).2).2).1, (nm 4 false (nm 1 false (nm 1 false (nm 1 false s).2).2).2).1, (nm 1 false (nm 4 false (nm 1 false (nm 1 false (nm 1 false s).2).2).2).2).1),
    (nm 1 false (nm 4 false (nm 1 false (nm 1 false (nm 1 false s).2).2).2).2).2)
def dU (s : St) : List (Bool × Int) × St := dUps (dH s).1.2.2.2.2.toNat (dH s).2
def dC (s : St) : List (Int × Int × Int × List Int) × St := dCons (nm 2 false (dU s).2).1.toNat (nm 2 false (dU s).2).2
def dI (s : St) : List (Int × Int × Int × Int × Int) × St := dIns (nm 2 false (dC s).2).1.toNat (nm 2 false (dC s).2).2
def dProto (s : St) : DP × St := (⟨(dH s).1.1, (dH s).1.2.2.1, (dH s).1.2.2.2.1, (dH s).1.2.1 != 0, (dU s).1, (dC s).1, (dI s).1⟩, (dI s).2)
def dProtos : Nat → St → List DP × St
  | 0, s => ([], s)
  | n + 1, s => if s.2 = true then ([], s) else ((dProto s).1 :: (dProtos n (dProto s).2).1, (dProtos n (dProto s).2).2)
/-- The functions of a file, as they are read. -/
def dFile (l : List Int) : List DP × St := dProtos (nm 2 false (rdD 8 l, rdS 8 l false)).1.toNat (nm 2 false (rdD 8 l, rdS 8 l false)).2

theorem getD_mp {α : Type} (n : Nat) (f : Nat → α) (d : α) {k : Nat} (h : k < n) : ((List.range n).map f).getD k d = f k := by
  rw [List.getD_eq_getElem?_getD, List.getElem?_map, List.getElem?_range h]
  rfl

theorem dProto_enc {p : PV} {r : List Int} (hp : plainOk p) (bp : p.bitsOk) (rp : p.rng) : ∃ d, dProto (pbL p ++ r, false) = (d, (r, false)) ∧ d.pv.same p := by
  obtain ⟨⟨a1, a2, a3, a4, a5, a6, a7⟩, au, ac, ai⟩ := hp
  have a3' := inI_of a3
  have h1 : dH (pbL p ++ r, false) = ((p.params, flagI p.dots, p.regs, p.line, (p.nu : Int)), (joinL (upL p) p.nu ++ (u64n p.nc 2 ++ (joinL (coL p) p.nc ++ (u64n p.ni 2 ++ (joinL (inL p) p.ni ++ r)))), false)) := by
    have e : pbL p ++ r = u64n p.params 1 ++ ([flagI p.dots] ++ (u64n p.regs 1 ++ (u64n p.line 4 ++ (u64n p.nu 1 ++ (joinL (upL p) p.nu ++ (u64n p.nc 2 ++ (joinL (coL p) p.nc ++ (u64n p.ni 2 ++ (joinL (inL p) p.ni ++ r))))))))) := by
      simp only [pbL, S3, S2, S1, hdL, List.append_assoc]
    rw [e]
    simp only [dH, nm_enc, nm_flag]
    rw [num1 (inI_of a1), num1 (inI_of a2), num4 (by omega), num1 (by omega)]
  have h2 : dU (pbL p ++ r, false) = ((List.range p.nu).map (fun k => (p.u0 k, p.u1 k)), (u64n p.nc 2 ++ (joinL (coL p) p.nc ++ (u64n p.ni 2 ++ (joinL (inL p) p.ni ++ r))), false)) := by
    rw [dU, h1]
    exact dUps_enc p.nu p.u0 p.u1 _ (fun k hk => inI_of (au k hk))
  have h3 : dC (pbL p ++ r, false) = ((List.range p.nc).map (fun k => (p.c0 k, p.c1 k, p.c2 k, txL (p.c3 k))), (u64n p.ni 2 ++ (joinL (inL p) p.ni ++ r), false)) := by
    rw [dC, h2]
    simp only [nm_enc]
    rw [num2 (by omega), Int.toNat_natCast]
    have := dCons_enc p.nc p 0 (u64n p.ni 2 ++ (joinL (inL p) p.ni ++ r)) (fun k hk => by rw [Nat.zero_add]; exact ⟨ac k hk, rp k hk, bp k hk⟩)
    simpa only [Nat.zero_add] using this
  have h4 : dI (pbL p ++ r, false) = ((List.range p.ni).map (fun k => (p.i0 k, p.i1 k, p.i2 k, p.i3 k, p.l0 k)), (r, false)) := by
    rw [dI, h3]
    simp only [nm_enc]
    rw [num2 (by omega), Int.toNat_natCast]
    have := dIns_enc p.ni p 0 r (fun k hk => by rw [Nat.zero_add]; exact ai k hk)
    simpa only [Nat.zero_add] using this
  refine ⟨_, by rw [dProto, h4], ?_⟩
  rw [h1, h2, h3]
  refine ⟨⟨rfl, rfl, rfl, flag_ne _⟩, ⟨by simp [DP.pv], by simp [DP.pv], by simp [DP.pv], by simp [DP.pv, a7]⟩, fun k hk => ?_, fun k hk => ?_, fun k hk => ?_, fun k hk => ?_⟩
  · have hk' : k < p.nu := by simpa [DP.pv] using hk
    simp only [DP.pv, getD_mp _ _ _ hk', and_self]
  · have hk' : k < p.nc := by simpa [DP.pv] using hk
    simp only [DP.pv, getD_mp _ _ _ hk', bsL_tx, and_self]
  · have hk' : k < p.ni := by simpa [DP.pv] using hk
    simp only [DP.pv, getD_mp _ _ _ hk', and_self]
  · have hk' : k < p.ni := by simpa [DP.pv] using hk
    simp only [DP.pv, getD_mp _ _ _ hk']
theorem dProtos_enc (n : Nat) : ∀ (P : Nat → PV) (r : List Int), (∀ k, k < n → plainOk (P k) ∧ (P k).bitsOk ∧ (P k).rng) →
    ∃ ds, dProtos n (joinL (fun k => pbL (P k)) n ++ r, false) = (ds, (r, false)) ∧ ds.length = n ∧ ∀ k (h : k < ds.length), (ds[k]).pv.same (P k) := by
  induction n with
  | zero => intro P r _; exact ⟨[], by simp [dProtos, joinL], rfl, fun k hk => by simp at hk⟩
  | succ n ih =>
    intro P r h
    obtain ⟨ds, e1, e2, e3⟩ := ih (fun k => P (k + 1)) r (fun k hk => h (k + 1) (by omega))
    obtain ⟨h1, h2, h3⟩ := h 0 (by omega)
    obtain ⟨d, e4, e5⟩ := dProto_enc (p := P 0) (r := joinL (fun k => pbL (P (k + 1))) n ++ r) h1 h2 h3
    refine ⟨d :: ds, by rw [joinL_cons, List.append_assoc, dProtos, if_neg (by simp), e4, e1], by simp [e2], fun k hk => ?_⟩
    cases k with
    | zero => exact e5
    | succ k => exact e3 k (by simpa using hk)
/-- A file is read to its own chunk. -/
theorem dFile_enc {n : Nat} {P : Nat → PV} (hp : allPlain n P) (bp : allBits n P) (rp : allRng n P) :
    ∃ ds r, dFile (fileL n P) = (ds, (r, false)) ∧ ds.length = n ∧ ∀ k (h : k < ds.length), (ds[k]).pv.same (P k) := by
  obtain ⟨ds, e1, e2, e3⟩ := dProtos_enc n P (u64n (wrap64 (crcL (chL n P n))) 4) (fun k hk => ⟨hp.2 k hk, bp k hk, rp k hk⟩)
  refine ⟨ds, u64n (wrap64 (crcL (chL n P n))) 4, ?_, e2, e3⟩
  have e : fileL n P = magic ++ (u64n n 2 ++ (joinL (fun k => pbL (P k)) n ++ u64n (wrap64 (crcL (chL n P n))) 4)) := by simp only [fileL, chL, List.append_assoc]
  obtain ⟨h1, h2, h3⟩ := rd_enc (k := 8) (t := magic) (r := u64n n 2 ++ (joinL (fun k => pbL (P k)) n ++ u64n (wrap64 (crcL (chL n P n))) 4)) rfl
  rw [e, dFile, h2, h3, nm_enc, num2 (by have := hp.1; omega), Int.toNat_natCast, e1]

end Go.Proofs.YtcpeabchaimkaaaDoor
