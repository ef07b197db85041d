import Derived.Test.YtamdnnkdnhkghaaGreatDoorQ41
import Derived.Laws.RangeAny
import Derived.Laws.RangeString
import Derived.Laws.Runes
import Derived.Laws.Strings3
import Derived.Deep.LoopGhost
namespace Go.Proofs.YtamdnnkdnhkghaaGreatDoor
open Go Go.RowKit
set_option linter.unusedVariables false

def eE : ByteArray := ⟨#[101, 69]⟩
theorem eE_size : eE.size = 2 := rfl
theorem eE_0 : eE[0] = 101 := rfl
theorem eE_1 : eE[1] = 69 := rfl

theorem below_iter (w : World) (s : ByteArray) (i : Nat) : Below w.heap.size w (w.iter s i) := (Below.refl _ _).alloc (Nat.le_refl _) _

set_option maxHeartbeats 1600000 in
set_option maxRecDepth 100000 in
theorem ir_error (w : World) : Calls Tryz.prog 160 #[.string eE, .int .i32 65533] w fun e w' => e = .returned (.int .i64 (-1)) ∧ Below w.heap.size w w' := by
  have n0 : ∀ ty, (Instr.next (.pointer (some ⟨w.heap.size, 0, none⟩)) true ty).run Tryz.prog (w.iter eE 0) = .ok (.tuple #[.bool true, .int .i64 0, .int .i32 101]) (w.iter eE 1) := fun ty => run_next_ascii (P := Tryz.prog) w eE 0 ty (by decide) (by decide)
  have n1 : ∀ ty, (Instr.next (.pointer (some ⟨w.heap.size, 0, none⟩)) true ty).run Tryz.prog (w.iter eE 1) = .ok (.tuple #[.bool true, .int .i64 1, .int .i32 69]) (w.iter eE 2) := fun ty => run_next_ascii (P := Tryz.prog) w eE 1 ty (by decide) (by decide)
  have n2 := fun ty => run_next_end (P := Tryz.prog) w eE 2 ty (by decide)
  go_enter Tryz.func160, Tryz.ntmps160
  go_wp2
  go_loopg [5, 6] 2 (fun g _ _ wx => ∃ i : Nat, i + g = 2 ∧ wx = w.iter eE i)
  case atStart => exact ⟨0, by omega, rfl⟩
  case round =>
    obtain ⟨i, hig, rfl⟩ := hrel
    rcases (show i = 0 ∨ i = 1 ∨ i = 2 by omega) with rfl | rfl | rfl
    · go_wp2
      go_roundg 1
      case rel => exact ⟨1, by omega, rfl⟩
      case measure => omega
    · go_wp2
      go_roundg 0
      case rel => exact ⟨2, by omega, rfl⟩
      case measure => omega
    · go_wp2
      go_ret
      exact ⟨rfl, below_iter _ _ _⟩

set_option maxHeartbeats 1600000 in
set_option maxRecDepth 100000 in
theorem ir_bad (r : Int) (w : World) (h1 : 128 ≤ r) (h2 : r ≠ 65533) (hv : Lib.validRune r = false) : Calls Tryz.prog 160 #[.string eE, .int .i32 r] w fun e w' => e = .returned (.int .i64 (-1)) ∧ Below w.heap.size w w' := by
  have V := fun (w' : World) => Tryz.utf8_ValidRune r w'
  rw [hv] at V
  have HV := hide V
  have hne : (r == 65533) = false := bq h2
  clear V hv h2
  go_enter Tryz.func160, Tryz.ntmps160
  go_wp2_with fail
  refine (HV.out _).mono ?_
  rintro e w' ⟨rfl, rfl⟩
  go_wp2
  go_ret
  exact ⟨rfl, Below.refl _ _⟩

set_option maxHeartbeats 1600000 in
set_option maxRecDepth 100000 in
theorem ir_good (r : Int) (w : World) (h1 : 128 ≤ r) (h2 : r ≠ 65533) (hv : Lib.validRune r = true) (hu : Utf8.valid r = true) : Calls Tryz.prog 160 #[.string eE, .int .i32 r] w fun e w' => e = .returned (.int .i64 (-1)) ∧ Below w.heap.size w w' := by
  have V := fun (w' : World) => Tryz.utf8_ValidRune r w'
  rw [hv] at V
  have HV := hide V
  have hne : (r == 65533) = false := bq h2
  obtain ⟨f1, f2, f3⟩ := encode_facts r hu h1
  obtain ⟨rs, hrs⟩ : ∃ rs, Utf8.encode r = rs := ⟨_, rfl⟩
  simp only [hrs] at f1 f2 f3
  have f3' := f3 (by omega)
  have f1I : (2 : Int) ≤ (rs.size : Int) := by omega
  have f2I : (rs.size : Int) ≤ 4 := by omega
  have hlast : ((rs.size : Int) - 1).toNat = rs.size - 1 := by omega
  clear V hv h2 hu f3
  go_enter Tryz.func160, Tryz.ntmps160
  go_wp2_with fail
  refine (HV.out _).mono ?_
  rintro e w' ⟨rfl, rfl⟩
  go_wp2
  go_step3
  go_wp2
  have hsz : eE.size = 2 := rfl
  by_cases c2 : rs.size = 2
  · have c2I : (rs.size : Int) = 2 := by omega
    have B : ∀ (c : Int) (w' : World), Calls Tryz.prog 193 #[.string ByteArray.empty, .int .u8 c] w' fun e w'' => e = .returned (.int .i64 (-1)) ∧ ∃ m, w'' = w'.drewN m := fun c w' => by
      refine (Tryz.strings_IndexByte ByteArray.empty c w').mono ?_
      rintro e w'' ⟨rfl, rfl⟩
      exact ⟨rfl, 0, rfl⟩
    have HB := hide B
    have hw2 : IntKind.i64.wrap 2 = 2 := by decide
    have hlt1 : rs.size - 1 = 1 := by omega
    have hl1 : 1 < rs.size := by omega
    have hlb : 128 ≤ (rs[1]'hl1).toNat := by
      have := f3'
      simp only [hlt1] at this
      exact this
    have hneb : ((69 : Int) == (((rs[1]'hl1).toNat : Nat) : Int)) = false := bq (by omega)
    have he1 : (((eE[1]'(by decide)).toNat : Nat) : Int) = 69 := rfl
    clear f3' B hlast hlt1
    go_loopg [9, 10] 0 (fun g iv fv wx => iv = .int .i64 1 ∧ wx = w')
    case atStart => exact ⟨by simp [c2I], rfl⟩
    case round =>
      obtain ⟨rfl, rfl⟩ := hrel
      go_wp2
      go_step3
      go_wp2
      go_quiet (fail)
      go_wp2_with fail
      generalize hwz : World.drewN wr nq = wz
      have Hwz := hide hwz
      clear hwz
      go_quiet ((go_at_call 193; exact Calls.quiet_of (HB.out _ _)))
      go_wp2
      simp only [Exit.noGoto_ret, Exit.inBlock, Exit.then]
      go_ret
      exact ⟨rfl, below_drewN (by rw [← Hwz.out]; exact below_drewN (Below.refl _ _) _) _⟩
  · have c3I : (3 : Int) ≤ (rs.size : Int) := by omega
    go_loopg [9, 10] 0 (fun g iv fv wx => iv = .int .i64 ((rs.size : Int) - 1) ∧ wx = w')
    case atStart => exact ⟨rfl, rfl⟩
    case round =>
      obtain ⟨rfl, rfl⟩ := hrel
      have h2I : (2 : Int) ≤ (rs.size : Int) - 1 := by omega
      go_wp2
      rw [Exit.noGoto_ret]
      go_ret
      exact ⟨rfl, Below.refl _ _⟩
end Go.Proofs.YtamdnnkdnhkghaaGreatDoor

namespace Go.Proofs.YtamdnnkdnhkghaaGreatDoor
open Go Go.RowKit
set_option linter.unusedVariables false

theorem ir_any (r : Int) (w : World) (h1 : 128 ≤ r) : Calls Tryz.prog 160 #[.string eE, .int .i32 r] w fun e w' => e = .returned (.int .i64 (-1)) ∧ Below w.heap.size w w' := by
  by_cases h2 : r = 65533
  · subst h2; exact ir_error w
  · cases hv : Lib.validRune r with
    | false => exact ir_bad r w h1 h2 hv
    | true =>
      refine ir_good r w h1 h2 hv ?_
      unfold Lib.validRune at hv
      rw [decide_eq_true_eq] at hv
      unfold Utf8.valid
      simp
      omega

/-- A string's iterator in the block b goes on. -/
def stepW (wx : World) (b : Nat) (s : ByteArray) (p : Nat) : World := { wx with heap := wx.heap.setIfInBounds b (.stringIter s p) }

theorem stepW_heap {wx : World} {b : Nat} {s : ByteArray} {p q : Nat} (h : wx.heap[b]? = some (.stringIter s q)) : (stepW wx b s p).heap[b]? = some (.stringIter s p) := by
  have hb : b < wx.heap.size := by
    rcases Nat.lt_or_ge b wx.heap.size with g | g
    · exact g
    · rw [Array.getElem?_eq_none g] at h; cases h
  show (wx.heap.setIfInBounds b (.stringIter s p))[b]? = _
  rw [Array.getElem?_setIfInBounds_self_of_lt hb]

theorem stepW_below {w wx : World} {b B : Nat} {s : ByteArray} {p : Nat} (h : Below B w wx) (hb : B ≤ b) : Below B w (stepW wx b s p) := by
  refine ⟨h.os, h.tape, h.output, ?_, fun k hk => ?_⟩
  · show w.heap.size ≤ (wx.heap.setIfInBounds b (.stringIter s p)).size
    rw [Array.size_setIfInBounds]
    exact h.size
  · show (wx.heap.setIfInBounds b (.stringIter s p))[k]? = _
    rw [Array.getElem?_setIfInBounds_ne (by omega)]
    exact h.block k hk

theorem run_next_gen {P : Program} (wx : World) (b : Nat) (s : ByteArray) (pos : Nat) (ty : TypeId) (hb : wx.heap[b]? = some (.stringIter s pos)) (h : pos < s.size) :
    (Instr.next (.pointer (some ⟨b, 0, none⟩)) true ty).run P wx = .ok (.tuple #[.bool true, .int .i64 pos, .int .i32 (Utf8.decode s pos).1]) (stepW wx b s (pos + (Utf8.decode s pos).2)) := by
  simp only [Instr.next, getObj, setObj, Sem.run_bind, Sem.run, hb, Result.andThen, h, if_true]
  simp [goInt, stepW]

theorem run_next_gend {P : Program} (wx : World) (b : Nat) (s : ByteArray) (pos : Nat) (ty : TypeId) (hb : wx.heap[b]? = some (.stringIter s pos)) (h : ¬ pos < s.size) :
    (Instr.next (.pointer (some ⟨b, 0, none⟩)) true ty).run P wx = .ok (.tuple #[.bool false]) wx := by
  simp [Instr.next, getObj, Sem.run, hb, h]

theorem get_lt {s : ByteArray} {k : Nat} (h : k < s.size) : s.get! k = s[k] := by
  simp [ByteArray.get!, getElem!_pos, h]
  rfl

/-- A sign of several bytes: all of them beyond ASCII, all of them there. -/
theorem decode_span (s : ByteArray) (pos : Nat) (h : pos < s.size) (ha : 128 ≤ (s[pos]'h).toNat) :
    1 ≤ (Utf8.decode s pos).2 ∧ pos + (Utf8.decode s pos).2 ≤ s.size ∧ ∀ j, j < (Utf8.decode s pos).2 → 128 ≤ (s.get! (pos + j)).toNat := by
  have h0 : 128 ≤ (s.get! (pos + 0)).toNat := by rw [get_at s pos h]; exact ha
  have hn : ¬ (s[pos]'h).toNat < 128 := by omega
  have key : ∀ d : Nat × Nat, d = Utf8.decode s pos → 1 ≤ d.2 ∧ pos + d.2 ≤ s.size ∧ ∀ j, j < d.2 → 128 ≤ (s.get! (pos + j)).toNat := by
    intro d hd
    have one : ∀ j, j < 1 → 128 ≤ (s.get! (pos + j)).toNat := fun j hj => by rw [show j = 0 by omega]; exact h0
    simp only [Utf8.decode, get_at s pos h, hn, if_false] at hd
    split at hd
    · rename_i c
      simp only [Bool.and_eq_true, decide_eq_true_eq, beq_iff_eq] at c
      split at hd
      · subst hd
        refine ⟨by show 1 ≤ 2; omega, by show pos + 2 ≤ _; omega, fun j hj => ?_⟩
        rcases (show j = 0 ∨ j = 1 by have : j < 2 := hj; omega) with rfl | rfl
        · exact h0
        · omega
      · subst hd; exact ⟨Nat.le_refl _, by show pos + 1 ≤ _; omega, one⟩
    · split at hd
      · rename_i c
        simp only [Bool.and_eq_true, decide_eq_true_eq, beq_iff_eq] at c
        split at hd
        · subst hd
          refine ⟨by show 1 ≤ 3; omega, by show pos + 3 ≤ _; omega, fun j hj => ?_⟩
          rcases (show j = 0 ∨ j = 1 ∨ j = 2 by have : j < 3 := hj; omega) with rfl | rfl | rfl
          · exact h0
          · omega
          · omega
        · subst hd; exact ⟨Nat.le_refl _, by show pos + 1 ≤ _; omega, one⟩
      · split at hd
        · rename_i c
          simp only [Bool.and_eq_true, decide_eq_true_eq, beq_iff_eq] at c
          split at hd
          · subst hd
            refine ⟨by show 1 ≤ 4; omega, by show pos + 4 ≤ _; omega, fun j hj => ?_⟩
            rcases (show j = 0 ∨ j = 1 ∨ j = 2 ∨ j = 3 by have : j < 4 := hj; omega) with rfl | rfl | rfl | rfl
            · exact h0
            · omega
            · omega
            · omega
          · subst hd; exact ⟨Nat.le_refl _, by show pos + 1 ≤ _; omega, one⟩
        · subst hd; exact ⟨Nat.le_refl _, by show pos + 1 ≤ _; omega, one⟩
  exact key _ rfl
end Go.Proofs.YtamdnnkdnhkghaaGreatDoor

namespace Go.Proofs.YtamdnnkdnhkghaaGreatDoor
open Go Go.RowKit
set_option linter.unusedVariables false

theorem eE_list : eE.data.toList = [101, 69] := rfl

theorem noAny_span {s : ByteArray} {i d : Nat} (h : Lib.NoAny s.data.toList [101, 69] i) (hd : i + d ≤ s.size) (hb : ∀ j, j < d → 128 ≤ (s.get! (i + j)).toNat) : Lib.NoAny s.data.toList [101, 69] (i + d) := by
  intro j b hj hjb
  by_cases e : j < i
  · exact h j b e hjb
  · have hlt : j < s.size := by omega
    have h1 := hb (j - i) (by omega)
    rw [show i + (j - i) = j by omega, get_lt hlt] at h1
    have h2 : s.data.toList[j]? = some s[j] := Lib.data_getElem? s j hlt
    rw [h2] at hjb
    have h3 : s[j] = b := Option.some.inj hjb
    rw [h3] at h1
    rw [← isE_byte]
    unfold isE b2i
    rw [bq (by omega), bq (by omega)]
    rfl

set_option maxHeartbeats 4000000 in
set_option maxRecDepth 100000 in
theorem ia_short (s : ByteArray) (w : World) (h8 : s.size ≤ 8) :
    Calls Tryz.prog 110 #[.string s, .string eE] w fun e w' => e = .returned (.int .i64 (Lib.indexAny s.data.toList [101, 69])) ∧ Below w.heap.size w w' := by
  have hemp : eE.toList.isEmpty = false := isEmpty_false (by decide)
  have hsz : eE.size = 2 := rfl
  have U := fun (w' : World) => Tryz.strings_shouldUseASCIISet (s.size : Int) w'
  have h8z : decide ((8 : Int) < (s.size : Int)) = false := decide_eq_false (by omega)
  rw [h8z] at U
  have HU := hide U
  clear U h8z
  go_enter Tryz.func110, Tryz.ntmps110
  go_wp2_with fail
  refine (HU.out _).mono ?_
  rintro e w0 ⟨rfl, rfl⟩
  go_wp2
  go_loopg [9, 10] s.size (fun g _ _ wx => ∃ i : Nat, i + g = s.size ∧ Hid (wx.heap[w0.heap.size]? = some (.stringIter s i)) ∧ Hid (Below w0.heap.size w0 wx) ∧ Hid (Lib.NoAny s.data.toList [101, 69] i))
  case atStart => exact ⟨0, by omega, hide (World.iter_heap _ _ _), hide (below_iter _ _ _), hide (Lib.NoAny.zero _ _)⟩
  case round =>
    obtain ⟨i, hig, Hh, Hb, HN⟩ := hrel
    by_cases hlt : i < s.size
    · have hnx := fun ty => run_next_gen (P := Tryz.prog) wr w0.heap.size s i ty Hh.out hlt
      by_cases ha : (s[i]'hlt).toNat < 128
      · rw [decode_ascii s i hlt ha] at hnx
        simp only at hnx
        have Hst := hide (stepW_heap (p := i + 1) Hh.out)
        have Hsb := hide (stepW_below (s := s) (p := i + 1) Hb.out (Nat.le_refl _))
        obtain ⟨x, hx⟩ : ∃ x : UInt8, s[i]'hlt = x := ⟨_, rfl⟩
        have hxl : s.data.toList[i]? = some x := by rw [← hx]; exact Lib.data_getElem? s i hlt
        have Hx := hide hxl
        rw [hx] at ha hnx
        clear hx hxl
        have R := fun (w' : World) => Tryz.strings_IndexRune_ascii eE ((x.toNat : Nat) : Int) w' (by omega) (by omega)
        have hback : (((x.toNat : Nat) : Int)).toNat.toUInt8 = x := by simp
        rw [hback, eE_list] at R
        have hcon := Lib.contains_iff_indexByte [101, 69] x
        have HR := hide R
        clear R hback
        generalize stepW wr w0.heap.size s (i + 1) = ws at *
        cases hin : ([101, 69] : List UInt8).contains x with
        | false =>
          rw [hin] at hcon
          have hlt0 : ¬ ((0 : Int) ≤ Lib.indexByte [101, 69] x) := of_decide_eq_false hcon.symm
          have Hin := hide hin
          clear hcon hin
          go_wp2_with fail
          refine (HR.out _).mono ?_
          rintro e w2 ⟨rfl, rfl⟩
          go_wp2
          go_roundg (gk - 1)
          case rel => exact ⟨i + 1, by omega, Hst, Hsb, hide (HN.out.succ Hx.out Hin.out)⟩
          case measure => omega
        | true =>
          rw [hin] at hcon
          have hge : (0 : Int) ≤ Lib.indexByte [101, 69] x := of_decide_eq_true hcon.symm
          have HI := hide (Lib.indexAny_hit HN.out Hx.out hin)
          clear hcon hin
          go_wp2_with fail
          refine (HR.out _).mono ?_
          rintro e w2 ⟨rfl, rfl⟩
          go_wp2
          go_ret
          exact ⟨by rw [HI.out]; rfl, Hsb.out⟩
      · have ha' : 128 ≤ (s[i]'hlt).toNat := by omega
        obtain ⟨d1, d2, d3⟩ := decode_span s i hlt ha'
        have hhi := (decode_high s i hlt ha').1
        have hle := decode_le s i
        have Hst := hide (stepW_heap (p := i + (Utf8.decode s i).2) Hh.out)
        have Hsb := hide (stepW_below (s := s) (p := i + (Utf8.decode s i).2) Hb.out (Nat.le_refl _))
        have HN2 := hide (noAny_span HN.out d2 d3)
        generalize (Utf8.decode s i).2 = wd at *
        generalize (Utf8.decode s i).1 = rn at *
        generalize stepW wr w0.heap.size s (i + wd) = ws at *
        have R := ir_any (rn : Int) ws (by omega)
        have HR := hide R
        clear R d3
        have hrI : (rn : Int) ≤ 2147483647 := by omega
        go_wp2_with fail
        refine (HR.out).mono ?_
        rintro e w2 ⟨rfl, hb2⟩
        have Hst2 : Hid (w2.heap[w0.heap.size]? = some (.stringIter s (i + wd))) := hide (by
          have hlt2 : w0.heap.size < ws.heap.size := by
            rcases Nat.lt_or_ge w0.heap.size ws.heap.size with g | g
            · exact g
            · have := Hst.out; rw [Array.getElem?_eq_none g] at this; cases this
          rw [hb2.block _ hlt2]
          exact Hst.out)
        have Hb3 := hide (Hsb.out.trans (hb2.mono Hsb.out.size))
        clear hb2
        go_wp2
        go_roundg (gk - wd)
        case rel => exact ⟨i + wd, by omega, Hst2, Hb3, HN2⟩
        case measure => omega
    · have hnx := fun ty => run_next_gend (P := Tryz.prog) wr w0.heap.size s i ty Hh.out hlt
      have HR : Hid (Lib.indexAny s.data.toList [101, 69] = -1) := hide (Lib.indexAny_none (by rw [← size_list, show s.size = i by omega]; exact HN.out))
      go_wp2
      go_ret
      exact ⟨by rw [HR.out]; rfl, Hb.out⟩

theorem z68 : Tryz.zeroCells162 = Array.replicate 256 (Value.bool false) := by kernel_rfl

/-- 'strings.IndexAny' of any text of at most 100 bytes. -/
theorem idx_any : IdxAny := by
  intro s w hs
  by_cases h8 : s.size ≤ 8
  · exact ia_short s w h8
  · refine (Tryz.strings_IndexAny_long (fun w' => by rw [Tryz.zeroValue162 w', z68]) s ⟨#[101, 69]⟩ w (by decide) (by omega) (by omega) (by decide) (fun j b hj => ?_)).mono ?_
    · match j, hj with
      | 0, hj => cases hj; decide
      | 1, hj => cases hj; decide
      | j + 2, hj => cases hj
    · rintro e w' ⟨rfl, rfl⟩
      exact ⟨rfl, ((Below.refl _ _).alloc (Nat.le_refl _) _).alloc (by simp) _⟩
end Go.Proofs.YtamdnnkdnhkghaaGreatDoor
