import Derived.Test.YtcpeabchaimkaaaDoorRK
namespace Go.Proofs.YtcpeabchaimkaaaDoor
open Go Go.RowKit Go.Extern.Stop Go.Stop Go.Extern
set_option linter.unusedVariables false

/-- (Value).Set: the parts of both first; where the one may be laid into the other as it is, it is. -/
theorem rf_rls (v x : Value) : ∃ k : Option (TypeId × Addr × Nat) → Option (TypeId × Addr × Nat) → Sem Value, ReflectliteValue.set #[v, x] = (ReflectliteValue.parts v >>= fun p => ReflectliteValue.parts x >>= fun q => k p q) ∧
    ∀ (dst : TypeId) (a : Addr) (fl : Nat) (src : TypeId) (b : Addr) (g : Nat) (val : Value) (W W' : World), (fl / ReflectliteValue.flagAddr % 2 == 0) = false → (loadVar src b).run Tryd.prog W = .ok val W → (Rtype.directlyAssignable dst src).run Tryd.prog W = .ok true W → (storeVar dst a val).run Tryd.prog W = .ok () W' →
      (k (some (dst, a, fl)) (some (src, b, g))).run Tryd.prog W = .ok (.tuple #[]) W' := by
  refine ⟨_, rfl, ?_⟩
  intro dst a fl src b g val W W' h1 h2 h3 h4
  simp [h1, h2, h3, h4, Result.andThen]
theorem rf_load (g : Nat) (x : Int) (W : World) (hb : W.cell? ⟨g, 0, none⟩ = some (.int .i64 x)) : (loadVar 69 ⟨g, 0, none⟩).run Tryd.prog W = .ok (.agg #[.int .i64 x]) W :=
  run_loadVar_mid (P := Tryd.prog) W g 0 69 [.int .i64 x] (.struct (Tryd.prog.fieldsOf 69)) (fun j v hv => by
    match j, hv with
    | 0, hv => simp at hv; subst hv; exact hb) (by kernel_rfl) rfl (by kernel_rfl)
theorem rf_store (g : Nat) (x : Int) (old : Value) (W : World) (ht : W.cell? ⟨g, 0, none⟩ = some old) (hf : W.frozen? ⟨g, 0, none⟩ = false) :
    (storeVar 69 ⟨g, 0, none⟩ (.agg #[.int .i64 x])).run Tryd.prog W = .ok () (W.setCell ⟨g, 0, none⟩ (.int .i64 x)) :=
  run_storeVar_mid (P := Tryd.prog) W g 0 69 #[.int .i64 x] (fun j hj => by
    have : j = 0 := by simp at hj; omega
    subst this
    exact ⟨by rw [Nat.zero_add, ht]; rfl, hf⟩) (by kernel_rfl) (by simp [Value.oneCell'])
theorem rf_setE (gt gb : Nat) (x : Int) (old : Value) (W : World) (hb : W.cell? ⟨gb, 0, none⟩ = some (.int .i64 x)) (ht : W.cell? ⟨gt, 0, none⟩ = some old) (hf : W.frozen? ⟨gt, 0, none⟩ = false) :
    (ReflectliteValue.set #[.agg #[.pointer (some ⟨2, 69, none⟩), .pointer (some ⟨gt, 0, none⟩), .int .u64 409], .agg #[.pointer (some ⟨2, 69, none⟩), .pointer (some ⟨gb, 0, none⟩), .int .u64 153]]).run Tryd.prog W
      = .ok (.tuple #[]) (W.setCell ⟨gt, 0, none⟩ (.int .i64 x)) := by
  obtain ⟨k, e1, e2⟩ := rf_rls (.agg #[.pointer (some ⟨2, 69, none⟩), .pointer (some ⟨gt, 0, none⟩), .int .u64 409]) (.agg #[.pointer (some ⟨2, 69, none⟩), .pointer (some ⟨gb, 0, none⟩), .int .u64 153])
  rw [e1]
  simp only [Sem.run_bind, rf_partsEa, rf_partsE, Result.andThen]
  exact e2 _ _ _ _ _ _ _ _ _ (by decide) (rf_load gb x W hb) (rf_directE W) (rf_store gt x old W ht hf)

theorem rf_mK (h : Value) (w : World) : (Go.method 261 110 (.agg #[h]) "Kind").run Tryd.prog w = .ok (89, h) w := by kernel_rfl
theorem rf_mE (h : Value) (w : World) : (Go.method 261 110 (.agg #[h]) "Elem").run Tryd.prog w = .ok (99, .agg #[h]) w := by kernel_rfl
theorem rf_mI (h : Value) (w : World) : (Go.method 261 110 (.agg #[h]) "Implements").run Tryd.prog w = .ok (100, .agg #[h]) w := by kernel_rfl
theorem rf_mA (h : Value) (w : World) : (Go.method 261 110 (.agg #[h]) "AssignableTo").run Tryd.prog w = .ok (97, .agg #[h]) w := by kernel_rfl
/-- Where 'errors.errorType' lies: the handle of the type error. -/
def ErrT (w : World) : Prop := w.cell? ⟨0, 0, none⟩ = some (.iface 110 (.agg #[.pointer (some ⟨2, 71, none⟩)]))

set_option maxHeartbeats 4000000 in
set_option maxRecDepth 100000 in
theorem as_hit (t : Nat) (x : Int) (old : Value) (w : World) (hg : ErrT w) (hrow : RowF w 69 t 1 (fun _ => old)) :
    Calls Tryd.prog 27 #[.iface 69 (.agg #[.int .i64 x]), .iface 74 (.pointer (some ⟨t, 0, none⟩))] w fun ev w' => ev = .returned (.bool true) ∧ w'.cell? ⟨t, 0, none⟩ = some (.int .i64 x) ∧ Keeps w w' (fun b => b = t) := by
  have h6 := @run_callFunc_extern Tryd.prog 45 _ (fun args => ReflectliteValue.unpack (args.getD 0 (.tuple #[]))) Tryd.func45 (by kernel_rfl) (by kernel_rfl) (by kernel_rfl) (by kernel_rfl)
  have h7 := @run_callFunc_extern Tryd.prog 46 _ (ReflectliteValue.methodAny (ReflectliteValue.valueError "reflectlite.Value.Type" 0) (fun t _ _ _ => ReflectliteType.toType t)) Tryd.func46 (by kernel_rfl) (by kernel_rfl) (by kernel_rfl) (by kernel_rfl)
  have h8 := @run_callFunc_extern Tryd.prog 47 _ (ReflectliteValue.method (ReflectliteValue.valueError "reflectlite.Value.IsNil" 0) ReflectliteValue.isNil) Tryd.func47 (by kernel_rfl) (by kernel_rfl) (by kernel_rfl) (by kernel_rfl)
  have h27 := @run_callFunc_extern Tryd.prog 89 _ (ReflectliteType.abiMethod fun t => do pure (.int .u8 (← Rtype.kind t))) Tryd.func89 (by kernel_rfl) (by kernel_rfl) (by kernel_rfl) (by kernel_rfl)
  have h37 := @run_callFunc_extern Tryd.prog 99 _ (ReflectliteType.method ReflectliteType.elem) Tryd.func99 (by kernel_rfl) (by kernel_rfl) (by kernel_rfl) (by kernel_rfl)
  have h38 := @run_callFunc_extern Tryd.prog 100 _ (ReflectliteType.relation "Implements" ReflectliteType.implements_) Tryd.func100 (by kernel_rfl) (by kernel_rfl) (by kernel_rfl) (by kernel_rfl)
  have h10 := @run_callFunc_extern Tryd.prog 61 _ ReflectliteType.typeOf Tryd.func61 (by kernel_rfl) (by kernel_rfl) (by kernel_rfl) (by kernel_rfl)
  have h35 := @run_callFunc_extern Tryd.prog 97 _ (ReflectliteType.relation "AssignableTo" ReflectliteType.assignableTo) Tryd.func97 (by kernel_rfl) (by kernel_rfl) (by kernel_rfl) (by kernel_rfl)
  have h11 := @run_callFunc_extern Tryd.prog 62 _ (ReflectliteValue.method (ReflectliteValue.valueError "reflectlite.Value.Elem" 0) ReflectliteValue.elem) Tryd.func62 (by kernel_rfl) (by kernel_rfl) (by kernel_rfl) (by kernel_rfl)
  have h12 := @run_callFunc_extern Tryd.prog 63 _ ReflectliteValue.set Tryd.func63 (by kernel_rfl) (by kernel_rfl) (by kernel_rfl) (by kernel_rfl)
  have ht0 : w.cell? ⟨t, 0, none⟩ = some old := hrow.cell (j := 0) (by omega)
  have hf0 := hrow.frz 0
  have hb4 : Below w.heap.size w ((((w.alloc (.cells #[.pointer (some ⟨t, 0, none⟩)] 74)).alloc (.cells #[.pointer (some ⟨2, 74, none⟩), .pointer (some ⟨w.heap.size, 0, none⟩), .int .u64 150] 89)).alloc (.cells #[.pointer (some ⟨2, 74, none⟩), .pointer (some ⟨w.heap.size, 0, none⟩), .int .u64 150] 89)).alloc (.cells #[.int .i64 x] 69)) := (b_3 w _ _ _).alloc (by simp; omega) _
  have HK := hide (show Keeps w (((((w.alloc (.cells #[.pointer (some ⟨t, 0, none⟩)] 74)).alloc (.cells #[.pointer (some ⟨2, 74, none⟩), .pointer (some ⟨w.heap.size, 0, none⟩), .int .u64 150] 89)).alloc (.cells #[.pointer (some ⟨2, 74, none⟩), .pointer (some ⟨w.heap.size, 0, none⟩), .int .u64 150] 89)).alloc (.cells #[.int .i64 x] 69)).setCell ⟨t, 0, none⟩ (.int .i64 x)) (fun b => b = t) from (Keeps.of hb4 (Nat.le_refl _) (fun b => b = t)).setCell (g := t) (j := 0) rfl _)
  have HC := hide (show (((((w.alloc (.cells #[.pointer (some ⟨t, 0, none⟩)] 74)).alloc (.cells #[.pointer (some ⟨2, 74, none⟩), .pointer (some ⟨w.heap.size, 0, none⟩), .int .u64 150] 89)).alloc (.cells #[.pointer (some ⟨2, 74, none⟩), .pointer (some ⟨w.heap.size, 0, none⟩), .int .u64 150] 89)).alloc (.cells #[.int .i64 x] 69)).setCell ⟨t, 0, none⟩ (.int .i64 x)).cell? ⟨t, 0, none⟩ = some (.int .i64 x) from by
    have h9 := ((hrow.low hb4 hrow.lt).set (j := 0) (by omega) (.int .i64 x)).cell (j := 0) (by omega)
    rw [if_pos rfl] at h9
    exact h9)
  clear hb4 hrow
  have tO := rf_typeOfE
  have a25 := rf_assignableE
  have v25 := rf_valueOfE
  have f6 := rf_valueOfP
  have f7 := rf_typeP
  have k27 := rf_kindP
  have k25 := rf_kindE
  have e27 := rf_elemP
  have i25 := rf_implementsE
  have mK := rf_mK
  have mE := rf_mE
  have mI := rf_mI
  have mA := rf_mA
  unfold ErrT at hg
  have n8 := rf_isNilP ⟨w.heap.size, 0, none⟩ ⟨t, 0, none⟩ ((w.alloc (.cells #[.pointer (some ⟨t, 0, none⟩)] 74)).alloc (.cells #[.pointer (some ⟨2, 74, none⟩), .pointer (some ⟨w.heap.size, 0, none⟩), .int .u64 150] 89)) (by simp)
  have hlt : 0 < w.heap.size := by
    rcases Nat.eq_zero_or_pos w.heap.size with h0 | h
    · simp [World.cell?, h0] at hg
    · exact h
  have hg2 : ((w.alloc (.cells #[.pointer (some ⟨t, 0, none⟩)] 74)).alloc (.cells #[.pointer (some ⟨2, 74, none⟩), .pointer (some ⟨w.heap.size, 0, none⟩), .int .u64 150] 89)).cell? ⟨0, 0, none⟩ = some (.iface 110 (.agg #[.pointer (some ⟨2, 71, none⟩)])) := by
    rw [World.cell?_alloc_lt _ _ ⟨0, 0, none⟩ (by simp), World.cell?_alloc_lt _ _ ⟨0, 0, none⟩ hlt]; exact hg
  have htl : t < w.heap.size := by
    rcases Nat.lt_or_ge t w.heap.size with h | h
    · exact h
    · simp [World.cell?, Array.getElem?_eq_none h] at ht0
  have el := rf_elemVP ⟨w.heap.size, 0, none⟩ ⟨t, 0, none⟩ (((w.alloc (.cells #[.pointer (some ⟨t, 0, none⟩)] 74)).alloc (.cells #[.pointer (some ⟨2, 74, none⟩), .pointer (some ⟨w.heap.size, 0, none⟩), .int .u64 150] 89)).alloc (.cells #[.pointer (some ⟨2, 74, none⟩), .pointer (some ⟨w.heap.size, 0, none⟩), .int .u64 150] 89)) (by rw [World.cell?_alloc_lt _ _ ⟨w.heap.size, 0, none⟩ (by simp; omega)]; simp)
  have st := rf_setE t (w.heap.size + 1 + 1 + 1) x old ((((w.alloc (.cells #[.pointer (some ⟨t, 0, none⟩)] 74)).alloc (.cells #[.pointer (some ⟨2, 74, none⟩), .pointer (some ⟨w.heap.size, 0, none⟩), .int .u64 150] 89)).alloc (.cells #[.pointer (some ⟨2, 74, none⟩), .pointer (some ⟨w.heap.size, 0, none⟩), .int .u64 150] 89)).alloc (.cells #[.int .i64 x] 69))
    (by rw [World.cell?_alloc_at _ _ _ _ (by simp)]; rfl)
    (by rw [World.cell?_alloc_lt _ _ ⟨t, 0, none⟩ (by simp; omega), World.cell?_alloc_lt _ _ ⟨t, 0, none⟩ (by simp; omega), World.cell?_alloc_lt _ _ ⟨t, 0, none⟩ (by simp; omega), World.cell?_alloc_lt _ _ ⟨t, 0, none⟩ htl]; exact ht0)
    (by rw [World.frozen?_alloc_old _ _ ⟨t, 0, none⟩ (by simp; omega), World.frozen?_alloc_old _ _ ⟨t, 0, none⟩ (by simp; omega), World.frozen?_alloc_old _ _ ⟨t, 0, none⟩ (by simp; omega), World.frozen?_alloc_old _ _ ⟨t, 0, none⟩ (Nat.ne_of_lt htl)]; exact hf0)
  go_enter Tryd.func27, Tryd.ntmps27
  go_wp2
  refine wp_loop_rounds 1 ?_
  rw [rounds_succ]
  go_wp2
  go_ret
  exact ⟨rfl, HC.out, HK.out⟩

end Go.Proofs.YtcpeabchaimkaaaDoor
