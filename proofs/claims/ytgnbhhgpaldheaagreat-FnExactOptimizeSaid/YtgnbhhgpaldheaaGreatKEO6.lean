import Derived.Test.YtgnbhhgpaldheaaGreatKEO0
import Derived.Test.YtgnbhhgpaldheaaGreatKD19
namespace Go.Proofs.YtgnbhhgpaldheaaGreat
open Go Go.RowKit
set_option linter.unusedVariables false
theorem R9.P67 {base Z P X : Nat} {v6 v7 : Value} {n6 n7 : Nat} {xs6 xs7 : List Value} {y0 y1 y2 y3 yl : Int} {bf xf : Nat → Value} {w0 : World} {o6 o7 : Option Nat} {W : World} {b6 b7 : Value} (h : R9 base Z P X v6 v7 n6 n7 xs6 xs7 y0 y1 y2 y3 yl bf xf w0 o6 o7 W) (e6 : bf 6 = b6) (e7 : bf 7 = b7) : W.cell? ⟨P, 6, none⟩ = some b6 ∧ W.cell? ⟨P, 7, none⟩ = some b7 :=
  ⟨(h.p 6 (by omega)).trans (congrArg some e6), (h.p 7 (by omega)).trans (congrArg some e7)⟩
theorem stepU {ops : Array Oper} {Q : Exit → Act → World → Prop} {T S : World → Prop} {c i m : Nat} {L : Array Bool} {a : Act} {w : World} {o : Oper} (ho : ops[i]? = some o) (hw : Region.wanted o (yielded ops a.tmps) = true)
    (h : ∀ K : Act → World → Prop, Shut (∀ a' w', T w' → ((L.setIfInBounds i true).getD c true = false → S w') → wpAnyU ops Q T S c m (L.setIfInBounds i true) a' w' → K a' w') → Oper.wp Tryz.prog o a w K Q) :
    wpOp Tryz.prog ops Q i (fun a' w' => T w' ∧ ((L.setIfInBounds i true).getD c true = false → S w') ∧ wpAnyU ops Q T S c m (L.setIfInBounds i true) a' w') a w :=
  wpOp_step ho (fun K hK => by rw [if_pos hw]; exact h K (fun a' w' h1 h2 h3 => hK a' w' ⟨h1, h2, h3⟩))
theorem readyU1 {p : Nat → Prop} {i : Nat} (h : p i) : ∀ k ∈ [i], p k := fun k hk => by
  rw [List.mem_singleton] at hk; subst hk; exact h
theorem readyU2 {p : Nat → Prop} {i j : Nat} (h : p i) (h' : p j) : ∀ k ∈ [i, j], p k := fun k hk => by
  rcases List.mem_cons.1 hk with rfl | hk
  · exact h
  · rw [List.mem_singleton] at hk; subst hk; exact h'
set_option maxHeartbeats 8000000 in
set_option maxRecDepth 100000 in
theorem reg9 {base Z P X n c6 c7 : Nat} {a6 a7 : Option Addr} {xs6 xs7 : List Value} {y0 y1 y2 y3 yl : Int} {bf xf : Nat → Value} {w0 w : World} {t0 t2 t3 t4 t5 t6 t7 t9 t10 t11 t12 t13 t14 t15 t16 t17 t18 t19 t20 t21 t22 t23 t24 t25 t26 t27 t28 t29 t30 t31 t32 t33 t34 t35 t36 t37 t38 t39 t40 t41 t42 t43 t44 t45 t46 t47 t48 t49 t50 t51 t52 t53 t54 t55 t56 t57 t58 t59 t60 t61 t62 t63 t64 t65 t66 t67 t68 t69 t70 t71 t72 t73 t74 t75 t76 t77 t78 t79 t80 t81 t82 t83 t84 t85 t86 t87 t88 t89 t90 t91 t92 t93 t94 t95 t96 t97 t98 t99 t100 t101 t102 : Value} (Q : Exit → Act → World → Prop) (hQ : ∀ k a d v w, Q (.panic k) (Act.put a d v) w → Q (.panic k) a w) (hn : n ≤ 65535) (hb6 : bf 6 = .slice a6 n c6) (hb7 : bf 7 = .slice a7 n c7)
    (h : R9 base Z P X (.slice a6 n c6) (.slice a7 n c7) n n xs6 xs7 y0 y1 y2 y3 yl bf xf w0 none none w)
    (hpost : ∀ (v44 v50 : Value) (d6 d7 : Option Addr) (e6 e7 : Nat) (W : World), R9 base Z P X (.slice d6 (n + 1) e6) (.slice d7 (n + 1) e7) (n + 1) (n + 1) (xs6 ++ [.int .i64 y0, .int .i64 y1, .int .i64 y2, .int .i64 y3]) (xs7 ++ [.int .i64 yl]) y0 y1 y2 y3 yl bf xf w0 none none W → Q .normal ⟨#[t0, .pointer (some ⟨P, 0, none⟩), t2, t3, t4, t5, t6, t7, .pointer (some ⟨X, 0, none⟩), t9, t10, t11, t12, t13, t14, t15, t16, t17, t18, t19, t20, t21, t22, t23, t24, t25, t26, t27, t28, t29, t30, t31, t32, t33, t34, t35, t36, t37, t38, t39, .pointer (some ⟨P, 6, none⟩), .slice a6 n c6, .pointer (some ⟨X, 0, none⟩), .agg #[.int .i64 y0, .int .i64 y1, .int .i64 y2, .int .i64 y3], v44, .slice d6 (n + 1) e6, .pointer (some ⟨P, 7, none⟩), .slice a7 n c7, .pointer (some ⟨X, 4, none⟩), .int .i64 yl, v50, .slice d7 (n + 1) e7, .pointer (some ⟨P, 6, none⟩), .pointer (some ⟨P, 7, none⟩), t54, t55, t56, t57, t58, t59, t60, t61, t62, t63, t64, t65, t66, t67, t68, t69, t70, t71, t72, t73, t74, t75, t76, t77, t78, t79, t80, t81, t82, t83, t84, t85, t86, t87, t88, t89, t90, t91, t92, t93, t94, t95, t96, t97, t98, t99, t100, t101, t102], []⟩ ((W.setCell ⟨P, 6, none⟩ (.slice d6 (n + 1) e6)).setCell ⟨P, 7, none⟩ (.slice d7 (n + 1) e7))) :
    (Code.region 9 r9.toArray true).wp Tryz.prog Q ⟨#[t0, .pointer (some ⟨P, 0, none⟩), t2, t3, t4, t5, t6, t7, .pointer (some ⟨X, 0, none⟩), t9, t10, t11, t12, t13, t14, t15, t16, t17, t18, t19, t20, t21, t22, t23, t24, t25, t26, t27, t28, t29, t30, t31, t32, t33, t34, t35, t36, t37, t38, t39, t40, t41, t42, t43, t44, t45, t46, t47, t48, t49, t50, t51, t52, t53, t54, t55, t56, t57, t58, t59, t60, t61, t62, t63, t64, t65, t66, t67, t68, t69, t70, t71, t72, t73, t74, t75, t76, t77, t78, t79, t80, t81, t82, t83, t84, t85, t86, t87, t88, t89, t90, t91, t92, t93, t94, t95, t96, t97, t98, t99, t100, t101, t102], []⟩ w := by
  have HP := hide hpost
  have HR := hide h.drew
  have H6 := hide hb6
  have H7 := hide hb7
  have HQ := hide hQ
  clear h hpost hb6 hb7 hQ
  refine wp_region_U (T := (fun W : World => W.cell? ⟨X, 0, none⟩ = some (.int .i64 y0) ∧ W.cell? ⟨X, 1, none⟩ = some (.int .i64 y1) ∧ W.cell? ⟨X, 2, none⟩ = some (.int .i64 y2) ∧ W.cell? ⟨X, 3, none⟩ = some (.int .i64 y3) ∧ W.cell? ⟨X, 4, none⟩ = some (.int .i64 yl))) (S := (fun W : World => W.cell? ⟨P, 6, none⟩ = some (.slice a6 n c6) ∧ W.cell? ⟨P, 7, none⟩ = some (.slice a7 n c7))) (c := 13) ?_
  show wpAnyU r9.toArray Q (fun W : World => W.cell? ⟨X, 0, none⟩ = some (.int .i64 y0) ∧ W.cell? ⟨X, 1, none⟩ = some (.int .i64 y1) ∧ W.cell? ⟨X, 2, none⟩ = some (.int .i64 y2) ∧ W.cell? ⟨X, 3, none⟩ = some (.int .i64 y3) ∧ W.cell? ⟨X, 4, none⟩ = some (.int .i64 yl)) (fun W : World => W.cell? ⟨P, 6, none⟩ = some (.slice a6 n c6) ∧ W.cell? ⟨P, 7, none⟩ = some (.slice a7 n c7)) 13 16 #[false, false, false, false, false, false, false, false, false, false, false, false, false, false, false, false] ⟨#[t0, .pointer (some ⟨P, 0, none⟩), t2, t3, t4, t5, t6, t7, .pointer (some ⟨X, 0, none⟩), t9, t10, t11, t12, t13, t14, t15, t16, t17, t18, t19, t20, t21, t22, t23, t24, t25, t26, t27, t28, t29, t30, t31, t32, t33, t34, t35, t36, t37, t38, t39, t40, t41, t42, t43, t44, t45, t46, t47, t48, t49, t50, t51, t52, t53, t54, t55, t56, t57, t58, t59, t60, t61, t62, t63, t64, t65, t66, t67, t68, t69, t70, t71, t72, t73, t74, t75, t76, t77, t78, t79, t80, t81, t82, t83, t84, t85, t86, t87, t88, t89, t90, t91, t92, t93, t94, t95, t96, t97, t98, t99, t100, t101, t102], []⟩ w.drew
  refine wpAnyU_takeT (i := 0) (oi := { dst := some 40, op := Op.fieldAddr 45 (Operand.tmp 1) 6, type := 0, pos := "l14_optimize.go:107", after := #[], guard := none }) (v := .pointer (some ⟨P, 6, none⟩)) rfl (by kernel_rfl) (by kernel_rfl) (by kernel_rfl) rfl (fun k a w h => HQ.out k a _ _ w h) (Or.inl ⟨by rfl, fun w' hSw => by
    obtain ⟨g0, g1, g2, g3, g4⟩ := hSw
    go_simp⟩) HR.out.S (fun _ => HR.out.P67 H6.out H7.out) ?_
  show wpAnyU r9.toArray Q (fun W : World => W.cell? ⟨X, 0, none⟩ = some (.int .i64 y0) ∧ W.cell? ⟨X, 1, none⟩ = some (.int .i64 y1) ∧ W.cell? ⟨X, 2, none⟩ = some (.int .i64 y2) ∧ W.cell? ⟨X, 3, none⟩ = some (.int .i64 y3) ∧ W.cell? ⟨X, 4, none⟩ = some (.int .i64 yl)) (fun W : World => W.cell? ⟨P, 6, none⟩ = some (.slice a6 n c6) ∧ W.cell? ⟨P, 7, none⟩ = some (.slice a7 n c7)) 13 15 #[true, false, false, false, false, false, false, false, false, false, false, false, false, false, false, false] ⟨#[t0, .pointer (some ⟨P, 0, none⟩), t2, t3, t4, t5, t6, t7, .pointer (some ⟨X, 0, none⟩), t9, t10, t11, t12, t13, t14, t15, t16, t17, t18, t19, t20, t21, t22, t23, t24, t25, t26, t27, t28, t29, t30, t31, t32, t33, t34, t35, t36, t37, t38, t39, .pointer (some ⟨P, 6, none⟩), t41, t42, t43, t44, t45, t46, t47, t48, t49, t50, t51, t52, t53, t54, t55, t56, t57, t58, t59, t60, t61, t62, t63, t64, t65, t66, t67, t68, t69, t70, t71, t72, t73, t74, t75, t76, t77, t78, t79, t80, t81, t82, t83, t84, t85, t86, t87, t88, t89, t90, t91, t92, t93, t94, t95, t96, t97, t98, t99, t100, t101, t102], []⟩ w.drew
  refine wpAnyU_takeT (i := 2) (oi := { dst := some 42, op := Op.fieldAddr 94 (Operand.tmp 8) 0, type := 0, pos := "l14_optimize.go:107", after := #[], guard := none }) (v := .pointer (some ⟨X, 0, none⟩)) rfl (by kernel_rfl) (by kernel_rfl) (by kernel_rfl) rfl (fun k a w h => HQ.out k a _ _ w h) (Or.inl ⟨by rfl, fun w' hSw => by
    obtain ⟨g0, g1, g2, g3, g4⟩ := hSw
    go_simp⟩) HR.out.S (fun _ => HR.out.P67 H6.out H7.out) ?_
  show wpAnyU r9.toArray Q (fun W : World => W.cell? ⟨X, 0, none⟩ = some (.int .i64 y0) ∧ W.cell? ⟨X, 1, none⟩ = some (.int .i64 y1) ∧ W.cell? ⟨X, 2, none⟩ = some (.int .i64 y2) ∧ W.cell? ⟨X, 3, none⟩ = some (.int .i64 y3) ∧ W.cell? ⟨X, 4, none⟩ = some (.int .i64 yl)) (fun W : World => W.cell? ⟨P, 6, none⟩ = some (.slice a6 n c6) ∧ W.cell? ⟨P, 7, none⟩ = some (.slice a7 n c7)) 13 14 #[true, false, true, false, false, false, false, false, false, false, false, false, false, false, false, false] ⟨#[t0, .pointer (some ⟨P, 0, none⟩), t2, t3, t4, t5, t6, t7, .pointer (some ⟨X, 0, none⟩), t9, t10, t11, t12, t13, t14, t15, t16, t17, t18, t19, t20, t21, t22, t23, t24, t25, t26, t27, t28, t29, t30, t31, t32, t33, t34, t35, t36, t37, t38, t39, .pointer (some ⟨P, 6, none⟩), t41, .pointer (some ⟨X, 0, none⟩), t43, t44, t45, t46, t47, t48, t49, t50, t51, t52, t53, t54, t55, t56, t57, t58, t59, t60, t61, t62, t63, t64, t65, t66, t67, t68, t69, t70, t71, t72, t73, t74, t75, t76, t77, t78, t79, t80, t81, t82, t83, t84, t85, t86, t87, t88, t89, t90, t91, t92, t93, t94, t95, t96, t97, t98, t99, t100, t101, t102], []⟩ w.drew
  refine wpAnyU_takeT (i := 3) (oi := { dst := some 43, op := Op.load 51 (Operand.tmp 42), type := 51, pos := "l14_optimize.go:107", after := #[{ on := 2, ground := Ground.data }], guard := none }) (v := .agg #[.int .i64 y0, .int .i64 y1, .int .i64 y2, .int .i64 y3]) rfl (by kernel_rfl) (by kernel_rfl) (by kernel_rfl) rfl (fun k a w h => HQ.out k a _ _ w h) (Or.inl ⟨by rfl, fun w' hSw => by
    obtain ⟨g0, g1, g2, g3, g4⟩ := hSw
    go_simp⟩) HR.out.S (fun _ => HR.out.P67 H6.out H7.out) ?_
  show wpAnyU r9.toArray Q (fun W : World => W.cell? ⟨X, 0, none⟩ = some (.int .i64 y0) ∧ W.cell? ⟨X, 1, none⟩ = some (.int .i64 y1) ∧ W.cell? ⟨X, 2, none⟩ = some (.int .i64 y2) ∧ W.cell? ⟨X, 3, none⟩ = some (.int .i64 y3) ∧ W.cell? ⟨X, 4, none⟩ = some (.int .i64 yl)) (fun W : World => W.cell? ⟨P, 6, none⟩ = some (.slice a6 n c6) ∧ W.cell? ⟨P, 7, none⟩ = some (.slice a7 n c7)) 13 13 #[true, false, true, true, false, false, false, false, false, false, false, false, false, false, false, false] ⟨#[t0, .pointer (some ⟨P, 0, none⟩), t2, t3, t4, t5, t6, t7, .pointer (some ⟨X, 0, none⟩), t9, t10, t11, t12, t13, t14, t15, t16, t17, t18, t19, t20, t21, t22, t23, t24, t25, t26, t27, t28, t29, t30, t31, t32, t33, t34, t35, t36, t37, t38, t39, .pointer (some ⟨P, 6, none⟩), t41, .pointer (some ⟨X, 0, none⟩), .agg #[.int .i64 y0, .int .i64 y1, .int .i64 y2, .int .i64 y3], t44, t45, t46, t47, t48, t49, t50, t51, t52, t53, t54, t55, t56, t57, t58, t59, t60, t61, t62, t63, t64, t65, t66, t67, t68, t69, t70, t71, t72, t73, t74, t75, t76, t77, t78, t79, t80, t81, t82, t83, t84, t85, t86, t87, t88, t89, t90, t91, t92, t93, t94, t95, t96, t97, t98, t99, t100, t101, t102], []⟩ w.drew
  refine wpAnyU_takeT (i := 6) (oi := { dst := some 46, op := Op.fieldAddr 45 (Operand.tmp 1) 7, type := 0, pos := "l14_optimize.go:107", after := #[], guard := none }) (v := .pointer (some ⟨P, 7, none⟩)) rfl (by kernel_rfl) (by kernel_rfl) (by kernel_rfl) rfl (fun k a w h => HQ.out k a _ _ w h) (Or.inl ⟨by rfl, fun w' hSw => by
    obtain ⟨g0, g1, g2, g3, g4⟩ := hSw
    go_simp⟩) HR.out.S (fun _ => HR.out.P67 H6.out H7.out) ?_
  show wpAnyU r9.toArray Q (fun W : World => W.cell? ⟨X, 0, none⟩ = some (.int .i64 y0) ∧ W.cell? ⟨X, 1, none⟩ = some (.int .i64 y1) ∧ W.cell? ⟨X, 2, none⟩ = some (.int .i64 y2) ∧ W.cell? ⟨X, 3, none⟩ = some (.int .i64 y3) ∧ W.cell? ⟨X, 4, none⟩ = some (.int .i64 yl)) (fun W : World => W.cell? ⟨P, 6, none⟩ = some (.slice a6 n c6) ∧ W.cell? ⟨P, 7, none⟩ = some (.slice a7 n c7)) 13 12 #[true, false, true, true, false, false, true, false, false, false, false, false, false, false, false, false] ⟨#[t0, .pointer (some ⟨P, 0, none⟩), t2, t3, t4, t5, t6, t7, .pointer (some ⟨X, 0, none⟩), t9, t10, t11, t12, t13, t14, t15, t16, t17, t18, t19, t20, t21, t22, t23, t24, t25, t26, t27, t28, t29, t30, t31, t32, t33, t34, t35, t36, t37, t38, t39, .pointer (some ⟨P, 6, none⟩), t41, .pointer (some ⟨X, 0, none⟩), .agg #[.int .i64 y0, .int .i64 y1, .int .i64 y2, .int .i64 y3], t44, t45, .pointer (some ⟨P, 7, none⟩), t47, t48, t49, t50, t51, t52, t53, t54, t55, t56, t57, t58, t59, t60, t61, t62, t63, t64, t65, t66, t67, t68, t69, t70, t71, t72, t73, t74, t75, t76, t77, t78, t79, t80, t81, t82, t83, t84, t85, t86, t87, t88, t89, t90, t91, t92, t93, t94, t95, t96, t97, t98, t99, t100, t101, t102], []⟩ w.drew
  refine wpAnyU_takeT (i := 8) (oi := { dst := some 48, op := Op.fieldAddr 94 (Operand.tmp 8) 1, type := 0, pos := "l14_optimize.go:107", after := #[], guard := none }) (v := .pointer (some ⟨X, 4, none⟩)) rfl (by kernel_rfl) (by kernel_rfl) (by kernel_rfl) rfl (fun k a w h => HQ.out k a _ _ w h) (Or.inl ⟨by rfl, fun w' hSw => by
    obtain ⟨g0, g1, g2, g3, g4⟩ := hSw
    go_simp⟩) HR.out.S (fun _ => HR.out.P67 H6.out H7.out) ?_
  show wpAnyU r9.toArray Q (fun W : World => W.cell? ⟨X, 0, none⟩ = some (.int .i64 y0) ∧ W.cell? ⟨X, 1, none⟩ = some (.int .i64 y1) ∧ W.cell? ⟨X, 2, none⟩ = some (.int .i64 y2) ∧ W.cell? ⟨X, 3, none⟩ = some (.int .i64 y3) ∧ W.cell? ⟨X, 4, none⟩ = some (.int .i64 yl)) (fun W : World => W.cell? ⟨P, 6, none⟩ = some (.slice a6 n c6) ∧ W.cell? ⟨P, 7, none⟩ = some (.slice a7 n c7)) 13 11 #[true, false, true, true, false, false, true, false, true, false, false, false, false, false, false, false] ⟨#[t0, .pointer (some ⟨P, 0, none⟩), t2, t3, t4, t5, t6, t7, .pointer (some ⟨X, 0, none⟩), t9, t10, t11, t12, t13, t14, t15, t16, t17, t18, t19, t20, t21, t22, t23, t24, t25, t26, t27, t28, t29, t30, t31, t32, t33, t34, t35, t36, t37, t38, t39, .pointer (some ⟨P, 6, none⟩), t41, .pointer (some ⟨X, 0, none⟩), .agg #[.int .i64 y0, .int .i64 y1, .int .i64 y2, .int .i64 y3], t44, t45, .pointer (some ⟨P, 7, none⟩), t47, .pointer (some ⟨X, 4, none⟩), t49, t50, t51, t52, t53, t54, t55, t56, t57, t58, t59, t60, t61, t62, t63, t64, t65, t66, t67, t68, t69, t70, t71, t72, t73, t74, t75, t76, t77, t78, t79, t80, t81, t82, t83, t84, t85, t86, t87, t88, t89, t90, t91, t92, t93, t94, t95, t96, t97, t98, t99, t100, t101, t102], []⟩ w.drew
  refine wpAnyU_takeT (i := 9) (oi := { dst := some 49, op := Op.load 3 (Operand.tmp 48), type := 3, pos := "l14_optimize.go:107", after := #[{ on := 8, ground := Ground.data }], guard := none }) (v := .int .i64 yl) rfl (by kernel_rfl) (by kernel_rfl) (by kernel_rfl) rfl (fun k a w h => HQ.out k a _ _ w h) (Or.inl ⟨by rfl, fun w' hSw => by
    obtain ⟨g0, g1, g2, g3, g4⟩ := hSw
    go_simp⟩) HR.out.S (fun _ => HR.out.P67 H6.out H7.out) ?_
  show wpAnyU r9.toArray Q (fun W : World => W.cell? ⟨X, 0, none⟩ = some (.int .i64 y0) ∧ W.cell? ⟨X, 1, none⟩ = some (.int .i64 y1) ∧ W.cell? ⟨X, 2, none⟩ = some (.int .i64 y2) ∧ W.cell? ⟨X, 3, none⟩ = some (.int .i64 y3) ∧ W.cell? ⟨X, 4, none⟩ = some (.int .i64 yl)) (fun W : World => W.cell? ⟨P, 6, none⟩ = some (.slice a6 n c6) ∧ W.cell? ⟨P, 7, none⟩ = some (.slice a7 n c7)) 13 10 #[true, false, true, true, false, false, true, false, true, true, false, false, false, false, false, false] ⟨#[t0, .pointer (some ⟨P, 0, none⟩), t2, t3, t4, t5, t6, t7, .pointer (some ⟨X, 0, none⟩), t9, t10, t11, t12, t13, t14, t15, t16, t17, t18, t19, t20, t21, t22, t23, t24, t25, t26, t27, t28, t29, t30, t31, t32, t33, t34, t35, t36, t37, t38, t39, .pointer (some ⟨P, 6, none⟩), t41, .pointer (some ⟨X, 0, none⟩), .agg #[.int .i64 y0, .int .i64 y1, .int .i64 y2, .int .i64 y3], t44, t45, .pointer (some ⟨P, 7, none⟩), t47, .pointer (some ⟨X, 4, none⟩), .int .i64 yl, t50, t51, t52, t53, t54, t55, t56, t57, t58, t59, t60, t61, t62, t63, t64, t65, t66, t67, t68, t69, t70, t71, t72, t73, t74, t75, t76, t77, t78, t79, t80, t81, t82, t83, t84, t85, t86, t87, t88, t89, t90, t91, t92, t93, t94, t95, t96, t97, t98, t99, t100, t101, t102], []⟩ w.drew
  refine wpAnyU_take (i := 1) (oi := { dst := some 41, op := Op.load 42 (Operand.tmp 40), type := 42, pos := "l14_optimize.go:107", after := #[{ on := 0, ground := Ground.data }], guard := none }) (v := .slice a6 n c6) rfl (by kernel_rfl) (by kernel_rfl) (by kernel_rfl) (by kernel_rfl) rfl rfl (fun k a w h => HQ.out k a _ _ w h) (Or.inl ⟨by rfl, fun w' hSw => by
    obtain ⟨g6, g7⟩ := hSw
    go_simp⟩) HR.out.S (HR.out.P67 H6.out H7.out) ?_
  show wpAnyU r9.toArray Q (fun W : World => W.cell? ⟨X, 0, none⟩ = some (.int .i64 y0) ∧ W.cell? ⟨X, 1, none⟩ = some (.int .i64 y1) ∧ W.cell? ⟨X, 2, none⟩ = some (.int .i64 y2) ∧ W.cell? ⟨X, 3, none⟩ = some (.int .i64 y3) ∧ W.cell? ⟨X, 4, none⟩ = some (.int .i64 yl)) (fun W : World => W.cell? ⟨P, 6, none⟩ = some (.slice a6 n c6) ∧ W.cell? ⟨P, 7, none⟩ = some (.slice a7 n c7)) 13 9 #[true, true, true, true, false, false, true, false, true, true, false, false, false, false, false, false] ⟨#[t0, .pointer (some ⟨P, 0, none⟩), t2, t3, t4, t5, t6, t7, .pointer (some ⟨X, 0, none⟩), t9, t10, t11, t12, t13, t14, t15, t16, t17, t18, t19, t20, t21, t22, t23, t24, t25, t26, t27, t28, t29, t30, t31, t32, t33, t34, t35, t36, t37, t38, t39, .pointer (some ⟨P, 6, none⟩), .slice a6 n c6, .pointer (some ⟨X, 0, none⟩), .agg #[.int .i64 y0, .int .i64 y1, .int .i64 y2, .int .i64 y3], t44, t45, .pointer (some ⟨P, 7, none⟩), t47, .pointer (some ⟨X, 4, none⟩), .int .i64 yl, t50, t51, t52, t53, t54, t55, t56, t57, t58, t59, t60, t61, t62, t63, t64, t65, t66, t67, t68, t69, t70, t71, t72, t73, t74, t75, t76, t77, t78, t79, t80, t81, t82, t83, t84, t85, t86, t87, t88, t89, t90, t91, t92, t93, t94, t95, t96, t97, t98, t99, t100, t101, t102], []⟩ w.drew
  refine wpAnyU_take (i := 7) (oi := { dst := some 47, op := Op.load 43 (Operand.tmp 46), type := 43, pos := "l14_optimize.go:107", after := #[{ on := 6, ground := Ground.data }], guard := none }) (v := .slice a7 n c7) rfl (by kernel_rfl) (by kernel_rfl) (by kernel_rfl) (by kernel_rfl) rfl rfl (fun k a w h => HQ.out k a _ _ w h) (Or.inl ⟨by rfl, fun w' hSw => by
    obtain ⟨g6, g7⟩ := hSw
    go_simp⟩) HR.out.S (HR.out.P67 H6.out H7.out) ?_
  show wpAnyU r9.toArray Q (fun W : World => W.cell? ⟨X, 0, none⟩ = some (.int .i64 y0) ∧ W.cell? ⟨X, 1, none⟩ = some (.int .i64 y1) ∧ W.cell? ⟨X, 2, none⟩ = some (.int .i64 y2) ∧ W.cell? ⟨X, 3, none⟩ = some (.int .i64 y3) ∧ W.cell? ⟨X, 4, none⟩ = some (.int .i64 yl)) (fun W : World => W.cell? ⟨P, 6, none⟩ = some (.slice a6 n c6) ∧ W.cell? ⟨P, 7, none⟩ = some (.slice a7 n c7)) 13 8 #[true, true, true, true, false, false, true, true, true, true, false, false, false, false, false, false] ⟨#[t0, .pointer (some ⟨P, 0, none⟩), t2, t3, t4, t5, t6, t7, .pointer (some ⟨X, 0, none⟩), t9, t10, t11, t12, t13, t14, t15, t16, t17, t18, t19, t20, t21, t22, t23, t24, t25, t26, t27, t28, t29, t30, t31, t32, t33, t34, t35, t36, t37, t38, t39, .pointer (some ⟨P, 6, none⟩), .slice a6 n c6, .pointer (some ⟨X, 0, none⟩), .agg #[.int .i64 y0, .int .i64 y1, .int .i64 y2, .int .i64 y3], t44, t45, .pointer (some ⟨P, 7, none⟩), .slice a7 n c7, .pointer (some ⟨X, 4, none⟩), .int .i64 yl, t50, t51, t52, t53, t54, t55, t56, t57, t58, t59, t60, t61, t62, t63, t64, t65, t66, t67, t68, t69, t70, t71, t72, t73, t74, t75, t76, t77, t78, t79, t80, t81, t82, t83, t84, t85, t86, t87, t88, t89, t90, t91, t92, t93, t94, t95, t96, t97, t98, t99, t100, t101, t102], []⟩ w.drew
  refine wpAnyU_all (rs := [4, 10]) (by kernel_rfl) (by simp) ?_
  refine readyU2 ?_ ?_
  ·
    refine stepU (o := { dst := some 44, op := Op.buildSlice 42 1 #[(0, Operand.tmp 43)], type := 42, pos := "l14_optimize.go:107", after := #[{ on := 3, ground := Ground.data }], guard := none }) rfl (by rfl) (fun K hK => ?_)
    go_wp2_with fail
    refine hK _ _ HR.out.al6.S (fun _ => HR.out.al6.P67 H6.out H7.out) ?_
    clear hK K
    show wpAnyU r9.toArray Q (fun W : World => W.cell? ⟨X, 0, none⟩ = some (.int .i64 y0) ∧ W.cell? ⟨X, 1, none⟩ = some (.int .i64 y1) ∧ W.cell? ⟨X, 2, none⟩ = some (.int .i64 y2) ∧ W.cell? ⟨X, 3, none⟩ = some (.int .i64 y3) ∧ W.cell? ⟨X, 4, none⟩ = some (.int .i64 yl)) (fun W : World => W.cell? ⟨P, 6, none⟩ = some (.slice a6 n c6) ∧ W.cell? ⟨P, 7, none⟩ = some (.slice a7 n c7)) 13 7 #[true, true, true, true, true, false, true, true, true, true, false, false, false, false, false, false] ⟨#[t0, .pointer (some ⟨P, 0, none⟩), t2, t3, t4, t5, t6, t7, .pointer (some ⟨X, 0, none⟩), t9, t10, t11, t12, t13, t14, t15, t16, t17, t18, t19, t20, t21, t22, t23, t24, t25, t26, t27, t28, t29, t30, t31, t32, t33, t34, t35, t36, t37, t38, t39, .pointer (some ⟨P, 6, none⟩), .slice a6 n c6, .pointer (some ⟨X, 0, none⟩), .agg #[.int .i64 y0, .int .i64 y1, .int .i64 y2, .int .i64 y3], .slice (some ⟨w.heap.size, 0, none⟩) 1 1, t45, .pointer (some ⟨P, 7, none⟩), .slice a7 n c7, .pointer (some ⟨X, 4, none⟩), .int .i64 yl, t50, t51, t52, t53, t54, t55, t56, t57, t58, t59, t60, t61, t62, t63, t64, t65, t66, t67, t68, t69, t70, t71, t72, t73, t74, t75, t76, t77, t78, t79, t80, t81, t82, t83, t84, t85, t86, t87, t88, t89, t90, t91, t92, t93, t94, t95, t96, t97, t98, t99, t100, t101, t102], []⟩ (w.drew.alloc (.cells #[.int .i64 y0, .int .i64 y1, .int .i64 y2, .int .i64 y3] 51))
    refine wpAnyU_all (rs := [5, 10]) (by kernel_rfl) (by simp) ?_
    refine readyU2 ?_ ?_
    ·
      refine stepU (o := { dst := some 45, op := Op.call { callee := Callee.builtin Builtin.append, args := #[Operand.tmp 41, Operand.tmp 44], argTypes := #[42, 42] }, type := 42, pos := "l14_optimize.go:107", after := #[{ on := 1, ground := Ground.data }, { on := 4, ground := Ground.data }], guard := none }) rfl (by rfl) (fun K hK => ?_)
      refine R9.app6 HR.out.al6 (.tmp 41) (.tmp 44) (by rfl) (by rfl) (by first | rfl | simp [Act.eval]) hn ?_
      intro d6 e6 w6 hr6
      have HR6 := hide hr6
      clear hr6
      refine hK _ _ HR6.out.S (fun _ => HR6.out.P67 H6.out H7.out) ?_
      clear hK K
      show wpAnyU r9.toArray Q (fun W : World => W.cell? ⟨X, 0, none⟩ = some (.int .i64 y0) ∧ W.cell? ⟨X, 1, none⟩ = some (.int .i64 y1) ∧ W.cell? ⟨X, 2, none⟩ = some (.int .i64 y2) ∧ W.cell? ⟨X, 3, none⟩ = some (.int .i64 y3) ∧ W.cell? ⟨X, 4, none⟩ = some (.int .i64 yl)) (fun W : World => W.cell? ⟨P, 6, none⟩ = some (.slice a6 n c6) ∧ W.cell? ⟨P, 7, none⟩ = some (.slice a7 n c7)) 13 6 #[true, true, true, true, true, true, true, true, true, true, false, false, false, false, false, false] ⟨#[t0, .pointer (some ⟨P, 0, none⟩), t2, t3, t4, t5, t6, t7, .pointer (some ⟨X, 0, none⟩), t9, t10, t11, t12, t13, t14, t15, t16, t17, t18, t19, t20, t21, t22, t23, t24, t25, t26, t27, t28, t29, t30, t31, t32, t33, t34, t35, t36, t37, t38, t39, .pointer (some ⟨P, 6, none⟩), .slice a6 n c6, .pointer (some ⟨X, 0, none⟩), .agg #[.int .i64 y0, .int .i64 y1, .int .i64 y2, .int .i64 y3], .slice (some ⟨w.heap.size, 0, none⟩) 1 1, .slice d6 (n + 1) e6, .pointer (some ⟨P, 7, none⟩), .slice a7 n c7, .pointer (some ⟨X, 4, none⟩), .int .i64 yl, t50, t51, t52, t53, t54, t55, t56, t57, t58, t59, t60, t61, t62, t63, t64, t65, t66, t67, t68, t69, t70, t71, t72, t73, t74, t75, t76, t77, t78, t79, t80, t81, t82, t83, t84, t85, t86, t87, t88, t89, t90, t91, t92, t93, t94, t95, t96, t97, t98, t99, t100, t101, t102], []⟩ w6
      refine wpAnyU_takeT (i := 12) (oi := { dst := some 52, op := Op.fieldAddr 45 (Operand.tmp 1) 6, type := 0, pos := "l14_optimize.go:107", after := #[{ on := 0, ground := Ground.phase }, { on := 1, ground := Ground.phase }, { on := 2, ground := Ground.phase }, { on := 3, ground := Ground.phase }, { on := 4, ground := Ground.phase }, { on := 5, ground := Ground.phase }, { on := 6, ground := Ground.phase }, { on := 7, ground := Ground.phase }, { on := 8, ground := Ground.textOnly Departure.lateStores }, { on := 9, ground := Ground.textOnly Departure.lateStores }, { on := 10, ground := Ground.textOnly Departure.lateStores }, { on := 11, ground := Ground.textOnly Departure.lateStoresUnsure }], guard := none }) (v := .pointer (some ⟨P, 6, none⟩)) rfl (by kernel_rfl) (by kernel_rfl) (by kernel_rfl) rfl (fun k a w h => HQ.out k a _ _ w h) (Or.inl ⟨by rfl, fun w' hSw => by
        obtain ⟨g0, g1, g2, g3, g4⟩ := hSw
        go_simp⟩) HR6.out.S (fun _ => HR6.out.P67 H6.out H7.out) ?_
      show wpAnyU r9.toArray Q (fun W : World => W.cell? ⟨X, 0, none⟩ = some (.int .i64 y0) ∧ W.cell? ⟨X, 1, none⟩ = some (.int .i64 y1) ∧ W.cell? ⟨X, 2, none⟩ = some (.int .i64 y2) ∧ W.cell? ⟨X, 3, none⟩ = some (.int .i64 y3) ∧ W.cell? ⟨X, 4, none⟩ = some (.int .i64 yl)) (fun W : World => W.cell? ⟨P, 6, none⟩ = some (.slice a6 n c6) ∧ W.cell? ⟨P, 7, none⟩ = some (.slice a7 n c7)) 13 5 #[true, true, true, true, true, true, true, true, true, true, false, false, true, false, false, false] ⟨#[t0, .pointer (some ⟨P, 0, none⟩), t2, t3, t4, t5, t6, t7, .pointer (some ⟨X, 0, none⟩), t9, t10, t11, t12, t13, t14, t15, t16, t17, t18, t19, t20, t21, t22, t23, t24, t25, t26, t27, t28, t29, t30, t31, t32, t33, t34, t35, t36, t37, t38, t39, .pointer (some ⟨P, 6, none⟩), .slice a6 n c6, .pointer (some ⟨X, 0, none⟩), .agg #[.int .i64 y0, .int .i64 y1, .int .i64 y2, .int .i64 y3], .slice (some ⟨w.heap.size, 0, none⟩) 1 1, .slice d6 (n + 1) e6, .pointer (some ⟨P, 7, none⟩), .slice a7 n c7, .pointer (some ⟨X, 4, none⟩), .int .i64 yl, t50, t51, .pointer (some ⟨P, 6, none⟩), t53, t54, t55, t56, t57, t58, t59, t60, t61, t62, t63, t64, t65, t66, t67, t68, t69, t70, t71, t72, t73, t74, t75, t76, t77, t78, t79, t80, t81, t82, t83, t84, t85, t86, t87, t88, t89, t90, t91, t92, t93, t94, t95, t96, t97, t98, t99, t100, t101, t102], []⟩ w6
      refine wpAnyU_all (rs := [10]) (by kernel_rfl) (by simp) ?_
      refine readyU1 ?_
      refine stepU (o := { dst := some 50, op := Op.buildSlice 43 1 #[(0, Operand.tmp 49)], type := 43, pos := "l14_optimize.go:107", after := #[{ on := 9, ground := Ground.data }], guard := none }) rfl (by rfl) (fun K hK => ?_)
      go_wp2_with fail
      refine hK _ _ HR6.out.al7.S (fun _ => HR6.out.al7.P67 H6.out H7.out) ?_
      clear hK K
      show wpAnyU r9.toArray Q (fun W : World => W.cell? ⟨X, 0, none⟩ = some (.int .i64 y0) ∧ W.cell? ⟨X, 1, none⟩ = some (.int .i64 y1) ∧ W.cell? ⟨X, 2, none⟩ = some (.int .i64 y2) ∧ W.cell? ⟨X, 3, none⟩ = some (.int .i64 y3) ∧ W.cell? ⟨X, 4, none⟩ = some (.int .i64 yl)) (fun W : World => W.cell? ⟨P, 6, none⟩ = some (.slice a6 n c6) ∧ W.cell? ⟨P, 7, none⟩ = some (.slice a7 n c7)) 13 4 #[true, true, true, true, true, true, true, true, true, true, true, false, true, false, false, false] ⟨#[t0, .pointer (some ⟨P, 0, none⟩), t2, t3, t4, t5, t6, t7, .pointer (some ⟨X, 0, none⟩), t9, t10, t11, t12, t13, t14, t15, t16, t17, t18, t19, t20, t21, t22, t23, t24, t25, t26, t27, t28, t29, t30, t31, t32, t33, t34, t35, t36, t37, t38, t39, .pointer (some ⟨P, 6, none⟩), .slice a6 n c6, .pointer (some ⟨X, 0, none⟩), .agg #[.int .i64 y0, .int .i64 y1, .int .i64 y2, .int .i64 y3], .slice (some ⟨w.heap.size, 0, none⟩) 1 1, .slice d6 (n + 1) e6, .pointer (some ⟨P, 7, none⟩), .slice a7 n c7, .pointer (some ⟨X, 4, none⟩), .int .i64 yl, .slice (some ⟨w6.heap.size, 0, none⟩) 1 1, t51, .pointer (some ⟨P, 6, none⟩), t53, t54, t55, t56, t57, t58, t59, t60, t61, t62, t63, t64, t65, t66, t67, t68, t69, t70, t71, t72, t73, t74, t75, t76, t77, t78, t79, t80, t81, t82, t83, t84, t85, t86, t87, t88, t89, t90, t91, t92, t93, t94, t95, t96, t97, t98, t99, t100, t101, t102], []⟩ (w6.alloc (.cells #[.int .i64 yl] 3))
      refine wpAnyU_all (rs := [11]) (by kernel_rfl) (by simp) ?_
      refine readyU1 ?_
      refine stepU (o := { dst := some 51, op := Op.call { callee := Callee.builtin Builtin.append, args := #[Operand.tmp 47, Operand.tmp 50], argTypes := #[43, 43] }, type := 43, pos := "l14_optimize.go:107", after := #[{ on := 7, ground := Ground.data }, { on := 10, ground := Ground.data }, { on := 5, ground := Ground.chain }], guard := none }) rfl (by rfl) (fun K hK => ?_)
      refine R9.app7 HR6.out.al7 (.tmp 47) (.tmp 50) (by rfl) (by rfl) (by first | rfl | simp [Act.eval]) hn ?_
      intro d7 e7 w7 hr7
      have HR7 := hide hr7
      have z6 := HR7.out.box.frz 6
      have z7 := HR7.out.box.frz 7
      have g6 := HR7.out.p 6 (by omega)
      have g7 := HR7.out.p 7 (by omega)
      clear hr7
      refine hK _ _ HR7.out.S (fun _ => HR7.out.P67 H6.out H7.out) ?_
      clear hK K
      show wpAnyU r9.toArray Q (fun W : World => W.cell? ⟨X, 0, none⟩ = some (.int .i64 y0) ∧ W.cell? ⟨X, 1, none⟩ = some (.int .i64 y1) ∧ W.cell? ⟨X, 2, none⟩ = some (.int .i64 y2) ∧ W.cell? ⟨X, 3, none⟩ = some (.int .i64 y3) ∧ W.cell? ⟨X, 4, none⟩ = some (.int .i64 yl)) (fun W : World => W.cell? ⟨P, 6, none⟩ = some (.slice a6 n c6) ∧ W.cell? ⟨P, 7, none⟩ = some (.slice a7 n c7)) 13 3 #[true, true, true, true, true, true, true, true, true, true, true, true, true, false, false, false] ⟨#[t0, .pointer (some ⟨P, 0, none⟩), t2, t3, t4, t5, t6, t7, .pointer (some ⟨X, 0, none⟩), t9, t10, t11, t12, t13, t14, t15, t16, t17, t18, t19, t20, t21, t22, t23, t24, t25, t26, t27, t28, t29, t30, t31, t32, t33, t34, t35, t36, t37, t38, t39, .pointer (some ⟨P, 6, none⟩), .slice a6 n c6, .pointer (some ⟨X, 0, none⟩), .agg #[.int .i64 y0, .int .i64 y1, .int .i64 y2, .int .i64 y3], .slice (some ⟨w.heap.size, 0, none⟩) 1 1, .slice d6 (n + 1) e6, .pointer (some ⟨P, 7, none⟩), .slice a7 n c7, .pointer (some ⟨X, 4, none⟩), .int .i64 yl, .slice (some ⟨w6.heap.size, 0, none⟩) 1 1, .slice d7 (n + 1) e7, .pointer (some ⟨P, 6, none⟩), t53, t54, t55, t56, t57, t58, t59, t60, t61, t62, t63, t64, t65, t66, t67, t68, t69, t70, t71, t72, t73, t74, t75, t76, t77, t78, t79, t80, t81, t82, t83, t84, t85, t86, t87, t88, t89, t90, t91, t92, t93, t94, t95, t96, t97, t98, t99, t100, t101, t102], []⟩ w7
      refine wpAnyU_all (rs := [13]) (by kernel_rfl) (by simp) ?_
      refine readyU1 ?_
      refine stepU (o := { dst := none, op := Op.store 42 (Operand.tmp 52) (Operand.tmp 45), type := 0, pos := "l14_optimize.go:107", after := #[{ on := 12, ground := Ground.data }, { on := 5, ground := Ground.data }, { on := 11, ground := Ground.chain }, { on := 0, ground := Ground.phase }, { on := 1, ground := Ground.phase }, { on := 2, ground := Ground.phase }, { on := 3, ground := Ground.phase }, { on := 4, ground := Ground.phase }, { on := 5, ground := Ground.phase }, { on := 6, ground := Ground.phase }, { on := 7, ground := Ground.phase }, { on := 8, ground := Ground.textOnly Departure.lateStores }, { on := 9, ground := Ground.textOnly Departure.lateStores }, { on := 10, ground := Ground.textOnly Departure.lateStores }, { on := 11, ground := Ground.textOnly Departure.lateStoresUnsure }], guard := none }) rfl (by rfl) (fun K hK => ?_)
      go_wp2_with fail
      refine hK _ _ (HR7.out.far (j := 6) (by omega) (.slice d6 (n + 1) e6)).S (fun z => Bool.noConfusion (show true = false from z)) ?_
      clear hK K
      show wpAnyU r9.toArray Q (fun W : World => W.cell? ⟨X, 0, none⟩ = some (.int .i64 y0) ∧ W.cell? ⟨X, 1, none⟩ = some (.int .i64 y1) ∧ W.cell? ⟨X, 2, none⟩ = some (.int .i64 y2) ∧ W.cell? ⟨X, 3, none⟩ = some (.int .i64 y3) ∧ W.cell? ⟨X, 4, none⟩ = some (.int .i64 yl)) (fun W : World => W.cell? ⟨P, 6, none⟩ = some (.slice a6 n c6) ∧ W.cell? ⟨P, 7, none⟩ = some (.slice a7 n c7)) 13 2 #[true, true, true, true, true, true, true, true, true, true, true, true, true, true, false, false] ⟨#[t0, .pointer (some ⟨P, 0, none⟩), t2, t3, t4, t5, t6, t7, .pointer (some ⟨X, 0, none⟩), t9, t10, t11, t12, t13, t14, t15, t16, t17, t18, t19, t20, t21, t22, t23, t24, t25, t26, t27, t28, t29, t30, t31, t32, t33, t34, t35, t36, t37, t38, t39, .pointer (some ⟨P, 6, none⟩), .slice a6 n c6, .pointer (some ⟨X, 0, none⟩), .agg #[.int .i64 y0, .int .i64 y1, .int .i64 y2, .int .i64 y3], .slice (some ⟨w.heap.size, 0, none⟩) 1 1, .slice d6 (n + 1) e6, .pointer (some ⟨P, 7, none⟩), .slice a7 n c7, .pointer (some ⟨X, 4, none⟩), .int .i64 yl, .slice (some ⟨w6.heap.size, 0, none⟩) 1 1, .slice d7 (n + 1) e7, .pointer (some ⟨P, 6, none⟩), t53, t54, t55, t56, t57, t58, t59, t60, t61, t62, t63, t64, t65, t66, t67, t68, t69, t70, t71, t72, t73, t74, t75, t76, t77, t78, t79, t80, t81, t82, t83, t84, t85, t86, t87, t88, t89, t90, t91, t92, t93, t94, t95, t96, t97, t98, t99, t100, t101, t102], []⟩ (w7.setCell ⟨P, 6, none⟩ (.slice d6 (n + 1) e6))
      refine wpAnyU_takeT (i := 14) (oi := { dst := some 53, op := Op.fieldAddr 45 (Operand.tmp 1) 7, type := 0, pos := "l14_optimize.go:107", after := #[{ on := 0, ground := Ground.phase }, { on := 1, ground := Ground.phase }, { on := 2, ground := Ground.phase }, { on := 3, ground := Ground.phase }, { on := 4, ground := Ground.phase }, { on := 5, ground := Ground.phase }, { on := 6, ground := Ground.phase }, { on := 7, ground := Ground.phase }, { on := 8, ground := Ground.phase }, { on := 9, ground := Ground.phase }, { on := 10, ground := Ground.phase }, { on := 11, ground := Ground.phase }, { on := 12, ground := Ground.phase }, { on := 13, ground := Ground.phase }], guard := none }) (v := .pointer (some ⟨P, 7, none⟩)) rfl (by kernel_rfl) (by kernel_rfl) (by kernel_rfl) rfl (fun k a w h => HQ.out k a _ _ w h) (Or.inl ⟨by rfl, fun w' hSw => by
        obtain ⟨g0, g1, g2, g3, g4⟩ := hSw
        go_simp⟩) (HR7.out.far (j := 6) (by omega) (.slice d6 (n + 1) e6)).S (fun z => Bool.noConfusion (show true = false from z)) ?_
      show wpAnyU r9.toArray Q (fun W : World => W.cell? ⟨X, 0, none⟩ = some (.int .i64 y0) ∧ W.cell? ⟨X, 1, none⟩ = some (.int .i64 y1) ∧ W.cell? ⟨X, 2, none⟩ = some (.int .i64 y2) ∧ W.cell? ⟨X, 3, none⟩ = some (.int .i64 y3) ∧ W.cell? ⟨X, 4, none⟩ = some (.int .i64 yl)) (fun W : World => W.cell? ⟨P, 6, none⟩ = some (.slice a6 n c6) ∧ W.cell? ⟨P, 7, none⟩ = some (.slice a7 n c7)) 13 1 #[true, true, true, true, true, true, true, true, true, true, true, true, true, true, true, false] ⟨#[t0, .pointer (some ⟨P, 0, none⟩), t2, t3, t4, t5, t6, t7, .pointer (some ⟨X, 0, none⟩), t9, t10, t11, t12, t13, t14, t15, t16, t17, t18, t19, t20, t21, t22, t23, t24, t25, t26, t27, t28, t29, t30, t31, t32, t33, t34, t35, t36, t37, t38, t39, .pointer (some ⟨P, 6, none⟩), .slice a6 n c6, .pointer (some ⟨X, 0, none⟩), .agg #[.int .i64 y0, .int .i64 y1, .int .i64 y2, .int .i64 y3], .slice (some ⟨w.heap.size, 0, none⟩) 1 1, .slice d6 (n + 1) e6, .pointer (some ⟨P, 7, none⟩), .slice a7 n c7, .pointer (some ⟨X, 4, none⟩), .int .i64 yl, .slice (some ⟨w6.heap.size, 0, none⟩) 1 1, .slice d7 (n + 1) e7, .pointer (some ⟨P, 6, none⟩), .pointer (some ⟨P, 7, none⟩), t54, t55, t56, t57, t58, t59, t60, t61, t62, t63, t64, t65, t66, t67, t68, t69, t70, t71, t72, t73, t74, t75, t76, t77, t78, t79, t80, t81, t82, t83, t84, t85, t86, t87, t88, t89, t90, t91, t92, t93, t94, t95, t96, t97, t98, t99, t100, t101, t102], []⟩ (w7.setCell ⟨P, 6, none⟩ (.slice d6 (n + 1) e6))
      refine wpAnyU_all (rs := [15]) (by kernel_rfl) (by simp) ?_
      refine readyU1 ?_
      refine stepU (o := { dst := none, op := Op.store 43 (Operand.tmp 53) (Operand.tmp 51), type := 0, pos := "l14_optimize.go:107", after := #[{ on := 14, ground := Ground.data }, { on := 11, ground := Ground.data }, { on := 13, ground := Ground.chain }, { on := 0, ground := Ground.phase }, { on := 1, ground := Ground.phase }, { on := 2, ground := Ground.phase }, { on := 3, ground := Ground.phase }, { on := 4, ground := Ground.phase }, { on := 5, ground := Ground.phase }, { on := 6, ground := Ground.phase }, { on := 7, ground := Ground.phase }, { on := 8, ground := Ground.phase }, { on := 9, ground := Ground.phase }, { on := 10, ground := Ground.phase }, { on := 11, ground := Ground.phase }, { on := 12, ground := Ground.phase }, { on := 13, ground := Ground.phase }], guard := none }) rfl (by rfl) (fun K hK => ?_)
      go_wp2_with fail
      refine hK _ _ ((HR7.out.far (j := 6) (by omega) (.slice d6 (n + 1) e6)).far (j := 7) (by omega) (.slice d7 (n + 1) e7)).S (fun z => Bool.noConfusion (show true = false from z)) ?_
      clear hK K
      refine wpAnyU_done (by kernel_rfl) ?_ _
      exact HP.out _ _ d6 d7 e6 e7 w7 HR7.out
    ·
      refine stepU (o := { dst := some 50, op := Op.buildSlice 43 1 #[(0, Operand.tmp 49)], type := 43, pos := "l14_optimize.go:107", after := #[{ on := 9, ground := Ground.data }], guard := none }) rfl (by rfl) (fun K hK => ?_)
      go_wp2_with fail
      refine hK _ _ HR.out.al6.al7.S (fun _ => HR.out.al6.al7.P67 H6.out H7.out) ?_
      clear hK K
      show wpAnyU r9.toArray Q (fun W : World => W.cell? ⟨X, 0, none⟩ = some (.int .i64 y0) ∧ W.cell? ⟨X, 1, none⟩ = some (.int .i64 y1) ∧ W.cell? ⟨X, 2, none⟩ = some (.int .i64 y2) ∧ W.cell? ⟨X, 3, none⟩ = some (.int .i64 y3) ∧ W.cell? ⟨X, 4, none⟩ = some (.int .i64 yl)) (fun W : World => W.cell? ⟨P, 6, none⟩ = some (.slice a6 n c6) ∧ W.cell? ⟨P, 7, none⟩ = some (.slice a7 n c7)) 13 6 #[true, true, true, true, true, false, true, true, true, true, true, false, false, false, false, false] ⟨#[t0, .pointer (some ⟨P, 0, none⟩), t2, t3, t4, t5, t6, t7, .pointer (some ⟨X, 0, none⟩), t9, t10, t11, t12, t13, t14, t15, t16, t17, t18, t19, t20, t21, t22, t23, t24, t25, t26, t27, t28, t29, t30, t31, t32, t33, t34, t35, t36, t37, t38, t39, .pointer (some ⟨P, 6, none⟩), .slice a6 n c6, .pointer (some ⟨X, 0, none⟩), .agg #[.int .i64 y0, .int .i64 y1, .int .i64 y2, .int .i64 y3], .slice (some ⟨w.heap.size, 0, none⟩) 1 1, t45, .pointer (some ⟨P, 7, none⟩), .slice a7 n c7, .pointer (some ⟨X, 4, none⟩), .int .i64 yl, .slice (some ⟨(w.heap.size + 1), 0, none⟩) 1 1, t51, t52, t53, t54, t55, t56, t57, t58, t59, t60, t61, t62, t63, t64, t65, t66, t67, t68, t69, t70, t71, t72, t73, t74, t75, t76, t77, t78, t79, t80, t81, t82, t83, t84, t85, t86, t87, t88, t89, t90, t91, t92, t93, t94, t95, t96, t97, t98, t99, t100, t101, t102], []⟩ ((w.drew.alloc (.cells #[.int .i64 y0, .int .i64 y1, .int .i64 y2, .int .i64 y3] 51)).alloc (.cells #[.int .i64 yl] 3))
      refine wpAnyU_all (rs := [5]) (by kernel_rfl) (by simp) ?_
      refine readyU1 ?_
      refine stepU (o := { dst := some 45, op := Op.call { callee := Callee.builtin Builtin.append, args := #[Operand.tmp 41, Operand.tmp 44], argTypes := #[42, 42] }, type := 42, pos := "l14_optimize.go:107", after := #[{ on := 1, ground := Ground.data }, { on := 4, ground := Ground.data }], guard := none }) rfl (by rfl) (fun K hK => ?_)
      refine R9.app6 HR.out.al6.al7 (.tmp 41) (.tmp 44) (by rfl) (by rfl) (by first | rfl | simp [Act.eval]) hn ?_
      intro d6 e6 w6 hr6
      have HR6 := hide hr6
      clear hr6
      refine hK _ _ HR6.out.S (fun _ => HR6.out.P67 H6.out H7.out) ?_
      clear hK K
      show wpAnyU r9.toArray Q (fun W : World => W.cell? ⟨X, 0, none⟩ = some (.int .i64 y0) ∧ W.cell? ⟨X, 1, none⟩ = some (.int .i64 y1) ∧ W.cell? ⟨X, 2, none⟩ = some (.int .i64 y2) ∧ W.cell? ⟨X, 3, none⟩ = some (.int .i64 y3) ∧ W.cell? ⟨X, 4, none⟩ = some (.int .i64 yl)) (fun W : World => W.cell? ⟨P, 6, none⟩ = some (.slice a6 n c6) ∧ W.cell? ⟨P, 7, none⟩ = some (.slice a7 n c7)) 13 5 #[true, true, true, true, true, true, true, true, true, true, true, false, false, false, false, false] ⟨#[t0, .pointer (some ⟨P, 0, none⟩), t2, t3, t4, t5, t6, t7, .pointer (some ⟨X, 0, none⟩), t9, t10, t11, t12, t13, t14, t15, t16, t17, t18, t19, t20, t21, t22, t23, t24, t25, t26, t27, t28, t29, t30, t31, t32, t33, t34, t35, t36, t37, t38, t39, .pointer (some ⟨P, 6, none⟩), .slice a6 n c6, .pointer (some ⟨X, 0, none⟩), .agg #[.int .i64 y0, .int .i64 y1, .int .i64 y2, .int .i64 y3], .slice (some ⟨w.heap.size, 0, none⟩) 1 1, .slice d6 (n + 1) e6, .pointer (some ⟨P, 7, none⟩), .slice a7 n c7, .pointer (some ⟨X, 4, none⟩), .int .i64 yl, .slice (some ⟨(w.heap.size + 1), 0, none⟩) 1 1, t51, t52, t53, t54, t55, t56, t57, t58, t59, t60, t61, t62, t63, t64, t65, t66, t67, t68, t69, t70, t71, t72, t73, t74, t75, t76, t77, t78, t79, t80, t81, t82, t83, t84, t85, t86, t87, t88, t89, t90, t91, t92, t93, t94, t95, t96, t97, t98, t99, t100, t101, t102], []⟩ w6
      refine wpAnyU_takeT (i := 12) (oi := { dst := some 52, op := Op.fieldAddr 45 (Operand.tmp 1) 6, type := 0, pos := "l14_optimize.go:107", after := #[{ on := 0, ground := Ground.phase }, { on := 1, ground := Ground.phase }, { on := 2, ground := Ground.phase }, { on := 3, ground := Ground.phase }, { on := 4, ground := Ground.phase }, { on := 5, ground := Ground.phase }, { on := 6, ground := Ground.phase }, { on := 7, ground := Ground.phase }, { on := 8, ground := Ground.textOnly Departure.lateStores }, { on := 9, ground := Ground.textOnly Departure.lateStores }, { on := 10, ground := Ground.textOnly Departure.lateStores }, { on := 11, ground := Ground.textOnly Departure.lateStoresUnsure }], guard := none }) (v := .pointer (some ⟨P, 6, none⟩)) rfl (by kernel_rfl) (by kernel_rfl) (by kernel_rfl) rfl (fun k a w h => HQ.out k a _ _ w h) (Or.inl ⟨by rfl, fun w' hSw => by
        obtain ⟨g0, g1, g2, g3, g4⟩ := hSw
        go_simp⟩) HR6.out.S (fun _ => HR6.out.P67 H6.out H7.out) ?_
      show wpAnyU r9.toArray Q (fun W : World => W.cell? ⟨X, 0, none⟩ = some (.int .i64 y0) ∧ W.cell? ⟨X, 1, none⟩ = some (.int .i64 y1) ∧ W.cell? ⟨X, 2, none⟩ = some (.int .i64 y2) ∧ W.cell? ⟨X, 3, none⟩ = some (.int .i64 y3) ∧ W.cell? ⟨X, 4, none⟩ = some (.int .i64 yl)) (fun W : World => W.cell? ⟨P, 6, none⟩ = some (.slice a6 n c6) ∧ W.cell? ⟨P, 7, none⟩ = some (.slice a7 n c7)) 13 4 #[true, true, true, true, true, true, true, true, true, true, true, false, true, false, false, false] ⟨#[t0, .pointer (some ⟨P, 0, none⟩), t2, t3, t4, t5, t6, t7, .pointer (some ⟨X, 0, none⟩), t9, t10, t11, t12, t13, t14, t15, t16, t17, t18, t19, t20, t21, t22, t23, t24, t25, t26, t27, t28, t29, t30, t31, t32, t33, t34, t35, t36, t37, t38, t39, .pointer (some ⟨P, 6, none⟩), .slice a6 n c6, .pointer (some ⟨X, 0, none⟩), .agg #[.int .i64 y0, .int .i64 y1, .int .i64 y2, .int .i64 y3], .slice (some ⟨w.heap.size, 0, none⟩) 1 1, .slice d6 (n + 1) e6, .pointer (some ⟨P, 7, none⟩), .slice a7 n c7, .pointer (some ⟨X, 4, none⟩), .int .i64 yl, .slice (some ⟨(w.heap.size + 1), 0, none⟩) 1 1, t51, .pointer (some ⟨P, 6, none⟩), t53, t54, t55, t56, t57, t58, t59, t60, t61, t62, t63, t64, t65, t66, t67, t68, t69, t70, t71, t72, t73, t74, t75, t76, t77, t78, t79, t80, t81, t82, t83, t84, t85, t86, t87, t88, t89, t90, t91, t92, t93, t94, t95, t96, t97, t98, t99, t100, t101, t102], []⟩ w6
      refine wpAnyU_all (rs := [11]) (by kernel_rfl) (by simp) ?_
      refine readyU1 ?_
      refine stepU (o := { dst := some 51, op := Op.call { callee := Callee.builtin Builtin.append, args := #[Operand.tmp 47, Operand.tmp 50], argTypes := #[43, 43] }, type := 43, pos := "l14_optimize.go:107", after := #[{ on := 7, ground := Ground.data }, { on := 10, ground := Ground.data }, { on := 5, ground := Ground.chain }], guard := none }) rfl (by rfl) (fun K hK => ?_)
      refine R9.app7 HR6.out (.tmp 47) (.tmp 50) (by rfl) (by rfl) (by first | rfl | simp [Act.eval]) hn ?_
      intro d7 e7 w7 hr7
      have HR7 := hide hr7
      have z6 := HR7.out.box.frz 6
      have z7 := HR7.out.box.frz 7
      have g6 := HR7.out.p 6 (by omega)
      have g7 := HR7.out.p 7 (by omega)
      clear hr7
      refine hK _ _ HR7.out.S (fun _ => HR7.out.P67 H6.out H7.out) ?_
      clear hK K
      show wpAnyU r9.toArray Q (fun W : World => W.cell? ⟨X, 0, none⟩ = some (.int .i64 y0) ∧ W.cell? ⟨X, 1, none⟩ = some (.int .i64 y1) ∧ W.cell? ⟨X, 2, none⟩ = some (.int .i64 y2) ∧ W.cell? ⟨X, 3, none⟩ = some (.int .i64 y3) ∧ W.cell? ⟨X, 4, none⟩ = some (.int .i64 yl)) (fun W : World => W.cell? ⟨P, 6, none⟩ = some (.slice a6 n c6) ∧ W.cell? ⟨P, 7, none⟩ = some (.slice a7 n c7)) 13 3 #[true, true, true, true, true, true, true, true, true, true, true, true, true, false, false, false] ⟨#[t0, .pointer (some ⟨P, 0, none⟩), t2, t3, t4, t5, t6, t7, .pointer (some ⟨X, 0, none⟩), t9, t10, t11, t12, t13, t14, t15, t16, t17, t18, t19, t20, t21, t22, t23, t24, t25, t26, t27, t28, t29, t30, t31, t32, t33, t34, t35, t36, t37, t38, t39, .pointer (some ⟨P, 6, none⟩), .slice a6 n c6, .pointer (some ⟨X, 0, none⟩), .agg #[.int .i64 y0, .int .i64 y1, .int .i64 y2, .int .i64 y3], .slice (some ⟨w.heap.size, 0, none⟩) 1 1, .slice d6 (n + 1) e6, .pointer (some ⟨P, 7, none⟩), .slice a7 n c7, .pointer (some ⟨X, 4, none⟩), .int .i64 yl, .slice (some ⟨(w.heap.size + 1), 0, none⟩) 1 1, .slice d7 (n + 1) e7, .pointer (some ⟨P, 6, none⟩), t53, t54, t55, t56, t57, t58, t59, t60, t61, t62, t63, t64, t65, t66, t67, t68, t69, t70, t71, t72, t73, t74, t75, t76, t77, t78, t79, t80, t81, t82, t83, t84, t85, t86, t87, t88, t89, t90, t91, t92, t93, t94, t95, t96, t97, t98, t99, t100, t101, t102], []⟩ w7
      refine wpAnyU_all (rs := [13]) (by kernel_rfl) (by simp) ?_
      refine readyU1 ?_
      refine stepU (o := { dst := none, op := Op.store 42 (Operand.tmp 52) (Operand.tmp 45), type := 0, pos := "l14_optimize.go:107", after := #[{ on := 12, ground := Ground.data }, { on := 5, ground := Ground.data }, { on := 11, ground := Ground.chain }, { on := 0, ground := Ground.phase }, { on := 1, ground := Ground.phase }, { on := 2, ground := Ground.phase }, { on := 3, ground := Ground.phase }, { on := 4, ground := Ground.phase }, { on := 5, ground := Ground.phase }, { on := 6, ground := Ground.phase }, { on := 7, ground := Ground.phase }, { on := 8, ground := Ground.textOnly Departure.lateStores }, { on := 9, ground := Ground.textOnly Departure.lateStores }, { on := 10, ground := Ground.textOnly Departure.lateStores }, { on := 11, ground := Ground.textOnly Departure.lateStoresUnsure }], guard := none }) rfl (by rfl) (fun K hK => ?_)
      go_wp2_with fail
      refine hK _ _ (HR7.out.far (j := 6) (by omega) (.slice d6 (n + 1) e6)).S (fun z => Bool.noConfusion (show true = false from z)) ?_
      clear hK K
      show wpAnyU r9.toArray Q (fun W : World => W.cell? ⟨X, 0, none⟩ = some (.int .i64 y0) ∧ W.cell? ⟨X, 1, none⟩ = some (.int .i64 y1) ∧ W.cell? ⟨X, 2, none⟩ = some (.int .i64 y2) ∧ W.cell? ⟨X, 3, none⟩ = some (.int .i64 y3) ∧ W.cell? ⟨X, 4, none⟩ = some (.int .i64 yl)) (fun W : World => W.cell? ⟨P, 6, none⟩ = some (.slice a6 n c6) ∧ W.cell? ⟨P, 7, none⟩ = some (.slice a7 n c7)) 13 2 #[true, true, true, true, true, true, true, true, true, true, true, true, true, true, false, false] ⟨#[t0, .pointer (some ⟨P, 0, none⟩), t2, t3, t4, t5, t6, t7, .pointer (some ⟨X, 0, none⟩), t9, t10, t11, t12, t13, t14, t15, t16, t17, t18, t19, t20, t21, t22, t23, t24, t25, t26, t27, t28, t29, t30, t31, t32, t33, t34, t35, t36, t37, t38, t39, .pointer (some ⟨P, 6, none⟩), .slice a6 n c6, .pointer (some ⟨X, 0, none⟩), .agg #[.int .i64 y0, .int .i64 y1, .int .i64 y2, .int .i64 y3], .slice (some ⟨w.heap.size, 0, none⟩) 1 1, .slice d6 (n + 1) e6, .pointer (some ⟨P, 7, none⟩), .slice a7 n c7, .pointer (some ⟨X, 4, none⟩), .int .i64 yl, .slice (some ⟨(w.heap.size + 1), 0, none⟩) 1 1, .slice d7 (n + 1) e7, .pointer (some ⟨P, 6, none⟩), t53, t54, t55, t56, t57, t58, t59, t60, t61, t62, t63, t64, t65, t66, t67, t68, t69, t70, t71, t72, t73, t74, t75, t76, t77, t78, t79, t80, t81, t82, t83, t84, t85, t86, t87, t88, t89, t90, t91, t92, t93, t94, t95, t96, t97, t98, t99, t100, t101, t102], []⟩ (w7.setCell ⟨P, 6, none⟩ (.slice d6 (n + 1) e6))
      refine wpAnyU_takeT (i := 14) (oi := { dst := some 53, op := Op.fieldAddr 45 (Operand.tmp 1) 7, type := 0, pos := "l14_optimize.go:107", after := #[{ on := 0, ground := Ground.phase }, { on := 1, ground := Ground.phase }, { on := 2, ground := Ground.phase }, { on := 3, ground := Ground.phase }, { on := 4, ground := Ground.phase }, { on := 5, ground := Ground.phase }, { on := 6, ground := Ground.phase }, { on := 7, ground := Ground.phase }, { on := 8, ground := Ground.phase }, { on := 9, ground := Ground.phase }, { on := 10, ground := Ground.phase }, { on := 11, ground := Ground.phase }, { on := 12, ground := Ground.phase }, { on := 13, ground := Ground.phase }], guard := none }) (v := .pointer (some ⟨P, 7, none⟩)) rfl (by kernel_rfl) (by kernel_rfl) (by kernel_rfl) rfl (fun k a w h => HQ.out k a _ _ w h) (Or.inl ⟨by rfl, fun w' hSw => by
        obtain ⟨g0, g1, g2, g3, g4⟩ := hSw
        go_simp⟩) (HR7.out.far (j := 6) (by omega) (.slice d6 (n + 1) e6)).S (fun z => Bool.noConfusion (show true = false from z)) ?_
      show wpAnyU r9.toArray Q (fun W : World => W.cell? ⟨X, 0, none⟩ = some (.int .i64 y0) ∧ W.cell? ⟨X, 1, none⟩ = some (.int .i64 y1) ∧ W.cell? ⟨X, 2, none⟩ = some (.int .i64 y2) ∧ W.cell? ⟨X, 3, none⟩ = some (.int .i64 y3) ∧ W.cell? ⟨X, 4, none⟩ = some (.int .i64 yl)) (fun W : World => W.cell? ⟨P, 6, none⟩ = some (.slice a6 n c6) ∧ W.cell? ⟨P, 7, none⟩ = some (.slice a7 n c7)) 13 1 #[true, true, true, true, true, true, true, true, true, true, true, true, true, true, true, false] ⟨#[t0, .pointer (some ⟨P, 0, none⟩), t2, t3, t4, t5, t6, t7, .pointer (some ⟨X, 0, none⟩), t9, t10, t11, t12, t13, t14, t15, t16, t17, t18, t19, t20, t21, t22, t23, t24, t25, t26, t27, t28, t29, t30, t31, t32, t33, t34, t35, t36, t37, t38, t39, .pointer (some ⟨P, 6, none⟩), .slice a6 n c6, .pointer (some ⟨X, 0, none⟩), .agg #[.int .i64 y0, .int .i64 y1, .int .i64 y2, .int .i64 y3], .slice (some ⟨w.heap.size, 0, none⟩) 1 1, .slice d6 (n + 1) e6, .pointer (some ⟨P, 7, none⟩), .slice a7 n c7, .pointer (some ⟨X, 4, none⟩), .int .i64 yl, .slice (some ⟨(w.heap.size + 1), 0, none⟩) 1 1, .slice d7 (n + 1) e7, .pointer (some ⟨P, 6, none⟩), .pointer (some ⟨P, 7, none⟩), t54, t55, t56, t57, t58, t59, t60, t61, t62, t63, t64, t65, t66, t67, t68, t69, t70, t71, t72, t73, t74, t75, t76, t77, t78, t79, t80, t81, t82, t83, t84, t85, t86, t87, t88, t89, t90, t91, t92, t93, t94, t95, t96, t97, t98, t99, t100, t101, t102], []⟩ (w7.setCell ⟨P, 6, none⟩ (.slice d6 (n + 1) e6))
      refine wpAnyU_all (rs := [15]) (by kernel_rfl) (by simp) ?_
      refine readyU1 ?_
      refine stepU (o := { dst := none, op := Op.store 43 (Operand.tmp 53) (Operand.tmp 51), type := 0, pos := "l14_optimize.go:107", after := #[{ on := 14, ground := Ground.data }, { on := 11, ground := Ground.data }, { on := 13, ground := Ground.chain }, { on := 0, ground := Ground.phase }, { on := 1, ground := Ground.phase }, { on := 2, ground := Ground.phase }, { on := 3, ground := Ground.phase }, { on := 4, ground := Ground.phase }, { on := 5, ground := Ground.phase }, { on := 6, ground := Ground.phase }, { on := 7, ground := Ground.phase }, { on := 8, ground := Ground.phase }, { on := 9, ground := Ground.phase }, { on := 10, ground := Ground.phase }, { on := 11, ground := Ground.phase }, { on := 12, ground := Ground.phase }, { on := 13, ground := Ground.phase }], guard := none }) rfl (by rfl) (fun K hK => ?_)
      go_wp2_with fail
      refine hK _ _ ((HR7.out.far (j := 6) (by omega) (.slice d6 (n + 1) e6)).far (j := 7) (by omega) (.slice d7 (n + 1) e7)).S (fun z => Bool.noConfusion (show true = false from z)) ?_
      clear hK K
      refine wpAnyU_done (by kernel_rfl) ?_ _
      exact HP.out _ _ d6 d7 e6 e7 w7 HR7.out
  ·
    refine stepU (o := { dst := some 50, op := Op.buildSlice 43 1 #[(0, Operand.tmp 49)], type := 43, pos := "l14_optimize.go:107", after := #[{ on := 9, ground := Ground.data }], guard := none }) rfl (by rfl) (fun K hK => ?_)
    go_wp2_with fail
    refine hK _ _ HR.out.al7.S (fun _ => HR.out.al7.P67 H6.out H7.out) ?_
    clear hK K
    show wpAnyU r9.toArray Q (fun W : World => W.cell? ⟨X, 0, none⟩ = some (.int .i64 y0) ∧ W.cell? ⟨X, 1, none⟩ = some (.int .i64 y1) ∧ W.cell? ⟨X, 2, none⟩ = some (.int .i64 y2) ∧ W.cell? ⟨X, 3, none⟩ = some (.int .i64 y3) ∧ W.cell? ⟨X, 4, none⟩ = some (.int .i64 yl)) (fun W : World => W.cell? ⟨P, 6, none⟩ = some (.slice a6 n c6) ∧ W.cell? ⟨P, 7, none⟩ = some (.slice a7 n c7)) 13 7 #[true, true, true, true, false, false, true, true, true, true, true, false, false, false, false, false] ⟨#[t0, .pointer (some ⟨P, 0, none⟩), t2, t3, t4, t5, t6, t7, .pointer (some ⟨X, 0, none⟩), t9, t10, t11, t12, t13, t14, t15, t16, t17, t18, t19, t20, t21, t22, t23, t24, t25, t26, t27, t28, t29, t30, t31, t32, t33, t34, t35, t36, t37, t38, t39, .pointer (some ⟨P, 6, none⟩), .slice a6 n c6, .pointer (some ⟨X, 0, none⟩), .agg #[.int .i64 y0, .int .i64 y1, .int .i64 y2, .int .i64 y3], t44, t45, .pointer (some ⟨P, 7, none⟩), .slice a7 n c7, .pointer (some ⟨X, 4, none⟩), .int .i64 yl, .slice (some ⟨w.heap.size, 0, none⟩) 1 1, t51, t52, t53, t54, t55, t56, t57, t58, t59, t60, t61, t62, t63, t64, t65, t66, t67, t68, t69, t70, t71, t72, t73, t74, t75, t76, t77, t78, t79, t80, t81, t82, t83, t84, t85, t86, t87, t88, t89, t90, t91, t92, t93, t94, t95, t96, t97, t98, t99, t100, t101, t102], []⟩ (w.drew.alloc (.cells #[.int .i64 yl] 3))
    refine wpAnyU_all (rs := [4]) (by kernel_rfl) (by simp) ?_
    refine readyU1 ?_
    refine stepU (o := { dst := some 44, op := Op.buildSlice 42 1 #[(0, Operand.tmp 43)], type := 42, pos := "l14_optimize.go:107", after := #[{ on := 3, ground := Ground.data }], guard := none }) rfl (by rfl) (fun K hK => ?_)
    go_wp2_with fail
    refine hK _ _ HR.out.al7.al6.S (fun _ => HR.out.al7.al6.P67 H6.out H7.out) ?_
    clear hK K
    show wpAnyU r9.toArray Q (fun W : World => W.cell? ⟨X, 0, none⟩ = some (.int .i64 y0) ∧ W.cell? ⟨X, 1, none⟩ = some (.int .i64 y1) ∧ W.cell? ⟨X, 2, none⟩ = some (.int .i64 y2) ∧ W.cell? ⟨X, 3, none⟩ = some (.int .i64 y3) ∧ W.cell? ⟨X, 4, none⟩ = some (.int .i64 yl)) (fun W : World => W.cell? ⟨P, 6, none⟩ = some (.slice a6 n c6) ∧ W.cell? ⟨P, 7, none⟩ = some (.slice a7 n c7)) 13 6 #[true, true, true, true, true, false, true, true, true, true, true, false, false, false, false, false] ⟨#[t0, .pointer (some ⟨P, 0, none⟩), t2, t3, t4, t5, t6, t7, .pointer (some ⟨X, 0, none⟩), t9, t10, t11, t12, t13, t14, t15, t16, t17, t18, t19, t20, t21, t22, t23, t24, t25, t26, t27, t28, t29, t30, t31, t32, t33, t34, t35, t36, t37, t38, t39, .pointer (some ⟨P, 6, none⟩), .slice a6 n c6, .pointer (some ⟨X, 0, none⟩), .agg #[.int .i64 y0, .int .i64 y1, .int .i64 y2, .int .i64 y3], .slice (some ⟨(w.heap.size + 1), 0, none⟩) 1 1, t45, .pointer (some ⟨P, 7, none⟩), .slice a7 n c7, .pointer (some ⟨X, 4, none⟩), .int .i64 yl, .slice (some ⟨w.heap.size, 0, none⟩) 1 1, t51, t52, t53, t54, t55, t56, t57, t58, t59, t60, t61, t62, t63, t64, t65, t66, t67, t68, t69, t70, t71, t72, t73, t74, t75, t76, t77, t78, t79, t80, t81, t82, t83, t84, t85, t86, t87, t88, t89, t90, t91, t92, t93, t94, t95, t96, t97, t98, t99, t100, t101, t102], []⟩ ((w.drew.alloc (.cells #[.int .i64 yl] 3)).alloc (.cells #[.int .i64 y0, .int .i64 y1, .int .i64 y2, .int .i64 y3] 51))
    refine wpAnyU_all (rs := [5]) (by kernel_rfl) (by simp) ?_
    refine readyU1 ?_
    refine stepU (o := { dst := some 45, op := Op.call { callee := Callee.builtin Builtin.append, args := #[Operand.tmp 41, Operand.tmp 44], argTypes := #[42, 42] }, type := 42, pos := "l14_optimize.go:107", after := #[{ on := 1, ground := Ground.data }, { on := 4, ground := Ground.data }], guard := none }) rfl (by rfl) (fun K hK => ?_)
    refine R9.app6 HR.out.al7.al6 (.tmp 41) (.tmp 44) (by rfl) (by rfl) (by first | rfl | simp [Act.eval]) hn ?_
    intro d6 e6 w6 hr6
    have HR6 := hide hr6
    clear hr6
    refine hK _ _ HR6.out.S (fun _ => HR6.out.P67 H6.out H7.out) ?_
    clear hK K
    show wpAnyU r9.toArray Q (fun W : World => W.cell? ⟨X, 0, none⟩ = some (.int .i64 y0) ∧ W.cell? ⟨X, 1, none⟩ = some (.int .i64 y1) ∧ W.cell? ⟨X, 2, none⟩ = some (.int .i64 y2) ∧ W.cell? ⟨X, 3, none⟩ = some (.int .i64 y3) ∧ W.cell? ⟨X, 4, none⟩ = some (.int .i64 yl)) (fun W : World => W.cell? ⟨P, 6, none⟩ = some (.slice a6 n c6) ∧ W.cell? ⟨P, 7, none⟩ = some (.slice a7 n c7)) 13 5 #[true, true, true, true, true, true, true, true, true, true, true, false, false, false, false, false] ⟨#[t0, .pointer (some ⟨P, 0, none⟩), t2, t3, t4, t5, t6, t7, .pointer (some ⟨X, 0, none⟩), t9, t10, t11, t12, t13, t14, t15, t16, t17, t18, t19, t20, t21, t22, t23, t24, t25, t26, t27, t28, t29, t30, t31, t32, t33, t34, t35, t36, t37, t38, t39, .pointer (some ⟨P, 6, none⟩), .slice a6 n c6, .pointer (some ⟨X, 0, none⟩), .agg #[.int .i64 y0, .int .i64 y1, .int .i64 y2, .int .i64 y3], .slice (some ⟨(w.heap.size + 1), 0, none⟩) 1 1, .slice d6 (n + 1) e6, .pointer (some ⟨P, 7, none⟩), .slice a7 n c7, .pointer (some ⟨X, 4, none⟩), .int .i64 yl, .slice (some ⟨w.heap.size, 0, none⟩) 1 1, t51, t52, t53, t54, t55, t56, t57, t58, t59, t60, t61, t62, t63, t64, t65, t66, t67, t68, t69, t70, t71, t72, t73, t74, t75, t76, t77, t78, t79, t80, t81, t82, t83, t84, t85, t86, t87, t88, t89, t90, t91, t92, t93, t94, t95, t96, t97, t98, t99, t100, t101, t102], []⟩ w6
    refine wpAnyU_takeT (i := 12) (oi := { dst := some 52, op := Op.fieldAddr 45 (Operand.tmp 1) 6, type := 0, pos := "l14_optimize.go:107", after := #[{ on := 0, ground := Ground.phase }, { on := 1, ground := Ground.phase }, { on := 2, ground := Ground.phase }, { on := 3, ground := Ground.phase }, { on := 4, ground := Ground.phase }, { on := 5, ground := Ground.phase }, { on := 6, ground := Ground.phase }, { on := 7, ground := Ground.phase }, { on := 8, ground := Ground.textOnly Departure.lateStores }, { on := 9, ground := Ground.textOnly Departure.lateStores }, { on := 10, ground := Ground.textOnly Departure.lateStores }, { on := 11, ground := Ground.textOnly Departure.lateStoresUnsure }], guard := none }) (v := .pointer (some ⟨P, 6, none⟩)) rfl (by kernel_rfl) (by kernel_rfl) (by kernel_rfl) rfl (fun k a w h => HQ.out k a _ _ w h) (Or.inl ⟨by rfl, fun w' hSw => by
      obtain ⟨g0, g1, g2, g3, g4⟩ := hSw
      go_simp⟩) HR6.out.S (fun _ => HR6.out.P67 H6.out H7.out) ?_
    show wpAnyU r9.toArray Q (fun W : World => W.cell? ⟨X, 0, none⟩ = some (.int .i64 y0) ∧ W.cell? ⟨X, 1, none⟩ = some (.int .i64 y1) ∧ W.cell? ⟨X, 2, none⟩ = some (.int .i64 y2) ∧ W.cell? ⟨X, 3, none⟩ = some (.int .i64 y3) ∧ W.cell? ⟨X, 4, none⟩ = some (.int .i64 yl)) (fun W : World => W.cell? ⟨P, 6, none⟩ = some (.slice a6 n c6) ∧ W.cell? ⟨P, 7, none⟩ = some (.slice a7 n c7)) 13 4 #[true, true, true, true, true, true, true, true, true, true, true, false, true, false, false, false] ⟨#[t0, .pointer (some ⟨P, 0, none⟩), t2, t3, t4, t5, t6, t7, .pointer (some ⟨X, 0, none⟩), t9, t10, t11, t12, t13, t14, t15, t16, t17, t18, t19, t20, t21, t22, t23, t24, t25, t26, t27, t28, t29, t30, t31, t32, t33, t34, t35, t36, t37, t38, t39, .pointer (some ⟨P, 6, none⟩), .slice a6 n c6, .pointer (some ⟨X, 0, none⟩), .agg #[.int .i64 y0, .int .i64 y1, .int .i64 y2, .int .i64 y3], .slice (some ⟨(w.heap.size + 1), 0, none⟩) 1 1, .slice d6 (n + 1) e6, .pointer (some ⟨P, 7, none⟩), .slice a7 n c7, .pointer (some ⟨X, 4, none⟩), .int .i64 yl, .slice (some ⟨w.heap.size, 0, none⟩) 1 1, t51, .pointer (some ⟨P, 6, none⟩), t53, t54, t55, t56, t57, t58, t59, t60, t61, t62, t63, t64, t65, t66, t67, t68, t69, t70, t71, t72, t73, t74, t75, t76, t77, t78, t79, t80, t81, t82, t83, t84, t85, t86, t87, t88, t89, t90, t91, t92, t93, t94, t95, t96, t97, t98, t99, t100, t101, t102], []⟩ w6
    refine wpAnyU_all (rs := [11]) (by kernel_rfl) (by simp) ?_
    refine readyU1 ?_
    refine stepU (o := { dst := some 51, op := Op.call { callee := Callee.builtin Builtin.append, args := #[Operand.tmp 47, Operand.tmp 50], argTypes := #[43, 43] }, type := 43, pos := "l14_optimize.go:107", after := #[{ on := 7, ground := Ground.data }, { on := 10, ground := Ground.data }, { on := 5, ground := Ground.chain }], guard := none }) rfl (by rfl) (fun K hK => ?_)
    refine R9.app7 HR6.out (.tmp 47) (.tmp 50) (by rfl) (by rfl) (by first | rfl | simp [Act.eval]) hn ?_
    intro d7 e7 w7 hr7
    have HR7 := hide hr7
    have z6 := HR7.out.box.frz 6
    have z7 := HR7.out.box.frz 7
    have g6 := HR7.out.p 6 (by omega)
    have g7 := HR7.out.p 7 (by omega)
    clear hr7
    refine hK _ _ HR7.out.S (fun _ => HR7.out.P67 H6.out H7.out) ?_
    clear hK K
    show wpAnyU r9.toArray Q (fun W : World => W.cell? ⟨X, 0, none⟩ = some (.int .i64 y0) ∧ W.cell? ⟨X, 1, none⟩ = some (.int .i64 y1) ∧ W.cell? ⟨X, 2, none⟩ = some (.int .i64 y2) ∧ W.cell? ⟨X, 3, none⟩ = some (.int .i64 y3) ∧ W.cell? ⟨X, 4, none⟩ = some (.int .i64 yl)) (fun W : World => W.cell? ⟨P, 6, none⟩ = some (.slice a6 n c6) ∧ W.cell? ⟨P, 7, none⟩ = some (.slice a7 n c7)) 13 3 #[true, true, true, true, true, true, true, true, true, true, true, true, true, false, false, false] ⟨#[t0, .pointer (some ⟨P, 0, none⟩), t2, t3, t4, t5, t6, t7, .pointer (some ⟨X, 0, none⟩), t9, t10, t11, t12, t13, t14, t15, t16, t17, t18, t19, t20, t21, t22, t23, t24, t25, t26, t27, t28, t29, t30, t31, t32, t33, t34, t35, t36, t37, t38, t39, .pointer (some ⟨P, 6, none⟩), .slice a6 n c6, .pointer (some ⟨X, 0, none⟩), .agg #[.int .i64 y0, .int .i64 y1, .int .i64 y2, .int .i64 y3], .slice (some ⟨(w.heap.size + 1), 0, none⟩) 1 1, .slice d6 (n + 1) e6, .pointer (some ⟨P, 7, none⟩), .slice a7 n c7, .pointer (some ⟨X, 4, none⟩), .int .i64 yl, .slice (some ⟨w.heap.size, 0, none⟩) 1 1, .slice d7 (n + 1) e7, .pointer (some ⟨P, 6, none⟩), t53, t54, t55, t56, t57, t58, t59, t60, t61, t62, t63, t64, t65, t66, t67, t68, t69, t70, t71, t72, t73, t74, t75, t76, t77, t78, t79, t80, t81, t82, t83, t84, t85, t86, t87, t88, t89, t90, t91, t92, t93, t94, t95, t96, t97, t98, t99, t100, t101, t102], []⟩ w7
    refine wpAnyU_all (rs := [13]) (by kernel_rfl) (by simp) ?_
    refine readyU1 ?_
    refine stepU (o := { dst := none, op := Op.store 42 (Operand.tmp 52) (Operand.tmp 45), type := 0, pos := "l14_optimize.go:107", after := #[{ on := 12, ground := Ground.data }, { on := 5, ground := Ground.data }, { on := 11, ground := Ground.chain }, { on := 0, ground := Ground.phase }, { on := 1, ground := Ground.phase }, { on := 2, ground := Ground.phase }, { on := 3, ground := Ground.phase }, { on := 4, ground := Ground.phase }, { on := 5, ground := Ground.phase }, { on := 6, ground := Ground.phase }, { on := 7, ground := Ground.phase }, { on := 8, ground := Ground.textOnly Departure.lateStores }, { on := 9, ground := Ground.textOnly Departure.lateStores }, { on := 10, ground := Ground.textOnly Departure.lateStores }, { on := 11, ground := Ground.textOnly Departure.lateStoresUnsure }], guard := none }) rfl (by rfl) (fun K hK => ?_)
    go_wp2_with fail
    refine hK _ _ (HR7.out.far (j := 6) (by omega) (.slice d6 (n + 1) e6)).S (fun z => Bool.noConfusion (show true = false from z)) ?_
    clear hK K
    show wpAnyU r9.toArray Q (fun W : World => W.cell? ⟨X, 0, none⟩ = some (.int .i64 y0) ∧ W.cell? ⟨X, 1, none⟩ = some (.int .i64 y1) ∧ W.cell? ⟨X, 2, none⟩ = some (.int .i64 y2) ∧ W.cell? ⟨X, 3, none⟩ = some (.int .i64 y3) ∧ W.cell? ⟨X, 4, none⟩ = some (.int .i64 yl)) (fun W : World => W.cell? ⟨P, 6, none⟩ = some (.slice a6 n c6) ∧ W.cell? ⟨P, 7, none⟩ = some (.slice a7 n c7)) 13 2 #[true, true, true, true, true, true, true, true, true, true, true, true, true, true, false, false] ⟨#[t0, .pointer (some ⟨P, 0, none⟩), t2, t3, t4, t5, t6, t7, .pointer (some ⟨X, 0, none⟩), t9, t10, t11, t12, t13, t14, t15, t16, t17, t18, t19, t20, t21, t22, t23, t24, t25, t26, t27, t28, t29, t30, t31, t32, t33, t34, t35, t36, t37, t38, t39, .pointer (some ⟨P, 6, none⟩), .slice a6 n c6, .pointer (some ⟨X, 0, none⟩), .agg #[.int .i64 y0, .int .i64 y1, .int .i64 y2, .int .i64 y3], .slice (some ⟨(w.heap.size + 1), 0, none⟩) 1 1, .slice d6 (n + 1) e6, .pointer (some ⟨P, 7, none⟩), .slice a7 n c7, .pointer (some ⟨X, 4, none⟩), .int .i64 yl, .slice (some ⟨w.heap.size, 0, none⟩) 1 1, .slice d7 (n + 1) e7, .pointer (some ⟨P, 6, none⟩), t53, t54, t55, t56, t57, t58, t59, t60, t61, t62, t63, t64, t65, t66, t67, t68, t69, t70, t71, t72, t73, t74, t75, t76, t77, t78, t79, t80, t81, t82, t83, t84, t85, t86, t87, t88, t89, t90, t91, t92, t93, t94, t95, t96, t97, t98, t99, t100, t101, t102], []⟩ (w7.setCell ⟨P, 6, none⟩ (.slice d6 (n + 1) e6))
    refine wpAnyU_takeT (i := 14) (oi := { dst := some 53, op := Op.fieldAddr 45 (Operand.tmp 1) 7, type := 0, pos := "l14_optimize.go:107", after := #[{ on := 0, ground := Ground.phase }, { on := 1, ground := Ground.phase }, { on := 2, ground := Ground.phase }, { on := 3, ground := Ground.phase }, { on := 4, ground := Ground.phase }, { on := 5, ground := Ground.phase }, { on := 6, ground := Ground.phase }, { on := 7, ground := Ground.phase }, { on := 8, ground := Ground.phase }, { on := 9, ground := Ground.phase }, { on := 10, ground := Ground.phase }, { on := 11, ground := Ground.phase }, { on := 12, ground := Ground.phase }, { on := 13, ground := Ground.phase }], guard := none }) (v := .pointer (some ⟨P, 7, none⟩)) rfl (by kernel_rfl) (by kernel_rfl) (by kernel_rfl) rfl (fun k a w h => HQ.out k a _ _ w h) (Or.inl ⟨by rfl, fun w' hSw => by
      obtain ⟨g0, g1, g2, g3, g4⟩ := hSw
      go_simp⟩) (HR7.out.far (j := 6) (by omega) (.slice d6 (n + 1) e6)).S (fun z => Bool.noConfusion (show true = false from z)) ?_
    show wpAnyU r9.toArray Q (fun W : World => W.cell? ⟨X, 0, none⟩ = some (.int .i64 y0) ∧ W.cell? ⟨X, 1, none⟩ = some (.int .i64 y1) ∧ W.cell? ⟨X, 2, none⟩ = some (.int .i64 y2) ∧ W.cell? ⟨X, 3, none⟩ = some (.int .i64 y3) ∧ W.cell? ⟨X, 4, none⟩ = some (.int .i64 yl)) (fun W : World => W.cell? ⟨P, 6, none⟩ = some (.slice a6 n c6) ∧ W.cell? ⟨P, 7, none⟩ = some (.slice a7 n c7)) 13 1 #[true, true, true, true, true, true, true, true, true, true, true, true, true, true, true, false] ⟨#[t0, .pointer (some ⟨P, 0, none⟩), t2, t3, t4, t5, t6, t7, .pointer (some ⟨X, 0, none⟩), t9, t10, t11, t12, t13, t14, t15, t16, t17, t18, t19, t20, t21, t22, t23, t24, t25, t26, t27, t28, t29, t30, t31, t32, t33, t34, t35, t36, t37, t38, t39, .pointer (some ⟨P, 6, none⟩), .slice a6 n c6, .pointer (some ⟨X, 0, none⟩), .agg #[.int .i64 y0, .int .i64 y1, .int .i64 y2, .int .i64 y3], .slice (some ⟨(w.heap.size + 1), 0, none⟩) 1 1, .slice d6 (n + 1) e6, .pointer (some ⟨P, 7, none⟩), .slice a7 n c7, .pointer (some ⟨X, 4, none⟩), .int .i64 yl, .slice (some ⟨w.heap.size, 0, none⟩) 1 1, .slice d7 (n + 1) e7, .pointer (some ⟨P, 6, none⟩), .pointer (some ⟨P, 7, none⟩), t54, t55, t56, t57, t58, t59, t60, t61, t62, t63, t64, t65, t66, t67, t68, t69, t70, t71, t72, t73, t74, t75, t76, t77, t78, t79, t80, t81, t82, t83, t84, t85, t86, t87, t88, t89, t90, t91, t92, t93, t94, t95, t96, t97, t98, t99, t100, t101, t102], []⟩ (w7.setCell ⟨P, 6, none⟩ (.slice d6 (n + 1) e6))
    refine wpAnyU_all (rs := [15]) (by kernel_rfl) (by simp) ?_
    refine readyU1 ?_
    refine stepU (o := { dst := none, op := Op.store 43 (Operand.tmp 53) (Operand.tmp 51), type := 0, pos := "l14_optimize.go:107", after := #[{ on := 14, ground := Ground.data }, { on := 11, ground := Ground.data }, { on := 13, ground := Ground.chain }, { on := 0, ground := Ground.phase }, { on := 1, ground := Ground.phase }, { on := 2, ground := Ground.phase }, { on := 3, ground := Ground.phase }, { on := 4, ground := Ground.phase }, { on := 5, ground := Ground.phase }, { on := 6, ground := Ground.phase }, { on := 7, ground := Ground.phase }, { on := 8, ground := Ground.phase }, { on := 9, ground := Ground.phase }, { on := 10, ground := Ground.phase }, { on := 11, ground := Ground.phase }, { on := 12, ground := Ground.phase }, { on := 13, ground := Ground.phase }], guard := none }) rfl (by rfl) (fun K hK => ?_)
    go_wp2_with fail
    refine hK _ _ ((HR7.out.far (j := 6) (by omega) (.slice d6 (n + 1) e6)).far (j := 7) (by omega) (.slice d7 (n + 1) e7)).S (fun z => Bool.noConfusion (show true = false from z)) ?_
    clear hK K
    refine wpAnyU_done (by kernel_rfl) ?_ _
    exact HP.out _ _ d6 d7 e6 e7 w7 HR7.out
theorem flat10_at {f : Nat → List Value} (hf : ∀ i, (f i).length = 10) {r : Nat} (hr : r < 10) : ∀ (l : List Nat) (j : Nat), j < l.length → (l.flatMap f).getD (j * 10 + r) (.bool false) = (f (l.getD j 0)).getD r (.bool false) := by
  intro l
  induction l with
  | nil => intro j hj; simp at hj
  | cons x l ih =>
    intro j hj
    rw [List.flatMap_cons]
    have hx := hf x
    cases j with
    | zero =>
      rw [List.getD_eq_getElem?_getD, List.getElem?_append_left (by omega), Nat.zero_mul, Nat.zero_add, ← List.getD_eq_getElem?_getD]
      rfl
    | succ j =>
      rw [List.getD_eq_getElem?_getD, List.getElem?_append_right (by omega), show (j + 1) * 10 + r - (f x).length = j * 10 + r by omega, ← List.getD_eq_getElem?_getD, ih j (by simpa using hj)]
      rfl
theorem pv_all {c : Cf} (hl : ∀ k, k < c.n → c.lf k = true) : ∀ p, p < c.n → pvI c p = (p : Int) - 1
  | 0, _ => rfl
  | p + 1, h => by
    unfold pvI Cf.pv
    rw [if_pos (hl p (by omega))]
    show (p : Int) = ((p + 1 : Nat) : Int) - 1
    omega
theorem lkr0 {p : PV} (h : p.Good) : LkR (lk0 p) p.ni p.cf p.i2 := by
  refine ⟨rfl, rfl, rfl, fun q hq => ?_, fun q hq => ?_, fun q hq => ?_, fun q hq => rfl⟩
  · show p.i2 q = goals p.i0 p.i2 p.cf q
    unfold goals
    split
    · rename_i hj
      have := h.pos q hq hj
      show p.i2 q = (((p.i2 q).toNat : Nat) : Int)
      omega
    · rfl
  · show (q : Int) + 1 = _
    rw [nx_one (c := p.cf) (fun _ _ => rfl) (cf_L.1 hq)]
    rfl
  · show (q : Int) - 1 = _
    rw [pv_all (c := p.cf) (fun _ _ => rfl) q (cf_L.1 hq)]
theorem ps0 {p : PV} (h : p.Good) : Ps p.cf (fun q => jmp (p.i0 q)) (fun q => !jmp (p.i0 q) && p.i0 q == 2) (fun _ => []) true := by
  refine ⟨h.ok, fun q _ hj hn => ?_, fun t _ q hq => (by cases hq), fun q _ hi => ?_, fun e => (by cases e)⟩
  · have hj' : jmp (p.i0 q) = true := hj
    rw [hj'] at hn; cases hn
  · cases hJ : jmp (p.i0 q) with
    | true => exact .inr rfl
    | false =>
      left
      have hi' : ((p.i0 q == 2 && p.i1 q == p.i2 q) || ((p.i0 q == 25 || chs (p.i0 q)) && p.cf.b q == p.cf.nx q)) = true := hi
      have h1 : (p.i0 q == 25 || chs (p.i0 q)) = false := by
        unfold jmp at hJ
        unfold chs
        simp only [Bool.or_eq_false_iff] at hJ ⊢
        exact ⟨hJ.1.1.1.1.1, hJ.1.1.1.1.2, hJ.1.1.1.2⟩
      rw [h1] at hi'
      simp only [Bool.false_and, Bool.or_false, Bool.and_eq_true] at hi'
      rw [hi'.1]; rfl
def PV.lft (p : PV) (c : Cf) : PV := PV.kep { p with i2 := goals p.i0 p.i2 c } c.lf
theorem whO_6 (o : Int) : whO [6] o = if jmp o = true then some 2 else none := by
  unfold whO isIn jmp nmB nmC
  by_cases e25 : o = 25
  · subst e25; rfl
  by_cases e26 : o = 26
  · subst e26; rfl
  by_cases e27 : o = 27
  · subst e27; rfl
  by_cases e35 : o = 35
  · subst e35; rfl
  by_cases e36 : o = 36
  · subst e36; rfl
  by_cases e38 : o = 38
  · subst e38; rfl
  simp only [List.any_cons, List.any_nil, Bool.or_false]
  simp only [e25, e26, e27, e35, e36, e38, or_self, if_false, beq_iff_eq]
  repeat' split
  all_goals first | rfl | omega | simp_all
theorem whO_23' (o : Int) : whO [2, 3] o = if nmK o = 1 then some 2 else if nmK o = 2 then some 3 else none := by
  unfold whO isIn nmK nmB nmC
  simp only [List.any_cons, List.any_nil, Bool.or_false]
  by_cases e6 : o = 6
  · subst e6; rfl
  by_cases e9 : o = 9
  · subst e9; rfl
  by_cases e10 : o = 10
  · subst e10; rfl
  by_cases e14 : o = 14
  · subst e14; rfl
  by_cases e13 : o = 13
  · subst e13; rfl
  by_cases e15 : o = 15
  · subst e15; rfl
  simp only [e6, e9, e10, e14, e13, e15, or_self, false_or, if_false]
  repeat' split
  all_goals first | rfl | omega | simp_all
theorem inN6 {k : Lks} {n C : Nat} {c : Cf} {i2 i3 : Nat → Int} {KL : List Nat} (hr : LkR k n c i2) (ok : c.Ok) (hn : c.n = n) (hm : ∀ j, j < C → KL.getD j 0 < n ∧ c.lf (KL.getD j 0) = true) :
    InN [6] (fun j => k.o (KL.getD j 0)) (fun j => k.b (KL.getD j 0)) i3 C (fun x => x < n ∧ c.lf x = true) := by
  intro q hq r hw
  obtain ⟨h1, h2⟩ := hm q hq
  have hw' : whO [6] (k.o (KL.getD q 0)) = some r := hw
  rw [hr.eo, whO_6] at hw'
  split at hw'
  · rename_i hj
    cases hw'
    rw [if_pos rfl]
    show 0 ≤ k.b (KL.getD q 0) ∧ (k.b (KL.getD q 0)).toNat < n ∧ c.lf (k.b (KL.getD q 0)).toNat = true
    rw [hr.bj h1 hj]
    obtain ⟨⟨l1, l2⟩, _⟩ := ok.j (KL.getD q 0) ⟨by rw [hn]; exact h1, h2⟩ hj
    rw [Int.toNat_natCast, ← hn]
    exact ⟨Int.natCast_nonneg _, l1, l2⟩
  · cases hw'
theorem flat4_at {f : Nat → List Value} (hf : ∀ i, (f i).length = 4) {r : Nat} (hr : r < 4) : ∀ (l : List Nat) (j : Nat), j < l.length → (l.flatMap f).getD (j * 4 + r) (.bool false) = (f (l.getD j 0)).getD r (.bool false) := by
  intro l
  induction l with
  | nil => intro j hj; simp at hj
  | cons x l ih =>
    intro j hj
    rw [List.flatMap_cons]
    have hx := hf x
    cases j with
    | zero =>
      rw [List.getD_eq_getElem?_getD, List.getElem?_append_left (by omega), Nat.zero_mul, Nat.zero_add, ← List.getD_eq_getElem?_getD]
      rfl
    | succ j =>
      rw [List.getD_eq_getElem?_getD, List.getElem?_append_right (by omega), show (j + 1) * 4 + r - (f x).length = j * 4 + r by omega, ← List.getD_eq_getElem?_getD, ih j (by simpa using hj)]
      rfl
theorem codeL {w : World} {base g C cap : Nat} (k : Lks) (KL : List Nat) (hl : KL.length = C) (h : w.ownsRow base 51 4 (.slice (some ⟨g, 0, none⟩) C cap) C (KL.flatMap (fun q => [.int .i64 (k.o q), .int .i64 (k.a q), .int .i64 (k.b q), .int .i64 (k.x q)]))) :
    InsO w g C (fun j => k.o (KL.getD j 0)) (fun j => k.a (KL.getD j 0)) (fun j => k.b (KL.getD j 0)) (fun j => k.x (KL.getD j 0)) := by
  refine InsO.of_row (rowF_owns h) (fun j hj => ?_)
  have hd : j = j / 4 * 4 + j % 4 := by omega
  have hlt : j / 4 < KL.length := by omega
  conv => lhs; rw [hd]
  rw [flat4_at (fun i => rfl) (by omega) KL (j / 4) hlt]
  unfold insC
  rcases (show j % 4 = 0 ∨ j % 4 = 1 ∨ j % 4 = 2 ∨ j % 4 = 3 by omega) with e | e | e | e <;> rw [e] <;> rfl
theorem lft_code {w : World} {g C : Nat} {p : PV} {c : Cf} {k : Lks} {KL : List Nat} (hkl : kp c.lf p.ni = KL) (hC : cnt c.lf p.ni = C) (hr : LkR k p.ni c p.i2) (ho : c.op = p.i0) (ha : c.a = p.i1) (hx : k.x = p.i3)
    (h : InsO w g C (fun j => k.o (KL.getD j 0)) (fun j => k.a (KL.getD j 0)) (rn2 [6] (cnt c.lf) (fun j => k.o (KL.getD j 0)) (fun j => k.b (KL.getD j 0))) (rn3 [6] (cnt c.lf) (fun j => k.o (KL.getD j 0)) (fun j => k.x (KL.getD j 0)))) :
    InsO w g (p.lft c).ni (p.lft c).i0 (p.lft c).i1 (p.lft c).i2 (p.lft c).i3 := by
  subst hkl
  subst hC
  refine h.congr (fun j hj => ?_) (fun j hj => ?_) (fun j hj => ?_) (fun j hj => ?_)
  · show p.i0 (kpAt c.lf p.ni j) = k.o (kpAt c.lf p.ni j)
    rw [hr.eo, ho]
  · show p.i1 (kpAt c.lf p.ni j) = k.a (kpAt c.lf p.ni j)
    rw [hr.ea, ha]
  · show (if jmp (p.i0 (kpAt c.lf p.ni j)) = true then (cnt c.lf (goals p.i0 p.i2 c (kpAt c.lf p.ni j)).toNat : Int) else goals p.i0 p.i2 c (kpAt c.lf p.ni j)) = if whO [6] (k.o (kpAt c.lf p.ni j)) = some 2 then (cnt c.lf (k.b (kpAt c.lf p.ni j)).toNat : Int) else k.b (kpAt c.lf p.ni j)
    rw [hr.eb _ (kpAt_mem hj).2, hr.eo, ho, whO_6]
    cases jmp (p.i0 (kpAt c.lf p.ni j)) <;> simp
  · show p.i3 (kpAt c.lf p.ni j) = if whO [6] (k.o (kpAt c.lf p.ni j)) = some 3 then _ else k.x (kpAt c.lf p.ni j)
    rw [whO_6, if_neg (by split <;> simp), hx]
theorem lft_lines {w : World} {base C : Nat} {v : Value} {p : PV} {c : Cf} {k : Lks} {KL : List Nat} (hkl : kp c.lf p.ni = KL) (hC : cnt c.lf p.ni = C) (hx : k.l = p.l0)
    (h : w.ownsRow base 3 1 v C (KL.flatMap (fun q => [.int .i64 (k.l q)]))) : LinF w v (p.lft c).nl (p.lft c).l0 := by
  subst hkl
  subst hC
  refine slF_owns h (fun j hj => ?_)
  have hj' : j < (kp c.lf p.ni).length := by rw [Nat.mul_one] at hj; exact hj
  have : (kp c.lf p.ni).flatMap (fun q => ([.int .i64 (k.l q)] : List Value)) = (kp c.lf p.ni).map (fun q => (.int .i64 (k.l q) : Value)) := by
    induction kp c.lf p.ni with
    | nil => rfl
    | cons x l ih => rw [List.flatMap_cons, List.map_cons, ih]; rfl
  rw [this, List.getD_eq_getElem?_getD, List.getElem?_map, List.getElem?_eq_getElem hj']
  show Value.int .i64 (k.l _) = Value.int .i64 (p.l0 (kpAt c.lf p.ni j))
  unfold kpAt
  rw [hx, List.getD_eq_getElem?_getD, List.getElem?_eq_getElem hj']
  rfl
theorem nmQ_nmd (p : PV) (j : Nat) : nmQ [2, 3] p.i0 p.i2 p.i3 j = nmd p j := by
  unfold nmQ nmd
  rw [whO_23']
  rcases nmK_cases (p.i0 j) with e | e | e <;> rw [e] <;> simp
theorem adQ_usd (p : PV) (m x : Nat) : adQ [2, 3] p.i0 p.i2 p.i3 m x = usd p m x := by
  unfold adQ usd
  simp only [nmQ_nmd]
theorem inN_nm {p : PV} (h : p.nmOk) : InN [2, 3] p.i0 p.i2 p.i3 p.ni (fun x => x < p.nc ∧ usd p p.ni x = true) := by
  intro q hq r hw
  have hnd : nmQ [2, 3] p.i0 p.i2 p.i3 q = some (if r = 2 then p.i2 q else p.i3 q).toNat := by unfold nmQ; rw [hw]; rfl
  obtain ⟨h1, h2⟩ := h q hq
  rw [whO_23'] at hw
  have hu : usd p p.ni (if r = 2 then p.i2 q else p.i3 q).toNat = true := by
    unfold usd
    rw [List.any_eq_true]
    refine ⟨q, List.mem_range.2 hq, ?_⟩
    rw [← nmQ_nmd, hnd]
    simp
  rcases nmK_cases (p.i0 q) with e | e | e
  · rw [e] at hw; simp at hw
  · rw [e] at hw
    simp at hw
    subst hw
    have := h1 e
    rw [if_pos rfl] at hu ⊢
    exact ⟨this.1, by omega, hu⟩
  · rw [e] at hw
    simp at hw
    subst hw
    have := h2 e
    rw [if_neg (by decide)] at hu ⊢
    exact ⟨this.1, by omega, hu⟩
theorem cst_code {w : World} {g : Nat} {p : PV} (h : InsO w g p.ni p.i0 p.i1 (rn2 [2, 3] (cnt (usd p p.ni)) p.i0 p.i2) (rn3 [2, 3] (cnt (usd p p.ni)) p.i0 p.i3)) : InsO w g p.cst.ni p.cst.i0 p.cst.i1 p.cst.i2 p.cst.i3 := by
  refine h.congr (fun _ _ => rfl) (fun _ _ => rfl) (fun j hj => ?_) (fun j hj => ?_)
  · show (if nmK (p.i0 j) = 1 then _ else _) = if whO [2, 3] (p.i0 j) = some 2 then _ else _
    rw [whO_23']
    rcases nmK_cases (p.i0 j) with e | e | e <;> rw [e] <;> simp
  · show (if nmK (p.i0 j) = 2 then _ else _) = if whO [2, 3] (p.i0 j) = some 3 then _ else _
    rw [whO_23']
    rcases nmK_cases (p.i0 j) with e | e | e <;> rw [e] <;> simp
theorem lft_nm {p : PV} {c : Cf} (h : p.nmOk) : (p.lft c).nmOk := fun j hj => by
  obtain ⟨h1, h2⟩ := h _ (kpAt_mem (s := c.lf) (m := p.ni) hj).2
  refine ⟨fun e => ?_, fun e => h2 e⟩
  have e' : nmK (p.i0 (kpAt c.lf p.ni j)) = 1 := e
  have hJ := nmK_jmp (o := p.i0 (kpAt c.lf p.ni j)) (by rw [e']; decide)
  show 0 ≤ (if jmp (p.i0 (kpAt c.lf p.ni j)) = true then _ else goals p.i0 p.i2 c (kpAt c.lf p.ni j)) ∧ (if jmp (p.i0 (kpAt c.lf p.ni j)) = true then _ else goals p.i0 p.i2 c (kpAt c.lf p.ni j)) < (p.nc : Int)
  rw [if_neg (by rw [hJ]; simp)]
  unfold goals
  rw [if_neg (by rw [hJ]; simp)]
  exact h1 e'
theorem lft_known {p : PV} {c : Cf} (h : ∀ q, q < p.ni → knownI (p.i0 q)) : ∀ j, j < (p.lft c).ni → knownI ((p.lft c).i0 j) := fun j hj => h _ (kpAt_mem (s := c.lf) (m := p.ni) hj).2
end Go.Proofs.YtgnbhhgpaldheaaGreat
