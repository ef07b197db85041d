import Derived.Test.YtemciphihnpniaaDoorQJ
import Derived.Test.YtemciphihnpniaaDoorQB
import Derived.Test.YtemciphihnpniaaDoorQS
namespace Go.Proofs.YtemciphihnpniaaDoor
open Go Go.RowKit Go.Shelf
set_option linter.unusedVariables false

set_option maxHeartbeats 800000 in
theorem mk_notePlace (x : Int) (w : World) : Calls Tryd.prog 49 #[.int .i64 x] w fun e w' => e = .returned (.func (.func 61) #[] #[.pointer (some ⟨w.heap.size, 0, none⟩)]) ∧ w' = w.alloc (.cells #[.int .i64 x] 3) := by
  go_enter Tryd.func49, Tryd.ntmps49
  go_wp2
  refine bodyPost_ret (results_tmp rfl _ _ _) rfl ⟨rfl, rfl⟩
set_option maxHeartbeats 800000 in
theorem mk_beginCapture (x : Int) (w : World) : Calls Tryd.prog 51 #[.int .i64 x] w fun e w' => e = .returned (.func (.func 62) #[] #[.pointer (some ⟨w.heap.size, 0, none⟩)]) ∧ w' = w.alloc (.cells #[.int .i64 x] 3) := by
  go_enter Tryd.func51, Tryd.ntmps51
  go_wp2
  refine bodyPost_ret (results_tmp rfl _ _ _) rfl ⟨rfl, rfl⟩
set_option maxHeartbeats 800000 in
theorem mk_endCapture (x : Int) (w : World) : Calls Tryd.prog 64 #[.int .i64 x] w fun e w' => e = .returned (.func (.func 76) #[] #[.pointer (some ⟨w.heap.size, 0, none⟩)]) ∧ w' = w.alloc (.cells #[.int .i64 x] 3) := by
  go_enter Tryd.func64, Tryd.ntmps64
  go_wp2
  refine bodyPost_ret (results_tmp rfl _ _ _) rfl ⟨rfl, rfl⟩
set_option maxHeartbeats 800000 in
theorem mk_heldAgain (x : Int) (w : World) : Calls Tryd.prog 65 #[.int .i64 x] w fun e w' => e = .returned (.func (.func 77) #[] #[.pointer (some ⟨w.heap.size, 0, none⟩)]) ∧ w' = w.alloc (.cells #[.int .i64 x] 3) := by
  go_enter Tryd.func65, Tryd.ntmps65
  go_wp2
  refine bodyPost_ret (results_tmp rfl _ _ _) rfl ⟨rfl, rfl⟩
set_option maxHeartbeats 800000 in
theorem mk_balanced (x y : Int) (w : World) : Calls Tryd.prog 67 #[.int .u8 x, .int .u8 y] w fun e w' => e = .returned (.func (.func 79) #[] #[.pointer (some ⟨w.heap.size, 0, none⟩), .pointer (some ⟨w.heap.size + 1, 0, none⟩)]) ∧ w' = (w.alloc (.cells #[.int .u8 x] 5)).alloc (.cells #[.int .u8 y] 5) := by
  go_enter Tryd.func67, Tryd.ntmps67
  go_wp2
  refine bodyPost_ret (results_tmp rfl _ _ _) rfl ⟨rfl, rfl⟩
set_option maxHeartbeats 800000 in
theorem mk_single (q : Array Value) (w : World) : Calls Tryd.prog 74 #[.agg q] w fun e w' => e = .returned (.func (.func 90) #[] #[.pointer (some ⟨w.heap.size, 0, none⟩)]) ∧ w' = w.alloc (.cells q 109) := by
  go_enter Tryd.func74, Tryd.ntmps74
  go_wp2
  refine bodyPost_ret (results_tmp rfl _ _ _) rfl ⟨rfl, rfl⟩
set_option maxHeartbeats 800000 in
theorem mk_singleOrNone (q : Array Value) (w : World) : Calls Tryd.prog 73 #[.agg q] w fun e w' => e = .returned (.func (.func 89) #[] #[.pointer (some ⟨w.heap.size, 0, none⟩)]) ∧ w' = w.alloc (.cells q 109) := by
  go_enter Tryd.func73, Tryd.ntmps73
  go_wp2
  refine bodyPost_ret (results_tmp rfl _ _ _) rfl ⟨rfl, rfl⟩
set_option maxHeartbeats 800000 in
theorem mk_shortest (q : Array Value) (w : World) : Calls Tryd.prog 72 #[.agg q] w fun e w' => e = .returned (.func (.func 88) #[] #[.pointer (some ⟨w.heap.size, 0, none⟩)]) ∧ w' = w.alloc (.cells q 109) := by
  go_enter Tryd.func72, Tryd.ntmps72
  go_wp2
  refine bodyPost_ret (results_tmp rfl _ _ _) rfl ⟨rfl, rfl⟩
set_option maxHeartbeats 800000 in
theorem mk_border (q : Array Value) (w : World) : Calls Tryd.prog 69 #[.agg q] w fun e w' => e = .returned (.func (.func 83) #[] #[.pointer (some ⟨w.heap.size, 0, none⟩)]) ∧ w' = w.alloc (.cells q 109) := by
  go_enter Tryd.func69, Tryd.ntmps69
  go_wp2
  refine bodyPost_ret (results_tmp rfl _ _ _) rfl ⟨rfl, rfl⟩
set_option maxHeartbeats 800000 in
theorem mk_longest (q : Array Value) (x : Int) (w : World) : Calls Tryd.prog 71 #[.agg q, .int .i64 x] w fun e w' => e = .returned (.func (.func 86) #[] #[.pointer (some ⟨w.heap.size, 0, none⟩), .pointer (some ⟨w.heap.size + 1, 0, none⟩)]) ∧ w' = (w.alloc (.cells q 109)).alloc (.cells #[.int .i64 x] 3) := by
  go_enter Tryd.func71, Tryd.ntmps71
  go_wp2
  refine bodyPost_ret (results_tmp rfl _ _ _) rfl ⟨rfl, rfl⟩

end Go.Proofs.YtemciphihnpniaaDoor
namespace Go.Proofs.YtemciphihnpniaaDoor
open Go Go.RowKit Go.Shelf
set_option linter.unusedVariables false

theorem cell_new (w : World) (v : Value) (T : Nat) : (w.alloc (.cells #[v] T)).cell? ⟨w.heap.size, 0, none⟩ = some v := by
  simp
theorem cl_new (w : World) (f : Nat → Bool) (q : Array Value) (hq : q = clC f) : ClF (w.alloc (.cells q 109)) w.heap.size f := clC_row (by rw [← hq]; exact heap_alloc_new w _)
theorem iv_place (w : World) (S n : Nat) (hS : S < w.heap.size) : ItV (w.alloc (.cells #[.int .i64 (n : Int)] 3)) S (itPlace n) 61 #[.pointer (some ⟨w.heap.size, 0, none⟩)] := .place _ rfl (cell_new _ _ _) (by omega)
theorem iv_open (w : World) (S n : Nat) (hS : S < w.heap.size) : ItV (w.alloc (.cells #[.int .i64 (n : Int)] 3)) S (itOpen n) 62 #[.pointer (some ⟨w.heap.size, 0, none⟩)] := .opn _ rfl (cell_new _ _ _) (by omega)
theorem iv_shut (w : World) (S n : Nat) (hS : S < w.heap.size) : ItV (w.alloc (.cells #[.int .i64 (n : Int)] 3)) S (itShut n) 76 #[.pointer (some ⟨w.heap.size, 0, none⟩)] := .shut _ rfl (cell_new _ _ _) (by omega)
theorem iv_back (w : World) (S n : Nat) (hS : S < w.heap.size) : ItV (w.alloc (.cells #[.int .i64 (n : Int)] 3)) S (itBack n) 77 #[.pointer (some ⟨w.heap.size, 0, none⟩)] := .back _ rfl (cell_new _ _ _) (by omega)
theorem iv_pair (w : World) (S : Nat) (x y : Int) (hS : S < w.heap.size) : ItV ((w.alloc (.cells #[.int .u8 x] 5)).alloc (.cells #[.int .u8 y] 5)) S (itPair x y) 79 #[.pointer (some ⟨w.heap.size, 0, none⟩), .pointer (some ⟨w.heap.size + 1, 0, none⟩)] :=
  .pair _ _ rfl ((World.cell?_of_block (a := ⟨w.heap.size, 0, none⟩) (Below.heap_alloc _ _ _ (by simp))).trans (cell_new _ _ _)) (by show _ = some (Value.int .u8 y); simp) (by omega) (by omega)
theorem iv_edge (w : World) (S : Nat) (f : Nat → Bool) (q : Array Value) (hq : q = clC f) (hS : S < w.heap.size) : ItV (w.alloc (.cells q 109)) S (itEdge f) 83 #[.pointer (some ⟨w.heap.size, 0, none⟩)] := .edge _ rfl (cl_new w f q hq) (by omega)
theorem iv_single (w : World) (S : Nat) (f : Nat → Bool) (q : Array Value) (hq : q = clC f) (hS : S < w.heap.size) : ItV (w.alloc (.cells q 109)) S (itOne f 0) 90 #[.pointer (some ⟨w.heap.size, 0, none⟩)] := .single _ rfl rfl (cl_new w f q hq) (by omega)
theorem iv_opt (w : World) (S : Nat) (f : Nat → Bool) (q : Array Value) (hq : q = clC f) (hS : S < w.heap.size) : ItV (w.alloc (.cells q 109)) S (itOne f 63) 89 #[.pointer (some ⟨w.heap.size, 0, none⟩)] := .opt _ rfl rfl (cl_new w f q hq) (by omega)
theorem iv_short (w : World) (S : Nat) (f : Nat → Bool) (q : Array Value) (hq : q = clC f) (hS : S < w.heap.size) : ItV (w.alloc (.cells q 109)) S (itOne f 45) 88 #[.pointer (some ⟨w.heap.size, 0, none⟩)] := .short _ rfl rfl (cl_new w f q hq) (by omega)
theorem iv_long (w : World) (S least : Nat) (sg : Int) (f : Nat → Bool) (q : Array Value) (hq : q = clC f) (hs : (sg = 42 ∧ least = 0) ∨ (sg = 43 ∧ least = 1)) (hS : S < w.heap.size) : ItV ((w.alloc (.cells q 109)).alloc (.cells #[.int .i64 (least : Int)] 3)) S (itOne f sg) 86 #[.pointer (some ⟨w.heap.size, 0, none⟩), .pointer (some ⟨w.heap.size + 1, 0, none⟩)] :=
  .long _ _ least rfl (by show sg = 42 ∨ sg = 43; omega) (RowF.same (cl_new w f q hq) (Below.heap_alloc _ _ _ (by simp))) (by omega) (by simp) (by omega) (by show least = if sg = 43 then 1 else 0; split <;> omega)

theorem isDigit_any (x : Int) (w : World) : Calls Tryd.prog 53 #[.int .i32 x] w fun e w' => e = .returned (.bool (isDg x)) ∧ w' = w := by
  go_enter Tryd.func53, Tryd.ntmps53
  by_cases h1 : 48 ≤ x
  · by_cases h2 : x ≤ 57
    · go_wp2
      exact bodyPost_ret (results_tmp rfl _ _ _) rfl ⟨by simp [isDg, h1, h2], rfl⟩
    · go_wp2
      exact bodyPost_ret (results_tmp rfl _ _ _) rfl ⟨by simp [isDg, h2], rfl⟩
  · go_wp2
    exact bodyPost_ret (results_tmp rfl _ _ _) rfl ⟨by simp [isDg]; omega, rfl⟩

end Go.Proofs.YtemciphihnpniaaDoor
namespace Go.Proofs.YtemciphihnpniaaDoor
open Go Go.RowKit Go.Shelf
set_option linter.unusedVariables false

theorem esc_low {x : Int} (h : 97 ≤ x ∧ x ≤ 122) : escOk x = clsIs x ∧ (clsIs x = true → ∀ c : Int, escIn x c = cls x c) := by
  have e : lowK x = x := by unfold lowK; rw [if_neg (by omega)]
  have e2 : isLow x = true := by simp [isLow]; omega
  refine ⟨by simp [escOk, e, e2], fun hc c => ?_⟩
  simp [escIn, e, hc]
theorem cls_not_up {x : Int} (h : x < 97 ∨ 122 < x) : clsIs x = false := by simp [clsIs]; omega
theorem esc_up {x : Int} (h : 65 ≤ x ∧ x ≤ 90) : escOk x = clsIs (x + 32) ∧ (clsIs (x + 32) = true → ∀ c : Int, escIn x c = !cls (x + 32) c) := by
  have e : lowK x = x + 32 := by unfold lowK; rw [if_pos h]
  have e2 : isLow (x + 32) = true := by simp [isLow]; omega
  refine ⟨by simp [escOk, e, e2], fun hc c => ?_⟩
  have e3 : decide (x + 32 = x) = false := by simp; omega
  simp only [escIn, e, hc, if_pos, e3]
  cases cls (x + 32) c <;> rfl
theorem esc_else {x : Int} (h1 : ¬ (97 ≤ x ∧ x ≤ 122)) (h2 : ¬ (65 ≤ x ∧ x ≤ 90)) : escOk x = !isDg x ∧ ∀ c : Int, escIn x c = decide (c = x) := by
  have e : lowK x = x := by unfold lowK; rw [if_neg h2]
  have e2 : isLow x = false := by simp [isLow]; omega
  have e3 : clsIs x = false := cls_not_up (by omega)
  exact ⟨by simp [escOk, e, e2, e3], fun c => by simp [escIn, e, e3]⟩
/-- A class by value and whether it is one. -/
def ClR (e : Ending) (ok : Bool) (g : Nat → Bool) : Prop := ∃ f, e = .returned (.tuple #[.agg (clC f), .bool ok]) ∧ (ok = true → ∀ c, c < 256 → f c = g c)

set_option maxHeartbeats 1600000 in
set_option maxRecDepth 100000 in
theorem escapedClass_any (x : Int) (w : World) (hx : 0 ≤ x ∧ x < 256) (hl : LtT w) (h0 : 0 < w.heap.size) :
    Calls Tryd.prog 92 #[.int .u8 x] w fun e w' => ClR e (escOk x) (fun c => escIn x (c : Int)) ∧ Below w.heap.size w w' := by
  have hz := zero_cl
  obtain ⟨z, hze⟩ : ∃ z, clC (fun _ => false) = z := ⟨_, rfl⟩
  rw [hze] at hz
  have hA := clC_row (f := fun _ => false) (w := w.alloc (.cells z 109)) (g := w.heap.size) (by rw [hze]; exact heap_alloc_new w _)
  have H0 := hide (And.intro hA (b_1 w (.cells z 109)))
  have HLt := hide (hl.low (b_1 w (.cells z 109)) h0)
  have hzs : z.size = 256 := by rw [← hze]; exact clC_size _
  have HZ := hide hze
  clear hze hA hl
  go_enter Tryd.func92, Tryd.ntmps92
  by_cases h1 : 97 ≤ x
  · by_cases h2 : x ≤ 122
    · go_wp2_with fail
      refine (letterClass_any x _ hx HLt.out (by simp)).mono ?_
      rintro e w1 ⟨rfl, hb1⟩
      obtain ⟨q, hqe⟩ : ∃ q, clC (fun c => clsIs x && cls x (c : Int)) = q := ⟨_, rfl⟩
      have hcl := H0.out.1.low hb1 H0.out.1.lt
      have hst := sc_cl hcl hqe
      have hqs : q.size = 256 := by rw [← hqe]; exact clC_size _
      rw [hqe]
      have HE := hide (And.intro hqe (And.intro hcl (H0.out.2.trans (hb1.mono (by simp)))))
      clear hqe hb1 hcl
      obtain ⟨e1, e2⟩ := esc_low (x := x) ⟨h1, h2⟩
      have H9 := hide (And.intro e1 e2)
      clear e1 e2
      go_wp2_with fail
      refine bodyPost_ret (res_cl rfl _ _ (clsIs x) rfl rfl (f := fun c => clsIs x && cls x (c : Int)) (by rw [← HE.out.1]; exact cl_set HE.out.2.1 _)) rfl ⟨⟨_, by rw [H9.out.1], fun hk c hc => ?_⟩, below_setCells w.heap.size _ 0 _ (Nat.le_refl _) HE.out.2.2⟩
      rw [H9.out.1] at hk
      show _ = escIn x (c : Int)
      rw [H9.out.2 hk, hk, Bool.true_and]
    · go_wp2_with fail
      refine (between_any x.toNat x.toNat x x (by omega) (by omega) (by omega) (by omega) _).mono ?_
      rintro e w1 ⟨rfl, hb1⟩
      have HB1 := hide hb1
      clear hb1
      obtain ⟨q, hqe⟩ : ∃ q, clC (btw x.toNat x.toNat) = q := ⟨_, rfl⟩
      rw [hqe]
      go_wp2_with fail
      refine (isDigit_any x _).mono ?_
      rintro e w2 ⟨rfl, hw2⟩
      obtain rfl := hw2.symm
      have hcl := H0.out.1.low HB1.out H0.out.1.lt
      have hst := sc_cl hcl hqe
      have hqs : q.size = 256 := by rw [← hqe]; exact clC_size _
      have HE := hide (And.intro hqe (And.intro hcl (H0.out.2.trans (HB1.out.mono (by simp)))))
      clear hqe hcl
      obtain ⟨e1, e2⟩ := esc_else (x := x) (by omega) (by omega)
      have H9 := hide (And.intro e1 e2)
      clear e1 e2
      go_wp2_with fail
      refine bodyPost_ret (res_cl rfl _ _ (!isDg x) rfl rfl (f := btw x.toNat x.toNat) (by rw [← HE.out.1]; exact cl_set HE.out.2.1 _)) rfl ⟨⟨_, by rw [H9.out.1], fun _ c hc => ?_⟩, below_setCells w.heap.size _ 0 _ (Nat.le_refl _) HE.out.2.2⟩
      show _ = escIn x (c : Int)
      rw [H9.out.2]
      simp only [btw]
      rw [Bool.eq_iff_iff]
      simp
      omega
  · by_cases h3 : 65 ≤ x
    · by_cases h4 : x ≤ 90
      · have ha : x - 65 + 97 = x + 32 := by omega
        go_wp2_with fail
        refine (letterClass_any (x + 32) _ (by omega) HLt.out (by simp)).mono ?_
        rintro e w1 ⟨rfl, hb1⟩
        obtain ⟨q, hqe⟩ : ∃ q, clC (fun c => clsIs (x + 32) && cls (x + 32) (c : Int)) = q := ⟨_, rfl⟩
        have hcl := H0.out.1.low hb1 H0.out.1.lt
        have hqs : q.size = 256 := by rw [← hqe]; exact clC_size _
        rw [hqe]
        have HE := hide (And.intro hqe (And.intro hcl (H0.out.2.trans (hb1.mono (by simp)))))
        have hnc := clC_row (f := fun _ => false) (w := w1.alloc (.cells z 109)) (g := w1.heap.size) (by rw [HZ.out]; exact heap_alloc_new w1 _)
        have hst := sc_cl hnc hqe
        have hn2 := cl_set hnc (fun c => clsIs (x + 32) && cls (x + 32) (c : Int))
        rw [hqe] at hn2
        have hb2 : Below w1.heap.size w1 ((w1.alloc (.cells z 109)).setCells w1.heap.size 0 q.toList) := below_setCells w1.heap.size _ 0 _ (Nat.le_refl _) (b_1 w1 _)
        have HN := hide (And.intro hn2 hb2)
        clear hqe hb1 hcl hnc hn2 hb2
        go_wp2_with fail
        generalize (w1.alloc (.cells z 109)).setCells w1.heap.size 0 q.toList = w2 at HN ⊢
        rename_i K1 a1 K0 a0
        refine wp_load_mid 109 (.tmp 4) rfl w1.heap.size 0 rfl (clC (fun c => clsIs (x + 32) && cls (x + 32) (c : Int))).toList (.array 256 4) (cl_val HN.out.1) (by kernel_rfl) rfl (by rw [info_cl, Array.length_toList, clC_size]) ?_
        refine a0 _ _ ?_
        clear a0 hst
        rw [Array.toArray_toList, HE.out.1]
        go_wp2_with fail
        refine (turnedOver_any (fun c => clsIs (x + 32) && cls (x + 32) (c : Int)) q HE.out.1.symm w2).mono ?_
        rintro e w3 ⟨rfl, hb3⟩
        have hb4 := HN.out.2.trans (hb3.mono HN.out.2.size)
        have hcl := HE.out.2.1.low hb4 HE.out.2.1.lt
        obtain ⟨p, hpe⟩ : ∃ p, clC (fun c => !(clsIs (x + 32) && cls (x + 32) (c : Int))) = p := ⟨_, rfl⟩
        rw [hpe]
        have hst := sc_cl hcl hpe
        have hps : p.size = 256 := by rw [← hpe]; exact clC_size _
        have HF := hide (And.intro hpe (And.intro hcl (HE.out.2.2.trans (hb4.mono (Nat.le_of_lt HE.out.2.1.lt)))))
        clear hpe hcl hb3 hb4
        obtain ⟨e1, e2⟩ := esc_up (x := x) ⟨h3, h4⟩
        have H9 := hide (And.intro e1 e2)
        clear e1 e2
        go_wp2_with fail
        refine bodyPost_ret (res_cl rfl _ _ (clsIs (x + 32)) rfl rfl (f := fun c => !(clsIs (x + 32) && cls (x + 32) (c : Int))) (by rw [← HF.out.1]; exact cl_set HF.out.2.1 _)) rfl ⟨⟨_, by rw [H9.out.1], fun hk c hc => ?_⟩, below_setCells w.heap.size _ 0 _ (Nat.le_refl _) HF.out.2.2⟩
        rw [H9.out.1] at hk
        show _ = escIn x (c : Int)
        rw [H9.out.2 hk, hk, Bool.true_and]
      · go_wp2_with fail
        refine (between_any x.toNat x.toNat x x (by omega) (by omega) (by omega) (by omega) _).mono ?_
        rintro e w1 ⟨rfl, hb1⟩
        have HB1 := hide hb1
        clear hb1
        obtain ⟨q, hqe⟩ : ∃ q, clC (btw x.toNat x.toNat) = q := ⟨_, rfl⟩
        rw [hqe]
        go_wp2_with fail
        refine (isDigit_any x _).mono ?_
        rintro e w2 ⟨rfl, hw2⟩
        obtain rfl := hw2.symm
        have hcl := H0.out.1.low HB1.out H0.out.1.lt
        have hst := sc_cl hcl hqe
        have hqs : q.size = 256 := by rw [← hqe]; exact clC_size _
        have HE := hide (And.intro hqe (And.intro hcl (H0.out.2.trans (HB1.out.mono (by simp)))))
        clear hqe hcl
        obtain ⟨e1, e2⟩ := esc_else (x := x) (by omega) (by omega)
        have H9 := hide (And.intro e1 e2)
        clear e1 e2
        go_wp2_with fail
        refine bodyPost_ret (res_cl rfl _ _ (!isDg x) rfl rfl (f := btw x.toNat x.toNat) (by rw [← HE.out.1]; exact cl_set HE.out.2.1 _)) rfl ⟨⟨_, by rw [H9.out.1], fun _ c hc => ?_⟩, below_setCells w.heap.size _ 0 _ (Nat.le_refl _) HE.out.2.2⟩
        show _ = escIn x (c : Int)
        rw [H9.out.2]
        simp only [btw]
        rw [Bool.eq_iff_iff]
        simp
        omega
    · go_wp2_with fail
      refine (between_any x.toNat x.toNat x x (by omega) (by omega) (by omega) (by omega) _).mono ?_
      rintro e w1 ⟨rfl, hb1⟩
      have HB1 := hide hb1
      clear hb1
      obtain ⟨q, hqe⟩ : ∃ q, clC (btw x.toNat x.toNat) = q := ⟨_, rfl⟩
      rw [hqe]
      go_wp2_with fail
      refine (isDigit_any x _).mono ?_
      rintro e w2 ⟨rfl, hw2⟩
      obtain rfl := hw2.symm
      have hcl := H0.out.1.low HB1.out H0.out.1.lt
      have hst := sc_cl hcl hqe
      have hqs : q.size = 256 := by rw [← hqe]; exact clC_size _
      have HE := hide (And.intro hqe (And.intro hcl (H0.out.2.trans (HB1.out.mono (by simp)))))
      clear hqe hcl
      obtain ⟨e1, e2⟩ := esc_else (x := x) (by omega) (by omega)
      have H9 := hide (And.intro e1 e2)
      clear e1 e2
      go_wp2_with fail
      refine bodyPost_ret (res_cl rfl _ _ (!isDg x) rfl rfl (f := btw x.toNat x.toNat) (by rw [← HE.out.1]; exact cl_set HE.out.2.1 _)) rfl ⟨⟨_, by rw [H9.out.1], fun _ c hc => ?_⟩, below_setCells w.heap.size _ 0 _ (Nat.le_refl _) HE.out.2.2⟩
      show _ = escIn x (c : Int)
      rw [H9.out.2]
      simp only [btw]
      rw [Bool.eq_iff_iff]
      simp
      omega

end Go.Proofs.YtemciphihnpniaaDoor
namespace Go.Proofs.YtemciphihnpniaaDoor
open Go Go.RowKit Go.Shelf
set_option linter.unusedVariables false

/-- The program's reader: what is left, its items, the open captures, which are closed. -/
def rdF (rest : ByteArray) (vi vo vc : Value) : Nat → Value
  | 0 => .string rest
  | 1 => vi
  | 2 => vo
  | _ => vc
def PR (w : World) (R : Nat) (rest : ByteArray) (vi vo vc : Value) : Prop := RowF w 69 R 4 (rdF rest vi vo vc)
theorem PR.setR {w : World} {R : Nat} {rest : ByteArray} {vi vo vc : Value} (h : PR w R rest vi vo vc) (r : ByteArray) : PR (w.setCell ⟨R, 0, none⟩ (.string r)) R r vi vo vc := by
  refine (RowF.set h (j := 0) (by omega) (.string r)).congr fun j hj => ?_
  rcases j with _ | _ | _ | _ | j <;> simp [rdF]

set_option maxHeartbeats 800000 in
theorem takeByte_any (R : Nat) (rest : ByteArray) (vi vo vc : Value) (w : World) (hr : 0 < rest.size) (hl : rest.size ≤ 1000) (h : PR w R rest vi vo vc) :
    Calls Tryd.prog 66 #[.pointer (some ⟨R, 0, none⟩)] w fun e w' => e = .returned (.int .u8 (hb rest 0)) ∧ PR w' R (rest.extract 1 rest.size) vi vo vc ∧ Keeps w w' (fun b => b = R) := by
  have c : w.cell? ⟨R, 0, none⟩ = some (.string rest) := RowF.cell h (j := 0) (by omega)
  have z : w.frozen? ⟨R, 0, none⟩ = false := RowF.frz h 0
  have hix : ∀ w' : World, (Instr.index 9 (.string rest) (.int .i64 0)).run Tryd.prog w' = .ok (.int .u8 (hb rest 0)) w' := fun w' => by
    have := idx_str rest (i := 0) w' (by omega) (by omega)
    simpa using this
  have hsl : ∀ w' : World, (Instr.slice 9 (.string rest) (some (.int .i64 1)) none none).run Tryd.prog w' = .ok (.string (rest.extract 1 rest.size)) w' := fun w' => by
    rw [run_slice_string_from_if w' 9 rest .i64 1 Tryd.underlying9]
    rw [if_pos (by omega)]
    rfl
  have HP := hide (h.setR (rest.extract 1 rest.size))
  have HK := hide ((Keeps.refl w (fun b => b = R)).setCell (g := R) (j := 0) rfl (.string (rest.extract 1 rest.size)))
  clear h
  go_enter Tryd.func66, Tryd.ntmps66
  go_wp2
  exact bodyPost_ret (results_tmp rfl _ _ _) rfl ⟨rfl, HP.out, HK.out⟩

end Go.Proofs.YtemciphihnpniaaDoor
namespace Go.Proofs.YtemciphihnpniaaDoor
open Go Go.RowKit Go.Shelf
set_option linter.unusedVariables false

/-- What is left behind a text that may stand ahead. -/
def cutB (a b : ByteArray) : ByteArray := if prefB a b = true then a.extract b.size a.size else a
theorem cutB_yes {a b : ByteArray} (h : prefB a b = true) : cutB a b = a.extract b.size a.size := if_pos h
theorem cutB_no {a b : ByteArray} (h : prefB a b = false) : cutB a b = a := if_neg (by simp [h])

set_option maxHeartbeats 800000 in
set_option maxRecDepth 100000 in
theorem cut0_any (a b : ByteArray) (w : World) (ha : a.size ≤ 1000000) (hb : b.size ≤ 1000000) :
    Calls Tryd.prog 47 #[.string a, .string b] w fun e w' => e = .returned (.tuple #[.string (cutB a b), .bool (prefB a b)]) ∧ w' = w := by
  go_enter Tryd.func47, Tryd.ntmps47
  go_wp2_with fail
  refine (pref0_any a b w ha hb).mono ?_
  rintro e w1 ⟨rfl, hw⟩
  obtain rfl := hw.symm
  cases hp : prefB a b
  · have HC := hide (And.intro (cutB_no hp) hp)
    clear hp
    go_wp2_with fail
    refine bodyPost_ret (v := .tuple #[.string a, .bool false]) ?_ rfl ⟨by rw [HC.out.1, HC.out.2], rfl⟩
    simp [results, Tryd.results47, go_sem]
  · have hle : b.size ≤ a.size := (of_decide_eq_true hp).1
    have hsl : ∀ w' : World, (Instr.slice 9 (.string a) (some (.int .i64 (b.size : Int))) none none).run Tryd.prog w' = .ok (.string (a.extract b.size a.size)) w' := fun w' => by
      rw [run_slice_string_from_if w' 9 a .i64 (b.size : Int) Tryd.underlying9]
      simp [hle]
    have HC := hide (And.intro (cutB_yes hp) hp)
    clear hp
    go_wp2_with fail
    refine bodyPost_ret (v := .tuple #[.string (a.extract b.size a.size), .bool true]) ?_ rfl ⟨by rw [HC.out.1, HC.out.2], rfl⟩
    simp [results, Tryd.results47, go_sem]
set_option maxHeartbeats 800000 in
set_option maxRecDepth 100000 in
theorem cut_any (a b : ByteArray) (w : World) (ha : a.size ≤ 1000000) (hb : b.size ≤ 1000000) :
    Calls Tryd.prog 36 #[.string a, .string b] w fun e w' => e = .returned (.tuple #[.string (cutB a b), .bool (prefB a b)]) ∧ w' = w := by
  go_enter Tryd.func36, Tryd.ntmps36
  go_wp2_with fail
  refine (cut0_any a b w ha hb).mono ?_
  rintro e w1 ⟨rfl, hw⟩
  obtain rfl := hw.symm
  go_wp2_with fail
  refine bodyPost_ret (v := .tuple #[.string (cutB a b), .bool (prefB a b)]) ?_ rfl ⟨rfl, rfl⟩
  simp [results, Tryd.results36, go_sem]
set_option maxHeartbeats 800000 in
set_option maxRecDepth 100000 in
theorem takes_any (R : Nat) (rest b : ByteArray) (vi vo vc : Value) (w : World) (hl : rest.size ≤ 1000) (hb : b.size ≤ 1000) (h : PR w R rest vi vo vc) :
    Calls Tryd.prog 29 #[.pointer (some ⟨R, 0, none⟩), .string b] w fun e w' => e = .returned (.bool (prefB rest b)) ∧ PR w' R (cutB rest b) vi vo vc ∧ Keeps w w' (fun b => b = R) := by
  have c : w.cell? ⟨R, 0, none⟩ = some (.string rest) := RowF.cell h (j := 0) (by omega)
  have z : w.frozen? ⟨R, 0, none⟩ = false := RowF.frz h 0
  have HP := hide (h.setR (cutB rest b))
  have HK := hide ((Keeps.refl w (fun b => b = R)).setCell (g := R) (j := 0) rfl (.string (cutB rest b)))
  clear h
  go_enter Tryd.func29, Tryd.ntmps29
  go_wp2_with fail
  refine (cut_any rest b w (by omega) (by omega)).mono ?_
  rintro e w1 ⟨rfl, hw⟩
  obtain rfl := hw.symm
  go_wp2_with fail
  refine bodyPost_ret (v := .bool (prefB rest b)) ?_ rfl ⟨rfl, HP.out, HK.out⟩
  simp [results, Tryd.results29, go_sem]

end Go.Proofs.YtemciphihnpniaaDoor
namespace Go.Proofs.YtemciphihnpniaaDoor
open Go Go.RowKit Go.Shelf
set_option linter.unusedVariables false

set_option maxHeartbeats 800000 in
/-- Whether a pile in a cell is empty. -/
theorem isEmpty_any (R o n cap : Nat) (a : Option Addr) (w : World) (hn : n ≤ 1000) (h : w.cell? ⟨R, o, none⟩ = some (.slice a n cap)) :
    Calls Tryd.prog 38 #[.pointer (some ⟨R, o, none⟩)] w fun e w' => e = .returned (.bool (decide (n = 0))) ∧ w' = w := by
  rcases Nat.eq_zero_or_pos n with rfl | hp
  · go_enter Tryd.func38, Tryd.ntmps38
    go_wp2
    exact bodyPost_ret (results_tmp rfl _ _ _) rfl ⟨rfl, rfl⟩
  · have h1 : ((n : Int) == 0) = false := by simp; omega
    have HD := hide (show decide (n = 0) = false by simp; omega)
    go_enter Tryd.func38, Tryd.ntmps38
    go_wp2
    refine bodyPost_ret (v := .bool false) ?_ rfl ⟨by rw [HD.out], rfl⟩
    simp [results, Tryd.results38, go_sem]

set_option maxHeartbeats 800000 in
/-- The last of a pile is taken from it. -/
theorem takeLast_any (R o n cap g : Nat) (x : Int) (w : World) (h0 : 0 < n) (hm : n ≤ 1000) (hc : n ≤ cap) (h : w.cell? ⟨R, o, none⟩ = some (.slice (some ⟨g, 0, none⟩) n cap)) (hf : w.frozen? ⟨R, o, none⟩ = false) (hx : w.cell? ⟨g, n - 1, none⟩ = some (.int .i64 x)) :
    Calls Tryd.prog 63 #[.pointer (some ⟨R, o, none⟩)] w fun e w' => e = .returned (.int .i64 x) ∧ w' = w.setCell ⟨R, o, none⟩ (.slice (some ⟨g, 0, none⟩) (n - 1) cap) := by
  have h3 : (n : Int) - 1 ≤ (cap : Int) := by omega
  have h4 : ((n : Int) - 1).toNat = n - 1 := by omega
  have h5 : 0 ≤ (n : Int) - 1 := by omega
  go_enter Tryd.func63, Tryd.ntmps63
  go_wp2
  exact bodyPost_ret (results_tmp rfl _ _ _) rfl ⟨rfl, rfl⟩

end Go.Proofs.YtemciphihnpniaaDoor
namespace Go.Proofs.YtemciphihnpniaaDoor
open Go Go.RowKit Go.Shelf
set_option linter.unusedVariables false

theorem hb_ext {a : ByteArray} {k j : Nat} : hb (a.extract k a.size) j = hb a (k + j) := by
  unfold hb
  by_cases h : k + j < a.size
  · rw [dif_pos h, dif_pos (by simp; omega)]
    simp [ByteArray.getElem_extract]
  · rw [dif_neg h, dif_neg (by simp; omega)]

set_option maxHeartbeats 1600000 in
set_option maxRecDepth 100000 in
/-- %b: behind it two bytes. -/
theorem balanced_any (R S : Nat) (rest : ByteArray) (vi vo vc : Value) (w : World) (hS : S < w.heap.size) (hl : rest.size ≤ 1000) (h : PR w R rest vi vo vc) :
    Calls Tryd.prog 55 #[.pointer (some ⟨R, 0, none⟩)] w fun e w' =>
      (rest.size < 2 ∧ e = .returned (.tuple #[.nilFunc, .bool false]) ∧ w' = w) ∨
      (2 ≤ rest.size ∧ Keeps w w' (fun b => b = R) ∧ PR w' R (rest.extract 2 rest.size) vi vo vc ∧ ∃ fi ci, e = .returned (.tuple #[.func (.func fi) #[] ci, .bool true]) ∧ ItV w' S (itPair (hb rest 0) (hb rest 1)) fi ci) := by
  have c : w.cell? ⟨R, 0, none⟩ = some (.string rest) := RowF.cell h (j := 0) (by omega)
  have H := hide h
  clear h
  go_enter Tryd.func55, Tryd.ntmps55
  by_cases hs : rest.size < 2
  · have h1 : (rest.size : Int) < 2 := by omega
    go_wp2_with fail
    refine bodyPost_ret (v := .tuple #[.nilFunc, .bool false]) ?_ rfl (.inl ⟨hs, rfl, rfl⟩)
    simp [results, Tryd.results55, go_sem]
  · have h1 : ¬ (rest.size : Int) < 2 := by omega
    go_wp2_with fail
    refine (takeByte_any R rest vi vo vc w (by omega) hl H.out).mono ?_
    rintro e w1 ⟨rfl, hp1, hk1⟩
    have H1 := hide hp1
    have K1 := hide hk1
    clear hp1 hk1
    go_wp2_with fail
    refine (takeByte_any R _ vi vo vc w1 (by simp; omega) (by simp; omega) H1.out).mono ?_
    rintro e w2 ⟨rfl, hp2, hk2⟩
    have H2 := hide hp2
    have K2 := hide hk2
    clear hp2 hk2
    go_wp2_with fail
    refine (mk_balanced _ _ w2).mono ?_
    rintro e w3 ⟨rfl, hw⟩
    have HW := hide hw
    clear hw
    go_wp2_with fail
    refine bodyPost_ret (v := .tuple #[.func (.func 79) #[] #[.pointer (some ⟨w2.heap.size, 0, none⟩), .pointer (some ⟨w2.heap.size + 1, 0, none⟩)], .bool true]) ?_ rfl (.inr ⟨by omega, ?_, ?_, _, _, rfl, ?_⟩)
    · simp [results, Tryd.results55, go_sem]
    · rw [HW.out]
      exact (K1.out.trans K2.out).trans (Keeps.of (b_2 w2 _ _) (Nat.le_refl _) _)
    · rw [HW.out]
      have h9 := H2.out
      rw [ByteArray.extract_extract] at h9
      have h8 : PR w2 R (rest.extract 2 rest.size) vi vo vc := by
        have e : rest.extract (1 + 1) (min (1 + (rest.extract 1 rest.size).size) rest.size) = rest.extract 2 rest.size := by
          congr 1; simp; omega
        rwa [e] at h9
      exact RowF.keep h8 (Keeps.of (b_2 w2 _ _) (Nat.le_refl _) (fun _ => False)) (fun x => x)
    · rw [HW.out, show hb rest 1 = hb (rest.extract 1 rest.size) 0 from (hb_ext (k := 1) (j := 0)).symm]
      exact iv_pair w2 S _ _ (Nat.lt_of_lt_of_le hS (Nat.le_trans K1.out.size K2.out.size))

end Go.Proofs.YtemciphihnpniaaDoor
namespace Go.Proofs.YtemciphihnpniaaDoor
open Go Go.RowKit Go.Shelf
set_option linter.unusedVariables false

/-- Whether a range stands here. -/
def isRg (r : ByteArray) : Bool := decide (2 ≤ r.size) && decide (hb r 0 = 45) && decide (hb r 1 ≠ 37) && decide (hb r 1 ≠ 93)
set_option maxHeartbeats 1600000 in
set_option maxRecDepth 100000 in
theorem isRange_any (R : Nat) (rest : ByteArray) (vi vo vc : Value) (w : World) (hl : rest.size ≤ 1000) (h : PR w R rest vi vo vc) :
    Calls Tryd.prog 91 #[.pointer (some ⟨R, 0, none⟩)] w fun e w' => e = .returned (.bool (isRg rest)) ∧ w' = w := by
  have c : w.cell? ⟨R, 0, none⟩ = some (.string rest) := RowF.cell h (j := 0) (by omega)
  clear h
  go_enter Tryd.func91, Tryd.ntmps91
  by_cases hs : 2 ≤ rest.size
  · have h1 : (2 : Int) ≤ (rest.size : Int) := by omega
    have hi0 : ∀ w' : World, (Instr.index 9 (.string rest) (.int .i64 0)).run Tryd.prog w' = .ok (.int .u8 (hb rest 0)) w' := fun w' => by
      have := idx_str rest (i := 0) w' (by omega) (by omega)
      simpa using this
    have hi1 : ∀ w' : World, (Instr.index 9 (.string rest) (.int .i64 1)).run Tryd.prog w' = .ok (.int .u8 (hb rest 1)) w' := fun w' => by
      have := idx_str rest (i := 1) w' (by omega) (by omega)
      simpa using this
    have HD := hide (show isRg rest = (decide (hb rest 0 = 45) && decide (hb rest 1 ≠ 37) && decide (hb rest 1 ≠ 93)) by simp [isRg, hs])
    generalize hb rest 0 = x at hi0 HD
    generalize hb rest 1 = y at hi1 HD
    by_cases hx : x = 45
    · by_cases hy : y = 37
      · have HV := hide (show isRg rest = false by rw [HD.out]; simp [hy])
        go_wp2_with fail
        refine bodyPost_ret (v := .bool false) ?_ rfl ⟨by rw [HV.out], rfl⟩
        simp [results, Tryd.results91, go_sem]
      · by_cases hz : y = 93
        · have HV := hide (show isRg rest = false by rw [HD.out]; simp [hz])
          go_wp2_with fail
          refine bodyPost_ret (v := .bool false) ?_ rfl ⟨by rw [HV.out], rfl⟩
          simp [results, Tryd.results91, go_sem]
        · have HV := hide (show isRg rest = true by rw [HD.out]; simp [hx, hy, hz])
          go_wp2_with fail
          refine bodyPost_ret (v := .bool true) ?_ rfl ⟨by rw [HV.out], rfl⟩
          simp [results, Tryd.results91, go_sem, hy, hz]
    · have HV := hide (show isRg rest = false by rw [HD.out]; simp [hx])
      go_wp2_with fail
      refine bodyPost_ret (v := .bool false) ?_ rfl ⟨by rw [HV.out], rfl⟩
      simp [results, Tryd.results91, go_sem]
  · have h1 : ¬ (2 : Int) ≤ (rest.size : Int) := by omega
    have HV := hide (show isRg rest = false by simp [isRg]; omega)
    go_wp2_with fail
    refine bodyPost_ret (v := .bool false) ?_ rfl ⟨by rw [HV.out], rfl⟩
    simp [results, Tryd.results91, go_sem]

end Go.Proofs.YtemciphihnpniaaDoor
