import Derived.Test.YtedpifhlffcmkaaGreatDoorKHZX
import Derived.Test.YtedpifhlffcmkaaGreatDoorKIO1
namespace Go.Proofs.YtedpifhlffcmkaaGreatDoor
open Go Go.RowKit
set_option maxHeartbeats 6400000
set_option maxRecDepth 100000
set_option linter.unusedVariables false
section
variable {L:PM} {R base hand:Nat} {S:Nat->Prop} {h:Hp} {w:World}
attribute [local go_sem] bD
def kV (base:Nat) (S:Nat->Prop) (H R:Nat) (w:World) (kd code id:Int) (h':Hp) (e:Ending) (w':World):Prop:=
 e=.returned (.tuple #[.int .i64 id,.int .i64 code])/\∃ L' pv,L'.H=H/\PS base S h' L' w'/\aD w' 69 R 2 (Cr H pv)/\(kd=8->code=0->pv=aG L'.tb (cu id.toNat))/\Keeps w w' (fun b=>S b∨b=R)
theorem kV.of {base:Nat} {S:Nat->Prop} {H R:Nat} {w w1 w':World} {kd code id:Int} {h':Hp} {v:Value} {e:Ending} {pv:Value} (hk:kd≠8) (r:aD w1 69 R 2 (Cr H pv)) (n:¬ S R) (hb:Below w.heap.size w w1) (x:gG base S H w1 v h' e w'):kV base S H R w kd code id h' (.returned (.tuple #[.int .i64 id,.int .i64 code])) w':=by
 obtain ⟨-,L',h1,h2,h3⟩:=x
 exact ⟨rfl,L',pv,h1,h2,r.keep h3 n,fun c=>absurd c hk,(Keeps.of hb (Nat.le_refl _) _).trans (h3.mono (fun b e=>Or.inl e))⟩
theorem CJ (x:PW base S h L R hand w) (A B C code:Int) (h':Hp) (hc:∀ w',PW base S h L R hand w'->Calls Tryz.prog 49 #[.pointer (some ⟨R,0,none⟩),.int .i64 A,.int .i64 B,.int .i64 C] w' (gG base S L.H w' (.int .i64 code) h')):
 Calls Tryz.prog 35 #[.pointer (some ⟨R,0,none⟩),.agg #[.int .i64 2,.int .i64 A,.int .i64 B,.int .i64 C]] w (kV base S L.H R w 2 code 0 h'):=by
 have HX:=ah (eT w 2 A B C)
 have HB:=ah (aJ w (.cells #[.int .i64 2,.int .i64 A,.int .i64 B,.int .i64 C] 39))
 have HW:=ah (x.low (aJ w (.cells #[.int .i64 2,.int .i64 A,.int .i64 B,.int .i64 C] 39)))
 have HC:=ah (hc _ HW.o)
 clear x hc
 go_enter Tryz.func35,Tryz.ntmps35
 go_upto_region 1 with (fail)
 generalize w.alloc (.cells #[.int .i64 2,.int .i64 A,.int .i64 B,.int .i64 C] 39)=w1 at *
 generalize hX:w.heap.size=X at *
 have x0:w1.cell? ⟨X,0,none⟩=some (.int .i64 2):=HX.o.cell (j:=0) (by omega)
 have x1:w1.cell? ⟨X,1,none⟩=some (.int .i64 A):=HX.o.cell (j:=1) (by omega)
 have x2:w1.cell? ⟨X,2,none⟩=some (.int .i64 B):=HX.o.cell (j:=2) (by omega)
 have x3:w1.cell? ⟨X,3,none⟩=some (.int .i64 C):=HX.o.cell (j:=3) (by omega)
 go_wp2_with fail
 refine HC.o.mono ?_
 intro e2 w2 hr2
 have H2:=ah hr2
 obtain ⟨rfl,-⟩:=hr2
 clear x0 x1 x2 x3
 go_wp2
 ((try simp only [Exit.inBlock,Exit.then]);refine bodyPost_ret (results_tmp2 rfl _ _ _) rfl ?_)
 exact kV.of (by decide) HW.o.r HW.o.n (by rw [hX];exact HB.o) H2.o
theorem Cz (x:PW base S h L R hand w) (A B C code:Int) (h':Hp) (hc:∀ w',PW base S h L R hand w'->Calls Tryz.prog 50 #[.pointer (some ⟨R,0,none⟩),.int .i64 A,.int .i64 B,.int .i64 C] w' (gG base S L.H w' (.int .i64 code) h')):
 Calls Tryz.prog 35 #[.pointer (some ⟨R,0,none⟩),.agg #[.int .i64 3,.int .i64 A,.int .i64 B,.int .i64 C]] w (kV base S L.H R w 3 code 0 h'):=by
 have HX:=ah (eT w 3 A B C)
 have HB:=ah (aJ w (.cells #[.int .i64 3,.int .i64 A,.int .i64 B,.int .i64 C] 39))
 have HW:=ah (x.low (aJ w (.cells #[.int .i64 3,.int .i64 A,.int .i64 B,.int .i64 C] 39)))
 have HC:=ah (hc _ HW.o)
 clear x hc
 go_enter Tryz.func35,Tryz.ntmps35
 go_upto_region 1 with (fail)
 generalize w.alloc (.cells #[.int .i64 3,.int .i64 A,.int .i64 B,.int .i64 C] 39)=w1 at *
 generalize hX:w.heap.size=X at *
 have x0:w1.cell? ⟨X,0,none⟩=some (.int .i64 3):=HX.o.cell (j:=0) (by omega)
 have x1:w1.cell? ⟨X,1,none⟩=some (.int .i64 A):=HX.o.cell (j:=1) (by omega)
 have x2:w1.cell? ⟨X,2,none⟩=some (.int .i64 B):=HX.o.cell (j:=2) (by omega)
 have x3:w1.cell? ⟨X,3,none⟩=some (.int .i64 C):=HX.o.cell (j:=3) (by omega)
 go_wp2_with fail
 refine HC.o.mono ?_
 intro e2 w2 hr2
 have H2:=ah hr2
 obtain ⟨rfl,-⟩:=hr2
 clear x0 x1 x2 x3
 go_wp2
 ((try simp only [Exit.inBlock,Exit.then]);refine bodyPost_ret (results_tmp2 rfl _ _ _) rfl ?_)
 exact kV.of (by decide) HW.o.r HW.o.n (by rw [hX];exact HB.o) H2.o
theorem BX (x:PW base S h L R hand w) (A B C code:Int) (h':Hp) (hc:∀ w',PW base S h L R hand w'->Calls Tryz.prog 51 #[.pointer (some ⟨R,0,none⟩),.int .i64 A,.int .i64 B] w' (gG base S L.H w' (.int .i64 code) h')):
 Calls Tryz.prog 35 #[.pointer (some ⟨R,0,none⟩),.agg #[.int .i64 4,.int .i64 A,.int .i64 B,.int .i64 C]] w (kV base S L.H R w 4 code 0 h'):=by
 have HX:=ah (eT w 4 A B C)
 have HB:=ah (aJ w (.cells #[.int .i64 4,.int .i64 A,.int .i64 B,.int .i64 C] 39))
 have HW:=ah (x.low (aJ w (.cells #[.int .i64 4,.int .i64 A,.int .i64 B,.int .i64 C] 39)))
 have HC:=ah (hc _ HW.o)
 clear x hc
 go_enter Tryz.func35,Tryz.ntmps35
 go_upto_region 1 with (fail)
 generalize w.alloc (.cells #[.int .i64 4,.int .i64 A,.int .i64 B,.int .i64 C] 39)=w1 at *
 generalize hX:w.heap.size=X at *
 have x0:w1.cell? ⟨X,0,none⟩=some (.int .i64 4):=HX.o.cell (j:=0) (by omega)
 have x1:w1.cell? ⟨X,1,none⟩=some (.int .i64 A):=HX.o.cell (j:=1) (by omega)
 have x2:w1.cell? ⟨X,2,none⟩=some (.int .i64 B):=HX.o.cell (j:=2) (by omega)
 have x3:w1.cell? ⟨X,3,none⟩=some (.int .i64 C):=HX.o.cell (j:=3) (by omega)
 go_wp2_with fail
 refine HC.o.mono ?_
 intro e2 w2 hr2
 have H2:=ah hr2
 obtain ⟨rfl,-⟩:=hr2
 clear x0 x1 x2 x3
 go_wp2
 ((try simp only [Exit.inBlock,Exit.then]);refine bodyPost_ret (results_tmp2 rfl _ _ _) rfl ?_)
 exact kV.of (by decide) HW.o.r HW.o.n (by rw [hX];exact HB.o) H2.o
theorem BQ (x:PW base S h L R hand w) (A B C code:Int) (h':Hp) (hc:∀ w',PW base S h L R hand w'->Calls Tryz.prog 52 #[.pointer (some ⟨R,0,none⟩),.int .i64 A] w' (gG base S L.H w' (.int .i64 code) h')):
 Calls Tryz.prog 35 #[.pointer (some ⟨R,0,none⟩),.agg #[.int .i64 5,.int .i64 A,.int .i64 B,.int .i64 C]] w (kV base S L.H R w 5 code 0 h'):=by
 have HX:=ah (eT w 5 A B C)
 have HB:=ah (aJ w (.cells #[.int .i64 5,.int .i64 A,.int .i64 B,.int .i64 C] 39))
 have HW:=ah (x.low (aJ w (.cells #[.int .i64 5,.int .i64 A,.int .i64 B,.int .i64 C] 39)))
 have HC:=ah (hc _ HW.o)
 clear x hc
 go_enter Tryz.func35,Tryz.ntmps35
 go_upto_region 1 with (fail)
 generalize w.alloc (.cells #[.int .i64 5,.int .i64 A,.int .i64 B,.int .i64 C] 39)=w1 at *
 generalize hX:w.heap.size=X at *
 have x0:w1.cell? ⟨X,0,none⟩=some (.int .i64 5):=HX.o.cell (j:=0) (by omega)
 have x1:w1.cell? ⟨X,1,none⟩=some (.int .i64 A):=HX.o.cell (j:=1) (by omega)
 have x2:w1.cell? ⟨X,2,none⟩=some (.int .i64 B):=HX.o.cell (j:=2) (by omega)
 have x3:w1.cell? ⟨X,3,none⟩=some (.int .i64 C):=HX.o.cell (j:=3) (by omega)
 go_wp2_with fail
 refine HC.o.mono ?_
 intro e2 w2 hr2
 have H2:=ah hr2
 obtain ⟨rfl,-⟩:=hr2
 clear x0 x1 x2 x3
 go_wp2
 ((try simp only [Exit.inBlock,Exit.then]);refine bodyPost_ret (results_tmp2 rfl _ _ _) rfl ?_)
 exact kV.of (by decide) HW.o.r HW.o.n (by rw [hX];exact HB.o) H2.o
theorem CU (x:PW base S h L R hand w) (A B C code:Int) (h':Hp) (hc:∀ w',PW base S h L R hand w'->Calls Tryz.prog 53 #[.pointer (some ⟨R,0,none⟩),.int .i64 A] w' (gG base S L.H w' (.int .i64 code) h')):
 Calls Tryz.prog 35 #[.pointer (some ⟨R,0,none⟩),.agg #[.int .i64 6,.int .i64 A,.int .i64 B,.int .i64 C]] w (kV base S L.H R w 6 code 0 h'):=by
 have HX:=ah (eT w 6 A B C)
 have HB:=ah (aJ w (.cells #[.int .i64 6,.int .i64 A,.int .i64 B,.int .i64 C] 39))
 have HW:=ah (x.low (aJ w (.cells #[.int .i64 6,.int .i64 A,.int .i64 B,.int .i64 C] 39)))
 have HC:=ah (hc _ HW.o)
 clear x hc
 go_enter Tryz.func35,Tryz.ntmps35
 go_upto_region 1 with (fail)
 generalize w.alloc (.cells #[.int .i64 6,.int .i64 A,.int .i64 B,.int .i64 C] 39)=w1 at *
 generalize hX:w.heap.size=X at *
 have x0:w1.cell? ⟨X,0,none⟩=some (.int .i64 6):=HX.o.cell (j:=0) (by omega)
 have x1:w1.cell? ⟨X,1,none⟩=some (.int .i64 A):=HX.o.cell (j:=1) (by omega)
 have x2:w1.cell? ⟨X,2,none⟩=some (.int .i64 B):=HX.o.cell (j:=2) (by omega)
 have x3:w1.cell? ⟨X,3,none⟩=some (.int .i64 C):=HX.o.cell (j:=3) (by omega)
 go_wp2_with fail
 refine HC.o.mono ?_
 intro e2 w2 hr2
 have H2:=ah hr2
 obtain ⟨rfl,-⟩:=hr2
 clear x0 x1 x2 x3
 go_wp2
 ((try simp only [Exit.inBlock,Exit.then]);refine bodyPost_ret (results_tmp2 rfl _ _ _) rfl ?_)
 exact kV.of (by decide) HW.o.r HW.o.n (by rw [hX];exact HB.o) H2.o
theorem CV (x:PW base S h L R hand w) (A B C code:Int) (id:Int) (h':Hp) (hc:∀ w',PW base S h L R hand w'->Calls Tryz.prog 48 #[.pointer (some ⟨R,0,none⟩),.int .i64 A] w' (gG base S L.H w' (.tuple #[.int .i64 id,.int .i64 code]) h')):
 Calls Tryz.prog 35 #[.pointer (some ⟨R,0,none⟩),.agg #[.int .i64 1,.int .i64 A,.int .i64 B,.int .i64 C]] w (kV base S L.H R w 1 code id h'):=by
 have HX:=ah (eT w 1 A B C)
 have HB:=ah (aJ w (.cells #[.int .i64 1,.int .i64 A,.int .i64 B,.int .i64 C] 39))
 have HW:=ah (x.low (aJ w (.cells #[.int .i64 1,.int .i64 A,.int .i64 B,.int .i64 C] 39)))
 have HC:=ah (hc _ HW.o)
 clear x hc
 go_enter Tryz.func35,Tryz.ntmps35
 go_upto_region 1 with (fail)
 generalize w.alloc (.cells #[.int .i64 1,.int .i64 A,.int .i64 B,.int .i64 C] 39)=w1 at *
 generalize hX:w.heap.size=X at *
 have x0:w1.cell? ⟨X,0,none⟩=some (.int .i64 1):=HX.o.cell (j:=0) (by omega)
 have x1:w1.cell? ⟨X,1,none⟩=some (.int .i64 A):=HX.o.cell (j:=1) (by omega)
 have x2:w1.cell? ⟨X,2,none⟩=some (.int .i64 B):=HX.o.cell (j:=2) (by omega)
 have x3:w1.cell? ⟨X,3,none⟩=some (.int .i64 C):=HX.o.cell (j:=3) (by omega)
 go_wp2_with fail
 refine HC.o.mono ?_
 intro e2 w2 hr2
 have H2:=ah hr2
 obtain ⟨rfl,-⟩:=hr2
 clear x0 x1 x2 x3
 go_wp2
 ((try simp only [Exit.inBlock,Exit.then]);refine bodyPost_ret (results_tmp2 rfl _ _ _) rfl ?_)
 exact kV.of (by decide) HW.o.r HW.o.n (by rw [hX];exact HB.o) H2.o
theorem Dv (x:PW base S h L R hand w) (g:Gd h) (A B C:Int):
 Calls Tryz.prog 35 #[.pointer (some ⟨R,0,none⟩),.agg #[.int .i64 7,.int .i64 A,.int .i64 B,.int .i64 C]] w (kV base S L.H R w 7 0 0 h.full):=by
 have HX:=ah (eT w 7 A B C)
 have HB:=ah (aJ w (.cells #[.int .i64 7,.int .i64 A,.int .i64 B,.int .i64 C] 39))
 have HW:=ah (x.low (aJ w (.cells #[.int .i64 7,.int .i64 A,.int .i64 B,.int .i64 C] 39)))
 have HC:=ah (uN HW.o.p g)
 clear x g
 go_enter Tryz.func35,Tryz.ntmps35
 go_upto_region 1 with (fail)
 generalize w.alloc (.cells #[.int .i64 7,.int .i64 A,.int .i64 B,.int .i64 C] 39)=w1 at *
 generalize hX:w.heap.size=X at *
 have x0:w1.cell? ⟨X,0,none⟩=some (.int .i64 7):=HX.o.cell (j:=0) (by omega)
 have x1:w1.cell? ⟨X,1,none⟩=some (.int .i64 A):=HX.o.cell (j:=1) (by omega)
 have x2:w1.cell? ⟨X,2,none⟩=some (.int .i64 B):=HX.o.cell (j:=2) (by omega)
 have x3:w1.cell? ⟨X,3,none⟩=some (.int .i64 C):=HX.o.cell (j:=3) (by omega)
 have r0:w1.cell? ⟨R,0,none⟩=some (.pointer (some ⟨L.H,0,none⟩)):=HW.o.r.cell (j:=0) (by omega)
 go_wp2_with fail
 refine HC.o.mono ?_
 rintro e2 w2 ⟨rfl,L2,hl2,hp2,hk2⟩
 have H2:=ah (And.intro hl2 (And.intro hp2 hk2))
 clear x0 x1 x2 x3 hl2 hp2 hk2 r0
 go_wp2
 ((try simp only [Exit.inBlock,Exit.then]);refine bodyPost_ret (results_tmp2 rfl _ _ _) rfl ?_)
 exact kV.of (v:=.tuple #[]) (e:=.returned (.tuple #[])) (by decide) HW.o.r HW.o.n (by rw [hX];exact HB.o) ⟨rfl,L2,H2.o.1.H,H2.o.2.1,H2.o.2.2⟩
theorem Dz (x:PW base S h L R hand w) (g:Gd h) (A B C:Int) (code:Int) (id:Nat) (hc0:h.pending=[]->code=4/\id=0) (hc1:∀ gs n,h.pending=gs++[n]->code=0/\id=n):
 Calls Tryz.prog 35 #[.pointer (some ⟨R,0,none⟩),.agg #[.int .i64 8,.int .i64 A,.int .i64 B,.int .i64 C]] w (kV base S L.H R w 8 code (id:Int) h.pop):=by
 have HX:=ah (eT w 8 A B C)
 have HB:=ah (aJ w (.cells #[.int .i64 8,.int .i64 A,.int .i64 B,.int .i64 C] 39))
 have HW:=ah (x.low (aJ w (.cells #[.int .i64 8,.int .i64 A,.int .i64 B,.int .i64 C] 39)))
 have HC:=ah (vg HW.o g)
 have HC0:=ah hc0
 have HC1:=ah hc1
 clear x g hc0 hc1
 rcases List.eq_nil_or_concat h.pending with hp|⟨gs,n,hp⟩
 ·obtain ⟨rfl,rfl⟩:=HC0.o hp
  have HPE:=ah hp
  have HPP:Hq (h.pop=h):=ah (by unfold Hp.pop;rw [hp];show { h with pending:=[] }=h;rw [<-hp])
  clear hp
  go_enter Tryz.func35,Tryz.ntmps35
  go_upto_region 1 with (fail)
  generalize w.alloc (.cells #[.int .i64 8,.int .i64 A,.int .i64 B,.int .i64 C] 39)=w1 at *
  generalize hX:w.heap.size=X at *
  have x0:w1.cell? ⟨X,0,none⟩=some (.int .i64 8):=HX.o.cell (j:=0) (by omega)
  have x1:w1.cell? ⟨X,1,none⟩=some (.int .i64 A):=HX.o.cell (j:=1) (by omega)
  have x2:w1.cell? ⟨X,2,none⟩=some (.int .i64 B):=HX.o.cell (j:=2) (by omega)
  have x3:w1.cell? ⟨X,3,none⟩=some (.int .i64 C):=HX.o.cell (j:=3) (by omega)
  go_wp2_with fail
  refine HC.o.mono ?_
  intro e2 w2 hr2
  obtain ⟨rfl,rfl⟩:=hr2.1 HPE.o
  clear x0 x1 x2 x3 hr2
  go_wp2
  ((try simp only [Exit.inBlock,Exit.then]);refine bodyPost_ret (results_tmp2 rfl _ _ _) rfl ?_)
  rw [HPP.o]
  exact ⟨rfl,L,_,rfl,HW.o.p,HW.o.r,fun _ c=>absurd c (by decide),Keeps.of HB.o (Nat.le_of_eq hX) _⟩
 ·rw [List.concat_eq_append] at hp
  obtain ⟨rfl,rfl⟩:=HC1.o gs n hp
  have HPE:=ah hp
  have HPP:Hq (h.pop={ h with pending:=gs }):=ah (by unfold Hp.pop;rw [hp,List.dropLast_concat])
  clear hp
  go_enter Tryz.func35,Tryz.ntmps35
  go_upto_region 1 with (fail)
  generalize w.alloc (.cells #[.int .i64 8,.int .i64 A,.int .i64 B,.int .i64 C] 39)=w1 at *
  generalize hX:w.heap.size=X at *
  have x0:w1.cell? ⟨X,0,none⟩=some (.int .i64 8):=HX.o.cell (j:=0) (by omega)
  have x1:w1.cell? ⟨X,1,none⟩=some (.int .i64 A):=HX.o.cell (j:=1) (by omega)
  have x2:w1.cell? ⟨X,2,none⟩=some (.int .i64 B):=HX.o.cell (j:=2) (by omega)
  have x3:w1.cell? ⟨X,3,none⟩=some (.int .i64 C):=HX.o.cell (j:=3) (by omega)
  go_wp2_with fail
  refine HC.o.mono ?_
  intro e2 w2 hr2
  have H2:=ah (hr2.2 gs id HPE.o)
  obtain ⟨rfl,-⟩:=H2.o
  clear x0 x1 x2 x3 hr2
  go_wp2
  ((try simp only [Exit.inBlock,Exit.then]);refine bodyPost_ret (results_tmp2 rfl _ _ _) rfl ?_)
  obtain ⟨-,L2,h1,h2,h3⟩:=H2.o
  rw [HPP.o]
  refine ⟨rfl,L2,aG L2.tb (cu id),h1,h2.p,by rw [<-h1];exact h2.r,fun _ _=>by rw [Int.toNat_natCast],(Keeps.of HB.o (Nat.le_of_eq hX) _).trans h3⟩
theorem DL (x:PW base S h L R hand w) (A B C:Int):
 Calls Tryz.prog 35 #[.pointer (some ⟨R,0,none⟩),.agg #[.int .i64 9,.int .i64 A,.int .i64 B,.int .i64 C]] w (kV base S L.H R w 9 0 0 h):=by
 have HX:=ah (eT w 9 A B C)
 have HB:=ah (aJ w (.cells #[.int .i64 9,.int .i64 A,.int .i64 B,.int .i64 C] 39))
 have HW:=ah (x.low (aJ w (.cells #[.int .i64 9,.int .i64 A,.int .i64 B,.int .i64 C] 39)))
 clear x
 go_enter Tryz.func35,Tryz.ntmps35
 go_upto_region 1 with (fail)
 generalize w.alloc (.cells #[.int .i64 9,.int .i64 A,.int .i64 B,.int .i64 C] 39)=w1 at *
 generalize hX:w.heap.size=X at *
 have x0:w1.cell? ⟨X,0,none⟩=some (.int .i64 9):=HX.o.cell (j:=0) (by omega)
 have x1:w1.cell? ⟨X,1,none⟩=some (.int .i64 A):=HX.o.cell (j:=1) (by omega)
 have x2:w1.cell? ⟨X,2,none⟩=some (.int .i64 B):=HX.o.cell (j:=2) (by omega)
 have x3:w1.cell? ⟨X,3,none⟩=some (.int .i64 C):=HX.o.cell (j:=3) (by omega)
 go_wp2
 ((try simp only [Exit.inBlock,Exit.then]);refine bodyPost_ret (results_tmp2 rfl _ _ _) rfl ?_)
 exact ⟨rfl,L,_,rfl,HW.o.p,HW.o.r,fun c=>absurd c (by decide),Keeps.of HB.o (Nat.le_of_eq hX) _⟩
theorem Dc (x:PW base S h L R hand w) (kd A B C:Int) (hk:kd<1∨9<kd):
 Calls Tryz.prog 35 #[.pointer (some ⟨R,0,none⟩),.agg #[.int .i64 kd,.int .i64 A,.int .i64 B,.int .i64 C]] w (kV base S L.H R w kd 1 0 h):=by
 have HX:=ah (eT w kd A B C)
 have HB:=ah (aJ w (.cells #[.int .i64 kd,.int .i64 A,.int .i64 B,.int .i64 C] 39))
 have HW:=ah (x.low (aJ w (.cells #[.int .i64 kd,.int .i64 A,.int .i64 B,.int .i64 C] 39)))
 clear x
 go_enter Tryz.func35,Tryz.ntmps35
 go_upto_region 1 with (fail)
 generalize w.alloc (.cells #[.int .i64 kd,.int .i64 A,.int .i64 B,.int .i64 C] 39)=w1 at *
 generalize hX:w.heap.size=X at *
 have x0:w1.cell? ⟨X,0,none⟩=some (.int .i64 kd):=HX.o.cell (j:=0) (by omega)
 have x1:w1.cell? ⟨X,1,none⟩=some (.int .i64 A):=HX.o.cell (j:=1) (by omega)
 have x2:w1.cell? ⟨X,2,none⟩=some (.int .i64 B):=HX.o.cell (j:=2) (by omega)
 have x3:w1.cell? ⟨X,3,none⟩=some (.int .i64 C):=HX.o.cell (j:=3) (by omega)
 have k1:(kd==1)=false:=by simp;omega
 have k2:(kd==2)=false:=by simp;omega
 have k3:(kd==3)=false:=by simp;omega
 have k4:(kd==4)=false:=by simp;omega
 have k5:(kd==5)=false:=by simp;omega
 have k6:(kd==6)=false:=by simp;omega
 have k7:(kd==7)=false:=by simp;omega
 have k8:(kd==8)=false:=by simp;omega
 have k9:(kd==9)=false:=by simp;omega
 have hk8:Hq (kd≠8):=ah (by omega)
 go_wp2
 ((try simp only [Exit.inBlock,Exit.then]);refine bodyPost_ret (results_tmp2 rfl _ _ _) rfl ?_)
 exact ⟨rfl,L,_,rfl,HW.o.p,HW.o.r,fun c=>absurd c hk8.out,Keeps.of HB.o (Nat.le_of_eq hX) _⟩
theorem wJ (x:PW base S h L R hand w) (A:Int) (hA:A<0∨3<A):
 Calls Tryz.prog 48 #[.pointer (some ⟨R,0,none⟩),.int .i64 A] w (gG base S L.H w (.tuple #[.int .i64 0,.int .i64 2]) h):=by
 have HW:=ah (dY w A 0 3)
 rw [show (decide ((0:Int)<=A)&&decide (A<=3))=false by simp;omega] at HW
 have HP:=ah x.p
 clear x hA
 go_enter Tryz.func48,Tryz.ntmps48
 go_wp2_with fail
 refine HW.o.mono ?_
 rintro e2 w2 ⟨rfl,rfl⟩
 go_wp2
 ((try simp only [Exit.inBlock,Exit.then]);refine bodyPost_ret (results_tmp2 rfl _ _ _) rfl ?_)
 exact gG.same HP.o (Below.refl _ _)
end
section
variable {A C kd:Int} {h:Hp} {hand k:Nat} {r:Rn} {root:List Bool}
theorem Ja.JB {g:Hp} (b:Ja h) (x:jd h g) (hl:g.objs.length=h.objs.length):Ja g:=by
 refine ⟨fun n o ho e he r hr=>?_,fun n o ho e he hs=>?_⟩
 ·obtain ⟨o',h1,h2,h3⟩:=x n o ho
  obtain ⟨j,hj⟩:=List.mem_iff_getElem?.1 he
  obtain ⟨e',h4,h5⟩:=h3 j e hj
  rw [hl]
  refine b.r n o' h1 e' (List.mem_of_getElem? h4) r ?_
  rcases h5 with c|c|c
  ·rw [<-c];exact hr
  ·rw [c] at hr
   simp [bM,bn] at hr
   unfold bM
   rw [List.mem_append]
   left
   exact hr
  ·rw [c] at hr
   simp [bM,bn] at hr
 ·obtain ⟨o',h1,h2,h3⟩:=x n o ho
  obtain ⟨j,hj⟩:=List.mem_iff_getElem?.1 he
  obtain ⟨e',h4,h5⟩:=h3 j e hj
  rcases h5 with c|c|c
  ·rw [c] at hs ⊢;exact b.k n o' h1 e' (List.mem_of_getElem? h4) hs
  ·rw [c] at hs;simp at hs
  ·rw [c] at hs;simp at hs
theorem Ja.cl {g:Hp} (b:Ja h) (x:Cl h g):Ja g:=b.JB x.es x.len
theorem Ja.same {h g:Hp} (b:Ja h) (hob:∀ n,(g.ob n).map Ob.es=(h.ob n).map Ob.es) (hl:g.objs.length=h.objs.length):Ja g:=b.JB (jd.same (fun n o e=>by
 have:=hob n
 rw [e] at this
 cases e2:h.ob n with
 |none=>rw [e2] at this;simp at this
 |some o2=>rw [e2] at this;simp at this;exact ⟨o2,rfl,this.symm⟩)) hl
theorem Ja.new:Ja Hp.new:=by
 have hob:∀ n,Hp.new.ob n=none:=by
  intro n
  simp only [Hp.ob,Hp.new]
  cases n<;>rfl
 exact ⟨fun n o e=>(by rw [hob] at e;cases e),fun n o e=>(by rw [hob] at e;cases e)⟩
theorem Ja.make {h:Hp} (b:Ja h) (m:Nat):Ja (h.make m):=by
 have hl:(h.make m).objs.length=h.objs.length+1:=by show (h.objs++[_]).length=_;simp
 refine ⟨fun n o ho e he r hr=>?_,fun n o ho e he hs=>?_⟩
 ·rw [kL] at ho
  split at ho
  ·simp at ho;rw [<-ho] at he;simp at he
  ·have:=b.r n o ho e he r hr;omega
 ·rw [kL] at ho
  split at ho
  ·simp at ho;rw [<-ho] at he;simp at he
  ·exact b.k n o ho e he hs
theorem Ja.put {h:Hp} (b:Ja h) (n:Nat) {k v:HV} (hs:k.isSome=true) (hk:∀ r∈bn k,r<h.objs.length) (hv:∀ r∈bn v,r<h.objs.length):Ja (h.put n k v):=by
 have key:∀ (es':Ob->List En) (g:Hp),(∀ m,(g.ob m).map Ob.es=if n=m then (h.ob m).map es' else (h.ob m).map Ob.es)->g.objs.length=h.objs.length->(∀ o,h.ob n=some o->∀ e∈es' o,(∀ r∈bM e,r<h.objs.length)/\(e.2.isSome=true->e.1.isSome=true))->Ja g:=by
  intro es' g hg hl he
  have get:∀ m o,g.ob m=some o->∃ o2,h.ob m=some o2/\((n=m/\o.es=es' o2)∨(n≠m/\o.es=o2.es)):=by
   intro m o e
   have:=hg m
   rw [e] at this
   split at this
   ·rename_i c
    cases e2:h.ob m with
    |none=>rw [e2] at this;simp at this
    |some o2=>rw [e2] at this;simp at this;exact ⟨o2,rfl,.inl ⟨c,this⟩⟩
   ·rename_i c
    cases e2:h.ob m with
    |none=>rw [e2] at this;simp at this
    |some o2=>rw [e2] at this;simp at this;exact ⟨o2,rfl,.inr ⟨c,this⟩⟩
  refine ⟨fun m o ho e hm r hr=>?_,fun m o ho e hm hs'=>?_⟩
  ·rw [hl]
   obtain ⟨o2,h1,⟨c,h2⟩|⟨c,h2⟩⟩:=get m o ho
   ·subst c;rw [h2] at hm;exact (he o2 h1 e hm).1 r hr
   ·rw [h2] at hm;exact b.r m o2 h1 e hm r hr
  ·obtain ⟨o2,h1,⟨c,h2⟩|⟨c,h2⟩⟩:=get m o ho
   ·subst c;rw [h2] at hm;exact (he o2 h1 e hm).2 hs'
   ·rw [h2] at hm;exact b.k m o2 h1 e hm hs'
 unfold Hp.put
 split
 ·exact b
 ·rename_i o ho
  split
  ·rename_i i hi
   obtain ⟨e0,he0,hek⟩:=rY hi
   refine key (fun o=>o.es.modify i fun e=>(e.1,v)) _ (fun m=>?_) ((Hp.Ew _ n).1.trans (h.El n _)) (fun o2 ho2 e he=>?_)
   ·unfold Hp.putAt
    rw [jK,Hp.Ed]
    split
    ·cases h.ob m<;>rfl
    ·rfl
   ·rw [ho] at ho2;cases ho2
    obtain ⟨j,hj⟩:=List.mem_iff_getElem?.1 he
    rw [List.getElem?_modify] at hj
    cases hb:o.es[j]? with
    |none=>rw [hb] at hj;simp at hj
    |some e1=>
     rw [hb] at hj
     have hm1:=List.mem_of_getElem? hb
     by_cases c:i=j
     ·simp [c] at hj
      subst hj
      subst c
      rw [he0] at hb
      cases hb
      refine ⟨fun r hr=>?_,fun _=>by show e0.1.isSome=true;rw [hek];exact hs⟩
      rcases List.mem_append.1 hr with d|d
      ·exact b.r n o ho e0 hm1 r (List.mem_append_left _ d)
      ·exact hv r d
     ·simp [c] at hj
      subst hj
      exact ⟨b.r n o ho e1 hm1,b.k n o ho e1 hm1⟩
  ·split
   ·exact b
   ·refine key (fun o=>aI o.es++[(k,v)]) _ (fun m=>?_) ((Hp.Ew _ n).1.trans (h.El n _)) (fun o2 ho2 e he=>?_)
    ·unfold Hp.Er
     rw [jK]
     show ((h.upd n _).ob m).map Ob.es=_
     rw [Hp.Ed]
     split
     ·cases h.ob m<;>rfl
     ·rfl
    ·rw [ho] at ho2;cases ho2
     rcases List.mem_append.1 he with c|c
     ·exact ⟨b.r n o ho e (jI c),b.k n o ho e (jI c)⟩
     ·simp at c
      subst c
      refine ⟨fun r hr=>?_,fun _=>hs⟩
      rcases List.mem_append.1 hr with d|d
      ·exact hk r d
      ·exact hv r d
theorem Ja.act {B:Int} (b:Ja h) (x:FK k h root hand) (hk:k+1<=5000) (hf:h.freed=[]) (hh:aW h hand kd A B C):Ja (eD h root kd A B C).h:=by
 have lt:∀ n,h.Ok n->n<h.objs.length:=fun n hn=>by obtain ⟨o,ho,-⟩:=hn;exact Hp.Es ho
 unfold eD
 by_cases k1:kd=1
 ·subst k1
  rw [if_pos rfl]
  split
  ·exact b
  ·rename_i hA
   have hm:A.toNat<=3:=by omega
   obtain ⟨g1,b1⟩:=x.g.make x.b hk hf hm
   have hlt:(root++[true]).length=root.length+1:=by simp
   obtain ⟨g2,b2⟩:=g1.Eb b1 hk hf (gK x.g.i hm x.l x.o) (by
    have h8:=eZ (root++[true]) 0
    rw [hlt,x.l] at h8
    have h9:=b1.len
    have hmo:(h.make A.toNat).objs.length=h.objs.length+1:=by show (h.objs++[_]).length=_;simp
    omega)
   exact Ja.cl ((b.make A.toNat).same (g:=(h.make A.toNat).Eb (bV 0 (root++[true]))) (fun _=>rfl) rfl) g2.Gb
 rw [if_neg k1]
 by_cases k2:kd=2
 ·subst k2
  rw [if_pos rfl]
  obtain ⟨a1,a2⟩:=aW.two.1 hh
  obtain ⟨c,rfl,hc⟩:=gL x a2
  exact b.put _ rfl (fun r hr=>by simp [bn] at hr) (fun r hr=>lt r (hc r (by simpa using hr)))
 rw [if_neg k2]
 by_cases k3:kd=3
 ·subst k3
  rw [if_pos rfl]
  obtain ⟨a1,a3,a2⟩:=aW.three.1 hh
  obtain ⟨m,rfl,hm⟩:=gL x (.inr a3)
  obtain ⟨c,rfl,hc⟩:=gL x a2
  obtain ⟨m',e1,e2,e3,e4⟩:=a3.ok x
  exact b.put _ (by rw [Int.toNat_natCast,iJ (by omega)];rfl) (fun r hr=>lt r (hm r (by simpa using hr))) (fun r hr=>lt r (hc r (by simpa using hr)))
 rw [if_neg k3]
 by_cases k4:kd=4
 ·subst k4
  rw [if_pos rfl]
  split
  ·exact b
  ·exact b.same (fun _=>rfl) rfl
 rw [if_neg k4]
 by_cases k5:kd=5
 ·subst k5
  rw [if_pos rfl]
  split
  ·exact b
  ·refine b.same (fun m=>?_) (eO h _).1
   show ((h.upd _ fun o=>{ o with fin:=true }).ob m).map _=_
   rw [Hp.Ed]
   split
   ·cases h.ob m<;>rfl
   ·rfl
 rw [if_neg k5]
 by_cases k6:kd=6
 ·subst k6
  rw [if_pos rfl]
  split
  ·exact b
  ·exact b.cl (x.g.Ga (u:=A))
 rw [if_neg k6]
 by_cases k7:kd=7
 ·subst k7
  rw [if_pos rfl]
  exact b.cl x.g.G6
 rw [if_neg k7]
 by_cases k8:kd=8
 ·subst k8
  rw [if_pos rfl]
  exact b.same (fun _=>rfl) rfl
 rw [if_neg k8]
 split<;>exact b
theorem vY (b:Ja r.h) (x:r.Ok k) (hk:k+1<=5000) (kd A B C:Int):Ja (dI r kd A B C).2.h:=by
 unfold dI
 split
 ·rename_i hh
  have h1:=Ja.act (b.same (g:=r.h.forget) (fun _=>rfl) rfl) (x.forget (by omega)) hk rfl (cZ.2 hh)
  simp only
  split<;>exact h1
 ·exact b
end
section
variable {L:PM} {R base hand k:Nat} {S:Nat->Prop} {h:Hp} {root:List Bool} {w:World}
attribute [local go_sem] bD
theorem Ch (x:PW base S h L R hand w) (ok:FK k h root hand) (hk:k+1<=5000) (hf:h.freed=[]) (b:Ja h) (kd A B C:Int) (hB: -9223372036854775808<=B/\B<=9223372036854775807) (hh:aW h hand kd A B C):
 Calls Tryz.prog 35 #[.pointer (some ⟨R,0,none⟩),.agg #[.int .i64 kd,.int .i64 A,.int .i64 B,.int .i64 C]] w (kV base S L.H R w kd (eD h root kd A B C).code (eD h root kd A B C).id (eD h root kd A B C).h):=by
 unfold eD
 by_cases k1:kd=1
 ·subst k1
  rw [if_pos rfl]
  split
  ·rename_i hA
   exact CV x A B C 2 0 h (fun w' x'=>wJ x' A hA)
  ·rename_i hA
   obtain ⟨m,rfl⟩:∃ m:Nat,A=(m:Int):=⟨A.toNat,by omega⟩
   have:=CV x (m:Int) B C 0 (h.objs.length:Int) ((h.make m).Eb (bV 0 (root++[true]))).Fe (fun w' x'=>vO x' ok hk hf b m (by omega))
   simpa using this
 rw [if_neg k1]
 by_cases k2:kd=2
 ·subst k2
  rw [if_pos rfl]
  have hc:=aW.two.1 hh
  exact CJ x A B C 0 _ (fun w' x'=>nC x' ok (by omega) b A B C hB 0 _ (fun _=>⟨rfl,rfl⟩) (fun c=>absurd hc c))
 rw [if_neg k2]
 by_cases k3:kd=3
 ·subst k3
  rw [if_pos rfl]
  have hc:=aW.three.1 hh
  exact Cz x A B C 0 _ (fun w' x'=>mV x' ok (by omega) b A B C 0 _ (fun _=>⟨rfl,rfl⟩) (fun c=>absurd hc c))
 rw [if_neg k3]
 by_cases k4:kd=4
 ·subst k4
  rw [if_pos rfl]
  have hc:=(aW.four (.inl rfl)).1 hh
  split
  ·rename_i hb
   exact BX x A B C 2 _ (fun w' x'=>jm x' ok (by omega) b A B 2 _ (fun _ c=>by omega) (fun _ _=>⟨rfl,rfl⟩) (fun c=>absurd hc c))
  ·rename_i hb
   exact BX x A B C 0 _ (fun w' x'=>jm x' ok (by omega) b A B 0 _ (fun _ _=>⟨rfl,rfl⟩) (fun _ c=>by omega) (fun c=>absurd hc c))
 rw [if_neg k4]
 by_cases k5:kd=5
 ·subst k5
  rw [if_pos rfl]
  have hc:=(aW.four (.inr rfl)).1 hh
  split
  ·rename_i hb
   exact BQ x A B C 4 _ (fun w' x'=>j_ x' ok (by omega) b A 4 _ (fun _ c=>by rw [hb] at c;cases c) (fun _ _=>⟨rfl,rfl⟩) (fun c=>absurd hc c))
  ·rename_i hb
   exact BQ x A B C 0 _ (fun w' x'=>j_ x' ok (by omega) b A 0 _ (fun _ _=>⟨rfl,rfl⟩) (fun _ c=>absurd c hb) (fun c=>absurd hc c))
 rw [if_neg k5]
 by_cases k6:kd=6
 ·subst k6
  rw [if_pos rfl]
  split
  ·rename_i hA
   exact CU x A B C 2 _ (fun w' x'=>by simpa [if_pos hA] using lH x' ok.g A)
  ·rename_i hA
   exact CU x A B C 0 _ (fun w' x'=>by simpa [if_neg hA] using lH x' ok.g A)
 rw [if_neg k6]
 by_cases k7:kd=7
 ·subst k7
  rw [if_pos rfl]
  exact Dv x ok.g A B C
 rw [if_neg k7]
 by_cases k8:kd=8
 ·subst k8
  rw [if_pos rfl]
  exact Dz x ok.g A B C _ _ (fun hp=>by rw [hp];exact ⟨rfl,rfl⟩) (fun gs n hp=>by rw [hp];exact ⟨if_neg (by simp),by simp⟩)
 rw [if_neg k8]
 by_cases k9:kd=9
 ·subst k9
  rw [if_pos rfl]
  exact DL x A B C
 rw [if_neg k9]
 exact Dc x kd A B C (by omega)
theorem Ce (x:PW base S h L R hand w) (ok:FK k h root hand) (hk:k+1<=5000) (b:Ja h) (kd A B C:Int) (hB: -9223372036854775808<=B/\B<=9223372036854775807) (hh:¬ aW h hand kd A B C):
 kd≠8/\Calls Tryz.prog 35 #[.pointer (some ⟨R,0,none⟩),.agg #[.int .i64 kd,.int .i64 A,.int .i64 B,.int .i64 C]] w (kV base S L.H R w kd 3 0 h):=by
 by_cases k2:kd=2
 ·subst k2
  have hc:¬ (dH h hand A/\(C=0∨dH h hand C)):=fun c=>hh (aW.two.2 c)
  exact ⟨by decide,CJ x A B C 3 _ (fun w' x'=>nC x' ok (by omega) b A B C hB 3 _ (fun c=>absurd c hc) (fun _=>⟨rfl,rfl⟩))⟩
 by_cases k3:kd=3
 ·subst k3
  have hc:¬ (dH h hand A/\dH h hand B/\(C=0∨dH h hand C)):=fun c=>hh (aW.three.2 c)
  exact ⟨by decide,Cz x A B C 3 _ (fun w' x'=>mV x' ok (by omega) b A B C 3 _ (fun c=>absurd c hc) (fun _=>⟨rfl,rfl⟩))⟩
 by_cases k4:kd=4
 ·subst k4
  have hc:¬ dH h hand A:=fun c=>hh ((aW.four (.inl rfl)).2 c)
  exact ⟨by decide,BX x A B C 3 _ (fun w' x'=>jm x' ok (by omega) b A B 3 _ (fun c=>absurd c hc) (fun c=>absurd c hc) (fun _=>⟨rfl,rfl⟩))⟩
 by_cases k5:kd=5
 ·subst k5
  have hc:¬ dH h hand A:=fun c=>hh ((aW.four (.inr rfl)).2 c)
  exact ⟨by decide,BQ x A B C 3 _ (fun w' x'=>j_ x' ok (by omega) b A 3 _ (fun c=>absurd c hc) (fun c=>absurd c hc) (fun _=>⟨rfl,rfl⟩))⟩
 exact absurd (aW.rest k2 k3 k4 k5) hh
end
end Go.Proofs.YtedpifhlffcmkaaGreatDoor
