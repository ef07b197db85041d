import Derived.Test.YtlgodacccilabaaGreatDoorQX
import Derived.Test.YtlgodacccilabaaGreatDoorJQL
namespace Go.Proofs.YtlgodacccilabaaGreatDoor
open Go Go.RowKit Go.Shelf
set_option linter.unusedVariables false
def ptrB (b:Nat):Value:=.pointer (some ⟨b,0,none⟩)
theorem ItV.move {w w':World} {S S' fi:Nat} {it:It} {ci:Array Value} (h:ItV w S it fi ci) (hb:∀ b,ptrB b∈ci.toList→w'.heap[b]?=w.heap[b]?∧b≠S'):ItV w' S' it fi ci:=by
 have hr:∀ {C:Nat} {f:Nat→Bool},ClF w C f→ptrB C∈ci.toList→ClF w' C f:=fun h hC=>RowF.same h (hb _ hC).1
 have hc:∀ {L j:Nat} {v:Value},w.cell? ⟨L,j,none⟩=some v→ptrB L∈ci.toList→w'.cell? ⟨L,j,none⟩=some v:=fun h hL=>(World.cell?_of_block (a:=⟨_,_,none⟩) (hb _ hL).1).trans h
 rcases h with ⟨C,hk,hs,h,hC,rfl,rfl⟩|⟨C,hk,hs,h,hC,rfl,rfl⟩|⟨C,hk,hs,h,hC,rfl,rfl⟩|⟨C,L,least,hk,hs,h,hC,hl,hL,hle,rfl,rfl⟩|⟨B,hk,h,hB,rfl,rfl⟩|⟨B,hk,h,hB,rfl,rfl⟩|⟨B,hk,h,hB,rfl,rfl⟩|⟨B,hk,h,hB,rfl,rfl⟩|⟨A,B,hk,h,h',hA,hB,rfl,rfl⟩|⟨C,hk,h,hC,rfl,rfl⟩|⟨hk,rfl,rfl⟩
 ·exact .single C hk hs (hr h (by simp [ptrB])) (hb _ (by simp [ptrB])).2
 ·exact .opt C hk hs (hr h (by simp [ptrB])) (hb _ (by simp [ptrB])).2
 ·exact .short C hk hs (hr h (by simp [ptrB])) (hb _ (by simp [ptrB])).2
 ·exact .long C L least hk hs (hr h (by simp [ptrB])) (hb _ (by simp [ptrB])).2 (hc hl (by simp [ptrB])) (hb _ (by simp [ptrB])).2 hle
 ·exact .place B hk (hc h (by simp [ptrB])) (hb _ (by simp [ptrB])).2
 ·exact .opn B hk (hc h (by simp [ptrB])) (hb _ (by simp [ptrB])).2
 ·exact .shut B hk (hc h (by simp [ptrB])) (hb _ (by simp [ptrB])).2
 ·exact .back B hk (hc h (by simp [ptrB])) (hb _ (by simp [ptrB])).2
 ·exact .pair A B hk (hc h (by simp [ptrB])) (hc h' (by simp [ptrB])) (hb _ (by simp [ptrB])).2 (hb _ (by simp [ptrB])).2
 ·exact .edge C hk (hr h (by simp [ptrB])) (hb _ (by simp [ptrB])).2
 ·exact .fin hk
structure ItP (w:World) (R:Nat) (vi vo vc:Value) (it:It) (fi:Nat) (ci:Array Value):Prop where
 v:ItV w R it fi ci
 p:∀ b,ptrB b∈ci.toList→b<w.heap.size∧b≠R∧vi.ownBlock≠some b∧vo.ownBlock≠some b∧vc.ownBlock≠some b
theorem ItP.move {w w':World} {R:Nat} {vi vo vc vi' vo' vc':Value} {it:It} {fi:Nat} {ci:Array Value} {S:Nat→Prop} (h:ItP w R vi vo vc it fi ci) (k:Keeps w w' S) (hS:∀ b,S b→b=R∨vi.ownBlock=some b∨vo.ownBlock=some b∨vc.ownBlock=some b)
 (h1:∀ b,b<w.heap.size→vi.ownBlock≠some b→vi'.ownBlock≠some b) (h2:∀ b,b<w.heap.size→vo.ownBlock≠some b→vo'.ownBlock≠some b) (h3:∀ b,b<w.heap.size→vc.ownBlock≠some b→vc'.ownBlock≠some b):ItP w' R vi' vo' vc' it fi ci:=by
 refine ⟨h.v.move (fun b hb=>?_),fun b hb=>?_⟩
 ·obtain ⟨a1,a2,a3,a4,a5⟩:=h.p b hb
  exact ⟨k.block b a1 (fun x=>(hS b x).elim a2 (fun e=>e.elim a3 (fun e=>e.elim a4 a5))),a2⟩
 ·obtain ⟨a1,a2,a3,a4,a5⟩:=h.p b hb
  exact ⟨Nat.lt_of_lt_of_le a1 k.size,a2,h1 b a1 a3,h2 b a1 a4,h3 b a1 a5⟩
abbrev Iu:=It × Nat × Array Value
def fnC (us:List Iu):List Value:=us.map fun u=>.func (.func u.2.1) #[] u.2.2
theorem PR.setI {w:World} {R:Nat} {rest:ByteArray} {vi vo vc:Value} (h:PR w R rest vi vo vc) (v:Value):PR (w.setCell ⟨R,1,none⟩ v) R rest v vo vc:=by
 refine (RowF.set h (j:=1) (by omega) v).congr fun j hj=>?_
 rcases j with _|_|_|_|j<;>simp [rdF]
theorem PR.setO {w:World} {R:Nat} {rest:ByteArray} {vi vo vc:Value} (h:PR w R rest vi vo vc) (v:Value):PR (w.setCell ⟨R,2,none⟩ v) R rest vi v vc:=by
 refine (RowF.set h (j:=2) (by omega) v).congr fun j hj=>?_
 rcases j with _|_|_|_|j<;>simp [rdF]
theorem PR.setC {w:World} {R:Nat} {rest:ByteArray} {vi vo vc:Value} (h:PR w R rest vi vo vc) (v:Value):PR (w.setCell ⟨R,3,none⟩ v) R rest vi vo v:=by
 refine (RowF.set h (j:=3) (by omega) v).congr fun j hj=>?_
 rcases j with _|_|_|_|j<;>simp [rdF]
 omega
structure RI (w:World) (R:Nat) (p:ByteArray) (pos:Nat) (us:List Iu) (opn:List Nat) (done:List Bool) (vi vo vc:Value):Prop where
 q:PQ w R p pos vi vo vc
 i:w.ownsRow (R+1) 97 1 vi us.length (fnC us)
 n:w.ownsRow (R+1) 3 1 vo opn.length (opC opn)
 d:w.ownsRow (R+1) 4 1 vc done.length (boC done)
 s:∀ u∈us,ItP w R vi vo vc u.1 u.2.1 u.2.2
section
variable {w w' : World} {R : Nat} {p : ByteArray} {pos : Nat} {us : List Iu} {opn : List Nat} {done : List Bool} {vi vo vc : Value}
theorem RI.keepR (h:RI w R p pos us opn done vi vo vc) (k:Keeps w w' (fun b=>b=R)) {pos':Nat} (hq:PQ w' R p pos' vi vo vc):RI w' R p pos' us opn done vi vo vc:=
 ⟨hq,owns_keep h.i k (by omega),owns_keep h.n k (by omega),owns_keep h.d k (by omega),fun u hu=>(h.s u hu).move k (fun b e=>.inl e) (fun _ _ x=>x) (fun _ _ x=>x) (fun _ _ x=>x)⟩
theorem RI.keep (h:RI w R p pos us opn done vi vo vc) (k:Keeps w w' (fun _=>False)):RI w' R p pos us opn done vi vo vc:=h.keepR (k.mono (fun _ x=>x.elim)) (h.q.keep k (fun x=>x))
theorem RI.app_i {w5:World} {v':Value} (h:RI w R p pos us opn done vi vo vc) (u:Iu) (hu:ItP w R vi vo vc u.1 u.2.1 u.2.2)
 (h1:w5.ownsRow (R+1) 97 1 v' (us.length+1) (fnC us++[.func (.func u.2.1) #[] u.2.2])) (h2:∀ B w0,Below B w0 w→B≤R+1→Below B w0 w5) (h3:∀ gx,gx<w.heap.size→vi.ownBlock≠some gx→w5.heap[gx]?=w.heap[gx]?)
 (h4:∀ gx,gx<w.heap.size→vi.ownBlock≠some gx→v'.ownBlock≠some gx):
 RI (w5.setCell ⟨R,1,none⟩ v') R p pos (us++[u]) opn done v' vo vc:=by
 have hb:Below (R+1) w w5:=h2 _ _ (Below.refl _ _) (Nat.le_refl _)
 have k5:Keeps w w5 (fun b=>vi.ownBlock=some b):=⟨hb.os,hb.tape,hb.output,hb.size,h3⟩
 have k:Keeps w5 (w5.setCell ⟨R,1,none⟩ v') (fun b=>b=R):=(Keeps.refl w5 (fun b=>b=R)).setCell (S:=fun b=>b=R) (j:=1) rfl v'
 have kk:Keeps w (w5.setCell ⟨R,1,none⟩ v') (fun b=>b=R∨vi.ownBlock=some b):=(k5.mono (fun b x=>.inr x)).trans (k.mono (fun b x=>.inl x))
 have hb5:PR w5 R (p.extract pos p.size) vi vo vc:=RowF.low h.q.2 hb (by omega)
 have hs:∀ u9:Iu,ItP w R vi vo vc u9.1 u9.2.1 u9.2.2→ItP (w5.setCell ⟨R,1,none⟩ v') R v' vo vc u9.1 u9.2.1 u9.2.2:=fun u9 h9=>h9.move kk (fun b x=>x.elim .inl (fun e=>.inr (.inl e))) h4 (fun _ _ x=>x) (fun _ _ x=>x)
 refine ⟨⟨h.q.1,hb5.setI v'⟩,?_,owns_keep (owns_stay h.n (fun g hg=>h3 g (owns_blt h.n hg).2 (owns_apart h.n h.i (by decide) hg))) k (by omega),owns_keep (owns_stay h.d (fun g hg=>h3 g (owns_blt h.d hg).2 (owns_apart h.d h.i (by decide) hg))) k (by omega),?_⟩
 ·rw [List.length_append,List.length_singleton,show fnC (us++[u])=fnC us++[.func (.func u.2.1) #[] u.2.2] by simp [fnC]]
  exact owns_keep h1 k (by omega)
 ·intro u9 h9
  rcases List.mem_append.1 h9 with h9|h9
  ·exact hs u9 (h.s u9 h9)
  ·rw [List.mem_singleton.1 h9];exact hs u hu
theorem RI.app_n {w5:World} {v':Value} (h:RI w R p pos us opn done vi vo vc) (x:Nat)
 (h1:w5.ownsRow (R+1) 3 1 v' (opn.length+1) (opC opn++[.int .i64 x])) (h2:∀ B w0,Below B w0 w→B≤R+1→Below B w0 w5) (h3:∀ gx,gx<w.heap.size→vo.ownBlock≠some gx→w5.heap[gx]?=w.heap[gx]?)
 (h4:∀ gx,gx<w.heap.size→vo.ownBlock≠some gx→v'.ownBlock≠some gx):
 RI (w5.setCell ⟨R,2,none⟩ v') R p pos us (opn++[x]) done vi v' vc:=by
 have hb:Below (R+1) w w5:=h2 _ _ (Below.refl _ _) (Nat.le_refl _)
 have k5:Keeps w w5 (fun b=>vo.ownBlock=some b):=⟨hb.os,hb.tape,hb.output,hb.size,h3⟩
 have k:Keeps w5 (w5.setCell ⟨R,2,none⟩ v') (fun b=>b=R):=(Keeps.refl w5 (fun b=>b=R)).setCell (S:=fun b=>b=R) (j:=2) rfl v'
 have kk:Keeps w (w5.setCell ⟨R,2,none⟩ v') (fun b=>b=R∨vo.ownBlock=some b):=(k5.mono (fun b x=>.inr x)).trans (k.mono (fun b x=>.inl x))
 have hb5:PR w5 R (p.extract pos p.size) vi vo vc:=RowF.low h.q.2 hb (by omega)
 refine ⟨⟨h.q.1,hb5.setO v'⟩,owns_keep (owns_stay h.i (fun g hg=>h3 g (owns_blt h.i hg).2 (owns_apart h.i h.n (by decide) hg))) k (by omega),?_,owns_keep (owns_stay h.d (fun g hg=>h3 g (owns_blt h.d hg).2 (owns_apart h.d h.n (by decide) hg))) k (by omega),
  fun u hu=>(h.s u hu).move kk (fun b x=>x.elim .inl (fun e=>.inr (.inr (.inl e)))) (fun _ _ x=>x) h4 (fun _ _ x=>x)⟩
 rw [List.length_append,List.length_singleton,show opC (opn++[x])=opC opn++[.int .i64 x] by simp [opC]]
 exact owns_keep h1 k (by omega)
theorem RI.app_d {w5:World} {v':Value} (h:RI w R p pos us opn done vi vo vc) (x:Bool)
 (h1:w5.ownsRow (R+1) 4 1 v' (done.length+1) (boC done++[.bool x])) (h2:∀ B w0,Below B w0 w→B≤R+1→Below B w0 w5) (h3:∀ gx,gx<w.heap.size→vc.ownBlock≠some gx→w5.heap[gx]?=w.heap[gx]?)
 (h4:∀ gx,gx<w.heap.size→vc.ownBlock≠some gx→v'.ownBlock≠some gx):
 RI (w5.setCell ⟨R,3,none⟩ v') R p pos us opn (done++[x]) vi vo v':=by
 have hb:Below (R+1) w w5:=h2 _ _ (Below.refl _ _) (Nat.le_refl _)
 have k5:Keeps w w5 (fun b=>vc.ownBlock=some b):=⟨hb.os,hb.tape,hb.output,hb.size,h3⟩
 have k:Keeps w5 (w5.setCell ⟨R,3,none⟩ v') (fun b=>b=R):=(Keeps.refl w5 (fun b=>b=R)).setCell (S:=fun b=>b=R) (j:=3) rfl v'
 have kk:Keeps w (w5.setCell ⟨R,3,none⟩ v') (fun b=>b=R∨vc.ownBlock=some b):=(k5.mono (fun b x=>.inr x)).trans (k.mono (fun b x=>.inl x))
 have hb5:PR w5 R (p.extract pos p.size) vi vo vc:=RowF.low h.q.2 hb (by omega)
 refine ⟨⟨h.q.1,hb5.setC v'⟩,owns_keep (owns_stay h.i (fun g hg=>h3 g (owns_blt h.i hg).2 (owns_apart h.i h.d (by decide) hg))) k (by omega),owns_keep (owns_stay h.n (fun g hg=>h3 g (owns_blt h.n hg).2 (owns_apart h.n h.d (by decide) hg))) k (by omega),?_,
  fun u hu=>(h.s u hu).move kk (fun b x=>x.elim .inl (fun e=>.inr (.inr (.inr e)))) (fun _ _ x=>x) (fun _ _ x=>x) h4⟩
 rw [List.length_append,List.length_singleton,show boC (done++[x])=boC done++[.bool x] by simp [boC]]
 exact owns_keep h1 k (by omega)
theorem RI.set_d {g j:Nat} (h:RI w R p pos us opn done vi vo vc) (hv:vc.ownBlock=some g) (hj:j<done.length):RI (w.setCell ⟨g,j,none⟩ (.bool true)) R p pos us opn (done.set j true) vi vo vc:=by
 have k:Keeps w (w.setCell ⟨g,j,none⟩ (.bool true)) (fun b=>b=g):=(Keeps.refl w (fun b=>b=g)).setCell (S:=fun b=>b=g) (j:=j) rfl _
 have hR:=owns_blt h.d hv
 refine ⟨h.q.keep k (by omega),owns_stay h.i (fun b hb=>k.block b (owns_blt h.i hb).2 (fun e=>owns_apart h.i h.d (by decide) hb (by rw [e];exact hv))),owns_stay h.n (fun b hb=>k.block b (owns_blt h.n hb).2 (fun e=>owns_apart h.n h.d (by decide) hb (by rw [e];exact hv))),?_,
  fun u hu=>(h.s u hu).move k (fun b x=>.inr (.inr (.inr (by rw [x];exact hv)))) (fun _ _ x=>x) (fun _ _ x=>x) (fun _ _ x=>x)⟩
 have hd:=h.d
 obtain ⟨h1,⟨rfl,h2⟩|⟨g',cap,cur,rfl,hb,hg,hnc,hcm,hcs,htake⟩⟩:=hd
 ·simp [Value.ownBlock] at hv
 ·have e:g'=g:=by simpa [Value.ownBlock] using hv
  subst e
  refine ⟨by simp [boC],.inr ⟨g',cap,_,by simp,hb,heap_setCell_same w g' j _ _ _ hg,by simpa using hnc,hcm,by simpa using hcs,?_⟩⟩
  simp only [List.length_set,Nat.mul_one] at htake ⊢
  rw [boC,List.map_set,←boC,←htake]
  simp [List.take_set]
theorem RI.cut {a:Option Addr} {cap:Nat} (h:RI w R p pos us opn done vi (.slice a opn.length cap) vc) (hn:opn≠[]):RI (w.setCell ⟨R,2,none⟩ (.slice a (opn.length-1) cap)) R p pos us opn.dropLast done vi (.slice a (opn.length-1) cap) vc:=by
 have k:Keeps w (w.setCell ⟨R,2,none⟩ (.slice a (opn.length-1) cap)) (fun b=>b=R):=(Keeps.refl w (fun b=>b=R)).setCell (S:=fun b=>b=R) (j:=2) rfl _
 refine ⟨⟨h.q.1,h.q.2.setO _⟩,owns_keep h.i k (by omega),?_,owns_keep h.d k (by omega),fun u hu=>(h.s u hu).move k (fun b x=>.inl x) (fun _ _ x=>x) (fun b _ x=>by cases a with |none=>simp [Value.ownBlock]|some ad=>exact x) (fun _ _ x=>x)⟩
 have hd:=owns_keep h.n k (by omega)
 have hl:opn.length≠0:=fun e=>hn (List.length_eq_zero_iff.1 e)
 obtain ⟨h1,⟨h0,h2⟩|⟨g',cap',cur,h0,hb,hg,hnc,hcm,hcs,htake⟩⟩:=hd
 ·omega
 ·simp only [Value.slice.injEq,true_and] at h0
  obtain ⟨rfl,rfl⟩:=h0
  refine ⟨by simp [opC],.inr ⟨g',cap,cur,by simp,hb,hg,by simp;omega,hcm,hcs,?_⟩⟩
  simp only [List.length_dropLast,Nat.mul_one] at htake ⊢
  have hlen:=congrArg List.length htake
  rw [opC,List.map_dropLast,←opC,←htake,List.dropLast_eq_take,List.take_take,hlen]
  simp only [opC,List.length_map]
  rw [Nat.min_eq_left (by omega)]
theorem RI.fresh {w0:World} {it:It} {fi:Nat} {ci:Array Value} (h:RI w0 R p pos us opn done vi vo vc) (hv:ItV w' R it fi ci) (hp:∀ b,ptrB b∈ci.toList→w0.heap.size≤b∧b<w'.heap.size):ItP w' R vi vo vc it fi ci:=by
 have hR:R<w0.heap.size:=RowF.lt h.q.2
 exact ⟨hv,fun b hb=>⟨(hp b hb).2,by have:=(hp b hb).1;omega,fun e=>by have:=(owns_blt h.i e).2;have:=(hp b hb).1;omega,fun e=>by have:=(owns_blt h.n e).2;have:=(hp b hb).1;omega,fun e=>by have:=(owns_blt h.d e).2;have:=(hp b hb).1;omega⟩⟩
end
end Go.Proofs.YtlgodacccilabaaGreatDoor
namespace Go.Proofs.YtlgodacccilabaaGreatDoor
open Go Go.RowKit Go.Shelf
set_option linter.unusedVariables false
theorem rdOne_dot {p:ByteArray} {pos:Nat} (h:hb p pos=46):rdOne p pos=some (fun _=>true,pos+1):=by unfold rdOne;rw [if_neg (by rw [h];decide),if_pos h]
theorem rdOne_esc {p:ByteArray} {pos:Nat} (h:hb p pos=37):rdOne p pos=escM p (pos+1):=by unfold rdOne escM;rw [if_neg (by rw [h];decide),if_neg (by rw [h];decide),if_pos h]
theorem rdOne_set {p:ByteArray} {pos:Nat} (h:hb p pos=91):rdOne p pos=stM p (pos+1):=by unfold rdOne;rw [if_pos h];rfl
theorem rdOne_else {p:ByteArray} {pos:Nat} (h1:¬ hb p pos=46) (h2:¬ hb p pos=37) (h3:¬ hb p pos=91):rdOne p pos=some (fun c:Nat=>decide ((c:Int)=hb p pos),pos+1):=by unfold rdOne;rw [if_neg h3,if_neg h1,if_neg h2]
set_option maxHeartbeats 1600000 in
set_option maxRecDepth 100000 in
theorem psingle_any (R:Nat) (p:ByteArray) (pos:Nat) (vi vo vc:Value) (w:World) (hps:p.size≤1000) (hl:LtT w) (hR:1<R) (hs:pos<p.size) (h:PQ w R p pos vi vo vc):
 Calls Tryz.prog 74 #[.pointer (some ⟨R,0,none⟩)] w fun e w'=>ClO w' R p vi vo vc e (rdOne p pos)∧Keeps w w' (fun b=>b=R):=by
 have hRl:R<w.heap.size:=RowF.lt h.2
 have hz:=zero_cl
 obtain ⟨z,hze⟩:∃ z,clC (fun _=>false)=z:=⟨_,rfl⟩
 rw [hze] at hz
 have hA:=clC_row (f:=fun _=>false) (w:=w.alloc (.cells z 136)) (g:=w.heap.size) (by rw [hze];exact heap_alloc_new w _)
 have hk0:Keeps w (w.alloc (.cells z 136)) (fun b=>b=R):=Keeps.of (b_1 w _) (Nat.le_refl _) _
 have hq0:PQ (w.alloc (.cells z 136)) R p pos vi vo vc:=h.keep (Keeps.of (b_1 w (.cells z 136)) (Nat.le_refl _) (fun _=>False)) (fun x=>x)
 have hl0:=hl.low (b_1 w (.cells z 136)) (by omega)
 have hzs:z.size=256:=by rw [←hze];exact clC_size _
 have HZ:=hide hze
 have hsz:(w.alloc (.cells z 136)).heap.size=w.heap.size+1:=by simp
 have H0:=hide (And.intro hA (And.intro hk0 (And.intro hq0 (And.intro hl0 hsz))))
 clear h hl hA hk0 hq0 hl0 hze hsz
 go_enter Tryz.func74,Tryz.ntmps74
 go_upto_region 1 with fail
 generalize w.alloc (.cells z 136)=w0 at H0 ⊢
 go_wp2_with fail
 refine (takeByte_q R p pos vi vo vc w0 hs hps H0.out.2.2.1).mono ?_
 rintro e w1 ⟨rfl,hq1,hk1⟩
 have H1:=hide (And.intro hq1 (And.intro hk1 (And.intro (H0.out.2.2.2.1.keep hk1 (by rw [H0.out.2.2.2.2];omega) (by omega)) (RowF.keep H0.out.1 hk1 (by omega)))))
 clear hq1 hk1
 have HRg:=hide (hb_rng p pos)
 by_cases h46:hb p pos=46
 ·have HV:=hide (rdOne_dot h46)
  go_wp2_with fail
  refine (turnedOver_any (fun _=>false) z HZ.out.symm w1).mono ?_
  rintro e w2 ⟨rfl,hb2⟩
  have HB:=hide hb2
  clear hb2
  obtain ⟨q,hqe⟩:∃ q,clC (fun j=>!(fun _=>false) j)=q:=⟨_,rfl⟩
  have hcl:=RowF.low H1.out.2.2.2 HB.out (RowF.lt H1.out.2.2.2)
  have hst:=sc_cl hcl hqe
  have hqs:q.size=256:=by rw [←hqe];exact clC_size _
  rw [hqe]
  have HE:=hide (And.intro hqe (And.intro hcl ((H0.out.2.1.trans H1.out.2.1).trans (Keeps.of HB.out (Nat.le_refl _) _))))
  clear hqe hcl
  go_wp2_with fail
  refine bodyPost_ret (cl_end rfl _ _ true rfl rfl HE.out.2.1 HE.out.1) rfl ⟨?_,keeps_setCells _ 0 _ (Nat.le_refl _) HE.out.2.2⟩
  rw [HV.out]
  exact ⟨rfl,pq_setCells (H1.out.1.keep (Keeps.of HB.out (Nat.le_refl _) (fun _=>False)) (fun x=>x)) _ (by omega) _⟩
 ·by_cases h37:hb p pos=37
  ·have HV:=hide (rdOne_esc h37)
   go_wp2_with fail
   refine (escaped_any R p (pos+1) vi vo vc w1 hps H1.out.2.2.1 hR H1.out.1).mono ?_
   rintro e w2 ⟨ho,hk2⟩
   have HK2:=hide hk2
   clear hk2
   cases hm:escM p (pos+1) with
   |none=>
    rw [hm] at ho
    obtain ⟨f,rfl⟩:=ho
    have HM:=hide hm
    clear hm
    obtain ⟨q,hqe⟩:∃ q,clC f=q:=⟨_,rfl⟩
    have hcl:=RowF.keep H1.out.2.2.2 HK2.out (by omega)
    have hst:=sc_cl hcl hqe
    have hqs:q.size=256:=by rw [←hqe];exact clC_size _
    rw [hqe]
    have HE:=hide (And.intro hqe (And.intro hcl ((H0.out.2.1.trans H1.out.2.1).trans HK2.out)))
    clear hqe hcl
    go_wp2_with fail
    refine bodyPost_ret (cl_end rfl _ _ false rfl rfl HE.out.2.1 HE.out.1) rfl ⟨?_,keeps_setCells _ 0 _ (Nat.le_refl _) HE.out.2.2⟩
    rw [HV.out,HM.out]
    exact ⟨_,rfl⟩
   |some r=>
    obtain ⟨g,pos'⟩:=r
    rw [hm] at ho
    obtain ⟨rfl,hq2⟩:=ho
    have HM:=hide (And.intro hm hq2)
    clear hm hq2
    obtain ⟨q,hqe⟩:∃ q,clC g=q:=⟨_,rfl⟩
    have hcl:=RowF.keep H1.out.2.2.2 HK2.out (by omega)
    have hst:=sc_cl hcl hqe
    have hqs:q.size=256:=by rw [←hqe];exact clC_size _
    rw [hqe]
    have HE:=hide (And.intro hqe (And.intro hcl ((H0.out.2.1.trans H1.out.2.1).trans HK2.out)))
    clear hqe hcl
    go_wp2_with fail
    refine bodyPost_ret (cl_end rfl _ _ true rfl rfl HE.out.2.1 HE.out.1) rfl ⟨?_,keeps_setCells _ 0 _ (Nat.le_refl _) HE.out.2.2⟩
    rw [HV.out,HM.out.1]
    exact ⟨rfl,pq_setCells HM.out.2 _ (by omega) _⟩
  ·by_cases h91:hb p pos=91
   ·have HV:=hide (rdOne_set h91)
    go_wp2_with fail
    refine (pset_any R p (pos+1) vi vo vc w1 hps H1.out.2.2.1 hR H1.out.1).mono ?_
    rintro e w2 ⟨ho,hk2⟩
    have HK2:=hide hk2
    clear hk2
    cases hm:stM p (pos+1) with
    |none=>
     rw [hm] at ho
     obtain ⟨f,rfl⟩:=ho
     have HM:=hide hm
     clear hm
     obtain ⟨q,hqe⟩:∃ q,clC f=q:=⟨_,rfl⟩
     have hcl:=RowF.keep H1.out.2.2.2 HK2.out (by omega)
     have hst:=sc_cl hcl hqe
     have hqs:q.size=256:=by rw [←hqe];exact clC_size _
     rw [hqe]
     have HE:=hide (And.intro hqe (And.intro hcl ((H0.out.2.1.trans H1.out.2.1).trans HK2.out)))
     clear hqe hcl
     go_wp2_with fail
     refine bodyPost_ret (cl_end rfl _ _ false rfl rfl HE.out.2.1 HE.out.1) rfl ⟨?_,keeps_setCells _ 0 _ (Nat.le_refl _) HE.out.2.2⟩
     rw [HV.out,HM.out]
     exact ⟨_,rfl⟩
    |some r=>
     obtain ⟨g,pos'⟩:=r
     rw [hm] at ho
     obtain ⟨rfl,hq2⟩:=ho
     have HM:=hide (And.intro hm hq2)
     clear hm hq2
     obtain ⟨q,hqe⟩:∃ q,clC g=q:=⟨_,rfl⟩
     have hcl:=RowF.keep H1.out.2.2.2 HK2.out (by omega)
     have hst:=sc_cl hcl hqe
     have hqs:q.size=256:=by rw [←hqe];exact clC_size _
     rw [hqe]
     have HE:=hide (And.intro hqe (And.intro hcl ((H0.out.2.1.trans H1.out.2.1).trans HK2.out)))
     clear hqe hcl
     go_wp2_with fail
     refine bodyPost_ret (cl_end rfl _ _ true rfl rfl HE.out.2.1 HE.out.1) rfl ⟨?_,keeps_setCells _ 0 _ (Nat.le_refl _) HE.out.2.2⟩
     rw [HV.out,HM.out.1]
     exact ⟨rfl,pq_setCells HM.out.2 _ (by omega) _⟩
   ·have HV:=hide (rdOne_else h46 h37 h91)
    go_wp2_with fail
    refine (between_any (hb p pos).toNat (hb p pos).toNat (hb p pos) (hb p pos) (by have:=HRg.out;omega) (by have:=HRg.out;omega) (by have:=HRg.out;omega) (by have:=HRg.out;omega) w1).mono ?_
    rintro e w2 ⟨rfl,hb2⟩
    have HB:=hide hb2
    clear hb2
    obtain ⟨q,hqe⟩:∃ q,clC (btw (hb p pos).toNat (hb p pos).toNat)=q:=⟨_,rfl⟩
    have hcl:=RowF.low H1.out.2.2.2 HB.out (RowF.lt H1.out.2.2.2)
    have hst:=sc_cl hcl hqe
    have hqs:q.size=256:=by rw [←hqe];exact clC_size _
    rw [hqe]
    have HE:=hide (And.intro hqe (And.intro hcl ((H0.out.2.1.trans H1.out.2.1).trans (Keeps.of HB.out (Nat.le_refl _) _))))
    clear hqe hcl
    go_wp2_with fail
    refine bodyPost_ret (cl_end rfl _ _ true rfl rfl HE.out.2.1 HE.out.1) rfl ⟨?_,keeps_setCells _ 0 _ (Nat.le_refl _) HE.out.2.2⟩
    rw [HV.out]
    exact ⟨by rw [btw_one _ HRg.out.1],pq_setCells (H1.out.1.keep (Keeps.of HB.out (Nat.le_refl _) (fun _=>False)) (fun x=>x)) _ (by omega) _⟩
end Go.Proofs.YtlgodacccilabaaGreatDoor
