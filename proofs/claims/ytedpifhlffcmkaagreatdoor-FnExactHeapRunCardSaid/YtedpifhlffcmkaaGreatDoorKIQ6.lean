import Derived.Test.YtedpifhlffcmkaaGreatDoorKHXB
import Derived.Test.YtedpifhlffcmkaaGreatDoorRows
import Derived.Test.YtedpifhlffcmkaaGreatDoorCards
import Derived.Lay
import Derived.SevenTiedAt
namespace Go.Proofs.YtedpifhlffcmkaaGreatDoor
open Go Go.RowKit
set_option maxHeartbeats 6400000
set_option maxRecDepth 100000
set_option linter.unusedVariables false
def oW (X:Nat):SM:=⟨X+2,.slice (some ⟨X+1,0,none⟩) 1 1,fun _=>X,fun _=>.slice none 0 0,fun _=>.slice none 0 0,.slice none 0 0⟩
theorem jW (n:Nat):Hp.new.ob n=none:=by
 simp only [Hp.ob,Hp.new]
 cases n<;>rfl
def kJ:Array Value:=#[.int .i64 0,.int .i64 0,.bool true,.int .i64 0,.int .i64 0,.slice none 0 0,.slice none 0 0,.int .i64 0,.int .i64 0,.slice none 0 0,.pointer none,.int .i64 0,.int .i64 0,.int .u64 0,.string { data:=#[] },.int .i64 0,.int .i64 0,.int .i64 0,.int .i64 0,.pointer none,.pointer none,.int .i64 0,.bool false,.pointer none,.pointer none]
def sJ (X:Nat):Array Value:=#[.slice (some ⟨X+1,0,none⟩) 1 1,.int .i64 0,.int .i64 0,.int .i64 4096,.int .i64 0,.int .i64 0,.int .i64 0,.slice none 0 0,.slice none 0 0,.slice none 0 0,.slice none 0 0,.slice none 0 0,.slice none 0 0,.slice none 0 0,.int .i64 0,.slice none 0 0,.bool false,.int .i64 64]
theorem zU (w:World):JU w.heap.size (fun b=>w.heap.size<=b) Hp.new (oW w.heap.size) (((w.alloc (.cells kJ 101)).alloc (.cells #[.pointer (some ⟨w.heap.size,0,none⟩)] 90)).alloc (.cells (sJ w.heap.size) 105)):=by
 have e1:(w.alloc (.cells kJ 101)).heap.size=w.heap.size+1:=Array.size_push _
 have e2:((w.alloc (.cells kJ 101)).alloc (.cells #[.pointer (some ⟨w.heap.size,0,none⟩)] 90)).heap.size=w.heap.size+2:=by rw [show ((w.alloc (.cells kJ 101)).alloc (.cells #[.pointer (some ⟨w.heap.size,0,none⟩)] 90)).heap.size=_ from Array.size_push _,e1]
 have r0:=aD.mk' w 101 kJ
 have r1:=heap_alloc_new (w.alloc (.cells kJ 101)) (.cells #[.pointer (some ⟨w.heap.size,0,none⟩)] 90)
 have r2:=aD.mk' ((w.alloc (.cells kJ 101)).alloc (.cells #[.pointer (some ⟨w.heap.size,0,none⟩)] 90)) 105 (sJ w.heap.size)
 rw [e2] at r2
 rw [e1] at r1
 have b2:=aJ ((w.alloc (.cells kJ 101)).alloc (.cells #[.pointer (some ⟨w.heap.size,0,none⟩)] 90)) (.cells (sJ w.heap.size) 105)
 have b1:=aJ (w.alloc (.cells kJ 101)) (.cells #[.pointer (some ⟨w.heap.size,0,none⟩)] 90)
 have b12:=b1.trans (b2.mono (by rw [e1,e2];omega))
 have r0':=r0.low b12 (by rw [e1];omega)
 have r1':=(b2.block (w.heap.size+1) (by rw [e2];omega)).trans r1
 have hs3:=b12.size
 refine ⟨?_,?_,fun n o e=>?_,fun n hn e=>?_,fun n o e=>?_,fun k hk=>?_,⟨rfl,.inl ⟨rfl,rfl⟩⟩,fun n m hn hm e=>?_,fun n m o o' g e=>?_,fun k k' g hk hk' e=>?_,?_,fun n hn=>?_,?_,?_,fun n hn=>?_,fun g e=>?_,fun n o g e=>?_,fun k g hk e=>?_,fun g e=>?_,fun b hb=>?_⟩
 ·exact aD.congr (show aD _ _ _ 18 _ from r2) (bg _ rfl rfl rfl rfl rfl rfl rfl rfl rfl rfl rfl rfl rfl rfl rfl rfl rfl rfl)
 ·refine ⟨rfl,.inr ⟨w.heap.size+1,1,_,rfl,by omega,r1',by decide,by decide,rfl,rfl⟩⟩
 ·rw [jW] at e;cases e
 ·have hn0:n=0:=by
   have:n<1:=hn
   omega
  subst hn0
  refine ⟨fun j=>kJ.getD j (.bool false),0,rfl,aD.congr (show aD _ _ _ 25 _ from r0') (fun j hj=>?_)⟩
  unfold jw
  by_cases c0:j=0
  ·subst c0;rfl
  by_cases c1:j=1
  ·subst c1;rfl
  by_cases c2:j=2
  ·subst c2;rfl
  by_cases c3:j=3
  ·subst c3;rfl
  by_cases c4:j=4
  ·subst c4;rfl
  by_cases c5:j=5
  ·subst c5;rfl
  by_cases c22:j=22
  ·subst c22;rfl
  simp [c0,c1,c2,c3,c4,c5,c22]
 ·rw [jW] at e;cases e
 ·have:eX Hp.new k=[]:=by rcases hk with rfl|rfl|rfl|rfl|rfl|rfl|rfl<;>rfl
  rw [this]
  exact ⟨rfl,.inl ⟨rfl,rfl⟩⟩
 ·have h1:n<1:=hn
  have h2:m<1:=hm
  omega
 ·rw [jW] at e;cases e
 ·simp [oW,Value.ownBlock] at e
 ·show w.heap.size<=w.heap.size+2;omega
 ·exact Nat.le_refl _
 ·rw [e1] at hs3;omega
 ·show w.heap.size<=w.heap.size+2;omega
 ·exact Nat.le_refl _
 ·simp [oW,Value.ownBlock] at e;omega
 ·rw [jW] at e;cases e
 ·simp [oW,Value.ownBlock] at e
 ·simp [oW,Value.ownBlock] at e
 ·rw [e1] at hs3;omega
theorem zm (w:World):Calls Tryz.prog 23 #[] w fun e w'=>e=.returned (.pointer (some ⟨w.heap.size+2,0,none⟩))/\JU w.heap.size (fun b=>w.heap.size<=b) Hp.new (oW w.heap.size) w'/\Below w.heap.size w w':=by
 have HS:=ah (zU w)
 have HB:=ah (Dt w (.cells kJ 101) (.cells #[.pointer (some ⟨w.heap.size,0,none⟩)] 90) (.cells (sJ w.heap.size) 105))
 unfold kJ sJ at HS HB
 go_enter Tryz.func23,Tryz.ntmps23
 go_wp2
 go_ret
 exact ⟨rfl,HS.o,HB.o⟩
section
variable {O R j:Nat} {S S':Nat->Prop} {al:List An} {av fv rv rv' v':Value} {fs:List Value} {w' w0 w5 ws:World}
abbrev mJ:=Int × Int × Int × Int
noncomputable def tQ (p:List An × Rn) (o:mJ):List An × Rn:=(p.1++[(dI p.2 o.1 o.2.1 o.2.2.1 o.2.2.2).1],(dI p.2 o.1 o.2.1 o.2.2.1 o.2.2.2).2)
noncomputable def cK (ops:List mJ):List An × Rn:=ops.foldl tQ ([],⟨Hp.new,[false],0⟩)
theorem xB:cK []=([],⟨Hp.new,[false],0⟩):=rfl
theorem vB (l:List mJ) (o:mJ):cK (l++[o])=tQ (cK l) o:=by unfold cK;rw [List.foldl_append];rfl
theorem gu {l:List mJ} {o:mJ} (h:l[j]?=some o):cK (l.take (j+1))=tQ (cK (l.take j)) o:=by
 rw [List.take_add_one,h,Option.toList_some,vB]
theorem Gd.new:Gd Hp.new:=by
 have hn:jY Hp.new:=⟨rfl,rfl⟩
 refine ⟨Inv.new,Sm.of Inv.new hn Bd.new (by omega) rfl (by decide),hn,fun _=>⟨rfl,rfl,rfl,rfl⟩⟩
theorem Rn.Iz:Rn.Ok 0 ⟨Hp.new,[false],0⟩:=⟨Gd.new,Bd.new,rfl,rfl,rfl,.inl rfl⟩
theorem iL (l:List mJ):∀ j,j<=l.length->j<=5000->(cK (l.take j)).2.Ok j/\(cK (l.take j)).1.length=j
 |0,_,_=>⟨by rw [List.take_zero];exact Rn.Iz,by rw [List.take_zero];rfl⟩
 |j+1,h1,h2=>by
  obtain ⟨a,b⟩:=iL l j (by omega) (by omega)
  have hj:l[j]?=some l[j]:=List.getElem?_eq_getElem (by omega)
  rw [gu hj]
  unfold tQ
  exact ⟨zL a h2 _ _ _ _,by simp [b]⟩
def qg (al:List An) (fs:List Value):List Value:=(al.zip fs).flatMap fun p=>kI p.1 p.2
theorem p9 (h:fs.length=al.length) (a:An) (f:Value):qg (al++[a]) (fs++[f])=qg al fs++kI a f:=by
 unfold qg
 rw [List.zip_append (by rw [h])]
 simp
theorem RW.keep {base:Nat} {S:Nat->Prop} {h:Hp} {L:SM} {R hand:Nat} {rv:Value} {root:List Bool} {w w':World} {T:Nat->Prop} (x:RW base S h L R hand rv root w) (k:Keeps w w' T) (hT:∀ b,T b->¬ Zs S R rv b):RW base S h L R hand rv root w':=
 ⟨⟨x.x.a.out (k.mono (fun b e y=>hT b e (.inl y))),x.x.r.keep k (fun e=>hT R e (.inr (.inl rfl))),aj x.x.v k (fun g hg e=>hT g e (.inr (.inr hg))),x.x.l,x.x.o⟩,x.nR,x.nb,x.r0⟩
structure HI (w0:World) (R O:Nat) (al:List An) (fs:List Value) (r:Rn) (av:Value) (S:Nat->Prop) (L:SM) (rv:Value) (ws:World):Prop where
 x:RW w0.heap.size S r.h L R r.hand rv r.root ws
 o:aD ws 27 O 2 (fun j=>if j=0 then .int .i64 0 else av)
 a:ws.ownsRow w0.heap.size 36 7 av al.length (qg al fs)
 fl:fs.length=al.length
 f:∀ (i:Nat) (b:An) (f:Value),al[i]?=some b->fs[i]?=some f->ws.ownsRow w0.heap.size 3 1 f b.freed.length (bU b.freed)
 nO:¬ Zs S R rv O
 na:∀ g,av.ownBlock=some g->¬ Zs S R rv g
 nf:∀ f∈fs,∀ g,f.ownBlock=some g->¬ Zs S R rv g
 hb:Below w0.heap.size w0 ws
 bO:w0.heap.size<=O
 bR:w0.heap.size<=R
 bS:∀ b,S b->w0.heap.size<=b
 bv:∀ g,rv.ownBlock=some g->w0.heap.size<=g
theorem HI.zs {r:Rn} {L:SM} (x:HI w0 R O al fs r av S L rv ws):∀ b,Zs S R rv b->w0.heap.size<=b:=by
 rintro b (e|e|e)
 ·exact x.bS b e
 ·rw [e];exact x.bR
 ·exact x.bv b e
theorem HI.low {w0:World} {R O:Nat} {al:List An} {fs:List Value} {r:Rn} {av:Value} {S:Nat->Prop} {L:SM} {rv:Value} {ws ws':World} (x:HI w0 R O al fs r av S L rv ws) (b:Below ws.heap.size ws ws'):HI w0 R O al fs r av S L rv ws':=by
 have k:=Keeps.of b (Nat.le_refl _) (fun _=>False)
 exact ⟨x.x.low b,x.o.keep k (fun y=>y),aj x.a k (fun _ _ y=>y),x.fl,fun i a f h1 h2=>aj (x.f i a f h1 h2) k (fun _ _ y=>y),x.nO,x.na,x.nf,x.hb.trans (b.mono x.hb.size),x.bO,x.bR,x.bS,x.bv⟩
theorem HI.hole {w0:World} {R O:Nat} {al:List An} {fs:List Value} {r:Rn} {av:Value} {S:Nat->Prop} {L:SM} {rv:Value} {ws:World} (x:HI w0 R O al fs r av S L rv ws) (o:Obj):HI w0 R O al fs r av (fun b=>S b/\b≠ws.heap.size) L rv (ws.alloc o):=by
 have y:=x.low (aJ ws o)
 have hz:∀ b,Zs (fun b=>S b/\b≠ws.heap.size) R rv b->Zs S R rv b:=by
  rintro b (e|e|e)
  ·exact .inl e.1
  ·exact .inr (.inl e)
  ·exact .inr (.inr e)
 exact ⟨x.x.hole o,y.o,y.a,y.fl,y.f,fun e=>x.nO (hz _ e),fun g hg e=>x.na g hg (hz _ e),fun f hf g hg e=>x.nf f hf g hg (hz _ e),y.hb,y.bO,y.bR,fun b e=>x.bS b e.1,y.bv⟩
theorem HI.one {r r':Rn} {L:SM} (x:HI w0 R O al fs r av S L rv ws) {a:An} {L':SM} 
 (hf:w5.ownsRow ws.heap.size 3 1 fv a.freed.length (bU a.freed)) (kk:Keeps ws w5 (Zs S R rv)) (hw:RW w0.heap.size S' r'.h L' R r'.hand rv' r'.root w5) (hs:∀ b,S' b->S b) (hv:∀ g,rv'.ownBlock=some g->rv.ownBlock=some g∨S g) (hn:∀ g,fv.ownBlock=some g->¬ S' g):
 HI w0 R O al fs r' av S' L' rv' w5/\w5.ownsRow w0.heap.size 3 1 fv a.freed.length (bU a.freed)/\∀ g,fv.ownBlock=some g->¬ Zs S' R rv' g:=by
 have hz:∀ b,Zs S' R rv' b->Zs S R rv b:=by
  rintro b (e|e|e)
  ·exact .inl (hs b e)
  ·exact .inr (.inl e)
  ·rcases hv b e with y|y
   ·exact .inr (.inr y)
   ·exact .inl y
 refine ⟨⟨hw,x.o.keep kk x.nO,aj x.a kk x.na,x.fl,fun i a f h1 h2=>aj (x.f i a f h1 h2) kk (x.nf f (List.mem_of_getElem? h2)),fun e=>x.nO (hz _ e),fun g hg e=>x.na g hg (hz _ e),fun f hf g hg e=>x.nf f hf g hg (hz _ e),x.hb.trans (kk.below x.hb.size x.zs),x.bO,x.bR,fun b e=>x.bS b (hs b e),fun g e=>?_⟩,fq hf x.hb.size,fun g hg e=>?_⟩
 ·rcases hv g e with y|y
  ·exact x.bv g y
  ·exact x.bS g y
 ·rcases e with e|e|e
  ·exact hn g hg e
  ·exact ak hf hw.x.r (by decide) (e ▸ hg)
  ·exact aV hf hw.x.v (by decide) e hg
theorem HI.app {r:Rn} {L:SM} (x:HI w0 R O al fs r av S L rv w5) {a:An} (hf:w5.ownsRow w0.heap.size 3 1 fv a.freed.length (bU a.freed)) (hfz:∀ g,fv.ownBlock=some g->¬ Zs S R rv g)
 (hv1:w'.ownsRow w0.heap.size 36 7 v' (al.length+1) (qg al fs++kI a fv)) (hv2:Keeps w5 w' (fun b=>av.ownBlock=some b)) (hv3:∀ g,v'.ownBlock=some g->av.ownBlock=some g∨w5.heap.size<=g):
 aD w' 27 O 2 (fun j=>if j=0 then .int .i64 0 else av)/\HI w0 R O (al++[a]) (fs++[fv]) r v' (fun b=>S b/\v'.ownBlock≠some b) L rv (w'.setCell ⟨O,1,none⟩ v'):=by
 have ho:aD w' 27 O 2 (fun j=>if j=0 then .int .i64 0 else av):=x.o.keep hv2 (fun e=>ak x.a x.o (by decide) e)
 have k1:Keeps w' (w'.setCell ⟨O,1,none⟩ v') (fun b=>b=O):=Keeps.setCell (S:=fun b=>b=O) (Keeps.refl w' _) rfl _
 have k2:Keeps w5 (w'.setCell ⟨O,1,none⟩ v') (fun b=>av.ownBlock=some b∨b=O):=(hv2.mono (fun b e=>Or.inl e)).trans (k1.mono (fun b e=>Or.inr e))
 have hown2:(w'.setCell ⟨O,1,none⟩ v').ownsRow w0.heap.size 36 7 v' (al.length+1) (qg al fs++kI a fv):=aj hv1 k1 (fun g hg e=>ak hv1 ho (by decide) (e ▸ hg))
 have hRW:RW w0.heap.size S r.h L R r.hand rv r.root (w'.setCell ⟨O,1,none⟩ v'):=x.x.keep k2 (fun b e=>by
  rcases e with e|e
  ·exact x.na b e
  ·rw [e];exact x.nO)
 have hlen:(al++[a]).length=al.length+1:=by simp
 have hz:∀ b,Zs (fun b=>S b/\v'.ownBlock≠some b) R rv b->Zs S R rv b:=by
  rintro b (e|e|e)
  ·exact .inl e.1
  ·exact .inr (.inl e)
  ·exact .inr (.inr e)
 have hfk:∀ {f:Value} {l:List Nat},w5.ownsRow w0.heap.size 3 1 f l.length (bU l)->(w'.setCell ⟨O,1,none⟩ v').ownsRow w0.heap.size 3 1 f l.length (bU l):=fun h=>aj h k2 (fun g hg e=>by
  rcases e with e|e
  ·exact aV h x.a (by decide) e hg
  ·exact ak h x.o (by decide) (e ▸ hg))
 refine ⟨ho,hRW.less v' (fun g hg=>⟨?_,(au hown2 hg).lt⟩),?_,?_,by simp [x.fl],fun i b f h1 h2=>?_,fun e=>x.nO (hz _ e),fun g hg e=>?_,fun f hf' g hg e=>?_,?_,x.bO,x.bR,fun b e=>x.bS b e.1,x.bv⟩
 ·rcases hv3 g hg with y|y
  ·exact x.x.x.a.free (fun e=>x.na g y (.inl e))
  ·exact x.x.x.a.past y
 ·refine (ho.set (j:=1) (by omega) v').congr (fun j hj=>?_)
  have:j=0∨j=1:=by omega
  rcases this with rfl|rfl<;>rfl
 ·rw [hlen,p9 x.fl]
  exact hown2
 ·by_cases c:i<al.length
  ·rw [List.getElem?_append_left c] at h1
   rw [List.getElem?_append_left (by rw [x.fl];exact c)] at h2
   exact hfk (x.f i b f h1 h2)
  ·have hi:i=al.length:=by
    have:=(List.getElem?_eq_some_iff.1 h1).1
    rw [hlen] at this
    omega
   subst hi
   simp at h1
   rw [<-x.fl] at h2
   simp at h2
   subst h1
   subst h2
   exact hfk hf
 ·rcases e with e|e|e
  ·exact e.2 hg
  ·exact ak hv1 (x.x.x.r.keep hv2 (fun e=>ak x.a x.x.x.r (by decide) e)) (by decide) (e ▸ hg)
  ·exact aV hv1 (aj x.x.x.v hv2 (fun g hg e=>aV x.x.x.v x.a (by decide) e hg)) (by decide) e hg
 ·rcases List.mem_append.1 hf' with y|y
  ·exact x.nf f y g hg (hz _ e)
  ·simp at y
   subst y
   exact hfz g hg (hz _ e)
 ·refine x.hb.trans (k2.below x.hb.size (fun b e=>?_))
  rcases e with e|e
  ·exact (x.a.lt b e).1
  ·rw [e];exact x.bO
theorem xZ:(Tryz.prog.info? 36).map (fun i=>(i.zero,i.size,i.bytes))=some (some (.agg #[.int .i64 0,.int .i64 0,.int .i64 0,.int .i64 0,.int .i64 0,.int .i64 0,.slice none 0 0]),7,72):=by kernel_rfl
end
section
variable {K:Act->World->Prop} {Q:Exit->Act->World->Prop} {a:Act} {v:Value} {w w1 w2 wr:World}
theorem lD {o:Oper} (s x:Operand)
 (ho:o.op=.call { callee:=.builtin .append,args:=#[s,x],argTypes:=#[25,25] })
 (base:Nat) (v:Value) (n:Nat) (xs cs:List Value) (hown:wr.ownsRow base 36 7 v n xs) (hs:a.eval s=v) (g:Nat) (hx:a.eval x=.slice (some ⟨g,0,none⟩) 1 1) (hcs:cs.length=7) (h1:∀ u∈cs,u.oneCell'=true) (hrow:aD wr 36 g 7 (fun j=>cs.getD j (.bool false))) (hlen:n<=10000) (hbase:base<=wr.heap.size)
 (h:∀ v' w',w'.ownsRow base 36 7 v' (n+1) (xs++cs)->Keeps wr w' (fun b=>v.ownBlock=some b)->(∀ g,v'.ownBlock=some g->v.ownBlock=some g∨wr.heap.size<=g)->K (a.put o.dst v') w'):
 Oper.wp Tryz.prog o a wr K Q:=by
 obtain ⟨i0,hi,hz0,hz1,hz2⟩:=info_parts xZ
 have hnews:∀ j u,cs[j]?=some u->wr.cell? ((⟨g,0,none⟩:Addr).add j)=some u:=by
  intro j u hj
  have hj0:j<7:=by have:=(List.getElem?_eq_some_iff.1 hj).1;omega
  rw [aY]
  have:=hrow.cell (j:=j) hj0
  rw [show (⟨g,0+j,none⟩:Addr)=⟨g,j,none⟩ by rw [Nat.zero_add],this]
  simp only [List.getD_eq_getElem?_getD,hj]
  rfl
 obtain ⟨v',w',hr,h2,h3,h4⟩:=run_append_own (P:=Tryz.prog) wr base 25 o.type 36 i0 (.agg #[.int .i64 0,.int .i64 0,.int .i64 0,.int .i64 0,.int .i64 0,.int .i64 0,.slice none 0 0]) 7 72 Tryz.underlying25 hi hz0 hz1 hz2 rfl (by decide) v n xs hown ⟨g,0,none⟩ 1 1 cs (by rw [hcs]) hnews h1 (by unfold maxLen;omega) (by omega) hbase
 have h5:=dG wr base 25 o.type 36 i0 (.agg #[.int .i64 0,.int .i64 0,.int .i64 0,.int .i64 0,.int .i64 0,.int .i64 0,.slice none 0 0]) 7 72 Tryz.underlying25 hi hz0 hz1 hz2 rfl (by decide) v n xs hown ⟨g,0,none⟩ 1 1 cs (by rw [hcs]) hnews h1 (by unfold maxLen;omega) (by omega) (by decide) hr
 unfold Oper.wp execOp
 simp only [ho,resolve,invoke,builtin,Sem.run_bind,Sem.run_pure,Result.andThen_ok,List.map_toArray,List.map_cons,List.map_nil,hs,hx,hr]
 exact h v' w' h2 ⟨h3.os,h3.tape,h3.output,h3.size,fun b hb hn=>h3.block b hb (fun e=>hn e.symm)⟩ h5
theorem CG (wr:World) (c i l b s p:Int) (f:Option Addr) (n k:Nat):aD (wr.alloc (.cells #[.int .i64 c,.int .i64 i,.int .i64 l,.int .i64 b,.int .i64 s,.int .i64 p,.slice f n k] 36)) 36 wr.heap.size 7 (fun j=>(kI ⟨c,i,l,b,s,p,[]⟩ (.slice f n k)).getD j (.bool false)):=by
 have h:=aD.mk' wr 36 #[.int .i64 c,.int .i64 i,.int .i64 l,.int .i64 b,.int .i64 s,.int .i64 p,.slice f n k]
 refine aD.congr (show aD _ _ _ 7 _ from h) (fun j hj=>?_)
 have:j=0∨j=1∨j=2∨j=3∨j=4∨j=5∨j=6:=by omega
 rcases this with rfl|rfl|rfl|rfl|rfl|rfl|rfl<;>rfl
theorem uF (a:An) (f:Option Addr) (n k:Nat):∀ u∈kI a (.slice f n k),u.oneCell'=true:=by
 intro u hu
 simp [kI] at hu
 rcases hu with rfl|rfl|rfl|rfl|rfl|rfl|rfl<;>rfl
theorem wP {o:Oper} {K:Act->World->Prop} {Q:Exit->Act->World->Prop} (x y:Operand)
 (ho:o.op=.call { callee:=.value (.func 24),args:=#[x,y],argTypes:=#[57,39] }) (v1 v2:Value) (hx:a.eval x=v1) (hy:a.eval y=v2) {E:Ending->World->Prop} (hC:Calls Tryz.prog 24 #[v1,v2] w E)
 (h:∀ e w',E e w'->∃ v,e=.returned v/\K (a.put o.dst v) w'):Oper.wp Tryz.prog o a w K Q:=by
 unfold Oper.wp
 have hf:a.eval (.func 24)=.func (.func 24) #[] #[]:=rfl
 generalize a.eval=ev at hx hy hf ⊢
 simp [execOp,ho,resolve,invoke,hx,hy,hf,go_sem]
 refine hC.mono ?_
 intro e w' he
 obtain ⟨v,rfl,hk⟩:=h e w' he
 exact hk
def wR (w:World) (v:Value) (ops:List mJ):Prop:=∃ A cap,v=.slice A ops.length cap/\ops.length<=cap/\∀ (i:Nat) (o:mJ),ops[i]?=some o->∃ g,A=some ⟨g,0,none⟩/\g<w.heap.size/\w.cell? ⟨g,i*4,none⟩=some (.int .i64 o.1)/\w.cell? ⟨g,i*4+1,none⟩=some (.int .i64 o.2.1)/\w.cell? ⟨g,i*4+2,none⟩=some (.int .i64 o.2.2.1)/\w.cell? ⟨g,i*4+3,none⟩=some (.int .i64 o.2.2.2)
def Dr (ops:List mJ) (w:World) (e:Ending) (w':World):Prop:=Below w.heap.size w w'/\∃ (c:Int) (av:Value) (al:List An) (fs:List Value),e=.returned (.agg #[.int .i64 c,av])/\c=(if 5000<ops.length then 5 else 0)/\al=(if 5000<ops.length then [] else (cK ops).1)/\w'.ownsRow w.heap.size 36 7 av al.length (qg al fs)/\fs.length=al.length/\∀ (i:Nat) (b:An) (f:Value),al[i]?=some b->fs[i]?=some f->w'.ownsRow w.heap.size 3 1 f b.freed.length (bU b.freed)
theorem rE (wr:World) (c:Int) (a:Option Addr) (n k:Nat):aD (wr.alloc (.cells #[.int .i64 c,.slice a n k] 27)) 27 wr.heap.size 2 (fun j=>if j=0 then .int .i64 c else .slice a n k):=by
 have h:=aD.mk' wr 27 #[.int .i64 c,.slice a n k]
 refine aD.congr (show aD _ _ _ 2 _ from h) (fun j hj=>?_)
 have:j=0∨j=1:=by omega
 rcases this with rfl|rfl<;>rfl
theorem zD (hs:JU w1.heap.size (fun b=>w1.heap.size<=b) Hp.new (oW w1.heap.size) w2) (hb:Below w1.heap.size w1 w2):
 HI w1 (w2.heap.size+1) (w2.heap.size+2) [] [] ⟨Hp.new,[false],0⟩ (.slice none 0 0) (fun b=>((w1.heap.size<=b/\b≠w2.heap.size)/\b≠w2.heap.size+1)/\b≠w2.heap.size+2) (oW w1.heap.size) (.slice (some ⟨w2.heap.size,0,none⟩) 1 1)
  (((w2.alloc (.cells #[.bool false] 4)).alloc (.cells #[.pointer (some ⟨w1.heap.size+2,0,none⟩),.slice (some ⟨w2.heap.size,0,none⟩) 1 1,.int .i64 0] 61)).alloc (.cells #[.int .i64 0,.slice none 0 0] 27)):=by
 have e1:(w2.alloc (.cells #[.bool false] 4)).heap.size=w2.heap.size+1:=Array.size_push _
 have e2:((w2.alloc (.cells #[.bool false] 4)).alloc (.cells #[.pointer (some ⟨w1.heap.size+2,0,none⟩),.slice (some ⟨w2.heap.size,0,none⟩) 1 1,.int .i64 0] 61)).heap.size=w2.heap.size+2:=by rw [show ((w2.alloc (.cells #[.bool false] 4)).alloc (.cells #[.pointer (some ⟨w1.heap.size+2,0,none⟩),.slice (some ⟨w2.heap.size,0,none⟩) 1 1,.int .i64 0] 61)).heap.size=_ from Array.size_push _,e1]
 have h1:=hs.hole (.cells #[.bool false] 4)
 have h2:=h1.hole (.cells #[.pointer (some ⟨w1.heap.size+2,0,none⟩),.slice (some ⟨w2.heap.size,0,none⟩) 1 1,.int .i64 0] 61)
 have h3:=h2.hole (.cells #[.int .i64 0,.slice none 0 0] 27)
 rw [e1] at h2
 rw [e1,e2] at h3
 have b3:=aJ ((w2.alloc (.cells #[.bool false] 4)).alloc (.cells #[.pointer (some ⟨w1.heap.size+2,0,none⟩),.slice (some ⟨w2.heap.size,0,none⟩) 1 1,.int .i64 0] 61)) (.cells #[.int .i64 0,.slice none 0 0] 27)
 have b2:=aJ (w2.alloc (.cells #[.bool false] 4)) (.cells #[.pointer (some ⟨w1.heap.size+2,0,none⟩),.slice (some ⟨w2.heap.size,0,none⟩) 1 1,.int .i64 0] 61)
 have b23:=b2.trans (b3.mono (by rw [e1,e2];omega))
 have hall:=Dt w2 (.cells #[.bool false] 4) (.cells #[.pointer (some ⟨w1.heap.size+2,0,none⟩),.slice (some ⟨w2.heap.size,0,none⟩) 1 1,.int .i64 0] 61) (.cells #[.int .i64 0,.slice none 0 0] 27)
 have hsz:=hb.size
 have r1:=aD.mk' (w2.alloc (.cells #[.bool false] 4)) 61 #[.pointer (some ⟨w1.heap.size+2,0,none⟩),.slice (some ⟨w2.heap.size,0,none⟩) 1 1,.int .i64 0]
 rw [e1] at r1
 have r1':=r1.low b3 (by rw [e2];omega)
 have ro:=rE ((w2.alloc (.cells #[.bool false] 4)).alloc (.cells #[.pointer (some ⟨w1.heap.size+2,0,none⟩),.slice (some ⟨w2.heap.size,0,none⟩) 1 1,.int .i64 0] 61)) 0 none 0 0
 rw [e2] at ro
 have g1:=(b23.block w2.heap.size (by rw [e1];omega)).trans (heap_alloc_new w2 (.cells #[.bool false] 4))
 refine ⟨⟨⟨h3,?_,⟨rfl,.inr ⟨w2.heap.size,1,_,rfl,hsz,g1,by decide,by decide,rfl,rfl⟩⟩,rfl,rfl⟩,fun e=>e.1.2 rfl,fun g hg e=>?_,rfl⟩,ro,⟨rfl,.inl ⟨rfl,rfl⟩⟩,rfl,fun i b f h=>by simp at h,?_,fun g hg=>by simp [Value.ownBlock] at hg,fun f hf=>by simp at hf,hb.trans (hall.mono hsz),by omega,by omega,fun b e=>e.1.1.1,fun g hg=>?_⟩
 ·refine aD.congr (show aD _ _ _ 3 _ from r1') (fun j hj=>?_)
  have:j=0∨j=1∨j=2:=by omega
  rcases this with rfl|rfl|rfl<;>rfl
 ·simp [Value.ownBlock] at hg
  exact e.1.1.2 hg.symm
 ·rintro (e|e|e)
  ·exact e.2 rfl
  ·omega
  ·simp [Value.ownBlock] at e
 ·simp [Value.ownBlock] at hg
  omega
theorem uW {ops:List mJ} (hv:wR w v ops) (hn:ops.length<=1048576):Calls Tryz.prog 7 #[v] w (Dr ops w):=by
 obtain ⟨A,cap,rfl,hcap,hcells⟩:=hv
 have HC:=ah hcells
 clear hcells
 have HX:=ah (rE w 0 none 0 0)
 have HB:=ah (aJ w (.cells #[.int .i64 0,.slice none 0 0] 27))
 by_cases h5:5000<ops.length
 ·have h5i:((ops.length:Int) > 5000):=by omega
  go_enter Tryz.func7,Tryz.ntmps7
  go_upto_region 1 with (fail)
  generalize w.alloc (.cells #[.int .i64 0,.slice none 0 0] 27)=w1 at *
  generalize hX:w.heap.size=X at *
  have x0:=HX.o.cell (j:=0) (by omega)
  have x1:=HX.o.cell (j:=1) (by omega)
  have z0:=HX.o.Jv 0
  have z1:=HX.o.Jv 1
  go_wp2
  have HR:=ah (((HX.o.set (j:=0) (by omega) (.int .i64 5)).set (j:=1) (by omega) (.slice none 0 0)))
  have HK:=ah (show Below X w _ from HB.o.trans (((Keeps.setCell (S:=fun b=>b=X) (Keeps.refl w1 _) (g:=X) (j:=0) rfl (.int .i64 5)).setCell (g:=X) (j:=1) rfl (.slice none 0 0)).below (B:=X) (Nat.le_of_lt HX.o.lt) (fun b e=>by omega)))
  generalize (w1.setCell ⟨X,0,none⟩ (.int .i64 5)).setCell ⟨X,1,none⟩ (.slice none 0 0)=w7 at *
  have q0:w7.cell? ⟨X,0,none⟩=some (.int .i64 5):=HR.o.cell (j:=0) (by omega)
  have q1:w7.cell? ⟨X,1,none⟩=some (.slice none 0 0):=HR.o.cell (j:=1) (by omega)
  refine bodyPost_ret (v:=.agg #[.int .i64 5,.slice none 0 0]) ?_ rfl ?_
  ·simp [results,Tryz.results7,go_sem,q0,q1]
  ·exact ⟨by rw [hX];exact HK.o,5,.slice none 0 0,[],[],rfl,by rw [if_pos h5],by rw [if_pos h5],⟨rfl,.inl ⟨rfl,rfl⟩⟩,rfl,fun i b f h=>by simp at h⟩
 ·have h5i:¬ ((ops.length:Int) > 5000):=by omega
  go_enter Tryz.func7,Tryz.ntmps7
  go_upto_region 1 with (fail)
  have HNW:=ah (zm (w.alloc (.cells #[.int .i64 0,.slice none 0 0] 27)))
  generalize w.alloc (.cells #[.int .i64 0,.slice none 0 0] 27)=w1 at *
  generalize hX:w.heap.size=X at *
  go_wp2_with fail
  refine HNW.o.mono ?_
  rintro e2 w2 ⟨rfl,hs2,hb2⟩
  have HI0:=ah (zD hs2 hb2)
  clear hs2 hb2 HNW
  go_upto_region 5 with (fail)
  have HI1:Hq (HI w1 (w2.heap.size+1) (w2.heap.size+1+1) [] [] ⟨Hp.new,[false],0⟩ (.slice none 0 0) (fun b=>((w1.heap.size<=b/\b≠w2.heap.size)/\b≠w2.heap.size+1)/\b≠w2.heap.size+1+1) (oW w1.heap.size) (.slice (some ⟨w2.heap.size,0,none⟩) 1 1)
   (((w2.alloc (.cells #[.bool false] 4)).alloc (.cells #[.pointer (some ⟨w1.heap.size+2,0,none⟩),.slice (some ⟨w2.heap.size,0,none⟩) 1 1,.int .i64 0] 61)).alloc (.cells #[.int .i64 0,.slice none 0 0] 27))):=HI0
  clear HI0
  generalize ((w2.alloc (.cells #[.bool false] 4)).alloc (.cells #[.pointer (some ⟨w1.heap.size+2,0,none⟩),.slice (some ⟨w2.heap.size,0,none⟩) 1 1,.int .i64 0] 61)).alloc (.cells #[.int .i64 0,.slice none 0 0] 27)=w3 at *
  generalize w2.heap.size+1=R at *
  go_wp2
  go_loopw [18] (fun jv ws=>∃ j:Nat,j<=ops.length/\jv=.int .i64 j/\Hq (∃ fs av S L rv,HI w1 R (R+1) (cK (ops.take j)).1 fs (cK (ops.take j)).2 av S L rv ws)) (fun jv _=>ops.length-aU jv)
  case atStart=>exact ⟨0,by omega,rfl,_,_,_,_,_,by rw [List.take_zero];exact HI1.o⟩
  case round=>
   clear HI1
   obtain ⟨j,hj9,rfl,HJ⟩:=hrel
   obtain ⟨fs,av,S,L,rv,hj⟩:=HJ.o
   have HJI:=ah hj
   clear hj HJ
   have hok:=(iL ops j hj9 (by omega))
   have hal:(cK (ops.take j)).1.length<=5000:=by rw [hok.2];omega
   by_cases hjn:j<ops.length
   ·obtain ⟨o,ho⟩:∃ o,ops[j]?=some o:=⟨_,List.getElem?_eq_getElem hjn⟩
    have hji:(j:Int)<(ops.length:Int):=by omega
    have HRT:=ah (gu ho)
    obtain ⟨g,rfl,hg,d0,d1,d2,d3⟩:=HC.o j o ho
    have hg1:g<w1.heap.size:=Nat.lt_of_lt_of_le (hX ▸ hg) (hX ▸ HB.o.size)
    have hgX:g<X:=hX ▸ hg
    have f0:wr.cell? ⟨g,j*4,none⟩=some (.int .i64 o.1):=(HJI.o.hb.cell (p:=⟨g,j*4,none⟩) hg1).trans ((HB.o.cell (p:=⟨g,j*4,none⟩) hgX).trans d0)
    have f1:wr.cell? ⟨g,j*4+1,none⟩=some (.int .i64 o.2.1):=(HJI.o.hb.cell (p:=⟨g,j*4+1,none⟩) hg1).trans ((HB.o.cell (p:=⟨g,j*4+1,none⟩) hgX).trans d1)
    have f2:wr.cell? ⟨g,j*4+2,none⟩=some (.int .i64 o.2.2.1):=(HJI.o.hb.cell (p:=⟨g,j*4+2,none⟩) hg1).trans ((HB.o.cell (p:=⟨g,j*4+2,none⟩) hgX).trans d2)
    have f3:wr.cell? ⟨g,j*4+3,none⟩=some (.int .i64 o.2.2.2):=(HJI.o.hb.cell (p:=⟨g,j*4+3,none⟩) hg1).trans ((HB.o.cell (p:=⟨g,j*4+3,none⟩) hgX).trans d3)
    have HOK:=ah hok.1
    obtain ⟨kd,A,B,C⟩:=o
    simp only at f0 f1 f2 f3
    have HP:=ah (eT wr kd A B C)
    have HH:=ah (HJI.o.hole (.cells #[.int .i64 kd,.int .i64 A,.int .i64 B,.int .i64 C] 39))
    clear d0 d1 d2 d3 ho hok
    go_upto_region 8 with (fail)
    generalize wr.alloc (.cells #[.int .i64 kd,.int .i64 A,.int .i64 B,.int .i64 C] 39)=w5 at *
    generalize wr.heap.size=P at *
    clear f0 f1 f2 f3
    generalize cK (ops.take j)=q at *
    obtain ⟨aA,kA,rfl⟩:∃ aA kA,av=.slice aA q.1.length kA:=aF HH.o.a
    have c1:w5.cell? ⟨R+1,1,none⟩=some (.slice aA q.1.length kA):=HH.o.o.cell (j:=1) (by omega)
    have p0:w5.cell? ⟨P,0,none⟩=some (.int .i64 kd):=HP.o.cell (j:=0) (by omega)
    have p1:w5.cell? ⟨P,1,none⟩=some (.int .i64 A):=HP.o.cell (j:=1) (by omega)
    have p2:w5.cell? ⟨P,2,none⟩=some (.int .i64 B):=HP.o.cell (j:=2) (by omega)
    have p3:w5.cell? ⟨P,3,none⟩=some (.int .i64 C):=HP.o.cell (j:=3) (by omega)
    have HONE:=ah (fun (w9:World) (y:RW w1.heap.size (fun b=>S b/\b≠P) q.2.h L R q.2.hand rv q.2.root w9)=>zK y HOK.o (by omega) kd A B C)
    have HRT2:Hq (cK (ops.take (j+1))=(q.1++[(dI q.2 kd A B C).1],(dI q.2 kd A B C).2)):=HRT
    clear HRT HJI
    generalize dI q.2 kd A B C=pp at *
    have HHd:=ah (HH.o.low (ay (Below.refl _ _) 1))
    have HPd:=ah (HP.o.keep (Keeps.of (ay (Below.refl w5.heap.size w5) 1) (Nat.le_refl _) (fun _=>False)) (fun y=>y))
    have hPz:¬ Zs (fun b=>S b/\b≠P) R rv P:=by
     rintro (e|e|e)
     ·exact e.2 rfl
     ·exact HP.o.apart HH.o.x.x.r (by decide) e
     ·exact ak HH.o.x.x.v HP.o (by decide) e
    have HPZ:=ah hPz
    clear hPz
    go_wp2_with fail
    go_region_law (first
     |(rw [if_pos (by rfl)]
       refine wP (.tmp 24) (.tmp 25) rfl _ _ rfl rfl (HONE.o _ HHd.o.x) ?_
       rintro e6 w6 ⟨fv,rfl,hf,kk,S',L',rv',hw,hs,hv,hn'⟩
       obtain ⟨af,kf,hfv⟩:=aF hf
       subst hfv
       refine ⟨_,rfl,?_⟩
       have hone:=HHd.o.one hf kk hw hs hv hn'
       have H6:=ah hone
       have b1:w6.cell? ⟨R+1,1,none⟩=some (.slice aA q.1.length kA):=H6.o.1.o.cell (j:=1) (by omega)
       have hOl:=H6.o.1.o.lt
       have b2:=((aJ w6 (.cells #[.int .i64 pp.1.code,.int .i64 pp.1.id,.int .i64 pp.1.live,.int .i64 pp.1.bytes,.int .i64 pp.1.state,.int .i64 pp.1.pend,.slice af pp.1.freed.length kf] 36)).cell (p:=⟨R+1,1,none⟩) hOl).trans b1
       have e7:(kI pp.1 (.slice af pp.1.freed.length kf)).toArray=#[.int .i64 pp.1.code,.int .i64 pp.1.id,.int .i64 pp.1.live,.int .i64 pp.1.bytes,.int .i64 pp.1.state,.int .i64 pp.1.pend,.slice af pp.1.freed.length kf]:=rfl
       rw [e7]
       clear hone hf kk hw hs hv hn' e7)
     |(rw [if_pos (by rfl)]
       refine lD (wr:=w6.alloc (.cells #[.int .i64 pp.1.code,.int .i64 pp.1.id,.int .i64 pp.1.live,.int .i64 pp.1.bytes,.int .i64 pp.1.state,.int .i64 pp.1.pend,.slice af pp.1.freed.length kf] 36)) (.tmp 23) (.tmp 27) rfl w1.heap.size (.slice aA q.1.length kA) q.1.length (qg q.1 fs) (kI pp.1 (.slice af pp.1.freed.length kf)) (aj H6.o.1.a (Keeps.of (aJ w6 _) (Nat.le_refl _) (fun _=>False)) (fun _ _ y=>y)) rfl w6.heap.size rfl rfl (uF _ _ _ _) (CG w6 _ _ _ _ _ _ _ _ _) (by omega) (Nat.le_trans H6.o.1.hb.size (aJ w6 _).size) ?_
       intro v' w8 g1 g2 g3
       obtain ⟨a8,k8,hv8⟩:=aF g1
       subst hv8
       have H8:=ah (H6.o.1.app (w':=w8) H6.o.2.1 H6.o.2.2 g1 ((Keeps.of (aJ w6 _) (Nat.le_refl _) _).trans g2) (fun g e=>(g3 g e).imp id (fun y=>Nat.le_trans (aJ w6 _).size y)))
       have u1:=H8.o.1.cell (j:=1) (by omega)
       have z1:=H8.o.1.Jv 1
       clear g1 g2 g3))
    all_goals
     go_wp2_with fail
     go_roundw
     case rel=>exact ⟨j+1,by omega,by simp,_,_,_,_,_,by rw [HRT2.o];exact H8.o.2⟩
     case measure=>simp [aU];omega
   ·have hje:j=ops.length:=by omega
    subst hje
    rw [List.take_length] at HJI
    obtain ⟨aA,kA,rfl⟩:∃ aA kA,av=.slice aA (cK ops).1.length kA:=aF HJI.o.a
    have hXl:X<w1.heap.size:=HX.o.lt
    have HXR:=ah (HX.o.low HJI.o.hb hXl)
    have c0:wr.cell? ⟨R+1,0,none⟩=some (.int .i64 0):=HJI.o.o.cell (j:=0) (by omega)
    have c1:wr.cell? ⟨R+1,1,none⟩=some (.slice aA (cK ops).1.length kA):=HJI.o.o.cell (j:=1) (by omega)
    have x0:=HXR.o.cell (j:=0) (by omega)
    have x1:=HXR.o.cell (j:=1) (by omega)
    have z0:=HXR.o.Jv 0
    have z1:=HXR.o.Jv 1
    clear hal hok
    go_wp2
    have HR:=ah (((HXR.o.set (j:=0) (by omega) (.int .i64 0)).set (j:=1) (by omega) (.slice aA (cK ops).1.length kA)))
    have HK:=ah ((Keeps.setCell (S:=fun b=>b=X) (Keeps.refl wr _) (g:=X) (j:=0) rfl (.int .i64 0)).setCell (g:=X) (j:=1) rfl (.slice aA (cK ops).1.length kA))
    generalize (wr.setCell ⟨X,0,none⟩ (.int .i64 0)).setCell ⟨X,1,none⟩ (.slice aA (cK ops).1.length kA)=w7 at *
    have q0:w7.cell? ⟨X,0,none⟩=some (.int .i64 0):=HR.o.cell (j:=0) (by omega)
    have q1:w7.cell? ⟨X,1,none⟩=some (.slice aA (cK ops).1.length kA):=HR.o.cell (j:=1) (by omega)
    refine bodyPost_ret (v:=.agg #[.int .i64 0,.slice aA (cK ops).1.length kA]) ?_ rfl ?_
    ·simp [results,Tryz.results7,go_sem,q0,q1]
    ·have hsz:w.heap.size<=w1.heap.size:=by omega
     have hbw:Below X w wr:=HB.o.trans (HJI.o.hb.mono (Nat.le_of_lt hXl))
     have hfar:∀ {T s n:Nat} {v:Value} {xs:List Value},wr.ownsRow w1.heap.size T s v n xs->w7.ownsRow w.heap.size T s v n xs:=fun h=>fq (aj h HK.o (fun g hg e=>by have:=(h.lt g hg).1;omega)) hsz
     exact ⟨by rw [hX];exact hbw.trans (HK.o.below (B:=X) (Nat.le_of_lt HXR.o.lt) (fun b e=>by omega)),0,_,(cK ops).1,fs,rfl,by rw [if_neg h5],by rw [if_neg h5],hfar HJI.o.a,HJI.o.fl,fun i b f h1 h2=>hfar (HJI.o.f i b f h1 h2)⟩
end
end Go.Proofs.YtedpifhlffcmkaaGreatDoor
namespace Go.Proofs.YtedpifhlffcmkaaGreatDoor
open Go
set_option maxRecDepth 100000
theorem xR:Tryz.f5.isInstance Tryz.prog Rows.fnExactHeapRunRow.origin Rows.fnExactHeapRunRow.targs:=of_decide_eq_true (by kernel_rfl)
theorem xw:Tryz.prog.funcNamed Rows.fnExactHeapRunRow.func=some 5:=by kernel_rfl
theorem yQ:Tryz.f5.isWrapper Tryz.prog Rows.fnExactHeapRunRow.wrapper Rows.fnExactHeapRunRow.mainSum:=by unfold Func.isWrapper;first |(rw [if_pos (by decide+kernel)];kernel_rfl)|(rw [if_neg (by decide+kernel)];exact ⟨rfl,rfl⟩)
end Go.Proofs.YtedpifhlffcmkaaGreatDoor
