import Derived.Test.YtbpcdfbmnklcjaaGreatDoorKHUA
import Derived.Test.YtbpcdfbmnklcjaaGreatDoorKHUC
import Derived.Deep.RegionLaw
import Derived.Test.YtbpcdfbmnklcjaaGreatDoorKHYS
import Derived.Test.YtbpcdfbmnklcjaaGreatDoorKHSJ2
import Derived.BigRegion
import Derived.Laws.CopyRow
import Derived.Deep.RegionHeld3
namespace Go.Proofs.YtbpcdfbmnklcjaaGreatDoor
open Go Go.RowKit
set_option linter.unusedVariables false
section
variable {K:Act->World->Prop} {Q:Exit->Act->World->Prop} {S:Nat->Prop} {a:Act} {base:Nat} {h:Hp} {w w1 wr:World}
theorem yS {w:World} {o:Oper} {K:Act->World->Prop} {Q:Exit->Act->World->Prop} (x:Operand)
 (ho:o.op=.call { callee:=.value (.func 45),args:=#[x],argTypes:=#[3] }) (k:Nat) (hx:a.eval x=.int .i64 (k:Int)) (v:HV) (c:cO k=v)
 (h:∀ w',Below w.heap.size w w'->K (a.put o.dst (.agg #[.int .i64 (vk v),.int .i64 (vi v),.int .u64 0,.string ByteArray.empty,.int .i64 (vr v)])) w'):Oper.wp Tryz.prog o a w K Q:=by
 unfold Oper.wp;have b:a.eval (.func 45)=.func (.func 45) #[] #[]:=rfl;generalize a.eval=ev at hx b ⊢;simp [execOp,ho,resolve,invoke,hx,b,go_sem];refine (ny w k v c).mono ?_;rintro e w' ⟨rfl,hb⟩;exact h w' hb
theorem Ac:(Tryz.prog.info? 95).map (fun i=>(i.zero,i.size,i.bytes))=some (some (.agg #[.int .i64 0,.int .i64 0,.int .u64 0,.string ByteArray.empty,.int .i64 0]),5,48):=by kernel_rfl
theorem Co (v:HV):∀ u∈wX v,u.oneCell'=true:=by
 intro u b;simp [wX] at b;rcases b with rfl|rfl|rfl|rfl|rfl<;>rfl
theorem uU {o:Oper} (s x:Operand)
 (ho:o.op=.call { callee:=.builtin .append,args:=#[s,x],argTypes:=#[103,103] })
 (base:Nat) (v:Value) (l:List Nat) (n:Nat) (hown:wr.ownsRow base 95 5 v l.length (Dx l)) (A:a.eval s=v) (g:Nat) (hx:a.eval x=.slice (some ⟨g,0,none⟩) 1 1) (m:aD wr 95 g 5 (fun j=>(wX (some (.inr n))).getD j (.bool false))) (t:l.length<=10000) (d:base<=wr.heap.size)
 (h:∀ v' w',w'.ownsRow base 95 5 v' (l++[n]).length (Dx (l++[n]))->Keeps wr w' (fun b=>v.ownBlock=some b)->(∀ g,v'.ownBlock=some g->v.ownBlock=some g∨wr.heap.size<=g)->K (a.put o.dst v') w'):
 Oper.wp Tryz.prog o a wr K Q:=by
 obtain ⟨r,hi,k,i,f⟩:=info_parts Ac;have c:∀ j u,(wX (some (.inr n)))[j]?=some u->wr.cell? ((⟨g,0,none⟩:Addr).add j)=some u:=by
  intro j u y;have q:j<5:=(aJ.1 y).1;rw [bL];have:=m.cell (j:=j) q;rw [show (⟨g,0+j,none⟩:Addr)=⟨g,j,none⟩ by rw [Nat.zero_add],this];simp only [bq,y];rfl
 have z:=Co (some (.inr n));obtain ⟨v',w',hr,C,p,D⟩:=run_append_own (P:=Tryz.prog) wr base 103 o.type 95 r (.agg #[.int .i64 0,.int .i64 0,.int .u64 0,.string ByteArray.empty,.int .i64 0]) 5 48 Tryz.underlying103 hi k i f rfl (by decide) v l.length (Dx l) hown ⟨g,0,none⟩ 1 1 (wX (some (.inr n))) rfl c z (by unfold maxLen;omega) (by omega) d;have B:=fG wr base 103 o.type 95 r (.agg #[.int .i64 0,.int .i64 0,.int .u64 0,.string ByteArray.empty,.int .i64 0]) 5 48 Tryz.underlying103 hi k i f rfl (by decide) v l.length (Dx l) hown ⟨g,0,none⟩ 1 1 (wX (some (.inr n))) rfl c z (by unfold maxLen;omega) (by omega) (by decide) hr;unfold Oper.wp execOp;simp only [ho,resolve,invoke,builtin,Sem.run_bind,Sem.run_pure,Result.andThen_ok,List.map_toArray,List.map_cons,List.map_nil,A,hx,hr];refine h v' w' (by simpa [Dx] using C) ⟨p.os,p.tape,p.output,p.size,fun b hb hn=>p.block b hb (fun e=>hn e.symm)⟩ B
theorem MV.LA {L:SM} (a:MV base S h L w) (kk:Keeps w w1 (fun b=>L.rS.ownBlock=some b)) (v':Value) (m:List Nat) (hown:w1.ownsRow base 95 5 v' m.length (Dx m)) (B:∀ g,v'.ownBlock=some g->L.rS.ownBlock=some g∨w.heap.size<=g):
 aD w1 105 L.H 18 (uE h L)/\MV base S (h.Hf m) { L with rS:=v' } (w1.setCell ⟨L.H,13,none⟩ v')/\Keeps w (w1.setCell ⟨L.H,13,none⟩ v') S:=by
 have k:aD w1 105 L.H 18 (uE h L):=a.hp.keep kk (fun e=>ak a.ro a.hp (by decide) e);have y:Keeps w1 (w1.setCell ⟨L.H,13,none⟩ v') (fun b=>b=L.H):=Keeps.setCell (S:=fun b=>b=L.H) (Keeps.refl w1 _) rfl v';have i:Keeps w (w1.setCell ⟨L.H,13,none⟩ v') (fun b=>L.rS.ownBlock=some b∨b=L.H):=(kk.mono (fun b e=>Or.inl e)).trans (y.mono (fun b e=>Or.inr e));have p:∀ {T s n:Nat} {v:Value} {u:List Value},w.ownsRow base T s v n u->T≠105->T≠95->∀ g,v.ownBlock=some g->¬ (L.rS.ownBlock=some g∨g=L.H):=by
  intro T s n v u l t q g A d;rcases d with d|d
  ·exact aV l a.ro q d A
  ·exact ak l a.hp t (d ▸ A)
 have z:∀ {T g N:Nat} {f:Nat->Value},aD w T g N f->T≠105->T≠95->¬ (L.rS.ownBlock=some g∨g=L.H):=by
  intro T g N f l t q d;rcases d with d|d
  ·exact ak a.ro l (Ne.symm q) d
  ·exact l.apart a.hp t d
 refine ⟨k,⟨(k.set (j:=13) (by decide) v').congr (bV _ rfl rfl rfl rfl rfl rfl rfl rfl rfl rfl rfl rfl rfl rfl rfl rfl rfl rfl),aj a.oo i (p a.oo (by decide) (by decide)),fun n o e=>?_,fun n hn e=>?_,fun n o e=>aj (a.en n o e) i (p (a.en n o e) (by decide) (by decide)),fun j hj=>?_,?_,a.ij,a.ei,a.lj,a.bH,a.bo,aI a.bs i.size,a.sH,a.so,a.sO,a.se,a.sl,?_,fun b hb=>a.up b (aI i.size hb)⟩,?_⟩
 ·obtain ⟨r,hr⟩:=a.ob n o e
  exact ⟨r,hr.keep i (z hr (by decide) (by decide))⟩
 ·obtain ⟨r,c,C,hr⟩:=a.dd n hn e
  exact ⟨r,c,C,hr.keep i (z hr (by decide) (by decide))⟩
 ·exact aj (a.li j hj) i (p (a.li j hj) (by decide) (by decide))
 ·exact aj hown y (fun g hg e=>ak hown k (by decide) (e ▸ hg))
 ·intro g e
  rcases B g e with x|x
  ·exact a.sr g x
  ·exact a.up g x
 ·refine i.mono (fun b e=>?_)
  rcases e with e|e
  ·exact a.sr b e
  ·exact e ▸ a.sH
end
set_option maxHeartbeats 6400000
set_option maxRecDepth 100000
section
variable {G:Gh} {L:PM} {S S':Nat->Prop} {base:Nat} {h h':Hp} {v:Value} {w w2:World}
theorem M0.LX (a:M0 base S h G L w) (k:Keeps w w2 (fun b=>¬ S b)) (j:∀ g,v.ownBlock=some g->¬ S g∨w.heap.size<=g) (f:∀ g,v.ownBlock=some g->g<w2.heap.size):M0 base (fun b=>S b/\v.ownBlock≠some b) h G L w2:=by
 have y:=a.out k;have d:∀ b,S b->b<w.heap.size->v.ownBlock≠some b:=by
  intro b hb i l;rcases j b l with x|x
  ·exact x hb
  ·omega
 refine ⟨y.hp,y.ob,y.en,y.mp,y.li,y.ij,y.ei,y.mi,y.lj,y.bH,y.bt,y.bm,y.bs,⟨a.sH,d _ a.sH a.hp.lt⟩,fun n o e=>⟨a.st n o e,d _ (a.st n o e) (a.ob n o e).lt⟩,fun n o g e hg=>⟨a.se n o g e hg,d _ (a.se n o g e hg) (ay (a.en n o e) hg).lt⟩,fun n o g e hg=>⟨a.sm n o g e hg,d _ (a.sm n o g e hg) ((a.mp n o e).lt hg)⟩,fun k g hk hg=>⟨a.sl k g hk hg,d _ (a.sl k g hk hg) (ay (a.li k hk) hg).lt⟩,fun b hb=>⟨y.up b hb,fun c=>by have:=f b c;omega⟩⟩
theorem M0.Lx (a:M0 base S h G L w) (k:Nat) (hk:eF k) (v':Value) (hown:w.ownsRow base (xQ k) 1 v' (eU h' G k).length ((eU h' G k).map (eP L.tb k))) (C:∀ g,v'.ownBlock=some g->¬ S g) (p:∀ b,S b->S' b) (D:∀ g,v'.ownBlock=some g->S' g)
 (d:∀ n,h'.ob n=h.ob n) (B:∀ j,eF j->j≠k->eU h' G j=eU h G j) (E:∀ i,i<19->(if i=k then v' else kK h G L i)=kK h' G { L with li:=fun j=>if j=k then v' else L.li j } i):
 M0 base S' h' G { L with li:=fun j=>if j=k then v' else L.li j } (w.setCell ⟨L.H,k,none⟩ v')/\Keeps w (w.setCell ⟨L.H,k,none⟩ v') S':=by
 have t:k<19:=by rcases hk with rfl|rfl|rfl|rfl|rfl|rfl|rfl|rfl|rfl<;>decide
 have l:Keeps w (w.setCell ⟨L.H,k,none⟩ v') (fun b=>b=L.H):=Keeps.setCell (S:=fun b=>b=L.H) (Keeps.refl w _) rfl v';have hO:∀ {T s n:Nat} {v:Value} {xs:List Value},w.ownsRow base T s v n xs->T≠77->∀ g,v.ownBlock=some g->¬ g=L.H:=fun h1 h2 g h3 h4=>ak h1 a.hp h2 (h4 ▸ h3);refine ⟨⟨(a.hp.set t v').congr E,fun n o e=>?_,fun n o e=>?_,fun n o e=>?_,fun j f=>?_,?_,?_,?_,?_,a.bH,?_,?_,aI a.bs l.size,p _ a.sH,?_,?_,?_,?_,fun b hb=>p _ (a.up b (aI l.size hb))⟩,l.mono (fun b e=>e ▸ p _ a.sH)⟩
 ·rw [d] at e;exact (a.ob n o e).keep l (fun y=>(a.ob n o e).apart a.hp (by decide) y)
 ·rw [d] at e;exact aj (a.en n o e) l (hO (a.en n o e) (by decide))
 ·rw [d] at e;exact (a.mp n o e).keep l (fun b hb y=>(a.mp n o e).apart a.hp (y ▸ hb))
 ·by_cases c:j=k
  ·subst c
   simp only [if_true];exact aj hown l (hO hown (iH f).1)
  ·simp only [c,if_false]
   rw [B j f c];exact aj (a.li j f) l (hO (a.li j f) (iH f).1)
 ·intro n m o r;rw [d,d];exact a.ij n m o r
 ·intro n m o r g;rw [d,d];exact a.ei n m o r g
 ·intro n m o r g;rw [d,d];exact a.mi n m o r g
 ·intro j A g f u e q
  by_cases c:j=k<;>by_cases z:A=k
  ·rw [c,z]
  ·simp only [c,z,if_true,if_false] at e q
   exact absurd (a.sl A g u q) (C g e)
  ·simp only [c,z,if_true,if_false] at e q
   exact absurd (a.sl j g f e) (C g q)
  ·simp only [c,z,if_false] at e q
   exact a.lj j A g f u e q
 ·intro n o;rw [d];exact a.bt n o
 ·intro n o g;rw [d];exact a.bm n o g
 ·intro n o;rw [d];exact fun e=>p _ (a.st n o e)
 ·intro n o g;rw [d];exact fun e x=>p _ (a.se n o g e x)
 ·intro n o g;rw [d];exact fun e x=>p _ (a.sm n o g e x)
 ·intro j g f e
  by_cases c:j=k
  ·simp only [c,if_true] at e
   exact D g e
  ·simp only [c,if_false] at e
   exact p _ (a.sl j g f e)
theorem wL:∀ (l:List Nat) (p:Hp × List Nat) (n:Nat),(l.foldl Hp.Hy p).1.Lv n↔p.1.Lv n
 | [],p,n=>Iff.rfl
 |a::l,p,n=>by
  rw [List.foldl_cons,wL l];unfold Hp.Hy;split
  ·show (∃ o,(p.1.upd a _).ob n=some o)↔_
   unfold Hp.Lv;rw [Hp.Ho];split
   ·cases p.1.ob n<;>simp
   ·rfl
  ·rfl
theorem uh:∀ (l:List Nat) (p:Hp × List Nat),(l.foldl Hp.Hy p).1.finals=p.1.finals/\(l.foldl Hp.Hy p).1.pending.length+(l.foldl Hp.Hy p).2.length=p.1.pending.length+p.2.length+l.length
 | [],p=>⟨rfl,rfl⟩
 |a::l,p=>by
  rw [List.foldl_cons];obtain ⟨h1,h2⟩:=uh l (Hp.Hy p a);rw [h1,h2];unfold Hp.Hy;split
  ·refine ⟨rfl,?_⟩
   show (p.1.pending++[a]).length+p.2.length+l.length=p.1.pending.length+p.2.length+(a::l).length;simp;omega
  ·refine ⟨rfl,?_⟩
   show p.1.pending.length+(p.2++[a]).length+l.length=p.1.pending.length+p.2.length+(a::l).length;simp;omega
theorem Ca (a:M0 base S h G L w) (hl:∀ n∈h.finals,h.Lv n) (d8:h.finals.length+h.pending.length<=5000):
 Calls Tryz.prog 145 #[.pointer (some ⟨L.H,0,none⟩)] w fun e w'=>e=.returned (.tuple #[])/\∃ L',Nf L L'/\M0 base S h.Hw G L' w'/\Keeps w w' S:=by
 obtain ⟨A,M,hv,d4,-⟩:=a.II (k:=15) (by simp [eF]);have c4:=ah (aD.mk' w 72 #[.slice none 0 0]);have b3:=ah (a.hole (.cells #[.slice none 0 0] 72));have HB:=ah (aU w (.cells #[.slice none 0 0] 72));have e3:=ah (show S w.heap.size from a.up _ (au _));have T:=ah a.up;have e5:=ah a.bs;have HL:=ah hl;have HV:Hq (L.li 15=.slice A h.finals.length M):=ah hv;have d9:h.finals.length<=5000:=by omega
 clear a hl hv;go_enter Tryz.func145,Tryz.ntmps145;go_upto_region 1 with (fail)
 generalize w.alloc (.cells #[.slice none 0 0] 72)=w1 at *;have ck:w1.cell? ⟨L.H,15,none⟩=some (.slice A h.finals.length M):=by
  have:=b3.o.hp.c 15;rw [this];exact congrArg some HV.out
 generalize hX:w.heap.size=X at *;have R:=ah hX;clear hX;go_wp2;go_loopw [11] (fun iv wr=>∃ i:Nat,i<=h.finals.length/\iv=.int .i64 i/\Hq (∃ lv li',M0 base (fun b=>(S b/\b≠X)/\lv.ownBlock≠some b) ((h.finals.take i).foldl Hp.Hy (h,[])).1 G ⟨L.H,L.tb,L.es,L.mp,li'⟩ wr/\(∀ j,j≠16->li' j=L.li j)/\aD wr 72 X 1 (fun _=>lv)/\wr.ownsRow base 67 1 lv ((h.finals.take i).foldl Hp.Hy (h,[])).2.length (((h.finals.take i).foldl Hp.Hy (h,[])).2.map (eP L.tb 15))/\(∀ g,lv.ownBlock=some g->X<=g)/\Keeps w wr S)) (fun iv _=>h.finals.length-bF iv)
 case atStart=>
  refine ⟨0,by omega,rfl,.slice none 0 0,L.li,b3.o.mono (fun b hb=>⟨hb,by simp [Value.ownBlock]⟩),fun _ _=>rfl,?_,⟨rfl,.inl ⟨rfl,rfl⟩⟩,fun g e=>by simp [Value.ownBlock] at e,Keeps.of HB.o (aO R.o) S⟩;refine aD.congr (show aD _ _ _ 1 _ from c4.o) (fun j hj=>?_);have:j=0:=by omega
  subst this;rfl
 case round=>
  obtain ⟨i,d7,rfl,HI⟩:=hrel;obtain ⟨lv,C,l,F,D,hown,E,J⟩:=HI.out;by_cases b7:i<h.finals.length
  ·obtain ⟨n,he⟩:∃ n,h.finals[i]?=some n:=⟨_,aN b7⟩
   have a0:=bD he;have q:=wL (h.finals.take i) (h,[]) n;have K:=uh (h.finals.take i) (h,[]);have B:Hq ((h.finals.take (i+1)).foldl Hp.Hy (h,[])=Hp.Hy ((h.finals.take i).foldl Hp.Hy (h,[])) n):=ah (by rw [a0,bE]);obtain ⟨p,hp⟩:∃ p,(h.finals.take i).foldl Hp.Hy (h,[])=p:=⟨_,rfl⟩
   rw [hp] at l hown q K B;obtain ⟨A1,b1,P,b9,z⟩:=l.II (k:=15) (by simp [eF]);have Z:C 15=.slice A h.finals.length M:=(F 15 (by decide)).trans HV.out;have a3:eU p.1 G 15=h.finals:=K.1;rw [a3] at P z;obtain ⟨rfl,rfl⟩:A1=A/\b1=M:=by
    have Q:=P.symm.trans Z;simp at Q;exact Q
   obtain ⟨g,rfl,d2,a8⟩:=z i n he;have d3:wr.cell? ⟨g,i,none⟩=some (.iface 127 (.pointer (some ⟨L.tb n,0,none⟩))):=a8;obtain ⟨o,ho⟩:=q.2 (HL.o n (aX he));have t0:wr.cell? ⟨L.tb n,0,none⟩=some (.int .i64 (o.col:Int)):=(l.ob n o ho).c 0;have t4:wr.cell? ⟨L.tb n,4,none⟩=some (.bool o.fin):=(l.ob n o ho).c 4;have z4:=(l.ob n o ho).ME 4;have a6:=rD (L.tb n);have a5:=iO (L.tb n);have c7:=ah (fun w9=>gV w9 (L.tb n));have HW:=ah (lY wr (L.tb n) o.col t0);have N:Hq (p.1.M5 n=fU o.col):=ah (by unfold Hp.M5;rw [ho]);have d6:p.1.pending.length+p.2.length<=5000:=by
    have Q:=K.2;simp only [bf,List.length_nil] at Q;omega
   have f:=ah (And.intro l (And.intro D (And.intro hown (And.intro E J))));have b2:=ah F;have c5:=ah ho;clear l D hown E J F ho q K a0 z a8 P Z a3 HI he hp t0;cases hw:fU o.col with
   |true=>
    rw [hw] at HW N;have HF:Hq (Hp.Hy p n=(p.1.Kj n,p.2)):=ah (by unfold Hp.Hy;rw [N.o];rfl);clear hw;have r:=ah (f.o.1.Mk n 4 (.bool false) (fun o=>{ o with fin:=false }) (by decide) c5.o ⟨rfl,rfl⟩ (dz _ rfl rfl rfl rfl rfl rfl rfl rfl rfl rfl rfl rfl rfl));go_wp2_with fail;refine HW.o.mono ?_;rintro e1 w2 ⟨rfl,rfl⟩;go_wp2_with fail;refine (c7.o _).mono ?_;rintro e2 w3 ⟨rfl,rfl⟩;go_upto_region 6 with (fail)
    generalize w3.setCell ⟨L.tb n,4,none⟩ (.bool false)=w4 at *;have y:=r.o.1.li 16 (by simp [eF]);have m:((eU (p.1.upd n fun o=>{ o with fin:=false }) G 16).map (eP L.tb 16)).length=(eU (p.1.upd n fun o=>{ o with fin:=false }) G 16).length:=by simp
    have V:=ah (iI w4 base L.H 16 (C 16) ((eU (p.1.upd n fun o=>{ o with fin:=false }) G 16).map (eP L.tb 16)) (L.tb n) (r.o.1.hp.c 16) (r.o.1.hp.ME 16) (by rw [m];exact y) (fun e=>ak y r.o.1.hp (by decide) e) (by rw [m];show p.1.pending.length<=1000000;omega) r.o.1.bs);clear y m t4 z4 a6 a5;go_wp2_with fail;refine V.o.mono ?_;intro e4 w5 a1;obtain ⟨rfl,⟨W,b4,c3,b5,b6⟩,s,a9,a7⟩:=r.o.1.add (k:=16) (by simp [kI]) (n:=n) a1;obtain rfl:W=L.H:=s.H;obtain rfl:b4=L.tb:=s.tb;obtain rfl:c3=L.es:=s.es;obtain rfl:b5=L.mp:=s.mp;have W:=ah (And.intro s.li (And.intro a9 (r.o.2.trans a7)));clear a1 s a9 a7;go_wp2;go_roundw
    case rel=>
     refine ⟨i+1,by omega,by simp,lv,b6,?_,fun j hj=>(W.o.1 j hj).trans (b2.o j hj),f.o.2.1.keep W.o.2.2 (fun c=>c.1.2 rfl),?_,f.o.2.2.2.1,f.o.2.2.2.2.trans (W.o.2.2.mono (fun b c=>c.1.1))⟩
     ·rw [B.o,HF.o];exact W.o.2.1
     ·rw [B.o,HF.o];exact aj f.o.2.2.1 W.o.2.2 (fun g hg c=>c.2 hg)
    case measure=>simp [bF];omega
   |false=>
    rw [hw] at HW N;have HF:Hq (Hp.Hy p n=(p.1,p.2++[n])):=ah (by unfold Hp.Hy;rw [N.o];rfl);clear hw;have hown:=f.o.2.2.1;have m:(p.2.map (eP L.tb 15)).length=p.2.length:=by simp
    have V:=ah (iI wr base X 0 lv (p.2.map (eP L.tb 15)) (L.tb n) (f.o.2.1.c 0) (f.o.2.1.ME 0) (by rw [m];exact hown) (fun e=>ak hown f.o.2.1 (by decide) e) (by rw [m];omega) f.o.1.bs);clear hown m;go_wp2_with fail;refine HW.o.mono ?_;rintro e1 w2 ⟨rfl,rfl⟩;go_wp2_with fail;refine V.o.mono ?_;rintro e4 w5 ⟨rfl,u,t,w4,rfl,h1,h2,h3⟩;have c2:=f.o.2.1.lt;have x:=f.o.2.1.keep h2 (fun c=>ak f.o.2.2.1 f.o.2.1 (by decide) c);have a4:∀ g,(Value.slice u ((p.2.map (eP L.tb 15)).length+1) t).ownBlock=some g->g≠X:=fun g hg c=>ak h1 x (by decide) (c ▸ hg);have Y:Keeps w4 (w4.setCell ⟨X,0,none⟩ (.slice u ((p.2.map (eP L.tb 15)).length+1) t)) (fun b=>b=X):=Keeps.setCell (S:=fun b=>b=X) (Keeps.refl w4 _) rfl _;have k5:Keeps w2 (w4.setCell ⟨X,0,none⟩ (.slice u ((p.2.map (eP L.tb 15)).length+1) t)) (fun b=>¬ ((S b/\b≠X)/\lv.ownBlock≠some b)):=(h2.mono (fun b c d=>d.2 c)).trans (Y.mono (fun b c d=>d.1.2 c));have b0:∀ g,(Value.slice u ((p.2.map (eP L.tb 15)).length+1) t).ownBlock=some g->g<(w4.setCell ⟨X,0,none⟩ (.slice u ((p.2.map (eP L.tb 15)).length+1) t)).heap.size:=fun g hg=>aW (ay h1 hg).lt Y.size;have H5:=ah (f.o.1.LX k5 (v:=.slice u ((p.2.map (eP L.tb 15)).length+1) t) (fun g hg=>by
     rcases h3 g hg with c|c
     ·exact .inl (fun d=>d.2 c)
     ·exact .inr c) b0)
    have c8:=ah (show aD (w4.setCell ⟨X,0,none⟩ (.slice u ((p.2.map (eP L.tb 15)).length+1) t)) 72 X 1 (fun _=>.slice u ((p.2.map (eP L.tb 15)).length+1) t) from (x.set (j:=0) (by omega) _).congr (fun j hj=>by rw [if_pos (by omega)]));have c9:=ah (aj h1 Y (fun g hg=>a4 g hg));have d1:=ah (show ∀ g,(Value.slice u ((p.2.map (eP L.tb 15)).length+1) t).ownBlock=some g->X<=g from fun g hg=>by
     rcases h3 g hg with c|c
     ·exact f.o.2.2.2.1 g c
     ·omega)
    have d0:=ah (show Keeps w (w4.setCell ⟨X,0,none⟩ (.slice u ((p.2.map (eP L.tb 15)).length+1) t)) S from f.o.2.2.2.2.trans ((h2.mono (fun b c=>T.o b (by have:=f.o.2.2.2.1 b c;have:=R.o;omega))).trans (Y.mono (fun b c=>by rw [c];exact T.o _ (au _)))));generalize w4.setCell ⟨X,0,none⟩ (.slice u ((p.2.map (eP L.tb 15)).length+1) t)=w6 at *;clear h1 h2 h3 c2 x a4 Y k5 b0 t4 z4 a6 a5;go_wp2;go_roundw
    case rel=>
     refine ⟨i+1,by omega,by simp,.slice u ((p.2.map (eP L.tb 15)).length+1) t,C,?_,b2.o,c8.o,?_,d1.o,d0.o⟩
     ·rw [B.o,HF.o];exact H5.o.mono (fun b c=>⟨c.1.1,c.2⟩)
     ·rw [B.o,HF.o]
      have Q:=c9.o;simp only [bY] at Q;simp only [bI,List.length_singleton,List.map_append,List.map_cons,List.map_nil,bY];exact Q
    case measure=>simp [bF];omega
  ·have b8:i=h.finals.length:=by omega
   subst b8;rw [bN] at l hown;have c0:wr.cell? ⟨X,0,none⟩=some lv:=D.c 0;obtain ⟨al,kl,q⟩:=aF hown;have c1:wr.cell? ⟨X,0,none⟩=some (.slice al (h.finals.foldl Hp.Hy (h,[])).2.length kl):=by rw [<-q];exact c0
   have e0:wr.cell? ⟨L.H,15,none⟩=some (C 15):=l.hp.c 15;have d5:=l.hp.ME 15;have U:=ah (l.Lx (S':=S) (h':={ (h.finals.foldl Hp.Hy (h,[])).1 with finals:=(h.finals.foldl Hp.Hy (h,[])).2 }) 15 (by simp [eF]) lv hown (fun g hg c=>c.2 hg) (fun b c=>c.1.1) (fun g hg=>T.o g (by have:=E g hg;have:=R.o;omega)) (fun n=>rfl) (fun j hj hn=>by rcases hj with rfl|rfl|rfl|rfl|rfl|rfl|rfl|rfl|rfl<;>first |rfl|exact absurd rfl hn) (bJ _ rfl rfl rfl rfl rfl rfl rfl rfl rfl rfl rfl rfl rfl rfl rfl rfl rfl rfl rfl));have c6:=ah J;rw [q] at U;clear l hown D E J F HI c0 q;go_wp2;go_end0;refine ⟨rfl,_,?_,U.o.1,c6.o.trans U.o.2⟩;exact ⟨rfl,rfl,rfl,rfl⟩
end
section
variable {G G':Gh} {L:PM} {S:Nat->Prop} {base:Nat} {w:World}
theorem MX.of {h g:Hp} (x:MX G h) (e:∀ n,g.Lv n↔h.Lv n):MX G g:=⟨x.up,fun n=>(x.lv n).trans (e n).symm⟩
theorem AU (h:Hp) (l:List Nat):(h.Hu l).nu=h.nu:=dO Hp.mark Hp.Ir l h
theorem Wk.Hu {h:Hp} (k:Wk h) (l:List Nat):Wk (h.Hu l):=k.MQ (Mt.Hu h l) (aO (AU h l))
def Hp.wk (h:Hp) (a b:List Nat):Hp:={ h with weak:=a,G8:=b }
theorem M0.num {h h':Hp} (a:M0 base S h G L w) (k:Nat) (x:Value) (hk:k<19) (b:∀ n,h'.ob n=h.ob n) (c:h'.roots=h.roots/\h'.grey=h.grey/\h'.weak=h.weak/\h'.G8=h.G8/\h'.finals=h.finals/\h'.pending=h.pending/\h'.freed=h.freed) (d:G'.Ns=G.Ns/\G'.ag=G.ag) (e:∀ i,i<19->(if i=k then x else kK h G L i)=kK h' G' L i):
 M0 base S h' G' L (w.setCell ⟨L.H,k,none⟩ x)/\Keeps w (w.setCell ⟨L.H,k,none⟩ x) S:=by
 refine a.hdr k x hk b (fun j hj=>?_) e;obtain ⟨q,p,o,m,l,g,f⟩:=c;obtain ⟨b1,b2⟩:=d;rcases hj with rfl|rfl|rfl|rfl|rfl|rfl|rfl|rfl|rfl
 ·exact b1
 ·exact q
 ·exact p
 ·exact b2
 ·exact o
 ·exact m
 ·exact l
 ·exact g
 ·exact f
theorem zW {h:Hp} (a:M0 base S h G L w) (x:Nk h) (gl:MX G h) (a3:G.Ns.length<=20000) (F:G.ag=h.again):
 Calls Tryz.prog 130 #[.pointer (some ⟨L.H,0,none⟩)] w fun e w'=>e=.returned (.tuple #[])/\∃ L',Nf L L'/\(∃ wk ep,M0 base S (h.atomic.wk wk ep) { G with kept:=0,Ht:=0 } L' w')/\Keeps w w' S:=by
 have k1:=x.k.alive;have R:=x.t.MQ (Mt.alive h);have k2:=k1.drain R;have Q:=R.drain;have k3:=k2.look Q;have P:=Q.He;have T:Wk h.MK:=k3.settle P;have t4:MP h.MK No:=P.settle;have U:Np h.MK (h.MK.weak.foldl Hp.MN h.MK):=Np.fold bU bZ h.MK.weak h.MK;have k5:=T.cnt U;have k6:=T.at2 t4;have t6:=t4.at2;have k7:=k6.Hu h.MK.at2.pending;have N:=t6.MQ (Mt.Hu h.MK.at2 h.MK.at2.pending);have k8:Wk h.MK.at2.at3:=k7.settle N;have t8:MP h.MK.at2.at3 No:=N.settle;have k9:=k8.cnt (Np.at4 h.MK.at2.at3);have v:Np h.MK.at2.at3.at4 (h.MK.at2.at3.at4.weak.foldl Hp.MN h.MK.at2.at3.at4):=Np.fold bU bZ _ _;have A:=k9.cnt v;have m:∀ n,(h.MK.weak.foldl Hp.MN h.MK).Lv n↔h.Lv n:=fun n=>(U.lv n).trans ((jM.MK h).lv n);have g:∀ n,h.MK.at2.Lv n↔h.Lv n:=fun n=>(ou h.MK n).trans ((jM.MK h).lv n);have i:∀ n,(h.MK.at2.at3.at4.weak.foldl Hp.MN h.MK.at2.at3.at4).Lv n↔h.Lv n:=fun n=>(v.lv n).trans (((Np.at4 _).lv n).trans (((M7.at3 _).lv n).trans (g n)));have E:∀ n∈(h.MK.weak.foldl Hp.MN h.MK).finals,(h.MK.weak.foldl Hp.MN h.MK).Lv n:=fun n f=>(m n).2 (x.l n (.inr (.inr (by rw [U.finals,show h.MK.finals=h.finals from (jM.MK h).finals] at f;exact f))));have D:∀ n∈h.MK.at2.pending,h.MK.at2.Lv n:=by
  intro n f;refine (g n).2 ?_;rw [(dX h.MK).2.1,show h.MK.finals=h.finals from (jM.MK h).finals,show h.MK.pending=h.pending from (jM.MK h).pending] at f;rcases eT.1 f with c|c
  ·exact x.l n (.inr (.inl c))
  ·exact x.l n (.inr (.inr (List.mem_filter.1 c).1))
 have r:=ah (gl.of i);have C:h.MK.at2.at3.at4.Mi.white=h.white:=by
  rw [(Np.Mi _).white,(Np.at4 _).white,(M7.at3 _).white,(dX h.MK).2.2.2.2.2.2.1];exact (jM.MK h).white
 have a5:Hq (h.MK.at2.at3.at4.Mi.white<=1):=ah (by rw [C];exact x.w);have p:G.ag=h.alive.drain.again:=by rw [F];exact ((M7.alive h).trans (M7.drain _)).again.symm
 have K1:=ah (And.intro k1 R);have K2:=ah (And.intro k2 (And.intro Q p));have K3:=ah (And.intro k3 P);have K4:=ah T;have K5:=ah (And.intro k5 E);have K6:=ah (And.intro k6 D);have K7:=ah (And.intro k7 N);have K8:=ah k8;have K9:=ah k9;have J:=ah A;have s0:=x.k.s;have a8:=ah (og a (fun n f=>x.l n (.inl f)) (by have:=s0.nu;omega) (by have:=s0.rt;omega) (fun n f=>x.l n (.inr (.inl f))) (by have:=s0.fp;omega));clear a x k1 R k2 Q k3 P T t4 U k5 k6 t6 k7 N k8 t8 k9 v A m g i E D C F p s0 gl;go_enter Tryz.func130,Tryz.ntmps130;go_wp2_with fail;refine a8.o.mono ?_;rintro e1 w1 ⟨rfl,⟨H1,b5,d9,c3,d2⟩,d,b,hk⟩;obtain rfl:H1=L.H:=d.H;have P1:=ah (And.intro d.x (And.intro b hk));clear d b hk;have C2:=ah (kR P1.o.2.1 K1.o.1 K1.o.2);go_wp2_with fail;refine C2.o.mono ?_;rintro e2 w2 ⟨rfl,⟨H2,b4,d8,c2,d1⟩,d,b,hk⟩;obtain rfl:H2=L.H:=d.H;have P2:=ah (And.intro (P1.o.1.trans d) (And.intro b (P1.o.2.2.trans hk)));clear d b hk;have C3:=ah (xH P2.o.2.1 K2.o.2.2 (fun n f=>K2.o.1.l n (.inr (.inl f))) K2.o.1.s.nu);go_wp2_with fail;refine C3.o.mono ?_;rintro e3 w3 ⟨rfl,⟨H3,b3,d7,b9,d0⟩,d,b,hk⟩;obtain rfl:H3=L.H:=d.H;have P3:=ah (And.intro (P2.o.1.trans d.x) (And.intro b (P2.o.2.2.trans hk)));clear d b hk;have C4:=ah (mU P3.o.2.1 K3.o.1 K3.o.2);go_wp2_with fail;refine C4.o.mono ?_;rintro e4 w4 ⟨rfl,⟨H4,b2,d6,b8,c7⟩,d,b,hk⟩;obtain rfl:H4=L.H:=d.H;have Z:=ah (And.intro (P3.o.1.trans d) (And.intro (show M0 base S h.MK G _ w4 from b) (P3.o.2.2.trans hk)));clear d b hk;have C5:=ah (uw Z.o.2.1 K4.o);go_wp2_with fail;refine C5.o.mono ?_;rintro e5 w5 ⟨rfl,b,hk⟩;have P5:=ah (And.intro b (Z.o.2.2.trans hk));clear b hk;have C6:=ah (Ca P5.o.1 K5.o.2 K5.o.1.s.fp);go_wp2_with fail;refine C6.o.mono ?_;rintro e6 w6 ⟨rfl,⟨H6,b1,d5,b7,c6⟩,d,b,hk⟩;obtain rfl:H6=L.H:=d.H;have Y:=ah (And.intro (Z.o.1.trans d) (And.intro (show M0 base S h.MK.at2 G _ w6 from b) (P5.o.2.trans hk)));clear d b hk;have C7:=ah (qz Y.o.2.1 K6.o.2 (by have:=K6.o.1.s.nu;omega) (by have:=K6.o.1.s.fp;omega));go_wp2_with fail;refine C7.o.mono ?_;rintro e7 w7 ⟨rfl,⟨H7,b0,d4,b6,c4⟩,d,b,hk⟩;obtain rfl:H7=L.H:=d.H;have X:=ah (And.intro (Y.o.1.trans d.x) (And.intro b (Y.o.2.2.trans hk)));clear d b hk;have C8:=ah (mU X.o.2.1 K7.o.1 K7.o.2);go_wp2_with fail;refine C8.o.mono ?_;rintro e8 w8 ⟨rfl,⟨H8,a0,a4,a1,a2⟩,d,b,hk⟩;obtain rfl:H8=L.H:=d.H;have W:=ah (And.intro (X.o.1.trans d) (And.intro (show M0 base S h.MK.at2.at3 G _ w8 from b) (X.o.2.2.trans hk)));clear d b hk;have C9:=ah (yV W.o.2.1 K8.o);go_wp2_with fail;refine C9.o.mono ?_;rintro e9 w9 ⟨rfl,b,hk⟩;have P9:=ah (And.intro b (W.o.2.2.trans hk));clear b hk;have M:=ah (uw P9.o.1 K9.o);go_wp2_with fail;refine M.o.mono ?_;rintro f0 a9 ⟨rfl,b,hk⟩;have y:=ah (And.intro b (P9.o.2.trans hk));clear b hk;have K:=ah (Bl y.o.1 J.o r.o a3);go_wp2_with fail;refine K.o.mono ?_;rintro e0 u ⟨rfl,b,hk⟩;have j:=ah (And.intro (show M0 base S h.MK.at2.at3.at4.Mi G _ u from b) (y.o.2.trans hk));clear b hk;have a7:Hq (h.atomic=h.MK.at2.at3.at4.Mi.Mq):=ah rfl;have a6:=ah W.o.1;clear C2 C3 C4 C5 C6 C7 C8 C9 M K P1 P2 P3 Z P5 Y X W P9 y K1 K2 K3 K4 K5 K6 K7 K8 K9 J r;generalize h.MK.at2.at3.at4.Mi=q at *;have d3:=a5.o;have c1:u.cell? ⟨L.H,1,none⟩=some (.int .i64 (q.white:Int)):=j.o.1.hp.c 1;have z1:=j.o.1.hp.ME 1;go_upto_region 12 with (fail)
 have B:(1:Int)-(q.white:Int)=((1-q.white:Nat):Int):=by omega
 have V:=ah (j.o.1.num (h':={ q with white:=1-q.white }) (G':=G) 1 (.int .i64 ((1-q.white:Nat):Int)) (by decide) (fun _=>rfl) ⟨rfl,rfl,rfl,rfl,rfl,rfl,rfl⟩ ⟨rfl,rfl⟩ (bJ _ rfl rfl rfl rfl rfl rfl rfl rfl rfl rfl rfl rfl rfl rfl rfl rfl rfl rfl rfl));rw [B];clear B c1 z1;generalize u.setCell ⟨L.H,1,none⟩ (.int .i64 ((1-q.white:Nat):Int))=w12 at *;have c0:w12.cell? ⟨L.H,0,none⟩=some (.int .i64 (q.state:Int)):=V.o.1.hp.c 0;have z0:=V.o.1.hp.ME 0;go_upto_region 13 with (fail)
 have z:=ah (V.o.1.num (h':={ q with white:=1-q.white,state:=2 }) (G':=G) 0 (.int .i64 2) (by decide) (fun _=>rfl) ⟨rfl,rfl,rfl,rfl,rfl,rfl,rfl⟩ ⟨rfl,rfl⟩ (bJ _ rfl rfl rfl rfl rfl rfl rfl rfl rfl rfl rfl rfl rfl rfl rfl rfl rfl rfl rfl));clear c0 z0;generalize w12.setCell ⟨L.H,0,none⟩ (.int .i64 2)=w13 at *;have c8:w13.cell? ⟨L.H,8,none⟩=some (.int .i64 (G.kept:Int)):=z.o.1.hp.c 8;have z8:=z.o.1.hp.ME 8;have c9:w13.cell? ⟨L.H,9,none⟩=some (.int .i64 (G.Ht:Int)):=z.o.1.hp.c 9;have z9:=z.o.1.hp.ME 9;have Q3:=ah (z.o.1.num (h':={ q with white:=1-q.white,state:=2 }) (G':={ G with kept:=0 }) 8 (.int .i64 0) (by decide) (fun _=>rfl) ⟨rfl,rfl,rfl,rfl,rfl,rfl,rfl⟩ ⟨rfl,rfl⟩ (bJ _ rfl rfl rfl rfl rfl rfl rfl rfl rfl rfl rfl rfl rfl rfl rfl rfl rfl rfl rfl));have Q4:=ah (Q3.o.1.num (h':={ q with white:=1-q.white,state:=2 }) (G':={ G with kept:=0,Ht:=0 }) 9 (.int .i64 0) (by decide) (fun _=>rfl) ⟨rfl,rfl,rfl,rfl,rfl,rfl,rfl⟩ ⟨rfl,rfl⟩ (bJ _ rfl rfl rfl rfl rfl rfl rfl rfl rfl rfl rfl rfl rfl rfl rfl rfl rfl rfl rfl));go_wp2;go_end0;refine ⟨rfl,⟨L.H,a0,a4,a1,a2⟩,a6.o,⟨q.weak,q.G8,?_⟩,(((j.o.2.trans V.o.2).trans z.o.2).trans Q3.o.2).trans Q4.o.2⟩;rw [a7.o];exact Q4.o.1.aux q.again 1
end
section
variable {G:Gh} {L:PM} {S:Nat->Prop} {base:Nat} {h:Hp} {w:World} {x y:List Nat}
theorem M0.Lr (a:M0 base S h G L w) (k:Nat) (hk:kI k):∃ L',Nf L L'/\M0 base S (iN h k []) G L' (w.setCell ⟨L.H,k,none⟩ (.slice none 0 0))/\Keeps w (w.setCell ⟨L.H,k,none⟩ (.slice none 0 0)) S:=by
 obtain ⟨-,c,b⟩:=a.JW (h':=iN h k []) (G':=G) (w1:=w) k hk.p (Keeps.refl w _) (.slice none 0 0) (by rw [lF hk];exact ⟨rfl,.inl ⟨rfl,rfl⟩⟩) (fun g e=>by simp [Value.ownBlock] at e) (jE h k _) (fun j hj hn=>jD hk hj hn _) (kQ hk _ _);refine ⟨_,?_,c,b⟩;exact ⟨rfl,rfl,rfl,rfl⟩
theorem M0.L_ (a:M0 base S h G L w):∃ L',Nf L L'/\M0 base S h { G with ag:=[] } L' (w.setCell ⟨L.H,12,none⟩ (.slice none 0 0))/\Keeps w (w.setCell ⟨L.H,12,none⟩ (.slice none 0 0)) S:=by
 obtain ⟨-,c,b⟩:=a.JW (h':=h) (G':={ G with ag:=[] }) (w1:=w) 12 (by simp [eF]) (Keeps.refl w _) (.slice none 0 0) ⟨rfl,.inl ⟨rfl,rfl⟩⟩ (fun g e=>by simp [Value.ownBlock] at e) (fun _=>rfl) (fun j hj hn=>by rcases hj with rfl|rfl|rfl|rfl|rfl|rfl|rfl|rfl|rfl<;>first |rfl|exact absurd rfl hn) (bJ _ rfl rfl rfl rfl rfl rfl rfl rfl rfl rfl rfl rfl rfl rfl rfl rfl rfl rfl rfl);refine ⟨_,?_,c,b⟩;exact ⟨rfl,rfl,rfl,rfl⟩
theorem uW (a:M0 base S (h.wk x y) G L w) (s:Sm h) (j:∀ n,n∈h.roots∨n∈h.pending->h.Lv n):
 Calls Tryz.prog 83 #[.pointer (some ⟨L.H,0,none⟩)] w fun e w'=>e=.returned (.tuple #[])/\∃ L',Nf L L'/\M0 base S h.begin { G with ag:=[] } L' w'/\Keeps w w' S:=by
 have c0:w.cell? ⟨L.H,0,none⟩=some (.int .i64 (h.state:Int)):=a.hp.c 0;have R:=a.hp.ME 0;have b:=ah (a.num (h':={ h.wk x y with state:=1 }) (G':=G) 0 (.int .i64 1) (by decide) (fun _=>rfl) ⟨rfl,rfl,rfl,rfl,rfl,rfl,rfl⟩ ⟨rfl,rfl⟩ (bJ _ rfl rfl rfl rfl rfl rfl rfl rfl rfl rfl rfl rfl rfl rfl rfl rfl rfl rfl rfl));have z:=ah (And.intro s.Ii j);have Q:=ah s;clear a s j;go_enter Tryz.func83,Tryz.ntmps83;go_upto_region 1 with (fail)
 generalize w.setCell ⟨L.H,0,none⟩ (.int .i64 1)=w1 at *;obtain ⟨L1,i,N,E⟩:=b.o.1.Lr 11 (by simp [kI]);obtain ⟨H1,W,b2,a0,a8⟩:=L1;obtain rfl:H1=L.H:=i.H;obtain ⟨L2,g,M,D⟩:=N.L_;obtain ⟨H2,V,b1,Z,a7⟩:=L2;obtain rfl:H2=L.H:=g.H;obtain ⟨L3,f,K,C⟩:=M.Lr 13 (by simp [kI]);obtain ⟨H3,U,b0,Y,a6⟩:=L3;obtain rfl:H3=L.H:=f.H;obtain ⟨L4,d,J,B⟩:=K.Lr 14 (by simp [kI]);obtain ⟨H4,T,a9,X,a5⟩:=L4;obtain rfl:H4=L.H:=d.H;have u:w1.cell? ⟨L.H,11,none⟩=some (L.li 11):=b.o.1.hp.c 11;have t:w1.cell? ⟨L.H,12,none⟩=some (L.li 12):=b.o.1.hp.c 12;have r:w1.cell? ⟨L.H,13,none⟩=some (L.li 13):=b.o.1.hp.c 13;have q:w1.cell? ⟨L.H,14,none⟩=some (L.li 14):=b.o.1.hp.c 14;have p:=b.o.1.hp.ME 11;have m:=b.o.1.hp.ME 12;have l:=b.o.1.hp.ME 13;have k:=b.o.1.hp.ME 14;have A4:=ah (show M0 base S h.Ii { G with ag:=[] } _ _ from J.aux [] h.G9);have P:=ah (And.intro ((i.trans g).trans (f.trans d)) (((b.o.2.trans E).trans D).trans (C.trans B)));clear N M K J E D C B i g f d b c0 R;go_upto_region 3 with (fail)
 generalize (((w1.setCell ⟨L.H,11,none⟩ (.slice none 0 0)).setCell ⟨L.H,12,none⟩ (.slice none 0 0)).setCell ⟨L.H,13,none⟩ (.slice none 0 0)).setCell ⟨L.H,14,none⟩ (.slice none 0 0)=w5 at *;have A:=ah (og A4.o (fun n hn=>z.o.2 n (.inl hn)) (by have:=z.o.1.nu;omega) (by have:=Q.o.rt;show h.roots.length<=20000;omega) (fun n hn=>z.o.2 n (.inr hn)) (by have:=Q.o.fp;show h.pending.length<=20000;omega));clear u t r q p m l k;go_wp2_with fail;refine A.o.mono ?_;rintro e1 w6 ⟨rfl,L6,j,F,hk⟩;have v:=ah (And.intro j.x (And.intro F hk));clear j F hk;go_wp2;go_end0;exact ⟨rfl,L6,P.o.1.trans v.o.1,v.o.2.1,P.o.2.trans v.o.2.2⟩
end
section
variable {G:Gh} {L:PM} {S:Nat->Prop} {base n:Nat} {h:Hp} {o:Ob} {w:World}
theorem Gf (tb:Nat->Nat) (l:List Nat):l.map (eP tb 18)=eu l:=rfl
theorem xU (a:M0 base S h G L w) (ho:h.ob n=some o) (P:1<=h.live) (N:h.live<=20000) (t:40+40*o.es.length<=h.bytes) (R:h.bytes<=300000) (Q:h.freed.length<=20000):
 Calls Tryz.prog 139 #[.pointer (some ⟨L.H,0,none⟩),.pointer (some ⟨L.tb n,0,none⟩)] w fun e w'=>e=.returned (.tuple #[])/\∃ L',Nf L L'/\M0 base S { h with live:=h.live-1,bytes:=h.bytes-(40+40*o.es.length),freed:=h.freed++[n] } G L' w'/\Keeps w w' S:=by
 have X:w.cell? ⟨L.H,3,none⟩=some (.int .i64 (h.live:Int)):=a.hp.c 3;have D:=a.hp.ME 3;have q:=ah (a.num (h':={ h with live:=h.live-1 }) (G':=G) 3 (.int .i64 ((h.live-1:Nat):Int)) (by decide) (fun _=>rfl) ⟨rfl,rfl,rfl,rfl,rfl,rfl,rfl⟩ ⟨rfl,rfl⟩ (bJ _ rfl rfl rfl rfl rfl rfl rfl rfl rfl rfl rfl rfl rfl rfl rfl rfl rfl rfl rfl));have A:=ah ho;clear a ho;go_enter Tryz.func139,Tryz.ntmps139;go_upto_region 1 with (fail)
 rw [show (h.live:Int)-1=((h.live-1:Nat):Int) by omega];generalize w.setCell ⟨L.H,3,none⟩ (.int .i64 ((h.live-1:Nat):Int))=w1 at *;clear X D;have W:w1.cell? ⟨L.H,4,none⟩=some (.int .i64 (h.bytes:Int)):=q.o.1.hp.c 4;have C:=q.o.1.hp.ME 4;have B:w1.cell? ⟨L.tb n,2,none⟩=some (.int .i64 ((40+40*o.es.length:Nat):Int)):=(q.o.1.ob n o A.o).c 2;have r:=ah (q.o.1.num (h':={ h with live:=h.live-1,bytes:=h.bytes-(40+40*o.es.length) }) (G':=G) 4 (.int .i64 ((h.bytes-(40+40*o.es.length):Nat):Int)) (by decide) (fun _=>rfl) ⟨rfl,rfl,rfl,rfl,rfl,rfl,rfl⟩ ⟨rfl,rfl⟩ (bJ _ rfl rfl rfl rfl rfl rfl rfl rfl rfl rfl rfl rfl rfl rfl rfl rfl rfl rfl rfl));obtain ⟨z,s⟩:∃ z:Nat,z=40+40*o.es.length:=⟨_,rfl⟩
 rw [<-s] at B r t;have HZ:=ah s;clear s;go_wp2_with fail
 go_region
 rw [show (h.bytes:Int)-(z:Int)=((h.bytes-z:Nat):Int) by omega];have p:∀ x:World,x.drew=x.drewN 1:=fun x=>rfl;rw [p];have d:=ah (And.intro (r.o.1.low (aC (aT _ _) 1)) (r.o.2.trans (Keeps.of (aC (aT _ _) 1) (au _) S)));generalize (w1.setCell ⟨L.H,4,none⟩ (.int .i64 ((h.bytes-z:Nat):Int))).drewN 1=w2 at *;clear W C B p r;have Z:w2.cell? ⟨L.H,17,none⟩=some (.bool true):=d.o.1.hp.c 17;have t1:w2.cell? ⟨L.tb n,1,none⟩=some (.int .i64 (n:Int)):=(d.o.1.ob n o A.o).c 1;have g:=d.o.1.li 18 (by simp [eF]);rw [show eU { h with live:=h.live-1,bytes:=h.bytes-z } G 18=h.freed from rfl,Gf] at g;obtain ⟨y,v,k⟩:=aF g;have Y:w2.cell? ⟨L.H,18,none⟩=some (.slice y h.freed.length v):=by
  have:=d.o.1.hp.c 18;rw [this];exact congrArg some k
 have E:=d.o.1.hp.ME 18;have b:=ah (And.intro k g);have T:=d.o.1.hp.lt;have M:=(d.o.1.ob n o A.o).lt;clear k g;go_wp2_with fail
 go_region_law (
  refine kW (wr:=w2) _ _ rfl base (.slice y h.freed.length v) h.freed n (by have:=b.o.2;rw [b.o.1] at this;exact this) rfl rfl (by omega) d.o.1.bs ?_;intro v' J i m l;obtain ⟨a8,K,rfl⟩:=aF i;have f:=d.o.1.JW (h':=iN { h with live:=h.live-1,bytes:=h.bytes-z } 18 (h.freed++[n])) (G':=G) 18 (by simp [eF]) (by rw [b.o.1];exact m) (.slice a8 (h.freed++[n]).length K) i (by rw [b.o.1];exact l) (jE _ _ _) (fun j hj hn=>jD (by simp [kI]) hj hn _) (kQ (by simp [kI]) _ _);have V:J.cell? ⟨L.H,18,none⟩=some (.slice y h.freed.length v):=by
   have:=f.1.c 18;rw [this];exact congrArg some b.o.1
  have F:=f.1.ME 18;have H8:=ah f.2;clear i m l f)
 all_goals
  go_wp2;go_end0;have u:=H8.o;have U:(h.freed++[n]).length=h.freed.length+1:=by simp
  rw [U] at u;rw [<-HZ.o];refine ⟨rfl,_,?_,u.1,(q.o.2.trans d.o.2).trans u.2⟩;exact ⟨rfl,rfl,rfl,rfl⟩
end
section
variable {T TS base c cap k n s:Nat} {w:World} {xs:List Value}
theorem CJ (a:Array Value) (n:Nat):(Builtin.zeroCells a n).toList.length=n*a.size:=by simp [Builtin.zeroCells]
theorem Ef (a:Array Value) (n:Nat) (h:∀ u∈a.toList,u.oneCell'=true):∀ u∈(Builtin.zeroCells a n).toList,u.oneCell'=true:=by
 intro u d;simp only [Builtin.zeroCells,Array.toList_map,List.mem_map] at d;obtain ⟨i,hi,rfl⟩:=d;have b:i<n*a.size:=by simpa using hi
 have e:0<a.size:=by
  rcases Nat.eq_zero_or_pos a.size with c|c
  ·rw [c] at b;simp at b
  ·exact c
 have hm:=Nat.mod_lt i e;rw [getElem!_pos a (i%a.size) hm];exact h _ (by simp)
theorem mK {g:Nat} {z:Value} (E:Tryz.prog.underlying TS=some (.slice T)) (A:∀ w,(zeroValue T).run Tryz.prog w=.ok z w) (l:z.cells.size=s) (F:∀ u∈z.cells.toList,u.oneCell'=true)
 (hown:w.ownsRow base T s (.slice (some ⟨g,0,none⟩) n cap) n xs) (hk:k<n) (y:TypeId):∃ w1,(Builtin.clear_ #[TS] y #[.slice (some ⟨g,k*s,none⟩) (n-k) c]).run Tryz.prog w=.ok (.tuple #[]) w1/\w1.ownsRow base T s (.slice (some ⟨g,0,none⟩) k cap) k (xs.take (k*s))/\Keeps w w1 (fun b=>b=g)/\w1.heap.size=w.heap.size:=by
 have o:=hown;obtain ⟨D,f⟩:=hown;rcases f with ⟨j,_⟩|⟨G,x,a,j,r,v,p,q,i,B⟩
 ·cases j
 ·simp only [Value.slice.injEq,Option.some.injEq,Addr.mk.injEq,true_and,and_true] at j
  obtain ⟨rfl,rfl⟩:=j;have C:(n-k)*s+k*s=n*s:=by rw [<-Nat.add_mul,Nat.sub_add_cancel (dh hk)]
  have t:n*s<=cap*s:=Nat.mul_le_mul_right _ p;have e:=CJ z.cells (n-k);rw [l] at e;have d:=run_storeCells_at (P:=Tryz.prog) g (k*s) T (Builtin.zeroCells z.cells (n-k)).toList 0 a w v (by rw [e];omega) (Ef _ _ F);rw [Nat.add_zero,e,show k*s+(n-k)*s=n*s by omega] at d;have h:(a.toList.take (k*s)++(Builtin.zeroCells z.cells (n-k)).toList++a.toList.drop (n*s)).length=cap*s:=by
   rw [bI,bI,e,bf,List.length_drop,Array.length_toList,i];omega
  refine ⟨w.setRow g (a.toList.take (k*s)++(Builtin.zeroCells z.cells (n-k)).toList++a.toList.drop (n*s)).toArray,?_,⟨?_,.inr ⟨g,cap,_,rfl,r,setRow_heap w g a _ T (0,0) v,by omega,q,by rw [List.size_toArray];exact h,?_⟩⟩,⟨rfl,rfl,rfl,aO (setRow_size w g _).symm,fun b hb hn=>setRow_other w g b _ hn⟩,setRow_size w g _⟩
  ·obtain ⟨m,hm⟩:∃ m,n-k=m+1:=⟨n-k-1,by omega⟩
   rw [hm] at d ⊢;simp only [Builtin.clear_,Sem.run_bind,run_underlying E,Result.andThen_ok,A,d,Sem.run_pure,List.getElem?_toArray,List.getElem?_cons_zero]
  ·rw [bf,D];omega
  ·show ((a.toList.take (k*s)++(Builtin.zeroCells z.cells (n-k)).toList++a.toList.drop (n*s)).take (k*s))=xs.take (k*s)
   rw [List.append_assoc,List.take_append_of_le_length (by rw [bf,Array.length_toList,i];omega),List.take_take,Nat.min_self,<-B,List.take_take,Nat.min_eq_left (by omega)]
theorem kN (b:Tryz.prog.underlying TS=some (.slice T)) (A:Option Addr) (c:Nat) (d:TypeId):(Builtin.clear_ #[TS] d #[.slice A 0 c]).run Tryz.prog w=.ok (.tuple #[]) w:=by
 cases A with
 |none=>simp only [Builtin.clear_,Sem.run_bind,run_underlying b,Result.andThen_ok,Sem.run_pure,List.getElem?_toArray,List.getElem?_cons_zero]
 |some a=>simp only [Builtin.clear_,Sem.run_bind,run_underlying b,Result.andThen_ok,Sem.run_pure,List.getElem?_toArray,List.getElem?_cons_zero]
end
section
variable {G:Gh} {L:PM} {S:Nat->Prop} {base cap k n:Nat} {h:Hp} {l:List Value} {w w1:World}
theorem tX (w:World):(zeroValue 67).run Tryz.prog w=.ok .nilIface w:=by kernel_rfl
theorem M0.Md (a:M0 base S h G L w) (hk:G.kept<=G.Ns.length) {A:Option Addr} (f:L.li 7=.slice A G.Ns.length cap) (kk:Keeps w w1 (fun b=>(L.li 7).ownBlock=some b)) (ho:w1.ownsRow base 67 1 (.slice A G.kept cap) G.kept ((G.Ns.take G.kept).map (eP L.tb 7))):
 aD w1 77 L.H 19 (kK h G L)/\∃ L',Nf L L'/\M0 base S h { G with Ns:=G.Ns.take G.kept } L' (w1.setCell ⟨L.H,7,none⟩ (.slice A G.kept cap))/\Keeps w (w1.setCell ⟨L.H,7,none⟩ (.slice A G.kept cap)) S:=by
 have i:(G.Ns.take G.kept).length=G.kept:=by rw [bf];omega
 obtain ⟨p1,d,c⟩:=a.JW (h':=h) (G':={ G with Ns:=G.Ns.take G.kept }) 7 (by simp [eF]) kk (.slice A G.kept cap) (by show w1.ownsRow base _ 1 _ (G.Ns.take G.kept).length _;rw [i];exact ho) (fun g e=>.inl (by rw [f];cases A<;>simp [Value.ownBlock] at e ⊢;exact e)) (fun _=>rfl) (fun j hj hn=>by rcases hj with rfl|rfl|rfl|rfl|rfl|rfl|rfl|rfl|rfl<;>first |rfl|exact absurd rfl hn) (bJ _ rfl rfl rfl rfl rfl rfl rfl rfl rfl rfl rfl rfl rfl rfl rfl rfl rfl rfl rfl);refine ⟨p1,_,?_,d,c⟩;exact ⟨rfl,rfl,rfl,rfl⟩
theorem mq {A:Option Addr} (h:w.ownsRow base 67 1 (.slice A n cap) n l) (hk:k<=n):w.ownsRow base 67 1 (.slice A k cap) k (l.take k):=by
 have:=lJ h hk;rw [Nat.mul_one] at this;exact this
theorem CY (a:M0 base S h G L w) (hk:G.kept<=G.Ns.length) (T:G.Ns.length<=20000) (b2:h.bytes<=300000):
 Calls Tryz.prog 140 #[.pointer (some ⟨L.H,0,none⟩)] w fun e w'=>e=.returned (.tuple #[])/\∃ L',Nf L L'/\M0 base S { h with state:=0,limit:=max (2*h.bytes) 4096,G6:=0 } { G with Ns:=G.Ns.take G.kept } L' w'/\Keeps w w' S:=by
 have z:=a.li 7 (by simp [eF]);obtain ⟨A,cap,hv⟩:=aF z;have t:L.li 7=.slice A G.Ns.length cap:=hv;have q:G.Ns.length<=cap:=by
  obtain ⟨A',r,a2,a4,-⟩:=a.II (k:=7) (by simp [eF]);have h9:=t.symm.trans a2;simp only [Value.slice.injEq] at h9;rw [h9.2.2];exact a4
 have E:w.cell? ⟨L.H,7,none⟩=some (.slice A G.Ns.length cap):=by
  have:=a.hp.c 7;rw [this];exact congrArg some t
 have R:w.cell? ⟨L.H,8,none⟩=some (.int .i64 (G.kept:Int)):=a.hp.c 8;have a0:=a.hp.lt;have Y:(L.li 7).ownBlock≠some L.H:=fun e=>ak z a.hp (by decide) e;have HA:=ah a;have HV:=ah t;have f:=ah (show w.ownsRow base 67 1 (.slice A G.Ns.length cap) G.Ns.length (G.Ns.map (eP L.tb 7)) from by rw [<-t];exact z);have a7:=ah Y;have W:(G.kept:Int)<=cap:=by omega
 have B:(G.kept:Int)<=G.Ns.length:=by omega
 have y:A=none->G.Ns.length=0/\cap=0:=by
  intro hA;rcases f.o.2 with ⟨d,Q⟩|⟨g,r,P,d,_⟩
  ·rw [hA] at d
   simp only [Value.slice.injEq] at d;exact ⟨Q,d.2.2⟩
  ·rw [hA] at d
   simp at d
 clear a z hv t Y;go_enter Tryz.func140,Tryz.ntmps140;go_wp2_with fail
 go_cut [] (fun wc=>Hq (Keeps w wc (fun b=>(L.li 7).ownBlock=some b)/\wc.ownsRow base 67 1 (.slice A G.kept cap) G.kept ((G.Ns.take G.kept).map (eP L.tb 7))))
 case first=>
  cases hA:A with
  |none=>
   obtain ⟨V,U⟩:=y hA;have j:G.kept=0:=by omega
   subst hA;rw [V,U] at E f;rw [j] at R;subst U;have a6:=ah j;clear y V j W B q hk T;have C:=kN (w:=w.drew) Tryz.underlying70 none 0 0
   go_region_held3 (fun w'=>w'.cell? ⟨L.H,7,none⟩=some (.slice none 0 0)/\w'.cell? ⟨L.H,8,none⟩=some (.int .i64 0)) (go_keep)
    (fail)
   go_wp2_with fail;go_meet;refine ⟨Keeps.of (aC (aT w.heap.size w) 1) (au _) _,?_⟩;rw [a6.o];exact ⟨rfl,.inl ⟨rfl,rfl⟩⟩
  |some x=>
   obtain ⟨g,rfl⟩:∃ g,x=⟨g,0,none⟩:=by
    rcases f.o.2 with ⟨d,Q⟩|⟨g,r,P,d,_⟩
    ·rw [hA] at d;cases d
    ·rw [hA] at d
     simp only [Value.slice.injEq,Option.some.injEq] at d;exact ⟨g,d.1⟩
   subst hA;clear y;by_cases M:cap=G.kept
   ·have K:G.Ns.length=G.kept:=by omega
    rw [K,M] at E;have a5:=ah (And.intro K M);clear K M q B;have C:=kN (w:=w.drew) Tryz.underlying70 (some ⟨g,0,none⟩) 0 0
    go_region_held3 (fun w'=>w'.cell? ⟨L.H,7,none⟩=some (.slice (some ⟨g,0,none⟩) G.kept G.kept)/\w'.cell? ⟨L.H,8,none⟩=some (.int .i64 (G.kept:Int))) (go_keep)
     (fail)
    go_wp2_with fail;go_meet;refine ⟨Keeps.of (aC (aT w.heap.size w) 1) (au _) _,?_⟩;rw [List.map_take];exact mq (aj f.o (Keeps.of (aC (aT w.heap.size w) 1) (au _) (fun _=>False)) (fun _ _ x=>x)) hk
   ·by_cases i:G.kept=G.Ns.length
    ·rw [<-i] at E
     have a5:=ah i;clear i q B;have C:=kN (w:=w.drew) Tryz.underlying70 (some ⟨g,G.kept,none⟩) (cap-G.kept) 0
     go_region_held3 (fun w'=>w'.cell? ⟨L.H,7,none⟩=some (.slice (some ⟨g,0,none⟩) G.kept cap)/\w'.cell? ⟨L.H,8,none⟩=some (.int .i64 (G.kept:Int))) (go_keep)
      (fail)
     go_wp2_with fail;go_meet;refine ⟨Keeps.of (aC (aT w.heap.size w) 1) (au _) _,?_⟩;rw [List.map_take];exact mq (aj f.o (Keeps.of (aC (aT w.heap.size w) 1) (au _) (fun _=>False)) (fun _ _ x=>x)) hk
    ·obtain ⟨w1,C,J,p,a3⟩:=mK (w:=w.drew) (c:=cap-G.kept) Tryz.underlying70 tX (s:=1) rfl (fun u hu=>by simp [Value.cells] at hu;subst hu;rfl) (aj f.o (Keeps.of (aC (aT w.heap.size w) 1) (au _) (fun _=>False)) (fun _ _ x=>x)) (show G.kept<G.Ns.length by omega) 0
     rw [Nat.mul_one] at C J;have a1:L.H≠g:=fun e=>a7.o (by rw [HV.out,e];simp [Value.ownBlock]);have t7:w1.cell? ⟨L.H,7,none⟩=some (.slice (some ⟨g,0,none⟩) G.Ns.length cap):=(bM (a:=⟨L.H,7,none⟩) (p.block _ a0 a1)).trans E;have t8:w1.cell? ⟨L.H,8,none⟩=some (.int .i64 (G.kept:Int)):=(bM (a:=⟨L.H,8,none⟩) (p.block _ a0 a1)).trans R;have H1:=ah (And.intro J p);clear J p a3;have b1:(G.kept:Int)<G.Ns.length:=by omega
     go_region_held3 (fun w'=>w'.cell? ⟨L.H,7,none⟩=some (.slice (some ⟨g,0,none⟩) G.Ns.length cap)/\w'.cell? ⟨L.H,8,none⟩=some (.int .i64 (G.kept:Int))) (go_keep)
      (fail)
     go_wp2_with fail;go_meet;refine ⟨(Keeps.of (aC (aT w.heap.size w) 1) (au _) _).trans (H1.o.2.mono (fun b e=>by rw [HV.out,e];simp [Value.ownBlock])),?_⟩;rw [List.map_take];exact H1.o.1
 case rest=>
 rename World=>w1;have m:=hcut;have HK:=ah (HA.o.Md hk HV.out m.out.1 m.out.2);clear hcut m E R y;obtain ⟨v,L2,F,X,D⟩:=HK.o;obtain ⟨H2,a8,b3,a9,b0⟩:=L2;obtain rfl:H2=L.H:=F.H;have E:w1.cell? ⟨L.H,7,none⟩=some (.slice A G.Ns.length cap):=by
  have:=v.c 7;rw [this];exact congrArg some HV.out
 have R:w1.cell? ⟨L.H,8,none⟩=some (.int .i64 (G.kept:Int)):=v.c 8;have z7:=v.ME 7;have P2:=ah (And.intro F (And.intro (X.low (aC (aT _ _) 1)) (D.trans (Keeps.of (aC (aT _ _) 1) (au _) S))));have Z:=v.lt;clear v F X D HK;go_wp2_with fail
 go_cut [] (fun wc=>wc=(w1.setCell ⟨L.H,7,none⟩ (.slice A G.kept cap)).drewN 1)
 case first=>
  cases hA:A with
  |none=>
   rcases f.o.2 with ⟨d,Q⟩|⟨g,r,P,d,_⟩
   ·rw [hA] at d
    simp only [Value.slice.injEq] at d;have N:cap=0:=d.2.2;have j:G.kept=0:=by omega
    subst hA;rw [Q,N] at E;rw [j] at R;have HZ:=ah (And.intro N j);clear d Q N j W B hk T q
    go_region
    go_wp2_with fail;go_meet;rw [HZ.o.1,HZ.o.2];rfl
   ·rw [hA] at d;simp at d
  |some x=>
   obtain ⟨g,rfl⟩:∃ g,x=⟨g,0,none⟩:=by
    rcases f.o.2 with ⟨d,Q⟩|⟨g,r,P,d,_⟩
    ·rw [hA] at d;cases d
    ·rw [hA] at d
     simp only [Value.slice.injEq,Option.some.injEq] at d;exact ⟨g,d.1⟩
   subst hA
   go_region
   go_wp2_with fail;go_meet;rfl
 case rest=>
 obtain rfl:=hcut;generalize (w1.setCell ⟨L.H,7,none⟩ (.slice A G.kept cap)).drewN 1=w2 at *;clear E R z7 Z;have c0:w2.cell? ⟨L.H,0,none⟩=some (.int .i64 (h.state:Int)):=P2.o.2.1.hp.c 0;have z0:=P2.o.2.1.hp.ME 0;have Q0:=ah (P2.o.2.1.num (h':={ h with state:=0 }) (G':={ G with Ns:=G.Ns.take G.kept }) 0 (.int .i64 0) (by decide) (fun _=>rfl) ⟨rfl,rfl,rfl,rfl,rfl,rfl,rfl⟩ ⟨rfl,rfl⟩ (bJ _ rfl rfl rfl rfl rfl rfl rfl rfl rfl rfl rfl rfl rfl rfl rfl rfl rfl rfl rfl));go_upto_region 3 with (fail)
 generalize w2.setCell ⟨L.H,0,none⟩ (.int .i64 0)=w3 at *;clear c0 z0;have c4:w3.cell? ⟨L.H,4,none⟩=some (.int .i64 (h.bytes:Int)):=Q0.o.1.hp.c 4;have c6:w3.cell? ⟨L.H,6,none⟩=some (.int .i64 (h.limit:Int)):=Q0.o.1.hp.c 6;have z6:=Q0.o.1.hp.ME 6;have Q1:=ah (Q0.o.1.num (h':={ h with state:=0,limit:=max (2*h.bytes) 4096 }) (G':={ G with Ns:=G.Ns.take G.kept }) 6 (.int .i64 ((max (2*h.bytes) 4096:Nat):Int)) (by decide) (fun _=>rfl) ⟨rfl,rfl,rfl,rfl,rfl,rfl,rfl⟩ ⟨rfl,rfl⟩ (bJ _ rfl rfl rfl rfl rfl rfl rfl rfl rfl rfl rfl rfl rfl rfl rfl rfl rfl rfl rfl));go_upto_region 4 with (fail)
 rw [show (if 2*(h.bytes:Int)<4096 then (4096:Int) else 2*(h.bytes:Int))=((max (2*h.bytes) 4096:Nat):Int) by split<;>omega];generalize w3.setCell ⟨L.H,6,none⟩ (.int .i64 ((max (2*h.bytes) 4096:Nat):Int))=w4 at *;clear c4 c6 z6;have c5:w4.cell? ⟨L.H,5,none⟩=some (.int .i64 (h.G6:Int)):=Q1.o.1.hp.c 5;have z5:=Q1.o.1.hp.ME 5;have Q2:=ah (Q1.o.1.num (h':={ h with state:=0,limit:=max (2*h.bytes) 4096,G6:=0 }) (G':={ G with Ns:=G.Ns.take G.kept }) 5 (.int .i64 0) (by decide) (fun _=>rfl) ⟨rfl,rfl,rfl,rfl,rfl,rfl,rfl⟩ ⟨rfl,rfl⟩ (bJ _ rfl rfl rfl rfl rfl rfl rfl rfl rfl rfl rfl rfl rfl rfl rfl rfl rfl rfl rfl));go_wp2;go_end0;exact ⟨rfl,_,P2.o.1,Q2.o.1,((P2.o.2.2.trans Q0.o.2).trans Q1.o.2).trans Q2.o.2⟩
end
section
variable {G:Gh} {c c' k n:Nat} {g h:Hp}
structure Nh (G:Gh) (h:Hp) (c:Nat):Prop where
 ks:G.kept<=G.Ht
 sl:G.Ht<=G.Ns.length
 ku:(G.Ns.take G.kept).Pairwise (·< ·)
 kl:∀ n,n∈G.Ns.take G.kept↔h.Lv n/\n<c
 du:(G.Ns.drop G.Ht).Pairwise (·< ·)
 dl:∀ n,n∈G.Ns.drop G.Ht↔h.Lv n/\c<=n
theorem Nh.move (x:Nh G h c) (b:c<=c') (a:∀ m,c<=m->m<c'->¬ h.Lv m):Nh G h c':=by
 refine ⟨x.ks,x.sl,x.ku,fun n=>(x.kl n).trans ⟨fun e=>⟨e.1,by omega⟩,fun e=>⟨e.1,?_⟩⟩,x.du,fun n=>(x.dl n).trans ⟨fun e=>⟨e.1,?_⟩,fun e=>⟨e.1,by omega⟩⟩⟩
 ·rcases Nat.lt_or_ge n c with d|d
  ·exact d
  ·exact absurd e.1 (a n d e.2)
 ·rcases Nat.lt_or_ge n c' with d|d
  ·exact absurd e.1 (a n e.2 d)
  ·exact d
theorem Nh.last (x:Nh G h c) (hd:G.Ht=G.Ns.length) (f:c<=h.objs.length):h.skip c=h.objs.length/\MX { G with Ns:=G.Ns.take G.kept } h:=by
 have a:∀ m,c<=m->¬ h.Lv m:=by
  intro m hm b;have:=(x.dl m).2 ⟨b,hm⟩;rw [hd,List.drop_length] at this;cases this
 refine ⟨?_,x.ku,fun n=>(x.kl n).trans ⟨fun e=>e.1,fun e=>⟨e,?_⟩⟩⟩
 ·have l:=h.Jh c f
  have j:=h.I5 c;have i:=h.Jf c;rcases Nat.lt_or_ge (h.skip c) h.objs.length with d|d
  ·cases ho:h.ob (h.skip c) with
   |none=>exact absurd ⟨d,ho⟩ i
   |some o=>exact absurd ⟨o,ho⟩ (a _ j)
  ·omega
 ·rcases Nat.lt_or_ge n c with d|d
  ·exact d
  ·exact absurd e (a n d)
theorem Nh.next (x:Nh G h c) (l:G.Ns[G.Ht]?=some n):c<=n/\h.Lv n/\h.skip c=n/\Nh G h n:=by
 have b:n∈G.Ns.drop G.Ht:=by
  rw [List.mem_iff_getElem?];exact ⟨0,by rw [List.getElem?_drop];simpa using l⟩
 obtain ⟨p,f⟩:=(x.dl n).1 b;have a:∀ m,c<=m->m<n->¬ h.Lv m:=by
  intro m i q t;have hm:=(x.dl m).2 ⟨t,i⟩;obtain ⟨j,s,e⟩:=List.getElem_of_mem hm;have u:0<(G.Ns.drop G.Ht).length:=by omega
  have v:(G.Ns.drop G.Ht)[0]=n:=by
   have:(G.Ns.drop G.Ht)[0]?=some n:=by rw [List.getElem?_drop];simpa using l
   exact (aJ.1 this).2
  rcases Nat.eq_zero_or_pos j with d|d
  ·subst d;omega
  ·have:=List.pairwise_iff_getElem.1 x.du 0 j u s d
   omega
 refine ⟨f,p,?_,x.move f a⟩;obtain ⟨o,ho⟩:=p;have r:=Hp.Ia ho;have i:=h.I5 c;have q:=h.Jf c;rcases Nat.lt_trichotomy (h.skip c) n with d|d|d
 ·cases hx:h.ob (h.skip c) with
  |none=>exact absurd ⟨by omega,hx⟩ q
  |some o'=>exact absurd ⟨o',hx⟩ (a _ i d)
 ·exact d
 ·have:=h.skip_none c n f d
  rw [ho] at this;cases this
theorem pX {l:List Nat} (h:l[k]?=some n):l.drop k=n::l.drop (k+1):=by
 have hk:=(aJ.1 h).1;rw [List.drop_eq_getElem_cons hk,(aJ.1 h).2]
theorem Nh.free (x:Nh G h n) (i:G.Ns[G.Ht]?=some n) (a:∀ m,g.Lv m↔h.Lv m/\m≠n):Nh { G with Ht:=G.Ht+1 } g (n+1):=by
 have hk:=(aJ.1 i).1;have hd:=pX i;have b:=x.du;rw [hd] at b;refine ⟨by have:=x.ks;show G.kept<=G.Ht+1;omega,hk,x.ku,fun m=>(x.kl m).trans ⟨fun e=>⟨(a m).2 ⟨e.1,by omega⟩,by omega⟩,fun e=>⟨((a m).1 e.1).1,?_⟩⟩,(List.pairwise_cons.1 b).2,fun m=>⟨fun e=>?_,fun e=>?_⟩⟩
 ·have:=((a m).1 e.1).2
  omega
 ·have f:=(x.dl m).1 (by rw [hd];exact List.mem_cons_of_mem _ e)
  have d:=(List.pairwise_cons.1 b).1 m e;exact ⟨(a m).2 ⟨f.1,by omega⟩,d⟩
 ·have f:=(a m).1 e.1
  have d:=(x.dl m).2 ⟨f.1,by omega⟩;rw [hd] at d;rcases jm.1 d with c|c
  ·exact absurd c f.2
  ·exact c
theorem Nh.keep (x:Nh G h n) (q:G.Ns[G.Ht]?=some n) (i:∀ m,g.Lv m↔h.Lv m):Nh { G with Ht:=G.Ht+1,kept:=G.kept+1,Ns:=G.Ns.set G.kept n } g (n+1):=by
 have hk:=(aJ.1 q).1;have r:=x.ks;have hd:=pX q;have f:=x.du;rw [hd] at f;have o:h.Lv n:=((x.dl n).1 (by rw [hd];simp)).1;have p:(G.Ns.set G.kept n).take (G.kept+1)=G.Ns.take G.kept++[n]:=by
  rw [List.take_set,List.take_succ_eq_append_getElem (by omega),List.set_append_right _ _ (by rw [bf];omega)];rw [show G.kept-(G.Ns.take G.kept).length=0 by rw [bf];omega];rfl
 have j:(G.Ns.set G.kept n).drop (G.Ht+1)=G.Ns.drop (G.Ht+1):=by
  rw [List.drop_set_of_lt (by omega)]
 refine ⟨by show G.kept+1<=G.Ht+1;omega,by show G.Ht+1<=(G.Ns.set G.kept n).length;rw [bX];omega,?_,fun m=>?_,?_,fun m=>?_⟩
 ·show ((G.Ns.set G.kept n).take (G.kept+1)).Pairwise (·< ·)
  rw [p,List.pairwise_append];refine ⟨x.ku,List.pairwise_singleton _ _,fun a ha b hb=>?_⟩;simp at hb;subst hb;exact ((x.kl a).1 ha).2
 ·show m∈(G.Ns.set G.kept n).take (G.kept+1)↔_
  rw [p,eT,x.kl,i];simp only [List.mem_singleton];constructor
  ·rintro (e|e)
   ·exact ⟨e.1,by omega⟩
   ·subst e;exact ⟨o,by omega⟩
  ·intro e
   rcases Nat.lt_or_ge m n with d|d
   ·exact .inl ⟨e.1,d⟩
   ·exact .inr (by omega)
 ·show ((G.Ns.set G.kept n).drop (G.Ht+1)).Pairwise (·< ·)
  rw [j];exact (List.pairwise_cons.1 f).2
 ·show m∈(G.Ns.set G.kept n).drop (G.Ht+1)↔_
  rw [j,i];constructor
  ·intro e
   have s:=(x.dl m).1 (by rw [hd];exact List.mem_cons_of_mem _ e);have l:=(List.pairwise_cons.1 f).1 m e;exact ⟨s.1,l⟩
  ·intro e
   have l:=(x.dl m).2 ⟨e.1,by omega⟩;rw [hd] at l;rcases jm.1 l with c|c
   ·omega
   ·exact c
structure M9 (h q:Hp) (G:Gh) (c:Nat):Prop where
 e:h.Hg=Hp.close { q with G9:=q.skip c }
 x:Nh G q c
 l:c<=q.objs.length
 s:q.state=2
theorem M9.fin (d:h.state=2) (a:h.G9<=h.objs.length) (x:Nh G h h.G9) (hd:G.Ht=G.Ns.length):M9 h h G h.G9:=by
 obtain ⟨b,j⟩:=x.last hd a;refine ⟨?_,x,a,d⟩;have i:Hp.G_ h.skipped=h.skipped:=by
  unfold Hp.G_;have:h.skipped.ob h.skipped.G9=.none:=by
   show h.ob (h.skip h.G9)=.none;rw [b];unfold Hp.ob;rw [aM (au _)];rfl
  rw [this]
 have f:Hp.skipped h.skipped=h.skipped:=by
  have e:Hp.skip h.skipped (h.skip h.G9)=h.skip h.G9:=by
   have o:=Hp.I5 h.skipped (h.skip h.G9);have m:=Hp.Jh h.skipped (h.skip h.G9) (by rw [b];exact au _);have l:h.skipped.objs.length=h.objs.length:=rfl;omega
  show { h with G9:=Hp.skip h.skipped (h.skip h.G9) }=_;rw [e];rfl
 unfold Hp.Hg;rw [i,f];rfl
theorem M9.freed {h:Hp} {G:Gh} (e:h.state=2) (x:Nh G h h.G9) {n:Nat} {o:Ob} (b:G.Ns[G.Ht]?=some n) (ho:h.ob n=some o) (d:(fU o.col&&o.col !=h.white)=true):
 M9 h { h with objs:=h.objs.set n none,live:=h.live-1,bytes:=h.bytes-o.size,freed:=h.freed++[n],G9:=n+1 } { G with Ht:=G.Ht+1 } (n+1):=by
 obtain ⟨l,j,i,f⟩:=x.next b;have a:=Hp.Ia ho;refine ⟨?_,f.free b (fun m=>?_),by show n+1<=(h.objs.set n none).length;rw [bX];omega,e⟩
 ·unfold Hp.Hg
  have:h.skipped={ h with G9:=n }:=by unfold Hp.skipped;rw [i]
  rw [this];unfold Hp.G_;rw [show Hp.ob { h with G9:=n } (Hp.G9 { h with G9:=n })=some o from ho];simp only;rw [if_pos d];rfl
 ·show (∃ o',(Hp.ob _ m)=some o')↔_
  unfold Hp.Lv Hp.ob;simp only [gD];by_cases c:n=m
  ·subst c
   simp [a]
  ·simp [c,Ne.symm c]
theorem M9.kept {h:Hp} {G:Gh} (d:h.state=2) (x:Nh G h h.G9) {n:Nat} {o:Ob} (a:G.Ns[G.Ht]?=some n) (ho:h.ob n=some o) (b:(fU o.col&&o.col !=h.white)=false):
 M9 h { h.upd n (fun o=>{ o with col:=h.white }) with G9:=n+1 } { G with Ht:=G.Ht+1,kept:=G.kept+1,Ns:=G.Ns.set G.kept n } (n+1):=by
 obtain ⟨l,j,i,f⟩:=x.next a;have e:=Hp.Ia ho;refine ⟨?_,f.keep a (fun m=>?_),by show n+1<=(h.upd n (fun o=>{ o with col:=h.white })).objs.length;rw [Hp.Hz];omega,d⟩
 ·unfold Hp.Hg
  have:h.skipped={ h with G9:=n }:=by unfold Hp.skipped;rw [i]
  rw [this];unfold Hp.G_;rw [show Hp.ob { h with G9:=n } (Hp.G9 { h with G9:=n })=some o from ho];simp only;rw [if_neg (by rw [b];decide)];rfl
 ·show (∃ o',(h.upd n (fun o=>{ o with col:=h.white })).ob m=some o')↔_
  unfold Hp.Lv;rw [Hp.Ho];split
  ·cases h.ob m<;>simp
  ·rfl
end
end Go.Proofs.YtbpcdfbmnklcjaaGreatDoor
