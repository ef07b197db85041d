import Derived.Test.YtbpcdfbmnklcjaaGreatDoorKHUA
import Derived.Test.YtbpcdfbmnklcjaaGreatDoorKHUC
import Derived.Deep.RegionLaw
import Derived.Test.YtbpcdfbmnklcjaaGreatDoorKHYS
import Derived.Test.YtbpcdfbmnklcjaaGreatDoorKHSJ2
import Derived.BigRegion
import Derived.Laws.CopyRow
namespace Go.Proofs.YtbpcdfbmnklcjaaGreatDoor
open Go Go.RowKit
set_option linter.unusedVariables false
section
variable {K:Act->World->Prop} {Q:Exit->Act->World->Prop} {S:Nat->Prop} {a:Act} {base:Nat} {h:Hp} {w w1 wr:World}
theorem yT {w:World} {o:Oper} {K:Act->World->Prop} {Q:Exit->Act->World->Prop} (x:Operand)
 (ho:o.op=.call { callee:=.value (.func 45),args:=#[x],argTypes:=#[3] }) (k:Nat) (hx:a.eval x=.int .i64 (k:Int)) (v:HV) (c:cO k=v)
 (h:∀ w',Below w.heap.size w w'->K (a.put o.dst (.agg #[.int .i64 (vk v),.int .i64 (vi v),.int .u64 0,.string ByteArray.empty,.int .i64 (vr v)])) w'):Oper.wp Tryz.prog o a w K Q:=by
 unfold Oper.wp;have b:a.eval (.func 45)=.func (.func 45) #[] #[]:=rfl;generalize a.eval=ev at hx b ⊢;simp [execOp,ho,resolve,invoke,hx,b,go_sem];refine (m_ w k v c).mono ?_;rintro e w' ⟨rfl,hb⟩;exact h w' hb
theorem Au:(Tryz.prog.info? 95).map (fun i=>(i.zero,i.size,i.bytes))=some (some (.agg #[.int .i64 0,.int .i64 0,.int .u64 0,.string ByteArray.empty,.int .i64 0]),5,48):=by kernel_rfl
theorem BL (v:HV):∀ u∈vR v,u.oneCell'=true:=by
 intro u b;simp [vR] at b;rcases b with rfl|rfl|rfl|rfl|rfl<;>rfl
theorem vK {o:Oper} (s x:Operand)
 (ho:o.op=.call { callee:=.builtin .append,args:=#[s,x],argTypes:=#[103,103] })
 (base:Nat) (v:Value) (l:List Nat) (n:Nat) (hown:wr.ownsRow base 95 5 v l.length (Dx l)) (A:a.eval s=v) (g:Nat) (hx:a.eval x=.slice (some ⟨g,0,none⟩) 1 1) (m:aD wr 95 g 5 (fun j=>(vR (some (.inr n))).getD j (.bool false))) (t:l.length<=10000) (d:base<=wr.heap.size)
 (h:∀ v' w',w'.ownsRow base 95 5 v' (l++[n]).length (Dx (l++[n]))->Keeps wr w' (fun b=>v.ownBlock=some b)->(∀ g,v'.ownBlock=some g->v.ownBlock=some g∨wr.heap.size<=g)->K (a.put o.dst v') w'):
 Oper.wp Tryz.prog o a wr K Q:=by
 obtain ⟨r,hi,k,i,f⟩:=info_parts Au;have c:∀ j u,(vR (some (.inr n)))[j]?=some u->wr.cell? ((⟨g,0,none⟩:Addr).add j)=some u:=by
  intro j u y;have q:j<5:=(aJ.1 y).1;rw [bL];have:=m.cell (j:=j) q;rw [show (⟨g,0+j,none⟩:Addr)=⟨g,j,none⟩ by rw [Nat.zero_add],this];simp only [bq,y];rfl
 have z:=BL (some (.inr n));obtain ⟨v',w',hr,C,p,D⟩:=run_append_own (P:=Tryz.prog) wr base 103 o.type 95 r (.agg #[.int .i64 0,.int .i64 0,.int .u64 0,.string ByteArray.empty,.int .i64 0]) 5 48 Tryz.underlying103 hi k i f rfl (by decide) v l.length (Dx l) hown ⟨g,0,none⟩ 1 1 (vR (some (.inr n))) rfl c z (by unfold maxLen;omega) (by omega) d;have B:=fG wr base 103 o.type 95 r (.agg #[.int .i64 0,.int .i64 0,.int .u64 0,.string ByteArray.empty,.int .i64 0]) 5 48 Tryz.underlying103 hi k i f rfl (by decide) v l.length (Dx l) hown ⟨g,0,none⟩ 1 1 (vR (some (.inr n))) rfl c z (by unfold maxLen;omega) (by omega) (by decide) hr;unfold Oper.wp execOp;simp only [ho,resolve,invoke,builtin,Sem.run_bind,Sem.run_pure,Result.andThen_ok,List.map_toArray,List.map_cons,List.map_nil,A,hx,hr];refine h v' w' (by simpa [Dx] using C) ⟨p.os,p.tape,p.output,p.size,fun b hb hn=>p.block b hb (fun e=>hn e.symm)⟩ B
theorem MW.LA {L:SM} (a:MW base S h L w) (kk:Keeps w w1 (fun b=>L.rS.ownBlock=some b)) (v':Value) (m:List Nat) (hown:w1.ownsRow base 95 5 v' m.length (Dx m)) (B:∀ g,v'.ownBlock=some g->L.rS.ownBlock=some g∨w.heap.size<=g):
 aD w1 105 L.H 18 (uz h L)/\MW base S (h.G9 m) { L with rS:=v' } (w1.setCell ⟨L.H,13,none⟩ v')/\Keeps w (w1.setCell ⟨L.H,13,none⟩ v') S:=by
 have k:aD w1 105 L.H 18 (uz h L):=a.hp.keep kk (fun e=>ak a.ro a.hp (by decide) e);have y:Keeps w1 (w1.setCell ⟨L.H,13,none⟩ v') (fun b=>b=L.H):=Keeps.setCell (S:=fun b=>b=L.H) (Keeps.refl w1 _) rfl v';have i:Keeps w (w1.setCell ⟨L.H,13,none⟩ v') (fun b=>L.rS.ownBlock=some b∨b=L.H):=(kk.mono (fun b e=>Or.inl e)).trans (y.mono (fun b e=>Or.inr e));have p:∀ {T s n:Nat} {v:Value} {u:List Value},w.ownsRow base T s v n u->T≠105->T≠95->∀ g,v.ownBlock=some g->¬ (L.rS.ownBlock=some g∨g=L.H):=by
  intro T s n v u l t q g A d;rcases d with d|d
  ·exact aV l a.ro q d A
  ·exact ak l a.hp t (d ▸ A)
 have z:∀ {T g N:Nat} {f:Nat->Value},aD w T g N f->T≠105->T≠95->¬ (L.rS.ownBlock=some g∨g=L.H):=by
  intro T g N f l t q d;rcases d with d|d
  ·exact ak a.ro l (Ne.symm q) d
  ·exact l.apart a.hp t d
 refine ⟨k,⟨(k.set (j:=13) (by decide) v').congr (bV _ rfl rfl rfl rfl rfl rfl rfl rfl rfl rfl rfl rfl rfl rfl rfl rfl rfl rfl),aj a.oo i (p a.oo (by decide) (by decide)),fun n o e=>?_,fun n hn e=>?_,fun n o e=>aj (a.en n o e) i (p (a.en n o e) (by decide) (by decide)),fun j hj=>?_,?_,a.ij,a.ei,a.lj,a.bH,a.bo,aI a.bs i.size,a.sH,a.so,a.sO,a.se,a.sl,?_,fun b hb=>a.up b (aI i.size hb)⟩,?_⟩
 ·obtain ⟨r,hr⟩:=a.ob n o e
  exact ⟨r,hr.keep i (z hr (by decide) (by decide))⟩
 ·obtain ⟨r,c,C,hr⟩:=a.dd n hn e
  exact ⟨r,c,C,hr.keep i (z hr (by decide) (by decide))⟩
 ·exact aj (a.li j hj) i (p (a.li j hj) (by decide) (by decide))
 ·exact aj hown y (fun g hg e=>ak hown k (by decide) (e ▸ hg))
 ·intro g e
  rcases B g e with x|x
  ·exact a.sr g x
  ·exact a.up g x
 ·refine i.mono (fun b e=>?_)
  rcases e with e|e
  ·exact a.sr b e
  ·exact e ▸ a.sH
end
set_option maxHeartbeats 6400000
set_option maxRecDepth 100000
section
variable {G:Gh} {L:PM} {S S':Nat->Prop} {base:Nat} {h h':Hp} {v:Value} {w w2:World}
theorem MV.LD (a:MV base S h G L w) (k:Keeps w w2 (fun b=>¬ S b)) (j:∀ g,v.ownBlock=some g->¬ S g∨w.heap.size<=g) (f:∀ g,v.ownBlock=some g->g<w2.heap.size):MV base (fun b=>S b/\v.ownBlock≠some b) h G L w2:=by
 have y:=a.out k;have d:∀ b,S b->b<w.heap.size->v.ownBlock≠some b:=by
  intro b hb i l;rcases j b l with x|x
  ·exact x hb
  ·omega
 refine ⟨y.hp,y.ob,y.en,y.mp,y.li,y.ij,y.ei,y.mi,y.lj,y.bH,y.bt,y.bm,y.bs,⟨a.sH,d _ a.sH a.hp.lt⟩,fun n o e=>⟨a.st n o e,d _ (a.st n o e) (a.ob n o e).lt⟩,fun n o g e hg=>⟨a.se n o g e hg,d _ (a.se n o g e hg) (ay (a.en n o e) hg).lt⟩,fun n o g e hg=>⟨a.sm n o g e hg,d _ (a.sm n o g e hg) ((a.mp n o e).lt hg)⟩,fun k g hk hg=>⟨a.sl k g hk hg,d _ (a.sl k g hk hg) (ay (a.li k hk) hg).lt⟩,fun b hb=>⟨y.up b hb,fun c=>by have:=f b c;omega⟩⟩
theorem MV.Lh (a:MV base S h G L w) (k:Nat) (hk:eF k) (v':Value) (hown:w.ownsRow base (yJ k) 1 v' (eU h' G k).length ((eU h' G k).map (eP L.tb k))) (C:∀ g,v'.ownBlock=some g->¬ S g) (p:∀ b,S b->S' b) (D:∀ g,v'.ownBlock=some g->S' g)
 (d:∀ n,h'.ob n=h.ob n) (B:∀ j,eF j->j≠k->eU h' G j=eU h G j) (E:∀ i,i<19->(if i=k then v' else kI h G L i)=kI h' G { L with li:=fun j=>if j=k then v' else L.li j } i):
 MV base S' h' G { L with li:=fun j=>if j=k then v' else L.li j } (w.setCell ⟨L.H,k,none⟩ v')/\Keeps w (w.setCell ⟨L.H,k,none⟩ v') S':=by
 have t:k<19:=by rcases hk with rfl|rfl|rfl|rfl|rfl|rfl|rfl|rfl|rfl<;>decide
 have l:Keeps w (w.setCell ⟨L.H,k,none⟩ v') (fun b=>b=L.H):=Keeps.setCell (S:=fun b=>b=L.H) (Keeps.refl w _) rfl v';have hO:∀ {T s n:Nat} {v:Value} {xs:List Value},w.ownsRow base T s v n xs->T≠77->∀ g,v.ownBlock=some g->¬ g=L.H:=fun h1 h2 g h3 h4=>ak h1 a.hp h2 (h4 ▸ h3);refine ⟨⟨(a.hp.set t v').congr E,fun n o e=>?_,fun n o e=>?_,fun n o e=>?_,fun j f=>?_,?_,?_,?_,?_,a.bH,?_,?_,aI a.bs l.size,p _ a.sH,?_,?_,?_,?_,fun b hb=>p _ (a.up b (aI l.size hb))⟩,l.mono (fun b e=>e ▸ p _ a.sH)⟩
 ·rw [d] at e;exact (a.ob n o e).keep l (fun y=>(a.ob n o e).apart a.hp (by decide) y)
 ·rw [d] at e;exact aj (a.en n o e) l (hO (a.en n o e) (by decide))
 ·rw [d] at e;exact (a.mp n o e).keep l (fun b hb y=>(a.mp n o e).apart a.hp (y ▸ hb))
 ·by_cases c:j=k
  ·subst c
   simp only [if_true];exact aj hown l (hO hown (iG f).1)
  ·simp only [c,if_false]
   rw [B j f c];exact aj (a.li j f) l (hO (a.li j f) (iG f).1)
 ·intro n m o r;rw [d,d];exact a.ij n m o r
 ·intro n m o r g;rw [d,d];exact a.ei n m o r g
 ·intro n m o r g;rw [d,d];exact a.mi n m o r g
 ·intro j A g f u e q
  by_cases c:j=k<;>by_cases z:A=k
  ·rw [c,z]
  ·simp only [c,z,if_true,if_false] at e q
   exact absurd (a.sl A g u q) (C g e)
  ·simp only [c,z,if_true,if_false] at e q
   exact absurd (a.sl j g f e) (C g q)
  ·simp only [c,z,if_false] at e q
   exact a.lj j A g f u e q
 ·intro n o;rw [d];exact a.bt n o
 ·intro n o g;rw [d];exact a.bm n o g
 ·intro n o;rw [d];exact fun e=>p _ (a.st n o e)
 ·intro n o g;rw [d];exact fun e x=>p _ (a.se n o g e x)
 ·intro n o g;rw [d];exact fun e x=>p _ (a.sm n o g e x)
 ·intro j g f e
  by_cases c:j=k
  ·simp only [c,if_true] at e
   exact D g e
  ·simp only [c,if_false] at e
   exact p _ (a.sl j g f e)
theorem wJ:∀ (l:List Nat) (p:Hp × List Nat) (n:Nat),(l.foldl Hp.Ht p).1.Lv n↔p.1.Lv n
 | [],p,n=>Iff.rfl
 |a::l,p,n=>by
  rw [List.foldl_cons,wJ l];unfold Hp.Ht;split
  ·show (∃ o,(p.1.upd a _).ob n=some o)↔_
   unfold Hp.Lv;rw [Hp.Hf];split
   ·cases p.1.ob n<;>simp
   ·rfl
  ·rfl
theorem uh:∀ (l:List Nat) (p:Hp × List Nat),(l.foldl Hp.Ht p).1.finals=p.1.finals/\(l.foldl Hp.Ht p).1.pending.length+(l.foldl Hp.Ht p).2.length=p.1.pending.length+p.2.length+l.length
 | [],p=>⟨rfl,rfl⟩
 |a::l,p=>by
  rw [List.foldl_cons];obtain ⟨h1,h2⟩:=uh l (Hp.Ht p a);rw [h1,h2];unfold Hp.Ht;split
  ·refine ⟨rfl,?_⟩
   show (p.1.pending++[a]).length+p.2.length+l.length=p.1.pending.length+p.2.length+(a::l).length;simp;omega
  ·refine ⟨rfl,?_⟩
   show p.1.pending.length+(p.2++[a]).length+l.length=p.1.pending.length+p.2.length+(a::l).length;simp;omega
theorem Cm (a:MV base S h G L w) (hl:∀ n∈h.finals,h.Lv n) (e0:h.finals.length+h.pending.length<=5000):
 Calls Tryz.prog 145 #[.pointer (some ⟨L.H,0,none⟩)] w fun e w'=>e=.returned (.tuple #[])/\∃ L',MS L L'/\MV base S h.Hr G L' w'/\Keeps w w' S:=by
 obtain ⟨A,N,hv,d6,-⟩:=a.IC (k:=15) (by simp [eF]);have c6:=ah (aD.mk' w 72 #[.slice none 0 0]);have b4:=ah (a.hole (.cells #[.slice none 0 0] 72));have HB:=ah (aU w (.cells #[.slice none 0 0] 72));have e6:=ah (show S w.heap.size from a.up _ (au _));have U:=ah a.up;have e7:=ah a.bs;have HL:=ah hl;have HV:Hq (L.li 15=.slice A h.finals.length N):=ah hv;have e3:h.finals.length<=5000:=by omega
 clear a hl hv;go_enter Tryz.func145,Tryz.ntmps145;go_upto_region 1 with (fail)
 generalize w.alloc (.cells #[.slice none 0 0] 72)=w1 at *;have ck:w1.cell? ⟨L.H,15,none⟩=some (.slice A h.finals.length N):=by
  have:=b4.o.hp.c 15;rw [this];exact congrArg some HV.out
 generalize hX:w.heap.size=X at *;have T:=ah hX;clear hX;go_wp2;go_loopw [11] (fun iv wr=>∃ i:Nat,i<=h.finals.length/\iv=.int .i64 i/\Hq (∃ lv li',MV base (fun b=>(S b/\b≠X)/\lv.ownBlock≠some b) ((h.finals.take i).foldl Hp.Ht (h,[])).1 G ⟨L.H,L.tb,L.es,L.mp,li'⟩ wr/\(∀ j,j≠16->li' j=L.li j)/\aD wr 72 X 1 (fun _=>lv)/\wr.ownsRow base 67 1 lv ((h.finals.take i).foldl Hp.Ht (h,[])).2.length (((h.finals.take i).foldl Hp.Ht (h,[])).2.map (eP L.tb 15))/\(∀ g,lv.ownBlock=some g->X<=g)/\Keeps w wr S)) (fun iv _=>h.finals.length-bF iv)
 case atStart=>
  refine ⟨0,by omega,rfl,.slice none 0 0,L.li,b4.o.mono (fun b hb=>⟨hb,by simp [Value.ownBlock]⟩),fun _ _=>rfl,?_,⟨rfl,.inl ⟨rfl,rfl⟩⟩,fun g e=>by simp [Value.ownBlock] at e,Keeps.of HB.o (aO T.o) S⟩;refine aD.congr (show aD _ _ _ 1 _ from c6.o) (fun j hj=>?_);have:j=0:=by omega
  subst this;rfl
 case round=>
  obtain ⟨i,d9,rfl,HI⟩:=hrel;obtain ⟨lv,D,l,J,E,hown,F,K⟩:=HI.out;by_cases b9:i<h.finals.length
  ·obtain ⟨n,he⟩:∃ n,h.finals[i]?=some n:=⟨_,aN b9⟩
   have a1:=bE he;have q:=wJ (h.finals.take i) (h,[]) n;have M:=uh (h.finals.take i) (h,[]);have B:Hq ((h.finals.take (i+1)).foldl Hp.Ht (h,[])=Hp.Ht ((h.finals.take i).foldl Hp.Ht (h,[])) n):=ah (by rw [a1,bD]);obtain ⟨p,hp⟩:∃ p,(h.finals.take i).foldl Hp.Ht (h,[])=p:=⟨_,rfl⟩
   rw [hp] at l hown q M B;obtain ⟨A1,b2,Q,c3,z⟩:=l.IC (k:=15) (by simp [eF]);have a0:D 15=.slice A h.finals.length N:=(J 15 (by decide)).trans HV.out;have a4:eU p.1 G 15=h.finals:=M.1;rw [a4] at Q z;obtain ⟨rfl,rfl⟩:A1=A/\b2=N:=by
    have R:=Q.symm.trans a0;simp at R;exact R
   obtain ⟨g,rfl,d4,a9⟩:=z i n he;have d5:wr.cell? ⟨g,i,none⟩=some (.iface 127 (.pointer (some ⟨L.tb n,0,none⟩))):=a9;obtain ⟨o,ho⟩:=q.2 (HL.o n (aW he));have t0:wr.cell? ⟨L.tb n,0,none⟩=some (.int .i64 (o.col:Int)):=(l.ob n o ho).c 0;have t4:wr.cell? ⟨L.tb n,4,none⟩=some (.bool o.fin):=(l.ob n o ho).c 4;have z4:=(l.ob n o ho).Nq 4;have a7:=rz (L.tb n);have a6:=iO (L.tb n);have c9:=ah (fun w9=>gQ w9 (L.tb n));have HW:=ah (lC wr (L.tb n) o.col t0);have P:Hq (p.1.M4 n=gu o.col):=ah (by unfold Hp.M4;rw [ho]);have d8:p.1.pending.length+p.2.length<=5000:=by
    have R:=M.2;simp only [bX,List.length_nil] at R;omega
   have f:=ah (C.intro l (C.intro E (C.intro hown (C.intro F K))));have b3:=ah J;have c7:=ah ho;clear l E hown F K J ho q M a1 z a9 Q a0 a4 HI he hp t0;cases hw:gu o.col with
   |true=>
    rw [hw] at HW P;have HF:Hq (Hp.Ht p n=(p.1.Kh n,p.2)):=ah (by unfold Hp.Ht;rw [P.o];rfl);clear hw;have r:=ah (f.o.1.M0 n 4 (.bool false) (fun o=>{ o with fin:=false }) (by decide) c7.o ⟨rfl,rfl⟩ (dx _ rfl rfl rfl rfl rfl rfl rfl rfl rfl rfl rfl rfl rfl));go_wp2_with fail;refine HW.o.mono ?_;rintro e1 w2 ⟨rfl,rfl⟩;go_wp2_with fail;refine (c9.o _).mono ?_;rintro e2 w3 ⟨rfl,rfl⟩;go_upto_region 6 with (fail)
    generalize w3.setCell ⟨L.tb n,4,none⟩ (.bool false)=w4 at *;have y:=r.o.1.li 16 (by simp [eF]);have m:((eU (p.1.upd n fun o=>{ o with fin:=false }) G 16).map (eP L.tb 16)).length=(eU (p.1.upd n fun o=>{ o with fin:=false }) G 16).length:=by simp
    have W:=ah (iy w4 base L.H 16 (D 16) ((eU (p.1.upd n fun o=>{ o with fin:=false }) G 16).map (eP L.tb 16)) (L.tb n) (r.o.1.hp.c 16) (r.o.1.hp.Nq 16) (by rw [m];exact y) (fun e=>ak y r.o.1.hp (by decide) e) (by rw [m];show p.1.pending.length<=1000000;omega) r.o.1.bs);clear y m t4 z4 a7 a6;go_wp2_with fail;refine W.o.mono ?_
    b8 e4 w5 a3
    obtain ⟨rfl,⟨Y,b5,c5,b6,b7⟩,s,b0,a8⟩:=r.o.1.add (k:=16) (by simp [kG]) (n:=n) a3;obtain rfl:Y=L.H:=s.H;obtain rfl:b5=L.tb:=s.tb;obtain rfl:c5=L.es:=s.es;obtain rfl:b6=L.mp:=s.mp;have Y:=ah (C.intro s.li (C.intro b0 (r.o.2.trans a8)));clear a3 s b0 a8;go_wp2;go_roundw
    case rel=>
     refine ⟨i+1,by omega,by simp,lv,b7,?_,fun j hj=>(Y.o.1 j hj).trans (b3.o j hj),f.o.2.1.keep Y.o.2.2 (fun c=>c.1.2 rfl),?_,f.o.2.2.2.1,f.o.2.2.2.2.trans (Y.o.2.2.mono (fun b c=>c.1.1))⟩
     ·rw [B.o,HF.o];exact Y.o.2.1
     ·rw [B.o,HF.o];exact aj f.o.2.2.1 Y.o.2.2 (fun g hg c=>c.2 hg)
    case measure=>simp [bF];omega
   |false=>
    rw [hw] at HW P;have HF:Hq (Hp.Ht p n=(p.1,p.2++[n])):=ah (by unfold Hp.Ht;rw [P.o];rfl);clear hw;have hown:=f.o.2.2.1;have m:(p.2.map (eP L.tb 15)).length=p.2.length:=by simp
    have W:=ah (iy wr base X 0 lv (p.2.map (eP L.tb 15)) (L.tb n) (f.o.2.1.c 0) (f.o.2.1.Nq 0) (by rw [m];exact hown) (fun e=>ak hown f.o.2.1 (by decide) e) (by rw [m];omega) f.o.1.bs);clear hown m;go_wp2_with fail;refine HW.o.mono ?_;rintro e1 w2 ⟨rfl,rfl⟩;go_wp2_with fail;refine W.o.mono ?_;rintro e4 w5 ⟨rfl,u,t,w4,rfl,h1,h2,h3⟩;have c4:=f.o.2.1.lt;have x:=f.o.2.1.keep h2 (fun c=>ak f.o.2.2.1 f.o.2.1 (by decide) c);have a5:∀ g,(Value.slice u ((p.2.map (eP L.tb 15)).length+1) t).ownBlock=some g->g≠X:=fun g hg c=>ak h1 x (by decide) (c ▸ hg);have Z:Keeps w4 (w4.setCell ⟨X,0,none⟩ (.slice u ((p.2.map (eP L.tb 15)).length+1) t)) (fun b=>b=X):=Keeps.setCell (S:=fun b=>b=X) (Keeps.refl w4 _) rfl _;have k5:Keeps w2 (w4.setCell ⟨X,0,none⟩ (.slice u ((p.2.map (eP L.tb 15)).length+1) t)) (fun b=>¬ ((S b/\b≠X)/\lv.ownBlock≠some b)):=(h2.mono (fun b c d=>d.2 c)).trans (Z.mono (fun b c d=>d.1.2 c));have b1:∀ g,(Value.slice u ((p.2.map (eP L.tb 15)).length+1) t).ownBlock=some g->g<(w4.setCell ⟨X,0,none⟩ (.slice u ((p.2.map (eP L.tb 15)).length+1) t)).heap.size:=fun g hg=>aX (ay h1 hg).lt Z.size;have H5:=ah (f.o.1.LD k5 (v:=.slice u ((p.2.map (eP L.tb 15)).length+1) t) (fun g hg=>by
     rcases h3 g hg with c|c
     ·exact .inl (fun d=>d.2 c)
     ·exact .inr c) b1)
    have d0:=ah (show aD (w4.setCell ⟨X,0,none⟩ (.slice u ((p.2.map (eP L.tb 15)).length+1) t)) 72 X 1 (fun _=>.slice u ((p.2.map (eP L.tb 15)).length+1) t) from (x.set (j:=0) (by omega) _).congr (fun j hj=>by rw [if_pos (by omega)]));have d1:=ah (aj h1 Z (fun g hg=>a5 g hg));have d3:=ah (show ∀ g,(Value.slice u ((p.2.map (eP L.tb 15)).length+1) t).ownBlock=some g->X<=g from fun g hg=>by
     rcases h3 g hg with c|c
     ·exact f.o.2.2.2.1 g c
     ·omega)
    have d2:=ah (show Keeps w (w4.setCell ⟨X,0,none⟩ (.slice u ((p.2.map (eP L.tb 15)).length+1) t)) S from f.o.2.2.2.2.trans ((h2.mono (fun b c=>U.o b (by have:=f.o.2.2.2.1 b c;have:=T.o;omega))).trans (Z.mono (fun b c=>by rw [c];exact U.o _ (au _)))));generalize w4.setCell ⟨X,0,none⟩ (.slice u ((p.2.map (eP L.tb 15)).length+1) t)=w6 at *;clear h1 h2 h3 c4 x a5 Z k5 b1 t4 z4 a7 a6;go_wp2;go_roundw
    case rel=>
     refine ⟨i+1,by omega,by simp,.slice u ((p.2.map (eP L.tb 15)).length+1) t,D,?_,b3.o,d0.o,?_,d3.o,d2.o⟩
     ·rw [B.o,HF.o];exact H5.o.mono (fun b c=>⟨c.1.1,c.2⟩)
     ·rw [B.o,HF.o]
      have R:=d1.o;simp only [bI] at R;simp only [aT,List.length_singleton,List.map_append,List.map_cons,List.map_nil,bI];exact R
    case measure=>simp [bF];omega
  ·have c2:i=h.finals.length:=by omega
   subst c2;rw [bf] at l hown;have c0:wr.cell? ⟨X,0,none⟩=some lv:=E.c 0;obtain ⟨al,kl,q⟩:=aF hown;have c1:wr.cell? ⟨X,0,none⟩=some (.slice al (h.finals.foldl Hp.Ht (h,[])).2.length kl):=by rw [<-q];exact c0
   have e5:wr.cell? ⟨L.H,15,none⟩=some (D 15):=l.hp.c 15;have d7:=l.hp.Nq 15;have V:=ah (l.Lh (S':=S) (h':={ (h.finals.foldl Hp.Ht (h,[])).1 with finals:=(h.finals.foldl Hp.Ht (h,[])).2 }) 15 (by simp [eF]) lv hown (fun g hg c=>c.2 hg) (fun b c=>c.1.1) (fun g hg=>U.o g (by have:=F g hg;have:=T.o;omega)) (fun n=>rfl) (fun j hj hn=>by rcases hj with rfl|rfl|rfl|rfl|rfl|rfl|rfl|rfl|rfl<;>first |rfl|exact absurd rfl hn) (bJ _ rfl rfl rfl rfl rfl rfl rfl rfl rfl rfl rfl rfl rfl rfl rfl rfl rfl rfl rfl));have c8:=ah K;rw [q] at V;clear l hown E F K J HI c0 q;go_wp2;go_end0;refine ⟨rfl,_,?_,V.o.1,c8.o.trans V.o.2⟩;exact ⟨rfl,rfl,rfl,rfl⟩
end
section
variable {G G':Gh} {L:PM} {S:Nat->Prop} {base:Nat} {w:World}
theorem Ng.of {h g:Hp} (x:Ng G h) (e:∀ n,g.Lv n↔h.Lv n):Ng G g:=⟨x.up,fun n=>(x.lv n).trans (e n).symm⟩
theorem zO (h:Hp) (l:List Nat):(h.Ho l).nu=h.nu:=dQ Hp.mark Hp.Io l h
theorem Wk.Ho {h:Hp} (k:Wk h) (l:List Nat):Wk (h.Ho l):=k.Mq (Nk.Ho h l) (aO (zO h l))
def Hp.wk (h:Hp) (a b:List Nat):Hp:={ h with weak:=a,GZ:=b }
theorem MV.num {h h':Hp} (a:MV base S h G L w) (k:Nat) (x:Value) (hk:k<19) (b:∀ n,h'.ob n=h.ob n) (c:h'.roots=h.roots/\h'.grey=h.grey/\h'.weak=h.weak/\h'.GZ=h.GZ/\h'.finals=h.finals/\h'.pending=h.pending/\h'.freed=h.freed) (d:G'.Nl=G.Nl/\G'.ag=G.ag) (e:∀ i,i<19->(if i=k then x else kI h G L i)=kI h' G' L i):
 MV base S h' G' L (w.setCell ⟨L.H,k,none⟩ x)/\Keeps w (w.setCell ⟨L.H,k,none⟩ x) S:=by
 refine a.hdr k x hk b (fun j hj=>?_) e;obtain ⟨q,p,o,m,l,g,f⟩:=c;obtain ⟨b1,b2⟩:=d;rcases hj with rfl|rfl|rfl|rfl|rfl|rfl|rfl|rfl|rfl
 ·exact b1
 ·exact q
 ·exact p
 ·exact b2
 ·exact o
 ·exact m
 ·exact l
 ·exact g
 ·exact f
theorem Ap {h:Hp} (a:MV base S h G L w) (x:Mi h) (gl:Ng G h) (a4:G.Nl.length<=20000) (J:G.ag=h.again):
 Calls Tryz.prog 130 #[.pointer (some ⟨L.H,0,none⟩)] w fun e w'=>e=.returned (.tuple #[])/\∃ L',MS L L'/\(∃ wk ep,MV base S (h.atomic.wk wk ep) { G with kept:=0,Hl:=0 } L' w')/\Keeps w w' S:=by
 have k1:=x.k.alive;have T:=x.t.Mq (Nk.alive h);have k2:=k1.drain T;have R:=T.drain;have k3:=k2.look R;have Q:=R.G8;have U:Wk h.M6:=k3.settle Q;have t4:M5 h.M6 No:=Q.settle;have V:MU h.M6 (h.M6.weak.foldl Hp.Mv h.M6):=MU.fold bT bZ h.M6.weak h.M6;have k5:=U.cnt V;have k6:=U.at2 t4;have t6:=t4.at2;have k7:=k6.Ho h.M6.at2.pending;have P:=t6.Mq (Nk.Ho h.M6.at2 h.M6.at2.pending);have k8:Wk h.M6.at2.at3:=k7.settle P;have t8:M5 h.M6.at2.at3 No:=P.settle;have k9:=k8.cnt (MU.at4 h.M6.at2.at3);have y:MU h.M6.at2.at3.at4 (h.M6.at2.at3.at4.weak.foldl Hp.Mv h.M6.at2.at3.at4):=MU.fold bT bZ _ _;have B:=k9.cnt y;have p:∀ n,(h.M6.weak.foldl Hp.Mv h.M6).Lv n↔h.Lv n:=fun n=>(V.lv n).trans ((kD.M6 h).lv n);have i:∀ n,h.M6.at2.Lv n↔h.Lv n:=fun n=>(nV h.M6 n).trans ((kD.M6 h).lv n);have j:∀ n,(h.M6.at2.at3.at4.weak.foldl Hp.Mv h.M6.at2.at3.at4).Lv n↔h.Lv n:=fun n=>(y.lv n).trans (((MU.at4 _).lv n).trans (((Np.at3 _).lv n).trans (i n)));have F:∀ n∈(h.M6.weak.foldl Hp.Mv h.M6).finals,(h.M6.weak.foldl Hp.Mv h.M6).Lv n:=fun n g=>(p n).2 (x.l n (.inr (.inr (by rw [V.finals,show h.M6.finals=h.finals from (kD.M6 h).finals] at g;exact g))));have E:∀ n∈h.M6.at2.pending,h.M6.at2.Lv n:=by
  a3 n g
  refine (i n).2 ?_;rw [(d_ h.M6).2.1,show h.M6.finals=h.finals from (kD.M6 h).finals,show h.M6.pending=h.pending from (kD.M6 h).pending] at g;rcases aY.1 g with c|c
  ·exact x.l n (.inr (.inl c))
  ·exact x.l n (.inr (.inr (List.mem_filter.1 c).1))
 have u:=ah (gl.of j);have D:h.M6.at2.at3.at4.Mh.white=h.white:=by
  rw [(MU.Mh _).white,(MU.at4 _).white,(Np.at3 _).white,(d_ h.M6).2.2.2.2.2.2.1];exact (kD.M6 h).white
 have a6:Hq (h.M6.at2.at3.at4.Mh.white<=1):=ah (by rw [D];exact x.w);have r:G.ag=h.alive.drain.again:=by rw [J];exact ((Np.alive h).trans (Np.drain _)).again.symm
 have K1:=ah (b.intro k1 T);have K2:=ah (b.intro k2 (b.intro R r));have K3:=ah (b.intro k3 Q);have K4:=ah U;have K5:=ah (b.intro k5 F);have K6:=ah (b.intro k6 E);have K7:=ah (b.intro k7 P);have K8:=ah k8;have K9:=ah k9;have K:=ah B;have s0:=x.k.s;have a9:=ah (oF a (fun n g=>x.l n (.inl g)) (by have:=s0.nu;omega) (by have:=s0.rt;omega) (fun n g=>x.l n (.inr (.inl g))) (by have:=s0.fp;omega));clear a x k1 T k2 R k3 Q U t4 V k5 k6 t6 k7 P k8 t8 k9 y B p i j F E D J r s0 gl;go_enter Tryz.func130,Tryz.ntmps130;go_wp2_with fail;refine a9.o.mono ?_;rintro e1 w1 ⟨rfl,⟨H1,b6,e0,c4,d3⟩,f,d,hk⟩;obtain rfl:H1=L.H:=f.H;have P1:=ah (b.intro f.x (b.intro d hk));clear f d hk;have C2:=ah (kT P1.o.2.1 K1.o.1 K1.o.2);go_wp2_with fail;refine C2.o.mono ?_;rintro e2 w2 ⟨rfl,⟨H2,b5,d9,c3,d2⟩,f,d,hk⟩;obtain rfl:H2=L.H:=f.H;have P2:=ah (b.intro (P1.o.1.trans f) (b.intro d (P1.o.2.2.trans hk)));clear f d hk;have C3:=ah (yM P2.o.2.1 K2.o.2.2 (fun n g=>K2.o.1.l n (.inr (.inl g))) K2.o.1.s.nu);go_wp2_with fail;refine C3.o.mono ?_;rintro e3 w3 ⟨rfl,⟨H3,b4,d8,c2,d1⟩,f,d,hk⟩;obtain rfl:H3=L.H:=f.H;have P3:=ah (b.intro (P2.o.1.trans f.x) (b.intro d (P2.o.2.2.trans hk)));clear f d hk;have C4:=ah (mV P3.o.2.1 K3.o.1 K3.o.2);go_wp2_with fail;refine C4.o.mono ?_;rintro e4 w4 ⟨rfl,⟨H4,b3,d7,b9,d0⟩,f,d,hk⟩;obtain rfl:H4=L.H:=f.H;have P4:=ah (b.intro (P3.o.1.trans f) (b.intro (show MV base S h.M6 G _ w4 from d) (P3.o.2.2.trans hk)));clear f d hk;have C5:=ah (sJ P4.o.2.1 K4.o);go_wp2_with fail;refine C5.o.mono ?_;rintro e5 w5 ⟨rfl,d,hk⟩;have P5:=ah (b.intro d (P4.o.2.2.trans hk));clear d hk;have C6:=ah (Cm P5.o.1 K5.o.2 K5.o.1.s.fp);go_wp2_with fail;refine C6.o.mono ?_;rintro e6 w6 ⟨rfl,⟨H6,b2,d6,b8,c7⟩,f,d,hk⟩;obtain rfl:H6=L.H:=f.H;have Z:=ah (b.intro (P4.o.1.trans f) (b.intro (show MV base S h.M6.at2 G _ w6 from d) (P5.o.2.trans hk)));clear f d hk;have C7:=ah (qm Z.o.2.1 K6.o.2 (by have:=K6.o.1.s.nu;omega) (by have:=K6.o.1.s.fp;omega));go_wp2_with fail;refine C7.o.mono ?_;rintro e7 w7 ⟨rfl,⟨H7,b1,d5,b7,c6⟩,f,d,hk⟩;obtain rfl:H7=L.H:=f.H;have Y:=ah (b.intro (Z.o.1.trans f.x) (b.intro d (Z.o.2.2.trans hk)));clear f d hk;have C8:=ah (mV Y.o.2.1 K7.o.1 K7.o.2);go_wp2_with fail;refine C8.o.mono ?_;rintro e8 w8 ⟨rfl,⟨H8,a0,a5,a1,a2⟩,f,d,hk⟩;obtain rfl:H8=L.H:=f.H;have X:=ah (b.intro (Y.o.1.trans f) (b.intro (show MV base S h.M6.at2.at3 G _ w8 from d) (Y.o.2.2.trans hk)));clear f d hk;have C9:=ah (yS X.o.2.1 K8.o);go_wp2_with fail;refine C9.o.mono ?_;rintro e9 w9 ⟨rfl,d,hk⟩;have P9:=ah (b.intro d (X.o.2.2.trans hk));clear d hk;have N:=ah (sJ P9.o.1 K9.o);go_wp2_with fail;refine N.o.mono ?_;rintro f1 b0 ⟨rfl,d,hk⟩;have z:=ah (b.intro d (P9.o.2.trans hk));clear d hk;have M:=ah (zq z.o.1 K.o u.o a4);go_wp2_with fail;refine M.o.mono ?_;rintro f0 v ⟨rfl,d,hk⟩;have m:=ah (b.intro (show MV base S h.M6.at2.at3.at4.Mh G _ v from d) (z.o.2.trans hk));clear d hk;have a8:Hq (h.atomic=h.M6.at2.at3.at4.Mh.Mx):=ah rfl;have a7:=ah X.o.1;clear C2 C3 C4 C5 C6 C7 C8 C9 N M P1 P2 P3 P4 P5 Z Y X P9 z K1 K2 K3 K4 K5 K6 K7 K8 K9 K u;generalize h.M6.at2.at3.at4.Mh=q at *;have d4:=a6.o;have c1:v.cell? ⟨L.H,1,none⟩=some (.int .i64 (q.white:Int)):=m.o.1.hp.c 1;have z1:=m.o.1.hp.Nq 1;go_upto_region 12 with (fail)
 have C:(1:Int)-(q.white:Int)=((1-q.white:Nat):Int):=by omega
 have W:=ah (m.o.1.num (h':={ q with white:=1-q.white }) (G':=G) 1 (.int .i64 ((1-q.white:Nat):Int)) (by decide) (fun _=>rfl) ⟨rfl,rfl,rfl,rfl,rfl,rfl,rfl⟩ ⟨rfl,rfl⟩ (bJ _ rfl rfl rfl rfl rfl rfl rfl rfl rfl rfl rfl rfl rfl rfl rfl rfl rfl rfl rfl));rw [C];clear C c1 z1;generalize v.setCell ⟨L.H,1,none⟩ (.int .i64 ((1-q.white:Nat):Int))=w12 at *;have c0:w12.cell? ⟨L.H,0,none⟩=some (.int .i64 (q.state:Int)):=W.o.1.hp.c 0;have z0:=W.o.1.hp.Nq 0;go_upto_region 13 with (fail)
 have A:=ah (W.o.1.num (h':={ q with white:=1-q.white,state:=2 }) (G':=G) 0 (.int .i64 2) (by decide) (fun _=>rfl) ⟨rfl,rfl,rfl,rfl,rfl,rfl,rfl⟩ ⟨rfl,rfl⟩ (bJ _ rfl rfl rfl rfl rfl rfl rfl rfl rfl rfl rfl rfl rfl rfl rfl rfl rfl rfl rfl));clear c0 z0;generalize w12.setCell ⟨L.H,0,none⟩ (.int .i64 2)=w13 at *;have c8:w13.cell? ⟨L.H,8,none⟩=some (.int .i64 (G.kept:Int)):=A.o.1.hp.c 8;have z8:=A.o.1.hp.Nq 8;have c9:w13.cell? ⟨L.H,9,none⟩=some (.int .i64 (G.Hl:Int)):=A.o.1.hp.c 9;have z9:=A.o.1.hp.Nq 9;have Q3:=ah (A.o.1.num (h':={ q with white:=1-q.white,state:=2 }) (G':={ G with kept:=0 }) 8 (.int .i64 0) (by decide) (fun _=>rfl) ⟨rfl,rfl,rfl,rfl,rfl,rfl,rfl⟩ ⟨rfl,rfl⟩ (bJ _ rfl rfl rfl rfl rfl rfl rfl rfl rfl rfl rfl rfl rfl rfl rfl rfl rfl rfl rfl));have Q4:=ah (Q3.o.1.num (h':={ q with white:=1-q.white,state:=2 }) (G':={ G with kept:=0,Hl:=0 }) 9 (.int .i64 0) (by decide) (fun _=>rfl) ⟨rfl,rfl,rfl,rfl,rfl,rfl,rfl⟩ ⟨rfl,rfl⟩ (bJ _ rfl rfl rfl rfl rfl rfl rfl rfl rfl rfl rfl rfl rfl rfl rfl rfl rfl rfl rfl));go_wp2;go_end0;refine ⟨rfl,⟨L.H,a0,a5,a1,a2⟩,a7.o,⟨q.weak,q.GZ,?_⟩,(((m.o.2.trans W.o.2).trans A.o.2).trans Q3.o.2).trans Q4.o.2⟩;rw [a8.o];exact Q4.o.1.aux q.again 1
end
section
variable {G:Gh} {L:PM} {S:Nat->Prop} {base:Nat} {h:Hp} {w:World} {x y:List Nat}
theorem MV.Lp (a:MV base S h G L w) (k:Nat) (hk:kG k):∃ L',MS L L'/\MV base S (iM h k []) G L' (w.setCell ⟨L.H,k,none⟩ (.slice none 0 0))/\Keeps w (w.setCell ⟨L.H,k,none⟩ (.slice none 0 0)) S:=by
 obtain ⟨-,c,b⟩:=a.JV (h':=iM h k []) (G':=G) (w1:=w) k hk.p (Keeps.refl w _) (.slice none 0 0) (by rw [lJ hk];exact ⟨rfl,.inl ⟨rfl,rfl⟩⟩) (fun g e=>by simp [Value.ownBlock] at e) (jE h k _) (fun j hj hn=>jB hk hj hn _) (kU hk _ _);refine ⟨_,?_,c,b⟩;exact ⟨rfl,rfl,rfl,rfl⟩
theorem MV.LP (a:MV base S h G L w):∃ L',MS L L'/\MV base S h { G with ag:=[] } L' (w.setCell ⟨L.H,12,none⟩ (.slice none 0 0))/\Keeps w (w.setCell ⟨L.H,12,none⟩ (.slice none 0 0)) S:=by
 obtain ⟨-,c,b⟩:=a.JV (h':=h) (G':={ G with ag:=[] }) (w1:=w) 12 (by simp [eF]) (Keeps.refl w _) (.slice none 0 0) ⟨rfl,.inl ⟨rfl,rfl⟩⟩ (fun g e=>by simp [Value.ownBlock] at e) (fun _=>rfl) (fun j hj hn=>by rcases hj with rfl|rfl|rfl|rfl|rfl|rfl|rfl|rfl|rfl<;>first |rfl|exact absurd rfl hn) (bJ _ rfl rfl rfl rfl rfl rfl rfl rfl rfl rfl rfl rfl rfl rfl rfl rfl rfl rfl rfl);refine ⟨_,?_,c,b⟩;exact ⟨rfl,rfl,rfl,rfl⟩
theorem vM (a:MV base S (h.wk x y) G L w) (s:Sm h) (k:∀ n,n∈h.roots∨n∈h.pending->h.Lv n):
 Calls Tryz.prog 83 #[.pointer (some ⟨L.H,0,none⟩)] w fun e w'=>e=.returned (.tuple #[])/\∃ L',MS L L'/\MV base S h.begin { G with ag:=[] } L' w'/\Keeps w w' S:=by
 have c0:w.cell? ⟨L.H,0,none⟩=some (.int .i64 (h.state:Int)):=a.hp.c 0;have T:=a.hp.Nq 0;have b:=ah (a.num (h':={ h.wk x y with state:=1 }) (G':=G) 0 (.int .i64 1) (by decide) (fun _=>rfl) ⟨rfl,rfl,rfl,rfl,rfl,rfl,rfl⟩ ⟨rfl,rfl⟩ (bJ _ rfl rfl rfl rfl rfl rfl rfl rfl rfl rfl rfl rfl rfl rfl rfl rfl rfl rfl rfl));have A:=ah (j.intro s.Ig k);have R:=ah s;clear a s k;go_enter Tryz.func83,Tryz.ntmps83;go_upto_region 1 with (fail)
 generalize w.setCell ⟨L.H,0,none⟩ (.int .i64 1)=w1 at *;obtain ⟨L1,i,P,F⟩:=b.o.1.Lp 11 (by simp [kG]);obtain ⟨H1,X,b3,a5,a9⟩:=L1;obtain rfl:H1=L.H:=i.H;obtain ⟨L2,g,N,E⟩:=P.LP;obtain ⟨H2,W,b2,a0,a8⟩:=L2;obtain rfl:H2=L.H:=g.H;obtain ⟨L3,f,M,D⟩:=N.Lp 13 (by simp [kG]);obtain ⟨H3,V,b1,Z,a7⟩:=L3;obtain rfl:H3=L.H:=f.H;obtain ⟨L4,d,K,C⟩:=M.Lp 14 (by simp [kG]);obtain ⟨H4,U,b0,Y,a6⟩:=L4;obtain rfl:H4=L.H:=d.H;have v:w1.cell? ⟨L.H,11,none⟩=some (L.li 11):=b.o.1.hp.c 11;have u:w1.cell? ⟨L.H,12,none⟩=some (L.li 12):=b.o.1.hp.c 12;have t:w1.cell? ⟨L.H,13,none⟩=some (L.li 13):=b.o.1.hp.c 13;have r:w1.cell? ⟨L.H,14,none⟩=some (L.li 14):=b.o.1.hp.c 14;have q:=b.o.1.hp.Nq 11;have p:=b.o.1.hp.Nq 12;have m:=b.o.1.hp.Nq 13;have l:=b.o.1.hp.Nq 14;have A4:=ah (show MV base S h.Ig { G with ag:=[] } _ _ from K.aux [] h.G5);have Q:=ah (j.intro ((i.trans g).trans (f.trans d)) (((b.o.2.trans F).trans E).trans (D.trans C)));clear P N M K F E D C i g f d b c0 T;go_upto_region 3 with (fail)
 generalize (((w1.setCell ⟨L.H,11,none⟩ (.slice none 0 0)).setCell ⟨L.H,12,none⟩ (.slice none 0 0)).setCell ⟨L.H,13,none⟩ (.slice none 0 0)).setCell ⟨L.H,14,none⟩ (.slice none 0 0)=w5 at *;have B:=ah (oF A4.o (fun n hn=>A.o.2 n (.inl hn)) (by have:=A.o.1.nu;omega) (by have:=R.o.rt;show h.roots.length<=20000;omega) (fun n hn=>A.o.2 n (.inr hn)) (by have:=R.o.fp;show h.pending.length<=20000;omega));clear v u t r q p m l;go_wp2_with fail;refine B.o.mono ?_;rintro e1 w6 ⟨rfl,L6,k,J,hk⟩;have z:=ah (j.intro k.x (j.intro J hk));clear k J hk;go_wp2;go_end0;exact ⟨rfl,L6,Q.o.1.trans z.o.1,z.o.2.1,Q.o.2.trans z.o.2.2⟩
end
section
variable {G:Gh} {L:PM} {S:Nat->Prop} {base n:Nat} {h:Hp} {o:Ob} {w:World}
theorem Gj (tb:Nat->Nat) (l:List Nat):l.map (eP tb 18)=dZ l:=rfl
theorem xg (a:MV base S h G L w) (ho:h.ob n=some o) (T:1<=h.live) (R:h.live<=20000) (y:40+40*o.es.length<=h.bytes) (V:h.bytes<=300000) (U:h.freed.length<=20000):
 Calls Tryz.prog 139 #[.pointer (some ⟨L.H,0,none⟩),.pointer (some ⟨L.tb n,0,none⟩)] w fun e w'=>e=.returned (.tuple #[])/\∃ L',MS L L'/\MV base S { h with live:=h.live-1,bytes:=h.bytes-(40+40*o.es.length),freed:=h.freed++[n] } G L' w'/\Keeps w w' S:=by
 have c3:w.cell? ⟨L.H,3,none⟩=some (.int .i64 (h.live:Int)):=a.hp.c 3;have J:=a.hp.Nq 3;have s:=ah (a.num (h':={ h with live:=h.live-1 }) (G':=G) 3 (.int .i64 ((h.live-1:b):Int)) (by decide) (fun _=>rfl) ⟨rfl,rfl,rfl,rfl,rfl,rfl,rfl⟩ ⟨rfl,rfl⟩ (bJ _ rfl rfl rfl rfl rfl rfl rfl rfl rfl rfl rfl rfl rfl rfl rfl rfl rfl rfl rfl));have D:=ah ho;clear a ho;go_enter Tryz.func139,Tryz.ntmps139;go_upto_region 1 with (fail)
 rw [show (h.live:Int)-1=((h.live-1:b):Int) by omega];generalize w.setCell ⟨L.H,3,none⟩ (.int .i64 ((h.live-1:b):Int))=w1 at *;clear c3 J;have Z:w1.cell? ⟨L.H,4,none⟩=some (.int .i64 (h.bytes:Int)):=s.o.1.hp.c 4;have F:=s.o.1.hp.Nq 4;have E:w1.cell? ⟨L.tb n,2,none⟩=some (.int .i64 ((40+40*o.es.length:b):Int)):=(s.o.1.ob n o D.o).c 2;have t:=ah (s.o.1.num (h':={ h with live:=h.live-1,bytes:=h.bytes-(40+40*o.es.length) }) (G':=G) 4 (.int .i64 ((h.bytes-(40+40*o.es.length):b):Int)) (by decide) (fun _=>rfl) ⟨rfl,rfl,rfl,rfl,rfl,rfl,rfl⟩ ⟨rfl,rfl⟩ (bJ _ rfl rfl rfl rfl rfl rfl rfl rfl rfl rfl rfl rfl rfl rfl rfl rfl rfl rfl rfl));obtain ⟨z,v⟩:∃ z:b,z=40+40*o.es.length:=⟨_,rfl⟩
 rw [<-v] at E t y;have HZ:=ah v;clear v;go_wp2_with fail
 go_region
 rw [show (h.bytes:Int)-(z:Int)=((h.bytes-z:b):Int) by omega];have r:∀ x:World,x.drew=x.drewN 1:=fun x=>rfl;rw [r];have f:=ah (And.intro (t.o.1.low (aC (g _ _) 1)) (t.o.2.trans (Keeps.of (aC (g _ _) 1) (u _) S)));generalize (w1.setCell ⟨L.H,4,none⟩ (.int .i64 ((h.bytes-z:b):Int))).drewN 1=w2 at *;clear Z F E r t;have a1:w2.cell? ⟨L.H,17,none⟩=some (.bool true):=f.o.1.hp.c 17;have t1:w2.cell? ⟨L.tb n,1,none⟩=some (.int .i64 (n:Int)):=(f.o.1.ob n o D.o).c 1;have k:=f.o.1.li 18 (by simp [eF]);rw [show eU { h with live:=h.live-1,bytes:=h.bytes-z } G 18=h.freed from rfl,Gj] at k;obtain ⟨C,B,m⟩:=aF k;have a0:w2.cell? ⟨L.H,18,none⟩=some (.slice C h.freed.length B):=by
  have:=f.o.1.hp.c 18;rw [this];exact congrArg some m
 have K:=f.o.1.hp.Nq 18;have d:=ah (And.intro m k);have W:=f.o.1.hp.lt;have Q:=(f.o.1.ob n o D.o).lt;clear m k;go_wp2_with fail
 go_region_law (
  refine kV (wr:=w2) _ _ rfl base (.slice C h.freed.length B) h.freed n (by have:=d.o.2;rw [d.o.1] at this;exact this) rfl rfl (by omega) f.o.1.bs ?_;intro v' N l q p;obtain ⟨a8,P,rfl⟩:=aF l;have i:=f.o.1.JV (h':=iM { h with live:=h.live-1,bytes:=h.bytes-z } 18 (h.freed++[n])) (G':=G) 18 (by simp [eF]) (by rw [d.o.1];exact q) (.slice a8 (h.freed++[n]).length P) l (by rw [d.o.1];exact p) (jE _ _ _) (fun j hj hn=>jB (by simp [kG]) hj hn _) (kU (by simp [kG]) _ _);have Y:N.cell? ⟨L.H,18,none⟩=some (.slice C h.freed.length B):=by
   have:=i.1.c 18;rw [this];exact congrArg some d.o.1
  have M:=i.1.Nq 18;have H8:=ah i.2;clear l q p i)
 all_goals
  go_wp2;go_end0;have A:=H8.o;have X:(h.freed++[n]).length=h.freed.length+1:=by simp
  rw [X] at A;rw [<-HZ.o];refine ⟨rfl,_,?_,A.1,(s.o.2.trans f.o.2).trans A.2⟩;exact ⟨rfl,rfl,rfl,rfl⟩
end
section
variable {T TS base c cap k n s:Nat} {w:World} {xs:List Value}
theorem BI (a:Array Value) (n:Nat):(Builtin.zeroCells a n).toList.length=n*a.size:=by simp [Builtin.zeroCells]
theorem EA (a:Array Value) (n:Nat) (h:∀ u∈a.toList,u.oneCell'=true):∀ u∈(Builtin.zeroCells a n).toList,u.oneCell'=true:=by
 intro u d;simp only [Builtin.zeroCells,Array.toList_map,List.mem_map] at d;obtain ⟨i,hi,rfl⟩:=d;have b:i<n*a.size:=by simpa using hi
 have e:0<a.size:=by
  rcases Nat.eq_zero_or_pos a.size with c|c
  ·rw [c] at b;simp at b
  ·exact c
 have hm:=Nat.mod_lt i e;rw [getElem!_pos a (i%a.size) hm];exact h _ (by simp)
theorem mo {g:Nat} {z:Value} (E:Tryz.prog.underlying TS=some (.slice T)) (A:∀ w,(zeroValue T).run Tryz.prog w=.ok z w) (l:z.cells.size=s) (F:∀ u∈z.cells.toList,u.oneCell'=true)
 (hown:w.ownsRow base T s (.slice (some ⟨g,0,none⟩) n cap) n xs) (hk:k<n) (y:TypeId):∃ w1,(Builtin.clear_ #[TS] y #[.slice (some ⟨g,k*s,none⟩) (n-k) c]).run Tryz.prog w=.ok (.tuple #[]) w1/\w1.ownsRow base T s (.slice (some ⟨g,0,none⟩) k cap) k (xs.take (k*s))/\Keeps w w1 (fun b=>b=g)/\w1.heap.size=w.heap.size:=by
 have o:=hown;obtain ⟨D,f⟩:=hown;rcases f with ⟨j,_⟩|⟨G,x,a,j,r,v,p,q,i,B⟩
 ·cases j
 ·simp only [Value.slice.injEq,Option.some.injEq,Addr.mk.injEq,true_and,and_true] at j
  obtain ⟨rfl,rfl⟩:=j;have C:(n-k)*s+k*s=n*s:=by rw [<-Nat.add_mul,Nat.sub_add_cancel (dh hk)]
  have t:n*s<=cap*s:=Nat.mul_le_mul_right _ p;have e:=BI z.cells (n-k);rw [l] at e;have d:=run_storeCells_at (P:=Tryz.prog) g (k*s) T (Builtin.zeroCells z.cells (n-k)).toList 0 a w v (by rw [e];omega) (EA _ _ F);rw [Nat.add_zero,e,show k*s+(n-k)*s=n*s by omega] at d;have h:(a.toList.take (k*s)++(Builtin.zeroCells z.cells (n-k)).toList++a.toList.drop (n*s)).length=cap*s:=by
   rw [aT,aT,e,bX,List.length_drop,Array.length_toList,i];omega
  refine ⟨w.setRow g (a.toList.take (k*s)++(Builtin.zeroCells z.cells (n-k)).toList++a.toList.drop (n*s)).toArray,?_,⟨?_,.inr ⟨g,cap,_,rfl,r,setRow_heap w g a _ T (0,0) v,by omega,q,by rw [List.size_toArray];exact h,?_⟩⟩,⟨rfl,rfl,rfl,aO (setRow_size w g _).symm,fun b hb hn=>setRow_other w g b _ hn⟩,setRow_size w g _⟩
  ·obtain ⟨m,hm⟩:∃ m,n-k=m+1:=⟨n-k-1,by omega⟩
   rw [hm] at d ⊢;simp only [Builtin.clear_,Sem.run_bind,run_underlying E,Result.andThen_ok,A,d,Sem.run_pure,List.getElem?_toArray,List.getElem?_cons_zero]
  ·rw [bX,D];omega
  ·show ((a.toList.take (k*s)++(Builtin.zeroCells z.cells (n-k)).toList++a.toList.drop (n*s)).take (k*s))=xs.take (k*s)
   rw [List.append_assoc,List.take_append_of_le_length (by rw [bX,Array.length_toList,i];omega),List.take_take,Nat.min_self,<-B,List.take_take,Nat.min_eq_left (by omega)]
theorem kN (b:Tryz.prog.underlying TS=some (.slice T)) (A:Option Addr) (c:Nat) (d:TypeId):(Builtin.clear_ #[TS] d #[.slice A 0 c]).run Tryz.prog w=.ok (.tuple #[]) w:=by
 cases A with
 |none=>simp only [Builtin.clear_,Sem.run_bind,run_underlying b,Result.andThen_ok,Sem.run_pure,List.getElem?_toArray,List.getElem?_cons_zero]
 |some a=>simp only [Builtin.clear_,Sem.run_bind,run_underlying b,Result.andThen_ok,Sem.run_pure,List.getElem?_toArray,List.getElem?_cons_zero]
end
end Go.Proofs.YtbpcdfbmnklcjaaGreatDoor
