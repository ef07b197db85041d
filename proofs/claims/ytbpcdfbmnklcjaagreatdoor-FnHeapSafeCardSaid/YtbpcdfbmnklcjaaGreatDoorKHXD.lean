import Derived.Test.YtbpcdfbmnklcjaaGreatDoorKIO1
namespace Go.Proofs.YtbpcdfbmnklcjaaGreatDoor
open Go Go.RowKit
set_option maxHeartbeats 6400000
set_option maxRecDepth 100000
set_option linter.unusedVariables false
variable {K:Act->World->Prop} {Q:Exit->Act->World->Prop} {a:Act} {v:Value} {w w1 w2 wr:World}
theorem nI {o:Oper} (s x:Operand)
 (ho:o.op=.call { callee:=.builtin .append,args:=#[s,x],argTypes:=#[25,25] })
 (base:Nat) (v:Value) (n:Nat) (r f:List Value) (hown:wr.ownsRow base 36 7 v n r) (C:a.eval s=v) (g:Nat) (hx:a.eval x=.slice (some ⟨g,0,none⟩) 1 1) (p:f.length=7) (B:∀ u∈f,u.oneCell'=true) (m:aD wr 36 g 7 (fun j=>f.getD j (.bool false))) (z:n<=10000) (d:base<=wr.heap.size)
 (h:∀ v' w',w'.ownsRow base 36 7 v' (n+1) (r++f)->Keeps wr w' (fun b=>v.ownBlock=some b)->(∀ g,v'.ownBlock=some g->v.ownBlock=some g∨wr.heap.size<=g)->K (a.put o.dst v') w'):
 Oper.wp Tryz.prog o a wr K Q:=by
 obtain ⟨y,hi,l,k,i⟩:=info_parts Ar;have c:∀ j u,f[j]?=some u->wr.cell? ((⟨g,0,none⟩:Addr).add j)=some u:=by
  intro j u A;have t:j<7:=by have:=(aJ.1 A).1;omega
  rw [bL];have:=m.cell (j:=j) t;rw [show (⟨g,0+j,none⟩:Addr)=⟨g,j,none⟩ by rw [Nat.zero_add],this];simp only [bq,A];rfl
 obtain ⟨v',w',hr,E,q,F⟩:=run_append_own (P:=Tryz.prog) wr base 25 o.type 36 y (.agg #[.int .i64 0,.int .i64 0,.int .i64 0,.int .i64 0,.int .i64 0,.int .i64 0,.slice none 0 0]) 7 72 Tryz.underlying25 hi l k i rfl (by decide) v n r hown ⟨g,0,none⟩ 1 1 f (by rw [p]) c B (by unfold maxLen;omega) (by omega) d;have D:=fG wr base 25 o.type 36 y (.agg #[.int .i64 0,.int .i64 0,.int .i64 0,.int .i64 0,.int .i64 0,.int .i64 0,.slice none 0 0]) 7 72 Tryz.underlying25 hi l k i rfl (by decide) v n r hown ⟨g,0,none⟩ 1 1 f (by rw [p]) c B (by unfold maxLen;omega) (by omega) (by decide) hr;unfold Oper.wp execOp;simp only [ho,resolve,invoke,builtin,Sem.run_bind,Sem.run_pure,Result.andThen_ok,List.map_toArray,List.map_cons,List.map_nil,C,hx,hr];exact h v' w' E ⟨q.os,q.tape,q.output,q.size,fun b hb hn=>q.block b hb (fun e=>hn e.symm)⟩ D
theorem EZ (wr:World) (c i l b s p:Int) (f:Option Addr) (n k:Nat):aD (wr.alloc (.cells #[.int .i64 c,.int .i64 i,.int .i64 l,.int .i64 b,.int .i64 s,.int .i64 p,.slice f n k] 36)) 36 wr.heap.size 7 (fun j=>(mO ⟨c,i,l,b,s,p,[]⟩ (.slice f n k)).getD j (.bool false)):=by
 have h:=aD.mk' wr 36 #[.int .i64 c,.int .i64 i,.int .i64 l,.int .i64 b,.int .i64 s,.int .i64 p,.slice f n k];refine aD.congr (show aD _ _ _ 7 _ from h) (fun j hj=>?_);have:j=0∨j=1∨j=2∨j=3∨j=4∨j=5∨j=6:=by omega
 rcases this with rfl|rfl|rfl|rfl|rfl|rfl|rfl<;>rfl
theorem wW (a:An) (f:Option Addr) (n k:Nat):∀ u∈mO a (.slice f n k),u.oneCell'=true:=by
 intro u b;simp [mO] at b;rcases b with rfl|rfl|rfl|rfl|rfl|rfl|rfl<;>rfl
theorem zJ {o:Oper} {K:Act->World->Prop} {Q:Exit->Act->World->Prop} (x y:Operand)
 (ho:o.op=.call { callee:=.value (.func 24),args:=#[x,y],argTypes:=#[57,39] }) (c b:Value) (hx:a.eval x=c) (d:a.eval y=b) {E:Ending->World->Prop} (i:Calls Tryz.prog 24 #[c,b] w E)
 (h:∀ e w',E e w'->∃ v,e=.returned v/\K (a.put o.dst v) w'):Oper.wp Tryz.prog o a w K Q:=by
 unfold Oper.wp;have f:a.eval (.func 24)=.func (.func 24) #[] #[]:=rfl;generalize a.eval=ev at hx d f ⊢;simp [execOp,ho,resolve,invoke,hx,d,f,go_sem];refine i.mono ?_;intro e w' g;obtain ⟨v,rfl,hk⟩:=h e w' g;exact hk
def yw (w:World) (v:Value) (ops:List dA):Prop:=∃ A cap,v=.slice A ops.length cap/\ops.length<=cap/\∀ (i:Nat) (o:dA),ops[i]?=some o->∃ g,A=some ⟨g,0,none⟩/\g<w.heap.size/\w.cell? ⟨g,i*4,none⟩=some (.int .i64 o.1)/\w.cell? ⟨g,i*4+1,none⟩=some (.int .i64 o.2.1)/\w.cell? ⟨g,i*4+2,none⟩=some (.int .i64 o.2.2.1)/\w.cell? ⟨g,i*4+3,none⟩=some (.int .i64 o.2.2.2)
def Gi (ops:List dA) (w:World) (e:Ending) (w':World):Prop:=Below w.heap.size w w'/\∃ (c:Int) (av:Value) (al:List An) (fs:List Value),e=.returned (.agg #[.int .i64 c,av])/\c=(if 5000<ops.length then 5 else 0)/\al=(if 5000<ops.length then [] else (cZ ops).1)/\w'.ownsRow w.heap.size 36 7 av al.length (tH al fs)/\fs.length=al.length/\∀ (i:Nat) (b:An) (f:Value),al[i]?=some b->fs[i]?=some f->w'.ownsRow w.heap.size 3 1 f b.freed.length (dZ b.freed)
theorem yK (wr:World) (c:Int) (a:Option Addr) (n k:Nat):aD (wr.alloc (.cells #[.int .i64 c,.slice a n k] 27)) 27 wr.heap.size 2 (fun j=>if j=0 then .int .i64 c else .slice a n k):=by
 have h:=aD.mk' wr 27 #[.int .i64 c,.slice a n k];refine aD.congr (show aD _ _ _ 2 _ from h) (fun j hj=>?_);have:j=0∨j=1:=by omega
 rcases this with rfl|rfl<;>rfl
theorem BX (q:MW w1.heap.size (fun b=>w1.heap.size<=b) Hp.new (qW w1.heap.size) w2) (hb:Below w1.heap.size w1 w2):
 HI w1 (w2.heap.size+1) (w2.heap.size+2) [] [] ⟨Hp.new,[false],0⟩ (.slice none 0 0) (fun b=>((w1.heap.size<=b/\b≠w2.heap.size)/\b≠w2.heap.size+1)/\b≠w2.heap.size+2) (qW w1.heap.size) (.slice (some ⟨w2.heap.size,0,none⟩) 1 1)
  (((w2.alloc (.cells #[.bool false] 4)).alloc (.cells #[.pointer (some ⟨w1.heap.size+2,0,none⟩),.slice (some ⟨w2.heap.size,0,none⟩) 1 1,.int .i64 0] 61)).alloc (.cells #[.int .i64 0,.slice none 0 0] 27)):=by
 have e1:(w2.alloc (.cells #[.bool false] 4)).heap.size=w2.heap.size+1:=bM _;have k:((w2.alloc (.cells #[.bool false] 4)).alloc (.cells #[.pointer (some ⟨w1.heap.size+2,0,none⟩),.slice (some ⟨w2.heap.size,0,none⟩) 1 1,.int .i64 0] 61)).heap.size=w2.heap.size+2:=by rw [show ((w2.alloc (.cells #[.bool false] 4)).alloc (.cells #[.pointer (some ⟨w1.heap.size+2,0,none⟩),.slice (some ⟨w2.heap.size,0,none⟩) 1 1,.int .i64 0] 61)).heap.size=_ from bM _,e1]
 have r:=q.hole (.cells #[.bool false] 4);have p:=r.hole (.cells #[.pointer (some ⟨w1.heap.size+2,0,none⟩),.slice (some ⟨w2.heap.size,0,none⟩) 1 1,.int .i64 0] 61);have o:=p.hole (.cells #[.int .i64 0,.slice none 0 0] 27);rw [e1] at p;rw [e1,k] at o;have b3:=aU ((w2.alloc (.cells #[.bool false] 4)).alloc (.cells #[.pointer (some ⟨w1.heap.size+2,0,none⟩),.slice (some ⟨w2.heap.size,0,none⟩) 1 1,.int .i64 0] 61)) (.cells #[.int .i64 0,.slice none 0 0] 27);have b2:=aU (w2.alloc (.cells #[.bool false] 4)) (.cells #[.pointer (some ⟨w1.heap.size+2,0,none⟩),.slice (some ⟨w2.heap.size,0,none⟩) 1 1,.int .i64 0] 61);have m:=b2.trans (b3.mono (by rw [e1,k];omega));have d:=Gw w2 (.cells #[.bool false] 4) (.cells #[.pointer (some ⟨w1.heap.size+2,0,none⟩),.slice (some ⟨w2.heap.size,0,none⟩) 1 1,.int .i64 0] 61) (.cells #[.int .i64 0,.slice none 0 0] 27);have c:=hb.size;have n:=aD.mk' (w2.alloc (.cells #[.bool false] 4)) 61 #[.pointer (some ⟨w1.heap.size+2,0,none⟩),.slice (some ⟨w2.heap.size,0,none⟩) 1 1,.int .i64 0];rw [e1] at n;have l:=n.low b3 (by rw [k];omega);have ro:=yK ((w2.alloc (.cells #[.bool false] 4)).alloc (.cells #[.pointer (some ⟨w1.heap.size+2,0,none⟩),.slice (some ⟨w2.heap.size,0,none⟩) 1 1,.int .i64 0] 61)) 0 none 0 0;rw [k] at ro;have s:=(m.block w2.heap.size (by rw [e1];omega)).trans (heap_alloc_new w2 (.cells #[.bool false] 4));refine ⟨⟨⟨o,?_,⟨rfl,.inr ⟨w2.heap.size,1,_,rfl,c,s,by decide,by decide,rfl,rfl⟩⟩,rfl,rfl⟩,fun e=>e.1.2 rfl,fun g hg e=>?_,rfl⟩,ro,⟨rfl,.inl ⟨rfl,rfl⟩⟩,rfl,fun i b f h=>by simp at h,?_,fun g hg=>by simp [Value.ownBlock] at hg,fun f hf=>by simp at hf,hb.trans (d.mono c),by omega,by omega,fun b e=>e.1.1.1,fun g hg=>?_⟩
 ·refine aD.congr (show aD _ _ _ 3 _ from l) (fun j hj=>?_)
  have:j=0∨j=1∨j=2:=by omega
  rcases this with rfl|rfl|rfl<;>rfl
 ·simp [Value.ownBlock] at hg
  exact e.1.1.2 hg.symm
 ·rintro (e|e|e)
  ·exact e.2 rfl
  ·omega
  ·simp [Value.ownBlock] at e
 ·simp [Value.ownBlock] at hg
  omega
theorem xM {ops:List dA} (hv:yw w v ops) (hn:ops.length<=1048576):Calls Tryz.prog 7 #[v] w (Gi ops w):=by
 obtain ⟨A,c9,rfl,c6,m⟩:=hv;have HC:=ah m;clear m;have J:=ah (yK w 0 none 0 0);have N:=ah (aU w (.cells #[.int .i64 0,.slice none 0 0] 27));by_cases h5:5000<ops.length
 ·have c4:((ops.length:Int) > 5000):=by omega
  go_enter Tryz.func7,Tryz.ntmps7;go_upto_region 1 with (fail)
  generalize w.alloc (.cells #[.int .i64 0,.slice none 0 0] 27)=w1 at *;generalize V:w.heap.size=X at *;have x0:=J.o.c 0;have x1:=J.o.c 1;have z0:=J.o.Nq 0;have z1:=J.o.Nq 1;go_wp2;have HR:=ah (((J.o.set (j:=0) (by omega) (.int .i64 5)).set (j:=1) (by omega) (.slice none 0 0)));have HK:=ah (show Below X w _ from N.o.trans (((Keeps.setCell (S:=fun b=>b=X) (Keeps.refl w1 _) (g:=X) (j:=0) rfl (.int .i64 5)).setCell (g:=X) (j:=1) rfl (.slice none 0 0)).below (B:=X) (dh J.o.lt) (fun b e=>by omega)));generalize (w1.setCell ⟨X,0,none⟩ (.int .i64 5)).setCell ⟨X,1,none⟩ (.slice none 0 0)=w7 at *;have q0:w7.cell? ⟨X,0,none⟩=d (.int .i64 5):=HR.o.c 0;have q1:w7.cell? ⟨X,1,none⟩=d (.slice none 0 0):=HR.o.c 1;refine bodyPost_ret (v:=.agg #[.int .i64 5,.slice none 0 0]) ?_ rfl ?_
  ·simp [results,Tryz.results7,go_sem,q0,q1]
  ·exact ⟨by rw [V];exact HK.o,5,.slice none 0 0,[],[],rfl,by rw [if_pos h5],by rw [if_pos h5],⟨rfl,.inl ⟨rfl,rfl⟩⟩,rfl,fun i b f h=>by simp at h⟩
 ·have c4:¬ ((ops.length:Int) > 5000):=by omega
  go_enter Tryz.func7,Tryz.ntmps7;go_upto_region 1 with (fail)
  have a6:=ah (Cy (w.alloc (.cells #[.int .i64 0,.slice none 0 0] 27)));generalize w.alloc (.cells #[.int .i64 0,.slice none 0 0] 27)=w1 at *;generalize V:w.heap.size=X at *;go_wp2_with fail;refine a6.o.mono ?_;rintro e2 w2 ⟨rfl,Y,a0⟩;have a9:=ah (BX Y a0);clear Y a0 a6;go_upto_region 5 with (fail)
  have a7:Hq (HI w1 (w2.heap.size+1) (w2.heap.size+1+1) [] [] ⟨Hp.new,[false],0⟩ (.slice none 0 0) (fun b=>((w1.heap.size<=b/\b≠w2.heap.size)/\b≠w2.heap.size+1)/\b≠w2.heap.size+1+1) (qW w1.heap.size) (.slice (d ⟨w2.heap.size,0,none⟩) 1 1)
   (((w2.alloc (.cells #[.bool false] 4)).alloc (.cells #[.pointer (d ⟨w1.heap.size+2,0,none⟩),.slice (d ⟨w2.heap.size,0,none⟩) 1 1,.int .i64 0] 61)).alloc (.cells #[.int .i64 0,.slice none 0 0] 27))):=a9
  clear a9;generalize ((w2.alloc (.cells #[.bool false] 4)).alloc (.cells #[.pointer (d ⟨w1.heap.size+2,0,none⟩),.slice (d ⟨w2.heap.size,0,none⟩) 1 1,.int .i64 0] 61)).alloc (.cells #[.int .i64 0,.slice none 0 0] 27)=w3 at *;generalize w2.heap.size+1=R at *;go_wp2;go_loopw [18] (fun jv ws=>∃ j:Nat,j<=ops.length/\jv=.int .i64 j/\Hq (∃ fs av S L rv,HI w1 R (R+1) (cZ (ops.take j)).1 fs (cZ (ops.take j)).2 av S L rv ws)) (fun jv _=>ops.length-bF jv)
  case atStart=>exact ⟨0,by omega,rfl,_,_,_,_,_,by rw [List.take_zero];exact a7.o⟩
  case round=>
   clear a7;obtain ⟨j,b7,rfl,HJ⟩:=hrel;obtain ⟨fs,av,S,L,rv,hj⟩:=HJ.o;have k:=ah hj;clear hj HJ;have D:=(kr ops j b7 (by omega))
   have c2:(cZ (ops.take j)).1.length<=5000:=by rw [D.2];omega
   by_cases b5:j<ops.length
   ·obtain ⟨o,ho⟩:∃ o,ops[j]?=d o:=⟨_,aN b5⟩
    have c8:(j:Int)<(ops.length:Int):=by omega
    have a4:=ah (fF ho);obtain ⟨g,rfl,hg,d0,d1,d2,d3⟩:=HC.o j o ho;have F:g<w1.heap.size:=aX (V ▸ hg) (V ▸ N.o.size);have E:g<X:=V ▸ hg;have f0:wr.cell? ⟨g,j*4,none⟩=d (.int .i64 o.1):=(k.o.hb.cell (p:=⟨g,j*4,none⟩) F).trans ((N.o.cell (p:=⟨g,j*4,none⟩) E).trans d0);have f1:wr.cell? ⟨g,j*4+1,none⟩=d (.int .i64 o.2.1):=(k.o.hb.cell (p:=⟨g,j*4+1,none⟩) F).trans ((N.o.cell (p:=⟨g,j*4+1,none⟩) E).trans d1);have f2:wr.cell? ⟨g,j*4+2,none⟩=d (.int .i64 o.2.2.1):=(k.o.hb.cell (p:=⟨g,j*4+2,none⟩) F).trans ((N.o.cell (p:=⟨g,j*4+2,none⟩) E).trans d2);have f3:wr.cell? ⟨g,j*4+3,none⟩=d (.int .i64 o.2.2.2):=(k.o.hb.cell (p:=⟨g,j*4+3,none⟩) F).trans ((N.o.cell (p:=⟨g,j*4+3,none⟩) E).trans d3);have c5:=ah D.1;obtain ⟨kd,A,B,C⟩:=o;simp only at f0 f1 f2 f3;have M:=ah (fK wr kd A B C);have HH:=ah (k.o.hole (.cells #[.int .i64 kd,.int .i64 A,.int .i64 B,.int .i64 C] 39));clear d0 d1 d2 d3 ho D;go_upto_region 8 with (fail)
    generalize wr.alloc (.cells #[.int .i64 kd,.int .i64 A,.int .i64 B,.int .i64 C] 39)=w5 at *;generalize wr.heap.size=P at *;clear f0 f1 f2 f3;generalize cZ (ops.take j)=q at *;obtain ⟨t,l,rfl⟩:∃ t l,av=.slice t q.1.length l:=aF HH.o.a;have c1:w5.cell? ⟨R+1,1,none⟩=d (.slice t q.1.length l):=HH.o.o.c 1;have p0:w5.cell? ⟨P,0,none⟩=d (.int .i64 kd):=M.o.c 0;have p1:w5.cell? ⟨P,1,none⟩=d (.int .i64 A):=M.o.c 1;have p2:w5.cell? ⟨P,2,none⟩=d (.int .i64 B):=M.o.c 2;have p3:w5.cell? ⟨P,3,none⟩=d (.int .i64 C):=M.o.c 3;have a5:=ah (fun (w9:World) (y:RW w1.heap.size (fun b=>S b/\b≠P) q.2.h L R q.2.hand rv q.2.root w9)=>BS y c5.o (by omega) kd A B C);have a3:Hq (cZ (ops.take (j+1))=(q.1++[(cK q.2 kd A B C).1],(cK q.2 kd A B C).2)):=a4;clear a4 k;generalize cK q.2 kd A B C=pp at *;have b0:=ah (HH.o.low (aC (aG _ _) 1));have d4:=ah (M.o.keep (Keeps.of (aC (aG w5.heap.size w5) 1) (au _) (fun _=>False)) (fun y=>y));have a2:¬ Zs (fun b=>S b/\b≠P) R rv P:=by
     rintro (e|e|e)
     ·exact e.2 rfl
     ·exact M.o.apart HH.o.x.x.r (by decide) e
     ·exact ak HH.o.x.x.v M.o (by decide) e
    have d5:=ah a2;clear a2;go_wp2_with fail
    go_region_law (first
     |(rw [if_pos (by rfl)]
       refine zJ (.tmp 24) (.tmp 25) rfl _ _ rfl rfl (a5.o _ b0.o.x) ?_;rintro e6 z ⟨fv,rfl,hf,kk,S',L',c7,hw,hs,hv,Z⟩;obtain ⟨af,W,b8⟩:=aF hf;subst b8;refine ⟨_,rfl,?_⟩;have G:=b0.o.one hf kk hw hs hv Z;have U:=ah G;have b1:z.cell? ⟨R+1,1,none⟩=d (.slice t q.1.length l):=U.o.1.o.c 1;have c3:=U.o.1.o.lt;have b2:=((aU z (.cells #[.int .i64 pp.1.code,.int .i64 pp.1.id,.int .i64 pp.1.live,.int .i64 pp.1.bytes,.int .i64 pp.1.state,.int .i64 pp.1.pend,.slice af pp.1.freed.length W] 36)).cell (p:=⟨R+1,1,none⟩) c3).trans b1;have e7:(mO pp.1 (.slice af pp.1.freed.length W)).toArray=#[.int .i64 pp.1.code,.int .i64 pp.1.id,.int .i64 pp.1.live,.int .i64 pp.1.bytes,.int .i64 pp.1.state,.int .i64 pp.1.pend,.slice af pp.1.freed.length W]:=rfl;rw [e7];clear G hf kk hw hs hv Z e7)
     |(rw [if_pos (by rfl)]
       refine nI (wr:=z.alloc (.cells #[.int .i64 pp.1.code,.int .i64 pp.1.id,.int .i64 pp.1.live,.int .i64 pp.1.bytes,.int .i64 pp.1.state,.int .i64 pp.1.pend,.slice af pp.1.freed.length W] 36)) (.tmp 23) (.tmp 27) rfl w1.heap.size (.slice t q.1.length l) q.1.length (tH q.1 fs) (mO pp.1 (.slice af pp.1.freed.length W)) (aj U.o.1.a (Keeps.of (aU z _) (au _) (fun _=>False)) (fun _ _ y=>y)) rfl z.heap.size rfl rfl (wW _ _ _ _) (EZ z _ _ _ _ _ _ _ _ _) (by omega) (aI U.o.1.hb.size (aU z _).size) ?_;intro v' w8 g1 g2 g3;obtain ⟨a8,k8,b3⟩:=aF g1;subst b3;have H8:=ah (U.o.1.app (w':=w8) U.o.2.1 U.o.2.2 g1 ((Keeps.of (aU z _) (au _) _).trans g2) (fun g e=>(g3 g e).imp id (fun y=>aI (aU z _).size y)));have u1:=H8.o.1.c 1;have z1:=H8.o.1.Nq 1;clear g1 g2 g3))
    all_goals
     go_wp2_with fail;go_roundw
     case rel=>exact ⟨j+1,by omega,by simp,_,_,_,_,_,by rw [a3.o];exact H8.o.2⟩
     case measure=>simp [bF];omega
   ·have b6:j=ops.length:=by omega
    subst b6;rw [bf] at k;obtain ⟨t,l,rfl⟩:∃ t l,av=.slice t (cZ ops).1.length l:=aF k.o.a;have a1:X<w1.heap.size:=J.o.lt;have u:=ah (J.o.low k.o.hb a1);have c0:wr.cell? ⟨R+1,0,none⟩=d (.int .i64 0):=k.o.o.c 0;have c1:wr.cell? ⟨R+1,1,none⟩=d (.slice t (cZ ops).1.length l):=k.o.o.c 1;have x0:=u.o.c 0;have x1:=u.o.c 1;have z0:=u.o.Nq 0;have z1:=u.o.Nq 1;clear c2 D;go_wp2;have HR:=ah (((u.o.set (j:=0) (by omega) (.int .i64 0)).set (j:=1) (by omega) (.slice t (cZ ops).1.length l)));have HK:=ah ((Keeps.setCell (S:=fun b=>b=X) (Keeps.refl wr _) (g:=X) (j:=0) rfl (.int .i64 0)).setCell (g:=X) (j:=1) rfl (.slice t (cZ ops).1.length l));generalize (wr.setCell ⟨X,0,none⟩ (.int .i64 0)).setCell ⟨X,1,none⟩ (.slice t (cZ ops).1.length l)=w7 at *;have q0:w7.cell? ⟨X,0,none⟩=d (.int .i64 0):=HR.o.c 0;have q1:w7.cell? ⟨X,1,none⟩=d (.slice t (cZ ops).1.length l):=HR.o.c 1;refine bodyPost_ret (v:=.agg #[.int .i64 0,.slice t (cZ ops).1.length l]) ?_ rfl ?_
    ·simp [results,Tryz.results7,go_sem,q0,q1]
    ·have b4:w.heap.size<=w1.heap.size:=by omega
     have b9:Below X w wr:=N.o.trans (k.o.hb.mono (dh a1));have H:∀ {T s n:Nat} {v:Value} {xs:List Value},wr.ownsRow w1.heap.size T s v n xs->w7.ownsRow w.heap.size T s v n xs:=fun h=>iq (aj h HK.o (fun g hg e=>by have:=(h.lt g hg).1;omega)) b4;exact ⟨by rw [V];exact b9.trans (HK.o.below (B:=X) (dh u.o.lt) (fun b e=>by omega)),0,_,(cZ ops).1,fs,rfl,by rw [if_neg h5],by rw [if_neg h5],H k.o.a,k.o.fl,fun i b f h1 h2=>H (k.o.f i b f h1 h2)⟩
end Go.Proofs.YtbpcdfbmnklcjaaGreatDoor
