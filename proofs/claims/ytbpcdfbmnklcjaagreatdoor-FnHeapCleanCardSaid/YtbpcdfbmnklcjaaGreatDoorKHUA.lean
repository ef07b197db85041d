import Derived.Test.YtbpcdfbmnklcjaaGreatDoorKHYB
import Derived.Test.YtbpcdfbmnklcjaaGreatDoorKHST
namespace Go.Proofs.YtbpcdfbmnklcjaaGreatDoor
open Go Go.RowKit
set_option maxHeartbeats 6400000
set_option maxRecDepth 100000
set_option linter.unusedVariables false
variable {S:Nat->Prop} {X base m n:Nat} {h:Hp} {v':Value} {w w1:World}
def cO (n:Nat):HV:=if n=0 then none else some (.inr n)
theorem gH (h:n≠0):cO n=some (.inr n):=by unfold cO;rw [if_neg h]
theorem ny (w:World) (n:Nat) (v:HV) (i:cO n=v):Calls Tryz.prog 45 #[.int .i64 (n:Int)] w fun e w'=>e=.returned (.agg #[.int .i64 (vk v),.int .i64 (vi v),.int .u64 0,.string ByteArray.empty,.int .i64 (vr v)])/\Below w.heap.size w w':=by
 have a:=ah (rA w none);have x:=ah (aU w (.cells (Nu none) 95));have HV:=ah i;by_cases s:n=0
 ·have r:((n:Int)==0)=true:=by simp [s]
  have f:v=none:=by rw [<-i,s];rfl
  subst f;clear i;go_enter Tryz.func45,Tryz.ntmps45;go_upto_region 1 with (fail)
  change Code.wp _ _ _ _ (w.alloc (.cells (Nu none) 95));generalize w.alloc (.cells (Nu none) 95)=w3 at *;generalize t:w.heap.size=X at *;have J:=a.o.c 0;have H:=a.o.c 1;have G:=a.o.c 2;have F:=a.o.c 3;have E:=a.o.c 4;have D:=a.o.ME 0;have C:=a.o.ME 1;have A:=a.o.ME 2;have z:=a.o.ME 3;have y:=a.o.ME 4;go_wp2;have d:=ah (((((a.o.set (j:=0) (by omega) (.int .i64 0)).set (j:=1) (by omega) (.int .i64 0)).set (j:=2) (by omega) (.int .u64 0)).set (j:=3) (by omega) (.string (ByteArray.mk #[]))).set (j:=4) (by omega) (.int .i64 0));have u:=ah (show Below X w _ from x.o.trans ((((((Keeps.setCell (S:=fun b=>b=X) (Keeps.refl w3 _) (g:=X) (j:=0) rfl (.int .i64 0)).setCell (g:=X) (j:=1) rfl (.int .i64 0)).setCell (g:=X) (j:=2) rfl (.int .u64 0)).setCell (g:=X) (j:=3) rfl (.string (ByteArray.mk #[]))).setCell (g:=X) (j:=4) rfl (.int .i64 0)).below (B:=X) (dh a.o.lt) (fun b e=>by omega)));generalize ((((w3.setCell ⟨X,0,none⟩ (.int .i64 0)).setCell ⟨X,1,none⟩ (.int .i64 0)).setCell ⟨X,2,none⟩ (.int .u64 0)).setCell ⟨X,3,none⟩ (.string (ByteArray.mk #[]))).setCell ⟨X,4,none⟩ (.int .i64 0)=w7 at *;have q:w7.cell? ⟨X,0,none⟩=some (.int .i64 0):=d.o.c 0;have q1:w7.cell? ⟨X,1,none⟩=some (.int .i64 0):=d.o.c 1;have p:w7.cell? ⟨X,2,none⟩=some (.int .u64 0):=d.o.c 2;have l:w7.cell? ⟨X,3,none⟩=some (.string (ByteArray.mk #[])):=d.o.c 3;have k:w7.cell? ⟨X,4,none⟩=some (.int .i64 0):=d.o.c 4;refine bodyPost_ret (v:=.agg #[.int .i64 0,.int .i64 0,.int .u64 0,.string (ByteArray.mk #[]),.int .i64 0]) ?_ rfl ⟨rfl,by rw [t];exact u.o⟩;simp [results,Tryz.results45,go_sem,q,q1,p,l,k]
 ·have r:((n:Int)==0)=false:=by simp;omega
  have f:v=some (.inr n):=by rw [<-i];exact gH s
  subst f;clear i;go_enter Tryz.func45,Tryz.ntmps45;go_upto_region 1 with (fail)
  change Code.wp _ _ _ _ (w.alloc (.cells (Nu none) 95));generalize w.alloc (.cells (Nu none) 95)=w3 at *;generalize t:w.heap.size=X at *;have J:=a.o.c 0;have H:=a.o.c 1;have G:=a.o.c 2;have F:=a.o.c 3;have E:=a.o.c 4;have D:=a.o.ME 0;have C:=a.o.ME 1;have A:=a.o.ME 2;have z:=a.o.ME 3;have y:=a.o.ME 4;go_wp2;have d:=ah (((((a.o.set (j:=0) (by omega) (.int .i64 5)).set (j:=1) (by omega) (.int .i64 0)).set (j:=2) (by omega) (.int .u64 0)).set (j:=3) (by omega) (.string (ByteArray.mk #[]))).set (j:=4) (by omega) (.int .i64 (n:Int)));have u:=ah (show Below X w _ from x.o.trans ((((((Keeps.setCell (S:=fun b=>b=X) (Keeps.refl w3 _) (g:=X) (j:=0) rfl (.int .i64 5)).setCell (g:=X) (j:=1) rfl (.int .i64 0)).setCell (g:=X) (j:=2) rfl (.int .u64 0)).setCell (g:=X) (j:=3) rfl (.string (ByteArray.mk #[]))).setCell (g:=X) (j:=4) rfl (.int .i64 (n:Int))).below (B:=X) (dh a.o.lt) (fun b e=>by omega)));generalize ((((w3.setCell ⟨X,0,none⟩ (.int .i64 5)).setCell ⟨X,1,none⟩ (.int .i64 0)).setCell ⟨X,2,none⟩ (.int .u64 0)).setCell ⟨X,3,none⟩ (.string (ByteArray.mk #[]))).setCell ⟨X,4,none⟩ (.int .i64 (n:Int))=w7 at *;have q:w7.cell? ⟨X,0,none⟩=some (.int .i64 5):=d.o.c 0;have q1:w7.cell? ⟨X,1,none⟩=some (.int .i64 0):=d.o.c 1;have p:w7.cell? ⟨X,2,none⟩=some (.int .u64 0):=d.o.c 2;have l:w7.cell? ⟨X,3,none⟩=some (.string (ByteArray.mk #[])):=d.o.c 3;have k:w7.cell? ⟨X,4,none⟩=some (.int .i64 (n:Int)):=d.o.c 4;refine bodyPost_ret (v:=.agg #[.int .i64 5,.int .i64 0,.int .u64 0,.string (ByteArray.mk #[]),.int .i64 (n:Int)]) ?_ rfl ⟨rfl,by rw [t];exact u.o⟩;simp [results,Tryz.results45,go_sem,q,q1,p,l,k]
def SM.MI (L:SM) (n X:Nat) (v:Value):SM:={ L with oS:=v,ob:=fun k=>if k=n then X else L.ob k,es:=fun k=>if k=n then .slice none 0 0 else L.es k }
theorem qR (h:Hp) (m:Nat) (k:Nat):Hp.ob { h with objs:=h.objs++[some ⟨h.white,m,[],false⟩] } k=if k=h.objs.length then some ⟨h.white,m,[],false⟩ else h.ob k:=h.IY _ k
theorem yO (L:SM) (n X:Nat) (v:Value):((List.range (n+1)).map fun k=>Value.pointer (some ⟨(L.MI n X v).ob k,0,none⟩))=((List.range n).map fun k=>Value.pointer (some ⟨L.ob k,0,none⟩))++[Value.pointer (some ⟨X,0,none⟩)]:=by
 rw [List.range_succ,List.map_append];congr 1
 ·refine List.map_congr_left (fun k hk=>?_)
  have:k≠n:=by have:=List.mem_range.1 hk;omega
  simp [SM.MI,this]
 ·simp [SM.MI]
theorem MV.push {L:SM} (a:MV base S h L w) {r:Nat->Value} (kk:Keeps w w1 (fun b=>b=X∨L.oS.ownBlock=some b)) (E:∃ f,aD w 101 X 25 f) (hX:aD w1 101 X 25 (kY r 5 h.white false m (.slice none 0 0) false)) (P:Free h L X) (hS:S X) (hB:base<=X)
 (hown:w1.ownsRow base 90 1 v' (h.objs.length+1) (((List.range h.objs.length).map fun k=>Value.pointer (some ⟨L.ob k,0,none⟩))++[Value.pointer (some ⟨X,0,none⟩)])) (hv:∀ g,v'.ownBlock=some g->L.oS.ownBlock=some g∨w.heap.size<=g):
 MV base S { h with objs:=h.objs++[some ⟨h.white,m,[],false⟩] } (L.MI h.objs.length X v') (w1.setCell ⟨L.H,0,none⟩ v')/\Keeps w (w1.setCell ⟨L.H,0,none⟩ v') S:=by
 obtain ⟨f0,E⟩:=E;have R:Keeps w1 (w1.setCell ⟨L.H,0,none⟩ v') (fun b=>b=L.H):=Keeps.setCell (S:=fun b=>b=L.H) (Keeps.refl w1 _) rfl v';have B:Keeps w (w1.setCell ⟨L.H,0,none⟩ v') (fun b=>(b=X∨L.oS.ownBlock=some b)∨b=L.H):=(kk.mono (fun b e=>Or.inl e)).trans (R.mono (fun b e=>Or.inr e));have d:(h.objs++[some (⟨h.white,m,[],false⟩:Ob)]).length=h.objs.length+1:=by simp
 have K:aD w1 105 L.H 18 (uE h L):=a.hp.keep kk (fun e=>by
  rcases e with e|e
  ·exact P.H e
  ·exact ak a.oo a.hp (by decide) e)
 have W:∀ {T s n':Nat} {v:Value} {xs:List Value},w.ownsRow base T s v n' xs->T≠101->T≠105->T≠90->∀ g,v.ownBlock=some g->¬ ((g=X∨L.oS.ownBlock=some g)∨g=L.H):=by
  intro T s n' v xs z t h3 h4 g Y F;rcases F with (F|F)|F
  ·exact ak z E t (F ▸ Y)
  ·exact aV z a.oo h4 F Y
  ·exact ak z a.hp h3 (F ▸ Y)
 have hR:∀ {n N:Nat} {f:Nat->Value},n<h.objs.length->aD w 101 (L.ob n) N f->¬ ((L.ob n=X∨L.oS.ownBlock=some (L.ob n))∨L.ob n=L.H):=by
  intro n N f i z t;rcases t with (t|t)|t
  ·exact P.ob n i t
  ·exact ak a.oo z (by decide) t
  ·exact z.apart a.hp (by decide) t
 have A:∀ n o,Hp.ob { h with objs:=h.objs++[some ⟨h.white,m,[],false⟩] } n=some o->(n=h.objs.length/\o=⟨h.white,m,[],false⟩)∨(n≠h.objs.length/\n<h.objs.length/\h.ob n=some o):=by
  intro n o e;rw [qR] at e;split at e
  ·rename_i c;simp at e;exact .inl ⟨c,e.symm⟩
  ·rename_i c;exact .inr ⟨c,Hp.Ia e,e⟩
 have p:∀ n,n≠h.objs.length->(L.MI h.objs.length X v').ob n=L.ob n:=fun n i=>by simp [SM.MI,i]
 have u:∀ n,n≠h.objs.length->(L.MI h.objs.length X v').es n=L.es n:=fun n i=>by simp [SM.MI,i]
 have l:(L.MI h.objs.length X v').ob h.objs.length=X:=by simp [SM.MI]
 have q:(L.MI h.objs.length X v').es h.objs.length=.slice none 0 0:=by simp [SM.MI]
 have V:aD (w1.setCell ⟨L.H,0,none⟩ v') 101 X 25 (kY r 5 h.white false m (.slice none 0 0) false):=hX.keep R (fun e=>P.H e.symm);refine ⟨⟨(K.set (j:=0) (by decide) v').congr (bV _ rfl rfl rfl rfl rfl rfl rfl rfl rfl rfl rfl rfl rfl rfl rfl rfl rfl rfl),?_,fun n o e=>?_,fun n i e=>?_,fun n o e=>?_,fun j hj=>aj (a.li j hj) B (W (a.li j hj) (by decide) (by decide) (by decide)),aj a.ro B (W a.ro (by decide) (by decide) (by decide)),?_,?_,a.lj,a.bH,?_,aI a.bs B.size,a.sH,?_,?_,?_,a.sl,a.sr,fun b hb=>a.up b (aI B.size hb)⟩,B.mono (fun b e=>?_)⟩
 ·rw [d,yO]
  exact aj hown R (fun g C e=>ak hown K (by decide) (e ▸ C))
 ·rcases A n o e with ⟨rfl,rfl⟩|⟨c,i,J⟩
  ·rw [l,q];exact ⟨r,V⟩
  ·obtain ⟨Q,y⟩:=a.ob n o J
   rw [p n c,u n c];exact ⟨Q,y.keep B (hR i y)⟩
 ·rw [qR] at e
  split at e
  ·cases e
  ·rename_i c
   have D:n<h.objs.length:=by
    have:n<(h.objs++[some (⟨h.white,m,[],false⟩:Ob)]).length:=i;rw [d] at this;omega
   obtain ⟨Q,G,U,y⟩:=a.dd n D e;rw [p n c];exact ⟨Q,G,U,y.keep B (hR D y)⟩
 ·rcases A n o e with ⟨rfl,rfl⟩|⟨c,i,J⟩
  ·rw [q];exact ⟨rfl,.inl ⟨rfl,rfl⟩⟩
  ·rw [u n c];exact aj (a.en n o J) B (W (a.en n o J) (by decide) (by decide) (by decide))
 ·intro n k i hk e
  have M:n<h.objs.length+1:=by
   have:n<(h.objs++[some (⟨h.white,m,[],false⟩:Ob)]).length:=i
   rwa [d] at this
  have a0:k<h.objs.length+1:=by
   have:k<(h.objs++[some (⟨h.white,m,[],false⟩:Ob)]).length:=hk
   rwa [d] at this
  by_cases c:n=h.objs.length<;>by_cases G:k=h.objs.length
  ·omega
  ·rw [c,l,p k G] at e
   exact absurd e.symm (P.ob k (by omega))
  ·rw [G,l,p n c] at e
   exact absurd e (P.ob n (by omega))
  ·rw [p n c,p k G] at e
   exact a.ij n k (by omega) (by omega) e
 ·intro n k o o' g e1 J z t
  rcases A n o e1 with ⟨rfl,rfl⟩|⟨c,i,Z⟩
  ·rw [q] at z;simp [Value.ownBlock] at z
  ·rcases A k o' J with ⟨rfl,rfl⟩|⟨G,D,e4⟩
   ·rw [q] at t;simp [Value.ownBlock] at t
   ·rw [u n c] at z
    rw [u k G] at t;exact a.ei n k o o' g Z e4 z t
 ·intro n i
  have M:n<h.objs.length+1:=by
   have:n<(h.objs++[some (⟨h.white,m,[],false⟩:Ob)]).length:=i
   rwa [d] at this
  by_cases c:n=h.objs.length
  ·rw [c,l];exact hB
  ·rw [p n c];exact a.bo n (by omega)
 ·intro n i
  have M:n<h.objs.length+1:=by
   have:n<(h.objs++[some (⟨h.white,m,[],false⟩:Ob)]).length:=i
   rwa [d] at this
  by_cases c:n=h.objs.length
  ·rw [c,l];exact hS
  ·rw [p n c];exact a.so n (by omega)
 ·intro g C
  rcases hv g C with x|x
  ·exact a.sO g x
  ·exact a.up g x
 ·intro n o g e C
  rcases A n o e with ⟨rfl,rfl⟩|⟨c,i,Z⟩
  ·rw [q] at C;simp [Value.ownBlock] at C
  ·rw [u n c] at C;exact a.se n o g Z C
 ·rcases e with (e|e)|e
  ·exact e ▸ hS
  ·exact a.sO b e
  ·exact e ▸ a.sH
theorem AA:(Tryz.prog.info? 90).map (fun i=>(i.zero,i.size,i.bytes))=some (some (.pointer none),1,8):=by kernel_rfl
theorem zo {L:SM} (a:MV base S h L w) (a4:h.objs.length<=5001) (V:h.bytes<=300000) (U:h.G6<=300000) (a3:h.live<=10000) {r:Nat->Value} (E:aD w 101 X 25 (kY r 5 0 false m (.slice none 0 0) false)) (hF:Free h L X) (hS:S X) (hB:base<=X):
 Calls Tryz.prog 41 #[.pointer (some ⟨L.H,0,none⟩),.pointer (some ⟨X,0,none⟩)] w fun e w'=>e=.returned (.int .i64 (h.objs.length:Int))/\Keeps w w' S/\∃ L',L'.H=L.H/\MV base S (h.make m) L' w':=by
 have Z:w.cell? ⟨L.H,6,none⟩=some (.int .i64 (h.white:Int)):=a.hp.c 6;have x1:w.cell? ⟨X,1,none⟩=some (.int .i64 0):=E.c 1;have z1:=E.ME 1;have A:=ah a;have HX:=ah E;have F:=ah ((E.set (j:=1) (by omega) (.int .i64 (h.white:Int))).congr (f':=kY r 5 h.white false m (.slice none 0 0) false) (fun i _=>by
  by_cases c:i=1
  ·subst c;rfl
  ·rw [if_neg c];simp only [kY,if_neg c]))
 have f:=ah (Keeps.setCell (S:=fun b=>b=X) (Keeps.refl w _) (g:=X) (j:=1) rfl (.int .i64 (h.white:Int)));have Q:=ah hF;clear a E hF;go_enter Tryz.func41,Tryz.ntmps41;go_upto_region 2 with (fail)
 generalize w.setCell ⟨X,1,none⟩ (.int .i64 (h.white:Int))=w1 at *;clear Z x1 z1;have z:=ah (A.o.hp.keep f.o (fun e=>Q.o.H e));have J:=ah (aj A.o.oo f.o (fun g hg e=>Q.o.oS (e ▸ hg)));obtain ⟨ao,co,x⟩:=aF A.o.oo;have c0:w1.cell? ⟨L.H,0,none⟩=some (.slice ao h.objs.length co):=by
  have:=z.o.c 0;rw [this];exact congrArg some x
 have G:=ah x;clear x;go_upto_region 3 with (first
  |(at_builtin
    refine fE rfl (.tmp 16) (.tmp 18) 102 90 1 8 (.pointer none) rfl Tryz.underlying102 AA rfl (by decide) base L.oS h.objs.length _ [.pointer (some ⟨X,0,none⟩)] J.o G.o.symm rfl rfl (fun u hu=>by simp at hu;subst hu;rfl) (by omega) (by decide) (aI A.o.bs f.o.size) ?_;intro v' R W g2 g3 g4;obtain ⟨K,M,T⟩:∃ K M,v'=.slice (some ⟨K,0,none⟩) (h.objs.length+1) M:=by
     rcases W.2 with ⟨_,h9⟩|⟨g,Y,a5,hv,_⟩
     ·omega
     ·exact ⟨g,Y,hv⟩
    subst T;have p:=g2 base w1 (aT _ _) (au _);have t:Keeps w1 R (fun b=>L.oS.ownBlock=some b):=⟨p.os,p.tape,p.output,p.size,fun b hb hn=>g3 b hb hn⟩
    have HP:=ah (A.o.push (w1:=R) (X:=X) (m:=m) (r:=r) ((f.o.mono (fun b e=>Or.inl e)).trans (t.mono (fun b e=>Or.inr e))) ⟨_,HX.o⟩ (F.o.keep t (fun e=>Q.o.oS e)) Q.o hS hB W (fun g e=>by
     by_cases c:L.oS.ownBlock=some g
     ·exact .inl c
     ·right
      rcases Nat.lt_or_ge g w1.heap.size with d|d
      ·exact absurd e (g4 g d c)
      ·exact aI f.o.size d))
    have y:=z.o.keep t (fun e=>ak A.o.oo A.o.hp (by decide) e);have p0:=y.c 0;have q0:=y.ME 0;clear W g2 g3 g4 p t y)
  |go_in)
 generalize R.setCell ⟨L.H,0,none⟩ (.slice (some ⟨K,0,none⟩) (h.objs.length+1) M)=w3 at *;clear p0 q0 c0 J z f F HX G;obtain ⟨s,l,q,C,D,N⟩:∃ s l q,l h.objs.length=X/\q h.objs.length=.slice none 0 0/\Hq (MV base S { h with objs:=h.objs++[some ⟨h.white,m,[],false⟩] } ⟨L.H,s,l,q,L.li,L.rS⟩ w3/\Keeps w w3 S):=
  ⟨.slice (some ⟨K,0,none⟩) (h.objs.length+1) M,fun k=>if k=h.objs.length then X else L.ob k,fun k=>if k=h.objs.length then .slice none 0 0 else L.es k,by simp,by simp,HP⟩
 clear HP;have P:=ah (show MV base S { h with objs:=h.objs++[some ⟨h.white,m,[],false⟩],live:=h.live+1 } ⟨L.H,s,l,q,L.li,L.rS⟩ (w3.setCell ⟨L.H,2,none⟩ (.int .i64 ((h.live:Int)+1)))/\Keeps w3 (w3.setCell ⟨L.H,2,none⟩ (.int .i64 ((h.live:Int)+1))) S from N.o.1.num (h':={ h with objs:=h.objs++[some ⟨h.white,m,[],false⟩],live:=h.live+1 }) 2 (.int .i64 ((h.live:Int)+1)) (by decide) rfl ⟨rfl,rfl,rfl,rfl,rfl,rfl,rfl⟩ rfl (bV _ rfl rfl rfl rfl rfl rfl rfl rfl rfl rfl rfl rfl rfl rfl rfl rfl rfl rfl));have c2:w3.cell? ⟨L.H,2,none⟩=some (.int .i64 (h.live:Int)):=N.o.1.hp.c 2;have z2:w3.frozen? ⟨L.H,2,none⟩=false:=N.o.1.hp.ME 2;go_upto_region 4 with (fail)
 generalize w3.setCell ⟨L.H,2,none⟩ (.int .i64 ((h.live:Int)+1))=w4 at *;clear c2 z2;have a2:=ah (show Hp.ob { h with objs:=h.objs++[some ⟨h.white,m,[],false⟩],live:=h.live+1 } h.objs.length=some ⟨h.white,m,[],false⟩ from by
  have:=qR h m h.objs.length;rw [if_pos rfl] at this;exact this)
 obtain ⟨r5,v⟩:=P.o.1.ob h.objs.length _ a2.o;simp only [C,D] at v;have x0:w4.cell? ⟨X,0,none⟩=some (.int .i64 5):=v.c 0;have x5:w4.cell? ⟨X,5,none⟩=some (.slice none 0 0):=v.c 5;have a0:=ah (sP w4 X none 0 0 (by omega) x0 x5);have HG:=ah (tN P.o.1 40 (by omega) V U);obtain ⟨gq,cq,B,-⟩:=P.o.1.slot (by simp);have a1:=ah B;clear x0 x5 v C D B;go_wp2_with (first
  |(go_at_call 58;refine a0.o.mono ?_;rintro e5 w5 ⟨rfl,rfl⟩)
  |(go_at_call 57;refine HG.o.mono ?_;rintro e6 w6 ⟨rfl,h6,k6⟩;have H6:=ah h6;have K6:=ah k6;clear h6 k6;have Z:w6.cell? ⟨L.H,0,none⟩=some (.slice (some ⟨gq,0,none⟩) (h.objs++[some (⟨h.white,m,[],false⟩:Ob)]).length cq):=(H6.o.hp.c 0).trans (congrArg some a1.o);rw [bI,List.length_singleton] at Z)
  |go_in)
 go_ret;refine ⟨rfl,N.o.2.trans (P.o.2.trans K6.o),⟨L.H,s,l,q,L.li,L.rS⟩,rfl,H6.o⟩
end Go.Proofs.YtbpcdfbmnklcjaaGreatDoor
