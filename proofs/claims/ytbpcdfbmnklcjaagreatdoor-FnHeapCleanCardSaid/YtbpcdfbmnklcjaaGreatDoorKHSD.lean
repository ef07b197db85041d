import Derived.Test.YtbpcdfbmnklcjaaGreatDoorKHSC
import Derived.Laws.AppendOwnNone
import Derived.Deep.RegionLaw
namespace Go.Proofs.YtbpcdfbmnklcjaaGreatDoor
open Go Go.RowKit
set_option maxHeartbeats 6400000
set_option maxRecDepth 100000
set_option linter.unusedVariables false
variable {K:Act->World->Prop} {Q:Exit->Act->World->Prop} {S:Nat->Prop} {T base cap n s:Nat} {a:Act} {h:Hp} {v:Value} {w w2 wr:World} {xs:List Value}
theorem jB {o:Oper} (s x:Operand) (ho:o.op=.call { callee:=.builtin .append,args:=#[s,x],argTypes:=#[30,30] })
 (base f:Nat) (v u:Value) (l d:List Nat) (B:a.eval s=v) (hx:a.eval x=u) (hown:wr.ownsRow base 3 1 v l.length (eu l)) (e:wr.ownsRow f 3 1 u d.length (eu d)) (C:l.length+d.length<=1000000) (b:base<=wr.heap.size)
 (h:∀ v' w',w'.ownsRow base 3 1 v' (l++d).length (eu (l++d))->Below base wr w'->K (a.put o.dst v') w'):Oper.wp Tryz.prog o a wr K Q:=by
 obtain ⟨A,hi,r,p,m⟩:=info_parts ji;rcases e.2 with ⟨k,H⟩|⟨g,cap,J,k,_,L,D,_⟩
 ·have t:d=[]:=by simpa using H
  subst t;have i:=run_append_owned_none (P:=Tryz.prog) (w:=wr) base 30 o.type 3 A 1 Tryz.underlying30 hi v l.length (eu l) hown;unfold Oper.wp;rw [k] at hx;simp [execOp,ho,resolve,invoke,builtin,B,hx,i,Result.andThen];exact h v wr (by simpa using hown) (aT _ _)
 ·rw [k] at hx
  have hr:=ay e (g:=g) (by rw [k];simp [Value.ownBlock]);refine wp_append_own _ s x 30 ho base 3 A (.int .i64 0) 1 8 Tryz.underlying30 hi r p m rfl (by decide) v l.length (eu l) B hown ⟨g,0,none⟩ d.length cap (eu d) hx (by simp [eu])
   (fun j y hj=>?_) (fun y hy=>?_) (by unfold maxLen;omega) (by omega) b ?_
  ·have E:j<d.length:=by
    have:=(aJ.1 hj).1
    simpa [eu] using this
   rw [bL,Nat.zero_add,hr.c j,bq,hj];rfl
  ·simp [eu] at hy
   obtain ⟨z,_,rfl⟩:=hy;rfl
  ·intro v' w' G F M
   refine h v' w' (by simpa [eu] using G) ?_;refine (aT base wr).grown F b (fun q hq=>(hown.lt q hq).1)
theorem MV.cut {L:SM} (a:MV base S h L w) (hb:Below w.heap.size w w2) {g:Nat} (j:w.heap.size<=g) (i:g<w2.heap.size):MV base (fun b=>S b/\b≠g) h L w2:=by
 have b:=a.low hb;have f:∀ n,n<h.objs.length->L.ob n<w.heap.size:=by
  intro n d;cases e:h.ob n with
  |none=>obtain ⟨r,c,_,hr⟩:=a.dd n d e;exact hr.lt
  |some o=>obtain ⟨r,hr⟩:=a.ob n o e;exact hr.lt
 refine ⟨b.hp,b.oo,b.ob,b.dd,b.en,b.li,b.ro,b.ij,b.ei,b.lj,b.bH,b.bo,b.bs,⟨a.sH,?_⟩,fun n d=>⟨a.so n d,?_⟩,fun g' hg'=>⟨a.sO g' hg',?_⟩,fun n o g' d hg'=>⟨a.se n o g' d hg',?_⟩,fun k g' hk hg'=>⟨a.sl k g' hk hg',?_⟩,fun g' hg'=>⟨a.sr g' hg',?_⟩,fun c hc=>⟨b.up c hc,?_⟩⟩
 ·have:=a.hp.lt;omega
 ·have:=f n d;omega
 ·have:=(ay a.oo hg').lt;omega
 ·have:=(ay (a.en n o d) hg').lt;omega
 ·have:=(ay (a.li k hk) hg').lt;omega
 ·have:=(ay a.ro hg').lt;omega
 ·omega
theorem MV.LQ {L:SM} (a:MV base S h L w) (hb:Below w.heap.size w w2) (ho:w2.ownsRow w.heap.size T s v n xs):MV base (fun b=>S b/\v.ownBlock≠some b) h L w2:=by
 rcases hv:v.ownBlock with _|g
 ·exact (a.low hb).mono (fun b hs=>⟨hs,by simp⟩)
 ·have d:=(ho.lt g hv).1
  have c:=(ay ho hv).lt;exact (a.cut hb d c).mono (fun b hs=>⟨hs.1,fun e=>hs.2 (by simpa using e.symm)⟩)
theorem nU {n:Nat} {A:Option Addr} {l:List Nat} (d:w.ownsRow base 3 1 (.slice A l.length cap) l.length (eu l)):l.length<=cap/\∀ i (hi:i<l.length),∃ g,A=some ⟨g,0,none⟩/\w.cell? ⟨g,i,none⟩=some (.int .i64 ((l[i]:Nat):Int)):=by
 rcases d.2 with ⟨m,k⟩|⟨g,e,j,b,_,_,f,_⟩
 ·exact ⟨by omega,fun i hi=>by omega⟩
 ·simp only [Value.slice.injEq,true_and] at b
  obtain ⟨rfl,rfl⟩:=b;refine ⟨f,fun i hi=>⟨g,rfl,?_⟩⟩;have hr:=ay d (g:=g) (by simp [Value.ownBlock]);rw [hr.c i];simp [eu,List.getD_eq_getElem?_getD,hi]
theorem oQ {L:SM} (a:MV base S h L w) (k:Wk h):
 Calls Tryz.prog 95 #[.pointer (some ⟨L.H,0,none⟩)] w fun e w'=>e=.returned (.tuple #[])/\MV base S h.at4 L w'/\Keeps w w' S:=by
 obtain ⟨A,cap,hv,c2,-⟩:=a.II (k:=9) (by simp [eO]);have c9:w.cell? ⟨L.H,9,none⟩=some (.slice A h.weak.length cap):=by
  have:=a.hp.c 9;rw [this];exact congrArg some hv
 obtain ⟨B,Z,P,a2,-⟩:=a.II (k:=10) (by simp [eO]);have g8:w.cell? ⟨L.H,10,none⟩=some (.slice B h.G8.length Z):=by
  have:=a.hp.c 10;rw [this];exact congrArg some P
 have hH:=a.hp.lt;have e4:h.G8.length+h.weak.length<=20000:=by
  have:=k.s.nu;simp only [Hp.nu] at this;omega
 have c8:=ah (fun (w':World) (hb:Below w.heap.size w w')=>(show w'.ownsRow base 3 1 (.slice A h.weak.length cap) h.weak.length (eu h.weak) from by have:=(a.low hb).li 9 (by simp [eO]);rw [hv] at this;exact this));have e1:=ah (fun (w':World) (hb:Below w.heap.size w w')=>(show w'.ownsRow base 3 1 (.slice B h.G8.length Z) h.G8.length (eu h.G8) from by have:=(a.low hb).li 10 (by simp [eO]);rw [P] at this;exact this));have W:=ah (((aT w.heap.size w).alloc (au _) (.cells #[] 3)).drew);have e3:Hq (World.ownsRow (w.alloc (.cells #[] 3)).drew w.heap.size 3 1 (.slice (some ⟨w.heap.size,0,none⟩) 0 0) ([]:List Nat).length (eu [])):=ah ⟨rfl,.inr ⟨w.heap.size,0,#[],rfl,au _,heap_alloc_new w _,by decide,by decide,rfl,rfl⟩⟩;have HA:=ah a;have HK:=ah k;have HV:=ah hv;have g9:=ah P;clear a k hv P;go_enter Tryz.func95,Tryz.ntmps95;obtain ⟨l,hl⟩:∃ l,h.G8++h.weak=l:=⟨_,rfl⟩
 have h8:l.length<=20000:=by rw [<-hl];simp;omega
 have HL:=ah hl;clear hl;go_wp2_with fail
 go_cut [17,18,19] (fun v nv zv wc=>∃ A2 y,v=.slice A2 l.length y/\nv=.int .i64 (l.length:Int)/\zv=.int .i64 0/\Hq (wc.ownsRow w.heap.size 3 1 (.slice A2 l.length y) l.length (eu l)/\Below w.heap.size w wc))
 case first=>
  go_region_law (first
   |(have _z:=H1
     refine jB _ _ rfl w.heap.size base _ _ h.G8 h.weak rfl rfl H1.o.1 (c8.o _ H1.o.2) (by omega) H1.o.2.size ?_;clear _z;intro v2 w2 R c4;rw [HL.o] at R;obtain ⟨A2,y,rfl⟩:=aF R;have H2:=ah (And.intro R (H1.o.2.trans c4));clear R c4)
   |(refine jB _ _ rfl w.heap.size base _ _ [] h.G8 rfl rfl e3.o (e1.o _ W.o) (by simp;omega) W.o.size ?_
     intro v1 w1 b8 c6;have H1:=ah (And.intro (show w1.ownsRow w.heap.size 3 1 v1 h.G8.length (eu h.G8) from b8) (W.o.trans c6));have i6:=(H1.o.2.cell (p:=⟨L.H,9,none⟩) hH).trans c9;clear b8 c6))
  all_goals
   go_wp2_with fail;go_meet;exact ⟨A2,y,rfl,rfl,rfl,H2.o⟩
 case rest=>
 obtain ⟨A2,y,rfl,rfl,rfl,H2⟩:=hcut;have f3:=(nU (base:=w.heap.size) (n:=0) H2.o.1).1;have h0:Hq (MV base (fun b=>S b/\(Value.slice A2 l.length y).ownBlock≠some b) h L wc):=ah (HA.o.LQ H2.o.2 H2.o.1);have h3:Hq (∀ n∈l,h.Lv n):=ah (fun n hn=>by
  rw [<-HL.o] at hn;rcases eT.1 hn with x|x
  ·exact HK.o.l n (.inr (.inr (.inr x)))
  ·exact HK.o.l n (.inr (.inr (.inl x))))
 clear c9 g8 c2 a2 c8 e1 W e3 HV g9 e4;generalize hT:(fun b=>S b/\(Value.slice A2 l.length y).ownBlock≠some b)=T at *;have HT:=ah hT;clear hT;go_wp2;go_loopw [19] (fun iv wr=>∃ i:Nat,i<=l.length/\iv=.int .i64 i/\Hq (MV base T ((l.take i).foldl Hp.Ml h) L wr/\Keeps wc wr T)) (fun iv _=>l.length-bF iv)
 case atStart=>exact ⟨0,by omega,rfl,h0.o,Keeps.refl _ _⟩
 case round=>
  obtain ⟨i,i2,rfl,HI⟩:=hrel;by_cases a0:i<l.length
  ·have b1:l.take (i+1)=l.take i++[l[i]]:=bD (aN a0)
   have t:Np h ((l.take i).foldl Hp.Ml h):=Np.fold b_ gu (l.take i) h;have HF:Hq ((l.take (i+1)).foldl Hp.Ml h=Hp.Ml ((l.take i).foldl Hp.Ml h) l[i]):=ah (by rw [b1,bE]);have b9:=h3.o _ (List.getElem_mem a0);obtain ⟨q,hq⟩:∃ q,(l.take i).foldl Hp.Ml h=q:=⟨_,rfl⟩
   rw [hq] at t HF HI;clear b1;have hown:=aj H2.o.1 HI.out.2 (fun g hg x=>by rw [<-HT.o] at x;exact x.2 hg);obtain ⟨g,rfl,i3⟩:=(nU (n:=0) hown).2 i a0;generalize l[i]=n at *;obtain ⟨o,ho⟩:=(t.lv n).2 b9;have e7:=Hp.Ia ho;have b0:q.ob 0=none:=by
    rcases t.ob 0 with ⟨x,_⟩|⟨_,_,_,x,_⟩
    ·exact x
    ·rw [HK.o.z] at x;cases x
   have c1:q.Closed:=by
    intro m o' e en he r hr;rcases t.ob m with ⟨x,_⟩|⟨o1,o2,x1,x2,_,_,_,c,x3,x4⟩
    ·rw [e] at x;cases x
    ·rw [e] at x1;cases x1
     rw [x4] at he;obtain ⟨e0,f1,rfl⟩:=List.mem_map.1 he;exact (t.lv r).2 (HK.o.c m o1 x2 e0 f1 r ((x3 e0).refs r hr))
   have e8:q.objs.length<=5001:=by rw [t.len];exact HK.o.s.len
   have b5:1<=q.objs.length:=by rw [t.len];exact HK.o.p
   have i5:o.es.length<=5000:=by
    rcases t.ob n with ⟨x,_⟩|⟨o1,o2,x1,x2,_,_,_,c,x3,x4⟩
    ·rw [ho] at x;cases x
    ·rw [ho] at x1;cases x1
     rw [x4,bY];exact HK.o.s.es n o1 x2
   obtain ⟨go,c7,b7,f2,J⟩:=HI.out.1.slot b5;have h6:=J n e7;have c0:wr.cell? ⟨L.H,0,none⟩=some (.slice (some ⟨go,0,none⟩) q.objs.length c7):=by
    have:=HI.out.1.hp.c 0;rw [this];exact congrArg some b7
   obtain ⟨E,Y,a1,f4,-⟩:=HI.out.1.ents ho;obtain ⟨r0,b4⟩:=HI.out.1.ob n o ho;have c5:wr.cell? ⟨L.ob n,5,none⟩=some (.slice E o.es.length Y):=by rw [<-a1];exact b4.c 5
   have HQ:=ah t;have HO:=ah ho;have h2:=ah (wJ.of b0 c1 ho);have U:=ah a1;have h7:(n:Int)<(q.objs.length:Int):=by omega
   clear t ho c1 b0 b9 J b4 a1 hq b7 hown;go_wp2;go_loopw [35,6,5] (fun jv e6 e5 ws=>∃ j:Nat,j<=o.es.length/\jv=.int .i64 j/\Hq (MV base T (q.ents n (bg (b_ q) j o.es)) L ws/\Keeps wc ws T)) (fun jv _ _ _=>o.es.length-bF jv)
   case atStart=>
    refine ⟨0,by omega,rfl,?_,HI.out.2⟩;rw [gK,Hp.Io HO.o];exact HI.out.1
   case round=>
    obtain ⟨j,i1,rfl,HJ⟩:=hrel;by_cases f0:j<o.es.length
    ·obtain ⟨e,he⟩:∃ e,o.es[j]?=some e:=⟨_,aN f0⟩
     have b6:=Hp.Ij HO.o (bg (b_ q) j o.es);obtain ⟨A3,M,F,a3,G⟩:=HJ.o.1.ents b6;simp only [cB] at F a3;have:A3=E/\M=Y:=by
      have h9:=F.symm.trans U.o;simp only [Value.slice.injEq] at h9;exact ⟨h9.1,h9.2.2⟩
     obtain ⟨rfl,rfl⟩:=this;obtain ⟨D,rfl,i4,f⟩:=G j e (dH _ he);have d0:=f 0 _ rfl;have d1:=f 1 _ rfl;have d2:=f 2 _ rfl;have d3:=f 3 _ rfl;have d4:=f 4 _ rfl;have d5:=f 5 _ rfl;have d6:=f 6 _ rfl;have d7:=f 7 _ rfl;have d8:=f 8 _ rfl;have d9:=f 9 _ rfl;simp only [Nat.add_zero] at d0;have b2:=h2.o e (aX he);have a8:=ah (HJ.o.1.alloc (.cells (Nw e.1 e.2) 122));have e2:=ah (HJ.o.2.trans (Keeps.of (aU wr (.cells (Nw e.1 e.2) 122)) (au _) T));have h1:=ah (show Rg (q.ents n (bg (b_ q) j o.es)) e.1 from b2.1.mono (q.Ie n _));have HX:=ah (lV wr e);have a6:=ah he;clear b6 F G f b2 he;go_upto_region 7 with (fail)
     generalize wr.alloc (.cells (Nw e.1 e.2) 122)=w3 at *;generalize wr.heap.size=X at *;have h5:=HX.o.lt;obtain ⟨x0,x1,x2,x3,x4⟩:NQ w3 X e.1:=HX.o.c5;clear d0 d1 d2 d3 d4 d5 d6 d7 d8 d9;have a4:=ah (gy a8.o e.1 h1.o (by rw [Hp.Ie];exact e8) (by rw [Hp.Ie];exact b5));rw [Hp.I9] at a4;go_wp2_with fail;refine a4.o.mono ?_;rintro e9 w4 ⟨rfl,c3⟩;have V:=ah c3;clear c3 a4;cases hb:q.MO e.1 with
     |false=>
      have a5:=ah (fM (b_ q) a6.o (by unfold b_;rw [hb];rfl));clear hb;go_wp2;go_roundw
      case rel=>
       refine ⟨j+1,by omega,by simp,?_⟩;exact ⟨by rw [a5.o];exact a8.o.low V.o,e2.o.trans (Keeps.of V.o (au _) T)⟩
      case measure=>simp [bF];omega
     |true=>
      have a5:=ah (fK (b_ q) a6.o);have h4:Hq (b_ q e=(none,none)):=ah (by unfold b_;rw [hb];rfl);clear hb;have a9:=ah (a8.o.low V.o);obtain ⟨r4,b3⟩:=a9.o.ob n _ (Hp.Ij HO.o (bg (b_ q) j o.es));have f5:w4.cell? ⟨L.ob n,5,none⟩=some (.slice (some ⟨D,0,none⟩) o.es.length M):=by rw [<-U.o];exact b3.c 5
      have d:=ay (a9.o.en n _ (Hp.Ij HO.o (bg (b_ q) j o.es))) (g:=D) (by rw [U.o];simp [Value.ownBlock]);have f6:(o.es.length:Int)<=M:=by omega
      have i0:(j:Int)<(o.es.length:Int):=by omega
      have u:(bg (b_ q) j o.es).length=o.es.length:=cB _ _ _;have z0:=d.ME (j*10);have z1:=d.ME (j*10+1);have z2:=d.ME (j*10+2);have z3:=d.ME (j*10+3);have z4:=d.ME (j*10+4);have z5:=d.ME (j*10+5);have z6:=d.ME (j*10+6);have z7:=d.ME (j*10+7);have z8:=d.ME (j*10+8);have z9:=d.ME (j*10+9);have g0:=d.cell (j:=j*10) (by simp only [u];omega);have g7:=d.cell (j:=j*10+1) (by simp only [u];omega);have g6:=d.cell (j:=j*10+2) (by simp only [u];omega);have g5:=d.cell (j:=j*10+3) (by simp only [u];omega);have g4:=d.cell (j:=j*10+4) (by simp only [u];omega);have g3:=d.cell (j:=j*10+5) (by simp only [u];omega);have g1:=d.cell (j:=j*10+6) (by simp only [u];omega);have f9:=d.cell (j:=j*10+7) (by simp only [u];omega);have f8:=d.cell (j:=j*10+8) (by simp only [u];omega);have f7:=d.cell (j:=j*10+9) (by simp only [u];omega);clear b3 d u;have a7:=ah (a9.o.Lg (Hp.Ij HO.o (bg (b_ q) j o.es)) (by rw [cB];exact U.o) (dH (b_ q) a6.o));rw [Hp.Iz] at a7;go_upto_region 9 with (fail)
      generalize ((((((((((w4.setCell ⟨D,j*10,none⟩ (.int .i64 0)).setCell ⟨D,j*10+1,none⟩ (.int .i64 0)).setCell ⟨D,j*10+2,none⟩ (.int .u64 0)).setCell ⟨D,j*10+3,none⟩ (.string { data:=#[] })).setCell ⟨D,j*10+4,none⟩ (.int .i64 0)).setCell ⟨D,j*10+5,none⟩ (.int .i64 0)).setCell ⟨D,j*10+6,none⟩ (.int .i64 0)).setCell ⟨D,j*10+7,none⟩ (.int .u64 0)).setCell ⟨D,j*10+8,none⟩ (.string { data:=#[] })).setCell ⟨D,j*10+9,none⟩ (.int .i64 0))=w5 at *;clear g0 g7 g6 g5 g4 g3 g1 f9 f8 f7 z0 z1 z2 z3 z4 z5 z6 z7 z8 z9 f5;go_wp2;go_roundw
      case rel=>
       refine ⟨j+1,by omega,by simp,?_⟩;exact ⟨by rw [a5.o,h4.o];exact a7.o.1,(e2.o.trans (Keeps.of V.o (au _) T)).trans a7.o.2⟩
      case measure=>simp [bF];omega
    ·obtain rfl:j=o.es.length:=by omega
     have C:=HJ.o;rw [ig] at C;have N:=ah C;clear C HJ;go_wp2;go_roundw
     case rel=>
      refine ⟨i+1,by omega,by simp,?_⟩;refine ⟨?_,N.o.2⟩;rw [HF.o];have:q.Ml n=q.ents n (o.es.map (b_ q)):=jN b_ HO.o;rw [this];exact N.o.1
     case measure=>simp [bF];omega
  ·obtain rfl:i=l.length:=by omega
   have C:=HI.out;rw [bN,<-HL.o] at C;have N:=ah C;clear C HI;go_wp2;go_end0;exact ⟨rfl,N.o.1.mono (fun b hb=>by rw [<-HT.o] at hb;exact hb.1),(Keeps.of H2.o.2 (au _) S).trans (N.o.2.mono (fun b hb=>by rw [<-HT.o] at hb;exact hb.1))⟩
end Go.Proofs.YtbpcdfbmnklcjaaGreatDoor
