import Derived.Test.YtbpcdfbmnklcjaaGreatDoorKHYO
import Derived.Deep.RegionLaw
import Derived.Deep.RegionHeld3
namespace Go.Proofs.YtbpcdfbmnklcjaaGreatDoor
open Go Go.RowKit
set_option maxHeartbeats 6400000
set_option maxRecDepth 100000
set_option linter.unusedVariables false
section
variable {G:Gh} {K:Act->World->Prop} {L:PM} {Q:Exit->Act->World->Prop} {S:Nat->Prop} {a:Act} {base i n:Nat} {e:En} {h:Hp} {o:Ob} {w:World}
attribute [local go_sem] bW
theorem iD {w:World} {o:Oper} {K:Act->World->Prop} {Q:Exit->Act->World->Prop} (x:Operand)
 (ho:o.op=.call { callee:=.value (.func 122),args:=#[x],argTypes:=#[143] }) (tb:Nat->Nat) (v:HV) (hx:a.eval x=.agg #[.int .i64 (vk v),.int .i64 (vi v),.int .u64 0,.string ByteArray.empty,aK tb v])
 (c:∀ n,v=some (.inr n)->w.cell? ⟨tb n,1,none⟩=some (.int .i64 (n:Int)))
 (h:∀ w',Below w.heap.size w w'->K (a.put o.dst (jR v)) w'):Oper.wp Tryz.prog o a w K Q:=by
 unfold Oper.wp;have b:a.eval (.func 122)=.func (.func 122) #[] #[]:=rfl;generalize a.eval=ev at hx b ⊢;simp [execOp,ho,resolve,invoke,hx,b,go_sem];refine (Ai w tb v c).mono ?_;rintro e w' ⟨rfl,hb⟩;exact h w' hb
theorem zq {o:Oper} (m x:Operand)
 (ho:o.op=.call { callee:=.builtin .delete,args:=#[m,x],argTypes:=#[132,194] }) (mv:Value) (es:List En) (i:Nat) (e:En) (hm:a.eval m=mv) (hx:a.eval x=jR e.1) (c:ni w mv es) (hi:es[i]?=some e)
 (h:∀ w',ni w' mv (es.set i (none,e.2))->Keeps w w' (fun b=>dx mv=some b)->w'.heap.size=w.heap.size->K (a.put o.dst (.tuple #[])) w'):Oper.wp Tryz.prog o a w K Q:=by
 obtain ⟨w1,j,g,f,d⟩:=El c hi o.type;unfold Oper.wp execOp;simp only [ho,resolve,invoke,builtin,Sem.run_bind,Sem.run_pure,Result.andThen_ok,List.map_toArray,List.map_cons,List.map_nil,hm,hx,j];exact h w1 g f d
theorem wG (a:M0 base S h G L w) (ho:h.ob n=some o) (hi:o.es[i]?=some e) (J:o.es.length<=5000) (D:iP h e.1):
 Calls Tryz.prog 137 #[.pointer (some ⟨L.tb n,0,none⟩),.int .i64 (i:Int)] w fun e' w'=>e'=.returned (.tuple #[])/\M0 base S (h.ents n (o.es.set i (none,e.2))) G L w'/\Keeps w w' S:=by
 have a0:i<o.es.length:=(aJ.1 hi).1;have M:(i:Int)<(o.es.length:Int):=by omega
 obtain ⟨A,z,s,N,u⟩:=a.ents ho;obtain ⟨g,rfl,f,d⟩:=u i e hi;have t:=(a.ob n o ho).lt;have HT:=ah (fun (w':World) (hb:Below w.heap.size w w') (m:Nat) (hm:e.1=some (.inr m))=>(show w'.cell? ⟨L.tb m,1,none⟩=some (.int .i64 (m:Int)) by
  obtain ⟨om,F⟩:=D m hm;exact ((a.low hb).ob m om F).c 1))
 have HM:=ah (fun (w':World) (hb:Below w.heap.size w w')=>(a.low hb).mp n o ho);have a1:g≠L.tb n:=fun c=>(ay (a.en n o ho) (g:=g) (by rw [s];simp [Value.ownBlock])).apart (a.ob n o ho) (by decide) c;have r:Hq (dx (L.mp n)≠some g/\dx (L.mp n)≠some (L.tb n)):=ah ⟨(a.mp n o ho).apart (ay (a.en n o ho) (g:=g) (by rw [s];simp [Value.ownBlock])),(a.mp n o ho).apart (a.ob n o ho)⟩;have V:w.cell? ⟨L.tb n,7,none⟩=some (.slice (some ⟨g,0,none⟩) o.es.length z):=by rw [<-s];exact (a.ob n o ho).c 7
 have U:w.cell? ⟨L.tb n,8,none⟩=some (L.mp n):=(a.ob n o ho).c 8;have d0:=d 0 _ rfl;have d1:=d 1 _ rfl;have T:=d 2 _ rfl;have R:=d 3 _ rfl;have P:=d 4 _ rfl;simp only [Nat.add_zero] at d0;have Y:=ah a;have W:=ah ho;have HI:=ah hi;have X:=ah s;have HC:=ah d;have HV:=ah D;clear a ho hi s d u D;go_enter Tryz.func137,Tryz.ntmps137;go_wp2_with fail
 go_region_held3 (fun w'=>w'.cell? ⟨L.tb n,7,none⟩=some (.slice (some ⟨g,0,none⟩) o.es.length z)/\w'.cell? ⟨L.tb n,8,none⟩=some (L.mp n)/\w'.cell? ⟨g,i*10,none⟩=some (.int .i64 (vk e.1))/\w'.cell? ⟨g,i*10+1,none⟩=some (.int .i64 (vi e.1))/\w'.cell? ⟨g,i*10+2,none⟩=some (.int .u64 0)/\w'.cell? ⟨g,i*10+3,none⟩=some (.string ByteArray.empty)/\w'.cell? ⟨g,i*10+4,none⟩=some (aK L.tb e.1)) (go_keep)
  (first
    |(refine iD (.tmp 15) rfl L.tb e.1 rfl (HT.o _ (aC (aT _ _) _)) ?_
      intro Z v;have l:Below w.heap.size w Z:=(aC (aT w.heap.size w) _).trans v;have q:=ah l;have t0:=(l.cell (p:=⟨L.tb n,7,none⟩) t).trans V;have t1:=(l.cell (p:=⟨L.tb n,8,none⟩) t).trans U;have t2:=(l.cell (p:=⟨g,i*10,none⟩) f).trans d0;have t3:=(l.cell (p:=⟨g,i*10+1,none⟩) f).trans d1;have t4:=(l.cell (p:=⟨g,i*10+2,none⟩) f).trans T;have t5:=(l.cell (p:=⟨g,i*10+3,none⟩) f).trans R;have t6:=(l.cell (p:=⟨g,i*10+4,none⟩) f).trans P;clear l v)
    |(refine zq (.tmp 7) (.tmp 16) rfl (L.mp n) o.es i e rfl rfl (HM.o _ q.o) HI.out ?_
      intro C y k E;have u0:=(bM (a:=⟨L.tb n,7,none⟩) (k.block _ (aW t q.o.size) r.o.2)).trans t0;have u1:=(bM (a:=⟨L.tb n,8,none⟩) (k.block _ (aW t q.o.size) r.o.2)).trans t1;have u2:=(bM (a:=⟨g,i*10,none⟩) (k.block _ (aW f q.o.size) r.o.1)).trans t2;have u3:=(bM (a:=⟨g,i*10+1,none⟩) (k.block _ (aW f q.o.size) r.o.1)).trans t3;have u4:=(bM (a:=⟨g,i*10+2,none⟩) (k.block _ (aW f q.o.size) r.o.1)).trans t4;have u5:=(bM (a:=⟨g,i*10+3,none⟩) (k.block _ (aW f q.o.size) r.o.1)).trans t5;have u6:=(bM (a:=⟨g,i*10+4,none⟩) (k.block _ (aW f q.o.size) r.o.1)).trans t6;have H:=ah (show ni C (L.mp n) (o.es.set i (none,e.2))/\Keeps w C (fun b=>dx (L.mp n)=some b) from ⟨y,(Keeps.of q.o (au _) _).trans k⟩);clear y k E))
 have x:=ay (Y.o.en n o W.o) (g:=g) (by rw [X.o];simp [Value.ownBlock]);have zz:∀ j,C.frozen? ⟨g,j,none⟩=false:=fun j=>(x.keep H.o.2 r.o.1).ME j;have B:=ah (Y.o.tkey W.o HI.out X.o H.o.2 H.o.1);clear x V U d0 d1 T R P;go_wp2;go_end0;exact ⟨rfl,B.o.1,B.o.2⟩
end
section
variable {G:Gh} {L:PM} {S:Nat->Prop} {base n:Nat} {o:Ob} {q:Hp} {w:World}
attribute [local go_sem] bW
theorem iP.ents {q:Hp} {v:HV} (h:iP q v) (n:Nat) (es:List En):iP (q.ents n es) v:=by
 intro m hm;obtain ⟨o,ho⟩:=h m hm;unfold Hp.ents;rw [Hp.Ho];split
 ·rw [ho];exact ⟨_,rfl⟩
 ·exact ⟨o,ho⟩
theorem uN (a:M0 base S q G L w) (ho:q.ob n=some o) (v:∀ e∈o.es,iP q e.1/\iP q e.2) (F:o.es.length<=5000):
 Calls Tryz.prog 152 #[.pointer (some ⟨L.tb n,0,none⟩)] w fun e w'=>e=.returned (.tuple #[])/\M0 base S (q.ents n (o.es.map (bU q))) G L w'/\Keeps w w' S:=by
 obtain ⟨A,B,p,R,-⟩:=a.ents ho;have c7:w.cell? ⟨L.tb n,7,none⟩=some (.slice A o.es.length B):=by rw [<-p];exact (a.ob n o ho).c 7
 have HA:=ah a;have U:=ah ho;have HE:=ah p;have HK:=ah v;clear a ho p v;go_enter Tryz.func152,Tryz.ntmps152;go_wp2;go_loopw [9] (fun iv wr=>∃ i:Nat,i<=o.es.length/\iv=.int .i64 i/\Hq (M0 base S (q.ents n (bg (bU q) i o.es)) G L wr/\Keeps w wr S)) (fun iv _=>o.es.length-bF iv)
 case atStart=>
  refine ⟨0,by omega,rfl,?_,Keeps.refl _ _⟩;rw [gK,Hp.Io U.o];exact HA.o
 case round=>
  obtain ⟨i,a0,rfl,HI⟩:=hrel;by_cases D:i<o.es.length
  ·obtain ⟨e,u⟩:∃ e,o.es[i]?=some e:=⟨_,aN D⟩
   have m:=Hp.Ij U.o (bg (bU q) i o.es);obtain ⟨A1,z,f,r,h⟩:=HI.out.1.ents m;simp only [cB] at f r;obtain ⟨rfl,rfl⟩:A1=A/\z=B:=by
    have H:=f.symm.trans HE.o;simp only [Value.slice.injEq] at H;exact ⟨H.1,H.2.2⟩
   obtain ⟨g,rfl,Q,b⟩:=h i e (dH _ u);have d0:=b 0 _ rfl;have d1:=b 1 _ rfl;have d2:=b 2 _ rfl;have d3:=b 3 _ rfl;have d4:=b 4 _ rfl;have d5:=b 5 _ rfl;have d6:=b 6 _ rfl;have d7:=b 7 _ rfl;have d8:=b 8 _ rfl;have d9:=b 9 _ rfl;simp only [Nat.add_zero] at d0;have k:=HK.o e (aX u);have J:=ah (And.intro (k.1.ents n (bg (bU q) i o.es)) (k.2.ents n (bg (bU q) i o.es)));have a1:=ah k;have t:=ah (HI.out.1.low (aU wr (.cells (NH L.tb e.1 e.2) 167)));have C:=ah (HI.out.2.trans (Keeps.of (aU wr (.cells (NH L.tb e.1 e.2) 167)) (au _) S));have HX:=ah (mV wr L.tb e);have N:=ah m;have V:Hq ((bg (bU q) i o.es)[i]?=some e/\(bg (bU q) i o.es).length<=5000):=ah ⟨dH _ u,by rw [cB];exact F⟩;have K:=ah (fK (bU q) u);have M:=ah (fM (bU q) u);clear m f h b k u;go_upto_region 3 with (fail)
   generalize wr.alloc (.cells (NH L.tb e.1 e.2) 167)=w3 at *;generalize wr.heap.size=X at *;clear d0 d1 d2 d3 d4 d5 d6 d7 d8 d9;obtain ⟨y5,y6,y7,Z,Y⟩:OA w3 X L.tb e.2:=HX.o.c6;have j:=ah (lC t.o e.2 J.o.2);rw [Hp.I9] at j;cases hb:q.MO e.2 with
   |false=>
    rw [hb] at j;have s:Hq (bU q e=e):=ah (by unfold bU;rw [hb];rfl);clear hb;go_wp2_with fail;refine j.o.mono ?_;rintro T w4 ⟨rfl,d⟩;have l:=ah d;clear d;go_wp2;go_roundw
    case rel=>exact ⟨i+1,by omega,by simp,by rw [M.o s.o];exact t.o.low l.o,C.o.trans (Keeps.of l.o (au _) S)⟩
    case measure=>simp [bF];omega
   |true=>
    rw [hb] at j;have s:Hq (bU q e=(e.1,none)):=ah (by unfold bU;rw [hb];rfl);clear hb;go_wp2_with fail;refine j.o.mono ?_;rintro T w4 ⟨rfl,d⟩;have l:=ah d;have P:=ah (t.o.low d);have HP:=ah (oL P.o N.o V.o.1 none V.o.2);clear d y5 y6 y7 Z Y;go_wp2_with fail;refine HP.o.mono ?_;rintro T w5 ⟨rfl,y,x⟩;have W:=ah (And.intro y x);clear y x;go_wp2;go_roundw
    case rel=>
     refine ⟨i+1,by omega,by simp,?_,(C.o.trans (Keeps.of l.o (au _) S)).trans W.o.2⟩;rw [K.o,s.o,<-Hp.Iz q n (bg (bU q) i o.es)];exact W.o.1
    case measure=>simp [bF];omega
  ·have E:i=o.es.length:=by omega
   subst E;rw [ig] at HI;go_wp2;go_end0;exact ⟨rfl,HI.out.1,HI.out.2⟩
theorem nX (a:M0 base S q G L w) (ho:q.ob n=some o) (x:∀ e∈o.es,iP q e.1/\iP q e.2) (M:o.es.length<=5000):
 Calls Tryz.prog 153 #[.pointer (some ⟨L.tb n,0,none⟩)] w fun e w'=>e=.returned (.tuple #[])/\M0 base S (q.ents n (o.es.map (b_ q))) G L w'/\Keeps w w' S:=by
 obtain ⟨A,F,r,a1,-⟩:=a.ents ho;have c7:w.cell? ⟨L.tb n,7,none⟩=some (.slice A o.es.length F):=by rw [<-r];exact (a.ob n o ho).c 7
 have HA:=ah a;have W:=ah ho;have HE:=ah r;have HK:=ah x;clear a ho r x;go_enter Tryz.func153,Tryz.ntmps153;go_wp2;go_loopw [9] (fun iv wr=>∃ i:Nat,i<=o.es.length/\iv=.int .i64 i/\Hq (M0 base S (q.ents n (bg (b_ q) i o.es)) G L wr/\Keeps w wr S)) (fun iv _=>o.es.length-bF iv)
 case atStart=>
  refine ⟨0,by omega,rfl,?_,Keeps.refl _ _⟩;rw [gK,Hp.Io W.o];exact HA.o
 case round=>
  obtain ⟨i,a2,rfl,HI⟩:=hrel;by_cases B:i<o.es.length
  ·obtain ⟨e,v⟩:∃ e,o.es[i]?=some e:=⟨_,aN B⟩
   have p:=Hp.Ij W.o (bg (b_ q) i o.es);obtain ⟨A1,E,f,s,h⟩:=HI.out.1.ents p;simp only [cB] at f s;obtain ⟨rfl,rfl⟩:A1=A/\E=F:=by
    have N:=f.symm.trans HE.o;simp only [Value.slice.injEq] at N;exact ⟨N.1,N.2.2⟩
   obtain ⟨g,rfl,a0,b⟩:=h i e (dH _ v);have d0:=b 0 _ rfl;have d1:=b 1 _ rfl;have d2:=b 2 _ rfl;have d3:=b 3 _ rfl;have d4:=b 4 _ rfl;have d5:=b 5 _ rfl;have d6:=b 6 _ rfl;have d7:=b 7 _ rfl;have d8:=b 8 _ rfl;have d9:=b 9 _ rfl;simp only [Nat.add_zero] at d0;have k:=HK.o e (aX v);have R:=ah (And.intro (k.1.ents n (bg (b_ q) i o.es)) (k.2.ents n (bg (b_ q) i o.es)));have Q:=ah k;have u:=ah (HI.out.1.low (aU wr (.cells (NH L.tb e.1 e.2) 167)));have J:=ah (HI.out.2.trans (Keeps.of (aU wr (.cells (NH L.tb e.1 e.2) 167)) (au _) S));have HX:=ah (mV wr L.tb e);have V:=ah p;have Y:Hq ((bg (b_ q) i o.es)[i]?=some e/\(bg (b_ q) i o.es).length<=5000):=ah ⟨dH _ v,by rw [cB];exact M⟩;have T:=ah (fK (b_ q) v);have U:=ah (fM (b_ q) v);clear p f h b k v;go_upto_region 3 with (fail)
   generalize wr.alloc (.cells (NH L.tb e.1 e.2) 167)=w3 at *;generalize wr.heap.size=X at *;clear d0 d1 d2 d3 d4 d5 d6 d7 d8 d9;obtain ⟨x0,x1,x2,x3,x4⟩:NC w3 X L.tb e.1:=HX.o.c5;have j:=ah (lC u.o e.1 R.o.1);rw [Hp.I9] at j;cases hb:q.MO e.1 with
   |false=>
    rw [hb] at j;have t:Hq (b_ q e=e):=ah (by unfold b_;rw [hb];rfl);clear hb;go_wp2_with fail;refine j.o.mono ?_;rintro P w4 ⟨rfl,d⟩;have m:=ah d;clear d;go_wp2;go_roundw
    case rel=>exact ⟨i+1,by omega,by simp,by rw [U.o t.o];exact u.o.low m.o,J.o.trans (Keeps.of m.o (au _) S)⟩
    case measure=>simp [bF];omega
   |true=>
    rw [hb] at j;have t:Hq (b_ q e=(none,none)):=ah (by unfold b_;rw [hb];rfl);clear hb;go_wp2_with fail;refine j.o.mono ?_;rintro P w4 ⟨rfl,d⟩;have m:=ah d;have Z:=ah (u.o.low d);have HP:=ah (oL Z.o V.o Y.o.1 none Y.o.2);clear d x0 x1 x2 x3 x4;go_wp2_with fail;refine HP.o.mono ?_;rintro P w5 ⟨rfl,l,z⟩;rw [Hp.Iz] at l;have H5:=ah (And.intro l z);have C:i<(bg (b_ q) i o.es).length:=by rw [cB];exact B
    have H:=ah (wG l (Hp.Ij W.o _) (i:=i) (e:=(e.1,none)) (dY C) (by simp only [bX];exact Y.o.2) (Q.o.1.ents n _));rw [Hp.Iz,List.set_set] at H;clear l z C;go_wp2_with fail;refine H.o.mono ?_;rintro P w6 ⟨rfl,D,y⟩;have H6:=ah (And.intro D y);clear D y;go_wp2;go_roundw
    case rel=>
     refine ⟨i+1,by omega,by simp,?_,((J.o.trans (Keeps.of m.o (au _) S)).trans H5.o.2).trans H6.o.2⟩;rw [T.o,t.o];exact H6.o.1
    case measure=>simp [bF];omega
  ·have K:i=o.es.length:=by omega
   subst K;rw [ig] at HI;go_wp2;go_end0;exact ⟨rfl,HI.out.1,HI.out.2⟩
theorem vL (a:M0 base S q G L w) (ho:q.ob n=some o) (C:∀ e∈o.es,iP q e.1/\iP q e.2) (Y:o.es.length<=5000):
 Calls Tryz.prog 155 #[.pointer (some ⟨L.tb n,0,none⟩)] w fun e w'=>e=.returned (.tuple #[])/\M0 base S (q.ents n (o.es.map (dG q))) G L w'/\Keeps w w' S:=by
 obtain ⟨A,H,t,a5,-⟩:=a.ents ho;have c7:w.cell? ⟨L.tb n,7,none⟩=some (.slice A o.es.length H):=by rw [<-t];exact (a.ob n o ho).c 7
 have HA:=ah a;have HO:=ah ho;have HE:=ah t;have HK:=ah C;clear a ho t C;go_enter Tryz.func155,Tryz.ntmps155;go_wp2;go_loopw [9] (fun iv wr=>∃ i:Nat,i<=o.es.length/\iv=.int .i64 i/\Hq (M0 base S (q.ents n (bg (dG q) i o.es)) G L wr/\Keeps w wr S)) (fun iv _=>o.es.length-bF iv)
 case atStart=>
  refine ⟨0,by omega,rfl,?_,Keeps.refl _ _⟩;rw [gK,Hp.Io HO.o];exact HA.o
 case round=>
  obtain ⟨i,a6,rfl,HI⟩:=hrel;by_cases V:i<o.es.length
  ·obtain ⟨e,B⟩:∃ e,o.es[i]?=some e:=⟨_,aN V⟩
   have s:=Hp.Ij HO.o (bg (dG q) i o.es);obtain ⟨A1,F,h,u,j⟩:=HI.out.1.ents s;simp only [cB] at h u;obtain ⟨rfl,rfl⟩:A1=A/\F=H:=by
    have Z:=h.symm.trans HE.o;simp only [Value.slice.injEq] at Z;exact ⟨Z.1,Z.2.2⟩
   obtain ⟨g,rfl,a4,b⟩:=j i e (dH _ B);have d0:=b 0 _ rfl;have d1:=b 1 _ rfl;have d2:=b 2 _ rfl;have d3:=b 3 _ rfl;have d4:=b 4 _ rfl;have d5:=b 5 _ rfl;have d6:=b 6 _ rfl;have d7:=b 7 _ rfl;have d8:=b 8 _ rfl;have d9:=b 9 _ rfl;simp only [Nat.add_zero] at d0;have p:=HK.o e (aX B);have J:=ah (And.intro (p.1.ents n (bg (dG q) i o.es)) (p.2.ents n (bg (dG q) i o.es)));have a7:=ah p;have N:=ah (HI.out.1.low (aU wr (.cells (NH L.tb e.1 e.2) 167)));have x:=ah (HI.out.2.trans (Keeps.of (aU wr (.cells (NH L.tb e.1 e.2) 167)) (au _) S));have HX:=ah (mV wr L.tb e);have a2:=ah s;have HG:Hq ((bg (dG q) i o.es)[i]?=some e/\(bg (dG q) i o.es).length<=5000):=ah ⟨dH _ B,by rw [cB];exact Y⟩;have a1:=ah (fK (dG q) B);have K:=ah (fM (dG q) B);clear s h j b p B;go_upto_region 3 with (fail)
   generalize wr.alloc (.cells (NH L.tb e.1 e.2) 167)=w3 at *;generalize wr.heap.size=X at *;clear d0 d1 d2 d3 d4 d5 d6 d7 d8 d9;obtain ⟨y5,y6,y7,y8,y9⟩:OA w3 X L.tb e.2:=HX.o.c6;obtain ⟨x0,x1,U,T,R⟩:NC w3 X L.tb e.1:=HX.o.c5;have Q:=ah (bT w3 L.tb e.2);cases hn:e.2.isNone with
   |false=>
    rw [hn] at Q;have l:Hq (dG q e=e):=ah (by unfold dG;rw [hn];rfl);clear hn;go_wp2_with fail;refine Q.o.mono ?_;rintro P w4 ⟨rfl,d⟩;have m:=ah d;clear d;go_wp2;go_roundw
    case rel=>exact ⟨i+1,by omega,by simp,by rw [K.o l.o];exact N.o.low m.o,x.o.trans (Keeps.of m.o (au _) S)⟩
    case measure=>simp [bF];omega
   |true=>
    rw [hn] at Q;have v:=ah hn;clear hn;go_wp2_with fail;refine Q.o.mono ?_;rintro P w4 ⟨rfl,d⟩;have m:=ah d;have z:=ah (N.o.low d);have a0:=ah (HX.o.keep (Keeps.of d (au _) (fun _=>False)) (fun y=>y));clear d y5 y6 y7 y8 y9 x0 x1 U T R;obtain ⟨x0,x1,U,T,R⟩:NC w4 X L.tb e.1:=a0.o.c5;have k:=ah (lC z.o e.1 J.o.1);rw [Hp.I9] at k;cases hb:q.MO e.1 with
    |false=>
     rw [hb] at k;have l:Hq (dG q e=e):=ah (by unfold dG;rw [v.o,hb];rfl);clear hb;go_wp2_with fail;refine k.o.mono ?_;rintro P w5 ⟨rfl,f⟩;have r:=ah f;clear f;go_wp2;go_roundw
     case rel=>exact ⟨i+1,by omega,by simp,by rw [K.o l.o];exact z.o.low r.o,(x.o.trans (Keeps.of m.o (au _) S)).trans (Keeps.of r.o (au _) S)⟩
     case measure=>simp [bF];omega
    |true=>
     rw [hb] at k;have l:Hq (dG q e=(none,e.2)):=ah (by
      unfold dG;rw [v.o,hb];have:e.2=none:=by simpa using v.o
      rw [this];rfl)
     clear hb;go_wp2_with fail;refine k.o.mono ?_;rintro P w5 ⟨rfl,f⟩;have r:=ah f;have a3:=ah (z.o.low f);have M:=ah (wG a3.o a2.o HG.o.1 HG.o.2 J.o.1);rw [Hp.Iz] at M;clear f x0 x1 U T R;go_wp2_with fail;refine M.o.mono ?_;rintro P w6 ⟨rfl,E,D⟩;have H6:=ah (And.intro E D);clear E D;go_wp2;go_roundw
     case rel=>
      refine ⟨i+1,by omega,by simp,?_,((x.o.trans (Keeps.of m.o (au _) S)).trans (Keeps.of r.o (au _) S)).trans H6.o.2⟩;rw [a1.o,l.o];exact H6.o.1
     case measure=>simp [bF];omega
  ·have W:i=o.es.length:=by omega
   subst W;rw [ig] at HI;go_wp2;go_end0;exact ⟨rfl,HI.out.1,HI.out.2⟩
end
section
variable {G:Gh} {L:PM} {S:Nat->Prop} {base:Nat} {h:Hp} {w:World}
attribute [local go_sem] bW
theorem nW (c:Hp->En->En):∀ (l:List Nat) (h:Hp),l.foldl (Hp.Nb c) h={ h with objs:=(l.foldl (Hp.Nb c) h).objs }
 | [],h=>rfl
 |a::l,h=>by
  rw [List.foldl_cons,nW c l];rfl
theorem AO (a b:List Nat) (h:Hp):(a++b).foldl Hp.Ml h=(b++a).foldl Hp.Ml h:=by
 rw [Bh,nW b_ (a++b) h,nW b_ (b++a) h];have d:=Np.fold b_ gu (a++b) h;have c:=Np.fold b_ gu (b++a) h;rw [tQ (h:=(b++a).foldl (Hp.Nb b_) h) (g:=(a++b).foldl (Hp.Nb b_) h) (by rw [d.len,c.len]) (fun n=>?_)];rw [<-Bh,lM,lM];simp only [eT,Or.comm]
theorem uw (a:M0 base S h G L w) (k:Wk h):
 Calls Tryz.prog 144 #[.pointer (some ⟨L.H,0,none⟩)] w fun e w'=>e=.returned (.tuple #[])/\M0 base S (h.weak.foldl Hp.MN h) G L w'/\Keeps w w' S:=by
 obtain ⟨A,m,z,N,-⟩:=a.II (k:=13) (by simp [eF]);have ck:w.cell? ⟨L.H,13,none⟩=some (.slice A h.weak.length m):=by
  have:=a.hp.c 13;rw [this];exact congrArg some z
 have R:h.weak.length<=20000:=by
  have:=k.s.nu;simp only [Hp.nu] at this;omega
 have W:=ah a;have P:=ah k;have HV:Hq (L.li 13=.slice A h.weak.length m):=ah z;clear a k z;go_enter Tryz.func144,Tryz.ntmps144;go_wp2;go_loopw [10] (fun iv wr=>∃ i:Nat,i<=h.weak.length/\iv=.int .i64 i/\Hq (M0 base S ((h.weak.take i).foldl Hp.MN h) G L wr/\Keeps w wr S)) (fun iv _=>h.weak.length-bF iv)
 case atStart=>exact ⟨0,by omega,rfl,W.o,Keeps.refl _ _⟩
 case round=>
  obtain ⟨i,T,rfl,HI⟩:=hrel;by_cases C:i<h.weak.length
  ·obtain ⟨n,y⟩:∃ n,h.weak[i]?=some n:=⟨_,aN C⟩
   have p:=bD y;have d:Np h ((h.weak.take i).foldl Hp.MN h):=Np.fold bU bZ (h.weak.take i) h;have f:=P.o.cnt d;obtain ⟨q,B⟩:∃ q,(h.weak.take i).foldl Hp.MN h=q:=⟨_,rfl⟩
   rw [B] at d HI f;obtain ⟨X,x,j,E,b⟩:=HI.out.1.II (k:=13) (by simp [eF]);have r:eU q G 13=h.weak:=d.weak;rw [r] at j b;obtain ⟨rfl,rfl⟩:X=A/\x=m:=by
    have F:=j.symm.trans HV.out;simp only [Value.slice.injEq] at F;exact ⟨F.1,F.2.2⟩
   obtain ⟨g,rfl,K,u⟩:=b i n y;have M:wr.cell? ⟨g,i,none⟩=some (.pointer (some ⟨L.tb n,0,none⟩)):=u;obtain ⟨o,ho⟩:=(d.lv n).2 (P.o.l n (.inr <| .inr <| .inl <| (aX y)));have U:=ah (uN HI.out.1 ho (iP.of f.c ho) (f.s.es n o ho));have V:Hq ((h.weak.take (i+1)).foldl Hp.MN h=q.ents n (o.es.map (bU q))):=ah (by rw [p,bE,B];exact jN bU ho);have J:=ah HI.out.2;clear B d p u b j r ho HI y f;go_wp2_with fail;refine U.o.mono ?_;rintro Z Y ⟨rfl,v,t⟩;have Q:=ah (And.intro v t);clear v t;go_wp2;go_roundw
   case rel=>exact ⟨i+1,by omega,by simp,by rw [V.o];exact Q.o.1,J.o.trans Q.o.2⟩
   case measure=>simp [bF];omega
  ·have D:i=h.weak.length:=by omega
   subst D;rw [bN] at HI;go_wp2;go_end0;exact ⟨rfl,HI.out.1,HI.out.2⟩
theorem yV (a:M0 base S h G L w) (k:Wk h):
 Calls Tryz.prog 146 #[.pointer (some ⟨L.H,0,none⟩)] w fun e w'=>e=.returned (.tuple #[])/\M0 base S h.at4 G L w'/\Keeps w w' S:=by
 obtain ⟨A,J,T,a2,-⟩:=a.II (k:=13) (by simp [eF]);have ck:w.cell? ⟨L.H,13,none⟩=some (.slice A h.weak.length J):=by
  have:=a.hp.c 13;rw [this];exact congrArg some T
 have a3:h.weak.length<=20000:=by
  have:=k.s.nu;simp only [Hp.nu] at this;omega
 have HA:=ah a;have Y:=ah k;have HV:Hq (L.li 13=.slice A h.weak.length J):=ah T;clear a k T;go_enter Tryz.func146,Tryz.ntmps146;go_wp2;go_loopw [12] (fun iv wr=>∃ i:Nat,i<=h.weak.length/\iv=.int .i64 i/\Hq (M0 base S ((h.weak.take i).foldl Hp.Ml h) G L wr/\Keeps w wr S)) (fun iv _=>h.weak.length-bF iv)
 case atStart=>exact ⟨0,by omega,rfl,HA.o,Keeps.refl _ _⟩
 case round=>
  obtain ⟨i,U,rfl,HI⟩:=hrel;by_cases C:i<h.weak.length
  ·obtain ⟨n,y⟩:∃ n,h.weak[i]?=some n:=⟨_,aN C⟩
   have m:=bD y;have b:Np h ((h.weak.take i).foldl Hp.Ml h):=Np.fold b_ gu (h.weak.take i) h;have f:=Y.o.cnt b;obtain ⟨q,B⟩:∃ q,(h.weak.take i).foldl Hp.Ml h=q:=⟨_,rfl⟩
   rw [B] at b HI f;obtain ⟨A1,x,j,E,d⟩:=HI.out.1.II (k:=13) (by simp [eF]);have p:eU q G 13=h.weak:=b.weak;rw [p] at j d;obtain ⟨rfl,rfl⟩:A1=A/\x=J:=by
    have F:=j.symm.trans HV.out;simp only [Value.slice.injEq] at F;exact ⟨F.1,F.2.2⟩
   obtain ⟨g,rfl,N,t⟩:=d i n y;have P:wr.cell? ⟨g,i,none⟩=some (.pointer (some ⟨L.tb n,0,none⟩)):=t;obtain ⟨o,ho⟩:=(b.lv n).2 (Y.o.l n (.inr <| .inr <| .inl <| (aX y)));have X:=ah (nX HI.out.1 ho (iP.of f.c ho) (f.s.es n o ho));have Z:Hq ((h.weak.take (i+1)).foldl Hp.Ml h=q.ents n (o.es.map (b_ q))):=ah (by rw [m,bE,B];exact jN b_ ho);have K:=ah HI.out.2;clear B b m t d j p ho HI y f;go_wp2_with fail;refine X.o.mono ?_;rintro e9 w6 ⟨rfl,u,r⟩;have R:=ah (And.intro u r);clear u r;go_wp2;go_roundw
   case rel=>exact ⟨i+1,by omega,by simp,by rw [Z.o];exact R.o.1,K.o.trans R.o.2⟩
   case measure=>simp [bF];omega
  ·have D:i=h.weak.length:=by omega
   subst D;rw [bN] at HI;have b:Np h (h.weak.foldl Hp.Ml h):=Np.fold b_ gu h.weak h;have M:=ah (Y.o.cnt b);have a0:Hq (h.at4=(h.weak.foldl Hp.Ml h).G8.foldl Hp.Ml (h.weak.foldl Hp.Ml h)):=ah (by
    rw [b.G8,<-List.foldl_append];exact AO h.G8 h.weak h)
   generalize h.weak.foldl Hp.Ml h=q2 at *;obtain ⟨A2,v,z,V,-⟩:=HI.out.1.II (k:=14) (by simp [eF]);have a4:wr.cell? ⟨L.H,14,none⟩=some (.slice A2 q2.G8.length v):=by
    have:=HI.out.1.hp.c 14;rw [this];exact congrArg some z
   have a1:q2.G8.length<=20000:=by
    have:=M.o.s.nu;simp only [Hp.nu] at this;omega
   have W:Hq (L.li 14=.slice A2 q2.G8.length v):=ah z;have Q:=ah HI.out;clear z b HI;go_wp2;go_loopw [25] (fun iv wr=>∃ i:Nat,i<=q2.G8.length/\iv=.int .i64 i/\Hq (M0 base S ((q2.G8.take i).foldl Hp.Ml q2) G L wr/\Keeps w wr S)) (fun iv _=>q2.G8.length-bF iv)
   case atStart=>exact ⟨0,by omega,rfl,Q.o.1,Q.o.2⟩
   case round=>
    obtain ⟨i,U,rfl,HI⟩:=hrel;by_cases C:i<q2.G8.length
    ·obtain ⟨n,y⟩:∃ n,q2.G8[i]?=some n:=⟨_,aN C⟩
     have m:=bD y;have b:Np q2 ((q2.G8.take i).foldl Hp.Ml q2):=Np.fold b_ gu (q2.G8.take i) q2;have f:=M.o.cnt b;obtain ⟨q,B⟩:∃ q,(q2.G8.take i).foldl Hp.Ml q2=q:=⟨_,rfl⟩
     rw [B] at b HI f;obtain ⟨A1,x,j,E,d⟩:=HI.out.1.II (k:=14) (by simp [eF]);have p:eU q G 14=q2.G8:=b.G8;rw [p] at j d;obtain ⟨rfl,rfl⟩:A1=A2/\x=v:=by
      have F:=j.symm.trans W.o;simp only [Value.slice.injEq] at F;exact ⟨F.1,F.2.2⟩
     obtain ⟨g,rfl,N,t⟩:=d i n y;have P:wr.cell? ⟨g,i,none⟩=some (.pointer (some ⟨L.tb n,0,none⟩)):=t;obtain ⟨o,ho⟩:=(b.lv n).2 (M.o.l n (.inr <| .inr <| .inr <| (aX y)));have X:=ah (nX HI.out.1 ho (iP.of f.c ho) (f.s.es n o ho));have Z:Hq ((q2.G8.take (i+1)).foldl Hp.Ml q2=q.ents n (o.es.map (b_ q))):=ah (by rw [m,bE,B];exact jN b_ ho);have K:=ah HI.out.2;clear B b m t d j p ho HI y f;go_wp2_with fail;refine X.o.mono ?_;rintro e9 w6 ⟨rfl,u,r⟩;have R:=ah (And.intro u r);clear u r;go_wp2;go_roundw
     case rel=>exact ⟨i+1,by omega,by simp,by rw [Z.o];exact R.o.1,K.o.trans R.o.2⟩
     case measure=>simp [bF];omega
    ·have D:i=q2.G8.length:=by omega
     subst D;rw [bN] at HI;go_wp2;go_end0;exact ⟨rfl,by rw [a0.o];exact HI.out.1,HI.out.2⟩
end
section
variable {G:Gh} {L:PM} {S:Nat->Prop} {base i k m n:Nat} {es:List En} {h q:Hp} {o:Ob} {w:World}
structure MX (G:Gh) (h:Hp):Prop where
 up:G.Ns.Pairwise (·< ·)
 lv:∀ n,n∈G.Ns↔h.Lv n
theorem vC (v:Value) (w:World):(Instr.typeAssert (.iface 127 v) 67 127 true).run Tryz.prog w=.ok (.tuple #[v,.bool true]) w:=by kernel_rfl
theorem yP (h:aZ es=0) (q:Hp):es.map (dG q)=es:=by
 unfold aZ at h;rw [List.length_eq_zero_iff,List.filter_eq_nil_iff] at h
 conv=>rhs;rw [<-List.map_id es]
 refine List.map_congr_left (fun e he=>?_);have:=h e he;unfold dG;cases hn:e.2.isNone with
 |false=>rfl
 |true=>exact absurd hn this
theorem kM (d:k<=m) (h:∀ n,k<=n->n<m->¬ q.Lv n):bn m q=bn k q:=by
 induction m with
 |zero=>rw [show k=0 by omega]
 |succ m ih=>
  by_cases c:k=m+1
  ·rw [c]
  ·rw [iJ (fun o e=>absurd ⟨o,e⟩ (h m (by omega) (by omega))),ih (by omega) (fun n a b=>h n a (by omega))]
theorem uR (h:∀ n,q.Lv n->n<k):bn k q=q.Im:=by
 rw [<-nT];rcases Nat.le_total k q.objs.length with c|c
 ·exact (kM c (fun n a _ l=>by have:=h n l;omega)).symm
 ·refine kM c (fun n a _ l=>?_)
  obtain ⟨o,ho⟩:=l;have:=Hp.Ia ho;omega
theorem vE (h:q.ob n=some o) (a:i<=n):(bn i q).ob n=some o:=by
 rw [gN,if_neg (by omega),h]
theorem Bl (a:M0 base S h G L w) (k:Wk h) (gl:MX G h) (a9:G.Ns.length<=20000):
 Calls Tryz.prog 147 #[.pointer (some ⟨L.H,0,none⟩)] w fun e w'=>e=.returned (.tuple #[])/\M0 base S h.Im G L w'/\Keeps w w' S:=by
 obtain ⟨A,F,Y,a7,-⟩:=a.II (k:=7) (by simp [eF]);have ck:w.cell? ⟨L.H,7,none⟩=some (.slice A G.Ns.length F):=by
  have:=a.hp.c 7;rw [this];exact congrArg some Y
 have HA:=ah a;have HK:=ah k;have HG:=ah gl;have HV:Hq (L.li 7=.slice A G.Ns.length F):=ah Y;have a8:=vC;clear a k gl Y;go_enter Tryz.func147,Tryz.ntmps147;go_wp2;go_loopw [11] (fun iv wr=>∃ i:Nat,i<=G.Ns.length/\iv=.int .i64 i/\Hq (∃ m,M0 base S (bn m h) G L wr/\Keeps w wr S/\(∀ j n,i<=j->G.Ns[j]?=some n->m<=n)/\∀ n,h.Lv n->n<m∨∃ j,i<=j/\G.Ns[j]?=some n)) (fun iv _=>G.Ns.length-bF iv)
 case atStart=>
  refine ⟨0,by omega,rfl,0,?_,Keeps.refl _ _,fun j n _ _=>Nat.zero_le _,fun n hn=>.inr ?_⟩
  ·rw [mR];exact HA.o
  ·obtain ⟨j,D,e⟩:=List.getElem_of_mem ((HG.o.lv n).2 hn)
   exact ⟨j,Nat.zero_le _,by rw [aN D,e]⟩
 case round=>
  obtain ⟨i,b0,rfl,HI⟩:=hrel;obtain ⟨m,b,u,B,p⟩:=HI.out;by_cases Q:i<G.Ns.length
  ·obtain ⟨n,E⟩:∃ n,G.Ns[i]?=some n:=⟨_,aN Q⟩
   obtain ⟨o,ho⟩:=(HG.o.lv n).1 (aX E);have t:∀ j v,i<j->G.Ns[j]?=some v->n<v:=by
    intro j v a0 D;have Z:=(aJ.1 D).1;have e1:=(aJ.1 D).2;have e2:=(aJ.1 E).2;have:=List.pairwise_iff_getElem.1 HG.o.up i j Q Z a0;rw [e1,e2] at this;exact this
   have N:=B i n (au _) E;have y:bn n h=bn m h:=kM N (fun x h1 h2 hl=>by
    rcases p x hl with c|⟨j,D,c⟩
    ·omega
    ·rcases Nat.lt_or_ge i j with d|d
     ·have:=t j x d c;omega
     ·rw [show j=i by omega,E] at c;cases c;omega)
   rw [<-y] at b;have l:(bn n h).ob n=some o:=vE ho (au _);have C:=HK.o.cnt (jC n h);have K:Hq ((∀ j v,i+1<=j->G.Ns[j]?=some v->n+1<=v)/\∀ x,h.Lv x->x<n+1∨∃ j,i+1<=j/\G.Ns[j]?=some x):=ah ⟨fun j v h1 h2=>t j v h1 h2,fun x hl=>by
    rcases p x hl with c|⟨j,D,c⟩
    ·exact .inl (by omega)
    ·rcases Nat.lt_or_ge i j with d|d
     ·exact .inr ⟨j,d,c⟩
     ·rw [show j=i by omega,E] at c;cases c;exact .inl (by omega)⟩
   obtain ⟨A1,U,z,a2,r⟩:=b.II (k:=7) (by simp [eF]);have M:eU (bn n h) G 7=G.Ns:=rfl;rw [M] at z r;obtain ⟨rfl,rfl⟩:A1=A/\U=F:=by
    have h9:=z.symm.trans HV.out;simp only [Value.slice.injEq] at h9;exact ⟨h9.1,h9.2.2⟩
   obtain ⟨g,rfl,a5,R⟩:=r i n E;have a6:wr.cell? ⟨g,i,none⟩=some (.iface 127 (.pointer (some ⟨L.tb n,0,none⟩))):=R;have t0:wr.cell? ⟨L.tb n,0,none⟩=some (.int .i64 (o.col:Int)):=(b.ob n o l).c 0;have t9:wr.cell? ⟨L.tb n,9,none⟩=some (.int .i64 ((aZ o.es:Nat):Int)):=(b.ob n o l).c 9;have V:=ah (lY wr (L.tb n) o.col t0);have HB:=ah (vL b l (iP.of C.c l) (C.s.es n o l));have f:=ah (And.intro b u);have W:=ah ho;have a4:=ah l;clear b u B p HI E ho l t y C r R z M N;cases hw:fU o.col with
   |true=>
    rw [hw] at V;have J:Hq (bn (n+1) h=bn n h):=ah (iJ (fun o' e=>by
     rw [W.o] at e;cases e;unfold Hp.drop1;rw [if_pos hw]))
    clear hw;go_wp2_with fail;refine V.o.mono ?_;rintro e1 w1 ⟨rfl,rfl⟩;go_wp2;go_roundw
    case rel=>exact ⟨i+1,by omega,by simp,n+1,by rw [J.o];exact f.o.1,f.o.2,K.o⟩
    case measure=>simp [bF];omega
   |false=>
    rw [hw] at V;have X:Hq (bn (n+1) h=(bn n h).ents n (o.es.map (dG (bn n h)))):=ah (qB W.o hw);clear hw;by_cases hb:aZ o.es=0
    ·have a3:¬ (((aZ o.es:Nat):Int) > 0):=by omega
     have J:Hq (bn (n+1) h=bn n h):=ah (by rw [X.o,yP hb,Hp.Io a4.o]);clear hb;go_wp2_with fail;refine V.o.mono ?_;rintro e1 w1 ⟨rfl,rfl⟩;go_wp2;go_roundw
     case rel=>exact ⟨i+1,by omega,by simp,n+1,by rw [J.o];exact f.o.1,f.o.2,K.o⟩
     case measure=>simp [bF];omega
    ·have a3:((aZ o.es:Nat):Int) > 0:=by omega
     clear hb;go_wp2_with fail;refine V.o.mono ?_;rintro e1 w1 ⟨rfl,rfl⟩;go_wp2_with fail;refine HB.o.mono ?_;rintro e9 w6 ⟨rfl,T,P⟩;have H6:=ah (And.intro T P);clear T P;go_wp2;go_roundw
     case rel=>exact ⟨i+1,by omega,by simp,n+1,by rw [X.o];exact H6.o.1,f.o.2.trans H6.o.2,K.o⟩
     case measure=>simp [bF];omega
  ·have a1:i=G.Ns.length:=by omega
   subst a1;have HD:Hq (bn m h=h.Im):=ah (uR (fun n hn=>by
    rcases p n hn with c|⟨j,D,c⟩
    ·exact c
    ·have:=(aJ.1 c).1;omega))
   have f:=ah (And.intro b u);clear b u B p HI;go_wp2;go_end0;exact ⟨rfl,by rw [<-HD.o];exact f.o.1,f.o.2⟩
end
end Go.Proofs.YtbpcdfbmnklcjaaGreatDoor
