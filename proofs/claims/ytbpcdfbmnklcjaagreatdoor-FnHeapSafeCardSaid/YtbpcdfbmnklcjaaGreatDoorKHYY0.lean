import Derived.Test.YtbpcdfbmnklcjaaGreatDoorKHWA
import Derived.Deep.RegionLaw
import Derived.Test.YtbpcdfbmnklcjaaGreatDoorKHYX0
import Derived.Deep.RegionHeld3
namespace Go.Proofs.YtbpcdfbmnklcjaaGreatDoor
open Go Go.RowKit
set_option maxHeartbeats 6400000
set_option maxRecDepth 100000
set_option linter.unusedVariables false
section
variable {R base hand n:Nat} {S:Nat->Prop} {gs:List Nat} {root:List Bool} {rv:Value} {w:World}
theorem MW.La {h:Hp} {L:SM} (a:MW base S h L w) (u:h.pending=gs++[n]):∃ g cap,L.li 12=.slice (some ⟨g,0,none⟩) (gs.length+1) cap/\gs.length+1<=cap/\w.cell? ⟨g,gs.length,none⟩=some (.int .i64 (n:Int))/\
 MW base S { h with pending:=gs } { L with li:=fun j=>if j=12 then .slice (some ⟨g,0,none⟩) gs.length cap else L.li j } (w.setCell ⟨L.H,12,none⟩ (.slice (some ⟨g,0,none⟩) gs.length cap))/\Keeps w (w.setCell ⟨L.H,12,none⟩ (.slice (some ⟨g,0,none⟩) gs.length cap)) S:=by
 have f:=a.li 12 (by simp [eO]);have q:h_ h 12=gs++[n]:=u;rw [q] at f;obtain ⟨x,cap,o⟩:=aF f;have l:(gs++[n]).length=gs.length+1:=by simp
 rw [l] at f o;rw [o] at f;rcases f.2 with ⟨_,z⟩|⟨g,r,v,i,hb,y,p,hr⟩
 ·omega
 ·simp at i
  obtain ⟨rfl,rfl⟩:=i;have k:=ay f (g:=g) (by simp [Value.ownBlock]);have b:=lI f (m:=gs.length) (by omega);have d:w.ownsRow base 3 1 (.slice (some ⟨g,0,none⟩) gs.length cap) gs.length (dZ gs):=by
   have:(dZ (gs++[n])).take (gs.length*1)=dZ gs:=by
    unfold dZ;rw [List.map_append,Nat.mul_one];rw [List.take_append_of_le_length (by simp),List.take_of_length_le (by simp)]
   rw [this] at b;exact b
  obtain ⟨p1,t,s⟩:=a.JV (w1:=w) 12 (by simp [eO]) (Keeps.refl w _) _ gs d (fun g' e=>.inl (by rw [o];simpa [Value.ownBlock] using e));refine ⟨g,cap,o,p,?_,t,s⟩;rw [k.c (gs.length)];simp [dZ,bq]
theorem Hp.Lf {h:Hp} (a:h.pending=gs++[n]):h.pop={ h with pending:=gs }:=by
 unfold Hp.pop;rw [a];simp
theorem ET {h:Hp} {L:SM} (x:RW base S h L R hand rv root w) (g:Gd h) (A B C:Int):
 Calls Tryz.prog 34 #[.pointer (some ⟨R,0,none⟩),.agg #[.int .i64 8,.int .i64 A,.int .i64 B,.int .i64 C]] w (gF base S R hand rv w (if h.pending=[] then 4 else 0) ((h.pending.getLast?.getD 0:Nat):Int) h.pop root):=by
 have T:=ah (fK w 8 A B C);have U:=ah (aU w (.cells #[.int .i64 8,.int .i64 A,.int .i64 B,.int .i64 C] 39));have m:=ah (x.hole (.cells #[.int .i64 8,.int .i64 A,.int .i64 B,.int .i64 C] 39));clear x;by_cases hp:h.pending=[]
 ·have e1:((h.pending.getLast?.getD 0:Nat):Int)=0:=by rw [hp];rfl
  have Q:h.pop=h:=by unfold Hp.pop;rw [hp];simp;rw [<-hp]
  rw [if_pos hp,e1,Q];clear e1 Q;go_enter Tryz.func34,Tryz.ntmps34;go_upto_region 1 with (fail)
  generalize w.alloc (.cells #[.int .i64 8,.int .i64 A,.int .i64 B,.int .i64 C] 39)=w1 at *;generalize K:w.heap.size=X at *;have x0:w1.cell? ⟨X,0,none⟩=some (.int .i64 8):=T.o.c 0;have r0:w1.cell? ⟨R,0,none⟩=some (.pointer (some ⟨L.H,0,none⟩)):=m.o.x.r.c 0;have J:=m.o.x.a.li 12 (by simp [eO]);rw [show h_ h 12=[] from hp] at J;obtain ⟨y,p,t⟩:=aF J;have v:w1.cell? ⟨L.H,12,none⟩=some (.slice y 0 p):=by
   have:=m.o.x.a.hp.c 12;rw [this];exact congrArg some t
  clear J t hp;go_wp2
  ((try simp only [Exit.inBlock,Exit.then]);refine bodyPost_ret (results_tmp2 rfl _ _ _) rfl ?_)
  exact gF.mk' (by rw [K];exact U.o) (fun b e=>e.1) (Keeps.refl _ _) m.o
 ·obtain ⟨gs,n,i⟩:∃ gs n,h.pending=gs++[n]:=⟨_,_,(List.dropLast_concat_getLast hp).symm⟩
  have e1:((h.pending.getLast?.getD 0:Nat):Int)=(n:Int):=by rw [i];simp
  rw [if_neg hp,e1,Hp.Lf i];have V:gs.length<=5000:=by
   have:=g.s.fp;rw [i] at this;simp at this;omega
  have z:=ah i;clear e1 hp i;go_enter Tryz.func34,Tryz.ntmps34;go_upto_region 1 with (fail)
  generalize w.alloc (.cells #[.int .i64 8,.int .i64 A,.int .i64 B,.int .i64 C] 39)=w1 at *;generalize K:w.heap.size=X at *;have x0:w1.cell? ⟨X,0,none⟩=some (.int .i64 8):=T.o.c 0;have r0:w1.cell? ⟨R,0,none⟩=some (.pointer (some ⟨L.H,0,none⟩)):=m.o.x.r.c 0;obtain ⟨W,p,t,P,F,u,E⟩:=m.o.x.a.La z.o;have v:w1.cell? ⟨L.H,12,none⟩=some (.slice (some ⟨W,0,none⟩) (gs.length+1) p):=by
   have:=m.o.x.a.hp.c 12;rw [this];exact congrArg some t
  clear t u E;go_wp2_with fail;go_quiet (fail);go_wp2_with fail;have D:=ah (aC (aG w1.heap.size w1) nq);generalize w1.drewN nq=w2 at *;have k:=ah (m.o.low D.o);obtain ⟨M,d,q,G,-,f,l⟩:=k.o.x.a.La z.o;have d7:w2.cell? ⟨L.H,12,none⟩=some (.slice (some ⟨M,0,none⟩) (gs.length+1) d):=by
   have:=k.o.x.a.hp.c 12;rw [this];exact congrArg some q
  have y7:=k.o.x.a.hp.Nq 12;have j:=ah (And.intro f l);have N:(gs.length:Int)<=d:=by omega
  clear q f l v F
  go_region
  have Z:=ah ((k.o.heap (h':={ h with pending:=gs }) j.o.1 rfl j.o.2 rfl rfl).low (aC (aG _ _) 1));have Y:=ah ((Keeps.of D.o (au _) (fun b=>S b/\b≠X)).trans (j.o.2.trans (Keeps.of (aC (aG (w2.setCell ⟨L.H,12,none⟩ (.slice (some ⟨M,0,none⟩) gs.length d)).heap.size (w2.setCell ⟨L.H,12,none⟩ (.slice (some ⟨M,0,none⟩) gs.length d))) 1) (au _) (fun b=>S b/\b≠X))));go_wp2
  ((try simp only [Exit.inBlock,Exit.then]);refine bodyPost_ret (results_tmp2 rfl _ _ _) rfl ?_)
  exact gF.mk' (by rw [K];exact U.o) (fun b e=>e.1) Y.o Z.o
end
section
variable {G:Gh} {L:PM} {S:Nat->Prop} {base cap k n:Nat} {h:Hp} {w w1:World}
theorem t_ (w:World):(zeroValue 67).run Tryz.prog w=.ok .nilIface w:=by kernel_rfl
theorem MV.LB (a:MV base S h G L w) (hk:G.kept<=G.Nl.length) {A:Option Addr} (f:L.li 7=.slice A G.Nl.length cap) (kk:Keeps w w1 (fun b=>(L.li 7).ownBlock=some b)) (ho:w1.ownsRow base 67 1 (.slice A G.kept cap) G.kept ((G.Nl.take G.kept).map (eP L.tb 7))):
 aD w1 77 L.H 19 (kI h G L)/\∃ L',MS L L'/\MV base S h { G with Nl:=G.Nl.take G.kept } L' (w1.setCell ⟨L.H,7,none⟩ (.slice A G.kept cap))/\Keeps w (w1.setCell ⟨L.H,7,none⟩ (.slice A G.kept cap)) S:=by
 have i:(G.Nl.take G.kept).length=G.kept:=by rw [bX];omega
 obtain ⟨p1,d,c⟩:=a.JV (h':=h) (G':={ G with Nl:=G.Nl.take G.kept }) 7 (by simp [eF]) kk (.slice A G.kept cap) (by show w1.ownsRow base _ 1 _ (G.Nl.take G.kept).length _;rw [i];exact ho) (fun g e=>.inl (by rw [f];cases A<;>simp [Value.ownBlock] at e ⊢;exact e)) (fun _=>rfl) (fun j hj hn=>by rcases hj with rfl|rfl|rfl|rfl|rfl|rfl|rfl|rfl|rfl<;>first |rfl|exact absurd rfl hn) (bJ _ rfl rfl rfl rfl rfl rfl rfl rfl rfl rfl rfl rfl rfl rfl rfl rfl rfl rfl rfl);refine ⟨p1,_,?_,d,c⟩;exact ⟨rfl,rfl,rfl,rfl⟩
theorem mE {A:Option Addr} {l:List Value} (h:w.ownsRow base 67 1 (.slice A n cap) n l) (hk:k<=n):w.ownsRow base 67 1 (.slice A k cap) k (l.take k):=by
 have:=lI h hk;rw [Nat.mul_one] at this;exact this
theorem CS (a:MV base S h G L w) (hk:G.kept<=G.Nl.length) (V:G.Nl.length<=20000) (b5:h.bytes<=300000):
 Calls Tryz.prog 140 #[.pointer (some ⟨L.H,0,none⟩)] w fun e w'=>e=.returned (.tuple #[])/\∃ L',MS L L'/\MV base S { h with state:=0,limit:=max (2*h.bytes) 4096,GY:=0 } { G with Nl:=G.Nl.take G.kept } L' w'/\Keeps w w' S:=by
 have B:=a.li 7 (by simp [eF]);obtain ⟨A,cap,hv⟩:=aF B;have v:L.li 7=.slice A G.Nl.length cap:=hv;have r:G.Nl.length<=cap:=by
  obtain ⟨A',t,a5,a7,-⟩:=a.IC (k:=7) (by simp [eF]);have h9:=v.symm.trans a5;simp only [Value.slice.injEq] at h9;rw [h9.2.2];exact a7
 have J:w.cell? ⟨L.H,7,none⟩=some (.slice A G.Nl.length cap):=by
  have:=a.hp.c 7;rw [this];exact congrArg some v
 have U:w.cell? ⟨L.H,8,none⟩=some (.int .i64 (G.kept:Int)):=a.hp.c 8;have a2:=a.hp.lt;have a0:(L.li 7).ownBlock≠some L.H:=fun e=>ak B a.hp (by decide) e;have HA:=ah a;have HV:=ah v;have j:=ah (show w.ownsRow base 67 1 (.slice A G.Nl.length cap) G.Nl.length (G.Nl.map (eP L.tb 7)) from by rw [<-v];exact B);have b0:=ah a0;have Y:(G.kept:Int)<=cap:=by omega
 have C:(G.kept:Int)<=G.Nl.length:=by omega
 have z:A=none->G.Nl.length=0/\cap=0:=by
  a4 hA
  rcases j.o.2 with ⟨i,T⟩|⟨g,t,R,i,_⟩
  ·rw [hA] at i
   simp only [Value.slice.injEq] at i;exact ⟨T,i.2.2⟩
  ·rw [hA] at i
   simp at i
 clear a B hv v a0;go_enter Tryz.func140,Tryz.ntmps140;go_wp2_with fail
 go_cut [] (fun wc=>Hq (Keeps w wc (fun b=>(L.li 7).ownBlock=some b)/\wc.ownsRow base 67 1 (.slice A G.kept cap) G.kept ((G.Nl.take G.kept).map (eP L.tb 7))))
 case first=>
  cases hA:A with
  |none=>
   obtain ⟨X,W⟩:=z hA;have m:G.kept=0:=by omega
   subst hA;rw [X,W] at J j;rw [m] at U;subst W;have a9:=ah m;clear z X m Y C r hk V;have D:=kN (w:=w.drew) Tryz.underlying70 none 0 0
   go_region_held3 (fun w'=>w'.cell? ⟨L.H,7,none⟩=some (.slice none 0 0)/\w'.cell? ⟨L.H,8,none⟩=some (.int .i64 0)) (go_keep)
    (fail)
   go_wp2_with fail;go_meet;refine ⟨Keeps.of (aC (d w.heap.size w) 1) (f _) _,?_⟩;rw [a9.o];exact ⟨rfl,.inl ⟨rfl,rfl⟩⟩
  |some x=>
   obtain ⟨g,rfl⟩:∃ g,x=⟨g,0,none⟩:=by
    rcases j.o.2 with ⟨i,T⟩|⟨g,t,R,i,_⟩
    ·rw [hA] at i;cases i
    ·rw [hA] at i
     simp only [Value.slice.injEq,Option.some.injEq] at i;exact ⟨g,i.1⟩
   subst hA;clear z;by_cases P:cap=G.kept
   ·have N:G.Nl.length=G.kept:=by omega
    rw [N,P] at J;have a8:=ah (E.intro N P);clear N P r C;have D:=kN (w:=w.drew) Tryz.underlying70 (some ⟨g,0,none⟩) 0 0
    go_region_held3 (fun w'=>w'.cell? ⟨L.H,7,none⟩=some (.slice (some ⟨g,0,none⟩) G.kept G.kept)/\w'.cell? ⟨L.H,8,none⟩=some (.int .i64 (G.kept:Int))) (go_keep)
     (fail)
    go_wp2_with fail;go_meet;refine ⟨Keeps.of (aC (d w.heap.size w) 1) (f _) _,?_⟩;rw [List.map_take];exact mE (aj j.o (Keeps.of (aC (d w.heap.size w) 1) (f _) (fun _=>False)) (fun _ _ x=>x)) hk
   ·by_cases l:G.kept=G.Nl.length
    ·rw [<-l] at J
     have a8:=ah l;clear l r C;have D:=kN (w:=w.drew) Tryz.underlying70 (some ⟨g,G.kept,none⟩) (cap-G.kept) 0
     go_region_held3 (fun w'=>w'.cell? ⟨L.H,7,none⟩=some (.slice (some ⟨g,0,none⟩) G.kept cap)/\w'.cell? ⟨L.H,8,none⟩=some (.int .i64 (G.kept:Int))) (go_keep)
      (fail)
     go_wp2_with fail;go_meet;refine ⟨Keeps.of (aC (d w.heap.size w) 1) (f _) _,?_⟩;rw [List.map_take];exact mE (aj j.o (Keeps.of (aC (d w.heap.size w) 1) (f _) (fun _=>False)) (fun _ _ x=>x)) hk
    ·obtain ⟨w1,D,M,q,a6⟩:=mo (w:=w.drew) (c:=cap-G.kept) Tryz.underlying70 t_ (s:=1) rfl (fun u hu=>by simp [Value.cells] at hu;subst hu;rfl) (aj j.o (Keeps.of (aC (d w.heap.size w) 1) (f _) (fun _=>False)) (fun _ _ x=>x)) (show G.kept<G.Nl.length by omega) 0
     rw [Nat.mul_one] at D M;have a3:L.H≠g:=fun e=>b0.o (by rw [HV.out,e];simp [Value.ownBlock]);have t7:w1.cell? ⟨L.H,7,none⟩=some (.slice (some ⟨g,0,none⟩) G.Nl.length cap):=(aM (a:=⟨L.H,7,none⟩) (q.block _ a2 a3)).trans J;have t8:w1.cell? ⟨L.H,8,none⟩=some (.int .i64 (G.kept:Int)):=(aM (a:=⟨L.H,8,none⟩) (q.block _ a2 a3)).trans U;have H1:=ah (E.intro M q);clear M q a6;have b4:(G.kept:Int)<G.Nl.length:=by omega
     go_region_held3 (fun w'=>w'.cell? ⟨L.H,7,none⟩=some (.slice (some ⟨g,0,none⟩) G.Nl.length cap)/\w'.cell? ⟨L.H,8,none⟩=some (.int .i64 (G.kept:Int))) (go_keep)
      (fail)
     go_wp2_with fail;go_meet;refine ⟨(Keeps.of (aC (d w.heap.size w) 1) (f _) _).trans (H1.o.2.mono (fun b e=>by rw [HV.out,e];simp [Value.ownBlock])),?_⟩;rw [List.map_take];exact H1.o.1
 case rest=>
 rename World=>w1;have p:=hcut;have HK:=ah (HA.o.LB hk HV.out p.out.1 p.out.2);clear hcut p J U z;obtain ⟨y,L2,K,Z,F⟩:=HK.o;obtain ⟨H2,b1,b6,b2,b3⟩:=L2;obtain rfl:H2=L.H:=K.H;have J:w1.cell? ⟨L.H,7,none⟩=some (.slice A G.Nl.length cap):=by
  have:=y.c 7;rw [this];exact congrArg some HV.out
 have U:w1.cell? ⟨L.H,8,none⟩=some (.int .i64 (G.kept:Int)):=y.c 8;have z7:=y.Nq 7;have P2:=ah (E.intro K (E.intro (Z.low (aC (d _ _) 1)) (F.trans (Keeps.of (aC (d _ _) 1) (f _) S))));have a1:=y.lt;clear y K Z F HK;go_wp2_with fail
 go_cut [] (fun wc=>wc=(w1.setCell ⟨L.H,7,none⟩ (.slice A G.kept cap)).drewN 1)
 case first=>
  cases hA:A with
  |none=>
   rcases j.o.2 with ⟨i,T⟩|⟨g,t,R,i,_⟩
   ·rw [hA] at i
    simp only [Value.slice.injEq] at i;have Q:cap=0:=i.2.2;have m:G.kept=0:=by omega
    subst hA;rw [T,Q] at J;rw [m] at U;have HZ:=ah (E.intro Q m);clear i T Q m Y C hk V r
    go_region
    go_wp2_with fail;go_meet;rw [HZ.o.1,HZ.o.2];rfl
   ·rw [hA] at i;simp at i
  |some x=>
   obtain ⟨g,rfl⟩:∃ g,x=⟨g,0,none⟩:=by
    rcases j.o.2 with ⟨i,T⟩|⟨g,t,R,i,_⟩
    ·rw [hA] at i;cases i
    ·rw [hA] at i
     simp only [Value.slice.injEq,Option.some.injEq] at i;exact ⟨g,i.1⟩
   subst hA
   go_region
   go_wp2_with fail;go_meet;rfl
 case rest=>
 obtain rfl:=hcut;generalize (w1.setCell ⟨L.H,7,none⟩ (.slice A G.kept cap)).drewN 1=w2 at *;clear J U z7 a1;have c0:w2.cell? ⟨L.H,0,none⟩=some (.int .i64 (h.state:Int)):=P2.o.2.1.hp.c 0;have z0:=P2.o.2.1.hp.Nq 0;have Q0:=ah (P2.o.2.1.num (h':={ h with state:=0 }) (G':={ G with Nl:=G.Nl.take G.kept }) 0 (.int .i64 0) (by decide) (fun _=>rfl) ⟨rfl,rfl,rfl,rfl,rfl,rfl,rfl⟩ ⟨rfl,rfl⟩ (bJ _ rfl rfl rfl rfl rfl rfl rfl rfl rfl rfl rfl rfl rfl rfl rfl rfl rfl rfl rfl));go_upto_region 3 with (fail)
 generalize w2.setCell ⟨L.H,0,none⟩ (.int .i64 0)=w3 at *;clear c0 z0;have c4:w3.cell? ⟨L.H,4,none⟩=some (.int .i64 (h.bytes:Int)):=Q0.o.1.hp.c 4;have c6:w3.cell? ⟨L.H,6,none⟩=some (.int .i64 (h.limit:Int)):=Q0.o.1.hp.c 6;have z6:=Q0.o.1.hp.Nq 6;have Q1:=ah (Q0.o.1.num (h':={ h with state:=0,limit:=max (2*h.bytes) 4096 }) (G':={ G with Nl:=G.Nl.take G.kept }) 6 (.int .i64 ((max (2*h.bytes) 4096:Nat):Int)) (by decide) (fun _=>rfl) ⟨rfl,rfl,rfl,rfl,rfl,rfl,rfl⟩ ⟨rfl,rfl⟩ (bJ _ rfl rfl rfl rfl rfl rfl rfl rfl rfl rfl rfl rfl rfl rfl rfl rfl rfl rfl rfl));go_upto_region 4 with (fail)
 rw [show (if 2*(h.bytes:Int)<4096 then (4096:Int) else 2*(h.bytes:Int))=((max (2*h.bytes) 4096:Nat):Int) by split<;>omega];generalize w3.setCell ⟨L.H,6,none⟩ (.int .i64 ((max (2*h.bytes) 4096:Nat):Int))=w4 at *;clear c4 c6 z6;have c5:w4.cell? ⟨L.H,5,none⟩=some (.int .i64 (h.GY:Int)):=Q1.o.1.hp.c 5;have z5:=Q1.o.1.hp.Nq 5;have Q2:=ah (Q1.o.1.num (h':={ h with state:=0,limit:=max (2*h.bytes) 4096,GY:=0 }) (G':={ G with Nl:=G.Nl.take G.kept }) 5 (.int .i64 0) (by decide) (fun _=>rfl) ⟨rfl,rfl,rfl,rfl,rfl,rfl,rfl⟩ ⟨rfl,rfl⟩ (bJ _ rfl rfl rfl rfl rfl rfl rfl rfl rfl rfl rfl rfl rfl rfl rfl rfl rfl rfl rfl));go_wp2;go_end0;exact ⟨rfl,_,P2.o.1,Q2.o.1,((P2.o.2.2.trans Q0.o.2).trans Q1.o.2).trans Q2.o.2⟩
end
section
variable {G:Gh} {c c' k n:Nat} {g h:Hp}
structure Mk (G:Gh) (h:Hp) (c:Nat):Prop where
 ks:G.kept<=G.Hl
 sl:G.Hl<=G.Nl.length
 ku:(G.Nl.take G.kept).Pairwise (·< ·)
 kl:∀ n,n∈G.Nl.take G.kept↔h.Lv n/\n<c
 du:(G.Nl.drop G.Hl).Pairwise (·< ·)
 dl:∀ n,n∈G.Nl.drop G.Hl↔h.Lv n/\c<=n
theorem Mk.move (x:Mk G h c) (b:c<=c') (a:∀ m,c<=m->m<c'->¬ h.Lv m):Mk G h c':=by
 refine ⟨x.ks,x.sl,x.ku,fun n=>(x.kl n).trans ⟨fun e=>⟨e.1,by omega⟩,fun e=>⟨e.1,?_⟩⟩,x.du,fun n=>(x.dl n).trans ⟨fun e=>⟨e.1,?_⟩,fun e=>⟨e.1,by omega⟩⟩⟩
 ·rcases Nat.lt_or_ge n c with d|d
  ·exact d
  ·exact absurd e.1 (a n d e.2)
 ·rcases Nat.lt_or_ge n c' with d|d
  ·exact absurd e.1 (a n e.2 d)
  ·exact d
theorem Mk.last (x:Mk G h c) (hd:G.Hl=G.Nl.length) (f:c<=h.objs.length):h.skip c=h.objs.length/\Ng { G with Nl:=G.Nl.take G.kept } h:=by
 have a:∀ m,c<=m->¬ h.Lv m:=by
  intro m hm b;have:=(x.dl m).2 ⟨b,hm⟩;rw [hd,List.drop_length] at this;cases this
 refine ⟨?_,x.ku,fun n=>(x.kl n).trans ⟨fun e=>e.1,fun e=>⟨e,?_⟩⟩⟩
 ·have l:=h.Jg c f
  have j:=h.IY c;have i:=h.I_ c;rcases Nat.lt_or_ge (h.skip c) h.objs.length with d|d
  ·cases ho:h.ob (h.skip c) with
   |none=>exact absurd ⟨d,ho⟩ i
   |some o=>exact absurd ⟨o,ho⟩ (a _ j)
  ·omega
 ·rcases Nat.lt_or_ge n c with d|d
  ·exact d
  ·exact absurd e (a n d)
theorem Mk.next (x:Mk G h c) (l:G.Nl[G.Hl]?=some n):c<=n/\h.Lv n/\h.skip c=n/\Mk G h n:=by
 have b:n∈G.Nl.drop G.Hl:=by
  rw [List.mem_iff_getElem?];exact ⟨0,by rw [List.getElem?_drop];simpa using l⟩
 obtain ⟨p,f⟩:=(x.dl n).1 b;have a:∀ m,c<=m->m<n->¬ h.Lv m:=by
  intro m i q t;have hm:=(x.dl m).2 ⟨t,i⟩;obtain ⟨j,s,e⟩:=List.getElem_of_mem hm;have u:0<(G.Nl.drop G.Hl).length:=by omega
  have v:(G.Nl.drop G.Hl)[0]=n:=by
   have:(G.Nl.drop G.Hl)[0]?=some n:=by rw [List.getElem?_drop];simpa using l
   exact (aJ.1 this).2
  rcases Nat.eq_zero_or_pos j with d|d
  ·subst d;omega
  ·have:=List.pairwise_iff_getElem.1 x.du 0 j u s d
   omega
 refine ⟨f,p,?_,x.move f a⟩;obtain ⟨o,ho⟩:=p;have r:=Hp.Hy ho;have i:=h.IY c;have q:=h.I_ c;rcases Nat.lt_trichotomy (h.skip c) n with d|d|d
 ·cases hx:h.ob (h.skip c) with
  |none=>exact absurd ⟨by omega,hx⟩ q
  |some o'=>exact absurd ⟨o',hx⟩ (a _ i d)
 ·exact d
 ·have:=h.skip_none c n f d
  rw [ho] at this;cases this
theorem pY {l:List Nat} (h:l[k]?=some n):l.drop k=n::l.drop (k+1):=by
 have hk:=(aJ.1 h).1;rw [List.drop_eq_getElem_cons hk,(aJ.1 h).2]
theorem Mk.free (x:Mk G h n) (i:G.Nl[G.Hl]?=some n) (a:∀ m,g.Lv m↔h.Lv m/\m≠n):Mk { G with Hl:=G.Hl+1 } g (n+1):=by
 have hk:=(aJ.1 i).1;have hd:=pY i;have b:=x.du;rw [hd] at b;refine ⟨by have:=x.ks;show G.kept<=G.Hl+1;omega,hk,x.ku,fun m=>(x.kl m).trans ⟨fun e=>⟨(a m).2 ⟨e.1,by omega⟩,by omega⟩,fun e=>⟨((a m).1 e.1).1,?_⟩⟩,(List.pairwise_cons.1 b).2,fun m=>⟨fun e=>?_,fun e=>?_⟩⟩
 ·have:=((a m).1 e.1).2
  omega
 ·have f:=(x.dl m).1 (by rw [hd];exact List.mem_cons_of_mem _ e)
  have d:=(List.pairwise_cons.1 b).1 m e;exact ⟨(a m).2 ⟨f.1,by omega⟩,d⟩
 ·have f:=(a m).1 e.1
  have d:=(x.dl m).2 ⟨f.1,by omega⟩;rw [hd] at d;rcases eT.1 d with c|c
  ·exact absurd c f.2
  ·exact c
theorem Mk.keep (x:Mk G h n) (q:G.Nl[G.Hl]?=some n) (i:∀ m,g.Lv m↔h.Lv m):Mk { G with Hl:=G.Hl+1,kept:=G.kept+1,Nl:=G.Nl.set G.kept n } g (n+1):=by
 have hk:=(aJ.1 q).1;have r:=x.ks;have hd:=pY q;have f:=x.du;rw [hd] at f;have o:h.Lv n:=((x.dl n).1 (by rw [hd];simp)).1;have p:(G.Nl.set G.kept n).take (G.kept+1)=G.Nl.take G.kept++[n]:=by
  rw [List.take_set,List.take_succ_eq_append_getElem (by omega),List.set_append_right _ _ (by rw [bX];omega)];rw [show G.kept-(G.Nl.take G.kept).length=0 by rw [bX];omega];rfl
 have j:(G.Nl.set G.kept n).drop (G.Hl+1)=G.Nl.drop (G.Hl+1):=by
  rw [List.drop_set_of_lt (by omega)]
 refine ⟨by show G.kept+1<=G.Hl+1;omega,by show G.Hl+1<=(G.Nl.set G.kept n).length;rw [bN];omega,?_,fun m=>?_,?_,fun m=>?_⟩
 ·show ((G.Nl.set G.kept n).take (G.kept+1)).Pairwise (·< ·)
  rw [p,List.pairwise_append];refine ⟨x.ku,List.pairwise_singleton _ _,fun a ha b hb=>?_⟩;simp at hb;subst hb;exact ((x.kl a).1 ha).2
 ·show m∈(G.Nl.set G.kept n).take (G.kept+1)↔_
  rw [p,aY,x.kl,i];simp only [List.mem_singleton];constructor
  ·rintro (e|e)
   ·exact ⟨e.1,by omega⟩
   ·subst e;exact ⟨o,by omega⟩
  ·intro e
   rcases Nat.lt_or_ge m n with d|d
   ·exact .inl ⟨e.1,d⟩
   ·exact .inr (by omega)
 ·show ((G.Nl.set G.kept n).drop (G.Hl+1)).Pairwise (·< ·)
  rw [j];exact (List.pairwise_cons.1 f).2
 ·show m∈(G.Nl.set G.kept n).drop (G.Hl+1)↔_
  rw [j,i];constructor
  ·intro e
   have s:=(x.dl m).1 (by rw [hd];exact List.mem_cons_of_mem _ e);have l:=(List.pairwise_cons.1 f).1 m e;exact ⟨s.1,l⟩
  ·intro e
   have l:=(x.dl m).2 ⟨e.1,by omega⟩;rw [hd] at l;rcases eT.1 l with c|c
   ·omega
   ·exact c
structure Nc (h q:Hp) (G:Gh) (c:Nat):Prop where
 e:h.G_=Hp.close { q with G5:=q.skip c }
 x:Mk G q c
 l:c<=q.objs.length
 s:q.state=2
theorem Nc.fin (d:h.state=2) (a:h.G5<=h.objs.length) (x:Mk G h h.G5) (hd:G.Hl=G.Nl.length):Nc h h G h.G5:=by
 obtain ⟨b,j⟩:=x.last hd a;refine ⟨?_,x,a,d⟩;have i:Hp.G6 h.skipped=h.skipped:=by
  unfold Hp.G6;have:h.skipped.ob h.skipped.G5=.none:=by
   show h.ob (h.skip h.G5)=.none;rw [b];unfold Hp.ob;rw [fD (au _)];rfl
  rw [this]
 have f:Hp.skipped h.skipped=h.skipped:=by
  have e:Hp.skip h.skipped (h.skip h.G5)=h.skip h.G5:=by
   have o:=Hp.IY h.skipped (h.skip h.G5);have m:=Hp.Jg h.skipped (h.skip h.G5) (by rw [b];exact au _);have l:h.skipped.objs.length=h.objs.length:=rfl;omega
  show { h with G5:=Hp.skip h.skipped (h.skip h.G5) }=_;rw [e];rfl
 unfold Hp.G_;rw [i,f];rfl
theorem Nc.freed {h:Hp} {G:Gh} (e:h.state=2) (x:Mk G h h.G5) {n:Nat} {o:Ob} (b:G.Nl[G.Hl]?=some n) (ho:h.ob n=some o) (d:(gu o.col&&o.col !=h.white)=true):
 Nc h { h with objs:=h.objs.set n none,live:=h.live-1,bytes:=h.bytes-o.size,freed:=h.freed++[n],G5:=n+1 } { G with Hl:=G.Hl+1 } (n+1):=by
 obtain ⟨l,j,i,f⟩:=x.next b;have a:=Hp.Hy ho;refine ⟨?_,f.free b (fun m=>?_),by show n+1<=(h.objs.set n none).length;rw [bN];omega,e⟩
 ·unfold Hp.G_
  have:h.skipped={ h with G5:=n }:=by unfold Hp.skipped;rw [i]
  rw [this];unfold Hp.G6;rw [show Hp.ob { h with G5:=n } (Hp.G5 { h with G5:=n })=some o from ho];simp only;rw [if_pos d];rfl
 ·show (∃ o',(Hp.ob _ m)=some o')↔_
  unfold Hp.Lv Hp.ob;simp only [bY];by_cases c:n=m
  ·subst c
   simp [a]
  ·simp [c,Ne.symm c]
theorem Nc.kept {h:Hp} {G:Gh} (d:h.state=2) (x:Mk G h h.G5) {n:Nat} {o:Ob} (a:G.Nl[G.Hl]?=some n) (ho:h.ob n=some o) (b:(gu o.col&&o.col !=h.white)=false):
 Nc h { h.upd n (fun o=>{ o with col:=h.white }) with G5:=n+1 } { G with Hl:=G.Hl+1,kept:=G.kept+1,Nl:=G.Nl.set G.kept n } (n+1):=by
 obtain ⟨l,j,i,f⟩:=x.next a;have e:=Hp.Hy ho;refine ⟨?_,f.keep a (fun m=>?_),by show n+1<=(h.upd n (fun o=>{ o with col:=h.white })).objs.length;rw [Hp.Hu];omega,d⟩
 ·unfold Hp.G_
  have:h.skipped={ h with G5:=n }:=by unfold Hp.skipped;rw [i]
  rw [this];unfold Hp.G6;rw [show Hp.ob { h with G5:=n } (Hp.G5 { h with G5:=n })=some o from ho];simp only;rw [if_neg (by rw [b];decide)];rfl
 ·show (∃ o',(h.upd n (fun o=>{ o with col:=h.white })).ob m=some o')↔_
  unfold Hp.Lv;rw [Hp.Hf];split
  ·cases h.ob m<;>simp
  ·rfl
end
end Go.Proofs.YtbpcdfbmnklcjaaGreatDoor
