import Derived.Test.YtbpcdfbmnklcjaaGreatDoorKHZQ
namespace Go.Proofs.YtbpcdfbmnklcjaaGreatDoor
open Go Go.RowKit
set_option maxHeartbeats 6400000
set_option maxRecDepth 100000
set_option linter.unusedVariables false
variable {L:PM} {R base hand k:Nat} {S:Nat->Prop} {h:Hp} {root:List Bool} {w:World}
attribute [local go_sem] bW
def GN (base:Nat) (S:Nat->Prop) (H R hand:Nat) (w:World) (h:Hp) (e:Ending) (w':World):Prop:=
 (h.pending=[]->e=.returned (.tuple #[.int .i64 0,.int .i64 4])/\w'=w)/\
 ∀ (gs:List Nat) (n:Nat),h.pending=gs++[n]->e=.returned (.tuple #[.int .i64 (n:Int),.int .i64 0])/\∃ L',L'.H=H/\PW base S { h with pending:=gs } L' R n w'/\Keeps w w' (fun b=>S b∨b=R)
theorem xZ (x:PW base S h L R hand w) (g:Gd h):Calls Tryz.prog 55 #[.pointer (some ⟨R,0,none⟩)] w (GN base S L.H R hand w h):=by
 obtain ⟨N,M,G,a,r⟩:=id x.p;have r0:w.cell? ⟨R,0,none⟩=some (.pointer (some ⟨L.H,0,none⟩)):=x.r.c 0;rcases List.eq_nil_or_concat h.pending with hp|⟨v,n,hp⟩
 ·obtain ⟨A,d,z,-⟩:=a.II (k:=16) (by simp [eF])
  rw [show eU (h.wk N M) G 16=[] from hp] at z;have f:w.cell? ⟨L.H,16,none⟩=some (.slice A 0 d):=by
   rw [a.hp.c 16];exact congrArg some z
  have F:=ah (fB w L.H 16 A 0 d f);rw [show (((0:Nat):Int)==0)=true from rfl] at F;have l:=ah hp;clear a r x z hp;go_enter Tryz.func55,Tryz.ntmps55;go_wp2_with fail;refine F.o.mono ?_;rintro e2 X ⟨rfl,rfl⟩;go_wp2
  ((try simp only [Exit.inBlock,Exit.then]);refine bodyPost_ret (results_tmp2 rfl _ _ _) rfl ?_)
  exact ⟨fun _=>⟨rfl,rfl⟩,fun v n c=>by rw [l.o] at c;simp at c⟩
 ·rw [List.concat_eq_append] at hp
  obtain ⟨J,d,z,D,C,m,u⟩:=a.pop (k:=16) (by simp [kI]) (show eU (h.wk N M) G 16=v++[n] from hp);have P:=g.s.fp;rw [hp,bI,List.length_singleton] at P;have f:w.cell? ⟨L.H,16,none⟩=some (.slice (some ⟨J,0,none⟩) (v.length+1) d):=by
   rw [a.hp.c 16];exact congrArg some z
  have F:=ah (fB w L.H 16 (some ⟨J,0,none⟩) (v.length+1) d f);rw [show (((v.length+1:Nat):Int)==0)=false by simp;omega] at F;have HT:=ah (kg w L.H 16 J v.length d (L.tb n) f (a.hp.ME 16) C (by omega) D);obtain ⟨o,ho⟩:=Hp.IG (g.i.ls n (.inr (.inl (by rw [hp];simp))));have a1:R≠L.H:=fun c=>x.r.apart a.hp (by decide) c;have y:=ah (x.r.keep u x.n);have T:=ah m;have U:=ah u;have l:=ah hp;have HR:=ah r;have V:=ah ho;have E:=ah x.n;have Q:Hq (n≠0):=ah (fun c=>by rw [c,g.i.zero] at ho;cases ho);clear a r z hp m u C x g f ho;go_enter Tryz.func55,Tryz.ntmps55;go_wp2_with fail;refine F.o.mono ?_;rintro e2 X ⟨rfl,rfl⟩;go_wp2_with fail;refine HT.o.mono ?_;rintro e3 w3 ⟨rfl,rfl⟩;generalize X.setCell ⟨L.H,16,none⟩ (.slice (some ⟨J,0,none⟩) v.length d)=w4 at *;have K:=y.o.c 1;have z1:=y.o.ME 1;have q:=ah (y.o.set (j:=1) (by omega) (.iface 127 (.pointer (some ⟨L.tb n,0,none⟩))));have Z:Hq (Keeps w4 (w4.setCell ⟨R,1,none⟩ (.iface 127 (.pointer (some ⟨L.tb n,0,none⟩)))) (fun b=>b=R)):=ah (Keeps.setCell (S:=fun b=>b=R) (Keeps.refl _ _) rfl _);have t:=ah (T.o.out (Z.o.mono (fun b e=>by rw [e];exact E.o)));clear r0;obtain ⟨pv,B⟩:∃ pv,ES L.H (aK L.tb (cO hand)) 1=pv:=⟨_,rfl⟩
  rw [B] at K;clear B;go_upto_region 5 with (fail)
  generalize w4.setCell ⟨R,1,none⟩ (.iface 127 (.pointer (some ⟨L.tb n,0,none⟩)))=w5 at *;clear K z1;have K:w5.cell? ⟨R,1,none⟩=some (.iface 127 (.pointer (some ⟨L.tb n,0,none⟩))):=q.o.c 1;have t1:w5.cell? ⟨L.tb n,1,none⟩=some (.int .i64 (n:Int)):=(t.o.ob n o V.o).c 1;have a0:=iO (L.tb n);have W:=ah (gV w5 (L.tb n));go_wp2_with fail;refine W.o.mono ?_;rintro e6 w6 ⟨rfl,rfl⟩;go_wp2
  ((try simp only [Exit.inBlock,Exit.then]);refine bodyPost_ret (results_tmp2 rfl _ _ _) rfl ?_)
  refine ⟨fun c=>by rw [l.o] at c;simp at c,fun gs' n' c=>?_⟩;rw [l.o] at c;obtain ⟨rfl,Y⟩:=List.append_inj' c rfl;simp at Y;subst Y;refine ⟨rfl,_,?_,⟨⟨N,M,G,t.o,?_⟩,?_,E.o⟩,(U.o.mono (fun b e=>Or.inl e)).trans (Z.o.mono (fun b e=>Or.inr e))⟩
  ·rfl
  ·exact HR.o.same rfl rfl rfl rfl rfl rfl (fun _=>Iff.rfl)
  ·refine q.o.congr (fun j hj=>?_)
   have:j=0∨j=1:=by omega
   rcases this with rfl|rfl
   ·rfl
   ·show _=aK L.tb (cO n)
    rw [gH Q.out];rfl
theorem yB (x:PW base S h L R hand w) (ok:Jo k h root hand) (hk:k+1<=5000) (hf:h.freed=[]) (b:MF h) (m:Nat) (hm:m<=3):
 Calls Tryz.prog 48 #[.pointer (some ⟨R,0,none⟩),.int .i64 (m:Int)] w (jk base S L.H w (.tuple #[.int .i64 (h.objs.length:Int),.int .i64 0]) ((h.make m).Hf (dR 0 (root++[true]))).I6):=by
 have HW:=ah (gI w (m:Int) 0 3);rw [show (decide ((0:Int)<=(m:Int))&&decide ((m:Int)<=3))=true by simp;omega] at HW;have r0:w.cell? ⟨R,0,none⟩=some (.pointer (some ⟨L.H,0,none⟩)):=x.r.c 0;have HN:=ah (Ag x.p ok.g b m);obtain ⟨g1,b1⟩:=ok.g.make ok.b hk hf hm;have a0:(root++[true]).length=root.length+1:=by simp
 have a8:(h.make m).objs.length=h.objs.length+1:=by show (h.objs++[_]).length=_;simp
 obtain ⟨g2,b2⟩:=g1.Hf b1 hk hf (iB ok.g.i hm ok.l ok.o) (by
  have h8:=gU (root++[true]) 0;rw [a0,ok.l] at h8;have h9:=b1.len;omega)
 have F:dR 0 (root++[true])=h.roots++[h.objs.length]:=by rw [jQ,ok.o,ok.l];simp
 have d1:=ok.g.s.rt;have b7:=ah F;have c5:=ah g2;have b6:=ah x.r;have a4:=ah x.n;have e0:=ah (g2.J3);have c2:Hq (∃ o,((h.make m).Hf (dR 0 (root++[true]))).I6.ob h.objs.length=some o):=ah (by
  have b0:h.objs.length∈((h.make m).Hf (dR 0 (root++[true]))).I6.roots:=by
   rw [g2.J3.rt];show h.objs.length∈dR 0 (root++[true]);rw [F];simp
  exact Hp.IG (g2.I6.i.ls _ (.inl b0)))
 clear x ok b g1 b1 g2 b2 F hm a8 a0;go_enter Tryz.func48,Tryz.ntmps48;go_wp2_with fail;refine HW.o.mono ?_;rintro e1 w1 ⟨rfl,rfl⟩;go_wp2_with fail;refine HN.o.mono ?_;rintro e2 D ⟨L2,rfl,b3,Y,N⟩;have j:=ah (b6.o.keep N a4.o);have d9:=ah Y;have c4:=ah N;obtain ⟨H2,d,d6,c9,U⟩:=L2;obtain rfl:H2=L.H:=b3;obtain ⟨px,py,G,a,r⟩:=Y;have J:=a.li 10 (by simp [eF]);obtain ⟨A,f,hv⟩:=aF J;have z:U 10=.slice A h.roots.length f:=hv;have Q:Hq (D.ownsRow base 67 1 (.slice A h.roots.length f) h.roots.length (h.roots.map (eP d 10))):=ah (by
  rw [<-z];exact J)
 have HA:=ah a;have HR:=ah r;have HV:=ah z;have b5:D.cell? ⟨L.H,10,none⟩=some (.slice A h.roots.length f):=by
  rw [a.hp.c 10];exact congrArg some z
 have a5:=a.hp.ME 10;clear r0;have r0:D.cell? ⟨R,0,none⟩=some (.pointer (some ⟨L.H,0,none⟩)):=j.o.c 0;have d2:=j.o.lt;have d3:=a.hp.lt;have b4:R≠L.H:=fun c=>j.o.apart a.hp (by decide) c;have d4:L.H≠R:=fun c=>b4 c.symm;have a2:=a.bs;have c6:=ah a2;clear a r hv z J N a2;go_wp2_with fail
 go_cut [] (fun wc=>Hq (∃ v t q,wc=(q.setCell ⟨L.H,10,none⟩ (.slice v (h.roots.length+1) t))/\q.ownsRow base 67 1 (.slice v (h.roots.length+1) t) (h.roots.length+1) (h.roots.map (eP d 10)++[eP d 10 h.objs.length])/\Keeps D q (fun c=>(Value.slice A h.roots.length f).ownBlock=some c)/\∀ g,(Value.slice v (h.roots.length+1) t).ownBlock=some g->(Value.slice A h.roots.length f).ownBlock=some g∨D.heap.size<=g))
 case first=>
  go_region_law (
   refine qW (wr:=D) (.tmp 26) (.tmp 29) 70 67 1 16 _ rfl Tryz.underlying70 gY rfl (by decide) base (.slice A h.roots.length f) h.roots.length (h.roots.map (eP d 10)) [.iface 127 (.pointer (some ⟨d h.objs.length,0,none⟩))] Q.o rfl rfl rfl (fun u hu=>by simp at hu;subst hu;rfl) (by omega) (by decide) c6.o ?_;intro v' q E y V;obtain ⟨v,t,a6⟩:=aF E;subst a6;have W:=j.o.keep y (fun e=>ak Q.o j.o (by decide) e);have P:=HA.o.hp.keep y (fun e=>ak Q.o HA.o.hp (by decide) e);have d8:q.cell? ⟨R,0,none⟩=some (.pointer (some ⟨L.H,0,none⟩)):=W.c 0;have d7:q.cell? ⟨L.H,10,none⟩=some (.slice A h.roots.length f):=by
    rw [P.c 10];exact congrArg some HV.out
   have c7:=P.ME 10;have H9:=ah (And.intro E (And.intro y V));clear E y V W P)
  all_goals
   go_wp2_with fail;go_meet;exact ⟨v,t,q,rfl,H9.o.1,H9.o.2.1,H9.o.2.2⟩
 case rest=>
 rename World=>w5;obtain ⟨v,t,q,rfl,h1,h2,h3⟩:=hcut.out;have C:xV (xQ 10) base L.H 10 (U 10) ((eU ((h.make m).wk px py) G 10).map (eP d 10)) (eP d 10 h.objs.length) D (.returned (.tuple #[])) (q.setCell ⟨L.H,10,none⟩ (.slice v (h.roots.length+1) t)):=by
  have e1:((eU ((h.make m).wk px py) G 10).map (eP d 10)).length=h.roots.length:=by rw [bY];rfl
  refine ⟨rfl,v,t,q,by rw [e1],?_,by rw [HV.out];exact h2,by rw [e1,HV.out];exact h3⟩;rw [e1];exact h1
 obtain ⟨-,L5,B,a3,M⟩:=HA.o.add (k:=10) (by simp [kI]) C;have c1:Hq (PS base S ((h.make m).Hf (dR 0 (root++[true]))) L5 (q.setCell ⟨L.H,10,none⟩ (.slice v (h.roots.length+1) t))):=ah (by
  rw [b7.o];exact ⟨px,py,G,a3,HR.o.same rfl rfl rfl rfl rfl rfl (fun _=>Iff.rfl)⟩)
 have c3:=ah M;have b8:=ah (j.o.keep M a4.o);have e3:=ah B;generalize q.setCell ⟨L.H,10,none⟩ (.slice v (h.roots.length+1) t)=w6 at *;clear C a3 M h1 h2 h3 hcut r0 b5 a5;obtain ⟨H5,T,d5,c8,d0⟩:=L5;obtain rfl:H5=L.H:=B.H;obtain rfl:T=d:=B.tb;clear B;have r0:w6.cell? ⟨R,0,none⟩=some (.pointer (some ⟨L.H,0,none⟩)):=b8.o.c 0;have b9:=ah (xG c1.o c5.o);go_wp2_with fail;refine b9.o.mono ?_;rintro e7 w7 ⟨rfl,L7,K,X,a1⟩;have c0:=ah X;obtain ⟨qx,qy,G7,a7,r7⟩:=X;obtain ⟨oN,Z⟩:=c2.o;have t1:w7.cell? ⟨T h.objs.length,1,none⟩=some (.int .i64 (h.objs.length:Int)):=by
  have:=(a7.ob h.objs.length oN Z).c 1;rw [K.tb] at this;exact this
 have H7:=ah (And.intro K a1);clear a7 r7 K a1 Z r0;go_wp2
 ((try simp only [Exit.inBlock,Exit.then]);refine bodyPost_ret (results_tmp2 rfl _ _ _) rfl ?_)
 exact ⟨rfl,L7,H7.o.1.H,c0.o,(c4.o.trans c3.o).trans H7.o.2⟩
end Go.Proofs.YtbpcdfbmnklcjaaGreatDoor
