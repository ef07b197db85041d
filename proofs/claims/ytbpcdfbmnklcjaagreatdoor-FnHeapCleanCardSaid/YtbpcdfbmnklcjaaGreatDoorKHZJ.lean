import Derived.Test.YtbpcdfbmnklcjaaGreatDoorKHZF
import Derived.Test.YtbpcdfbmnklcjaaGreatDoorKHST
namespace Go.Proofs.YtbpcdfbmnklcjaaGreatDoor
open Go Go.RowKit
set_option maxHeartbeats 6400000
set_option maxRecDepth 100000
set_option linter.unusedVariables false
section
variable {G:Gh} {L:PM} {S:Nat->Prop} {base i n t:Nat} {es es':List En} {ev ev' mv mv':Value} {h:Hp} {o:Ob} {sz:Int} {tb:Nat->Nat} {w w':World}
attribute [local go_sem] bW
theorem M4.low (x:M4 base tb t n o sz es ev mv w) (hb:Below w.heap.size w w'):M4 base tb t n o sz es ev mv w':=
 have k:=Keeps.of hb (au _) (fun _=>False)
 ⟨x.r.keep k id,aj x.e k (fun _ _ e=>e),x.m.keep k (fun _ _ e=>e)⟩
theorem Hd.next {v:HV} (h:Hd tb w v) (x:M4 base tb t n o sz es ev mv w) (g:M4 base tb t n o sz es' ev' mv' w') (k:Keeps w w' (fun c=>c=t∨ev.ownBlock=some c∨dx mv=some c)):Hd tb w' v:=by
 intro m hm;obtain ⟨f,a,d⟩:=h m hm;by_cases c:tb m=t
 ·have l:=x.r.c 1
  have b:=a.c 1;rw [c,l] at b;refine ⟨_,by rw [c];exact g.r,?_⟩;have j:tV o n sz es ev mv 1=f 1:=by simpa using b
  rw [<-d,<-j];rfl
 ·refine ⟨f,a.keep k (fun e=>?_),d⟩
  rcases e with e|e|e
  ·exact c e
  ·exact ak x.e a (by decide) e
  ·exact x.m.apart a e
theorem M0.Nc (a:M0 base S h G L w) (ho:h.ob n=some o):M4 base L.tb (L.tb n) n o ((40+40*o.es.length:Nat):Int) o.es (L.es n) (L.mp n) w:=
 ⟨(a.ob n o ho).congr (dz _ rfl rfl rfl rfl rfl rfl rfl rfl rfl rfl rfl rfl rfl),a.en n o ho,a.mp n o ho⟩
theorem M0.hd (a:M0 base S h G L w) {v:HV} (b:iP h v):Hd L.tb w v:=by
 intro m hm;obtain ⟨o,ho⟩:=b m hm;exact ⟨_,a.ob m o ho,rfl⟩
theorem vQ {k:HV} (h:kG es k=some i):∃ e,es[i]?=some e/\e.1=k:=by
 unfold kG at h;rw [List.findIdx?_eq_some_iff_getElem] at h;obtain ⟨b,a,_⟩:=h;refine ⟨es[i],aN b,?_⟩;rw [iG] at a
 simpa using a
theorem Eu {k:HV} (h:kG es k=none):∀ e∈es,e.1≠k:=by
 intro e a c;unfold kG at h;rw [List.findIdx?_eq_none_iff] at h;have:=h e a;rw [iG,c] at this;simp at this
theorem CQ (x:M4 base tb t n o sz es ev mv w) {k v:HV} (hk:oW k) (hs:k.isSome=true) (hd:Hd tb w k) (hf:kG es k=none) (Y:v.isNone=true):
 Calls Tryz.prog 104 #[.pointer (some ⟨t,0,none⟩),.agg #[.int .i64 (vk k),.int .i64 (vi k),.int .u64 0,.string ByteArray.empty,aK tb k],.agg #[.int .i64 (vk v),.int .i64 (vi v),.int .u64 0,.string ByteArray.empty,aK tb v]] w fun e' w'=>e'=.returned (.int .i64 0)/\Below w.heap.size w w':=by
 have HX:=ah ((d_ w tb k).keep (Keeps.of (aU (w.alloc (.cells (gG tb k) 143)) (.cells (gG tb v) 143)) (au _) (fun _=>False)) (fun x=>x));have P:=ah (d_ (w.alloc (.cells (gG tb k) 143)) tb v);have HB:=ah ((aU w (.cells (gG tb k) 143)).trans ((aU (w.alloc (.cells (gG tb k) 143)) (.cells (gG tb v) 143)).mono (aU w (.cells (gG tb k) 143)).size));have Z:(w.alloc (.cells (gG tb k) 143)).heap.size=w.heap.size+1:=aG _;rw [Z] at P;clear Z;have E:=x.r.lt;have HT:=ah x;have HD:=ah hd;have a1:t≠w.heap.size:=by omega
 have a0:t≠w.heap.size+1:=by omega
 have H:=ah (fun (w':World) (hb:Below w.heap.size w w')=>qP (x.low hb).m hk hs);rw [hf] at H;have T:=ah (fun (w':World) (hb:Below w.heap.size w w')=>(hd.low hb).c);clear x hd;go_enter Tryz.func104,Tryz.ntmps104;go_upto_region 1 with (fail)
 change Code.wp _ _ _ _ ((w.alloc (.cells (gG tb k) 143)).alloc (.cells (gG tb v) 143));generalize (w.alloc (.cells (gG tb k) 143)).alloc (.cells (gG tb v) 143)=w2 at *;generalize hX:w.heap.size=X at *;have Q:=ah hX;clear hX;have W:=ah (kV w2 tb k);obtain ⟨x0,x1,C,A,z⟩:NC w2 X tb k:=HX.o.c5;go_wp2_with fail;refine W.o.mono ?_;rintro e3 w3 ⟨rfl,s⟩;have K3:=ah (Keeps.of s (au _) (fun _=>False));have f:=ah (HX.o.keep K3.o id);have N:=ah (P.o.keep K3.o id);have V:=ah (HB.o.trans (s.mono (dh (Nat.lt_trans (Nat.lt_succ_self X) P.o.lt))));clear s x0 x1 C A z;obtain ⟨x0,x1,C,A,z⟩:NC w3 X tb k:=f.o.c5;have z0:=f.o.ME 0;have z1:=f.o.ME 1;have z2:=f.o.ME 2;have z3:=f.o.ME 3;have z4:=f.o.ME 4;have u:=ah (rO f.o tb k);go_upto_region 2 with (fail)
 generalize ((((w3.setCell ⟨X,0,none⟩ (.int .i64 (vk k))).setCell ⟨X,1,none⟩ (.int .i64 (vi k))).setCell ⟨X,2,none⟩ (.int .u64 0)).setCell ⟨X,3,none⟩ (.string ByteArray.empty)).setCell ⟨X,4,none⟩ (aK tb k)=w4 at *;have M:=ah (N.o.keep u.o.2 (Nat.succ_ne_self X));have y:=ah (V.o.trans (u.o.2.below (B:=X) (dh f.o.lt) (fun b e=>aO e.symm)));clear x0 x1 C A z z0 z1 z2 z3 z4;have j:=ah u.o.1;obtain ⟨x0,x1,C,A,z⟩:NC w4 X tb k:=j.o.c5;have D:t<w4.heap.size:=Nat.lt_trans E j.o.lt;have d:=j.o.lt;have c8:w4.cell? ⟨t,8,none⟩=some mv:=(y.o.cell (p:=⟨t,8,none⟩) E).trans (HT.o.r.c 8);go_wp2_with fail
 go_region_held3 (fun w'=>w'.cell? ⟨t,8,none⟩=some mv/\w'.cell? ⟨X,0,none⟩=some (.int .i64 (vk k))/\w'.cell? ⟨X,1,none⟩=some (.int .i64 (vi k))/\w'.cell? ⟨X,2,none⟩=some (.int .u64 0)/\w'.cell? ⟨X,3,none⟩=some (.string ByteArray.empty)/\w'.cell? ⟨X,4,none⟩=some (aK tb k)) (go_keep)
  (first
    |(refine iD (.tmp 16) rfl tb k rfl (T.o _ (y.o.trans (aC (aT _ _) _))) ?_
      intro l q;have a:Below w4.heap.size w4 l:=(aC (aT w4.heap.size w4) _).trans q;have J:=ah (y.o.trans (a.mono (dh d)));have R:=ah (j.o.keep (Keeps.of a (au _) (fun _=>False)) id);have g:=ah (M.o.keep (Keeps.of a (au _) (fun _=>False)) id);have K:=H.o l J.o;have t1:=(a.cell (p:=⟨t,8,none⟩) D).trans c8;have t2:=(a.cell (p:=⟨X,0,none⟩) d).trans x0;have t3:=(a.cell (p:=⟨X,1,none⟩) d).trans x1;have t4:=(a.cell (p:=⟨X,2,none⟩) d).trans C;have t5:=(a.cell (p:=⟨X,3,none⟩) d).trans A;have t6:=(a.cell (p:=⟨X,4,none⟩) d).trans z;clear a q)
    |fail)
 clear K c8 x0 x1 C A z t1 t2 t3 t4 t5 t6;have y0:l.cell? ⟨X+1,0,none⟩=some (.int .i64 (vk v)):=g.o.c 0;have y1:l.cell? ⟨X+1,1,none⟩=some (.int .i64 (vi v)):=g.o.c 1;have y2:l.cell? ⟨X+1,2,none⟩=some (.int .u64 0):=g.o.c 2;have y3:l.cell? ⟨X+1,3,none⟩=some (.string ByteArray.empty):=g.o.c 3;have y4:l.cell? ⟨X+1,4,none⟩=some (aK tb v):=g.o.c 4;have HN:=ah (bT l tb v);rw [Y] at HN;clear Y;go_wp2_with fail;refine HN.o.mono ?_;rintro e5 w5 ⟨rfl,F⟩;have U:=ah (J.o.trans (F.mono (dh R.o.lt)));clear F y0 y1 y2 y3 y4;go_wp2;go_ret;exact ⟨rfl,by rw [Q.o];exact U.o⟩
theorem Aw (x:M4 base tb t n o sz es ev mv w) {k v:HV} (hk:oW k) (hs:k.isSome=true) (hd:Hd tb w k) (hf:kG es k=none) (hv:v.isNone=false) (C:es.length<=5000) (b7:∀ e∈es,Hd tb w e.1) (b5:∀ e∈es,e.2.isSome=true->e.1.isSome=true) (P:base<=w.heap.size):
 Calls Tryz.prog 104 #[.pointer (some ⟨t,0,none⟩),.agg #[.int .i64 (vk k),.int .i64 (vi k),.int .u64 0,.string ByteArray.empty,aK tb k],.agg #[.int .i64 (vk v),.int .i64 (vi v),.int .u64 0,.string ByteArray.empty,aK tb v]] w fun e' w'=>e'=.returned (.int .i64 2)/\∃ ev' mv',M4 base tb t n o sz (aS es++[(k,v)]) ev' mv' w'/\Keeps w w' (fun c=>c=t∨ev.ownBlock=some c∨dx mv=some c)/\(∀ g,ev'.ownBlock=some g->ev.ownBlock=some g∨w.heap.size<=g)/\(∀ g,dx mv'=some g->dx mv=some g∨w.heap.size<=g):=by
 have HX:=ah ((d_ w tb k).keep (Keeps.of (aU (w.alloc (.cells (gG tb k) 143)) (.cells (gG tb v) 143)) (au _) (fun _=>False)) (fun x=>x));have HY:=ah (d_ (w.alloc (.cells (gG tb k) 143)) tb v);have HB:=ah ((aU w (.cells (gG tb k) 143)).trans ((aU (w.alloc (.cells (gG tb k) 143)) (.cells (gG tb v) 143)).mono (aU w (.cells (gG tb k) 143)).size));have hZ:(w.alloc (.cells (gG tb k) 143)).heap.size=w.heap.size+1:=aG _;rw [hZ] at HY;clear hZ;have b3:=x.r.lt;have HT:=ah x;have HD:=ah hd;have e9:t≠w.heap.size:=by omega
 have e4:t≠w.heap.size+1:=by omega
 have c3:=ah (fun (w':World) (hb:Below w.heap.size w w')=>qP (x.low hb).m hk hs);rw [hf] at c3;have d5:=ah (fun (w':World) (hb:Below w.heap.size w w')=>(hd.low hb).c);clear x hd;go_enter Tryz.func104,Tryz.ntmps104;go_upto_region 1 with (fail)
 change Code.wp _ _ _ _ ((w.alloc (.cells (gG tb k) 143)).alloc (.cells (gG tb v) 143));generalize (w.alloc (.cells (gG tb k) 143)).alloc (.cells (gG tb v) 143)=w2 at *;generalize hX:w.heap.size=X at *;have a6:=ah hX;clear hX;have e2:=ah (kV w2 tb k);obtain ⟨x0,x1,Y,W,V⟩:NC w2 X tb k:=HX.o.c5;go_wp2_with fail;refine e2.o.mono ?_;rintro e3 w3 ⟨rfl,a3⟩;have K3:=ah (Keeps.of a3 (au _) (fun _=>False));have u:=ah (HX.o.keep K3.o id);have d2:=ah (HY.o.keep K3.o id);have e1:=ah (HB.o.trans (a3.mono (dh (Nat.lt_trans (Nat.lt_succ_self X) HY.o.lt))));clear a3 x0 x1 Y W V;obtain ⟨x0,x1,Y,W,V⟩:NC w3 X tb k:=u.o.c5;have z0:=u.o.ME 0;have z1:=u.o.ME 1;have z2:=u.o.ME 2;have z3:=u.o.ME 3;have z4:=u.o.ME 4;have a7:=ah (rO u.o tb k);go_upto_region 2 with (fail)
 generalize ((((w3.setCell ⟨X,0,none⟩ (.int .i64 (vk k))).setCell ⟨X,1,none⟩ (.int .i64 (vi k))).setCell ⟨X,2,none⟩ (.int .u64 0)).setCell ⟨X,3,none⟩ (.string ByteArray.empty)).setCell ⟨X,4,none⟩ (aK tb k)=w4 at *;have d1:=ah (d2.o.keep a7.o.2 (Nat.succ_ne_self X));have b0:=ah (e1.o.trans (a7.o.2.below (B:=X) (dh u.o.lt) (fun b e=>aO e.symm)));clear x0 x1 Y W V z0 z1 z2 z3 z4;have T:=ah a7.o.1;obtain ⟨x0,x1,Y,W,V⟩:NC w4 X tb k:=T.o.c5;have b2:t<w4.heap.size:=Nat.lt_trans b3 T.o.lt;have l:=T.o.lt;have c8:w4.cell? ⟨t,8,none⟩=some mv:=(b0.o.cell (p:=⟨t,8,none⟩) b3).trans (HT.o.r.c 8);go_wp2_with fail
 go_region_held3 (fun w'=>w'.cell? ⟨t,8,none⟩=some mv/\w'.cell? ⟨X,0,none⟩=some (.int .i64 (vk k))/\w'.cell? ⟨X,1,none⟩=some (.int .i64 (vi k))/\w'.cell? ⟨X,2,none⟩=some (.int .u64 0)/\w'.cell? ⟨X,3,none⟩=some (.string ByteArray.empty)/\w'.cell? ⟨X,4,none⟩=some (aK tb k)) (go_keep)
  (first
    |(refine iD (.tmp 16) rfl tb k rfl (d5.o _ (b0.o.trans (aC (aT _ _) _))) ?_
      intro Z a0;have j:Below w4.heap.size w4 Z:=(aC (aT w4.heap.size w4) _).trans a0;have c6:=ah (b0.o.trans (j.mono (dh l)));have b9:=ah (T.o.keep (Keeps.of j (au _) (fun _=>False)) id);have D:=ah (d1.o.keep (Keeps.of j (au _) (fun _=>False)) id);have c7:=c3.o Z c6.o;have t1:=(j.cell (p:=⟨t,8,none⟩) b2).trans c8;have t2:=(j.cell (p:=⟨X,0,none⟩) l).trans x0;have t3:=(j.cell (p:=⟨X,1,none⟩) l).trans x1;have t4:=(j.cell (p:=⟨X,2,none⟩) l).trans Y;have t5:=(j.cell (p:=⟨X,3,none⟩) l).trans W;have t6:=(j.cell (p:=⟨X,4,none⟩) l).trans V;clear j a0)
    |fail)
 clear c7 c8 x0 x1 Y W V t1 t2 t3 t4 t5 t6;have y0:Z.cell? ⟨X+1,0,none⟩=some (.int .i64 (vk v)):=D.o.c 0;have y1:Z.cell? ⟨X+1,1,none⟩=some (.int .i64 (vi v)):=D.o.c 1;have y2:Z.cell? ⟨X+1,2,none⟩=some (.int .u64 0):=D.o.c 2;have y3:Z.cell? ⟨X+1,3,none⟩=some (.string ByteArray.empty):=D.o.c 3;have y4:Z.cell? ⟨X+1,4,none⟩=some (aK tb v):=D.o.c 4;have HN:=ah (bT Z tb v);rw [hv] at HN;have c1:=ah hv;have c2:=ah (Eu hf);have d8:=ah b7;have d7:=ah b5;clear hv hf b7 b5;go_wp2_with fail;refine HN.o.mono ?_;rintro e5 w5 ⟨rfl,Q⟩;have e0:=ah (c6.o.trans (Q.mono (dh b9.o.lt)));have c0:=ah (b9.o.keep (Keeps.of Q (au _) (fun _=>False)) id);have b8:=ah (D.o.keep (Keeps.of Q (au _) (fun _=>False)) id);clear Q y0 y1 y2 y3 y4;have z:=ah (show Below w.heap.size w w5 by rw [a6.o];exact e0.o);have a9:=ah (HT.o.low z.o);have HC:=ah (uK a9.o C);by_cases N:16<=es.length/\es.length<2*aZ es
 ·rw [show decide (16<=es.length/\es.length<2*aZ es)=true by simpa using N] at HC
  have a8:Hq (aS es=es.filter fun e=>e.2.isSome):=ah (by unfold aS;rw [if_neg (by omega)]);have d0:1<=aZ es:=by omega
  clear N;go_wp2_with fail;refine HC.o.mono ?_;rintro e6 w6 ⟨rfl,d⟩;have a:=ah (z.o.trans (d.mono z.o.size));have A:=ah (a9.o.low d);have R:=ah (c0.o.keep (Keeps.of d (au _) (fun _=>False)) id);have s:=ah (b8.o.keep (Keeps.of d (au _) (fun _=>False)) id);clear d;have d4:=ah (Cy A.o C d0 (fun e he=>(d8.o e he).low a.o) d7.o);go_wp2_with fail;refine d4.o.mono ?_;rintro e7 w7 ⟨rfl,f0,a2,J,b6⟩;have d6:=ah a2;have K7:=ah J;have c4:=ah b6;have a4:∀ q f,aD w6 143 q 5 f->¬ (q=t∨ev.ownBlock=some q∨dx mv=some q):=fun q f hr c=>by
   rcases c with c|c|c
   ·exact hr.apart A.o.r (by decide) c
   ·exact ak A.o.e hr (by decide) c
   ·exact A.o.m.apart hr c
  have d3:=ah (R.o.keep J (a4 _ _ R.o));have M:=ah (s.o.keep J (a4 _ _ s.o));have d9:=ah ((HD.o.low a.o).next A.o a2 J);have c9:(es.filter fun e=>e.2.isSome).length<=5000:=aI (List.length_filter_le _ _) C;clear a2 J b6 a4;have b1:=ah (rV d6.o c9 (k:=k) (v:=v) hk hs c1.o (fun e he=>c2.o e (List.mem_filter.1 he).1) d9.o (aI (by rw [<-a6.o] at P;exact P) (aI a.o.size K7.o.size)));obtain ⟨x0,x1,Y,W,V⟩:NC w7 X tb k:=d3.o.c5;have y0:w7.cell? ⟨X+1,0,none⟩=some (.int .i64 (vk v)):=M.o.c 0;have y1:w7.cell? ⟨X+1,1,none⟩=some (.int .i64 (vi v)):=M.o.c 1;have y2:w7.cell? ⟨X+1,2,none⟩=some (.int .u64 0):=M.o.c 2;have y3:w7.cell? ⟨X+1,3,none⟩=some (.string ByteArray.empty):=M.o.c 3;have y4:w7.cell? ⟨X+1,4,none⟩=some (aK tb v):=M.o.c 4;go_wp2_with fail;refine b1.o.mono ?_;rintro e8 w8 ⟨rfl,a5,a1,E,H,K,F⟩;have U:=ah (And.intro E (And.intro H (And.intro K F)));clear E H K F;go_wp2;go_ret;have b4:w.heap.size<=w7.heap.size:=aI a.o.size K7.o.size;refine ⟨rfl,a5,a1,by rw [a8.o];exact U.o.1,((Keeps.of a.o (au _) _).trans K7.o).trans (U.o.2.1.mono (fun c e=>by rw [c4.o] at e;exact e)),fun g hg=>?_,fun g hg=>?_⟩
  ·rcases U.o.2.2.1 g hg with y|y
   ·exact .inl (by rw [<-c4.o];exact y)
   ·exact .inr (aI b4 y)
  ·rcases U.o.2.2.2 g hg with y|y
   ·exact .inl y
   ·exact .inr (aI b4 y)
 ·rw [show decide (16<=es.length/\es.length<2*aZ es)=false by simpa using N] at HC
  have a8:Hq (aS es=es):=ah (by unfold aS;rw [if_pos (by omega)]);clear N;go_wp2_with fail;refine HC.o.mono ?_;rintro e6 w6 ⟨rfl,d⟩;have a:=ah (z.o.trans (d.mono z.o.size));have A:=ah (a9.o.low d);have R:=ah (c0.o.keep (Keeps.of d (au _) (fun _=>False)) id);have s:=ah (b8.o.keep (Keeps.of d (au _) (fun _=>False)) id);clear d;have b1:=ah (rV A.o C (k:=k) (v:=v) hk hs c1.o c2.o (HD.o.low a.o) (aI (by rw [<-a6.o] at P;exact P) a.o.size));obtain ⟨x0,x1,Y,W,V⟩:NC w6 X tb k:=R.o.c5;have y0:w6.cell? ⟨X+1,0,none⟩=some (.int .i64 (vk v)):=s.o.c 0;have y1:w6.cell? ⟨X+1,1,none⟩=some (.int .i64 (vi v)):=s.o.c 1;have y2:w6.cell? ⟨X+1,2,none⟩=some (.int .u64 0):=s.o.c 2;have y3:w6.cell? ⟨X+1,3,none⟩=some (.string ByteArray.empty):=s.o.c 3;have y4:w6.cell? ⟨X+1,4,none⟩=some (aK tb v):=s.o.c 4;go_wp2_with fail;refine b1.o.mono ?_;rintro e8 w8 ⟨rfl,a5,a1,E,H,K,F⟩;have U:=ah (And.intro E (And.intro H (And.intro K F)));clear E H K F;go_wp2;go_ret;refine ⟨rfl,a5,a1,by rw [a8.o];exact U.o.1,(Keeps.of a.o (au _) _).trans U.o.2.1,fun g hg=>?_,fun g hg=>?_⟩
  ·exact (U.o.2.2.1 g hg).imp id (aI a.o.size)
  ·exact (U.o.2.2.2 g hg).imp id (aI a.o.size)
theorem zT (x:M4 base tb t n o sz es ev mv w) {k v:HV} (hk:oW k) (hs:k.isSome=true) (hd:Hd tb w k) (hf:kG es k=some i) {Z:World->World->Prop}
 (hp:∀ w',Below w.heap.size w w'->Calls Tryz.prog 123 #[.pointer (some ⟨t,0,none⟩),.int .i64 (i:Int),.agg #[.int .i64 (vk v),.int .i64 (vi v),.int .u64 0,.string ByteArray.empty,aK tb v]] w' fun e' w''=>e'=.returned (.tuple #[])/\Z w' w''):
 Calls Tryz.prog 104 #[.pointer (some ⟨t,0,none⟩),.agg #[.int .i64 (vk k),.int .i64 (vi k),.int .u64 0,.string ByteArray.empty,aK tb k],.agg #[.int .i64 (vk v),.int .i64 (vi v),.int .u64 0,.string ByteArray.empty,aK tb v]] w fun e' w'=>e'=.returned (.int .i64 1)/\∃ w1,Below w.heap.size w w1/\Z w1 w':=by
 have T:=ah hp;clear hp;have HX:=ah ((d_ w tb k).keep (Keeps.of (aU (w.alloc (.cells (gG tb k) 143)) (.cells (gG tb v) 143)) (au _) (fun _=>False)) (fun x=>x));have P:=ah (d_ (w.alloc (.cells (gG tb k) 143)) tb v);have HB:=ah ((aU w (.cells (gG tb k) 143)).trans ((aU (w.alloc (.cells (gG tb k) 143)) (.cells (gG tb v) 143)).mono (aU w (.cells (gG tb k) 143)).size));have Y:(w.alloc (.cells (gG tb k) 143)).heap.size=w.heap.size+1:=aG _;rw [Y] at P;clear Y;have H:=x.r.lt;have HT:=ah x;have HD:=ah hd;have a1:t≠w.heap.size:=by omega
 have a0:t≠w.heap.size+1:=by omega
 have J:=ah (fun (w':World) (hb:Below w.heap.size w w')=>qP (x.low hb).m hk hs);rw [hf] at J;have R:=ah (fun (w':World) (hb:Below w.heap.size w w')=>(hd.low hb).c);clear x hd;go_enter Tryz.func104,Tryz.ntmps104;go_upto_region 1 with (fail)
 change Code.wp _ _ _ _ ((w.alloc (.cells (gG tb k) 143)).alloc (.cells (gG tb v) 143));generalize (w.alloc (.cells (gG tb k) 143)).alloc (.cells (gG tb v) 143)=w2 at *;generalize hX:w.heap.size=X at *;have Q:=ah hX;clear hX;have W:=ah (kV w2 tb k);obtain ⟨x0,x1,D,C,A⟩:NC w2 X tb k:=HX.o.c5;go_wp2_with fail;refine W.o.mono ?_;rintro e3 w3 ⟨rfl,s⟩;have K3:=ah (Keeps.of s (au _) (fun _=>False));have f:=ah (HX.o.keep K3.o id);have N:=ah (P.o.keep K3.o id);have V:=ah (HB.o.trans (s.mono (dh (Nat.lt_trans (Nat.lt_succ_self X) P.o.lt))));clear s x0 x1 D C A;obtain ⟨x0,x1,D,C,A⟩:NC w3 X tb k:=f.o.c5;have z0:=f.o.ME 0;have z1:=f.o.ME 1;have z2:=f.o.ME 2;have z3:=f.o.ME 3;have z4:=f.o.ME 4;have u:=ah (rO f.o tb k);go_upto_region 2 with (fail)
 generalize ((((w3.setCell ⟨X,0,none⟩ (.int .i64 (vk k))).setCell ⟨X,1,none⟩ (.int .i64 (vi k))).setCell ⟨X,2,none⟩ (.int .u64 0)).setCell ⟨X,3,none⟩ (.string ByteArray.empty)).setCell ⟨X,4,none⟩ (aK tb k)=w4 at *;have M:=ah (N.o.keep u.o.2 (Nat.succ_ne_self X));have z:=ah (V.o.trans (u.o.2.below (B:=X) (dh f.o.lt) (fun b e=>aO e.symm)));clear x0 x1 D C A z0 z1 z2 z3 z4;have l:=ah u.o.1;obtain ⟨x0,x1,D,C,A⟩:NC w4 X tb k:=l.o.c5;have F:t<w4.heap.size:=Nat.lt_trans H l.o.lt;have d:=l.o.lt;have c8:w4.cell? ⟨t,8,none⟩=some mv:=(z.o.cell (p:=⟨t,8,none⟩) H).trans (HT.o.r.c 8);go_wp2_with fail
 go_region_held3 (fun w'=>w'.cell? ⟨t,8,none⟩=some mv/\w'.cell? ⟨X,0,none⟩=some (.int .i64 (vk k))/\w'.cell? ⟨X,1,none⟩=some (.int .i64 (vi k))/\w'.cell? ⟨X,2,none⟩=some (.int .u64 0)/\w'.cell? ⟨X,3,none⟩=some (.string ByteArray.empty)/\w'.cell? ⟨X,4,none⟩=some (aK tb k)) (go_keep)
  (first
    |(refine iD (.tmp 16) rfl tb k rfl (R.o _ (z.o.trans (aC (aT _ _) _))) ?_
      intro j q;have a:Below w4.heap.size w4 j:=(aC (aT w4.heap.size w4) _).trans q;have y:=ah (z.o.trans (a.mono (dh d)));have a2:=ah (l.o.keep (Keeps.of a (au _) (fun _=>False)) id);have g:=ah (M.o.keep (Keeps.of a (au _) (fun _=>False)) id);have K:=J.o j y.o;have t1:=(a.cell (p:=⟨t,8,none⟩) F).trans c8;have t2:=(a.cell (p:=⟨X,0,none⟩) d).trans x0;have t3:=(a.cell (p:=⟨X,1,none⟩) d).trans x1;have t4:=(a.cell (p:=⟨X,2,none⟩) d).trans D;have t5:=(a.cell (p:=⟨X,3,none⟩) d).trans C;have t6:=(a.cell (p:=⟨X,4,none⟩) d).trans A;clear a q)
    |fail)
 clear K c8 x0 x1 D C A t1 t2 t3 t4 t5 t6;have y0:j.cell? ⟨X+1,0,none⟩=some (.int .i64 (vk v)):=g.o.c 0;have y1:j.cell? ⟨X+1,1,none⟩=some (.int .i64 (vi v)):=g.o.c 1;have y2:j.cell? ⟨X+1,2,none⟩=some (.int .u64 0):=g.o.c 2;have y3:j.cell? ⟨X+1,3,none⟩=some (.string ByteArray.empty):=g.o.c 3;have y4:j.cell? ⟨X+1,4,none⟩=some (aK tb v):=g.o.c 4;have U:=ah (T.o j y.o);go_wp2_with fail;refine U.o.mono ?_;rintro e5 w5 ⟨rfl,E⟩;have H5:=ah E;clear E y0 y1 y2 y3 y4;go_wp2;go_ret;exact ⟨rfl,j,by rw [Q.o];exact y.o,H5.o⟩
theorem BJ (a:M0 base S h G L w) (ho:h.ob n=some o) {k v:HV} (hk:oW k) (g:k.isSome=true) (c:iP h k) (f:kG o.es k=some i) (b:o.es.length<=5000):
 Calls Tryz.prog 104 #[.pointer (some ⟨L.tb n,0,none⟩),.agg #[.int .i64 (vk k),.int .i64 (vi k),.int .u64 0,.string ByteArray.empty,aK L.tb k],.agg #[.int .i64 (vk v),.int .i64 (vi v),.int .u64 0,.string ByteArray.empty,aK L.tb v]] w fun e' w'=>e'=.returned (.int .i64 1)/\M0 base S (h.ents n (o.es.set i (k,v))) G L w'/\Keeps w w' S:=by
 obtain ⟨e,j,d⟩:=vQ f;refine (zT (Z:=fun w' w''=>M0 base S (h.ents n (o.es.set i (k,v))) G L w''/\Keeps w' w'' S) (a.Nc ho) hk g (a.hd c) f (fun w' hb=>?_)).mono ?_
 ·have:=oL (a.low hb) ho j v b
  rw [d] at this;exact this
 ·rintro e' w' ⟨rfl,w1,hb,m,l⟩
  exact ⟨rfl,m,(Keeps.of hb (au _) S).trans l⟩
end
section
variable {G:Gh} {L L':PM} {S:Nat->Prop} {base c n:Nat} {g h:Hp} {o:Ob} {w w':World} {x:List Nat}
attribute [local go_sem] bW
theorem Nh.of (x:Nh G h c) (e:∀ n,g.Lv n↔h.Lv n):Nh G g c:=
 ⟨x.ks,x.sl,x.ku,fun n=>(x.kl n).trans ⟨fun y=>⟨(e n).2 y.1,y.2⟩,fun y=>⟨(e n).1 y.1,y.2⟩⟩,x.du,fun n=>(x.dl n).trans ⟨fun y=>⟨(e n).2 y.1,y.2⟩,fun y=>⟨(e n).1 y.1,y.2⟩⟩⟩
theorem PR.same {y:List Nat} (r:PR h x y G) (a:g.state=h.state) (d:g.weak=h.weak) (i:g.G8=h.G8) (j:g.again=h.again) (hp:g.G9=h.G9) (f:g.objs.length=h.objs.length) (b:∀ n,g.Lv n↔h.Lv n):PR g x y G:=
 ⟨fun e=>by rw [d,i,j];exact r.s1 (a ▸ e),fun e=>by rw [hp];exact (r.s2 (a ▸ e)).of b,fun e=>(r.s0 (a ▸ e)).of b,by rw [f];exact r.ol⟩
theorem Ck (h:Hp) (n:Nat) (es:List En) (m:Nat):(h.ents n es).Lv m↔h.Lv m:=by
 unfold Hp.Lv Hp.ents;rw [Hp.Ho];split
 ·cases h.ob m<;>simp
 ·exact Iff.rfl
theorem Ei (h:Hp) (n:Nat) (m:Nat):(h.upd n fun o=>{ o with col:=2 }).Lv m↔h.Lv m:=by
 unfold Hp.Lv;rw [Hp.Ho];split
 ·cases h.ob m<;>simp
 ·exact Iff.rfl
structure MG (L L':PM):Prop where
 H:L'.H=L.H
 tb:L'.tb=L.tb
theorem Nf.y (a:Nf L L'):MG L L':=⟨a.H,a.tb⟩
theorem MG.refl (L:PM):MG L L:=⟨rfl,rfl⟩
theorem MG.trans {L L' L'':PM} (a:MG L L') (b:MG L' L''):MG L L'':=⟨b.H.trans a.H,b.tb.trans a.tb⟩
theorem M0.Me (a:M0 base S h G L w) {e:Ending} (r:xV 67 base L.H 12 (L.li 12) (G.ag.map (eP L.tb 12)) (eP L.tb 12 n) w e w'):e=.returned (.tuple #[])/\∃ L',Nf L L'/\M0 base S h { G with ag:=G.ag++[n] } L' w'/\Keeps w w' S:=by
 obtain ⟨rfl,p,l,w1,rfl,f,m,d⟩:=r;have b:(G.ag.map (eP L.tb 12)).length+1=(G.ag++[n]).length:=by simp
 rw [b] at f d ⊢;obtain ⟨-,k,i⟩:=a.JW (h':=h) (G':={ G with ag:=G.ag++[n] }) 12 (by simp [eF]) m _ (by show World.ownsRow _ _ 67 _ _ (G.ag++[n]).length ((G.ag++[n]).map (eP L.tb 12));simpa using f) d (fun _=>rfl) (fun j hj hn=>by rcases hj with rfl|rfl|rfl|rfl|rfl|rfl|rfl|rfl|rfl<;>first |rfl|exact absurd rfl hn) (bJ _ rfl rfl rfl rfl rfl rfl rfl rfl rfl rfl rfl rfl rfl rfl rfl rfl rfl rfl rfl);exact ⟨rfl,{ L with li:=fun j=>if j=12 then .slice p (G.ag++[n]).length l else L.li j },⟨rfl,rfl,rfl,rfl⟩,k,i⟩
theorem pU (p:PS base S h L w) (ho:h.ob n=some o) (P:h.again.length<=20000):
 Calls Tryz.prog 106 #[.pointer (some ⟨L.H,0,none⟩),.pointer (some ⟨L.tb n,0,none⟩)] w fun e w'=>e=.returned (.tuple #[])/\∃ L',Nf L L'/\PS base S (h.back n) L' w'/\Keeps w w' S:=by
 have Q:=p.cells.1;obtain ⟨x,y,G,a,r⟩:=p;have N:w.cell? ⟨L.tb n,0,none⟩=some (.int .i64 (o.col:Int)):=(a.ob n o ho).c 0;by_cases i:h.state=1
 ·have B:((h.state:Int)==1)=true:=by simp [i]
  by_cases u:o.col=3
  ·have C:((o.col:Int)==3)=true:=by simp [u]
   obtain ⟨rfl,rfl,j⟩:=r.s1 i;have f:Hq (h.back n={ h.upd n (fun o=>{ o with col:=2 }) with again:=h.again++[n] }):=ah (by unfold Hp.back;rw [ho];simp only;rw [if_pos ⟨u,i⟩]);have M:=(a.ob n o ho).ME 0;have b:=ah (M0.Mk (show M0 base S h G L w from a) n 0 (.int .i64 2) (fun o=>{ o with col:=2 }) (by decide) ho ⟨rfl,rfl⟩ (dz _ rfl rfl rfl rfl rfl rfl rfl rfl rfl rfl rfl rfl rfl));have K:=ah r;have A:=ah j;have D:=ah i;clear a r ho u i j;go_enter Tryz.func106,Tryz.ntmps106;go_upto_region 2 with (fail)
   generalize w.setCell ⟨L.tb n,0,none⟩ (.int .i64 2)=w3 at *;have z:w3.cell? ⟨L.H,12,none⟩=some (L.li 12):=b.o.1.hp.c 12;have k:=b.o.1.hp.ME 12;have q:=b.o.1.li 12 (by simp [eF]);have d:w3.ownsRow base 67 1 (L.li 12) (G.ag.map (eP L.tb 12)).length (G.ag.map (eP L.tb 12)):=by rw [bY];exact q
   have F:=ah (iI w3 base L.H 12 (L.li 12) (G.ag.map (eP L.tb 12)) (L.tb n) z k d (fun e=>ak d b.o.1.hp (by decide) e) (by rw [bY,A.o];omega) b.o.1.bs);clear q d z k N M Q;go_wp2_with fail;refine F.o.mono ?_;intro U w4 l;obtain ⟨rfl,R,s,v,t⟩:=b.o.1.Me l;have J:=ah (And.intro s (And.intro v t));clear l s v t;go_wp2;go_end0;refine ⟨rfl,R,J.o.1,?_,b.o.2.trans J.o.2.2⟩;rw [f.o];refine ⟨h.weak,h.G8,{ G with ag:=G.ag++[n] },J.o.2.1.aux (h.again++[n]) h.G9,⟨fun _=>⟨rfl,rfl,by rw [A.o]⟩,fun e=>?_,fun e=>?_,?_⟩⟩
   ·have T:=D.o
    have V:h.state=2:=e;omega
   ·have:=K.o.s0 e
    exact ⟨this.up,fun m=>(this.lv m).trans (Ei h n m).symm⟩
   ·show G.Ns.length<=(h.upd n fun o=>{ o with col:=2 }).objs.length
    rw [h.Hz];exact K.o.ol
  ·have C:((o.col:Int)==3)=false:=by simp;omega
   have f:Hq (h.back n=h):=ah (by unfold Hp.back;rw [ho];simp only;rw [if_neg (fun c=>u c.1)]);have E:=ah (show PS base S h L w from ⟨x,y,G,a,r⟩);clear a r ho u i;go_enter Tryz.func106,Tryz.ntmps106;go_wp2;go_end0;exact ⟨rfl,L,Nf.refl L,by rw [f.o];exact E.o,Keeps.refl _ _⟩
 ·have B:((h.state:Int)==1)=false:=by simp;omega
  have f:Hq (h.back n=h):=ah (by unfold Hp.back;rw [ho];simp only;rw [if_neg (fun c=>i c.2)]);have E:=ah (show PS base S h L w from ⟨x,y,G,a,r⟩);clear a r ho i;go_enter Tryz.func106,Tryz.ntmps106;go_wp2;go_end0;exact ⟨rfl,L,Nf.refl L,by rw [f.o];exact E.o,Keeps.refl _ _⟩
theorem jK (w:World) (t H:Nat) (s b d:Int) (m:w.cell? ⟨t,2,none⟩=some (.int .i64 s)) (l:w.cell? ⟨H,4,none⟩=some (.int .i64 b)) (j:w.frozen? ⟨t,2,none⟩=false) (i:w.frozen? ⟨H,4,none⟩=false) (a:t≠H) (k: -100000000<=s/\s<=100000000) (hb: -100000000<=b/\b<=100000000) (hd: -100000000<=d/\d<=100000000):
 Calls Tryz.prog 105 #[.pointer (some ⟨H,0,none⟩),.pointer (some ⟨t,0,none⟩),.int .i64 d] w fun e w'=>e=.returned (.tuple #[])/\w'=(w.setCell ⟨t,2,none⟩ (.int .i64 (s+d))).setCell ⟨H,4,none⟩ (.int .i64 (b+d)):=by
 have f:H≠t:=fun c=>a c.symm;go_enter Tryz.func105,Tryz.ntmps105;go_wp2;go_end0;exact ⟨rfl,rfl⟩
end
section
variable {G:Gh} {H base i m n t:Nat} {L:PM} {S:Nat->Prop} {es:List En} {f:Nat->Value} {h:Hp} {mv:Value} {o:Ob} {sz:Int} {tb:Nat->Nat} {w w' w1 w2 w4 w4' w5:World} {x y:List Nat}
attribute [local go_sem] bW
structure Kv (h:Hp) (o:Ob) (k:HV):Prop where
 kk:oW k
 ks:k.isSome=true
 kv:iP h k
 len:o.es.length<=5000
 ev:∀ e∈o.es,iP h e.1
 kn:∀ e∈o.es,e.2.isSome=true->e.1.isSome=true
 Nn:h.bytes<=300000
 cr:h.G6<=300000
 ag:h.again.length<=20000
 fr:40*o.es.length<=h.bytes
theorem Av (h:Hp) (n:Nat) (f:Ob->Ob) (m:Nat):(h.upd n f).Lv m↔h.Lv m:=by
 unfold Hp.Lv;rw [Hp.Ho];split
 ·cases h.ob m<;>simp
 ·exact Iff.rfl
theorem M0.Ld (a:M0 base S h G L w) (ho:h.ob n=some o) (hm:m=o.es.length) (hb:Below w.heap.size w w1) (b:w4=(w1.setCell ⟨L.tb n,2,none⟩ (.int .i64 ((40+40*m:Nat):Int))).setCell ⟨L.H,4,none⟩ (.int .i64 (h.bytes:Int))):M0 base S h G L w4/\Keeps w w4 S:=by
 subst hm b;have c:=a.low hb;have b1:=c.Mk n 2 (.int .i64 ((40+40*o.es.length:Nat):Int)) (fun o'=>{ o' with es:=o.es }) (by decide) ho ⟨rfl,rfl⟩ (dz _ rfl rfl rfl rfl rfl rfl rfl rfl rfl rfl rfl rfl rfl);rw [show h.upd n (fun o'=>{ o' with es:=o.es })=h from Hp.Io ho] at b1;have b2:=b1.1.num (h':=h) (G':=G) 4 (.int .i64 (h.bytes:Int)) (by decide) (fun _=>rfl) ⟨rfl,rfl,rfl,rfl,rfl,rfl,rfl⟩ ⟨rfl,rfl⟩ (bJ _ rfl rfl rfl rfl rfl rfl rfl rfl rfl rfl rfl rfl rfl rfl rfl rfl rfl rfl rfl);exact ⟨b2.1,((Keeps.of hb (au _) S).trans b1.2).trans b2.2⟩
theorem M4.off {ev:Value} (x:M4 base tb t n o sz es ev mv w) (k:Keeps w w' (fun b=>b=H)) (hr:aD w 77 H 19 f):M4 base tb t n o sz es ev mv w':=
 ⟨x.r.keep k (fun c=>x.r.apart hr (by decide) c),aj x.e k (fun g hg c=>ak x.e hr (by decide) (c ▸ hg)),x.m.keep k (fun g hg c=>x.m.apart hr (c ▸ hg))⟩
theorem CO (a:M0 base S (h.wk x y) G L w2) (ho:h.ob n=some o) {k v:HV} {q:Nat} {ev:Value} 
 (J:M4 base L.tb (L.tb n) n o ((40+40*o.es.length:Nat):Int) (aS o.es++[(k,v)]) ev mv w4) (M:aD w4 77 L.H 19 f) (P:∀ i,i<19->f i=if i=5 then .int .i64 ((h.G6:Int)+40) else kK (h.wk x y) G L i) (kk:Keeps w2 w4 (fun c=>c=L.H∨c=L.tb n∨(L.es n).ownBlock=some c∨dx (L.mp n)=some c))
 (Q:∀ g,ev.ownBlock=some g->(L.es n).ownBlock=some g∨w2.heap.size<=g) (hm:∀ g,dx mv=some g->dx (L.mp n)=some g∨w2.heap.size<=g) (U:(aS o.es++[(k,v)]).length=q+1) (K:(aS o.es).length=q) (N:40*o.es.length<=h.bytes) (hb:Below w4.heap.size w4 w4')
 (A:w5=(w4'.setCell ⟨L.tb n,2,none⟩ (.int .i64 (((40+40*o.es.length:Nat):Int)+(((q:Int)+1-(o.es.length:Int))*40)))).setCell ⟨L.H,4,none⟩ (.int .i64 ((h.bytes:Int)+(((q:Int)+1-(o.es.length:Int))*40)))):
 M0 base S (Hp.wk { h.upd n (fun o=>{ o with es:=aS o.es++[(k,v)] }) with bytes:=h.bytes-40*(o.es.length-(aS o.es).length)+40,G6:=h.G6+40 } x y) G (L.M8 n ev mv) w5/\Keeps w2 w5 S/\w5.cell? ⟨L.tb n,7,none⟩=some ev:=by
 have F:=lD o.es;have k0:=fun S=>Keeps.of hb (au _) S;have b:=J.low hb;have d:=M.keep (k0 fun _=>False) id;have e1:(((40+40*o.es.length:Nat):Int)+(((q:Int)+1-(o.es.length:Int))*40))=((40+40*(q+1):Nat):Int):=by omega
 have R:((h.bytes:Int)+(((q:Int)+1-(o.es.length:Int))*40))=((h.bytes-40*(o.es.length-(aS o.es).length)+40:Nat):Int):=by omega
 rw [e1,R] at A;subst A;have s:Keeps w4' (w4'.setCell ⟨L.tb n,2,none⟩ (.int .i64 ((40+40*(q+1):Nat):Int))) (fun c=>c=L.tb n):=Keeps.setCell (S:=fun c=>c=L.tb n) (Keeps.refl w4' _) rfl _;have u:Keeps (w4'.setCell ⟨L.tb n,2,none⟩ (.int .i64 ((40+40*(q+1):Nat):Int))) ((w4'.setCell ⟨L.tb n,2,none⟩ (.int .i64 ((40+40*(q+1):Nat):Int))).setCell ⟨L.H,4,none⟩ (.int .i64 ((h.bytes-40*(o.es.length-(aS o.es).length)+40:Nat):Int))) (fun c=>c=L.H):=Keeps.setCell (S:=fun c=>c=L.H) (Keeps.refl _ _) rfl _;have p:L.tb n≠L.H:=fun c=>b.r.apart d (by decide) c;have z:aD ((w4'.setCell ⟨L.tb n,2,none⟩ (.int .i64 ((40+40*(q+1):Nat):Int))).setCell ⟨L.H,4,none⟩ (.int .i64 ((h.bytes-40*(o.es.length-(aS o.es).length)+40:Nat):Int))) 136 (L.tb n) 13 (nM { o with es:=aS o.es++[(k,v)] } n ev mv):=by
  refine ((b.r.set (j:=2) (by omega) _).keep u p).congr (fun j hj=>?_);refine dz (fun j=>(if j=2 then (.int .i64 ((40+40*(q+1):Nat):Int):Value) else tV o n _ (aS o.es++[(k,v)]) ev mv j)=nM { o with es:=aS o.es++[(k,v)] } n ev mv j) rfl rfl ?_ rfl rfl rfl rfl rfl rfl rfl rfl rfl rfl j hj;simp [nM,K]
 have T:World.cell? ((w4'.setCell ⟨L.tb n,2,none⟩ (.int .i64 ((40+40*(q+1):Nat):Int))).setCell ⟨L.H,4,none⟩ (.int .i64 ((h.bytes-40*(o.es.length-(aS o.es).length)+40:Nat):Int))) ⟨L.tb n,7,none⟩=some ev:=z.c 7;have D:aD ((w4'.setCell ⟨L.tb n,2,none⟩ (.int .i64 ((40+40*(q+1):Nat):Int))).setCell ⟨L.H,4,none⟩ (.int .i64 ((h.bytes-40*(o.es.length-(aS o.es).length)+40:Nat):Int))) 77 L.H 19 (kK (Hp.wk { h.upd n (fun o=>{ o with es:=aS o.es++[(k,v)] }) with bytes:=h.bytes-40*(o.es.length-(aS o.es).length)+40,G6:=h.G6+40 } x y) G L):=by
  refine ((d.keep s (fun c=>p c.symm)).set (j:=4) (by omega) _).congr (fun j hj=>?_);rw [P j hj];have E:(h.upd n (fun o=>{ o with es:=aS o.es++[(k,v)] })).objs.length=h.objs.length:=h.Hz n _;refine bJ (fun j=>(if j=4 then (.int .i64 ((h.bytes-40*(o.es.length-(aS o.es).length)+40:Nat):Int):Value) else if j=5 then .int .i64 ((h.G6:Int)+40) else kK (h.wk x y) G L j)=kK (Hp.wk { h.upd n (fun o=>{ o with es:=aS o.es++[(k,v)] }) with bytes:=h.bytes-40*(o.es.length-(aS o.es).length)+40,G6:=h.G6+40 } x y) G L j) rfl rfl ?_ rfl rfl rfl rfl rfl rfl rfl rfl rfl rfl rfl rfl rfl rfl rfl rfl j hj;simp only [kK,Hp.wk,E];rfl
 have l:Keeps w2 ((w4'.setCell ⟨L.tb n,2,none⟩ (.int .i64 ((40+40*(q+1):Nat):Int))).setCell ⟨L.H,4,none⟩ (.int .i64 ((h.bytes-40*(o.es.length-(aS o.es).length)+40:Nat):Int))) (fun c=>c=L.H∨c=L.tb n∨(L.es n).ownBlock=some c∨dx (L.mp n)=some c):=((kk.trans (k0 _)).trans (s.mono (fun c e=>Or.inr (Or.inl e)))).trans (u.mono (fun c e=>Or.inl e));have C:=aj (aj b.e s (fun g hg c=>ak b.e b.r (by decide) (c ▸ hg))) u (fun g hg c=>ak b.e d (by decide) (c ▸ hg));have B:=(b.m.keep s (fun g hg c=>b.m.apart b.r (c ▸ hg))).keep u (fun g hg c=>b.m.apart d (c ▸ hg));have:=a.K_ (h':=Hp.wk { h.upd n (fun o=>{ o with es:=aS o.es++[(k,v)] }) with bytes:=h.bytes-40*(o.es.length-(aS o.es).length)+40,G6:=h.G6+40 } x y) (fun o=>{ o with es:=aS o.es++[(k,v)] }) ho ev mv l D (fun m=>rfl) (fun j hj=>by rcases hj with rfl|rfl|rfl|rfl|rfl|rfl|rfl|rfl|rfl<;>rfl) z C B Q hm;exact ⟨this.1,this.2,T⟩
theorem Eo (a:M0 base S (h.wk x y) G L w) (r:PR h x y G) (ho:h.ob n=some o) {k v:HV} (q:Kv h o k) (u:kG o.es k=none) (s:v.isNone=true):
 Calls Tryz.prog 73 #[.pointer (some ⟨L.H,0,none⟩),.pointer (some ⟨L.tb n,0,none⟩),.agg #[.int .i64 (vk k),.int .i64 (vi k),.int .u64 0,.string ByteArray.empty,aK L.tb k],.agg #[.int .i64 (vk v),.int .i64 (vi v),.int .u64 0,.string ByteArray.empty,aK L.tb v]] w fun e' w'=>e'=.returned (.tuple #[])/\∃ L',MG L L'/\PS base S (h.put n k v) L' w'/\Keeps w w' S:=by
 have D:Hq (h.put n k v=h):=ah (by unfold Hp.put;rw [ho];simp only;rw [u];simp only;rw [if_pos s]);have HR:=ah r;clear r;have Z:=ah ((d_ w L.tb k).keep (Keeps.of (aU (w.alloc (.cells (gG L.tb k) 143)) (.cells (gG L.tb v) 143)) (au _) (fun _=>False)) (fun x=>x));have e:=ah (d_ (w.alloc (.cells (gG L.tb k) 143)) L.tb v);have M:=ah ((aU w (.cells (gG L.tb k) 143)).trans ((aU (w.alloc (.cells (gG L.tb k) 143)) (.cells (gG L.tb v) 143)).mono (aU w (.cells (gG L.tb k) 143)).size));have J:(w.alloc (.cells (gG L.tb k) 143)).heap.size=w.heap.size+1:=aG _;rw [J] at e;clear J;have p:=ah (a.low M.o);have E:=ah ho;have d:=ah q;have HF:=ah u;have F:=q.len;clear a ho q u;go_enter Tryz.func73,Tryz.ntmps73;go_upto_region 1 with (fail)
 change Code.wp _ _ _ _ ((w.alloc (.cells (gG L.tb k) 143)).alloc (.cells (gG L.tb v) 143));generalize (w.alloc (.cells (gG L.tb k) 143)).alloc (.cells (gG L.tb v) 143)=w2 at *;generalize K:w.heap.size=X at *;have B:=ah K;clear K;obtain ⟨A,z,b,g,-⟩:=p.o.ents E.o;have Y:w2.cell? ⟨L.tb n,7,none⟩=some (.slice A o.es.length z):=by rw [<-b];exact (p.o.ob n o E.o).c 7
 have a0:=ah b;clear b g;obtain ⟨x0,x1,W,V,U⟩:NC w2 X L.tb k:=Z.o.c5;have T:w2.cell? ⟨X+1,0,none⟩=some (.int .i64 (vk v)):=e.o.c 0;have R:w2.cell? ⟨X+1,1,none⟩=some (.int .i64 (vi v)):=e.o.c 1;have Q:w2.cell? ⟨X+1,2,none⟩=some (.int .u64 0):=e.o.c 2;have P:w2.cell? ⟨X+1,3,none⟩=some (.string ByteArray.empty):=e.o.c 3;have N:w2.cell? ⟨X+1,4,none⟩=some (aK L.tb v):=e.o.c 4;have C:=ah (CQ (p.o.Nc E.o) (k:=k) (v:=v) d.o.kk d.o.ks (p.o.hd d.o.kv) HF.o s);clear s;go_wp2_with fail;refine C.o.mono ?_;rintro e3 w3 ⟨rfl,j⟩;have l:=ah j;clear j Y x0 x1 W V U T R Q P N;go_wp2
 ((try simp only [Exit.inBlock,Exit.then]);refine bodyPost_ret (results_none rfl _ _ _) rfl ?_)
 exact ⟨rfl,L,MG.refl L,by rw [D.o];exact ⟨x,y,G,p.o.low l.o,HR.o⟩,(Keeps.of M.o (aO B.o) S).trans (Keeps.of l.o (au _) S)⟩
theorem D_ (a:M0 base S (h.wk x y) G L w) (r:PR h x y G) (ho:h.ob n=some o) {k v:HV} (R:Kv h o k) (P:kG o.es k=some i):
 Calls Tryz.prog 73 #[.pointer (some ⟨L.H,0,none⟩),.pointer (some ⟨L.tb n,0,none⟩),.agg #[.int .i64 (vk k),.int .i64 (vi k),.int .u64 0,.string ByteArray.empty,aK L.tb k],.agg #[.int .i64 (vk v),.int .i64 (vi v),.int .u64 0,.string ByteArray.empty,aK L.tb v]] w fun e' w'=>e'=.returned (.tuple #[])/\∃ L',MG L L'/\PS base S (h.put n k v) L' w'/\Keeps w w' S:=by
 have Y:Hq (h.put n k v=(h.ents n (o.es.set i (k,v))).back n):=ah (by
  unfold Hp.put;rw [ho];simp only;rw [P];simp only;obtain ⟨e,he,T⟩:=vQ P;rw [sW ho he,T])
 have HR:=ah r;clear r;have HX:=ah ((d_ w L.tb k).keep (Keeps.of (aU (w.alloc (.cells (gG L.tb k) 143)) (.cells (gG L.tb v) 143)) (au _) (fun _=>False)) (fun x=>x));have s:=ah (d_ (w.alloc (.cells (gG L.tb k) 143)) L.tb v);have HB:=ah ((aU w (.cells (gG L.tb k) 143)).trans ((aU (w.alloc (.cells (gG L.tb k) 143)) (.cells (gG L.tb v) 143)).mono (aU w (.cells (gG L.tb k) 143)).size));have hZ:(w.alloc (.cells (gG L.tb k) 143)).heap.size=w.heap.size+1:=aG _;rw [hZ] at s;clear hZ;have HA:=ah (a.low HB.o);have Q:=ah ho;have g:=ah R;have HF:=ah P;have a4:=R.len;clear a ho R P;go_enter Tryz.func73,Tryz.ntmps73;go_upto_region 1 with (fail)
 change Code.wp _ _ _ _ ((w.alloc (.cells (gG L.tb k) 143)).alloc (.cells (gG L.tb v) 143));generalize (w.alloc (.cells (gG L.tb k) 143)).alloc (.cells (gG L.tb v) 143)=w2 at *;generalize hX:w.heap.size=X at *;have V:=ah hX;clear hX;obtain ⟨A,j,l,J,-⟩:=HA.o.ents Q.o;have c7:w2.cell? ⟨L.tb n,7,none⟩=some (.slice A o.es.length j):=by rw [<-l];exact (HA.o.ob n o Q.o).c 7
 have N:=ah l;clear l J;obtain ⟨x0,x1,x2,x3,x4⟩:NC w2 X L.tb k:=HX.o.c5;have y0:w2.cell? ⟨X+1,0,none⟩=some (.int .i64 (vk v)):=s.o.c 0;have y1:w2.cell? ⟨X+1,1,none⟩=some (.int .i64 (vi v)):=s.o.c 1;have y2:w2.cell? ⟨X+1,2,none⟩=some (.int .u64 0):=s.o.c 2;have y3:w2.cell? ⟨X+1,3,none⟩=some (.string ByteArray.empty):=s.o.c 3;have y4:w2.cell? ⟨X+1,4,none⟩=some (aK L.tb v):=s.o.c 4;have W:=ah (BJ HA.o Q.o (k:=k) (v:=v) g.o.kk g.o.ks g.o.kv HF.o g.o.len);go_wp2_with fail;refine W.o.mono ?_;rintro e3 w3 ⟨rfl,b,F⟩;have a2:=ah (show M0 base S ((h.ents n (o.es.set i (k,v))).wk x y) G L w3 from b);have a0:=ah F;have d:=Hp.Ij Q.o (o.es.set i (k,v));have q:=ah d;have d7:w3.cell? ⟨L.tb n,7,none⟩=some (.slice A o.es.length j):=by rw [<-N.o];exact (b.ob n _ d).c 7
 have d2:w3.cell? ⟨L.tb n,2,none⟩=some (.int .i64 ((40+40*o.es.length:Nat):Int)):=by
  have:=(b.ob n _ d).c 2;rw [this];simp [nM]
 have d4:w3.cell? ⟨L.H,4,none⟩=some (.int .i64 (h.bytes:Int)):=b.hp.c 4;have C:L.tb n≠L.H:=fun c=>(b.ob n _ d).apart b.hp (by decide) c;have a3:L.H≠L.tb n:=fun c=>C c.symm;have z:=(b.ob n _ d).lt;have K:=b.hp.lt;have z2:=(b.ob n _ d).ME 2;have z4:=b.hp.ME 4;have U:=g.o.Nn;have M:=ah (fun (w':World) (hb:Below w3.heap.size w3 w')=>jK w' (L.tb n) L.H ((40+40*o.es.length:Nat):Int) (h.bytes:Int) 0 ((hb.cell (p:=⟨L.tb n,2,none⟩) z).trans d2) ((hb.cell (p:=⟨L.H,4,none⟩) K).trans d4) ((hb.frozen (p:=⟨L.tb n,2,none⟩) z).trans z2) ((hb.frozen (p:=⟨L.H,4,none⟩) K).trans z4) C (by omega) (by omega) (by omega));simp only [Int.add_zero] at M;clear b F d c7 x0 x1 x2 x3 x4 y0 y1 y2 y3 y4 z2 z4 d2 d4 U;go_wp2_with fail
 go_region_held3 (fun w'=>w'.cell? ⟨L.tb n,7,none⟩=some (.slice A o.es.length j)) (go_keep)
  (first
    |(go_at_call 105
      refine (M.o _ (aC (aT _ _) _)).mono ?_;rintro e4 w4 ⟨rfl,u⟩;have H4:=ah (a2.o.Ld q.o (by simp) (aC (aT _ _) _) u);have t7:w4.cell? ⟨L.tb n,7,none⟩=some (.slice A o.es.length j):=by
       have:=(H4.o.1.ob n _ q.o).c 7;rw [this];exact congrArg some N.o
      clear u)
    |fail)
 clear t7 d7;have Z:=ah (show PS base S (h.ents n (o.es.set i (k,v))) L w4 from ⟨x,y,G,H4.o.1,HR.o.same rfl rfl rfl rfl rfl (Hp.Ie h n _) (Ck h n _)⟩);have a1:=ah (pU Z.o (n:=n) (o:={ o with es:=o.es.set i (k,v) }) q.o g.o.ag);go_wp2_with fail;refine a1.o.mono ?_;rintro e5 w5 ⟨rfl,L5,D,B,E⟩;have H5:=ah (And.intro D (And.intro B E));clear D B E;go_wp2;go_end0;exact ⟨rfl,L5,H5.o.1.y,by rw [Y.o];exact H5.o.2.1,(((Keeps.of HB.o (aO V.o) S).trans a0.o).trans H4.o.2).trans H5.o.2.2⟩
theorem CZ (a:M0 base S (h.wk x y) G L w) (r:PR h x y G) (ho:h.ob n=some o) {k v:HV} (po:Kv h o k) (hf:kG o.es k=none) (hv:v.isNone=false):
 Calls Tryz.prog 73 #[.pointer (some ⟨L.H,0,none⟩),.pointer (some ⟨L.tb n,0,none⟩),.agg #[.int .i64 (vk k),.int .i64 (vi k),.int .u64 0,.string ByteArray.empty,aK L.tb k],.agg #[.int .i64 (vk v),.int .i64 (vi v),.int .u64 0,.string ByteArray.empty,aK L.tb v]] w fun e' w'=>e'=.returned (.tuple #[])/\∃ L',MG L L'/\PS base S (h.put n k v) L' w'/\Keeps w w' S:=by
 have a9:Hq (h.put n k v=h.Ic n o k v):=ah (by unfold Hp.put;rw [ho];simp only;rw [hf];simp only;rw [if_neg (by rw [hv];simp)]);have HR:=ah r;clear r;have HX:=ah ((d_ w L.tb k).keep (Keeps.of (aU (w.alloc (.cells (gG L.tb k) 143)) (.cells (gG L.tb v) 143)) (au _) (fun _=>False)) (fun x=>x));have K:=ah (d_ (w.alloc (.cells (gG L.tb k) 143)) L.tb v);have HB:=ah ((aU w (.cells (gG L.tb k) 143)).trans ((aU (w.alloc (.cells (gG L.tb k) 143)) (.cells (gG L.tb v) 143)).mono (aU w (.cells (gG L.tb k) 143)).size));have hZ:(w.alloc (.cells (gG L.tb k) 143)).heap.size=w.heap.size+1:=aG _;rw [hZ] at K;clear hZ;have l:=ah (a.low HB.o);have C:=ah ho;have d:=ah po;have HF:=ah hf;have b5:=po.len;clear a ho po hf;go_enter Tryz.func73,Tryz.ntmps73;go_upto_region 1 with (fail)
 change Code.wp _ _ _ _ ((w.alloc (.cells (gG L.tb k) 143)).alloc (.cells (gG L.tb v) 143));generalize (w.alloc (.cells (gG L.tb k) 143)).alloc (.cells (gG L.tb v) 143)=w2 at *;generalize hX:w.heap.size=X at *;have a4:=ah hX;clear hX;obtain ⟨A,a3,F,Z,-⟩:=l.o.ents C.o;have c7:w2.cell? ⟨L.tb n,7,none⟩=some (.slice A o.es.length a3):=by rw [<-F];exact (l.o.ob n o C.o).c 7
 have b9:=ah F;clear F Z;obtain ⟨x0,x1,x2,x3,x4⟩:NC w2 X L.tb k:=HX.o.c5;have y0:w2.cell? ⟨X+1,0,none⟩=some (.int .i64 (vk v)):=K.o.c 0;have y1:w2.cell? ⟨X+1,1,none⟩=some (.int .i64 (vi v)):=K.o.c 1;have y2:w2.cell? ⟨X+1,2,none⟩=some (.int .u64 0):=K.o.c 2;have y3:w2.cell? ⟨X+1,3,none⟩=some (.string ByteArray.empty):=K.o.c 3;have y4:w2.cell? ⟨X+1,4,none⟩=some (aK L.tb v):=K.o.c 4;have a7:=ah (Aw (l.o.Nc C.o) (k:=k) (v:=v) d.o.kk d.o.ks (l.o.hd d.o.kv) HF.o hv d.o.len (fun e he=>l.o.hd (d.o.ev e he)) d.o.kn l.o.bs);clear hv;go_wp2_with fail;refine a7.o.mono ?_;rintro e3 w3 ⟨rfl,b8,M,D,E,Y,T⟩;have u:=ah (l.o.hp.keep E (fun c=>by
  rcases c with c|c|c
  ·exact l.o.hp.apart (l.o.ob n o C.o) (by decide) c
  ·exact ak (l.o.en n o C.o) l.o.hp (by decide) c
  ·exact (l.o.mp n o C.o).apart l.o.hp c))
 have c5:w3.cell? ⟨L.H,5,none⟩=some (.int .i64 (h.G6:Int)):=u.o.c 5;have z5:=u.o.ME 5;have b6:=d.o.cr;have H3:=ah (And.intro D (And.intro E (And.intro Y T)));have R:L.tb n≠L.H:=fun c=>D.r.apart u.o (by decide) c;have b4:L.H≠L.tb n:=fun c=>R c.symm;clear D E Y T c7 x0 x1 x2 x3 x4 y0 y1 y2 y3 y4;go_upto_region 6 with (fail)
 have B:=ah (u.o.set (j:=5) (by omega) (.int .i64 ((h.G6:Int)+40)));have s:=ah (H3.o.1.off (w':=w3.setCell ⟨L.H,5,none⟩ (.int .i64 ((h.G6:Int)+40))) (Keeps.setCell (S:=fun b=>b=L.H) (Keeps.refl w3 _) rfl _) u.o);have b2:=ah (show Keeps w2 (w3.setCell ⟨L.H,5,none⟩ (.int .i64 ((h.G6:Int)+40))) (fun c=>c=L.H∨c=L.tb n∨(L.es n).ownBlock=some c∨dx (L.mp n)=some c) from (H3.o.2.1.mono (fun c e=>Or.inr e)).trans (Keeps.setCell (S:=fun c=>c=L.H∨c=L.tb n∨(L.es n).ownBlock=some c∨dx (L.mp n)=some c) (Keeps.refl w3 _) (.inl rfl) _));generalize w3.setCell ⟨L.H,5,none⟩ (.int .i64 ((h.G6:Int)+40))=w4 at *;clear c5 z5;obtain ⟨A4,g,W,-,-⟩:=iA s.o.e;subst W;have z:(aS o.es++[(k,v)]).length=(aS o.es).length+1:=by simp
 have d7:w4.cell? ⟨L.tb n,7,none⟩=some (.slice A4 (aS o.es++[(k,v)]).length g):=s.o.r.c 7;have d2:w4.cell? ⟨L.tb n,2,none⟩=some (.int .i64 ((40+40*o.es.length:Nat):Int)):=s.o.r.c 2;have d4:w4.cell? ⟨L.H,4,none⟩=some (.int .i64 (h.bytes:Int)):=B.o.c 4;have P:=s.o.r.lt;have a0:=B.o.lt;have z2:=s.o.r.ME 2;have z4:=B.o.ME 4;have b7:=d.o.Nn;have a2:=d.o.fr;have a1:=lD o.es;rw [z] at d7;obtain ⟨q,hq⟩:∃ q,(aS o.es).length=q:=⟨_,rfl⟩
 rw [hq] at d7 a1 z;have HQ:=ah hq;have J:=ah z;clear hq z;have a8:=ah (fun (w':World) (hb:Below w4.heap.size w4 w')=>jK w' (L.tb n) L.H ((40+40*o.es.length:Nat):Int) (h.bytes:Int) (((q:Int)+1-(o.es.length:Int))*40) ((hb.cell (p:=⟨L.tb n,2,none⟩) P).trans d2) ((hb.cell (p:=⟨L.H,4,none⟩) a0).trans d4) ((hb.frozen (p:=⟨L.tb n,2,none⟩) P).trans z2) ((hb.frozen (p:=⟨L.H,4,none⟩) a0).trans z4) R (by omega) (by omega) (by omega));have a6:=ah (IntWalk.i64_in (n:=(q:Int)+1-(o.es.length:Int)) (by constructor<;>omega));have a5:=ah (IntWalk.i64_in (n:=((q:Int)+1-(o.es.length:Int))*40) (by constructor<;>omega));clear z2 z4 d2 d4;go_wp2_with fail
 go_region_held3 (fun w'=>w'.cell? ⟨L.tb n,7,none⟩=some (.slice A4 (q+1) g)) (go_keep)
  (first
    |(go_at_call 105
      rw [a6.o,a5.o];refine (a8.o _ (aC (aT _ _) _)).mono ?_;rintro e5 w5 ⟨rfl,N⟩;have H5:=ah (CO l.o C.o s.o B.o (fun _ _=>rfl) b2.o H3.o.2.2.1 H3.o.2.2.2 J.o HQ.o a2 (aC (aT _ _) _) N);have t7:w5.cell? ⟨L.tb n,7,none⟩=some (.slice A4 (q+1) g):=by rw [<-J.o];exact H5.o.2.2
      clear N)
    |fail)
 clear t7 d7;have b0:=ah (show PS base S { h.upd n (fun o=>{ o with es:=aS o.es++[(k,v)] }) with bytes:=h.bytes-40*(o.es.length-(aS o.es).length)+40,G6:=h.G6+40 } (L.M8 n (.slice A4 (q+1) g) M) w5 from ⟨x,y,G,by rw [<-J.o];exact H5.o.1,HR.o.same rfl rfl rfl rfl rfl (h.Hz n _) (Av h n _)⟩);have b1:Hq (Hp.ob { h.upd n (fun o=>{ o with es:=aS o.es++[(k,v)] }) with bytes:=h.bytes-40*(o.es.length-(aS o.es).length)+40,G6:=h.G6+40 } n=some { o with es:=aS o.es++[(k,v)] }):=ah (by
  show (h.upd n _).ob n=_;rw [Hp.Ho,if_pos rfl,C.o];rfl)
 have b3:=ah (pU b0.o b1.o d.o.ag);go_wp2_with fail;refine b3.o.mono ?_;rintro e6 w6 ⟨rfl,L6,U,Q,V⟩;have H6:=ah (And.intro U (And.intro Q V));clear U Q V;go_wp2;go_end0;exact ⟨rfl,L6,(show MG L (L.M8 n (.slice A4 (q+1) g) M) from ⟨rfl,rfl⟩).trans H6.o.1.y,by rw [a9.o];exact H6.o.2.1,((Keeps.of HB.o (aO a4.o) S).trans H5.o.2.1).trans H6.o.2.2⟩
theorem pW (p:PS base S h L w) (ho:h.ob n=some o) {k v:HV} (b:Kv h o k):
 Calls Tryz.prog 73 #[.pointer (some ⟨L.H,0,none⟩),.pointer (some ⟨L.tb n,0,none⟩),.agg #[.int .i64 (vk k),.int .i64 (vi k),.int .u64 0,.string ByteArray.empty,aK L.tb k],.agg #[.int .i64 (vk v),.int .i64 (vi v),.int .u64 0,.string ByteArray.empty,aK L.tb v]] w fun e' w'=>e'=.returned (.tuple #[])/\∃ L',MG L L'/\PS base S (h.put n k v) L' w'/\Keeps w w' S:=by
 obtain ⟨x,y,G,a,r⟩:=p;cases hf:kG o.es k with
 |some i=>exact D_ a r ho b hf
 |none=>
  cases hv:v.isNone with
  |true=>exact Eo a r ho b hf hv
  |false=>exact CZ a r ho b hf hv
end
section
variable {N N0 X base m n:Nat} {S:Nat->Prop} {es:List En} {h:Hp} {tb tb':Nat->Nat} {v:Value} {w w1:World} {x y:List Nat}
structure MF (h:Hp):Prop where
 r:∀ n o,h.ob n=some o->∀ e∈o.es,∀ r∈dw e,r<h.objs.length
 k:∀ n o,h.ob n=some o->∀ e∈o.es,e.2.isSome=true->e.1.isSome=true
def mI (N N0 m:Nat):Nat:=if m=N then N0 else m
def BD (tb:Nat->Nat) (N N0 X m:Nat):Nat:=if m=N then X else if m=N0 then tb N else tb m
theorem wD (h:N<N0) (hm:m≠N0):BD tb N N0 X (mI N N0 m)=tb m:=by
 unfold BD mI;by_cases c:m=N
 ·rw [if_pos c,if_neg (by omega),if_pos rfl,c]
 ·rw [if_neg c,if_neg c,if_neg hm]
theorem EJ (h:N<N0) (hm:m<N):BD tb N N0 X m=tb m:=by
 unfold BD;rw [if_neg (by omega),if_neg (by omega)]
theorem Er (hm:m<N):mI N N0 m=m:=by unfold mI;rw [if_neg (by omega)]
theorem gT {l:List Nat} (h:∀ n∈l,n<N):l.map (mI N N0)=l:=by
 conv=>rhs;rw [<-List.map_id l]
 exact List.map_congr_left (fun n hn=>Er (h n hn))
theorem zX {k:Nat} (hk:k≠18) (h:tb' m=tb n):eP tb' k m=eP tb k n:=by
 unfold eP oZ jL oZ;rw [h,if_neg hk,if_neg hk]
theorem Ae {v:HV} (h:∀ r∈bQ v,tb' r=tb r):aK tb' v=aK tb v:=by
 cases v with
 |none=>rfl
 |some x=>cases x with
  |inl z=>rfl
  |inr n=>
   show jL tb' n=jL tb n;unfold jL oZ;rw [h n (by simp [bQ])]
theorem Ee (h:∀ e∈es,∀ r∈dw e,tb' r=tb r):jg tb' es=jg tb es:=by
 unfold jg
 induction es with
 |nil=>rfl
 |cons e l ih=>
  rw [List.flatMap_cons,List.flatMap_cons,ih (fun e' he'=>h e' (List.mem_cons_of_mem _ he'))];congr 1;unfold jG kE;rw [Ae (fun r hr=>h e (List.mem_cons_self ..) r (List.mem_append_left _ hr)),Ae (fun r hr=>h e (List.mem_cons_self ..) r (List.mem_append_right _ hr))]
theorem jO:∀ l:List Nat,∃ B,∀ n∈l,n<B
 | []=>⟨0,fun n hn=>by simp at hn⟩
 |a::l=>by
  obtain ⟨B,hB⟩:=jO l;refine ⟨max B (a+1),fun n hn=>?_⟩;rcases jm.1 hn with rfl|c
  ·omega
  ·have:=hB n c;omega
def PM.mk1 (L:PM) (N N0 X:Nat) (v:Value):PM:=⟨L.H,BD L.tb N N0 X,fun m=>if m=N then .slice none 0 0 else L.es m,fun m=>if m=N then .map none else L.mp m,fun j=>if j=7 then v else L.li j⟩
def Gh.mk1 (G:Gh) (N N0:Nat):Gh:={ G with Ns:=G.Ns.map (mI N N0)++[N],ag:=G.ag.map (mI N N0) }
theorem gP (h:Hp) (m n:Nat):(h.make m).ob n=if n=h.objs.length then some ⟨h.white,m,[],false⟩ else h.ob n:=h.IY _ n
theorem M0.made {G:Gh} {L:PM} (a:M0 base S (h.wk x y) G L w) (b:MF h) (P:∀ n,n∈h.roots∨n∈h.grey∨n∈h.finals∨n∈h.pending->n<h.objs.length)
 (hN:h.objs.length<N0) (h0:∀ n,n∈x∨n∈y∨n∈G.ag∨n∈G.Ns->n<N0)
 (kk:Keeps w w1 (fun c=>c=L.H∨(L.li 7).ownBlock=some c)) (hX:w.heap.size<=X)
 (hh:aD w1 77 L.H 19 (kK ((h.make m).wk (x.map (mI h.objs.length N0)) (y.map (mI h.objs.length N0))) (G.mk1 h.objs.length N0) (L.mk1 h.objs.length N0 X v)))
 (hr:aD w1 136 X 13 (nM ⟨h.white,m,[],false⟩ h.objs.length (.slice none 0 0) (.map none)))
 (hown:w1.ownsRow base 67 1 v (G.Ns.length+1) (G.Ns.map (eP L.tb 7)++[.iface 127 (.pointer (some ⟨X,0,none⟩))])) (hv:∀ g,v.ownBlock=some g->(L.li 7).ownBlock=some g∨w.heap.size<=g):
 M0 base S ((h.make m).wk (x.map (mI h.objs.length N0)) (y.map (mI h.objs.length N0))) (G.mk1 h.objs.length N0) (L.mk1 h.objs.length N0 X v) w1/\Keeps w w1 S:=by
 generalize Q:h.objs.length=N at *;have a0:∀ n,((h.make m).wk (x.map (mI N N0)) (y.map (mI N N0))).ob n=if n=N then some ⟨h.white,m,[],false⟩ else h.ob n:=fun n=>by
  rw [<-Q];exact gP h m n
 have a1:∀ n o,h.ob n=some o->n<N:=fun n o e=>by rw [<-Q];exact Hp.Ia e
 have d:∀ n o,((h.make m).wk (x.map (mI N N0)) (y.map (mI N N0))).ob n=some o->(n=N/\o=⟨h.white,m,[],false⟩)∨(n<N/\n≠N/\h.ob n=some o):=by
  intro n o e;rw [a0] at e;split at e
  ·rename_i c;simp at e;exact .inl ⟨c,e.symm⟩
  ·rename_i c;exact .inr ⟨a1 n o e,c,e⟩
 have M:∀ n,n<N->(L.mk1 N N0 X v).tb n=L.tb n:=fun n l=>EJ hN l;have R:(L.mk1 N N0 X v).tb N=X:=by show BD L.tb N N0 X N=X;unfold BD;rw [if_pos rfl]
 have el:∀ n,n≠N->(L.mk1 N N0 X v).es n=L.es n:=fun n l=>by show (if n=N then _ else _)=_;rw [if_neg l]
 have eN:(L.mk1 N N0 X v).es N=.slice none 0 0:=by show (if N=N then _ else _)=_;rw [if_pos rfl]
 have ml:∀ n,n≠N->(L.mk1 N N0 X v).mp n=L.mp n:=fun n l=>by show (if n=N then _ else _)=_;rw [if_neg l]
 have U:(L.mk1 N N0 X v).mp N=.map none:=by show (if N=N then _ else _)=_;rw [if_pos rfl]
 have ll:∀ j,j≠7->(L.mk1 N N0 X v).li j=L.li j:=fun j s=>by show (if j=7 then _ else _)=_;rw [if_neg s]
 have l7:(L.mk1 N N0 X v).li 7=v:=rfl;have hw:=a.bs;have h7:=a.li 7 (by simp [eF]);have hR:∀ {T g n:Nat} {f:Nat->Value},aD w T g n f->T≠77->T≠67->¬ (g=L.H∨(L.li 7).ownBlock=some g):=by
  intro T g n f q1 q2 q3 Y;rcases Y with Y|Y
  ·exact q1.apart a.hp q2 Y
  ·exact ak h7 q1 (Ne.symm q3) Y
 have hS:∀ c,(c=L.H∨(L.li 7).ownBlock=some c)->S c:=by
  intro c e;rcases e with e|e
  ·exact e ▸ a.sH
  ·exact a.sl 7 c (by simp [eF]) e
 have W:∀ n o,h.ob n=some o->L.tb n<w.heap.size:=fun n o e=>(a.ob n o e).lt;have Z:∀ j g,eF j->(L.li j).ownBlock=some g->g<w.heap.size:=fun j g s e=>(ay (a.li j s) e).lt;refine ⟨⟨hh,fun n o e=>?_,fun n o e=>?_,fun n o e=>?_,fun j s=>?_,?_,?_,?_,?_,a.bH,?_,?_,aI a.bs kk.size,a.sH,?_,?_,?_,?_,fun c hc=>a.up c (aI kk.size hc)⟩,kk.mono hS⟩
 ·rcases d n o e with ⟨rfl,rfl⟩|⟨t,q,k⟩
  ·rw [R,eN,U];exact hr
  ·rw [M n t,el n q,ml n q]
   exact (a.ob n o k).keep kk (hR (a.ob n o k) (by decide) (by decide))
 ·rcases d n o e with ⟨rfl,rfl⟩|⟨t,q,k⟩
  ·rw [eN];exact ⟨rfl,.inl ⟨rfl,rfl⟩⟩
  ·rw [el n q,Ee (fun u he' r hr'=>M r (by have:=b.r n o k u he' r hr';rw [Q] at this;exact this))]
   exact aj (a.en n o k) kk (fun g i=>hR (ay (a.en n o k) i) (by decide) (by decide))
 ·rcases d n o e with ⟨rfl,rfl⟩|⟨t,q,k⟩
  ·rw [U];exact .inl ⟨rfl,rfl⟩
  ·rw [ml n q]
   refine (a.mp n o k).keep kk (fun g i y=>?_);rcases y with y|y
   ·exact (a.mp n o k).apart a.hp (y ▸ i)
   ·exact (a.mp n o k).apart (ay h7 y) i
 ·by_cases c7:j=7
  ·subst c7
   rw [l7];have e1:(eU ((h.make m).wk (x.map (mI N N0)) (y.map (mI N N0))) (G.mk1 N N0) 7)=G.Ns.map (mI N N0)++[N]:=rfl;rw [e1,List.map_append,bI,bY,List.map_map];have e2:G.Ns.map (eP (L.mk1 N N0 X v).tb 7 ∘ mI N N0)=G.Ns.map (eP L.tb 7):=List.map_congr_left (fun n l=>zX (by decide) (wD hN (Nat.ne_of_lt (h0 n (.inr (.inr (.inr l)))))));rw [e2];have e3:[N].map (eP (L.mk1 N N0 X v).tb 7)=[.iface 127 (.pointer (some ⟨X,0,none⟩))]:=by
    show [jL (L.mk1 N N0 X v).tb N]=_;unfold jL oZ;rw [R]
   rw [e3];exact hown
  ·rw [ll j c7]
   have h9:=aj (a.li j s) kk (fun g i y=>by
    rcases y with y|y
    ·exact ak (a.li j s) a.hp (iH s).1 (y ▸ i)
    ·exact c7 (a.lj j 7 g s (by simp [eF]) i y))
   by_cases K:j=18
   ·subst K
    exact h9
   ·have e1:eU ((h.make m).wk (x.map (mI N N0)) (y.map (mI N N0))) (G.mk1 N N0) j=(eU (h.wk x y) G j).map (mI N N0):=by
     rcases s with rfl|rfl|rfl|rfl|rfl|rfl|rfl|rfl|rfl
     ·exact absurd rfl c7
     ·exact (gT (fun n l=>P n (.inl l))).symm
     ·exact (gT (fun n l=>P n (.inr (.inl l)))).symm
     ·rfl
     ·rfl
     ·rfl
     ·exact (gT (fun n l=>P n (.inr (.inr (.inl l))))).symm
     ·exact (gT (fun n l=>P n (.inr (.inr (.inr l))))).symm
     ·exact absurd rfl K
    have e0:∀ n∈eU (h.wk x y) G j,n≠N0:=by
     intro n l;rcases s with rfl|rfl|rfl|rfl|rfl|rfl|rfl|rfl|rfl
     ·exact absurd rfl c7
     ·have:=P n (.inl l);omega
     ·have:=P n (.inr (.inl l));omega
     ·have:=h0 n (.inr (.inr (.inl l)));omega
     ·have:=h0 n (.inl l);omega
     ·have:=h0 n (.inr (.inl l));omega
     ·have:=P n (.inr (.inr (.inl l)));omega
     ·have:=P n (.inr (.inr (.inr l)));omega
     ·exact absurd rfl K
    have e2:((eU (h.wk x y) G j).map (mI N N0)).map (eP (L.mk1 N N0 X v).tb j)=(eU (h.wk x y) G j).map (eP L.tb j):=by
     rw [List.map_map];exact List.map_congr_left (fun n l=>zX K (wD hN (e0 n l)))
    rw [e1,e2,bY];exact h9
 ·intro n B o D e u A
  rcases d n o e with ⟨rfl,rfl⟩|⟨t,q,k⟩<;>rcases d B D u with ⟨rfl,rfl⟩|⟨J,F,C⟩
  ·rfl
  ·rw [R,M B J] at A
   have:=W B D C;omega
  ·rw [R,M n t] at A
   have:=W n o k;omega
  ·rw [M n t,M B J] at A
   exact a.ij n B o D k C A
 ·intro n B o D g e u A p
  rcases d n o e with ⟨rfl,rfl⟩|⟨t,q,k⟩
  ·rw [eN] at A;simp [Value.ownBlock] at A
  ·rcases d B D u with ⟨rfl,rfl⟩|⟨J,F,C⟩
   ·rw [eN] at p;simp [Value.ownBlock] at p
   ·rw [el n q] at A;rw [el B F] at p
    exact a.ei n B o D g k C A p
 ·intro n B o D g e u A p
  rcases d n o e with ⟨rfl,rfl⟩|⟨t,q,k⟩
  ·rw [U] at A;simp [dx] at A
  ·rcases d B D u with ⟨rfl,rfl⟩|⟨J,F,C⟩
   ·rw [U] at p;simp [dx] at p
   ·rw [ml n q] at A;rw [ml B F] at p
    exact a.mi n B o D g k C A p
 ·intro j V g s E e u
  by_cases c:j=7<;>by_cases c':V=7
  ·rw [c,c']
  ·subst c
   rw [l7] at e;rw [ll V c'] at u;rcases hv g e with z|z
   ·exact a.lj 7 V g s E z u
   ·have:=Z V g E u;omega
  ·subst c'
   rw [l7] at u;rw [ll j c] at e;rcases hv g u with z|z
   ·exact a.lj j 7 g s E e z
   ·have:=Z j g s e;omega
  ·rw [ll j c] at e;rw [ll V c'] at u
   exact a.lj j V g s E e u
 ·intro n o e
  rcases d n o e with ⟨rfl,rfl⟩|⟨t,q,k⟩
  ·rw [R];omega
  ·rw [M n t];exact a.bt n o k
 ·intro n o g e i
  rcases d n o e with ⟨rfl,rfl⟩|⟨t,q,k⟩
  ·rw [U] at i;simp [dx] at i
  ·rw [ml n q] at i;exact a.bm n o g k i
 ·intro n o e
  rcases d n o e with ⟨rfl,rfl⟩|⟨t,q,k⟩
  ·rw [R];exact a.up X hX
  ·rw [M n t];exact a.st n o k
 ·intro n o g e i
  rcases d n o e with ⟨rfl,rfl⟩|⟨t,q,k⟩
  ·rw [eN] at i;simp [Value.ownBlock] at i
  ·rw [el n q] at i;exact a.se n o g k i
 ·intro n o g e i
  rcases d n o e with ⟨rfl,rfl⟩|⟨t,q,k⟩
  ·rw [U] at i;simp [dx] at i
  ·rw [ml n q] at i;exact a.sm n o g k i
 ·intro j g s i
  by_cases c:j=7
  ·subst c
   rw [l7] at i;rcases hv g i with z|z
   ·exact a.sl 7 g s z
   ·exact a.up g z
  ·rw [ll j c] at i
   exact a.sl j g s i
theorem qK (h:Hp) (m n:Nat):(h.make m).Lv n↔(h.Lv n∨n=h.objs.length):=by
 unfold Hp.Lv;rw [gP];split
 ·rename_i c;simp [c]
 ·rename_i c;simp [c]
theorem xg {l:List Nat} (h:l.Pairwise (·< ·)) (c:∀ n∈l,n<N):(l++[N]).Pairwise (·< ·):=by
 rw [List.pairwise_append];exact ⟨h,List.pairwise_singleton _ _,fun a ha b hb=>by simp at hb;subst hb;exact c a ha⟩
theorem PR.made {G:Gh} (r:PR h x y G) (g:Gd h) (m N0:Nat):PR (h.make m) (x.map (mI h.objs.length N0)) (y.map (mI h.objs.length N0)) (G.mk1 h.objs.length N0):=by
 have lv:∀ n,h.Lv n->n<h.objs.length:=fun n hn=>by obtain ⟨o,ho⟩:=hn;exact Hp.Ia ho
 refine ⟨fun e=>?_,fun e=>?_,fun e=>?_,?_⟩
 ·have t:=g.i.s1 e
  obtain ⟨e1,j,f⟩:=r.s1 e;refine ⟨?_,?_,?_⟩
  ·rw [e1];exact gT (fun n hn=>lv n (t.ll n (.inr (.inr (.inl hn)))))
  ·rw [j];exact gT (fun n hn=>lv n (t.ll n (.inr (.inr (.inr hn)))))
  ·show G.ag.map _=h.again
   rw [f];exact gT (fun n hn=>lv n (t.ll n (.inr (.inl hn))))
 ·have s:=r.s2 e
  have b:=(g.i.s2 e).2.2.1;have d:(G.mk1 h.objs.length N0).Ns.take G.kept=G.Ns.take G.kept:=by
   show (G.Ns.map _++[_]).take G.kept=_;rw [List.take_append_of_le_length (by rw [bY];exact aI s.ks s.sl),<-List.map_take];exact gT (fun n hn=>lv n ((s.kl n).1 hn).1)
  have c:(G.mk1 h.objs.length N0).Ns.drop G.Ht=G.Ns.drop G.Ht++[h.objs.length]:=by
   show (G.Ns.map _++[_]).drop G.Ht=_;rw [List.drop_append_of_le_length (by rw [bY];exact s.sl),<-List.map_drop];rw [gT (fun n hn=>lv n ((s.dl n).1 hn).1)]
  refine ⟨s.ks,?_,?_,fun n=>?_,?_,fun n=>?_⟩
  ·show G.Ht<=(G.Ns.map _++[_]).length
   rw [bI,bY];have:=s.sl;omega
  ·show ((G.mk1 h.objs.length N0).Ns.take G.kept).Pairwise _
   rw [d];exact s.ku
  ·show n∈(G.mk1 h.objs.length N0).Ns.take G.kept↔(h.make m).Lv n/\n<h.G9
   rw [d,s.kl,qK];constructor
   ·exact fun z=>⟨.inl z.1,z.2⟩
   ·rintro ⟨z|z,a⟩
    ·exact ⟨z,a⟩
    ·omega
  ·show ((G.mk1 h.objs.length N0).Ns.drop G.Ht).Pairwise _
   rw [c];exact xg s.du (fun n hn=>lv n ((s.dl n).1 hn).1)
  ·show n∈(G.mk1 h.objs.length N0).Ns.drop G.Ht↔(h.make m).Lv n/\h.G9<=n
   rw [c,eT,s.dl,qK];constructor
   ·rintro (z|z)
    ·exact ⟨.inl z.1,z.2⟩
    ·simp at z;subst z;exact ⟨.inr rfl,b⟩
   ·rintro ⟨z|z,a⟩
    ·exact .inl ⟨z,a⟩
    ·exact .inr (by simp [z])
 ·have s:=r.s0 e
  have t:(G.mk1 h.objs.length N0).Ns=G.Ns++[h.objs.length]:=by
   show G.Ns.map _++[_]=_;rw [gT (fun n hn=>lv n ((s.lv n).1 hn))]
  refine ⟨by rw [t];exact xg s.up (fun n hn=>lv n ((s.lv n).1 hn)),fun n=>?_⟩;rw [t,eT,s.lv,qK];simp
 ·show (G.Ns.map _++[_]).length<=(h.objs++[_]).length
  rw [bI,bI,bY];have:=r.ol;simp;exact this
end
end Go.Proofs.YtbpcdfbmnklcjaaGreatDoor
