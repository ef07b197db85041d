import Derived.Test.YtbpcdfbmnklcjaaGreatDoorKHZF
import Derived.Test.YtbpcdfbmnklcjaaGreatDoorKHST
namespace Go.Proofs.YtbpcdfbmnklcjaaGreatDoor
open Go Go.RowKit
set_option maxHeartbeats 6400000
set_option maxRecDepth 100000
set_option linter.unusedVariables false
section
variable {G:Gh} {L:PM} {S:Nat->Prop} {base i n t:Nat} {es es':List En} {ev ev' mv mv':Value} {h:Hp} {o:Ob} {sz:Int} {tb:Nat->Nat} {w w':World}
attribute [local go_sem] bW
theorem Me.low (x:Me base tb t n o sz es ev mv w) (hb:Below w.heap.size w w'):Me base tb t n o sz es ev mv w':=
 have k:=Keeps.of hb (au _) (fun _=>False)
 ⟨x.r.keep k id,aj x.e k (fun _ _ e=>e),x.m.keep k (fun _ _ e=>e)⟩
theorem Hd.next {v:HV} (h:Hd tb w v) (x:Me base tb t n o sz es ev mv w) (g:Me base tb t n o sz es' ev' mv' w') (k:Keeps w w' (fun c=>c=t∨ev.ownBlock=some c∨dz mv=some c)):Hd tb w' v:=by
 intro m hm;obtain ⟨f,a,d⟩:=h m hm;by_cases c:tb m=t
 ·have l:=x.r.c 1
  have b:=a.c 1;rw [c,l] at b;refine ⟨_,by rw [c];exact g.r,?_⟩;have j:rZ o n sz es ev mv 1=f 1:=by simpa using b
  rw [<-d,<-j];rfl
 ·refine ⟨f,a.keep k (fun e=>?_),d⟩
  rcases e with e|e|e
  ·exact c e
  ·exact ak x.e a (by decide) e
  ·exact x.m.apart a e
theorem MV.MI (a:MV base S h G L w) (ho:h.ob n=some o):Me base L.tb (L.tb n) n o ((40+40*o.es.length:Nat):Int) o.es (L.es n) (L.mp n) w:=
 ⟨(a.ob n o ho).congr (dx _ rfl rfl rfl rfl rfl rfl rfl rfl rfl rfl rfl rfl rfl),a.en n o ho,a.mp n o ho⟩
theorem MV.hd (a:MV base S h G L w) {v:HV} (b:iP h v):Hd L.tb w v:=by
 intro m hm;obtain ⟨o,ho⟩:=b m hm;exact ⟨_,a.ob m o ho,rfl⟩
theorem uJ {k:HV} (h:kR es k=some i):∃ e,es[i]?=some e/\e.1=k:=by
 unfold kR at h;rw [List.findIdx?_eq_some_iff_getElem] at h;obtain ⟨b,a,_⟩:=h;refine ⟨es[i],aN b,?_⟩;rw [iK] at a
 simpa using a
theorem Er {k:HV} (h:kR es k=none):∀ e∈es,e.1≠k:=by
 intro e a c;unfold kR at h;rw [List.findIdx?_eq_none_iff] at h;have:=h e a;rw [iK,c] at this;simp at this
theorem Dk (x:Me base tb t n o sz es ev mv w) {k v:HV} (hk:oM k) (hs:k.isSome=true) (hd:Hd tb w k) (hf:kR es k=none) (Z:v.isNone=true):
 Calls Tryz.prog 104 #[.pointer (some ⟨t,0,none⟩),.agg #[.int .i64 (vk k),.int .i64 (vi k),.int .u64 0,.string ByteArray.empty,aK tb k],.agg #[.int .i64 (vk v),.int .i64 (vi v),.int .u64 0,.string ByteArray.empty,aK tb v]] w fun e' w'=>e'=.returned (.int .i64 0)/\Below w.heap.size w w':=by
 have D:=ah ((eu w tb k).keep (Keeps.of (aU (w.alloc (.cells #[.int .i64 (vk k),.int .i64 (vi k),.int .u64 0,.string ByteArray.empty,aK tb k] 143)) (.cells #[.int .i64 (vk v),.int .i64 (vi v),.int .u64 0,.string ByteArray.empty,aK tb v] 143)) (au _) (fun _=>False)) (fun x=>x));have Q:=ah (eu (w.alloc (.cells #[.int .i64 (vk k),.int .i64 (vi k),.int .u64 0,.string ByteArray.empty,aK tb k] 143)) tb v);have HB:=ah ((aU w (.cells #[.int .i64 (vk k),.int .i64 (vi k),.int .u64 0,.string ByteArray.empty,aK tb k] 143)).trans ((aU (w.alloc (.cells #[.int .i64 (vk k),.int .i64 (vi k),.int .u64 0,.string ByteArray.empty,aK tb k] 143)) (.cells #[.int .i64 (vk v),.int .i64 (vi v),.int .u64 0,.string ByteArray.empty,aK tb v] 143)).mono (aU w (.cells #[.int .i64 (vk k),.int .i64 (vi k),.int .u64 0,.string ByteArray.empty,aK tb k] 143)).size));have hZ:(w.alloc (.cells #[.int .i64 (vk k),.int .i64 (vi k),.int .u64 0,.string ByteArray.empty,aK tb k] 143)).heap.size=w.heap.size+1:=bM _;rw [hZ] at Q;clear hZ;have F:=x.r.lt;have HT:=ah x;have HD:=ah hd;have a1:t≠w.heap.size:=by omega
 have a0:t≠w.heap.size+1:=by omega
 have J:=ah (fun (w':World) (hb:Below w.heap.size w w')=>qJ (x.low hb).m hk hs);rw [hf] at J;have U:=ah (fun (w':World) (hb:Below w.heap.size w w')=>(hd.low hb).c);clear x hd;go_enter Tryz.func104,Tryz.ntmps104;go_upto_region 1 with (fail)
 change Code.wp _ _ _ _ ((w.alloc (.cells #[.int .i64 (vk k),.int .i64 (vi k),.int .u64 0,.string ByteArray.empty,aK tb k] 143)).alloc (.cells #[.int .i64 (vk v),.int .i64 (vi v),.int .u64 0,.string ByteArray.empty,aK tb v] 143));generalize (w.alloc (.cells #[.int .i64 (vk k),.int .i64 (vi k),.int .u64 0,.string ByteArray.empty,aK tb k] 143)).alloc (.cells #[.int .i64 (vk v),.int .i64 (vi v),.int .u64 0,.string ByteArray.empty,aK tb v] 143)=w2 at *;generalize hX:w.heap.size=X at *;have R:=ah hX;clear hX;have Y:=ah (kW w2 tb k);have x0:w2.cell? ⟨X,0,none⟩=some (.int .i64 (vk k)):=D.o.c 0;have x1:w2.cell? ⟨X,1,none⟩=some (.int .i64 (vi k)):=D.o.c 1;have C:w2.cell? ⟨X,2,none⟩=some (.int .u64 0):=D.o.c 2;have A:w2.cell? ⟨X,3,none⟩=some (.string ByteArray.empty):=D.o.c 3;have z:w2.cell? ⟨X,4,none⟩=some (aK tb k):=D.o.c 4;go_wp2_with fail;refine Y.o.mono ?_;rintro e3 w3 ⟨rfl,s⟩;have K3:=ah (Keeps.of s (au _) (fun _=>False));have a:=ah (D.o.keep K3.o id);have P:=ah (Q.o.keep K3.o id);have W:=ah (HB.o.trans (s.mono (dh (Nat.lt_trans (Nat.lt_succ_self X) Q.o.lt))));clear s x0 x1 C A z;have x0:w3.cell? ⟨X,0,none⟩=some (.int .i64 (vk k)):=a.o.c 0;have x1:w3.cell? ⟨X,1,none⟩=some (.int .i64 (vi k)):=a.o.c 1;have C:w3.cell? ⟨X,2,none⟩=some (.int .u64 0):=a.o.c 2;have A:w3.cell? ⟨X,3,none⟩=some (.string ByteArray.empty):=a.o.c 3;have z:w3.cell? ⟨X,4,none⟩=some (aK tb k):=a.o.c 4;have z0:=a.o.Nq 0;have z1:=a.o.Nq 1;have z2:=a.o.Nq 2;have z3:=a.o.Nq 3;have z4:=a.o.Nq 4;have u:=ah (ug a.o tb k);go_upto_region 2 with (fail)
 generalize ((((w3.setCell ⟨X,0,none⟩ (.int .i64 (vk k))).setCell ⟨X,1,none⟩ (.int .i64 (vi k))).setCell ⟨X,2,none⟩ (.int .u64 0)).setCell ⟨X,3,none⟩ (.string ByteArray.empty)).setCell ⟨X,4,none⟩ (aK tb k)=w4 at *;have N:=ah (P.o.keep u.o.2 (Nat.succ_ne_self X));have y:=ah (W.o.trans (u.o.2.below (B:=X) (dh a.o.lt) (fun b e=>aO e.symm)));clear x0 x1 C A z z0 z1 z2 z3 z4;have g:=ah u.o.1;have x0:w4.cell? ⟨X,0,none⟩=some (.int .i64 (vk k)):=g.o.c 0;have x1:w4.cell? ⟨X,1,none⟩=some (.int .i64 (vi k)):=g.o.c 1;have C:w4.cell? ⟨X,2,none⟩=some (.int .u64 0):=g.o.c 2;have A:w4.cell? ⟨X,3,none⟩=some (.string ByteArray.empty):=g.o.c 3;have z:w4.cell? ⟨X,4,none⟩=some (aK tb k):=g.o.c 4;have E:t<w4.heap.size:=Nat.lt_trans F g.o.lt;have f:=g.o.lt;have c8:w4.cell? ⟨t,8,none⟩=some mv:=(y.o.cell (p:=⟨t,8,none⟩) F).trans (HT.o.r.c 8);go_wp2_with fail
 go_region_held3 (fun w'=>w'.cell? ⟨t,8,none⟩=some mv/\w'.cell? ⟨X,0,none⟩=some (.int .i64 (vk k))/\w'.cell? ⟨X,1,none⟩=some (.int .i64 (vi k))/\w'.cell? ⟨X,2,none⟩=some (.int .u64 0)/\w'.cell? ⟨X,3,none⟩=some (.string ByteArray.empty)/\w'.cell? ⟨X,4,none⟩=some (aK tb k)) (go_keep)
  (first
    |(refine iF (.tmp 16) rfl tb k rfl (U.o _ (y.o.trans (aC (aG _ _) _))) ?_
      intro l q;have d:Below w4.heap.size w4 l:=(aC (aG w4.heap.size w4) _).trans q;have K:=ah (y.o.trans (d.mono (dh f)));have T:=ah (g.o.keep (Keeps.of d (au _) (fun _=>False)) id);have j:=ah (N.o.keep (Keeps.of d (au _) (fun _=>False)) id);have M:=J.o l K.o;have t1:=(d.cell (p:=⟨t,8,none⟩) E).trans c8;have t2:=(d.cell (p:=⟨X,0,none⟩) f).trans x0;have t3:=(d.cell (p:=⟨X,1,none⟩) f).trans x1;have t4:=(d.cell (p:=⟨X,2,none⟩) f).trans C;have t5:=(d.cell (p:=⟨X,3,none⟩) f).trans A;have t6:=(d.cell (p:=⟨X,4,none⟩) f).trans z;clear d q)
    |fail)
 clear M c8 x0 x1 C A z t1 t2 t3 t4 t5 t6;have y0:l.cell? ⟨X+1,0,none⟩=some (.int .i64 (vk v)):=j.o.c 0;have y1:l.cell? ⟨X+1,1,none⟩=some (.int .i64 (vi v)):=j.o.c 1;have y2:l.cell? ⟨X+1,2,none⟩=some (.int .u64 0):=j.o.c 2;have y3:l.cell? ⟨X+1,3,none⟩=some (.string ByteArray.empty):=j.o.c 3;have y4:l.cell? ⟨X+1,4,none⟩=some (aK tb v):=j.o.c 4;have HN:=ah (bU l tb v);rw [Z] at HN;clear Z;go_wp2_with fail;refine HN.o.mono ?_;rintro e5 w5 ⟨rfl,H⟩;have V:=ah (K.o.trans (H.mono (dh T.o.lt)));clear H y0 y1 y2 y3 y4;go_wp2;go_ret;exact ⟨rfl,by rw [R.o];exact V.o⟩
theorem zN (x:Me base tb t n o sz es ev mv w) {k v:HV} (hk:oM k) (hs:k.isSome=true) (hd:Hd tb w k) (hf:kR es k=none) (hv:v.isNone=false) (E:es.length<=5000) (b7:∀ e∈es,Hd tb w e.1) (b5:∀ e∈es,e.2.isSome=true->e.1.isSome=true) (W:base<=w.heap.size):
 Calls Tryz.prog 104 #[.pointer (some ⟨t,0,none⟩),.agg #[.int .i64 (vk k),.int .i64 (vi k),.int .u64 0,.string ByteArray.empty,aK tb k],.agg #[.int .i64 (vk v),.int .i64 (vi v),.int .u64 0,.string ByteArray.empty,aK tb v]] w fun e' w'=>e'=.returned (.int .i64 2)/\∃ ev' mv',Me base tb t n o sz (aS es++[(k,v)]) ev' mv' w'/\Keeps w w' (fun c=>c=t∨ev.ownBlock=some c∨dz mv=some c)/\(∀ g,ev'.ownBlock=some g->ev.ownBlock=some g∨w.heap.size<=g)/\(∀ g,dz mv'=some g->dz mv=some g∨w.heap.size<=g):=by
 have HX:=ah ((eu w tb k).keep (Keeps.of (aU (w.alloc (.cells #[.int .i64 (vk k),.int .i64 (vi k),.int .u64 0,.string ByteArray.empty,aK tb k] 143)) (.cells #[.int .i64 (vk v),.int .i64 (vi v),.int .u64 0,.string ByteArray.empty,aK tb v] 143)) (au _) (fun _=>False)) (fun x=>x));have HY:=ah (eu (w.alloc (.cells #[.int .i64 (vk k),.int .i64 (vi k),.int .u64 0,.string ByteArray.empty,aK tb k] 143)) tb v);have HB:=ah ((aU w (.cells #[.int .i64 (vk k),.int .i64 (vi k),.int .u64 0,.string ByteArray.empty,aK tb k] 143)).trans ((aU (w.alloc (.cells #[.int .i64 (vk k),.int .i64 (vi k),.int .u64 0,.string ByteArray.empty,aK tb k] 143)) (.cells #[.int .i64 (vk v),.int .i64 (vi v),.int .u64 0,.string ByteArray.empty,aK tb v] 143)).mono (aU w (.cells #[.int .i64 (vk k),.int .i64 (vi k),.int .u64 0,.string ByteArray.empty,aK tb k] 143)).size));have hZ:(w.alloc (.cells #[.int .i64 (vk k),.int .i64 (vi k),.int .u64 0,.string ByteArray.empty,aK tb k] 143)).heap.size=w.heap.size+1:=bM _;rw [hZ] at HY;clear hZ;have b3:=x.r.lt;have HT:=ah x;have HD:=ah hd;have e4:t≠w.heap.size:=by omega
 have e2:t≠w.heap.size+1:=by omega
 have c3:=ah (fun (w':World) (hb:Below w.heap.size w w')=>qJ (x.low hb).m hk hs);rw [hf] at c3;have d4:=ah (fun (w':World) (hb:Below w.heap.size w w')=>(hd.low hb).c);clear x hd;go_enter Tryz.func104,Tryz.ntmps104;go_upto_region 1 with (fail)
 change Code.wp _ _ _ _ ((w.alloc (.cells #[.int .i64 (vk k),.int .i64 (vi k),.int .u64 0,.string ByteArray.empty,aK tb k] 143)).alloc (.cells #[.int .i64 (vk v),.int .i64 (vi v),.int .u64 0,.string ByteArray.empty,aK tb v] 143));generalize (w.alloc (.cells #[.int .i64 (vk k),.int .i64 (vi k),.int .u64 0,.string ByteArray.empty,aK tb k] 143)).alloc (.cells #[.int .i64 (vk v),.int .i64 (vi v),.int .u64 0,.string ByteArray.empty,aK tb v] 143)=w2 at *;generalize hX:w.heap.size=X at *;have a6:=ah hX;clear hX;have e1:=ah (kW w2 tb k);have x0:w2.cell? ⟨X,0,none⟩=some (.int .i64 (vk k)):=HX.o.c 0;have x1:w2.cell? ⟨X,1,none⟩=some (.int .i64 (vi k)):=HX.o.c 1;have x2:w2.cell? ⟨X,2,none⟩=some (.int .u64 0):=HX.o.c 2;have x3:w2.cell? ⟨X,3,none⟩=some (.string ByteArray.empty):=HX.o.c 3;have x4:w2.cell? ⟨X,4,none⟩=some (aK tb k):=HX.o.c 4;go_wp2_with fail;refine e1.o.mono ?_;rintro e3 w3 ⟨rfl,a3⟩;have K3:=ah (Keeps.of a3 (au _) (fun _=>False));have d:=ah (HX.o.keep K3.o id);have d2:=ah (HY.o.keep K3.o id);have e0:=ah (HB.o.trans (a3.mono (dh (Nat.lt_trans (Nat.lt_succ_self X) HY.o.lt))));clear a3 x0 x1 x2 x3 x4;have x0:w3.cell? ⟨X,0,none⟩=some (.int .i64 (vk k)):=d.o.c 0;have x1:w3.cell? ⟨X,1,none⟩=some (.int .i64 (vi k)):=d.o.c 1;have x2:w3.cell? ⟨X,2,none⟩=some (.int .u64 0):=d.o.c 2;have x3:w3.cell? ⟨X,3,none⟩=some (.string ByteArray.empty):=d.o.c 3;have x4:w3.cell? ⟨X,4,none⟩=some (aK tb k):=d.o.c 4;have z0:=d.o.Nq 0;have z1:=d.o.Nq 1;have z2:=d.o.Nq 2;have z3:=d.o.Nq 3;have z4:=d.o.Nq 4;have a7:=ah (ug d.o tb k);go_upto_region 2 with (fail)
 generalize ((((w3.setCell ⟨X,0,none⟩ (.int .i64 (vk k))).setCell ⟨X,1,none⟩ (.int .i64 (vi k))).setCell ⟨X,2,none⟩ (.int .u64 0)).setCell ⟨X,3,none⟩ (.string ByteArray.empty)).setCell ⟨X,4,none⟩ (aK tb k)=w4 at *;have d1:=ah (d2.o.keep a7.o.2 (Nat.succ_ne_self X));have b0:=ah (e0.o.trans (a7.o.2.below (B:=X) (dh d.o.lt) (fun b e=>aO e.symm)));clear x0 x1 x2 x3 x4 z0 z1 z2 z3 z4;have A:=ah a7.o.1;have x0:w4.cell? ⟨X,0,none⟩=some (.int .i64 (vk k)):=A.o.c 0;have x1:w4.cell? ⟨X,1,none⟩=some (.int .i64 (vi k)):=A.o.c 1;have x2:w4.cell? ⟨X,2,none⟩=some (.int .u64 0):=A.o.c 2;have x3:w4.cell? ⟨X,3,none⟩=some (.string ByteArray.empty):=A.o.c 3;have x4:w4.cell? ⟨X,4,none⟩=some (aK tb k):=A.o.c 4;have b2:t<w4.heap.size:=Nat.lt_trans b3 A.o.lt;have s:=A.o.lt;have c8:w4.cell? ⟨t,8,none⟩=some mv:=(b0.o.cell (p:=⟨t,8,none⟩) b3).trans (HT.o.r.c 8);go_wp2_with fail
 go_region_held3 (fun w'=>w'.cell? ⟨t,8,none⟩=some mv/\w'.cell? ⟨X,0,none⟩=some (.int .i64 (vk k))/\w'.cell? ⟨X,1,none⟩=some (.int .i64 (vi k))/\w'.cell? ⟨X,2,none⟩=some (.int .u64 0)/\w'.cell? ⟨X,3,none⟩=some (.string ByteArray.empty)/\w'.cell? ⟨X,4,none⟩=some (aK tb k)) (go_keep)
  (first
    |(refine iF (.tmp 16) rfl tb k rfl (d4.o _ (b0.o.trans (aC (aG _ _) _))) ?_
      c6 w9 a0
      have l:Below w4.heap.size w4 w9:=(aC (aG w4.heap.size w4) _).trans a0;have c5:=ah (b0.o.trans (l.mono (dh s)));have b9:=ah (A.o.keep (Keeps.of l (au _) (fun _=>False)) id);have F:=ah (d1.o.keep (Keeps.of l (au _) (fun _=>False)) id);have c7:=c3.o w9 c5.o;have t1:=(l.cell (p:=⟨t,8,none⟩) b2).trans c8;have t2:=(l.cell (p:=⟨X,0,none⟩) s).trans x0;have t3:=(l.cell (p:=⟨X,1,none⟩) s).trans x1;have t4:=(l.cell (p:=⟨X,2,none⟩) s).trans x2;have t5:=(l.cell (p:=⟨X,3,none⟩) s).trans x3;have t6:=(l.cell (p:=⟨X,4,none⟩) s).trans x4;clear l a0)
    |fail)
 clear c7 c8 x0 x1 x2 x3 x4 t1 t2 t3 t4 t5 t6;have y0:w9.cell? ⟨X+1,0,none⟩=some (.int .i64 (vk v)):=F.o.c 0;have y1:w9.cell? ⟨X+1,1,none⟩=some (.int .i64 (vi v)):=F.o.c 1;have y2:w9.cell? ⟨X+1,2,none⟩=some (.int .u64 0):=F.o.c 2;have y3:w9.cell? ⟨X+1,3,none⟩=some (.string ByteArray.empty):=F.o.c 3;have y4:w9.cell? ⟨X+1,4,none⟩=some (aK tb v):=F.o.c 4;have HN:=ah (bU w9 tb v);rw [hv] at HN;have c1:=ah hv;have c2:=ah (Er hf);have d7:=ah b7;have d6:=ah b5;clear hv hf b7 b5;go_wp2_with fail;refine HN.o.mono ?_;rintro e5 w5 ⟨rfl,Y⟩;have d9:=ah (c5.o.trans (Y.mono (dh b9.o.lt)));have c0:=ah (b9.o.keep (Keeps.of Y (au _) (fun _=>False)) id);have b8:=ah (F.o.keep (Keeps.of Y (au _) (fun _=>False)) id);clear Y y0 y1 y2 y3 y4;have C:=ah (show Below w.heap.size w w5 by rw [a6.o];exact d9.o);have a9:=ah (HT.o.low C.o);have HC:=ah (uS a9.o E);by_cases V:16<=es.length/\es.length<2*aZ es
 ·rw [show decide (16<=es.length/\es.length<2*aZ es)=true by simpa using V] at HC
  have a8:Hq (aS es=es.filter fun e=>e.2.isSome):=ah (by unfold aS;rw [if_neg (by omega)]);have d0:1<=aZ es:=by omega
  clear V;go_wp2_with fail;refine HC.o.mono ?_;rintro e6 H ⟨rfl,j⟩;have a:=ah (C.o.trans (j.mono C.o.size));have D:=ah (a9.o.low j);have z:=ah (c0.o.keep (Keeps.of j (au _) (fun _=>False)) id);have u:=ah (b8.o.keep (Keeps.of j (au _) (fun _=>False)) id);clear j;have d3:=ah (CG D.o E d0 (fun e he=>(d7.o e he).low a.o) d6.o);go_wp2_with fail;refine d3.o.mono ?_;rintro e7 J ⟨rfl,e9,a2,P,b6⟩;have d5:=ah a2;have K7:=ah P;have c4:=ah b6;have a4:∀ q f,aD H 143 q 5 f->¬ (q=t∨ev.ownBlock=some q∨dz mv=some q):=fun q f hr c=>by
   rcases c with c|c|c
   ·exact hr.apart D.o.r (by decide) c
   ·exact ak D.o.e hr (by decide) c
   ·exact D.o.m.apart hr c
  have T:=ah (z.o.keep P (a4 _ _ z.o));have R:=ah (u.o.keep P (a4 _ _ u.o));have d8:=ah ((HD.o.low a.o).next D.o a2 P);have c9:(es.filter fun e=>e.2.isSome).length<=5000:=aI (List.length_filter_le _ _) E;clear a2 P b6 a4;have b1:=ah (sN d5.o c9 (k:=k) (v:=v) hk hs c1.o (fun e he=>c2.o e (List.mem_filter.1 he).1) d8.o (aI (by rw [<-a6.o] at W;exact W) (aI a.o.size K7.o.size)));have x0:J.cell? ⟨X,0,none⟩=some (.int .i64 (vk k)):=T.o.c 0;have x1:J.cell? ⟨X,1,none⟩=some (.int .i64 (vi k)):=T.o.c 1;have x2:J.cell? ⟨X,2,none⟩=some (.int .u64 0):=T.o.c 2;have x3:J.cell? ⟨X,3,none⟩=some (.string ByteArray.empty):=T.o.c 3;have x4:J.cell? ⟨X,4,none⟩=some (aK tb k):=T.o.c 4;have y0:J.cell? ⟨X+1,0,none⟩=some (.int .i64 (vk v)):=R.o.c 0;have y1:J.cell? ⟨X+1,1,none⟩=some (.int .i64 (vi v)):=R.o.c 1;have y2:J.cell? ⟨X+1,2,none⟩=some (.int .u64 0):=R.o.c 2;have y3:J.cell? ⟨X+1,3,none⟩=some (.string ByteArray.empty):=R.o.c 3;have y4:J.cell? ⟨X+1,4,none⟩=some (aK tb v):=R.o.c 4;go_wp2_with fail;refine b1.o.mono ?_;rintro e8 w8 ⟨rfl,a5,a1,K,N,Q,M⟩;have Z:=ah (U.intro K (U.intro N (U.intro Q M)));clear K N Q M;go_wp2;go_ret;have b4:w.heap.size<=J.heap.size:=aI a.o.size K7.o.size;refine ⟨rfl,a5,a1,by rw [a8.o];exact Z.o.1,((Keeps.of a.o (au _) _).trans K7.o).trans (Z.o.2.1.mono (fun c e=>by rw [c4.o] at e;exact e)),fun g hg=>?_,fun g hg=>?_⟩
  ·rcases Z.o.2.2.1 g hg with y|y
   ·exact .inl (by rw [<-c4.o];exact y)
   ·exact .inr (aI b4 y)
  ·rcases Z.o.2.2.2 g hg with y|y
   ·exact .inl y
   ·exact .inr (aI b4 y)
 ·rw [show decide (16<=es.length/\es.length<2*aZ es)=false by simpa using V] at HC
  have a8:Hq (aS es=es):=ah (by unfold aS;rw [if_pos (by omega)]);clear V;go_wp2_with fail;refine HC.o.mono ?_;rintro e6 H ⟨rfl,j⟩;have a:=ah (C.o.trans (j.mono C.o.size));have D:=ah (a9.o.low j);have z:=ah (c0.o.keep (Keeps.of j (au _) (fun _=>False)) id);have u:=ah (b8.o.keep (Keeps.of j (au _) (fun _=>False)) id);clear j;have b1:=ah (sN D.o E (k:=k) (v:=v) hk hs c1.o c2.o (HD.o.low a.o) (aI (by rw [<-a6.o] at W;exact W) a.o.size));have x0:H.cell? ⟨X,0,none⟩=some (.int .i64 (vk k)):=z.o.c 0;have x1:H.cell? ⟨X,1,none⟩=some (.int .i64 (vi k)):=z.o.c 1;have x2:H.cell? ⟨X,2,none⟩=some (.int .u64 0):=z.o.c 2;have x3:H.cell? ⟨X,3,none⟩=some (.string ByteArray.empty):=z.o.c 3;have x4:H.cell? ⟨X,4,none⟩=some (aK tb k):=z.o.c 4;have y0:H.cell? ⟨X+1,0,none⟩=some (.int .i64 (vk v)):=u.o.c 0;have y1:H.cell? ⟨X+1,1,none⟩=some (.int .i64 (vi v)):=u.o.c 1;have y2:H.cell? ⟨X+1,2,none⟩=some (.int .u64 0):=u.o.c 2;have y3:H.cell? ⟨X+1,3,none⟩=some (.string ByteArray.empty):=u.o.c 3;have y4:H.cell? ⟨X+1,4,none⟩=some (aK tb v):=u.o.c 4;go_wp2_with fail;refine b1.o.mono ?_;rintro e8 w8 ⟨rfl,a5,a1,K,N,Q,M⟩;have Z:=ah (U.intro K (U.intro N (U.intro Q M)));clear K N Q M;go_wp2;go_ret;refine ⟨rfl,a5,a1,by rw [a8.o];exact Z.o.1,(Keeps.of a.o (au _) _).trans Z.o.2.1,fun g hg=>?_,fun g hg=>?_⟩
  ·exact (Z.o.2.2.1 g hg).imp id (aI a.o.size)
  ·exact (Z.o.2.2.2 g hg).imp id (aI a.o.size)
theorem Aq (x:Me base tb t n o sz es ev mv w) {k v:HV} (hk:oM k) (hs:k.isSome=true) (hd:Hd tb w k) (hf:kR es k=some i) {Z:World->World->Prop}
 (hp:∀ w',Below w.heap.size w w'->Calls Tryz.prog 123 #[.pointer (some ⟨t,0,none⟩),.int .i64 (i:Int),.agg #[.int .i64 (vk v),.int .i64 (vi v),.int .u64 0,.string ByteArray.empty,aK tb v]] w' fun e' w''=>e'=.returned (.tuple #[])/\Z w' w''):
 Calls Tryz.prog 104 #[.pointer (some ⟨t,0,none⟩),.agg #[.int .i64 (vk k),.int .i64 (vi k),.int .u64 0,.string ByteArray.empty,aK tb k],.agg #[.int .i64 (vk v),.int .i64 (vi v),.int .u64 0,.string ByteArray.empty,aK tb v]] w fun e' w'=>e'=.returned (.int .i64 1)/\∃ w1,Below w.heap.size w w1/\Z w1 w':=by
 have U:=ah hp;clear hp;have E:=ah ((eu w tb k).keep (Keeps.of (aU (w.alloc (.cells #[.int .i64 (vk k),.int .i64 (vi k),.int .u64 0,.string ByteArray.empty,aK tb k] 143)) (.cells #[.int .i64 (vk v),.int .i64 (vi v),.int .u64 0,.string ByteArray.empty,aK tb v] 143)) (au _) (fun _=>False)) (fun x=>x));have Q:=ah (eu (w.alloc (.cells #[.int .i64 (vk k),.int .i64 (vi k),.int .u64 0,.string ByteArray.empty,aK tb k] 143)) tb v);have HB:=ah ((aU w (.cells #[.int .i64 (vk k),.int .i64 (vi k),.int .u64 0,.string ByteArray.empty,aK tb k] 143)).trans ((aU (w.alloc (.cells #[.int .i64 (vk k),.int .i64 (vi k),.int .u64 0,.string ByteArray.empty,aK tb k] 143)) (.cells #[.int .i64 (vk v),.int .i64 (vi v),.int .u64 0,.string ByteArray.empty,aK tb v] 143)).mono (aU w (.cells #[.int .i64 (vk k),.int .i64 (vi k),.int .u64 0,.string ByteArray.empty,aK tb k] 143)).size));have hZ:(w.alloc (.cells #[.int .i64 (vk k),.int .i64 (vi k),.int .u64 0,.string ByteArray.empty,aK tb k] 143)).heap.size=w.heap.size+1:=bM _;rw [hZ] at Q;clear hZ;have J:=x.r.lt;have HT:=ah x;have HD:=ah hd;have a1:t≠w.heap.size:=by omega
 have a0:t≠w.heap.size+1:=by omega
 have K:=ah (fun (w':World) (hb:Below w.heap.size w w')=>qJ (x.low hb).m hk hs);rw [hf] at K;have T:=ah (fun (w':World) (hb:Below w.heap.size w w')=>(hd.low hb).c);clear x hd;go_enter Tryz.func104,Tryz.ntmps104;go_upto_region 1 with (fail)
 change Code.wp _ _ _ _ ((w.alloc (.cells #[.int .i64 (vk k),.int .i64 (vi k),.int .u64 0,.string ByteArray.empty,aK tb k] 143)).alloc (.cells #[.int .i64 (vk v),.int .i64 (vi v),.int .u64 0,.string ByteArray.empty,aK tb v] 143));generalize (w.alloc (.cells #[.int .i64 (vk k),.int .i64 (vi k),.int .u64 0,.string ByteArray.empty,aK tb k] 143)).alloc (.cells #[.int .i64 (vk v),.int .i64 (vi v),.int .u64 0,.string ByteArray.empty,aK tb v] 143)=w2 at *;generalize hX:w.heap.size=X at *;have R:=ah hX;clear hX;have Y:=ah (kW w2 tb k);have x0:w2.cell? ⟨X,0,none⟩=some (.int .i64 (vk k)):=E.o.c 0;have x1:w2.cell? ⟨X,1,none⟩=some (.int .i64 (vi k)):=E.o.c 1;have D:w2.cell? ⟨X,2,none⟩=some (.int .u64 0):=E.o.c 2;have C:w2.cell? ⟨X,3,none⟩=some (.string ByteArray.empty):=E.o.c 3;have A:w2.cell? ⟨X,4,none⟩=some (aK tb k):=E.o.c 4;go_wp2_with fail;refine Y.o.mono ?_;rintro e3 w3 ⟨rfl,s⟩;have K3:=ah (Keeps.of s (au _) (fun _=>False));have a:=ah (E.o.keep K3.o id);have P:=ah (Q.o.keep K3.o id);have W:=ah (HB.o.trans (s.mono (dh (Nat.lt_trans (Nat.lt_succ_self X) Q.o.lt))));clear s x0 x1 D C A;have x0:w3.cell? ⟨X,0,none⟩=some (.int .i64 (vk k)):=a.o.c 0;have x1:w3.cell? ⟨X,1,none⟩=some (.int .i64 (vi k)):=a.o.c 1;have D:w3.cell? ⟨X,2,none⟩=some (.int .u64 0):=a.o.c 2;have C:w3.cell? ⟨X,3,none⟩=some (.string ByteArray.empty):=a.o.c 3;have A:w3.cell? ⟨X,4,none⟩=some (aK tb k):=a.o.c 4;have z0:=a.o.Nq 0;have z1:=a.o.Nq 1;have z2:=a.o.Nq 2;have z3:=a.o.Nq 3;have z4:=a.o.Nq 4;have u:=ah (ug a.o tb k);go_upto_region 2 with (fail)
 generalize ((((w3.setCell ⟨X,0,none⟩ (.int .i64 (vk k))).setCell ⟨X,1,none⟩ (.int .i64 (vi k))).setCell ⟨X,2,none⟩ (.int .u64 0)).setCell ⟨X,3,none⟩ (.string ByteArray.empty)).setCell ⟨X,4,none⟩ (aK tb k)=w4 at *;have N:=ah (P.o.keep u.o.2 (Nat.succ_ne_self X));have z:=ah (W.o.trans (u.o.2.below (B:=X) (dh a.o.lt) (fun b e=>aO e.symm)));clear x0 x1 D C A z0 z1 z2 z3 z4;have g:=ah u.o.1;have x0:w4.cell? ⟨X,0,none⟩=some (.int .i64 (vk k)):=g.o.c 0;have x1:w4.cell? ⟨X,1,none⟩=some (.int .i64 (vi k)):=g.o.c 1;have D:w4.cell? ⟨X,2,none⟩=some (.int .u64 0):=g.o.c 2;have C:w4.cell? ⟨X,3,none⟩=some (.string ByteArray.empty):=g.o.c 3;have A:w4.cell? ⟨X,4,none⟩=some (aK tb k):=g.o.c 4;have H:t<w4.heap.size:=Nat.lt_trans J g.o.lt;have f:=g.o.lt;have c8:w4.cell? ⟨t,8,none⟩=some mv:=(z.o.cell (p:=⟨t,8,none⟩) J).trans (HT.o.r.c 8);go_wp2_with fail
 go_region_held3 (fun w'=>w'.cell? ⟨t,8,none⟩=some mv/\w'.cell? ⟨X,0,none⟩=some (.int .i64 (vk k))/\w'.cell? ⟨X,1,none⟩=some (.int .i64 (vi k))/\w'.cell? ⟨X,2,none⟩=some (.int .u64 0)/\w'.cell? ⟨X,3,none⟩=some (.string ByteArray.empty)/\w'.cell? ⟨X,4,none⟩=some (aK tb k)) (go_keep)
  (first
    |(refine iF (.tmp 16) rfl tb k rfl (T.o _ (z.o.trans (aC (aG _ _) _))) ?_
      intro l q;have d:Below w4.heap.size w4 l:=(aC (aG w4.heap.size w4) _).trans q;have y:=ah (z.o.trans (d.mono (dh f)));have a2:=ah (g.o.keep (Keeps.of d (au _) (fun _=>False)) id);have j:=ah (N.o.keep (Keeps.of d (au _) (fun _=>False)) id);have M:=K.o l y.o;have t1:=(d.cell (p:=⟨t,8,none⟩) H).trans c8;have t2:=(d.cell (p:=⟨X,0,none⟩) f).trans x0;have t3:=(d.cell (p:=⟨X,1,none⟩) f).trans x1;have t4:=(d.cell (p:=⟨X,2,none⟩) f).trans D;have t5:=(d.cell (p:=⟨X,3,none⟩) f).trans C;have t6:=(d.cell (p:=⟨X,4,none⟩) f).trans A;clear d q)
    |fail)
 clear M c8 x0 x1 D C A t1 t2 t3 t4 t5 t6;have y0:l.cell? ⟨X+1,0,none⟩=some (.int .i64 (vk v)):=j.o.c 0;have y1:l.cell? ⟨X+1,1,none⟩=some (.int .i64 (vi v)):=j.o.c 1;have y2:l.cell? ⟨X+1,2,none⟩=some (.int .u64 0):=j.o.c 2;have y3:l.cell? ⟨X+1,3,none⟩=some (.string ByteArray.empty):=j.o.c 3;have y4:l.cell? ⟨X+1,4,none⟩=some (aK tb v):=j.o.c 4;have V:=ah (U.o l y.o);go_wp2_with fail;refine V.o.mono ?_;rintro e5 w5 ⟨rfl,F⟩;have H5:=ah F;clear F y0 y1 y2 y3 y4;go_wp2;go_ret;exact ⟨rfl,l,by rw [R.o];exact y.o,H5.o⟩
theorem Bv (a:MV base S h G L w) (ho:h.ob n=some o) {k v:HV} (hk:oM k) (g:k.isSome=true) (c:iP h k) (f:kR o.es k=some i) (b:o.es.length<=5000):
 Calls Tryz.prog 104 #[.pointer (some ⟨L.tb n,0,none⟩),.agg #[.int .i64 (vk k),.int .i64 (vi k),.int .u64 0,.string ByteArray.empty,aK L.tb k],.agg #[.int .i64 (vk v),.int .i64 (vi v),.int .u64 0,.string ByteArray.empty,aK L.tb v]] w fun e' w'=>e'=.returned (.int .i64 1)/\MV base S (h.ents n (o.es.set i (k,v))) G L w'/\Keeps w w' S:=by
 obtain ⟨e,j,d⟩:=uJ f;refine (Aq (Z:=fun w' w''=>MV base S (h.ents n (o.es.set i (k,v))) G L w''/\Keeps w' w'' S) (a.MI ho) hk g (a.hd c) f (fun w' hb=>?_)).mono ?_
 ·have:=nY (a.low hb) ho j v b
  rw [d] at this;exact this
 ·rintro e' w' ⟨rfl,w1,hb,m,l⟩
  exact ⟨rfl,m,(Keeps.of hb (au _) S).trans l⟩
end
section
variable {G:Gh} {L L':PM} {S:Nat->Prop} {base c n:Nat} {g h:Hp} {o:Ob} {w w':World} {x:List Nat}
attribute [local go_sem] bW
theorem Mk.of (x:Mk G h c) (e:∀ n,g.Lv n↔h.Lv n):Mk G g c:=
 ⟨x.ks,x.sl,x.ku,fun n=>(x.kl n).trans ⟨fun y=>⟨(e n).2 y.1,y.2⟩,fun y=>⟨(e n).1 y.1,y.2⟩⟩,x.du,fun n=>(x.dl n).trans ⟨fun y=>⟨(e n).2 y.1,y.2⟩,fun y=>⟨(e n).1 y.1,y.2⟩⟩⟩
theorem PR.same {y:List Nat} (r:PR h x y G) (a:g.state=h.state) (d:g.weak=h.weak) (i:g.GZ=h.GZ) (j:g.again=h.again) (hp:g.G5=h.G5) (f:g.objs.length=h.objs.length) (b:∀ n,g.Lv n↔h.Lv n):PR g x y G:=
 ⟨fun e=>by rw [d,i,j];exact r.s1 (a ▸ e),fun e=>by rw [hp];exact (r.s2 (a ▸ e)).of b,fun e=>(r.s0 (a ▸ e)).of b,by rw [f];exact r.ol⟩
theorem Cx (h:Hp) (n:Nat) (es:List En) (m:Nat):(h.ents n es).Lv m↔h.Lv m:=by
 unfold Hp.Lv Hp.ents;rw [Hp.Hf];split
 ·cases h.ob m<;>simp
 ·exact Iff.rfl
theorem DZ (h:Hp) (n:Nat) (m:Nat):(h.upd n fun o=>{ o with col:=2 }).Lv m↔h.Lv m:=by
 unfold Hp.Lv;rw [Hp.Hf];split
 ·cases h.ob m<;>simp
 ·exact Iff.rfl
structure Na (L L':PM):Prop where
 H:L'.H=L.H
 tb:L'.tb=L.tb
theorem MS.y (a:MS L L'):Na L L':=⟨a.H,a.tb⟩
theorem Na.refl (L:PM):Na L L:=⟨rfl,rfl⟩
theorem Na.trans {L L' L'':PM} (a:Na L L') (b:Na L' L''):Na L L'':=⟨b.H.trans a.H,b.tb.trans a.tb⟩
theorem MV.LC (a:MV base S h G L w) {e:Ending} (r:xX 67 base L.H 12 (L.li 12) (G.ag.map (eP L.tb 12)) (eP L.tb 12 n) w e w'):e=.returned (.tuple #[])/\∃ L',MS L L'/\MV base S h { G with ag:=G.ag++[n] } L' w'/\Keeps w w' S:=by
 obtain ⟨rfl,p,l,w1,rfl,f,m,d⟩:=r;have b:(G.ag.map (eP L.tb 12)).length+1=(G.ag++[n]).length:=by simp
 rw [b] at f d ⊢;obtain ⟨-,k,i⟩:=a.JV (h':=h) (G':={ G with ag:=G.ag++[n] }) 12 (by simp [eF]) m _ (by show World.ownsRow _ _ 67 _ _ (G.ag++[n]).length ((G.ag++[n]).map (eP L.tb 12));simpa using f) d (fun _=>rfl) (fun j hj hn=>by rcases hj with rfl|rfl|rfl|rfl|rfl|rfl|rfl|rfl|rfl<;>first |rfl|exact absurd rfl hn) (bJ _ rfl rfl rfl rfl rfl rfl rfl rfl rfl rfl rfl rfl rfl rfl rfl rfl rfl rfl rfl);exact ⟨rfl,{ L with li:=fun j=>if j=12 then .slice p (G.ag++[n]).length l else L.li j },⟨rfl,rfl,rfl,rfl⟩,k,i⟩
theorem pO (p:PS base S h L w) (ho:h.ob n=some o) (R:h.again.length<=20000):
 Calls Tryz.prog 106 #[.pointer (some ⟨L.H,0,none⟩),.pointer (some ⟨L.tb n,0,none⟩)] w fun e w'=>e=.returned (.tuple #[])/\∃ L',MS L L'/\PS base S (h.back n) L' w'/\Keeps w w' S:=by
 have T:=p.cells.1;obtain ⟨x,y,G,a,r⟩:=p;have Q:w.cell? ⟨L.tb n,0,none⟩=some (.int .i64 (o.col:Int)):=(a.ob n o ho).c 0;by_cases i:h.state=1
 ·have C:((h.state:Int)==1)=true:=by simp [i]
  by_cases u:o.col=3
  ·have D:((o.col:Int)==3)=true:=by simp [u]
   obtain ⟨rfl,rfl,j⟩:=r.s1 i;have f:Hq (h.back n={ h.upd n (fun o=>{ o with col:=2 }) with again:=h.again++[n] }):=ah (by unfold Hp.back;rw [ho];simp only;rw [if_pos ⟨u,i⟩]);have P:=(a.ob n o ho).Nq 0;have b:=ah (MV.M0 (show MV base S h G L w from a) n 0 (.int .i64 2) (fun o=>{ o with col:=2 }) (by decide) ho ⟨rfl,rfl⟩ (dx _ rfl rfl rfl rfl rfl rfl rfl rfl rfl rfl rfl rfl rfl));have N:=ah r;have A:=ah j;have E:=ah i;clear a r ho u i j;go_enter Tryz.func106,Tryz.ntmps106;go_upto_region 2 with (fail)
   generalize w.setCell ⟨L.tb n,0,none⟩ (.int .i64 2)=w3 at *;have z:w3.cell? ⟨L.H,12,none⟩=some (L.li 12):=b.o.1.hp.c 12;have k:=b.o.1.hp.Nq 12;have q:=b.o.1.li 12 (by simp [eF]);have d:w3.ownsRow base 67 1 (L.li 12) (G.ag.map (eP L.tb 12)).length (G.ag.map (eP L.tb 12)):=by rw [bI];exact q
   have J:=ah (iy w3 base L.H 12 (L.li 12) (G.ag.map (eP L.tb 12)) (L.tb n) z k d (fun e=>ak d b.o.1.hp (by decide) e) (by rw [bI,A.o];omega) b.o.1.bs);clear q d z k Q P T;go_wp2_with fail;refine J.o.mono ?_
   B W w4 l
   obtain ⟨rfl,U,s,v,t⟩:=b.o.1.LC l;have K:=ah (M.intro s (M.intro v t));clear l s v t;go_wp2;go_end0;refine ⟨rfl,U,K.o.1,?_,b.o.2.trans K.o.2.2⟩;rw [f.o];refine ⟨h.weak,h.GZ,{ G with ag:=G.ag++[n] },K.o.2.1.aux (h.again++[n]) h.G5,⟨fun _=>⟨rfl,rfl,by rw [A.o]⟩,fun e=>?_,fun e=>?_,?_⟩⟩
   ·have V:=E.o
    have X:h.state=2:=e;omega
   ·have:=N.o.s0 e
    exact ⟨this.up,fun m=>(this.lv m).trans (DZ h n m).symm⟩
   ·show G.Nl.length<=(h.upd n fun o=>{ o with col:=2 }).objs.length
    rw [h.Hu];exact N.o.ol
  ·have D:((o.col:Int)==3)=false:=by simp;omega
   have f:Hq (h.back n=h):=ah (by unfold Hp.back;rw [ho];simp only;rw [if_neg (fun c=>u c.1)]);have F:=ah (show PS base S h L w from ⟨x,y,G,a,r⟩);clear a r ho u i;go_enter Tryz.func106,Tryz.ntmps106;go_wp2;go_end0;exact ⟨rfl,L,MS.refl L,by rw [f.o];exact F.o,Keeps.refl _ _⟩
 ·have C:((h.state:Int)==1)=false:=by simp;omega
  have f:Hq (h.back n=h):=ah (by unfold Hp.back;rw [ho];simp only;rw [if_neg (fun c=>i c.2)]);have F:=ah (show PS base S h L w from ⟨x,y,G,a,r⟩);clear a r ho i;go_enter Tryz.func106,Tryz.ntmps106;go_wp2;go_end0;exact ⟨rfl,L,MS.refl L,by rw [f.o];exact F.o,Keeps.refl _ _⟩
theorem jS (w:World) (t H:Nat) (s b d:Int) (m:w.cell? ⟨t,2,none⟩=some (.int .i64 s)) (l:w.cell? ⟨H,4,none⟩=some (.int .i64 b)) (j:w.frozen? ⟨t,2,none⟩=false) (i:w.frozen? ⟨H,4,none⟩=false) (a:t≠H) (k: -100000000<=s/\s<=100000000) (hb: -100000000<=b/\b<=100000000) (hd: -100000000<=d/\d<=100000000):
 Calls Tryz.prog 105 #[.pointer (some ⟨H,0,none⟩),.pointer (some ⟨t,0,none⟩),.int .i64 d] w fun e w'=>e=.returned (.tuple #[])/\w'=(w.setCell ⟨t,2,none⟩ (.int .i64 (s+d))).setCell ⟨H,4,none⟩ (.int .i64 (b+d)):=by
 have f:H≠t:=fun c=>a c.symm;go_enter Tryz.func105,Tryz.ntmps105;go_wp2;go_end0;exact ⟨rfl,rfl⟩
end
section
variable {G:Gh} {H base i m n q t:Nat} {L:PM} {S:Nat->Prop} {es:List En} {f:Nat->Value} {h:Hp} {mv:Value} {o:Ob} {sz:Int} {tb:Nat->Nat} {w w' w1 w2 w4 w4' w5:World} {x y:List Nat}
attribute [local go_sem] bW
structure Ko (h:Hp) (o:Ob) (k:HV):Prop where
 kk:oM k
 ks:k.isSome=true
 kv:iP h k
 len:o.es.length<=5000
 ev:∀ e∈o.es,iP h e.1
 kn:∀ e∈o.es,e.2.isSome=true->e.1.isSome=true
 Nh:h.bytes<=300000
 cr:h.GY<=300000
 ag:h.again.length<=20000
 fr:40*o.es.length<=h.bytes
theorem AZ (h:Hp) (n:Nat) (f:Ob->Ob) (m:Nat):(h.upd n f).Lv m↔h.Lv m:=by
 unfold Hp.Lv;rw [Hp.Hf];split
 ·cases h.ob m<;>simp
 ·exact Iff.rfl
theorem MV.Lc (a:MV base S h G L w) (ho:h.ob n=some o) (hm:m=o.es.length) (hb:Below w.heap.size w w1) (b:w4=(w1.setCell ⟨L.tb n,2,none⟩ (.int .i64 ((40+40*m:Nat):Int))).setCell ⟨L.H,4,none⟩ (.int .i64 (h.bytes:Int))):MV base S h G L w4/\Keeps w w4 S:=by
 subst hm b;have c:=a.low hb;have b1:=c.M0 n 2 (.int .i64 ((40+40*o.es.length:Nat):Int)) (fun o'=>{ o' with es:=o.es }) (by decide) ho ⟨rfl,rfl⟩ (dx _ rfl rfl rfl rfl rfl rfl rfl rfl rfl rfl rfl rfl rfl);rw [show h.upd n (fun o'=>{ o' with es:=o.es })=h from Hp.Ij ho] at b1;have b2:=b1.1.num (h':=h) (G':=G) 4 (.int .i64 (h.bytes:Int)) (by decide) (fun _=>rfl) ⟨rfl,rfl,rfl,rfl,rfl,rfl,rfl⟩ ⟨rfl,rfl⟩ (bJ _ rfl rfl rfl rfl rfl rfl rfl rfl rfl rfl rfl rfl rfl rfl rfl rfl rfl rfl rfl);exact ⟨b2.1,((Keeps.of hb (au _) S).trans b1.2).trans b2.2⟩
theorem Me.off {ev:Value} (x:Me base tb t n o sz es ev mv w) (k:Keeps w w' (fun b=>b=H)) (hr:aD w 77 H 19 f):Me base tb t n o sz es ev mv w':=
 ⟨x.r.keep k (fun c=>x.r.apart hr (by decide) c),aj x.e k (fun g hg c=>ak x.e hr (by decide) (c ▸ hg)),x.m.keep k (fun g hg c=>x.m.apart hr (c ▸ hg))⟩
theorem CB (a:MV base S (h.wk x y) G L w2) (ho:h.ob n=some o) {k v:HV} {ev:Value} 
 (J:Me base L.tb (L.tb n) n o ((40+40*o.es.length:Nat):Int) (aS o.es++[(k,v)]) ev mv w4) (M:aD w4 77 L.H 19 f) (P:∀ i,i<19->f i=if i=5 then .int .i64 ((h.GY:Int)+40) else kI (h.wk x y) G L i) (kk:Keeps w2 w4 (fun c=>c=L.H∨c=L.tb n∨(L.es n).ownBlock=some c∨dz (L.mp n)=some c))
 (Q:∀ g,ev.ownBlock=some g->(L.es n).ownBlock=some g∨w2.heap.size<=g) (hm:∀ g,dz mv=some g->dz (L.mp n)=some g∨w2.heap.size<=g) (U:(aS o.es++[(k,v)]).length=q+1) (K:(aS o.es).length=q) (N:40*o.es.length<=h.bytes) (hb:Below w4.heap.size w4 w4')
 (A:w5=(w4'.setCell ⟨L.tb n,2,none⟩ (.int .i64 (((40+40*o.es.length:Nat):Int)+(((q:Int)+1-(o.es.length:Int))*40)))).setCell ⟨L.H,4,none⟩ (.int .i64 ((h.bytes:Int)+(((q:Int)+1-(o.es.length:Int))*40)))):
 MV base S (Hp.wk { h.upd n (fun o=>{ o with es:=aS o.es++[(k,v)] }) with bytes:=h.bytes-40*(o.es.length-(aS o.es).length)+40,GY:=h.GY+40 } x y) G (L.MZ n ev mv) w5/\Keeps w2 w5 S/\w5.cell? ⟨L.tb n,7,none⟩=some ev:=by
 have F:=lQ o.es;have k0:=fun S=>Keeps.of hb (au _) S;have b:=J.low hb;have d:=M.keep (k0 fun _=>False) id;have e1:(((40+40*o.es.length:Nat):Int)+(((q:Int)+1-(o.es.length:Int))*40))=((40+40*(q+1):Nat):Int):=by omega
 have R:((h.bytes:Int)+(((q:Int)+1-(o.es.length:Int))*40))=((h.bytes-40*(o.es.length-(aS o.es).length)+40:Nat):Int):=by omega
 rw [e1,R] at A;subst A;have s:Keeps w4' (w4'.setCell ⟨L.tb n,2,none⟩ (.int .i64 ((40+40*(q+1):Nat):Int))) (fun c=>c=L.tb n):=Keeps.setCell (S:=fun c=>c=L.tb n) (Keeps.refl w4' _) rfl _;have u:Keeps (w4'.setCell ⟨L.tb n,2,none⟩ (.int .i64 ((40+40*(q+1):Nat):Int))) ((w4'.setCell ⟨L.tb n,2,none⟩ (.int .i64 ((40+40*(q+1):Nat):Int))).setCell ⟨L.H,4,none⟩ (.int .i64 ((h.bytes-40*(o.es.length-(aS o.es).length)+40:Nat):Int))) (fun c=>c=L.H):=Keeps.setCell (S:=fun c=>c=L.H) (Keeps.refl _ _) rfl _;have p:L.tb n≠L.H:=fun c=>b.r.apart d (by decide) c;have z:aD ((w4'.setCell ⟨L.tb n,2,none⟩ (.int .i64 ((40+40*(q+1):Nat):Int))).setCell ⟨L.H,4,none⟩ (.int .i64 ((h.bytes-40*(o.es.length-(aS o.es).length)+40:Nat):Int))) 136 (L.tb n) 13 (nM { o with es:=aS o.es++[(k,v)] } n ev mv):=by
  refine ((b.r.set (j:=2) (by omega) _).keep u p).congr (fun j hj=>?_);refine dx (fun j=>(if j=2 then (.int .i64 ((40+40*(q+1):Nat):Int):Value) else rZ o n _ (aS o.es++[(k,v)]) ev mv j)=nM { o with es:=aS o.es++[(k,v)] } n ev mv j) rfl rfl ?_ rfl rfl rfl rfl rfl rfl rfl rfl rfl rfl j hj;simp [nM,K]
 have T:World.cell? ((w4'.setCell ⟨L.tb n,2,none⟩ (.int .i64 ((40+40*(q+1):Nat):Int))).setCell ⟨L.H,4,none⟩ (.int .i64 ((h.bytes-40*(o.es.length-(aS o.es).length)+40:Nat):Int))) ⟨L.tb n,7,none⟩=some ev:=z.c 7;have D:aD ((w4'.setCell ⟨L.tb n,2,none⟩ (.int .i64 ((40+40*(q+1):Nat):Int))).setCell ⟨L.H,4,none⟩ (.int .i64 ((h.bytes-40*(o.es.length-(aS o.es).length)+40:Nat):Int))) 77 L.H 19 (kI (Hp.wk { h.upd n (fun o=>{ o with es:=aS o.es++[(k,v)] }) with bytes:=h.bytes-40*(o.es.length-(aS o.es).length)+40,GY:=h.GY+40 } x y) G L):=by
  refine ((d.keep s (fun c=>p c.symm)).set (j:=4) (by omega) _).congr (fun j hj=>?_);rw [P j hj];have E:(h.upd n (fun o=>{ o with es:=aS o.es++[(k,v)] })).objs.length=h.objs.length:=h.Hu n _;refine bJ (fun j=>(if j=4 then (.int .i64 ((h.bytes-40*(o.es.length-(aS o.es).length)+40:Nat):Int):Value) else if j=5 then .int .i64 ((h.GY:Int)+40) else kI (h.wk x y) G L j)=kI (Hp.wk { h.upd n (fun o=>{ o with es:=aS o.es++[(k,v)] }) with bytes:=h.bytes-40*(o.es.length-(aS o.es).length)+40,GY:=h.GY+40 } x y) G L j) rfl rfl ?_ rfl rfl rfl rfl rfl rfl rfl rfl rfl rfl rfl rfl rfl rfl rfl rfl j hj;simp only [kI,Hp.wk,E];rfl
 have l:Keeps w2 ((w4'.setCell ⟨L.tb n,2,none⟩ (.int .i64 ((40+40*(q+1):Nat):Int))).setCell ⟨L.H,4,none⟩ (.int .i64 ((h.bytes-40*(o.es.length-(aS o.es).length)+40:Nat):Int))) (fun c=>c=L.H∨c=L.tb n∨(L.es n).ownBlock=some c∨dz (L.mp n)=some c):=((kk.trans (k0 _)).trans (s.mono (fun c e=>Or.inr (Or.inl e)))).trans (u.mono (fun c e=>Or.inl e));have C:=aj (aj b.e s (fun g hg c=>ak b.e b.r (by decide) (c ▸ hg))) u (fun g hg c=>ak b.e d (by decide) (c ▸ hg));have B:=(b.m.keep s (fun g hg c=>b.m.apart b.r (c ▸ hg))).keep u (fun g hg c=>b.m.apart d (c ▸ hg));have:=a.Le (h':=Hp.wk { h.upd n (fun o=>{ o with es:=aS o.es++[(k,v)] }) with bytes:=h.bytes-40*(o.es.length-(aS o.es).length)+40,GY:=h.GY+40 } x y) (fun o=>{ o with es:=aS o.es++[(k,v)] }) ho ev mv l D (fun m=>rfl) (fun j hj=>by rcases hj with rfl|rfl|rfl|rfl|rfl|rfl|rfl|rfl|rfl<;>rfl) z C B Q hm;exact ⟨this.1,this.2,T⟩
theorem EJ (a:MV base S (h.wk x y) G L w) (r:PR h x y G) (ho:h.ob n=some o) {k v:HV} (u:Ko h o k) (B:kR o.es k=none) (z:v.isNone=true):
 Calls Tryz.prog 73 #[.pointer (some ⟨L.H,0,none⟩),.pointer (some ⟨L.tb n,0,none⟩),.agg #[.int .i64 (vk k),.int .i64 (vi k),.int .u64 0,.string ByteArray.empty,aK L.tb k],.agg #[.int .i64 (vk v),.int .i64 (vi v),.int .u64 0,.string ByteArray.empty,aK L.tb v]] w fun e' w'=>e'=.returned (.tuple #[])/\∃ L',Na L L'/\PS base S (h.put n k v) L' w'/\Keeps w w' S:=by
 have F:Hq (h.put n k v=h):=ah (by unfold Hp.put;rw [ho];simp only;rw [B];simp only;rw [if_pos z]);have HR:=ah r;clear r;have l:=ah ((eu w L.tb k).keep (Keeps.of (aU (w.alloc (.cells #[.int .i64 (vk k),.int .i64 (vi k),.int .u64 0,.string ByteArray.empty,aK L.tb k] 143)) (.cells #[.int .i64 (vk v),.int .i64 (vi v),.int .u64 0,.string ByteArray.empty,aK L.tb v] 143)) (au _) (fun _=>False)) (fun x=>x));have e:=ah (eu (w.alloc (.cells #[.int .i64 (vk k),.int .i64 (vi k),.int .u64 0,.string ByteArray.empty,aK L.tb k] 143)) L.tb v);have P:=ah ((aU w (.cells #[.int .i64 (vk k),.int .i64 (vi k),.int .u64 0,.string ByteArray.empty,aK L.tb k] 143)).trans ((aU (w.alloc (.cells #[.int .i64 (vk k),.int .i64 (vi k),.int .u64 0,.string ByteArray.empty,aK L.tb k] 143)) (.cells #[.int .i64 (vk v),.int .i64 (vi v),.int .u64 0,.string ByteArray.empty,aK L.tb v] 143)).mono (aU w (.cells #[.int .i64 (vk k),.int .i64 (vi k),.int .u64 0,.string ByteArray.empty,aK L.tb k] 143)).size));have M:(w.alloc (.cells #[.int .i64 (vk k),.int .i64 (vi k),.int .u64 0,.string ByteArray.empty,aK L.tb k] 143)).heap.size=w.heap.size+1:=bM _;rw [M] at e;clear M;have s:=ah (a.low P.o);have J:=ah ho;have d:=ah u;have HF:=ah B;have K:=u.len;clear a ho u B;go_enter Tryz.func73,Tryz.ntmps73;go_upto_region 1 with (fail)
 change Code.wp _ _ _ _ ((w.alloc (.cells #[.int .i64 (vk k),.int .i64 (vi k),.int .u64 0,.string ByteArray.empty,aK L.tb k] 143)).alloc (.cells #[.int .i64 (vk v),.int .i64 (vi v),.int .u64 0,.string ByteArray.empty,aK L.tb v] 143));generalize (w.alloc (.cells #[.int .i64 (vk k),.int .i64 (vi k),.int .u64 0,.string ByteArray.empty,aK L.tb k] 143)).alloc (.cells #[.int .i64 (vk v),.int .i64 (vi v),.int .u64 0,.string ByteArray.empty,aK L.tb v] 143)=w2 at *;generalize N:w.heap.size=X at *;have D:=ah N;clear N;obtain ⟨A,C,b,g,-⟩:=s.o.ents J.o;have c7:w2.cell? ⟨L.tb n,7,none⟩=some (.slice A o.es.length C):=by rw [<-b];exact (s.o.ob n o J.o).c 7
 have a0:=ah b;clear b g;have x0:w2.cell? ⟨X,0,none⟩=some (.int .i64 (vk k)):=l.o.c 0;have x1:w2.cell? ⟨X,1,none⟩=some (.int .i64 (vi k)):=l.o.c 1;have Z:w2.cell? ⟨X,2,none⟩=some (.int .u64 0):=l.o.c 2;have Y:w2.cell? ⟨X,3,none⟩=some (.string ByteArray.empty):=l.o.c 3;have W:w2.cell? ⟨X,4,none⟩=some (aK L.tb k):=l.o.c 4;have V:w2.cell? ⟨X+1,0,none⟩=some (.int .i64 (vk v)):=e.o.c 0;have U:w2.cell? ⟨X+1,1,none⟩=some (.int .i64 (vi v)):=e.o.c 1;have T:w2.cell? ⟨X+1,2,none⟩=some (.int .u64 0):=e.o.c 2;have R:w2.cell? ⟨X+1,3,none⟩=some (.string ByteArray.empty):=e.o.c 3;have Q:w2.cell? ⟨X+1,4,none⟩=some (aK L.tb v):=e.o.c 4;have E:=ah (Dk (s.o.MI J.o) (k:=k) (v:=v) d.o.kk d.o.ks (s.o.hd d.o.kv) HF.o z);clear z;go_wp2_with fail;refine E.o.mono ?_;rintro e3 w3 ⟨rfl,j⟩;have p:=ah j;clear j c7 x0 x1 Z Y W V U T R Q;go_wp2
 ((try simp only [Exit.inBlock,Exit.then]);refine bodyPost_ret (results_none rfl _ _ _) rfl ?_)
 exact ⟨rfl,L,Na.refl L,by rw [F.o];exact ⟨x,y,G,s.o.low p.o,HR.o⟩,(Keeps.of P.o (aO D.o) S).trans (Keeps.of p.o (au _) S)⟩
theorem Em (a:MV base S (h.wk x y) G L w) (r:PR h x y G) (ho:h.ob n=some o) {k v:HV} (U:Ko h o k) (R:kR o.es k=some i):
 Calls Tryz.prog 73 #[.pointer (some ⟨L.H,0,none⟩),.pointer (some ⟨L.tb n,0,none⟩),.agg #[.int .i64 (vk k),.int .i64 (vi k),.int .u64 0,.string ByteArray.empty,aK L.tb k],.agg #[.int .i64 (vk v),.int .i64 (vi v),.int .u64 0,.string ByteArray.empty,aK L.tb v]] w fun e' w'=>e'=.returned (.tuple #[])/\∃ L',Na L L'/\PS base S (h.put n k v) L' w'/\Keeps w w' S:=by
 have a0:Hq (h.put n k v=(h.ents n (o.es.set i (k,v))).back n):=ah (by
  unfold Hp.put;rw [ho];simp only;rw [R];simp only;obtain ⟨e,he,V⟩:=uJ R;rw [tC ho he,V])
 have HR:=ah r;clear r;have N:=ah ((eu w L.tb k).keep (Keeps.of (aU (w.alloc (.cells #[.int .i64 (vk k),.int .i64 (vi k),.int .u64 0,.string ByteArray.empty,aK L.tb k] 143)) (.cells #[.int .i64 (vk v),.int .i64 (vi v),.int .u64 0,.string ByteArray.empty,aK L.tb v] 143)) (au _) (fun _=>False)) (fun x=>x));have u:=ah (eu (w.alloc (.cells #[.int .i64 (vk k),.int .i64 (vi k),.int .u64 0,.string ByteArray.empty,aK L.tb k] 143)) L.tb v);have HB:=ah ((aU w (.cells #[.int .i64 (vk k),.int .i64 (vi k),.int .u64 0,.string ByteArray.empty,aK L.tb k] 143)).trans ((aU (w.alloc (.cells #[.int .i64 (vk k),.int .i64 (vi k),.int .u64 0,.string ByteArray.empty,aK L.tb k] 143)) (.cells #[.int .i64 (vk v),.int .i64 (vi v),.int .u64 0,.string ByteArray.empty,aK L.tb v] 143)).mono (aU w (.cells #[.int .i64 (vk k),.int .i64 (vi k),.int .u64 0,.string ByteArray.empty,aK L.tb k] 143)).size));have hZ:(w.alloc (.cells #[.int .i64 (vk k),.int .i64 (vi k),.int .u64 0,.string ByteArray.empty,aK L.tb k] 143)).heap.size=w.heap.size+1:=bM _;rw [hZ] at u;clear hZ;have HA:=ah (a.low HB.o);have T:=ah ho;have g:=ah U;have HF:=ah R;have a7:=U.len;clear a ho U R;go_enter Tryz.func73,Tryz.ntmps73;go_upto_region 1 with (fail)
 change Code.wp _ _ _ _ ((w.alloc (.cells #[.int .i64 (vk k),.int .i64 (vi k),.int .u64 0,.string ByteArray.empty,aK L.tb k] 143)).alloc (.cells #[.int .i64 (vk v),.int .i64 (vi v),.int .u64 0,.string ByteArray.empty,aK L.tb v] 143));generalize (w.alloc (.cells #[.int .i64 (vk k),.int .i64 (vi k),.int .u64 0,.string ByteArray.empty,aK L.tb k] 143)).alloc (.cells #[.int .i64 (vk v),.int .i64 (vi v),.int .u64 0,.string ByteArray.empty,aK L.tb v] 143)=w2 at *;generalize hX:w.heap.size=X at *;have Y:=ah hX;clear hX;obtain ⟨A,j,l,K,-⟩:=HA.o.ents T.o;have c7:w2.cell? ⟨L.tb n,7,none⟩=some (.slice A o.es.length j):=by rw [<-l];exact (HA.o.ob n o T.o).c 7
 have Q:=ah l;clear l K;have x0:w2.cell? ⟨X,0,none⟩=some (.int .i64 (vk k)):=N.o.c 0;have x1:w2.cell? ⟨X,1,none⟩=some (.int .i64 (vi k)):=N.o.c 1;have x2:w2.cell? ⟨X,2,none⟩=some (.int .u64 0):=N.o.c 2;have x3:w2.cell? ⟨X,3,none⟩=some (.string ByteArray.empty):=N.o.c 3;have x4:w2.cell? ⟨X,4,none⟩=some (aK L.tb k):=N.o.c 4;have y0:w2.cell? ⟨X+1,0,none⟩=some (.int .i64 (vk v)):=u.o.c 0;have y1:w2.cell? ⟨X+1,1,none⟩=some (.int .i64 (vi v)):=u.o.c 1;have y2:w2.cell? ⟨X+1,2,none⟩=some (.int .u64 0):=u.o.c 2;have y3:w2.cell? ⟨X+1,3,none⟩=some (.string ByteArray.empty):=u.o.c 3;have y4:w2.cell? ⟨X+1,4,none⟩=some (aK L.tb v):=u.o.c 4;have Z:=ah (Bv HA.o T.o (k:=k) (v:=v) g.o.kk g.o.ks g.o.kv HF.o g.o.len);go_wp2_with fail;refine Z.o.mono ?_;rintro e3 w3 ⟨rfl,b,J⟩;have a4:=ah (show MV base S ((h.ents n (o.es.set i (k,v))).wk x y) G L w3 from b);have a2:=ah J;have d:=Hp.Ie T.o (o.es.set i (k,v));have s:=ah d;have d7:w3.cell? ⟨L.tb n,7,none⟩=some (.slice A o.es.length j):=by rw [<-Q.o];exact (b.ob n _ d).c 7
 have d2:w3.cell? ⟨L.tb n,2,none⟩=some (.int .i64 ((40+40*o.es.length:Nat):Int)):=by
  have:=(b.ob n _ d).c 2;rw [this];simp [nM]
 have d4:w3.cell? ⟨L.H,4,none⟩=some (.int .i64 (h.bytes:Int)):=b.hp.c 4;have D:L.tb n≠L.H:=fun c=>(b.ob n _ d).apart b.hp (by decide) c;have a6:L.H≠L.tb n:=fun c=>D c.symm;have B:=(b.ob n _ d).lt;have M:=b.hp.lt;have z2:=(b.ob n _ d).Nq 2;have z4:=b.hp.Nq 4;have W:=g.o.Nh;have P:=ah (fun (w':World) (hb:Below w3.heap.size w3 w')=>jS w' (L.tb n) L.H ((40+40*o.es.length:Nat):Int) (h.bytes:Int) 0 ((hb.cell (p:=⟨L.tb n,2,none⟩) B).trans d2) ((hb.cell (p:=⟨L.H,4,none⟩) M).trans d4) ((hb.frozen (p:=⟨L.tb n,2,none⟩) B).trans z2) ((hb.frozen (p:=⟨L.H,4,none⟩) M).trans z4) D (by omega) (by omega) (by omega));simp only [Int.add_zero] at P;clear b J d c7 x0 x1 x2 x3 x4 y0 y1 y2 y3 y4 z2 z4 d2 d4 W;go_wp2_with fail
 go_region_held3 (fun w'=>w'.cell? ⟨L.tb n,7,none⟩=some (.slice A o.es.length j)) (go_keep)
  (first
    |(go_at_call 105
      refine (P.o _ (aC (aG _ _) _)).mono ?_;rintro e4 w4 ⟨rfl,z⟩;have H4:=ah (a4.o.Lc s.o (by simp) (aC (aG _ _) _) z);have t7:w4.cell? ⟨L.tb n,7,none⟩=some (.slice A o.es.length j):=by
       have:=(H4.o.1.ob n _ s.o).c 7;rw [this];exact congrArg some Q.o
      clear z)
    |fail)
 clear t7 d7;have a1:=ah (show PS base S (h.ents n (o.es.set i (k,v))) L w4 from ⟨x,y,G,H4.o.1,HR.o.same rfl rfl rfl rfl rfl (Hp.Ia h n _) (Cx h n _)⟩);have a3:=ah (pO a1.o (n:=n) (o:={ o with es:=o.es.set i (k,v) }) s.o g.o.ag);go_wp2_with fail;refine a3.o.mono ?_;rintro e5 w5 ⟨rfl,L5,E,C,F⟩;have H5:=ah (a5.intro E (a5.intro C F));clear E C F;go_wp2;go_end0;exact ⟨rfl,L5,H5.o.1.y,by rw [a0.o];exact H5.o.2.1,(((Keeps.of HB.o (aO Y.o) S).trans a2.o).trans H4.o.2).trans H5.o.2.2⟩
theorem BH (a:MV base S (h.wk x y) G L w) (r:PR h x y G) (ho:h.ob n=some o) {k v:HV} (po:Ko h o k) (hf:kR o.es k=none) (hv:v.isNone=false):
 Calls Tryz.prog 73 #[.pointer (some ⟨L.H,0,none⟩),.pointer (some ⟨L.tb n,0,none⟩),.agg #[.int .i64 (vk k),.int .i64 (vi k),.int .u64 0,.string ByteArray.empty,aK L.tb k],.agg #[.int .i64 (vk v),.int .i64 (vi v),.int .u64 0,.string ByteArray.empty,aK L.tb v]] w fun e' w'=>e'=.returned (.tuple #[])/\∃ L',Na L L'/\PS base S (h.put n k v) L' w'/\Keeps w w' S:=by
 have b0:Hq (h.put n k v=h.H_ n o k v):=ah (by unfold Hp.put;rw [ho];simp only;rw [hf];simp only;rw [if_neg (by rw [hv];simp)]);have HR:=ah r;clear r;have HX:=ah ((eu w L.tb k).keep (Keeps.of (aU (w.alloc (.cells #[.int .i64 (vk k),.int .i64 (vi k),.int .u64 0,.string ByteArray.empty,aK L.tb k] 143)) (.cells #[.int .i64 (vk v),.int .i64 (vi v),.int .u64 0,.string ByteArray.empty,aK L.tb v] 143)) (au _) (fun _=>False)) (fun x=>x));have M:=ah (eu (w.alloc (.cells #[.int .i64 (vk k),.int .i64 (vi k),.int .u64 0,.string ByteArray.empty,aK L.tb k] 143)) L.tb v);have HB:=ah ((aU w (.cells #[.int .i64 (vk k),.int .i64 (vi k),.int .u64 0,.string ByteArray.empty,aK L.tb k] 143)).trans ((aU (w.alloc (.cells #[.int .i64 (vk k),.int .i64 (vi k),.int .u64 0,.string ByteArray.empty,aK L.tb k] 143)) (.cells #[.int .i64 (vk v),.int .i64 (vi v),.int .u64 0,.string ByteArray.empty,aK L.tb v] 143)).mono (aU w (.cells #[.int .i64 (vk k),.int .i64 (vi k),.int .u64 0,.string ByteArray.empty,aK L.tb k] 143)).size));have hZ:(w.alloc (.cells #[.int .i64 (vk k),.int .i64 (vi k),.int .u64 0,.string ByteArray.empty,aK L.tb k] 143)).heap.size=w.heap.size+1:=bM _;rw [hZ] at M;clear hZ;have l:=ah (a.low HB.o);have D:=ah ho;have d:=ah po;have HF:=ah hf;have b6:=po.len;clear a ho po hf;go_enter Tryz.func73,Tryz.ntmps73;go_upto_region 1 with (fail)
 change Code.wp _ _ _ _ ((w.alloc (.cells #[.int .i64 (vk k),.int .i64 (vi k),.int .u64 0,.string ByteArray.empty,aK L.tb k] 143)).alloc (.cells #[.int .i64 (vk v),.int .i64 (vi v),.int .u64 0,.string ByteArray.empty,aK L.tb v] 143));generalize (w.alloc (.cells #[.int .i64 (vk k),.int .i64 (vi k),.int .u64 0,.string ByteArray.empty,aK L.tb k] 143)).alloc (.cells #[.int .i64 (vk v),.int .i64 (vi v),.int .u64 0,.string ByteArray.empty,aK L.tb v] 143)=w2 at *;generalize hX:w.heap.size=X at *;have a5:=ah hX;clear hX;obtain ⟨A,a4,J,a0,-⟩:=l.o.ents D.o;have c7:w2.cell? ⟨L.tb n,7,none⟩=some (.slice A o.es.length a4):=by rw [<-J];exact (l.o.ob n o D.o).c 7
 have c0:=ah J;clear J a0;have x0:w2.cell? ⟨X,0,none⟩=some (.int .i64 (vk k)):=HX.o.c 0;have x1:w2.cell? ⟨X,1,none⟩=some (.int .i64 (vi k)):=HX.o.c 1;have x2:w2.cell? ⟨X,2,none⟩=some (.int .u64 0):=HX.o.c 2;have x3:w2.cell? ⟨X,3,none⟩=some (.string ByteArray.empty):=HX.o.c 3;have x4:w2.cell? ⟨X,4,none⟩=some (aK L.tb k):=HX.o.c 4;have y0:w2.cell? ⟨X+1,0,none⟩=some (.int .i64 (vk v)):=M.o.c 0;have y1:w2.cell? ⟨X+1,1,none⟩=some (.int .i64 (vi v)):=M.o.c 1;have y2:w2.cell? ⟨X+1,2,none⟩=some (.int .u64 0):=M.o.c 2;have y3:w2.cell? ⟨X+1,3,none⟩=some (.string ByteArray.empty):=M.o.c 3;have y4:w2.cell? ⟨X+1,4,none⟩=some (aK L.tb v):=M.o.c 4;have a8:=ah (zN (l.o.MI D.o) (k:=k) (v:=v) d.o.kk d.o.ks (l.o.hd d.o.kv) HF.o hv d.o.len (fun e he=>l.o.hd (d.o.ev e he)) d.o.kn l.o.bs);clear hv;go_wp2_with fail;refine a8.o.mono ?_;rintro e3 w3 ⟨rfl,b9,N,E,F,Z,U⟩;have u:=ah (l.o.hp.keep F (fun c=>by
  rcases c with c|c|c
  ·exact l.o.hp.apart (l.o.ob n o D.o) (by decide) c
  ·exact ak (l.o.en n o D.o) l.o.hp (by decide) c
  ·exact (l.o.mp n o D.o).apart l.o.hp c))
 have c5:w3.cell? ⟨L.H,5,none⟩=some (.int .i64 (h.GY:Int)):=u.o.c 5;have z5:=u.o.Nq 5;have b7:=d.o.cr;have H3:=ah (C.intro E (C.intro F (C.intro Z U)));have T:L.tb n≠L.H:=fun c=>E.r.apart u.o (by decide) c;have b5:L.H≠L.tb n:=fun c=>T c.symm;clear E F Z U c7 x0 x1 x2 x3 x4 y0 y1 y2 y3 y4;go_upto_region 6 with (fail)
 have B:=ah (u.o.set (j:=5) (by omega) (.int .i64 ((h.GY:Int)+40)));have s:=ah (H3.o.1.off (w':=w3.setCell ⟨L.H,5,none⟩ (.int .i64 ((h.GY:Int)+40))) (Keeps.setCell (S:=fun b=>b=L.H) (Keeps.refl w3 _) rfl _) u.o);have b3:=ah (show Keeps w2 (w3.setCell ⟨L.H,5,none⟩ (.int .i64 ((h.GY:Int)+40))) (fun c=>c=L.H∨c=L.tb n∨(L.es n).ownBlock=some c∨dz (L.mp n)=some c) from (H3.o.2.1.mono (fun c e=>Or.inr e)).trans (Keeps.setCell (S:=fun c=>c=L.H∨c=L.tb n∨(L.es n).ownBlock=some c∨dz (L.mp n)=some c) (Keeps.refl w3 _) (.inl rfl) _));generalize w3.setCell ⟨L.H,5,none⟩ (.int .i64 ((h.GY:Int)+40))=w4 at *;clear c5 z5;obtain ⟨A4,g,Y,-,-⟩:=iH s.o.e;subst Y;have z:(aS o.es++[(k,v)]).length=(aS o.es).length+1:=by simp
 have d7:w4.cell? ⟨L.tb n,7,none⟩=some (.slice A4 (aS o.es++[(k,v)]).length g):=s.o.r.c 7;have d2:w4.cell? ⟨L.tb n,2,none⟩=some (.int .i64 ((40+40*o.es.length:Nat):Int)):=s.o.r.c 2;have d4:w4.cell? ⟨L.H,4,none⟩=some (.int .i64 (h.bytes:Int)):=B.o.c 4;have Q:=s.o.r.lt;have a1:=B.o.lt;have z2:=s.o.r.Nq 2;have z4:=B.o.Nq 4;have b8:=d.o.Nh;have a3:=d.o.fr;have a2:=lQ o.es;rw [z] at d7;obtain ⟨q,hq⟩:∃ q,(aS o.es).length=q:=⟨_,rfl⟩
 rw [hq] at d7 a2 z;have HQ:=ah hq;have K:=ah z;clear hq z;have a9:=ah (fun (w':World) (hb:Below w4.heap.size w4 w')=>jS w' (L.tb n) L.H ((40+40*o.es.length:Nat):Int) (h.bytes:Int) (((q:Int)+1-(o.es.length:Int))*40) ((hb.cell (p:=⟨L.tb n,2,none⟩) Q).trans d2) ((hb.cell (p:=⟨L.H,4,none⟩) a1).trans d4) ((hb.frozen (p:=⟨L.tb n,2,none⟩) Q).trans z2) ((hb.frozen (p:=⟨L.H,4,none⟩) a1).trans z4) T (by omega) (by omega) (by omega));have a7:=ah (IntWalk.i64_in (n:=(q:Int)+1-(o.es.length:Int)) (by constructor<;>omega));have a6:=ah (IntWalk.i64_in (n:=((q:Int)+1-(o.es.length:Int))*40) (by constructor<;>omega));clear z2 z4 d2 d4;go_wp2_with fail
 go_region_held3 (fun w'=>w'.cell? ⟨L.tb n,7,none⟩=some (.slice A4 (q+1) g)) (go_keep)
  (first
    |(go_at_call 105
      rw [a7.o,a6.o];refine (a9.o _ (aC (aG _ _) _)).mono ?_;rintro e5 w5 ⟨rfl,P⟩;have H5:=ah (CB l.o D.o s.o B.o (fun _ _=>rfl) b3.o H3.o.2.2.1 H3.o.2.2.2 K.o HQ.o a3 (aC (aG _ _) _) P);have t7:w5.cell? ⟨L.tb n,7,none⟩=some (.slice A4 (q+1) g):=by rw [<-K.o];exact H5.o.2.2
      clear P)
    |fail)
 clear t7 d7;have b1:=ah (show PS base S { h.upd n (fun o=>{ o with es:=aS o.es++[(k,v)] }) with bytes:=h.bytes-40*(o.es.length-(aS o.es).length)+40,GY:=h.GY+40 } (L.MZ n (.slice A4 (q+1) g) N) w5 from ⟨x,y,G,by rw [<-K.o];exact H5.o.1,HR.o.same rfl rfl rfl rfl rfl (h.Hu n _) (AZ h n _)⟩);have b2:Hq (Hp.ob { h.upd n (fun o=>{ o with es:=aS o.es++[(k,v)] }) with bytes:=h.bytes-40*(o.es.length-(aS o.es).length)+40,GY:=h.GY+40 } n=some { o with es:=aS o.es++[(k,v)] }):=ah (by
  show (h.upd n _).ob n=_;rw [Hp.Hf,if_pos rfl,D.o];rfl)
 have b4:=ah (pO b1.o b2.o d.o.ag);go_wp2_with fail;refine b4.o.mono ?_;rintro e6 w6 ⟨rfl,L6,V,R,W⟩;have H6:=ah (C.intro V (C.intro R W));clear V R W;go_wp2;go_end0;exact ⟨rfl,L6,(show Na L (L.MZ n (.slice A4 (q+1) g) N) from ⟨rfl,rfl⟩).trans H6.o.1.y,by rw [b0.o];exact H6.o.2.1,((Keeps.of HB.o (aO a5.o) S).trans H5.o.2.1).trans H6.o.2.2⟩
theorem pK (p:PS base S h L w) (ho:h.ob n=some o) {k v:HV} (b:Ko h o k):
 Calls Tryz.prog 73 #[.pointer (some ⟨L.H,0,none⟩),.pointer (some ⟨L.tb n,0,none⟩),.agg #[.int .i64 (vk k),.int .i64 (vi k),.int .u64 0,.string ByteArray.empty,aK L.tb k],.agg #[.int .i64 (vk v),.int .i64 (vi v),.int .u64 0,.string ByteArray.empty,aK L.tb v]] w fun e' w'=>e'=.returned (.tuple #[])/\∃ L',Na L L'/\PS base S (h.put n k v) L' w'/\Keeps w w' S:=by
 obtain ⟨x,y,G,a,r⟩:=p;cases hf:kR o.es k with
 |some i=>exact Em a r ho b hf
 |none=>
  cases hv:v.isNone with
  |true=>exact EJ a r ho b hf hv
  |false=>exact BH a r ho b hf hv
end
section
variable {N N0 X base m n:Nat} {S:Nat->Prop} {es:List En} {h:Hp} {l x y:List Nat} {tb tb':Nat->Nat} {v:Value} {w w1:World}
structure MG (h:Hp):Prop where
 r:∀ n o,h.ob n=some o->∀ e∈o.es,∀ r∈dw e,r<h.objs.length
 k:∀ n o,h.ob n=some o->∀ e∈o.es,e.2.isSome=true->e.1.isSome=true
def mD (N N0 m:Nat):Nat:=if m=N then N0 else m
def CJ (tb:Nat->Nat) (N N0 X m:Nat):Nat:=if m=N then X else if m=N0 then tb N else tb m
theorem wP (h:N<N0) (hm:m≠N0):CJ tb N N0 X (mD N N0 m)=tb m:=by
 unfold CJ mD;by_cases c:m=N
 ·rw [if_pos c,if_neg (by omega),if_pos rfl,c]
 ·rw [if_neg c,if_neg c,if_neg hm]
theorem EC (h:N<N0) (hm:m<N):CJ tb N N0 X m=tb m:=by
 unfold CJ;rw [if_neg (by omega),if_neg (by omega)]
theorem D_ (hm:m<N):mD N N0 m=m:=by unfold mD;rw [if_neg (by omega)]
theorem gP (h:∀ n∈l,n<N):l.map (mD N N0)=l:=by
 conv=>rhs;rw [<-List.map_id l]
 exact List.map_congr_left (fun n hn=>D_ (h n hn))
theorem Ay {k:Nat} (hk:k≠18) (h:tb' m=tb n):eP tb' k m=eP tb k n:=by
 unfold eP oQ jL oQ;rw [h,if_neg hk,if_neg hk]
theorem z_ {v:HV} (h:∀ r∈bQ v,tb' r=tb r):aK tb' v=aK tb v:=by
 cases v with
 |none=>rfl
 |some x=>cases x with
  |inl z=>rfl
  |inr n=>
   show jL tb' n=jL tb n;unfold jL oQ;rw [h n (by simp [bQ])]
theorem Ea (h:∀ e∈es,∀ r∈dw e,tb' r=tb r):jh tb' es=jh tb es:=by
 unfold jh
 induction es with
 |nil=>rfl
 |cons e l ih=>
  rw [List.flatMap_cons,List.flatMap_cons,ih (fun e' he'=>h e' (List.mem_cons_of_mem _ he'))];congr 1;unfold jG kF;rw [z_ (fun r hr=>h e (List.mem_cons_self ..) r (List.mem_append_left _ hr)),z_ (fun r hr=>h e (List.mem_cons_self ..) r (List.mem_append_right _ hr))]
theorem jT:∀ l:List Nat,∃ B,∀ n∈l,n<B
 | []=>⟨0,fun n hn=>by simp at hn⟩
 |a::l=>by
  obtain ⟨B,hB⟩:=jT l;refine ⟨max B (a+1),fun n hn=>?_⟩;rcases eT.1 hn with rfl|c
  ·omega
  ·have:=hB n c;omega
def PM.mk1 (L:PM) (N N0 X:Nat) (v:Value):PM:=⟨L.H,CJ L.tb N N0 X,fun m=>if m=N then .slice none 0 0 else L.es m,fun m=>if m=N then .map none else L.mp m,fun j=>if j=7 then v else L.li j⟩
def Gh.mk1 (G:Gh) (N N0:Nat):Gh:={ G with Nl:=G.Nl.map (mD N N0)++[N],ag:=G.ag.map (mD N N0) }
theorem gU (h:Hp) (m n:Nat):(h.make m).ob n=if n=h.objs.length then some ⟨h.white,m,[],false⟩ else h.ob n:=h.IV _ n
theorem MV.made {G:Gh} {L:PM} (a:MV base S (h.wk x y) G L w) (b:MG h) (Q:∀ n,n∈h.roots∨n∈h.grey∨n∈h.finals∨n∈h.pending->n<h.objs.length)
 (hN:h.objs.length<N0) (h0:∀ n,n∈x∨n∈y∨n∈G.ag∨n∈G.Nl->n<N0)
 (kk:Keeps w w1 (fun c=>c=L.H∨(L.li 7).ownBlock=some c)) (hX:w.heap.size<=X)
 (hh:aD w1 77 L.H 19 (kI ((h.make m).wk (x.map (mD h.objs.length N0)) (y.map (mD h.objs.length N0))) (G.mk1 h.objs.length N0) (L.mk1 h.objs.length N0 X v)))
 (hr:aD w1 136 X 13 (nM ⟨h.white,m,[],false⟩ h.objs.length (.slice none 0 0) (.map none)))
 (hown:w1.ownsRow base 67 1 v (G.Nl.length+1) (G.Nl.map (eP L.tb 7)++[.iface 127 (.pointer (some ⟨X,0,none⟩))])) (hv:∀ g,v.ownBlock=some g->(L.li 7).ownBlock=some g∨w.heap.size<=g):
 MV base S ((h.make m).wk (x.map (mD h.objs.length N0)) (y.map (mD h.objs.length N0))) (G.mk1 h.objs.length N0) (L.mk1 h.objs.length N0 X v) w1/\Keeps w w1 S:=by
 generalize R:h.objs.length=N at *;have a1:∀ n,((h.make m).wk (x.map (mD N N0)) (y.map (mD N N0))).ob n=if n=N then some ⟨h.white,m,[],false⟩ else h.ob n:=fun n=>by
  rw [<-R];exact gU h m n
 have a2:∀ n o,h.ob n=some o->n<N:=fun n o e=>by rw [<-R];exact Hp.Hy e
 have d:∀ n o,((h.make m).wk (x.map (mD N N0)) (y.map (mD N N0))).ob n=some o->(n=N/\o=⟨h.white,m,[],false⟩)∨(n<N/\n≠N/\h.ob n=some o):=by
  intro n o e;rw [a1] at e;split at e
  ·rename_i c;simp at e;exact .inl ⟨c,e.symm⟩
  ·rename_i c;exact .inr ⟨a2 n o e,c,e⟩
 have P:∀ n,n<N->(L.mk1 N N0 X v).tb n=L.tb n:=fun n p=>EC hN p;have U:(L.mk1 N N0 X v).tb N=X:=by show CJ L.tb N N0 X N=X;unfold CJ;rw [if_pos rfl]
 have el:∀ n,n≠N->(L.mk1 N N0 X v).es n=L.es n:=fun n p=>by show (if n=N then _ else _)=_;rw [if_neg p]
 have eN:(L.mk1 N N0 X v).es N=.slice none 0 0:=by show (if N=N then _ else _)=_;rw [if_pos rfl]
 have ml:∀ n,n≠N->(L.mk1 N N0 X v).mp n=L.mp n:=fun n p=>by show (if n=N then _ else _)=_;rw [if_neg p]
 have V:(L.mk1 N N0 X v).mp N=.map none:=by show (if N=N then _ else _)=_;rw [if_pos rfl]
 have ll:∀ j,j≠7->(L.mk1 N N0 X v).li j=L.li j:=fun j t=>by show (if j=7 then _ else _)=_;rw [if_neg t]
 have l7:(L.mk1 N N0 X v).li 7=v:=rfl;have hw:=a.bs;have h7:=a.li 7 (by simp [eF]);have hR:∀ {T g n:Nat} {f:Nat->Value},aD w T g n f->T≠77->T≠67->¬ (g=L.H∨(L.li 7).ownBlock=some g):=by
  intro T g n f q1 q2 q3 Z;rcases Z with Z|Z
  ·exact q1.apart a.hp q2 Z
  ·exact ak h7 q1 (Ne.symm q3) Z
 have hS:∀ c,(c=L.H∨(L.li 7).ownBlock=some c)->S c:=by
  intro c e;rcases e with e|e
  ·exact e ▸ a.sH
  ·exact a.sl 7 c (by simp [eF]) e
 have Y:∀ n o,h.ob n=some o->L.tb n<w.heap.size:=fun n o e=>(a.ob n o e).lt;have a0:∀ j g,eF j->(L.li j).ownBlock=some g->g<w.heap.size:=fun j g t e=>(ay (a.li j t) e).lt;refine ⟨⟨hh,fun n o e=>?_,fun n o e=>?_,fun n o e=>?_,fun j t=>?_,?_,?_,?_,?_,a.bH,?_,?_,aI a.bs kk.size,a.sH,?_,?_,?_,?_,fun c hc=>a.up c (aI kk.size hc)⟩,kk.mono hS⟩
 ·rcases d n o e with ⟨rfl,rfl⟩|⟨u,s,k⟩
  ·rw [U,eN,V];exact hr
  ·rw [P n u,el n s,ml n s]
   exact (a.ob n o k).keep kk (hR (a.ob n o k) (by decide) (by decide))
 ·rcases d n o e with ⟨rfl,rfl⟩|⟨u,s,k⟩
  ·rw [eN];exact ⟨rfl,.inl ⟨rfl,rfl⟩⟩
  ·rw [el n s,Ea (fun A he' r hr'=>P r (by have:=b.r n o k A he' r hr';rw [R] at this;exact this))]
   exact aj (a.en n o k) kk (fun g i=>hR (ay (a.en n o k) i) (by decide) (by decide))
 ·rcases d n o e with ⟨rfl,rfl⟩|⟨u,s,k⟩
  ·rw [V];exact .inl ⟨rfl,rfl⟩
  ·rw [ml n s]
   refine (a.mp n o k).keep kk (fun g i y=>?_);rcases y with y|y
   ·exact (a.mp n o k).apart a.hp (y ▸ i)
   ·exact (a.mp n o k).apart (ay h7 y) i
 ·by_cases c7:j=7
  ·subst c7
   rw [l7];have e1:(eU ((h.make m).wk (x.map (mD N N0)) (y.map (mD N N0))) (G.mk1 N N0) 7)=G.Nl.map (mD N N0)++[N]:=rfl;rw [e1,List.map_append,aT,bI,List.map_map];have e2:G.Nl.map (eP (L.mk1 N N0 X v).tb 7 ∘ mD N N0)=G.Nl.map (eP L.tb 7):=List.map_congr_left (fun n p=>Ay (by decide) (wP hN (Nat.ne_of_lt (h0 n (.inr (.inr (.inr p)))))));rw [e2];have e3:[N].map (eP (L.mk1 N N0 X v).tb 7)=[.iface 127 (.pointer (some ⟨X,0,none⟩))]:=by
    show [jL (L.mk1 N N0 X v).tb N]=_;unfold jL oQ;rw [U]
   rw [e3];exact hown
  ·rw [ll j c7]
   have h9:=aj (a.li j t) kk (fun g i y=>by
    rcases y with y|y
    ·exact ak (a.li j t) a.hp (iG t).1 (y ▸ i)
    ·exact c7 (a.lj j 7 g t (by simp [eF]) i y))
   by_cases M:j=18
   ·subst M
    exact h9
   ·have e1:eU ((h.make m).wk (x.map (mD N N0)) (y.map (mD N N0))) (G.mk1 N N0) j=(eU (h.wk x y) G j).map (mD N N0):=by
     rcases t with rfl|rfl|rfl|rfl|rfl|rfl|rfl|rfl|rfl
     ·exact absurd rfl c7
     ·exact (gP (fun n p=>Q n (.inl p))).symm
     ·exact (gP (fun n p=>Q n (.inr (.inl p)))).symm
     ·rfl
     ·rfl
     ·rfl
     ·exact (gP (fun n p=>Q n (.inr (.inr (.inl p))))).symm
     ·exact (gP (fun n p=>Q n (.inr (.inr (.inr p))))).symm
     ·exact absurd rfl M
    have e0:∀ n∈eU (h.wk x y) G j,n≠N0:=by
     intro n p;rcases t with rfl|rfl|rfl|rfl|rfl|rfl|rfl|rfl|rfl
     ·exact absurd rfl c7
     ·have:=Q n (.inl p);omega
     ·have:=Q n (.inr (.inl p));omega
     ·have:=h0 n (.inr (.inr (.inl p)));omega
     ·have:=h0 n (.inl p);omega
     ·have:=h0 n (.inr (.inl p));omega
     ·have:=Q n (.inr (.inr (.inl p)));omega
     ·have:=Q n (.inr (.inr (.inr p)));omega
     ·exact absurd rfl M
    have e2:((eU (h.wk x y) G j).map (mD N N0)).map (eP (L.mk1 N N0 X v).tb j)=(eU (h.wk x y) G j).map (eP L.tb j):=by
     rw [List.map_map];exact List.map_congr_left (fun n p=>Ay M (wP hN (e0 n p)))
    rw [e1,e2,bI];exact h9
 ·intro n C o E e A B
  rcases d n o e with ⟨rfl,rfl⟩|⟨u,s,k⟩<;>rcases d C E A with ⟨rfl,rfl⟩|⟨K,J,D⟩
  ·rfl
  ·rw [U,P C K] at B
   have:=Y C E D;omega
  ·rw [U,P n u] at B
   have:=Y n o k;omega
  ·rw [P n u,P C K] at B
   exact a.ij n C o E k D B
 ·intro n C o E g e A B q
  rcases d n o e with ⟨rfl,rfl⟩|⟨u,s,k⟩
  ·rw [eN] at B;simp [Value.ownBlock] at B
  ·rcases d C E A with ⟨rfl,rfl⟩|⟨K,J,D⟩
   ·rw [eN] at q;simp [Value.ownBlock] at q
   ·rw [el n s] at B;rw [el C J] at q
    exact a.ei n C o E g k D B q
 ·intro n C o E g e A B q
  rcases d n o e with ⟨rfl,rfl⟩|⟨u,s,k⟩
  ·rw [V] at B;simp [dz] at B
  ·rcases d C E A with ⟨rfl,rfl⟩|⟨K,J,D⟩
   ·rw [V] at q;simp [dz] at q
   ·rw [ml n s] at B;rw [ml C J] at q
    exact a.mi n C o E g k D B q
 ·intro j W g t F e A
  by_cases c:j=7<;>by_cases c':W=7
  ·rw [c,c']
  ·subst c
   rw [l7] at e;rw [ll W c'] at A;rcases hv g e with z|z
   ·exact a.lj 7 W g t F z A
   ·have:=a0 W g F A;omega
  ·subst c'
   rw [l7] at A;rw [ll j c] at e;rcases hv g A with z|z
   ·exact a.lj j 7 g t F e z
   ·have:=a0 j g t e;omega
  ·rw [ll j c] at e;rw [ll W c'] at A
   exact a.lj j W g t F e A
 ·intro n o e
  rcases d n o e with ⟨rfl,rfl⟩|⟨u,s,k⟩
  ·rw [U];omega
  ·rw [P n u];exact a.bt n o k
 ·intro n o g e i
  rcases d n o e with ⟨rfl,rfl⟩|⟨u,s,k⟩
  ·rw [V] at i;simp [dz] at i
  ·rw [ml n s] at i;exact a.bm n o g k i
 ·intro n o e
  rcases d n o e with ⟨rfl,rfl⟩|⟨u,s,k⟩
  ·rw [U];exact a.up X hX
  ·rw [P n u];exact a.st n o k
 ·intro n o g e i
  rcases d n o e with ⟨rfl,rfl⟩|⟨u,s,k⟩
  ·rw [eN] at i;simp [Value.ownBlock] at i
  ·rw [el n s] at i;exact a.se n o g k i
 ·intro n o g e i
  rcases d n o e with ⟨rfl,rfl⟩|⟨u,s,k⟩
  ·rw [V] at i;simp [dz] at i
  ·rw [ml n s] at i;exact a.sm n o g k i
 ·intro j g t i
  by_cases c:j=7
  ·subst c
   rw [l7] at i;rcases hv g i with z|z
   ·exact a.sl 7 g t z
   ·exact a.up g z
  ·rw [ll j c] at i
   exact a.sl j g t i
theorem qN (h:Hp) (m n:Nat):(h.make m).Lv n↔(h.Lv n∨n=h.objs.length):=by
 unfold Hp.Lv;rw [gU];split
 ·rename_i c;simp [c]
 ·rename_i c;simp [c]
theorem wL (h:l.Pairwise (·< ·)) (c:∀ n∈l,n<N):(l++[N]).Pairwise (·< ·):=by
 rw [List.pairwise_append];exact ⟨h,List.pairwise_singleton _ _,fun a ha b hb=>by simp at hb;subst hb;exact c a ha⟩
theorem PR.made {G:Gh} (r:PR h x y G) (g:Gd h) (m N0:Nat):PR (h.make m) (x.map (mD h.objs.length N0)) (y.map (mD h.objs.length N0)) (G.mk1 h.objs.length N0):=by
 have lv:∀ n,h.Lv n->n<h.objs.length:=fun n hn=>by obtain ⟨o,ho⟩:=hn;exact Hp.Hy ho
 refine ⟨fun e=>?_,fun e=>?_,fun e=>?_,?_⟩
 ·have t:=g.i.s1 e
  obtain ⟨e1,j,f⟩:=r.s1 e;refine ⟨?_,?_,?_⟩
  ·rw [e1];exact gP (fun n hn=>lv n (t.ll n (.inr (.inr (.inl hn)))))
  ·rw [j];exact gP (fun n hn=>lv n (t.ll n (.inr (.inr (.inr hn)))))
  ·show G.ag.map _=h.again
   rw [f];exact gP (fun n hn=>lv n (t.ll n (.inr (.inl hn))))
 ·have s:=r.s2 e
  have b:=(g.i.s2 e).2.2.1;have d:(G.mk1 h.objs.length N0).Nl.take G.kept=G.Nl.take G.kept:=by
   show (G.Nl.map _++[_]).take G.kept=_;rw [List.take_append_of_le_length (by rw [bI];exact aI s.ks s.sl),<-List.map_take];exact gP (fun n hn=>lv n ((s.kl n).1 hn).1)
  have c:(G.mk1 h.objs.length N0).Nl.drop G.Hl=G.Nl.drop G.Hl++[h.objs.length]:=by
   show (G.Nl.map _++[_]).drop G.Hl=_;rw [List.drop_append_of_le_length (by rw [bI];exact s.sl),<-List.map_drop];rw [gP (fun n hn=>lv n ((s.dl n).1 hn).1)]
  refine ⟨s.ks,?_,?_,fun n=>?_,?_,fun n=>?_⟩
  ·show G.Hl<=(G.Nl.map _++[_]).length
   rw [aT,bI];have:=s.sl;omega
  ·show ((G.mk1 h.objs.length N0).Nl.take G.kept).Pairwise _
   rw [d];exact s.ku
  ·show n∈(G.mk1 h.objs.length N0).Nl.take G.kept↔(h.make m).Lv n/\n<h.G5
   rw [d,s.kl,qN];constructor
   ·exact fun z=>⟨.inl z.1,z.2⟩
   ·rintro ⟨z|z,a⟩
    ·exact ⟨z,a⟩
    ·omega
  ·show ((G.mk1 h.objs.length N0).Nl.drop G.Hl).Pairwise _
   rw [c];exact wL s.du (fun n hn=>lv n ((s.dl n).1 hn).1)
  ·show n∈(G.mk1 h.objs.length N0).Nl.drop G.Hl↔(h.make m).Lv n/\h.G5<=n
   rw [c,aY,s.dl,qN];constructor
   ·rintro (z|z)
    ·exact ⟨.inl z.1,z.2⟩
    ·simp at z;subst z;exact ⟨.inr rfl,b⟩
   ·rintro ⟨z|z,a⟩
    ·exact .inl ⟨z,a⟩
    ·exact .inr (by simp [z])
 ·have s:=r.s0 e
  have t:(G.mk1 h.objs.length N0).Nl=G.Nl++[h.objs.length]:=by
   show G.Nl.map _++[_]=_;rw [gP (fun n hn=>lv n ((s.lv n).1 hn))]
  refine ⟨by rw [t];exact wL s.up (fun n hn=>lv n ((s.lv n).1 hn)),fun n=>?_⟩;rw [t,aY,s.lv,qN];simp
 ·show (G.Nl.map _++[_]).length<=(h.objs++[_]).length
  rw [aT,aT,bI];have:=r.ol;simp;exact this
end
section
variable {H X base:Nat} {Nh li md wh:Int} {f:Nat->Value} {lv:Value} {w:World}
attribute [local go_sem] bW
theorem vD {g:Nat->Value} {l:List Value} {cr:Int} (k:aD w 77 H 19 f) (f1:f 1=.int .i64 wh) (f2:f 2=.int .i64 md) (f3:f 3=.int .i64 li) (f4:f 4=.int .i64 Nh) (f5:f 5=.int .i64 cr) (f7:f 7=lv)
 (hr:aD w 136 X 13 g) (C:g 2=.int .i64 0) (hown:w.ownsRow base 67 1 lv l.length l) (y:base<=w.heap.size) (hl:l.length<=1000000) (a7:0<=md/\md<=1000000) (a9:0<=li/\li<=1000000) (b1:0<=Nh/\Nh<=1000000) (b0:0<=cr/\cr<=1000000):
 Calls Tryz.prog 99 #[.pointer (some ⟨H,0,none⟩),.iface 127 (.pointer (some ⟨X,0,none⟩)),.int .i64 40] w fun e w'=>e=.returned (.tuple #[])/\∃ v',
  aD w' 77 H 19 (fun i=>if i=5 then .int .i64 (cr+40) else if i=4 then .int .i64 (Nh+40) else if i=7 then v' else if i=3 then .int .i64 (li+1) else if i=2 then .int .i64 (md+1) else f i)/\
  aD w' 136 X 13 (fun i=>if i=2 then .int .i64 (0+40) else if i=0 then .int .i64 wh else if i=1 then .int .i64 (md+1) else g i)/\
  w'.ownsRow base 67 1 v' (l.length+1) (l++[.iface 127 (.pointer (some ⟨X,0,none⟩))])/\Keeps w w' (fun c=>c=H∨c=X∨lv.ownBlock=some c)/\∀ q,v'.ownBlock=some q->lv.ownBlock=some q∨w.heap.size<=q:=by
 obtain ⟨n,m,hv⟩:=aF hown;subst hv;have p:H≠X:=fun c=>k.apart hr (by decide) c;have h:X≠H:=fun c=>p c.symm;have R:w.cell? ⟨H,2,none⟩=some (.int .i64 md):=by rw [k.c 2,f2]
 have c3:w.cell? ⟨H,3,none⟩=some (.int .i64 li):=by rw [k.c 3,f3]
 have z2:=k.Nq 2;have z3:=k.Nq 3;have U:=ah ((k.set (j:=2) (by omega) (.int .i64 (md+1))).set (j:=3) (by omega) (.int .i64 (li+1)));have F:Hq (Keeps w ((w.setCell ⟨H,2,none⟩ (.int .i64 (md+1))).setCell ⟨H,3,none⟩ (.int .i64 (li+1))) (fun c=>c=H)):=ah (Keeps.setCell (S:=fun c=>c=H) (Keeps.setCell (S:=fun c=>c=H) (Keeps.refl w _) rfl _) rfl _);have t:=ah (hr.keep F.o h);have O1:=ah (aj hown F.o (fun q hq c=>ak hown k (by decide) (c ▸ hq)));have a8:=iO X;have a3:=ah (fun w9=>gQ w9 X);have a5:=ah y;have F1:=ah f1;have F4:=ah f4;have F5:=ah f5;have F7:=ah f7;have G2:=ah C;clear hown y f1 f2 f3 f4 f5 f7 C;go_enter Tryz.func99,Tryz.ntmps99;go_upto_region 2 with (fail)
 generalize (w.setCell ⟨H,2,none⟩ (.int .i64 (md+1))).setCell ⟨H,3,none⟩ (.int .i64 (li+1))=w1 at *;clear R c3 z2 z3 k hr;have c1:w1.cell? ⟨H,1,none⟩=some (.int .i64 wh):=by rw [U.o.c 1];exact congrArg some F1.o
 have R:w1.cell? ⟨H,2,none⟩=some (.int .i64 (md+1)):=U.o.c 2;have t0:=t.o.c 0;have t1:=t.o.c 1;have z0:=t.o.Nq 0;have z1:=t.o.Nq 1;have T:=ah ((t.o.set (j:=1) (by omega) (.int .i64 (md+1))).set (j:=0) (by omega) (.int .i64 wh));have E:Hq (Keeps w1 ((w1.setCell ⟨X,1,none⟩ (.int .i64 (md+1))).setCell ⟨X,0,none⟩ (.int .i64 wh)) (fun c=>c=X)):=ah (Keeps.setCell (S:=fun c=>c=X) (Keeps.setCell (S:=fun c=>c=X) (Keeps.refl w1 _) rfl _) rfl _);have M:=ah (U.o.keep E.o p);have W:=ah (aj O1.o E.o (fun q hq c=>ak O1.o t.o (by decide) (c ▸ hq)));go_wp2_with fail;refine (a3.o _).mono ?_;rintro e2 w2 ⟨rfl,rfl⟩;go_upto_region 5 with (fail)
 generalize (w2.setCell ⟨X,1,none⟩ (.int .i64 (md+1))).setCell ⟨X,0,none⟩ (.int .i64 wh)=w3 at *;clear c1 R t0 t1 z0 z1;have c7:w3.cell? ⟨H,7,none⟩=some (.slice n l.length m):=by rw [M.o.c 7];exact congrArg some F7.o
 have b3:=M.o.lt;have b2:=T.o.lt;have B:(Value.slice n l.length m).ownBlock≠some H:=fun c=>ak W.o M.o (by decide) c;have A:(Value.slice n l.length m).ownBlock≠some X:=fun c=>ak W.o T.o (by decide) c;have z:base<=w3.heap.size:=aI a5.o (aI F.o.size E.o.size);have a2:=ah B;have a0:=ah A;have a6:=ah z;clear B A z;go_wp2_with (first
  |(at_builtin
    refine fC rfl (.tmp 41) (.tmp 43) 70 67 1 16 .nilIface rfl Tryz.underlying70 gY rfl (by decide) base (.slice n l.length m) l.length l [.iface 127 (.pointer (some ⟨X,0,none⟩))] W.o rfl rfl rfl (fun u hu=>by simp at hu;subst hu;rfl) (by omega) (by decide) a6.o ?_;intro v' w4 Q C g3 g4;obtain ⟨s,r,P⟩:=aF Q;subst P;have a:=C base w3 (aG _ _) (au _);have v:=ah (show w4.ownsRow base 67 1 (.slice s (l.length+1) r) (l.length+1) (l++[.iface 127 (.pointer (some ⟨X,0,none⟩))])/\Keeps w3 w4 (fun c=>(Value.slice n l.length m).ownBlock=some c)/\∀ q,(Value.slice s (l.length+1) r).ownBlock=some q->(Value.slice n l.length m).ownBlock=some q∨w3.heap.size<=q from ⟨Q,⟨a.os,a.tape,a.output,a.size,fun b hb hn=>g3 b hb hn⟩,fun q e=>by
     by_cases c:(Value.slice n l.length m).ownBlock=some q
     ·exact .inl c
     ·right
      rcases Nat.lt_or_ge q w3.heap.size with d|d
      ·exact absurd e (g4 q d c)
      ·exact d⟩)
    have L:=ah (M.o.keep v.o.2.1 a2.o);have T4:=ah (T.o.keep v.o.2.1 a0.o);have p7:w4.cell? ⟨H,7,none⟩=some (.slice n l.length m):=by rw [L.o.c 7];exact congrArg some F7.o
    have q7:=L.o.Nq 7;clear Q C g3 g4 a)
  |fail)
 have K:=ah (L.o.set (j:=7) (by omega) (.slice s (l.length+1) r));have Z:Hq (Keeps w4 (w4.setCell ⟨H,7,none⟩ (.slice s (l.length+1) r)) (fun c=>c=H)):=ah (Keeps.setCell (S:=fun c=>c=H) (Keeps.refl w4 _) rfl _);have J:=ah (T4.o.keep Z.o h);have V:=ah (aj v.o.1 Z.o (fun q hq c=>ak v.o.1 L.o (by decide) (c ▸ hq)));generalize w4.setCell ⟨H,7,none⟩ (.slice s (l.length+1) r)=w5 at *;clear c7 p7 q7;have a1:=ah (jS w5 X H 0 Nh 40 (by rw [J.o.c 2];exact congrArg some G2.o) (by rw [K.o.c 4];exact congrArg some F4.o) (J.o.Nq 2) (K.o.Nq 4) h (by omega) (by omega) (by omega));refine a1.o.mono ?_;rintro e6 G ⟨rfl,x⟩;have T6:=ah ((J.o.set (j:=2) (by omega) (.int .i64 (0+40))).keep (Keeps.setCell (S:=fun c=>c=H) (Keeps.refl _ _) rfl (.int .i64 (Nh+40)) (g:=H) (j:=4)) h);have D:=ah ((K.o.keep (Keeps.setCell (S:=fun c=>c=X) (Keeps.refl _ _) rfl (.int .i64 (0+40)) (g:=X) (j:=2)) p).set (j:=4) (by omega) (.int .i64 (Nh+40)));have Y:Hq (Keeps w5 ((w5.setCell ⟨X,2,none⟩ (.int .i64 (0+40))).setCell ⟨H,4,none⟩ (.int .i64 (Nh+40))) (fun c=>c=H∨c=X)):=ah (Keeps.setCell (S:=fun c=>c=H∨c=X) (Keeps.setCell (S:=fun c=>c=H∨c=X) (Keeps.refl w5 _) (.inr rfl) _) (.inl rfl) _);rw [<-x] at T6 D Y;clear x;have O6:=ah (aj V.o Y.o (fun q hq c=>by
  rcases c with c|c
  ·exact ak V.o K.o (by decide) (c ▸ hq)
  ·exact ak V.o J.o (by decide) (c ▸ hq)))
 have c5:G.cell? ⟨H,5,none⟩=some (.int .i64 cr):=by rw [D.o.c 5];exact congrArg some F5.o
 have z5:=D.o.Nq 5;go_wp2;go_end0;have N:Keeps G (G.setCell ⟨H,5,none⟩ (.int .i64 (cr+40))) (fun c=>c=H):=Keeps.setCell (S:=fun c=>c=H) (Keeps.refl G _) rfl _;refine ⟨rfl,.slice s (l.length+1) r,D.o.set (j:=5) (by omega) _,T6.o.keep N h,aj O6.o N (fun q hq c=>ak O6.o D.o (by decide) (c ▸ hq)),?_,fun q hq=>?_⟩
 ·exact (((((F.o.mono (fun c e=>Or.inl e)).trans (E.o.mono (fun c e=>Or.inr (Or.inl e)))).trans (v.o.2.1.mono (fun c e=>Or.inr (Or.inr e)))).trans (Z.o.mono (fun c e=>Or.inl e))).trans (Y.o.mono (fun c e=>e.imp id Or.inl))).trans (N.mono (fun c e=>Or.inl e))
 ·exact (v.o.2.2 q hq).imp id (aI (aI F.o.size E.o.size))
end
end Go.Proofs.YtbpcdfbmnklcjaaGreatDoor
