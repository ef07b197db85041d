import Derived.Test.YtbpcdfbmnklcjaaGreatDoorKHYM
namespace Go.Proofs.YtbpcdfbmnklcjaaGreatDoor
open Go Go.RowKit
set_option maxHeartbeats 6400000
set_option maxRecDepth 100000
set_option linter.unusedVariables false
section
variable {G:Gh} {L:PM} {S:Nat->Prop} {base i n t:Nat} {e:En} {ev mv:Value} {h:Hp} {o:Ob} {w:World}
attribute [local go_sem] bW
def pq (o:Ob) (n:Nat) (ev mv:Value) (B:Int) (k:Nat):Value:=if k=9 then .int .i64 B else nM o n ev mv k
theorem jo {B:Int} (h:aD w 136 t 13 (pq o n ev mv B)) (a:Int):aD (w.setCell ⟨t,9,none⟩ (.int .i64 a)) 136 t 13 (pq o n ev mv a):=by
 refine (h.set (by decide) _).congr (fun k hk=>?_);unfold pq;by_cases c:k=9
 ·subst c;rfl
 ·rw [if_neg c,if_neg c,if_neg c]
theorem Cx (a:M0 base S h G L w) (ho:h.ob n=some o) (hi:o.es[i]?=some e) (v:HV) (a5:o.es.length<=5000) (u:e.2.isNone=false) (s:v.isNone=false):
 Calls Tryz.prog 123 #[.pointer (some ⟨L.tb n,0,none⟩),.int .i64 (i:Int),.agg #[.int .i64 (vk v),.int .i64 (vi v),.int .u64 0,.string ByteArray.empty,aK L.tb v]] w fun e' w'=>e'=.returned (.tuple #[])/\M0 base S (h.ents n (o.es.set i (e.1,v))) G L w'/\Keeps w w' S:=by
 have a9:i<o.es.length:=(aJ.1 hi).1;have a6:(i:Int)<(o.es.length:Int):=by omega
 have HX:=ah (d_ w L.tb v);have HB:=ah (aU w (.cells (gG L.tb v) 143));have J:=ah (a.low (aU w (.cells (gG L.tb v) 143)));have a8:(w.alloc (.cells (gG L.tb v) 143)).heap.size=w.heap.size+1:=aG _;have b0:w.heap.size≠L.tb n:=by have:=(a.ob n o ho).lt;omega
 obtain ⟨A,P,M,a7,r⟩:=J.o.ents ho;obtain ⟨g,rfl,f,d⟩:=r i e hi;have N:=fZ o.es;obtain ⟨B,hB⟩:∃ B:Int,B=(aZ o.es:Int):=⟨_,rfl⟩
 have b2:0<=B:=by omega
 have b1:B<=5000:=by omega
 have x:=eZ hi (e.1,v);have HR:Hq (aD (w.alloc (.cells (gG L.tb v) 143)) 136 (L.tb n) 13 (pq o n (L.es n) (L.mp n) B)):=ah ((J.o.ob n o ho).congr (fun k hk=>by
  unfold pq;by_cases c:k=9
  ·subst c;rw [if_pos rfl,hB];rfl
  ·rw [if_neg c]))
 have a4:Hq (B=(aZ (o.es.set i (e.1,v)):Int)):=ah (by
  rw [u,s] at x;simp at x;omega)
 have HO:=ah ho;have HI:=ah hi;have K:=ah M;have E:=ah (bT (w.alloc (.cells (gG L.tb v) 143)) L.tb e.2);rw [show e.2.isNone=false from u] at E;have V:=ah s;clear a ho hi r x hB N u s;go_enter Tryz.func123,Tryz.ntmps123;go_upto_region 1 with (fail)
 generalize w.alloc (.cells (gG L.tb v) 143)=w1 at *;generalize hX:w.heap.size=X at *;have Q:=ah hX;clear hX;have c7:w1.cell? ⟨L.tb n,7,none⟩=some (.slice (some ⟨g,0,none⟩) o.es.length P):=by rw [<-K.o];exact HR.o.c 7
 have d5:=d 5 _ rfl;have d6:=d 6 _ rfl;have d7:=d 7 _ rfl;have d8:=d 8 _ rfl;have d9:=d 9 _ rfl;have H:=ah d;clear d;go_wp2_with fail;refine E.o.mono ?_;rintro e2 w2 ⟨rfl,q⟩;have a3:=ah (Keeps.of q (au _) (fun b=>b=L.tb n));have U:=ah (HX.o.keep (Keeps.of q (au _) (fun _=>False)) (fun y=>y));have a0:=ah (HR.o.keep (Keeps.of q (au _) (fun _=>False)) (fun y=>y));clear q c7 d5 d6 d7 d8 d9;go_upto_region 4 with (fail)
 have Z:=ah a0.o;have C:=ah U.o;have a2:=ah a3.o;generalize w2=w3 at *;obtain ⟨x0,x1,x2,x3,x4⟩:NC w3 X L.tb v:=C.o.c5;have D:=ah (bT w3 L.tb v);rw [V.o] at D;go_wp2_with fail;refine D.o.mono ?_;rintro e4 w4 ⟨rfl,p⟩;have a1:=ah (a2.o.trans (Keeps.of p (au _) (fun b=>b=L.tb n)));have T:=ah (C.o.keep (Keeps.of p (au _) (fun _=>False)) (fun y=>y));have Y:=ah (Z.o.keep (Keeps.of p (au _) (fun _=>False)) (fun y=>y));clear p x0 x1 x2 x3 x4;go_upto_region 8 with (fail)
 have l:=ah a1.o;have R:=ah T.o;have W:=ah Y.o;generalize w4=w6 at *;have F:=ah (J.o.en n o HO.o);have m:g≠L.tb n:=fun c=>(ay F.o (g:=g) (by rw [K.o];simp [Value.ownBlock])).apart (J.o.ob n o HO.o) (by decide) c;obtain ⟨x0,x1,x2,x3,x4⟩:NC w6 X L.tb v:=R.o.c5;have y5:w6.cell? ⟨g,i*10+5,none⟩=some (.int .i64 (vk e.2)):=(bM (a:=⟨g,i*10+5,none⟩) (l.o.block g f m)).trans (H.o 5 _ rfl);have y6:w6.cell? ⟨g,i*10+6,none⟩=some (.int .i64 (vi e.2)):=(bM (a:=⟨g,i*10+6,none⟩) (l.o.block g f m)).trans (H.o 6 _ rfl);have y7:w6.cell? ⟨g,i*10+7,none⟩=some (.int .u64 0):=(bM (a:=⟨g,i*10+7,none⟩) (l.o.block g f m)).trans (H.o 7 _ rfl);have y8:w6.cell? ⟨g,i*10+8,none⟩=some (.string ByteArray.empty):=(bM (a:=⟨g,i*10+8,none⟩) (l.o.block g f m)).trans (H.o 8 _ rfl);have y9:w6.cell? ⟨g,i*10+9,none⟩=some (aK L.tb e.2):=(bM (a:=⟨g,i*10+9,none⟩) (l.o.block g f m)).trans (H.o 9 _ rfl);have z:=ay F.o (g:=g) (by rw [K.o];simp [Value.ownBlock]);have zz:∀ j,w6.frozen? ⟨g,j,none⟩=false:=fun j=>(z.keep l.o m).ME j;clear z;have HT:=ah (J.o.KZ HO.o HI.out v K.o l.o (W.o.congr (fun k hk=>by
  unfold pq;by_cases c:k=9
  ·rw [if_pos c,if_pos c,a4.o]
  ·rw [if_neg c,if_neg c])))
 go_wp2;go_end0;exact ⟨rfl,HT.o.1,(Keeps.of HB.o (aO Q.o) S).trans HT.o.2⟩
theorem Bv (a:M0 base S h G L w) (ho:h.ob n=some o) (hi:o.es[i]?=some e) (v:HV) (a7:o.es.length<=5000) (p:e.2.isNone=true) (u:v.isNone=false):
 Calls Tryz.prog 123 #[.pointer (some ⟨L.tb n,0,none⟩),.int .i64 (i:Int),.agg #[.int .i64 (vk v),.int .i64 (vi v),.int .u64 0,.string ByteArray.empty,aK L.tb v]] w fun e' w'=>e'=.returned (.tuple #[])/\M0 base S (h.ents n (o.es.set i (e.1,v))) G L w'/\Keeps w w' S:=by
 have b1:i<o.es.length:=(aJ.1 hi).1;have a8:(i:Int)<(o.es.length:Int):=by omega
 have HX:=ah (d_ w L.tb v);have HB:=ah (aU w (.cells (gG L.tb v) 143));have K:=ah (a.low (aU w (.cells (gG L.tb v) 143)));have b0:(w.alloc (.cells (gG L.tb v) 143)).heap.size=w.heap.size+1:=aG _;have R:w.heap.size≠L.tb n:=by have:=(a.ob n o ho).lt;omega
 obtain ⟨A,T,P,a9,s⟩:=K.o.ents ho;obtain ⟨g,rfl,f,d⟩:=s i e hi;have Q:=fZ o.es;obtain ⟨B,hB⟩:∃ B:Int,B=(aZ o.es:Int):=⟨_,rfl⟩
 have b4:0<=B:=by omega
 have b3:B<=5000:=by omega
 have x:=eZ hi (e.1,v);have HR:Hq (aD (w.alloc (.cells (gG L.tb v) 143)) 136 (L.tb n) 13 (pq o n (L.es n) (L.mp n) B)):=ah ((K.o.ob n o ho).congr (fun k hk=>by
  unfold pq;by_cases c:k=9
  ·subst c;rw [if_pos rfl,hB];rfl
  ·rw [if_neg c]))
 have a6:Hq ((B-1)=(aZ (o.es.set i (e.1,v)):Int)):=ah (by
  rw [p,u] at x;simp at x;omega)
 have b2:1<=B:=by
  have h9:=eZ hi (e.1,some (.inl 0));rw [p] at h9;simp at h9;omega
 have HO:=ah ho;have HI:=ah hi;have M:=ah P;have F:=ah (bT (w.alloc (.cells (gG L.tb v) 143)) L.tb e.2);rw [show e.2.isNone=true from p] at F;have Z:=ah u;clear a ho hi s x hB Q p u;go_enter Tryz.func123,Tryz.ntmps123;go_upto_region 1 with (fail)
 generalize w.alloc (.cells (gG L.tb v) 143)=w1 at *;generalize hX:w.heap.size=X at *;have U:=ah hX;clear hX;have c7:w1.cell? ⟨L.tb n,7,none⟩=some (.slice (some ⟨g,0,none⟩) o.es.length T):=by rw [<-M.o];exact HR.o.c 7
 have d5:=d 5 _ rfl;have d6:=d 6 _ rfl;have d7:=d 7 _ rfl;have d8:=d 8 _ rfl;have d9:=d 9 _ rfl;have J:=ah d;clear d;go_wp2_with fail;refine F.o.mono ?_;rintro e2 N ⟨rfl,r⟩;have a5:=ah (Keeps.of r (au _) (fun b=>b=L.tb n));have Y:=ah (HX.o.keep (Keeps.of r (au _) (fun _=>False)) (fun y=>y));have z:=ah (HR.o.keep (Keeps.of r (au _) (fun _=>False)) (fun y=>y));clear r c7 d5 d6 d7 d8 d9;have c9:N.cell? ⟨L.tb n,9,none⟩=some (.int .i64 B):=z.o.c 9;have z9:=z.o.ME 9;go_upto_region 4 with (fail)
 have a2:=ah (jo z.o (B-1));have D:=ah (Y.o.keep (Keeps.setCell (S:=fun b=>b=L.tb n) (j:=9) (Keeps.refl N _) rfl (.int .i64 (B-1))) (fun y=>R y));have a4:=ah (a5.o.setCell (g:=L.tb n) (j:=9) rfl (.int .i64 (B-1)));generalize N.setCell ⟨L.tb n,9,none⟩ (.int .i64 (B-1))=w3 at *;clear c9 z9;obtain ⟨x0,x1,x2,x3,x4⟩:NC w3 X L.tb v:=D.o.c5;have E:=ah (bT w3 L.tb v);rw [Z.o] at E;go_wp2_with fail;refine E.o.mono ?_;rintro e4 w4 ⟨rfl,q⟩;have a3:=ah (a4.o.trans (Keeps.of q (au _) (fun b=>b=L.tb n)));have W:=ah (D.o.keep (Keeps.of q (au _) (fun _=>False)) (fun y=>y));have a1:=ah (a2.o.keep (Keeps.of q (au _) (fun _=>False)) (fun y=>y));clear q x0 x1 x2 x3 x4;go_upto_region 8 with (fail)
 have l:=ah a3.o;have V:=ah W.o;have a0:=ah a1.o;generalize w4=w6 at *;have H:=ah (K.o.en n o HO.o);have m:g≠L.tb n:=fun c=>(ay H.o (g:=g) (by rw [M.o];simp [Value.ownBlock])).apart (K.o.ob n o HO.o) (by decide) c;obtain ⟨x0,x1,x2,x3,x4⟩:NC w6 X L.tb v:=V.o.c5;have y5:w6.cell? ⟨g,i*10+5,none⟩=some (.int .i64 (vk e.2)):=(bM (a:=⟨g,i*10+5,none⟩) (l.o.block g f m)).trans (J.o 5 _ rfl);have y6:w6.cell? ⟨g,i*10+6,none⟩=some (.int .i64 (vi e.2)):=(bM (a:=⟨g,i*10+6,none⟩) (l.o.block g f m)).trans (J.o 6 _ rfl);have y7:w6.cell? ⟨g,i*10+7,none⟩=some (.int .u64 0):=(bM (a:=⟨g,i*10+7,none⟩) (l.o.block g f m)).trans (J.o 7 _ rfl);have y8:w6.cell? ⟨g,i*10+8,none⟩=some (.string ByteArray.empty):=(bM (a:=⟨g,i*10+8,none⟩) (l.o.block g f m)).trans (J.o 8 _ rfl);have y9:w6.cell? ⟨g,i*10+9,none⟩=some (aK L.tb e.2):=(bM (a:=⟨g,i*10+9,none⟩) (l.o.block g f m)).trans (J.o 9 _ rfl);have C:=ay H.o (g:=g) (by rw [M.o];simp [Value.ownBlock]);have zz:∀ j,w6.frozen? ⟨g,j,none⟩=false:=fun j=>(C.keep l.o m).ME j;clear C;have HT:=ah (K.o.KZ HO.o HI.out v M.o l.o (a0.o.congr (fun k hk=>by
  unfold pq;by_cases c:k=9
  ·rw [if_pos c,if_pos c,a6.o]
  ·rw [if_neg c,if_neg c])))
 go_wp2;go_end0;exact ⟨rfl,HT.o.1,(Keeps.of HB.o (aO U.o) S).trans HT.o.2⟩
theorem yR (a:M0 base S h G L w) (ho:h.ob n=some o) (hi:o.es[i]?=some e) (v:HV) (b2:o.es.length<=5000) (u:e.2.isNone=false) (s:v.isNone=true) (F:(vk e.1==2)=false):
 Calls Tryz.prog 123 #[.pointer (some ⟨L.tb n,0,none⟩),.int .i64 (i:Int),.agg #[.int .i64 (vk v),.int .i64 (vi v),.int .u64 0,.string ByteArray.empty,aK L.tb v]] w fun e' w'=>e'=.returned (.tuple #[])/\M0 base S (h.ents n (o.es.set i (e.1,v))) G L w'/\Keeps w w' S:=by
 have b6:i<o.es.length:=(aJ.1 hi).1;have b3:(i:Int)<(o.es.length:Int):=by omega
 have HX:=ah (d_ w L.tb v);have HB:=ah (aU w (.cells (gG L.tb v) 143));have N:=ah (a.low (aU w (.cells (gG L.tb v) 143)));have b5:(w.alloc (.cells (gG L.tb v) 143)).heap.size=w.heap.size+1:=aG _;have U:w.heap.size≠L.tb n:=by have:=(a.ob n o ho).lt;omega
 obtain ⟨A,V,R,b4,r⟩:=N.o.ents ho;obtain ⟨g,rfl,f,d⟩:=r i e hi;have T:=fZ o.es;obtain ⟨B,hB⟩:∃ B:Int,B=(aZ o.es:Int):=⟨_,rfl⟩
 have b8:0<=B:=by omega
 have b7:B<=5000:=by omega
 have x:=eZ hi (e.1,v);have HR:Hq (aD (w.alloc (.cells (gG L.tb v) 143)) 136 (L.tb n) 13 (pq o n (L.es n) (L.mp n) B)):=ah ((N.o.ob n o ho).congr (fun k hk=>by
  unfold pq;by_cases c:k=9
  ·subst c;rw [if_pos rfl,hB];rfl
  ·rw [if_neg c]))
 have b1:Hq ((B+1)=(aZ (o.es.set i (e.1,v)):Int)):=ah (by
  rw [u,s] at x;simp at x;omega)
 have HO:=ah ho;have HI:=ah hi;have P:=ah R;have K:=ah (bT (w.alloc (.cells (gG L.tb v) 143)) L.tb e.2);rw [show e.2.isNone=false from u] at K;have a2:=ah s;have a7:=ah F;clear a ho hi r x hB T u s F;go_enter Tryz.func123,Tryz.ntmps123;go_upto_region 1 with (fail)
 generalize w.alloc (.cells (gG L.tb v) 143)=w1 at *;generalize hX:w.heap.size=X at *;have W:=ah hX;clear hX;have c7:w1.cell? ⟨L.tb n,7,none⟩=some (.slice (some ⟨g,0,none⟩) o.es.length V):=by rw [<-P.o];exact HR.o.c 7
 have d5:=d 5 _ rfl;have d6:=d 6 _ rfl;have d7:=d 7 _ rfl;have d8:=d 8 _ rfl;have d9:=d 9 _ rfl;have D:=ah d;clear d;go_wp2_with fail;refine K.o.mono ?_;rintro e2 w2 ⟨rfl,q⟩;have b0:=ah (Keeps.of q (au _) (fun b=>b=L.tb n));have a1:=ah (HX.o.keep (Keeps.of q (au _) (fun _=>False)) (fun y=>y));have a6:=ah (HR.o.keep (Keeps.of q (au _) (fun _=>False)) (fun y=>y));clear q c7 d5 d6 d7 d8 d9;go_upto_region 4 with (fail)
 have a5:=ah a6.o;have H:=ah a1.o;have a9:=ah b0.o;generalize w2=w3 at *;obtain ⟨x0,x1,x2,x3,x4⟩:NC w3 X L.tb v:=H.o.c5;have J:=ah (bT w3 L.tb v);rw [a2.o] at J;go_wp2_with fail;refine J.o.mono ?_;rintro e4 w4 ⟨rfl,p⟩;have a8:=ah (a9.o.trans (Keeps.of p (au _) (fun b=>b=L.tb n)));have a0:=ah (H.o.keep (Keeps.of p (au _) (fun _=>False)) (fun y=>y));have z:=ah (a5.o.keep (Keeps.of p (au _) (fun _=>False)) (fun y=>y));clear p x0 x1 x2 x3 x4;have c9:w4.cell? ⟨L.tb n,9,none⟩=some (.int .i64 B):=z.o.c 9;have z9:=z.o.ME 9;go_upto_region 6 with (fail)
 have a4:=ah (jo z.o (B+1));have Z:=ah (a0.o.keep (Keeps.setCell (S:=fun b=>b=L.tb n) (j:=9) (Keeps.refl w4 _) rfl (.int .i64 (B+1))) (fun y=>U y));have C:=ah (a8.o.setCell (g:=L.tb n) (j:=9) rfl (.int .i64 (B+1)));generalize w4.setCell ⟨L.tb n,9,none⟩ (.int .i64 (B+1))=w5 at *;clear c9 z9;have M:=ah (N.o.en n o HO.o);have l:g≠L.tb n:=fun c=>(ay M.o (g:=g) (by rw [P.o];simp [Value.ownBlock])).apart (N.o.ob n o HO.o) (by decide) c;have k0:w5.cell? ⟨g,i*10,none⟩=some (.int .i64 (vk e.1)):=(bM (a:=⟨g,i*10,none⟩) (C.o.block g f l)).trans (D.o 0 _ rfl);have k1:w5.cell? ⟨g,i*10+1,none⟩=some (.int .i64 (vi e.1)):=(bM (a:=⟨g,i*10+1,none⟩) (C.o.block g f l)).trans (D.o 1 _ rfl);have Q:=a7.o;go_upto_region 8 with (fail)
 have m:=ah C.o;have Y:=ah Z.o;have a3:=ah a4.o;clear k0 k1 Q;generalize w5=w6 at *;obtain ⟨x0,x1,x2,x3,x4⟩:NC w6 X L.tb v:=Y.o.c5;have y5:w6.cell? ⟨g,i*10+5,none⟩=some (.int .i64 (vk e.2)):=(bM (a:=⟨g,i*10+5,none⟩) (m.o.block g f l)).trans (D.o 5 _ rfl);have y6:w6.cell? ⟨g,i*10+6,none⟩=some (.int .i64 (vi e.2)):=(bM (a:=⟨g,i*10+6,none⟩) (m.o.block g f l)).trans (D.o 6 _ rfl);have y7:w6.cell? ⟨g,i*10+7,none⟩=some (.int .u64 0):=(bM (a:=⟨g,i*10+7,none⟩) (m.o.block g f l)).trans (D.o 7 _ rfl);have y8:w6.cell? ⟨g,i*10+8,none⟩=some (.string ByteArray.empty):=(bM (a:=⟨g,i*10+8,none⟩) (m.o.block g f l)).trans (D.o 8 _ rfl);have y9:w6.cell? ⟨g,i*10+9,none⟩=some (aK L.tb e.2):=(bM (a:=⟨g,i*10+9,none⟩) (m.o.block g f l)).trans (D.o 9 _ rfl);have E:=ay M.o (g:=g) (by rw [P.o];simp [Value.ownBlock]);have zz:∀ j,w6.frozen? ⟨g,j,none⟩=false:=fun j=>(E.keep m.o l).ME j;clear E;have HT:=ah (N.o.KZ HO.o HI.out v P.o m.o (a3.o.congr (fun k hk=>by
  unfold pq;by_cases c:k=9
  ·rw [if_pos c,if_pos c,b1.o]
  ·rw [if_neg c,if_neg c])))
 go_wp2;go_end0;exact ⟨rfl,HT.o.1,(Keeps.of HB.o (aO W.o) S).trans HT.o.2⟩
theorem Bj (a:M0 base S h G L w) (ho:h.ob n=some o) (hi:o.es[i]?=some e) (v:HV) (b4:o.es.length<=5000) (C:e.2.isNone=false) (z:v.isNone=true) (K:(vk e.1==2)=true):
 Calls Tryz.prog 123 #[.pointer (some ⟨L.tb n,0,none⟩),.int .i64 (i:Int),.agg #[.int .i64 (vk v),.int .i64 (vi v),.int .u64 0,.string ByteArray.empty,aK L.tb v]] w fun e' w'=>e'=.returned (.tuple #[])/\M0 base S (h.ents n (o.es.set i (e.1,v))) G L w'/\Keeps w w' S:=by
 have b8:i<o.es.length:=(aJ.1 hi).1;have b5:(i:Int)<(o.es.length:Int):=by omega
 have HX:=ah (d_ w L.tb v);have HB:=ah (aU w (.cells (gG L.tb v) 143));have R:=ah (a.low (aU w (.cells (gG L.tb v) 143)));have b7:(w.alloc (.cells (gG L.tb v) 143)).heap.size=w.heap.size+1:=aG _;have Y:w.heap.size≠L.tb n:=by have:=(a.ob n o ho).lt;omega
 obtain ⟨A,Z,V,b6,x⟩:=R.o.ents ho;obtain ⟨g,rfl,f,d⟩:=x i e hi;have W:=fZ o.es;obtain ⟨B,hB⟩:∃ B:Int,B=(aZ o.es:Int):=⟨_,rfl⟩
 have c0:0<=B:=by omega
 have b9:B<=5000:=by omega
 have D:=eZ hi (e.1,v);have HR:Hq (aD (w.alloc (.cells (gG L.tb v) 143)) 136 (L.tb n) 13 (pq o n (L.es n) (L.mp n) B)):=ah ((R.o.ob n o ho).congr (fun k hk=>by
  unfold pq;by_cases c:k=9
  ·subst c;rw [if_pos rfl,hB];rfl
  ·rw [if_neg c]))
 have b3:Hq ((B+1)=(aZ (o.es.set i (e.1,v)):Int)):=ah (by
  rw [C,z] at D;simp at D;omega)
 have HO:=ah ho;have HI:=ah hi;have T:=ah V;have P:=ah (bT (w.alloc (.cells (gG L.tb v) 143)) L.tb e.2);rw [show e.2.isNone=false from C] at P;have a5:=ah z;have a9:=ah K;clear a ho hi x D hB W C z K;go_enter Tryz.func123,Tryz.ntmps123;go_upto_region 1 with (fail)
 generalize w.alloc (.cells (gG L.tb v) 143)=w1 at *;generalize hX:w.heap.size=X at *;have a0:=ah hX;clear hX;have c7:w1.cell? ⟨L.tb n,7,none⟩=some (.slice (some ⟨g,0,none⟩) o.es.length Z):=by rw [<-T.o];exact HR.o.c 7
 have d5:=d 5 _ rfl;have d6:=d 6 _ rfl;have d7:=d 7 _ rfl;have d8:=d 8 _ rfl;have d9:=d 9 _ rfl;have H:=ah d;clear d;go_wp2_with fail;refine P.o.mono ?_;rintro e2 w2 ⟨rfl,s⟩;have b2:=ah (Keeps.of s (au _) (fun b=>b=L.tb n));have a4:=ah (HX.o.keep (Keeps.of s (au _) (fun _=>False)) (fun y=>y));have a8:=ah (HR.o.keep (Keeps.of s (au _) (fun _=>False)) (fun y=>y));clear s c7 d5 d6 d7 d8 d9;go_upto_region 4 with (fail)
 have a7:=ah a8.o;have M:=ah a4.o;have b1:=ah b2.o;generalize w2=w3 at *;obtain ⟨x0,x1,x2,x3,x4⟩:NC w3 X L.tb v:=M.o.c5;have N:=ah (bT w3 L.tb v);rw [a5.o] at N;go_wp2_with fail;refine N.o.mono ?_;rintro e4 w4 ⟨rfl,r⟩;have b0:=ah (b1.o.trans (Keeps.of r (au _) (fun b=>b=L.tb n)));have a3:=ah (M.o.keep (Keeps.of r (au _) (fun _=>False)) (fun y=>y));have E:=ah (a7.o.keep (Keeps.of r (au _) (fun _=>False)) (fun y=>y));clear r x0 x1 x2 x3 x4;have c9:w4.cell? ⟨L.tb n,9,none⟩=some (.int .i64 B):=E.o.c 9;have z9:=E.o.ME 9;go_upto_region 6 with (fail)
 have u:=ah (jo E.o (B+1));have a2:=ah (a3.o.keep (Keeps.setCell (S:=fun b=>b=L.tb n) (j:=9) (Keeps.refl w4 _) rfl (.int .i64 (B+1))) (fun y=>Y y));have F:=ah (b0.o.setCell (g:=L.tb n) (j:=9) rfl (.int .i64 (B+1)));generalize w4.setCell ⟨L.tb n,9,none⟩ (.int .i64 (B+1))=w5 at *;clear c9 z9;have Q:=ah (R.o.en n o HO.o);have l:g≠L.tb n:=fun c=>(ay Q.o (g:=g) (by rw [T.o];simp [Value.ownBlock])).apart (R.o.ob n o HO.o) (by decide) c;have k0:w5.cell? ⟨g,i*10,none⟩=some (.int .i64 (vk e.1)):=(bM (a:=⟨g,i*10,none⟩) (F.o.block g f l)).trans (H.o 0 _ rfl);have k1:w5.cell? ⟨g,i*10+1,none⟩=some (.int .i64 (vi e.1)):=(bM (a:=⟨g,i*10+1,none⟩) (F.o.block g f l)).trans (H.o 1 _ rfl);have U:=a9.o;have HL:=ah (fun m=>pO (w5.drewN m) (L.tb n) (vi e.1) (u.o.c 10) (u.o.c 11) (u.o.c 12));go_wp2_with fail;go_quiet ((go_at_call 136;exact Calls.quiet_of_same (HL.o _)));go_upto_region 8 with (fail)
 have q:=aC (aT w5.heap.size w5) nq;have p:=ah (F.o.trans (Keeps.of q (au _) (fun b=>b=L.tb n)));have a1:=ah (a2.o.keep (Keeps.of q (au _) (fun _=>False)) (fun y=>y));have a6:=ah (u.o.keep (Keeps.of q (au _) (fun _=>False)) (fun y=>y));clear q k0 k1 U HL;generalize w5.drewN nq=w6 at *;obtain ⟨x0,x1,x2,x3,x4⟩:NC w6 X L.tb v:=a1.o.c5;have y5:w6.cell? ⟨g,i*10+5,none⟩=some (.int .i64 (vk e.2)):=(bM (a:=⟨g,i*10+5,none⟩) (p.o.block g f l)).trans (H.o 5 _ rfl);have y6:w6.cell? ⟨g,i*10+6,none⟩=some (.int .i64 (vi e.2)):=(bM (a:=⟨g,i*10+6,none⟩) (p.o.block g f l)).trans (H.o 6 _ rfl);have y7:w6.cell? ⟨g,i*10+7,none⟩=some (.int .u64 0):=(bM (a:=⟨g,i*10+7,none⟩) (p.o.block g f l)).trans (H.o 7 _ rfl);have y8:w6.cell? ⟨g,i*10+8,none⟩=some (.string ByteArray.empty):=(bM (a:=⟨g,i*10+8,none⟩) (p.o.block g f l)).trans (H.o 8 _ rfl);have y9:w6.cell? ⟨g,i*10+9,none⟩=some (aK L.tb e.2):=(bM (a:=⟨g,i*10+9,none⟩) (p.o.block g f l)).trans (H.o 9 _ rfl);have J:=ay Q.o (g:=g) (by rw [T.o];simp [Value.ownBlock]);have zz:∀ j,w6.frozen? ⟨g,j,none⟩=false:=fun j=>(J.keep p.o l).ME j;clear J;have HT:=ah (R.o.KZ HO.o HI.out v T.o p.o (a6.o.congr (fun k hk=>by
  unfold pq;by_cases c:k=9
  ·rw [if_pos c,if_pos c,b3.o]
  ·rw [if_neg c,if_neg c])))
 go_wp2;go_end0;exact ⟨rfl,HT.o.1,(Keeps.of HB.o (aO a0.o) S).trans HT.o.2⟩
theorem za (a:M0 base S h G L w) (ho:h.ob n=some o) (hi:o.es[i]?=some e) (v:HV) (b4:o.es.length<=5000) (p:e.2.isNone=true) (u:v.isNone=true) (H:(vk e.1==2)=false):
 Calls Tryz.prog 123 #[.pointer (some ⟨L.tb n,0,none⟩),.int .i64 (i:Int),.agg #[.int .i64 (vk v),.int .i64 (vi v),.int .u64 0,.string ByteArray.empty,aK L.tb v]] w fun e' w'=>e'=.returned (.tuple #[])/\M0 base S (h.ents n (o.es.set i (e.1,v))) G L w'/\Keeps w w' S:=by
 have b8:i<o.es.length:=(aJ.1 hi).1;have b5:(i:Int)<(o.es.length:Int):=by omega
 have HX:=ah (d_ w L.tb v);have HB:=ah (aU w (.cells (gG L.tb v) 143));have Q:=ah (a.low (aU w (.cells (gG L.tb v) 143)));have b7:(w.alloc (.cells (gG L.tb v) 143)).heap.size=w.heap.size+1:=aG _;have J:w.heap.size≠L.tb n:=by have:=(a.ob n o ho).lt;omega
 obtain ⟨A,Z,W,b6,s⟩:=Q.o.ents ho;obtain ⟨g,rfl,f,d⟩:=s i e hi;have Y:=fZ o.es;obtain ⟨B,hB⟩:∃ B:Int,B=(aZ o.es:Int):=⟨_,rfl⟩
 have c1:0<=B:=by omega
 have c0:B<=5000:=by omega
 have x:=eZ hi (e.1,v);have HR:Hq (aD (w.alloc (.cells (gG L.tb v) 143)) 136 (L.tb n) 13 (pq o n (L.es n) (L.mp n) B)):=ah ((Q.o.ob n o ho).congr (fun k hk=>by
  unfold pq;by_cases c:k=9
  ·subst c;rw [if_pos rfl,hB];rfl
  ·rw [if_neg c]))
 have b3:Hq (B=(aZ (o.es.set i (e.1,v)):Int)):=ah (by
  rw [p,u] at x;simp at x;omega)
 have b9:1<=B:=by
  have h9:=eZ hi (e.1,some (.inl 0));rw [p] at h9;simp at h9;omega
 have HO:=ah ho;have HI:=ah hi;have R:=ah W;have N:=ah (bT (w.alloc (.cells (gG L.tb v) 143)) L.tb e.2);rw [show e.2.isNone=true from p] at N;have a5:=ah u;have a9:=ah H;clear a ho hi s x hB Y p u H;go_enter Tryz.func123,Tryz.ntmps123;go_upto_region 1 with (fail)
 generalize w.alloc (.cells (gG L.tb v) 143)=w1 at *;generalize hX:w.heap.size=X at *;have a0:=ah hX;clear hX;have c7:w1.cell? ⟨L.tb n,7,none⟩=some (.slice (some ⟨g,0,none⟩) o.es.length Z):=by rw [<-R.o];exact HR.o.c 7
 have d5:=d 5 _ rfl;have d6:=d 6 _ rfl;have d7:=d 7 _ rfl;have d8:=d 8 _ rfl;have d9:=d 9 _ rfl;have E:=ah d;clear d;go_wp2_with fail;refine N.o.mono ?_;rintro e2 U ⟨rfl,r⟩;have b2:=ah (Keeps.of r (au _) (fun b=>b=L.tb n));have a4:=ah (HX.o.keep (Keeps.of r (au _) (fun _=>False)) (fun y=>y));have C:=ah (HR.o.keep (Keeps.of r (au _) (fun _=>False)) (fun y=>y));clear r c7 d5 d6 d7 d8 d9;have c9:U.cell? ⟨L.tb n,9,none⟩=some (.int .i64 B):=C.o.c 9;have T:=C.o.ME 9;go_upto_region 4 with (fail)
 have a8:=ah (jo C.o (B-1));have K:=ah (a4.o.keep (Keeps.setCell (S:=fun b=>b=L.tb n) (j:=9) (Keeps.refl U _) rfl (.int .i64 (B-1))) (fun y=>J y));have b1:=ah (b2.o.setCell (g:=L.tb n) (j:=9) rfl (.int .i64 (B-1)));generalize U.setCell ⟨L.tb n,9,none⟩ (.int .i64 (B-1))=w3 at *;clear c9 T;obtain ⟨x0,x1,x2,x3,x4⟩:NC w3 X L.tb v:=K.o.c5;have M:=ah (bT w3 L.tb v);rw [a5.o] at M;go_wp2_with fail;refine M.o.mono ?_;rintro e4 w4 ⟨rfl,q⟩;have b0:=ah (b1.o.trans (Keeps.of q (au _) (fun b=>b=L.tb n)));have a3:=ah (K.o.keep (Keeps.of q (au _) (fun _=>False)) (fun y=>y));have z:=ah (a8.o.keep (Keeps.of q (au _) (fun _=>False)) (fun y=>y));clear q x0 x1 x2 x3 x4;have c9:w4.cell? ⟨L.tb n,9,none⟩=some (.int .i64 (B-1)):=z.o.c 9;have T:=z.o.ME 9;go_upto_region 6 with (fail)
 have a7:=ah (jo z.o B);have a2:=ah (a3.o.keep (Keeps.setCell (S:=fun b=>b=L.tb n) (j:=9) (Keeps.refl w4 _) rfl (.int .i64 B)) (fun y=>J y));have D:=ah (b0.o.setCell (g:=L.tb n) (j:=9) rfl (.int .i64 B));generalize w4.setCell ⟨L.tb n,9,none⟩ (.int .i64 B)=w5 at *;clear c9 T;have P:=ah (Q.o.en n o HO.o);have l:g≠L.tb n:=fun c=>(ay P.o (g:=g) (by rw [R.o];simp [Value.ownBlock])).apart (Q.o.ob n o HO.o) (by decide) c;have k0:w5.cell? ⟨g,i*10,none⟩=some (.int .i64 (vk e.1)):=(bM (a:=⟨g,i*10,none⟩) (D.o.block g f l)).trans (E.o 0 _ rfl);have k1:w5.cell? ⟨g,i*10+1,none⟩=some (.int .i64 (vi e.1)):=(bM (a:=⟨g,i*10+1,none⟩) (D.o.block g f l)).trans (E.o 1 _ rfl);have V:=a9.o;go_upto_region 8 with (fail)
 have m:=ah D.o;have a1:=ah a2.o;have a6:=ah a7.o;clear k0 k1 V;generalize w5=w6 at *;obtain ⟨x0,x1,x2,x3,x4⟩:NC w6 X L.tb v:=a1.o.c5;have y5:w6.cell? ⟨g,i*10+5,none⟩=some (.int .i64 (vk e.2)):=(bM (a:=⟨g,i*10+5,none⟩) (m.o.block g f l)).trans (E.o 5 _ rfl);have y6:w6.cell? ⟨g,i*10+6,none⟩=some (.int .i64 (vi e.2)):=(bM (a:=⟨g,i*10+6,none⟩) (m.o.block g f l)).trans (E.o 6 _ rfl);have y7:w6.cell? ⟨g,i*10+7,none⟩=some (.int .u64 0):=(bM (a:=⟨g,i*10+7,none⟩) (m.o.block g f l)).trans (E.o 7 _ rfl);have y8:w6.cell? ⟨g,i*10+8,none⟩=some (.string ByteArray.empty):=(bM (a:=⟨g,i*10+8,none⟩) (m.o.block g f l)).trans (E.o 8 _ rfl);have y9:w6.cell? ⟨g,i*10+9,none⟩=some (aK L.tb e.2):=(bM (a:=⟨g,i*10+9,none⟩) (m.o.block g f l)).trans (E.o 9 _ rfl);have F:=ay P.o (g:=g) (by rw [R.o];simp [Value.ownBlock]);have zz:∀ j,w6.frozen? ⟨g,j,none⟩=false:=fun j=>(F.keep m.o l).ME j;clear F;have HT:=ah (Q.o.KZ HO.o HI.out v R.o m.o (a6.o.congr (fun k hk=>by
  unfold pq;by_cases c:k=9
  ·rw [if_pos c,if_pos c,b3.o]
  ·rw [if_neg c,if_neg c])))
 go_wp2;go_end0;exact ⟨rfl,HT.o.1,(Keeps.of HB.o (aO a0.o) S).trans HT.o.2⟩
theorem zm (a:M0 base S h G L w) (ho:h.ob n=some o) (hi:o.es[i]?=some e) (v:HV) (b6:o.es.length<=5000) (q:e.2.isNone=true) (C:v.isNone=true) (M:(vk e.1==2)=true):
 Calls Tryz.prog 123 #[.pointer (some ⟨L.tb n,0,none⟩),.int .i64 (i:Int),.agg #[.int .i64 (vk v),.int .i64 (vi v),.int .u64 0,.string ByteArray.empty,aK L.tb v]] w fun e' w'=>e'=.returned (.tuple #[])/\M0 base S (h.ents n (o.es.set i (e.1,v))) G L w'/\Keeps w w' S:=by
 have c0:i<o.es.length:=(aJ.1 hi).1;have b7:(i:Int)<(o.es.length:Int):=by omega
 have HX:=ah (d_ w L.tb v);have HB:=ah (aU w (.cells (gG L.tb v) 143));have U:=ah (a.low (aU w (.cells (gG L.tb v) 143)));have b9:(w.alloc (.cells (gG L.tb v) 143)).heap.size=w.heap.size+1:=aG _;have N:w.heap.size≠L.tb n:=by have:=(a.ob n o ho).lt;omega
 obtain ⟨A,a2,a0,b8,z⟩:=U.o.ents ho;obtain ⟨g,rfl,f,d⟩:=z i e hi;have a1:=fZ o.es;obtain ⟨B,hB⟩:∃ B:Int,B=(aZ o.es:Int):=⟨_,rfl⟩
 have c3:0<=B:=by omega
 have c2:B<=5000:=by omega
 have D:=eZ hi (e.1,v);have HR:Hq (aD (w.alloc (.cells (gG L.tb v) 143)) 136 (L.tb n) 13 (pq o n (L.es n) (L.mp n) B)):=ah ((U.o.ob n o ho).congr (fun k hk=>by
  unfold pq;by_cases c:k=9
  ·subst c;rw [if_pos rfl,hB];rfl
  ·rw [if_neg c]))
 have b5:Hq (B=(aZ (o.es.set i (e.1,v)):Int)):=ah (by
  rw [q,C] at D;simp at D;omega)
 have c1:1<=B:=by
  have h9:=eZ hi (e.1,some (.inl 0));rw [q] at h9;simp at h9;omega
 have HO:=ah ho;have HI:=ah hi;have V:=ah a0;have R:=ah (bT (w.alloc (.cells (gG L.tb v) 143)) L.tb e.2);rw [show e.2.isNone=true from q] at R;have a8:=ah C;have b1:=ah M;clear a ho hi z D hB a1 q C M;go_enter Tryz.func123,Tryz.ntmps123;go_upto_region 1 with (fail)
 generalize w.alloc (.cells (gG L.tb v) 143)=w1 at *;generalize hX:w.heap.size=X at *;have a3:=ah hX;clear hX;have c7:w1.cell? ⟨L.tb n,7,none⟩=some (.slice (some ⟨g,0,none⟩) o.es.length a2):=by rw [<-V.o];exact HR.o.c 7
 have d5:=d 5 _ rfl;have d6:=d 6 _ rfl;have d7:=d 7 _ rfl;have d8:=d 8 _ rfl;have d9:=d 9 _ rfl;have J:=ah d;clear d;go_wp2_with fail;refine R.o.mono ?_;rintro e2 Y ⟨rfl,u⟩;have b4:=ah (Keeps.of u (au _) (fun b=>b=L.tb n));have a7:=ah (HX.o.keep (Keeps.of u (au _) (fun _=>False)) (fun y=>y));have F:=ah (HR.o.keep (Keeps.of u (au _) (fun _=>False)) (fun y=>y));clear u c7 d5 d6 d7 d8 d9;have c9:Y.cell? ⟨L.tb n,9,none⟩=some (.int .i64 B):=F.o.c 9;have W:=F.o.ME 9;go_upto_region 4 with (fail)
 have b0:=ah (jo F.o (B-1));have P:=ah (a7.o.keep (Keeps.setCell (S:=fun b=>b=L.tb n) (j:=9) (Keeps.refl Y _) rfl (.int .i64 (B-1))) (fun y=>N y));have b3:=ah (b4.o.setCell (g:=L.tb n) (j:=9) rfl (.int .i64 (B-1)));generalize Y.setCell ⟨L.tb n,9,none⟩ (.int .i64 (B-1))=w3 at *;clear c9 W;obtain ⟨x0,x1,x2,x3,x4⟩:NC w3 X L.tb v:=P.o.c5;have Q:=ah (bT w3 L.tb v);rw [a8.o] at Q;go_wp2_with fail;refine Q.o.mono ?_;rintro e4 w4 ⟨rfl,s⟩;have b2:=ah (b3.o.trans (Keeps.of s (au _) (fun b=>b=L.tb n)));have a6:=ah (P.o.keep (Keeps.of s (au _) (fun _=>False)) (fun y=>y));have E:=ah (b0.o.keep (Keeps.of s (au _) (fun _=>False)) (fun y=>y));clear s x0 x1 x2 x3 x4;have c9:w4.cell? ⟨L.tb n,9,none⟩=some (.int .i64 (B-1)):=E.o.c 9;have W:=E.o.ME 9;go_upto_region 6 with (fail)
 have x:=ah (jo E.o B);have a5:=ah (a6.o.keep (Keeps.setCell (S:=fun b=>b=L.tb n) (j:=9) (Keeps.refl w4 _) rfl (.int .i64 B)) (fun y=>N y));have H:=ah (b2.o.setCell (g:=L.tb n) (j:=9) rfl (.int .i64 B));generalize w4.setCell ⟨L.tb n,9,none⟩ (.int .i64 B)=w5 at *;clear c9 W;have T:=ah (U.o.en n o HO.o);have l:g≠L.tb n:=fun c=>(ay T.o (g:=g) (by rw [V.o];simp [Value.ownBlock])).apart (U.o.ob n o HO.o) (by decide) c;have k0:w5.cell? ⟨g,i*10,none⟩=some (.int .i64 (vk e.1)):=(bM (a:=⟨g,i*10,none⟩) (H.o.block g f l)).trans (J.o 0 _ rfl);have k1:w5.cell? ⟨g,i*10+1,none⟩=some (.int .i64 (vi e.1)):=(bM (a:=⟨g,i*10+1,none⟩) (H.o.block g f l)).trans (J.o 1 _ rfl);have Z:=b1.o;have HL:=ah (fun m=>pO (w5.drewN m) (L.tb n) (vi e.1) (x.o.c 10) (x.o.c 11) (x.o.c 12));go_wp2_with fail;go_quiet ((go_at_call 136;exact Calls.quiet_of_same (HL.o _)));go_upto_region 8 with (fail)
 have r:=aC (aT w5.heap.size w5) nq;have p:=ah (H.o.trans (Keeps.of r (au _) (fun b=>b=L.tb n)));have a4:=ah (a5.o.keep (Keeps.of r (au _) (fun _=>False)) (fun y=>y));have a9:=ah (x.o.keep (Keeps.of r (au _) (fun _=>False)) (fun y=>y));clear r k0 k1 Z HL;generalize w5.drewN nq=w6 at *;obtain ⟨x0,x1,x2,x3,x4⟩:NC w6 X L.tb v:=a4.o.c5;have y5:w6.cell? ⟨g,i*10+5,none⟩=some (.int .i64 (vk e.2)):=(bM (a:=⟨g,i*10+5,none⟩) (p.o.block g f l)).trans (J.o 5 _ rfl);have y6:w6.cell? ⟨g,i*10+6,none⟩=some (.int .i64 (vi e.2)):=(bM (a:=⟨g,i*10+6,none⟩) (p.o.block g f l)).trans (J.o 6 _ rfl);have y7:w6.cell? ⟨g,i*10+7,none⟩=some (.int .u64 0):=(bM (a:=⟨g,i*10+7,none⟩) (p.o.block g f l)).trans (J.o 7 _ rfl);have y8:w6.cell? ⟨g,i*10+8,none⟩=some (.string ByteArray.empty):=(bM (a:=⟨g,i*10+8,none⟩) (p.o.block g f l)).trans (J.o 8 _ rfl);have y9:w6.cell? ⟨g,i*10+9,none⟩=some (aK L.tb e.2):=(bM (a:=⟨g,i*10+9,none⟩) (p.o.block g f l)).trans (J.o 9 _ rfl);have K:=ay T.o (g:=g) (by rw [V.o];simp [Value.ownBlock]);have zz:∀ j,w6.frozen? ⟨g,j,none⟩=false:=fun j=>(K.keep p.o l).ME j;clear K;have HT:=ah (U.o.KZ HO.o HI.out v V.o p.o (a9.o.congr (fun k hk=>by
  unfold pq;by_cases c:k=9
  ·rw [if_pos c,if_pos c,b5.o]
  ·rw [if_neg c,if_neg c])))
 go_wp2;go_end0;exact ⟨rfl,HT.o.1,(Keeps.of HB.o (aO a3.o) S).trans HT.o.2⟩
theorem oL (a:M0 base S h G L w) (ho:h.ob n=some o) (hi:o.es[i]?=some e) (v:HV) (b:o.es.length<=5000):
 Calls Tryz.prog 123 #[.pointer (some ⟨L.tb n,0,none⟩),.int .i64 (i:Int),.agg #[.int .i64 (vk v),.int .i64 (vi v),.int .u64 0,.string ByteArray.empty,aK L.tb v]] w fun e' w'=>e'=.returned (.tuple #[])/\M0 base S (h.ents n (o.es.set i (e.1,v))) G L w'/\Keeps w w' S:=by
 cases h1:e.2.isNone<;>cases h2:v.isNone
 ·exact Cx a ho hi v b h1 h2
 ·cases h3:(vk e.1==2)
  ·exact yR a ho hi v b h1 h2 h3
  ·exact Bj a ho hi v b h1 h2 h3
 ·exact Bv a ho hi v b h1 h2
 ·cases h3:(vk e.1==2)
  ·exact za a ho hi v b h1 h2 h3
  ·exact zm a ho hi v b h1 h2 h3
end
section
variable {X:Nat} {w w3 w7:World}
attribute [local go_sem] bW
def kC (a b c:Int):List Value:=[.int .i64 a,.int .i64 b,.int .u64 0,.string ByteArray.empty,.int .i64 c]
theorem Gp (wr:World) (a b c:Int):aD (wr.alloc (.cells #[.int .i64 a,.int .i64 b,.int .u64 0,.string ByteArray.empty,.int .i64 c] 194)) 194 wr.heap.size 5 (fun j=>(kC a b c).getD j (.bool false)):=by
 have h:=aD.mk' wr 194 #[.int .i64 a,.int .i64 b,.int .u64 0,.string ByteArray.empty,.int .i64 c];refine aD.congr (show aD _ _ _ 5 _ from h) (fun j hj=>?_);have:j=0∨j=1∨j=2∨j=3∨j=4:=by omega
 rcases this with rfl|rfl|rfl|rfl|rfl<;>rfl
theorem wC {a b c:Int} (f:aD w3 194 (X+1) 5 (fun j=>(kC 0 0 0).getD j (.bool false))) (i:X+1<=w3.heap.size) (h:Below X w w3)
 (d:w7=((((w3.setCell ⟨X+1,0,none⟩ (.int .i64 a)).setCell ⟨X+1,1,none⟩ (.int .i64 b)).setCell ⟨X+1,2,none⟩ (.int .u64 0)).setCell ⟨X+1,3,none⟩ (.string ByteArray.empty)).setCell ⟨X+1,4,none⟩ (.int .i64 c)):
 aD w7 194 (X+1) 5 (fun j=>(kC a b c).getD j (.bool false))/\Below X w w7:=by
 subst d;refine ⟨?_,?_⟩
 ·refine (((((f.set (j:=0) (by omega) (.int .i64 a)).set (j:=1) (by omega) (.int .i64 b)).set (j:=2) (by omega) (.int .u64 0)).set (j:=3) (by omega) (.string ByteArray.empty)).set (j:=4) (by omega) (.int .i64 c)).congr (fun j hj=>?_)
  have:j=0∨j=1∨j=2∨j=3∨j=4:=by omega
  rcases this with rfl|rfl|rfl|rfl|rfl<;>rfl
 ·exact h.trans ((((((Keeps.setCell (S:=fun b=>b=X+1) (Keeps.refl w3 _) (g:=X+1) (j:=0) rfl (.int .i64 a)).setCell (g:=X+1) (j:=1) rfl (.int .i64 b)).setCell (g:=X+1) (j:=2) rfl (.int .u64 0)).setCell (g:=X+1) (j:=3) rfl (.string ByteArray.empty)).setCell (g:=X+1) (j:=4) rfl (.int .i64 c)).below (B:=X) (by omega) (fun b e=>by omega))
theorem Ai (w:World) (tb:Nat->Nat) (v:HV) (m:∀ n,v=some (.inr n)->w.cell? ⟨tb n,1,none⟩=some (.int .i64 (n:Int))):
 Calls Tryz.prog 122 #[.agg #[.int .i64 (vk v),.int .i64 (vi v),.int .u64 0,.string ByteArray.empty,aK tb v]] w fun e w'=>e=.returned (jR v)/\Below w.heap.size w w':=by
 have a:=ah (Gp (w.alloc (.cells (gG tb v) 143)) 0 0 0);have d:=ah ((d_ w tb v).keep (Keeps.of (aU (w.alloc (.cells (gG tb v) 143)) (.cells #[.int .i64 0,.int .i64 0,.int .u64 0,.string ByteArray.empty,.int .i64 0] 194)) (au _) (fun _=>False)) (fun x=>x));have y:=ah ((aU w (.cells (gG tb v) 143)).trans ((aU (w.alloc (.cells (gG tb v) 143)) (.cells #[.int .i64 0,.int .i64 0,.int .u64 0,.string ByteArray.empty,.int .i64 0] 194)).mono (aU w (.cells (gG tb v) 143)).size));have B:(w.alloc (.cells (gG tb v) 143)).heap.size=w.heap.size+1:=aG _;rw [B] at a;clear B;cases h5:(vk v==5) with
 |false=>
  have t:Hq (jR v=.agg #[.int .i64 (vk v),.int .i64 (vi v),.int .u64 0,.string ByteArray.empty,.int .i64 0]):=ah (by
   cases v with
   |none=>rfl
   |some x=>cases x with
    |inl z=>rfl
    |inr n=>simp [vk] at h5)
  clear m;go_enter Tryz.func122,Tryz.ntmps122;go_upto_region 1 with (fail)
  change Code.wp _ _ _ _ ((w.alloc (.cells (gG tb v) 143)).alloc (.cells #[.int .i64 0,.int .i64 0,.int .u64 0,.string ByteArray.empty,.int .i64 0] 194));generalize (w.alloc (.cells (gG tb v) 143)).alloc (.cells #[.int .i64 0,.int .i64 0,.int .u64 0,.string ByteArray.empty,.int .i64 0] 194)=w3 at *;generalize r:w.heap.size=X at *;have x0:w3.cell? ⟨X,0,none⟩=some (.int .i64 (vk v)):=d.o.c 0;have x1:w3.cell? ⟨X,1,none⟩=some (.int .i64 (vi v)):=d.o.c 1;have P:w3.cell? ⟨X,2,none⟩=some (.int .u64 0):=d.o.c 2;have N:w3.cell? ⟨X,3,none⟩=some (.string ByteArray.empty):=d.o.c 3;have M:=a.o.c 0;have L:=a.o.c 1;have K:=a.o.c 2;have J:=a.o.c 3;have H:=a.o.c 4;have G:=a.o.ME 0;have F:=a.o.ME 1;have E:=a.o.ME 2;have D:=a.o.ME 3;have C:=a.o.ME 4;go_wp2;obtain ⟨w7,g⟩:∃ w7,w7=((((w3.setCell ⟨X+1,0,none⟩ (.int .i64 (vk v))).setCell ⟨X+1,1,none⟩ (.int .i64 (vi v))).setCell ⟨X+1,2,none⟩ (.int .u64 0)).setCell ⟨X+1,3,none⟩ (.string ByteArray.empty)).setCell ⟨X+1,4,none⟩ (.int .i64 0):=⟨_,rfl⟩
  have f:=ah (wC a.o (dh a.o.lt) y.o g);rw [<-g];clear g;have l:w7.cell? ⟨X+1,0,none⟩=some (.int .i64 (vk v)):=f.o.1.c 0;have q1:w7.cell? ⟨X+1,1,none⟩=some (.int .i64 (vi v)):=f.o.1.c 1;have k:w7.cell? ⟨X+1,2,none⟩=some (.int .u64 0):=f.o.1.c 2;have j:w7.cell? ⟨X+1,3,none⟩=some (.string ByteArray.empty):=f.o.1.c 3;have i:w7.cell? ⟨X+1,4,none⟩=some (.int .i64 0):=f.o.1.c 4;refine bodyPost_ret (v:=jR v) ?_ rfl ⟨rfl,by rw [r];exact f.o.2⟩;rw [t.o];simp [results,Tryz.results122,go_sem,l,q1,k,j,i]
 |true=>
  obtain ⟨n,rfl⟩:=FX h5;have q:=m n rfl;have h:=mY q;have s:=ah (y.o.cell (p:=⟨tb n,1,none⟩) h|>.trans q);have Q:=iO (tb n);have u:=ah (fun A=>gV A (tb n));clear m h5 q h;go_enter Tryz.func122,Tryz.ntmps122;go_upto_region 1 with (fail)
  change Code.wp _ _ _ _ ((w.alloc (.cells (gG tb (some (.inr n):HV)) 143)).alloc (.cells #[.int .i64 0,.int .i64 0,.int .u64 0,.string ByteArray.empty,.int .i64 0] 194));generalize (w.alloc (.cells (gG tb (some (.inr n):HV)) 143)).alloc (.cells #[.int .i64 0,.int .i64 0,.int .u64 0,.string ByteArray.empty,.int .i64 0] 194)=w3 at *;generalize r:w.heap.size=X at *;have x0:w3.cell? ⟨X,0,none⟩=some (.int .i64 5):=d.o.c 0;have x1:w3.cell? ⟨X,1,none⟩=some (.int .i64 0):=d.o.c 1;have P:w3.cell? ⟨X,2,none⟩=some (.int .u64 0):=d.o.c 2;have N:w3.cell? ⟨X,3,none⟩=some (.string ByteArray.empty):=d.o.c 3;have R:w3.cell? ⟨X,4,none⟩=some (.iface 127 (.pointer (some ⟨tb n,0,none⟩))):=d.o.c 4;have S:=s.o;have M:=a.o.c 0;have L:=a.o.c 1;have K:=a.o.c 2;have J:=a.o.c 3;have H:=a.o.c 4;have G:=a.o.ME 0;have F:=a.o.ME 1;have E:=a.o.ME 2;have D:=a.o.ME 3;have C:=a.o.ME 4;go_wp2_with fail
  go_region_with (go_at_call 181;refine (u.o _).mono ?_;rintro T A ⟨rfl,rfl⟩)
  all_goals
   obtain ⟨w7,g⟩:∃ w7,w7=((((w3.setCell ⟨X+1,0,none⟩ (.int .i64 5)).setCell ⟨X+1,1,none⟩ (.int .i64 0)).setCell ⟨X+1,2,none⟩ (.int .u64 0)).setCell ⟨X+1,3,none⟩ (.string ByteArray.empty)).setCell ⟨X+1,4,none⟩ (.int .i64 (n:Int)):=⟨_,rfl⟩
   have f:=ah (wC a.o (dh a.o.lt) y.o g);rw [<-g];clear g;have b:=ah (And.intro (f.o.1.keep (Keeps.of ((aT w7.heap.size w7).drew) (au _) (fun _=>False)) (fun x=>x)) f.o.2.drew);generalize w7.drew=w8 at *;go_wp2;have l:w8.cell? ⟨X+1,0,none⟩=some (.int .i64 5):=b.o.1.c 0;have q1:w8.cell? ⟨X+1,1,none⟩=some (.int .i64 0):=b.o.1.c 1;have k:w8.cell? ⟨X+1,2,none⟩=some (.int .u64 0):=b.o.1.c 2;have j:w8.cell? ⟨X+1,3,none⟩=some (.string ByteArray.empty):=b.o.1.c 3;have i:w8.cell? ⟨X+1,4,none⟩=some (.int .i64 (n:Int)):=b.o.1.c 4;refine bodyPost_ret (v:=jR (some (.inr n))) ?_ rfl ⟨rfl,by rw [r];exact b.o.2⟩;show _=_;simp [results,Tryz.results122,go_sem,l,q1,k,j,i,jR,vk,vi,vr]
end
end Go.Proofs.YtbpcdfbmnklcjaaGreatDoor
