import Derived.Test.YtbpcdfbmnklcjaaGreatDoorKHZD
namespace Go.Proofs.YtbpcdfbmnklcjaaGreatDoor
open Go Go.RowKit Go.WideMaps
open Go.ChangeMaps (setBlock)
set_option maxHeartbeats 6400000
set_option maxRecDepth 100000
set_option linter.unusedVariables false
variable {S:Nat->Prop} {base n t:Nat} {es:List En} {ev mv:Value} {o:Ob} {sz:Int} {tb:Nat->Nat} {w w1 w2:World}
attribute [local go_sem] bW
theorem Dh {k v:HV} (f:∀ e∈es,e.1≠k) (d:HV) (j:Nat):mW (es++[(k,v)]) d j↔((d=k/\j=es.length)∨(d≠k/\mW es d j)):=by
 unfold mW;constructor
 ·rintro ⟨x,a,b⟩
  rw [List.getElem?_append] at a;split at a
  ·exact .inr ⟨fun c=>f x (aW a) (b.trans c),x,a,b⟩
  ·rename_i c
   rw [List.getElem?_singleton] at a;split at a
   ·simp at a
    subst a;exact .inl ⟨b.symm,by omega⟩
   ·cases a
 ·rintro (⟨a,b⟩|⟨g,x,a,b⟩)
  ·exact ⟨(k,v),by rw [b,fI (au _)];simp,a.symm⟩
  ·exact ⟨x,by rw [dF (aJ.1 a).1];exact a,b⟩
theorem yG (es:List En) (k:HV) {v:HV} (a:v.isNone=false):aZ (es++[(k,v)])=aZ es:=by
 unfold aZ;rw [List.filter_append];simp [a]
structure ML (base:Nat) (tb:Nat->Nat) (t n:Nat) (o:Ob) (sz:Int) (es:List En) (ev mv:Value) (w:World) (X:Nat) (k v:HV) (b:Nat) (wc:World):Prop where
 r:aD wc 136 t 13 (rZ o n sz es ev (.map (some b)))
 e:wc.ownsRow base 167 10 ev es.length (jh tb es)
 p:kZ wc b (mW es)
 x:aD wc 143 X 5 (fun j=>(kF tb k).getD j (.bool false))
 y:aD wc 143 (X+1) 5 (fun j=>(kF tb v).getD j (.bool false))
 k:Keeps w wc (fun c=>c=t)
 b:dz mv=some b∨w.heap.size<=b
theorem kZ.new (w:World) (b:Nat):kZ (w.alloc (.map #[] b)) w.heap.size (mW []):=
 ⟨#[],b,Array.getElem?_push_size ..,⟨fun m hm=>by simp at hm,fun k i h=>by obtain ⟨e,a,_⟩:=h;simp at a,List.Pairwise.nil,fun k i h=>by obtain ⟨e,a,_⟩:=h;simp at a,fun k i j h=>by obtain ⟨e,a,_⟩:=h;simp at a⟩⟩
theorem Keeps.fresh {b:Nat} (h:Keeps w w1 S) (k:Keeps w1 w2 (fun c=>c=b)) (hb:S b∨w.heap.size<=b):Keeps w w2 S:=
 ⟨k.os.trans h.os,k.tape.trans h.tape,k.output.trans h.output,aI h.size k.size,fun c hc hn=>(k.block c (aX hc h.size) (fun e=>by
  rcases hb with x|x
  ·exact hn (e ▸ x)
  ·omega)).trans (h.block c hc hn)⟩
theorem Fx (w:World):(binOp .eql 132 (.map none) (.map none)).run Tryz.prog w=.ok (.bool true) w:=by kernel_rfl
theorem Gm (w:World):(eqGuard .eql 132 (.tmp 9) (.const (.map none)) (.map none) (.map none)).run Tryz.prog w=.ok () w:=by kernel_rfl
theorem F8 (b:Nat) (w:World):(eqGuard .eql 132 (.tmp 9) (.const (.map none)) (.map (some b)) (.map none)).run Tryz.prog w=.ok () w:=by kernel_rfl
theorem El (w:World):(Instr.makeMap 132 none).run Tryz.prog w=.ok (.map (some w.heap.size)) (w.alloc (.map #[] 0)):=by kernel_rfl
theorem Fq (b:Nat) (w:World):(binOp .eql 132 (.map (some b)) (.map none)).run Tryz.prog w=.ok (.bool false) w:=by kernel_rfl
theorem sN (x:Me base tb t n o sz es ev mv w) (e8:es.length<=5000) {k v:HV} (hk:oM k) (hs:k.isSome=true) (hv:v.isNone=false) (b0:∀ e∈es,e.1≠k) (hd:Hd tb w k) (d4:base<=w.heap.size):
 Calls Tryz.prog 126 #[.pointer (some ⟨t,0,none⟩),.agg #[.int .i64 (vk k),.int .i64 (vi k),.int .u64 0,.string ByteArray.empty,aK tb k],.agg #[.int .i64 (vk v),.int .i64 (vi v),.int .u64 0,.string ByteArray.empty,aK tb v]] w fun e' w'=>e'=.returned (.tuple #[])/\∃ ev' mv',Me base tb t n o sz (es++[(k,v)]) ev' mv' w'/\Keeps w w' (fun c=>c=t∨ev.ownBlock=some c∨dz mv=some c)/\(∀ g,ev'.ownBlock=some g->ev.ownBlock=some g∨w.heap.size<=g)/\(∀ g,dz mv'=some g->dz mv=some g∨w.heap.size<=g):=by
 have HX:=ah ((eu w tb k).keep (Keeps.of (aU (w.alloc (.cells #[.int .i64 (vk k),.int .i64 (vi k),.int .u64 0,.string ByteArray.empty,aK tb k] 143)) (.cells #[.int .i64 (vk v),.int .i64 (vi v),.int .u64 0,.string ByteArray.empty,aK tb v] 143)) (au _) (fun _=>False)) (fun x=>x));have HY:=ah (eu (w.alloc (.cells #[.int .i64 (vk k),.int .i64 (vi k),.int .u64 0,.string ByteArray.empty,aK tb k] 143)) tb v);have HB:=ah ((aU w (.cells #[.int .i64 (vk k),.int .i64 (vi k),.int .u64 0,.string ByteArray.empty,aK tb k] 143)).trans ((aU (w.alloc (.cells #[.int .i64 (vk k),.int .i64 (vi k),.int .u64 0,.string ByteArray.empty,aK tb k] 143)) (.cells #[.int .i64 (vk v),.int .i64 (vi v),.int .u64 0,.string ByteArray.empty,aK tb v] 143)).mono (aU w (.cells #[.int .i64 (vk k),.int .i64 (vi k),.int .u64 0,.string ByteArray.empty,aK tb k] 143)).size));have hZ:(w.alloc (.cells #[.int .i64 (vk k),.int .i64 (vi k),.int .u64 0,.string ByteArray.empty,aK tb k] 143)).heap.size=w.heap.size+1:=bM _;rw [hZ] at HY;clear hZ;have f5:=x.r.lt;have HT:=ah x;have HD:=ah hd;have e5:=ah hk;have e4:=ah hs;have e1:=ah b0;have HV:=ah hv;have d7:t≠w.heap.size:=by omega
 have d6:t≠w.heap.size+1:=by omega
 clear x hd hk hs b0 hv;go_enter Tryz.func126,Tryz.ntmps126;go_upto_region 1 with (fail)
 change Code.wp _ _ _ _ ((w.alloc (.cells #[.int .i64 (vk k),.int .i64 (vi k),.int .u64 0,.string ByteArray.empty,aK tb k] 143)).alloc (.cells #[.int .i64 (vk v),.int .i64 (vi v),.int .u64 0,.string ByteArray.empty,aK tb v] 143));generalize (w.alloc (.cells #[.int .i64 (vk k),.int .i64 (vi k),.int .u64 0,.string ByteArray.empty,aK tb k] 143)).alloc (.cells #[.int .i64 (vk v),.int .i64 (vi v),.int .u64 0,.string ByteArray.empty,aK tb v] 143)=w2 at *;generalize hX:w.heap.size=X at *;have K2:=ah (Keeps.of HB.o (aO hX) (fun _=>False));have b7:=ah hX;clear hX;have J:=ah (HT.o.r.keep K2.o id);have a6:=ah (aj HT.o.e K2.o (fun _ _ e=>e));have a5:=ah (HT.o.m.keep K2.o (fun _ _ e=>e));have c8:w2.cell? ⟨t,8,none⟩=some mv:=J.o.c 8;have z8:=J.o.Nq 8;have f2:=HY.o.lt;obtain ⟨B,d2,c1⟩:∃ B,(d8 .eql 132 mv (.map none)).run Tryz.prog w2=.ok (.bool B) w2/\Hq ((mv=.map none->B=true)/\∀ b,mv=.map (some b)->B=false):=by
  rcases a5.o with ⟨rfl,h0⟩|⟨b,L,a3,rfl,i,D⟩
  ·exact ⟨true,Fx w2,ah ⟨fun _=>rfl,fun b c=>by cases c⟩⟩
  ·exact ⟨false,Fq b w2,ah ⟨fun c=>(by cases c),fun _ _=>rfl⟩⟩
 have d3:(eqGuard .eql 132 (.tmp 9) (.const (.map none)) mv (.map none)).run Tryz.prog w2=.ok () w2:=by
  rcases a5.o with ⟨rfl,h0⟩|⟨b,L,a3,rfl,i,D⟩
  ·exact Gm w2
  ·exact F8 b w2
 go_upto_if 10 with (fail)
 clear d2 d3
 go_cut [] (fun wc=>Hq (∃ b,ML base tb t n o sz es ev mv w X k v b wc))
 case first=>
  rcases a5.o with ⟨rfl,h0⟩|⟨b,L,a3,rfl,i,D⟩
  ·subst h0
   obtain rfl:=c1.o.1 rfl;have c9:=El w2;have b9:=ah (kZ.new w2 0);have a7:=ah (aU w2 (.map #[] 0));have b2:Hq (w2.heap.size≠t):=ah (by have:=J.o.lt;omega);generalize w2.alloc (.map #[] 0)=w2a at *;obtain ⟨Y,R⟩:∃ Y,w2.heap.size=Y:=⟨_,rfl⟩
   have hY:w2.heap.size<=Y:=aO R;rw [R] at c9 b9 a7 b2;have d9:=ah R;clear R;have a4:=ah (J.o.keep (Keeps.of a7.o hY (fun _=>False)) id);have f6:w2a.cell? ⟨t,8,none⟩=some (.map none):=a4.o.c 8;have f3:=a4.o.Nq 8;clear c8 z8;go_wp2_with fail;go_meet;have N:Keeps w2a (w2a.setCell ⟨t,8,none⟩ (.map (some Y))) (fun c=>c=t):=Keeps.setCell (S:=fun c=>c=t) (Keeps.refl w2a _) rfl _;have ka:=fun S=>Keeps.of a7.o hY S;refine ⟨Y,⟨(a4.o.set (j:=8) (by omega) _).congr (fun j hj=>dx (fun j=>(if j=8 then (.map (some Y):Value) else rZ o n sz [] ev (.map none) j)=rZ o n sz [] ev (.map (some Y)) j) rfl rfl rfl rfl rfl rfl rfl rfl rfl rfl rfl rfl rfl j hj),?_,b9.o.keep N b2.out,(HX.o.keep (ka fun _=>False) id).keep N (fun c=>d7 c.symm),(HY.o.keep (ka fun _=>False) id).keep N (fun c=>d6 c.symm),((K2.o.mono (fun _ e=>e.elim)).trans (ka _)).trans N,.inr (by rw [b7.o,<-d9.o];omega)⟩⟩;exact aj (aj a6.o (ka fun _=>False) (fun _ _ e=>e)) N (fun g hg c=>ak a6.o J.o (by decide) (c ▸ hg))
  ·obtain rfl:=c1.o.2 b rfl
   go_wp2_with fail;go_meet;exact ⟨b,J.o,a6.o,⟨L,a3,i,D.p⟩,HX.o,HY.o,K2.o.mono (fun _ e=>e.elim),.inl rfl⟩
 case rest=>
 rename World=>w3;obtain ⟨b,h⟩:=hcut.out;obtain ⟨A,s,d1,e9,-⟩:=iH h.e;subst d1;have HI:=ah h;have F:b≠X:=fun c=>by
  obtain ⟨en,ck,i,_⟩:=h.p;obtain ⟨a2,D,_⟩:=h.x;rw [c] at i;rw [D] at i;cases i
 have d5:b≠X+1:=fun c=>by
  obtain ⟨en,ck,i,_⟩:=h.p;obtain ⟨a2,D,_⟩:=h.y;rw [c] at i;rw [D] at i;cases i
 have Q:b≠t:=fun c=>by
  obtain ⟨en,ck,i,_⟩:=h.p;obtain ⟨a2,D,_⟩:=h.r;rw [c] at i;rw [D] at i;cases i
 have b5:∀ g,(Value.slice A es.length s).ownBlock=some g->b≠g:=fun g hg c=>by
  obtain ⟨en,ck,i,_⟩:=h.p;obtain ⟨a2,D,_⟩:=ay h.e hg;rw [c] at i;rw [D] at i;cases i
 have c2:=ah b5;have b3:Hd tb w3 k:=by
  K m hm
  obtain ⟨f,i,D⟩:=HD.o m hm;by_cases c:tb m=t
  ·have h3:=HT.o.r.c 1
   have h4:=i.c 1;rw [c,h3] at h4;refine ⟨_,by rw [c];exact h.r,?_⟩;have h5:rZ o n sz es (.slice A es.length s) mv 1=f 1:=by simpa using h4
   rw [<-D,<-h5];rfl
  ·exact ⟨f,i.keep h.k c,D⟩
 have e0:=ah (fun (w':World) (hb:Below w3.heap.size w3 w')=>(b3.low hb).c);have e3:=ah (fun (w':World) (hb:Below w3.heap.size w3 w')=>h.p.keep (Keeps.of hb (au _) (fun _=>False)) (fun e=>e));have E:=h.r.lt;have d:=h.x.lt;have c7:w3.cell? ⟨t,7,none⟩=some (.slice A es.length s):=h.r.c 7;have b6:w3.cell? ⟨t,8,none⟩=some (.map (some b)):=h.r.c 8;have x0:w3.cell? ⟨X,0,none⟩=some (.int .i64 (vk k)):=h.x.c 0;have x1:w3.cell? ⟨X,1,none⟩=some (.int .i64 (vi k)):=h.x.c 1;have x2:w3.cell? ⟨X,2,none⟩=some (.int .u64 0):=h.x.c 2;have x3:w3.cell? ⟨X,3,none⟩=some (.string ByteArray.empty):=h.x.c 3;have x4:w3.cell? ⟨X,4,none⟩=some (aK tb k):=h.x.c 4;clear hcut h b5 b3 c8 z8;go_wp2_with fail
 go_region_held3 (fun w'=>w'.cell? ⟨t,7,none⟩=some (.slice A es.length s)/\w'.cell? ⟨t,8,none⟩=some (.map (some b))/\w'.cell? ⟨X,0,none⟩=some (.int .i64 (vk k))/\w'.cell? ⟨X,1,none⟩=some (.int .i64 (vi k))/\w'.cell? ⟨X,2,none⟩=some (.int .u64 0)/\w'.cell? ⟨X,3,none⟩=some (.string ByteArray.empty)/\w'.cell? ⟨X,4,none⟩=some (aK tb k)) (go_keep)
  (first
    |(refine iF (.tmp 19) rfl tb k rfl (e0.o _ (aC (aG _ _) _)) ?_
      K T V
      have q:Below w3.heap.size w3 T:=(aC (aG w3.heap.size w3) _).trans V;have z:=ah q;have t0:=(q.cell (p:=⟨t,7,none⟩) E).trans c7;have t1:=(q.cell (p:=⟨t,8,none⟩) E).trans b6;have t2:=(q.cell (p:=⟨X,0,none⟩) d).trans x0;have t3:=(q.cell (p:=⟨X,1,none⟩) d).trans x1;have t4:=(q.cell (p:=⟨X,2,none⟩) d).trans x2;have t5:=(q.cell (p:=⟨X,3,none⟩) d).trans x3;have t6:=(q.cell (p:=⟨X,4,none⟩) d).trans x4;clear q V;obtain ⟨C,c4,b1,l,c5⟩:=Aj (e3.o _ z.o) e5.o e4.o es.length;have u0:=(aM (a:=⟨t,7,none⟩) (l.block _ (aX E z.o.size) Q.symm)).trans t0;have u1:=(aM (a:=⟨t,8,none⟩) (l.block _ (aX E z.o.size) Q.symm)).trans t1;have u2:=(aM (a:=⟨X,0,none⟩) (l.block _ (aX d z.o.size) F.symm)).trans t2;have u3:=(aM (a:=⟨X,1,none⟩) (l.block _ (aX d z.o.size) F.symm)).trans t3;have u4:=(aM (a:=⟨X,2,none⟩) (l.block _ (aX d z.o.size) F.symm)).trans t4;have u5:=(aM (a:=⟨X,3,none⟩) (l.block _ (aX d z.o.size) F.symm)).trans t5;have u6:=(aM (a:=⟨X,4,none⟩) (l.block _ (aX d z.o.size) F.symm)).trans t6;have Z:=ah (show kZ C b (fun k' j=>(k'=k/\j=es.length)∨(k'≠k/\mW es k' j))/\Keeps w3 C (fun c=>c=b) from ⟨b1,(Keeps.of z.o (au _) _).trans l⟩);clear b1 l c5)
    |fail)
 clear c4 c7 b6 x0 x1 x2 x3 x4 t0 t1 t2 t3 t4 t5 t6 u0 u1 u2 u3 u4 u5 u6;have M:=ah (HI.out.r.keep Z.o.2 Q.symm);have c0:=ah (aj HI.out.e Z.o.2 (fun g hg c=>c2.o g hg c.symm));have H:=ah (HI.out.x.keep Z.o.2 F.symm);have G:=ah (HI.out.y.keep Z.o.2 d5.symm);have c7:C.cell? ⟨t,7,none⟩=some (.slice A es.length s):=M.o.c 7;have z7:=M.o.Nq 7;have x0:C.cell? ⟨X,0,none⟩=some (.int .i64 (vk k)):=H.o.c 0;have x1:C.cell? ⟨X,1,none⟩=some (.int .i64 (vi k)):=H.o.c 1;have x2:C.cell? ⟨X,2,none⟩=some (.int .u64 0):=H.o.c 2;have x3:C.cell? ⟨X,3,none⟩=some (.string ByteArray.empty):=H.o.c 3;have x4:C.cell? ⟨X,4,none⟩=some (aK tb k):=H.o.c 4;have y0:C.cell? ⟨X+1,0,none⟩=some (.int .i64 (vk v)):=G.o.c 0;have y1:C.cell? ⟨X+1,1,none⟩=some (.int .i64 (vi v)):=G.o.c 1;have y2:C.cell? ⟨X+1,2,none⟩=some (.int .u64 0):=G.o.c 2;have y3:C.cell? ⟨X+1,3,none⟩=some (.string ByteArray.empty):=G.o.c 3;have y4:C.cell? ⟨X+1,4,none⟩=some (aK tb v):=G.o.c 4;have b4:base<=C.heap.size:=aI d4 (aI (by rw [<-b7.o];exact HI.out.k.size) Z.o.2.size);have e2:=ah b4;have e7:=M.o.lt;have f1:=H.o.lt;have f0:=G.o.lt;go_wp2_with fail
 go_region_law (
  refine qP (wr:=C) (.tmp 30) (.tmp 34) 131 167 10 112 _ rfl Tryz.underlying131 Az rfl (by decide) base (.slice A es.length s) es.length (jh tb es) (jG tb (k,v)) c0.o rfl rfl rfl (fun u hu=>(aY.1 hu).elim (wH tb k u) (wH tb v u)) (by omega) (by decide) e2.o ?_
  K v' T a1 a0 a8
  obtain ⟨W,U,c3⟩:=aF a1;subst c3;have P:=M.o.keep a0 (fun e=>ak c0.o M.o (by decide) e);have f7:T.cell? ⟨t,7,none⟩=some (.slice A es.length s):=P.c 7;have f4:=P.Nq 7;have b8:=ah P;have H9:=ah (e6.intro a1 (e6.intro a0 a8));clear a1 a0 a8 P)
 all_goals
  go_wp2;go_end0;have N:Keeps T (T.setCell ⟨t,7,none⟩ (.slice W (es.length+1) U)) (fun c=>c=t):=Keeps.setCell (S:=fun c=>c=t) (Keeps.refl T _) rfl _;have d0:(es++[(k,v)]).length=es.length+1:=by simp
  have hown:(T.setCell ⟨t,7,none⟩ (.slice W (es.length+1) U)).ownsRow base 167 10 (.slice W (es.length+1) U) (es.length+1) (jh tb (es++[(k,v)])):=aj (by
   have:=H9.o.1;unfold jh at this ⊢;rw [List.flatMap_append]
   simpa using this) N (fun g hg c=>ak H9.o.1 b8.o (by decide) (c ▸ hg))
  have c6:kZ (T.setCell ⟨t,7,none⟩ (.slice W (es.length+1) U)) b (mW (es++[(k,v)])):=((Z.o.1.congr (fun k' j _=>Dh e1.o k' j)).keep H9.o.2.1 (fun c=>c2.o b c rfl)).keep N Q;refine ⟨rfl,.slice W (es.length+1) U,.map (some b),⟨?_,by rw [d0];exact hown,c6.a⟩,?_,fun g hg=>?_,fun g hg=>?_⟩
  ·refine (b8.o.set (j:=7) (by omega) (.slice W (es.length+1) U)).congr (fun j hj=>?_)
   refine dx (fun j=>(if j=7 then (.slice W (es.length+1) U:Value) else rZ o n sz es (.slice A es.length s) (.map (some b)) j)=rZ o n sz (es++[(k,v)]) (.slice W (es.length+1) U) (.map (some b)) j) rfl rfl rfl rfl rfl rfl rfl rfl rfl ?_ rfl rfl rfl j hj;simp [rZ,yG es k HV.out]
  ·have kf:Keeps w C (fun c=>c=t∨(Value.slice A es.length s).ownBlock=some c∨dz mv=some c):=Keeps.fresh (HI.out.k.mono (fun c e=>Or.inl e)) Z.o.2 (HI.out.b.imp (fun e=>Or.inr (Or.inr e)) id)
   exact (kf.trans (H9.o.2.1.mono (fun c e=>Or.inr (Or.inl e)))).trans (N.mono (fun c e=>Or.inl e))
  ·rcases H9.o.2.2 g hg with y|y
   ·exact .inl y
   ·right
    have i:=HI.out.k.size;have D:=Z.o.2.size;omega
  ·simp [dz] at hg
   subst hg;exact HI.out.b
end Go.Proofs.YtbpcdfbmnklcjaaGreatDoor
