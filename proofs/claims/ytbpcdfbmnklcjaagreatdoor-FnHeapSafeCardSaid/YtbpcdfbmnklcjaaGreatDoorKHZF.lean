import Derived.Test.YtbpcdfbmnklcjaaGreatDoorKHZD
namespace Go.Proofs.YtbpcdfbmnklcjaaGreatDoor
open Go Go.RowKit Go.WideMaps
open Go.ChangeMaps (setBlock)
set_option maxHeartbeats 6400000
set_option maxRecDepth 100000
set_option linter.unusedVariables false
variable {S:Nat->Prop} {base n t:Nat} {es:List En} {ev mv:Value} {o:Ob} {sz:Int} {tb:Nat->Nat} {w w1 w2:World}
attribute [local go_sem] bW
theorem BU {k v:HV} (f:∀ e∈es,e.1≠k) (d:HV) (j:Nat):mW (es++[(k,v)]) d j↔((d=k/\j=es.length)∨(d≠k/\mW es d j)):=by
 unfold mW;constructor
 ·rintro ⟨x,a,b⟩
  rw [List.getElem?_append] at a;split at a
  ·exact .inr ⟨fun c=>f x (aX a) (b.trans c),x,a,b⟩
  ·rename_i c
   rw [List.getElem?_singleton] at a;split at a
   ·simp at a
    subst a;exact .inl ⟨b.symm,by omega⟩
   ·cases a
 ·rintro (⟨a,b⟩|⟨g,x,a,b⟩)
  ·exact ⟨(k,v),by rw [b,fI (au _)];simp,a.symm⟩
  ·exact ⟨x,by rw [dF (aJ.1 a).1];exact a,b⟩
theorem yw (es:List En) (k:HV) {v:HV} (a:v.isNone=false):aZ (es++[(k,v)])=aZ es:=by
 unfold aZ;rw [List.filter_append];simp [a]
structure ML (base:Nat) (tb:Nat->Nat) (t n:Nat) (o:Ob) (sz:Int) (es:List En) (ev mv:Value) (w:World) (X:Nat) (k v:HV) (b:Nat) (wc:World):Prop where
 r:aD wc 136 t 13 (tV o n sz es ev (.map (some b)))
 e:wc.ownsRow base 167 10 ev es.length (jg tb es)
 p:kZ wc b (mW es)
 x:aD wc 143 X 5 (fun j=>(kE tb k).getD j (.bool false))
 y:aD wc 143 (X+1) 5 (fun j=>(kE tb v).getD j (.bool false))
 k:Keeps w wc (fun c=>c=t)
 b:dx mv=some b∨w.heap.size<=b
theorem kZ.new (w:World) (b:Nat):kZ (w.alloc (.map #[] b)) w.heap.size (mW []):=
 ⟨#[],b,Array.getElem?_push_size ..,⟨fun m hm=>by simp at hm,fun k i h=>by obtain ⟨e,a,_⟩:=h;simp at a,List.Pairwise.nil,fun k i h=>by obtain ⟨e,a,_⟩:=h;simp at a,fun k i j h=>by obtain ⟨e,a,_⟩:=h;simp at a⟩⟩
theorem Keeps.fresh {b:Nat} (h:Keeps w w1 S) (k:Keeps w1 w2 (fun c=>c=b)) (hb:S b∨w.heap.size<=b):Keeps w w2 S:=
 ⟨k.os.trans h.os,k.tape.trans h.tape,k.output.trans h.output,aI h.size k.size,fun c hc hn=>(k.block c (aW hc h.size) (fun e=>by
  rcases hb with x|x
  ·exact hn (e ▸ x)
  ·omega)).trans (h.block c hc hn)⟩
theorem FN (w:World):(binOp .eql 132 (.map none) (.map none)).run Tryz.prog w=.ok (.bool true) w:=by kernel_rfl
theorem Gg (w:World):(eqGuard .eql 132 (.tmp 9) (.const (.map none)) (.map none) (.map none)).run Tryz.prog w=.ok () w:=by kernel_rfl
theorem Gr (b:Nat) (w:World):(eqGuard .eql 132 (.tmp 9) (.const (.map none)) (.map (some b)) (.map none)).run Tryz.prog w=.ok () w:=by kernel_rfl
theorem DU (w:World):(Instr.makeMap 132 none).run Tryz.prog w=.ok (.map (some w.heap.size)) (w.alloc (.map #[] 0)):=by kernel_rfl
theorem E9 (b:Nat) (w:World):(binOp .eql 132 (.map (some b)) (.map none)).run Tryz.prog w=.ok (.bool false) w:=by kernel_rfl
theorem rV (x:M4 base tb t n o sz es ev mv w) (e5:es.length<=5000) {k v:HV} (hk:oW k) (hs:k.isSome=true) (hv:v.isNone=false) (a8:∀ e∈es,e.1≠k) (hd:Hd tb w k) (d3:base<=w.heap.size):
 Calls Tryz.prog 126 #[.pointer (some ⟨t,0,none⟩),.agg #[.int .i64 (vk k),.int .i64 (vi k),.int .u64 0,.string ByteArray.empty,aK tb k],.agg #[.int .i64 (vk v),.int .i64 (vi v),.int .u64 0,.string ByteArray.empty,aK tb v]] w fun e' w'=>e'=.returned (.tuple #[])/\∃ ev' mv',M4 base tb t n o sz (es++[(k,v)]) ev' mv' w'/\Keeps w w' (fun c=>c=t∨ev.ownBlock=some c∨dx mv=some c)/\(∀ g,ev'.ownBlock=some g->ev.ownBlock=some g∨w.heap.size<=g)/\(∀ g,dx mv'=some g->dx mv=some g∨w.heap.size<=g):=by
 have HX:=ah ((d_ w tb k).keep (Keeps.of (aU (w.alloc (.cells #[.int .i64 (vk k),.int .i64 (vi k),.int .u64 0,.string ByteArray.empty,aK tb k] 143)) (.cells #[.int .i64 (vk v),.int .i64 (vi v),.int .u64 0,.string ByteArray.empty,aK tb v] 143)) (au _) (fun _=>False)) (fun x=>x));have HY:=ah (d_ (w.alloc (.cells #[.int .i64 (vk k),.int .i64 (vi k),.int .u64 0,.string ByteArray.empty,aK tb k] 143)) tb v);have HB:=ah ((aU w (.cells #[.int .i64 (vk k),.int .i64 (vi k),.int .u64 0,.string ByteArray.empty,aK tb k] 143)).trans ((aU (w.alloc (.cells #[.int .i64 (vk k),.int .i64 (vi k),.int .u64 0,.string ByteArray.empty,aK tb k] 143)) (.cells #[.int .i64 (vk v),.int .i64 (vi v),.int .u64 0,.string ByteArray.empty,aK tb v] 143)).mono (aU w (.cells #[.int .i64 (vk k),.int .i64 (vi k),.int .u64 0,.string ByteArray.empty,aK tb k] 143)).size));have hZ:(w.alloc (.cells #[.int .i64 (vk k),.int .i64 (vi k),.int .u64 0,.string ByteArray.empty,aK tb k] 143)).heap.size=w.heap.size+1:=bM _;rw [hZ] at HY;clear hZ;have f2:=x.r.lt;have HT:=ah x;have HD:=ah hd;have e3:=ah hk;have e2:=ah hs;have d9:=ah a8;have HV:=ah hv;have d6:t≠w.heap.size:=by omega
 have d5:t≠w.heap.size+1:=by omega
 clear x hd hk hs a8 hv;go_enter Tryz.func126,Tryz.ntmps126;go_upto_region 1 with (fail)
 change Code.wp _ _ _ _ ((w.alloc (.cells #[.int .i64 (vk k),.int .i64 (vi k),.int .u64 0,.string ByteArray.empty,aK tb k] 143)).alloc (.cells #[.int .i64 (vk v),.int .i64 (vi v),.int .u64 0,.string ByteArray.empty,aK tb v] 143));generalize (w.alloc (.cells #[.int .i64 (vk k),.int .i64 (vi k),.int .u64 0,.string ByteArray.empty,aK tb k] 143)).alloc (.cells #[.int .i64 (vk v),.int .i64 (vi v),.int .u64 0,.string ByteArray.empty,aK tb v] 143)=w2 at *;generalize hX:w.heap.size=X at *;have K2:=ah (Keeps.of HB.o (aO hX) (fun _=>False));have b6:=ah hX;clear hX;have J:=ah (HT.o.r.keep K2.o id);have a5:=ah (aj HT.o.e K2.o (fun _ _ e=>e));have a4:=ah (HT.o.m.keep K2.o (fun _ _ e=>e));have c8:w2.cell? ⟨t,8,none⟩=some mv:=J.o.c 8;have z8:=J.o.ME 8;have e9:=HY.o.lt;obtain ⟨B,d1,c0⟩:∃ B,(binOp .eql 132 mv (.map none)).run Tryz.prog w2=.ok (.bool B) w2/\Hq ((mv=.map none->B=true)/\∀ b,mv=.map (some b)->B=false):=by
  rcases a4.o with ⟨rfl,h0⟩|⟨b,K,a2,rfl,i,D⟩
  ·exact ⟨true,FN w2,ah ⟨fun _=>rfl,fun b c=>by cases c⟩⟩
  ·exact ⟨false,E9 b w2,ah ⟨fun c=>(by cases c),fun _ _=>rfl⟩⟩
 have d2:(eqGuard .eql 132 (.tmp 9) (.const (.map none)) mv (.map none)).run Tryz.prog w2=.ok () w2:=by
  rcases a4.o with ⟨rfl,h0⟩|⟨b,K,a2,rfl,i,D⟩
  ·exact Gg w2
  ·exact Gr b w2
 go_upto_if 10 with (fail)
 clear d1 d2
 go_cut [] (fun wc=>Hq (∃ b,ML base tb t n o sz es ev mv w X k v b wc))
 case first=>
  rcases a4.o with ⟨rfl,h0⟩|⟨b,K,a2,rfl,i,D⟩
  ·subst h0
   obtain rfl:=c0.o.1 rfl;have c6:=DU w2;have b8:=ah (kZ.new w2 0);have a6:=ah (aU w2 (.map #[] 0));have b1:Hq (w2.heap.size≠t):=ah (by have:=J.o.lt;omega);generalize w2.alloc (.map #[] 0)=w2a at *;obtain ⟨Y,Q⟩:∃ Y,w2.heap.size=Y:=⟨_,rfl⟩
   have hY:w2.heap.size<=Y:=aO Q;rw [Q] at c6 b8 a6 b1;have d7:=ah Q;clear Q;have a3:=ah (J.o.keep (Keeps.of a6.o hY (fun _=>False)) id);have f3:w2a.cell? ⟨t,8,none⟩=some (.map none):=a3.o.c 8;have f0:=a3.o.ME 8;clear c8 z8;go_wp2_with fail;go_meet;have M:Keeps w2a (w2a.setCell ⟨t,8,none⟩ (.map (some Y))) (fun c=>c=t):=Keeps.setCell (S:=fun c=>c=t) (Keeps.refl w2a _) rfl _;have ka:=fun S=>Keeps.of a6.o hY S;refine ⟨Y,⟨(a3.o.set (j:=8) (by omega) _).congr (fun j hj=>dz (fun j=>(if j=8 then (.map (some Y):Value) else tV o n sz [] ev (.map none) j)=tV o n sz [] ev (.map (some Y)) j) rfl rfl rfl rfl rfl rfl rfl rfl rfl rfl rfl rfl rfl j hj),?_,b8.o.keep M b1.out,(HX.o.keep (ka fun _=>False) id).keep M (fun c=>d6 c.symm),(HY.o.keep (ka fun _=>False) id).keep M (fun c=>d5 c.symm),((K2.o.mono (fun _ e=>e.elim)).trans (ka _)).trans M,.inr (by rw [b6.o,<-d7.o];omega)⟩⟩;exact aj (aj a5.o (ka fun _=>False) (fun _ _ e=>e)) M (fun g hg c=>ak a5.o J.o (by decide) (c ▸ hg))
  ·obtain rfl:=c0.o.2 b rfl
   go_wp2_with fail;go_meet;exact ⟨b,J.o,a5.o,⟨K,a2,i,D.p⟩,HX.o,HY.o,K2.o.mono (fun _ e=>e.elim),.inl rfl⟩
 case rest=>
 rename World=>w3;obtain ⟨b,h⟩:=hcut.out;obtain ⟨A,s,d0,e6,-⟩:=iA h.e;subst d0;have HI:=ah h;have F:b≠X:=fun c=>by
  obtain ⟨en,ck,i,_⟩:=h.p;obtain ⟨a1,D,_⟩:=h.x;rw [c] at i;rw [D] at i;cases i
 have d4:b≠X+1:=fun c=>by
  obtain ⟨en,ck,i,_⟩:=h.p;obtain ⟨a1,D,_⟩:=h.y;rw [c] at i;rw [D] at i;cases i
 have P:b≠t:=fun c=>by
  obtain ⟨en,ck,i,_⟩:=h.p;obtain ⟨a1,D,_⟩:=h.r;rw [c] at i;rw [D] at i;cases i
 have b4:∀ g,(Value.slice A es.length s).ownBlock=some g->b≠g:=fun g hg c=>by
  obtain ⟨en,ck,i,_⟩:=h.p;obtain ⟨a1,D,_⟩:=ay h.e hg;rw [c] at i;rw [D] at i;cases i
 have c1:=ah b4;have b2:Hd tb w3 k:=by
  intro m hm;obtain ⟨f,i,D⟩:=HD.o m hm;by_cases c:tb m=t
  ·have h3:=HT.o.r.c 1
   have h4:=i.c 1;rw [c,h3] at h4;refine ⟨_,by rw [c];exact h.r,?_⟩;have h5:tV o n sz es (.slice A es.length s) mv 1=f 1:=by simpa using h4
   rw [<-D,<-h5];rfl
  ·exact ⟨f,i.keep h.k c,D⟩
 have d8:=ah (fun (w':World) (hb:Below w3.heap.size w3 w')=>(b2.low hb).c);have e1:=ah (fun (w':World) (hb:Below w3.heap.size w3 w')=>h.p.keep (Keeps.of hb (au _) (fun _=>False)) (fun e=>e));have E:=h.r.lt;have d:=h.x.lt;have c7:w3.cell? ⟨t,7,none⟩=some (.slice A es.length s):=h.r.c 7;have b5:w3.cell? ⟨t,8,none⟩=some (.map (some b)):=h.r.c 8;have x0:w3.cell? ⟨X,0,none⟩=some (.int .i64 (vk k)):=h.x.c 0;have x1:w3.cell? ⟨X,1,none⟩=some (.int .i64 (vi k)):=h.x.c 1;have x2:w3.cell? ⟨X,2,none⟩=some (.int .u64 0):=h.x.c 2;have x3:w3.cell? ⟨X,3,none⟩=some (.string ByteArray.empty):=h.x.c 3;have x4:w3.cell? ⟨X,4,none⟩=some (aK tb k):=h.x.c 4;clear hcut h b4 b2 c8 z8;go_wp2_with fail
 go_region_held3 (fun w'=>w'.cell? ⟨t,7,none⟩=some (.slice A es.length s)/\w'.cell? ⟨t,8,none⟩=some (.map (some b))/\w'.cell? ⟨X,0,none⟩=some (.int .i64 (vk k))/\w'.cell? ⟨X,1,none⟩=some (.int .i64 (vi k))/\w'.cell? ⟨X,2,none⟩=some (.int .u64 0)/\w'.cell? ⟨X,3,none⟩=some (.string ByteArray.empty)/\w'.cell? ⟨X,4,none⟩=some (aK tb k)) (go_keep)
  (first
    |(refine iD (.tmp 19) rfl tb k rfl (d8.o _ (aC (aG _ _) _)) ?_
      intro R U;have q:Below w3.heap.size w3 R:=(aC (aG w3.heap.size w3) _).trans U;have z:=ah q;have t0:=(q.cell (p:=⟨t,7,none⟩) E).trans c7;have t1:=(q.cell (p:=⟨t,8,none⟩) E).trans b5;have t2:=(q.cell (p:=⟨X,0,none⟩) d).trans x0;have t3:=(q.cell (p:=⟨X,1,none⟩) d).trans x1;have t4:=(q.cell (p:=⟨X,2,none⟩) d).trans x2;have t5:=(q.cell (p:=⟨X,3,none⟩) d).trans x3;have t6:=(q.cell (p:=⟨X,4,none⟩) d).trans x4;clear q U;obtain ⟨C,c3,b0,l,c4⟩:=AY (e1.o _ z.o) e3.o e2.o es.length;have u0:=(aM (a:=⟨t,7,none⟩) (l.block _ (aW E z.o.size) P.symm)).trans t0;have u1:=(aM (a:=⟨t,8,none⟩) (l.block _ (aW E z.o.size) P.symm)).trans t1;have u2:=(aM (a:=⟨X,0,none⟩) (l.block _ (aW d z.o.size) F.symm)).trans t2;have u3:=(aM (a:=⟨X,1,none⟩) (l.block _ (aW d z.o.size) F.symm)).trans t3;have u4:=(aM (a:=⟨X,2,none⟩) (l.block _ (aW d z.o.size) F.symm)).trans t4;have u5:=(aM (a:=⟨X,3,none⟩) (l.block _ (aW d z.o.size) F.symm)).trans t5;have u6:=(aM (a:=⟨X,4,none⟩) (l.block _ (aW d z.o.size) F.symm)).trans t6;have W:=ah (show kZ C b (fun k' j=>(k'=k/\j=es.length)∨(k'≠k/\mW es k' j))/\Keeps w3 C (fun c=>c=b) from ⟨b0,(Keeps.of z.o (au _) _).trans l⟩);clear b0 l c4)
    |fail)
 clear c3 c7 b5 x0 x1 x2 x3 x4 t0 t1 t2 t3 t4 t5 t6 u0 u1 u2 u3 u4 u5 u6;have L:=ah (HI.out.r.keep W.o.2 P.symm);have b9:=ah (aj HI.out.e W.o.2 (fun g hg c=>c1.o g hg c.symm));have H:=ah (HI.out.x.keep W.o.2 F.symm);have G:=ah (HI.out.y.keep W.o.2 d4.symm);have c7:C.cell? ⟨t,7,none⟩=some (.slice A es.length s):=L.o.c 7;have z7:=L.o.ME 7;have x0:C.cell? ⟨X,0,none⟩=some (.int .i64 (vk k)):=H.o.c 0;have x1:C.cell? ⟨X,1,none⟩=some (.int .i64 (vi k)):=H.o.c 1;have x2:C.cell? ⟨X,2,none⟩=some (.int .u64 0):=H.o.c 2;have x3:C.cell? ⟨X,3,none⟩=some (.string ByteArray.empty):=H.o.c 3;have x4:C.cell? ⟨X,4,none⟩=some (aK tb k):=H.o.c 4;have y0:C.cell? ⟨X+1,0,none⟩=some (.int .i64 (vk v)):=G.o.c 0;have y1:C.cell? ⟨X+1,1,none⟩=some (.int .i64 (vi v)):=G.o.c 1;have y2:C.cell? ⟨X+1,2,none⟩=some (.int .u64 0):=G.o.c 2;have y3:C.cell? ⟨X+1,3,none⟩=some (.string ByteArray.empty):=G.o.c 3;have y4:C.cell? ⟨X+1,4,none⟩=some (aK tb v):=G.o.c 4;have b3:base<=C.heap.size:=aI d3 (aI (by rw [<-b6.o];exact HI.out.k.size) W.o.2.size);have e0:=ah b3;have e4:=L.o.lt;have e8:=H.o.lt;have e7:=G.o.lt;go_wp2_with fail
 go_region_law (
  refine qW (wr:=C) (.tmp 30) (.tmp 34) 131 167 10 112 _ rfl Tryz.underlying131 Aq rfl (by decide) base (.slice A es.length s) es.length (jg tb es) (jG tb (k,v)) b9.o rfl rfl rfl (fun u hu=>(aY.1 hu).elim (wP tb k u) (wP tb v u)) (by omega) (by decide) e0.o ?_;intro v' R a0 Z a7;obtain ⟨V,T,c2⟩:=aF a0;subst c2;have N:=L.o.keep Z (fun e=>ak b9.o L.o (by decide) e);have f4:R.cell? ⟨t,7,none⟩=some (.slice A es.length s):=N.c 7;have f1:=N.ME 7;have b7:=ah N;have H9:=ah (And.intro a0 (And.intro Z a7));clear a0 Z a7 N)
 all_goals
  go_wp2;go_end0;have M:Keeps R (R.setCell ⟨t,7,none⟩ (.slice V (es.length+1) T)) (fun c=>c=t):=Keeps.setCell (S:=fun c=>c=t) (Keeps.refl R _) rfl _;have c9:(es++[(k,v)]).length=es.length+1:=by simp
  have hown:(R.setCell ⟨t,7,none⟩ (.slice V (es.length+1) T)).ownsRow base 167 10 (.slice V (es.length+1) T) (es.length+1) (jg tb (es++[(k,v)])):=aj (by
   have:=H9.o.1;unfold jg at this ⊢;rw [List.flatMap_append]
   simpa using this) M (fun g hg c=>ak H9.o.1 b7.o (by decide) (c ▸ hg))
  have c5:kZ (R.setCell ⟨t,7,none⟩ (.slice V (es.length+1) T)) b (mW (es++[(k,v)])):=((W.o.1.congr (fun k' j _=>BU d9.o k' j)).keep H9.o.2.1 (fun c=>c1.o b c rfl)).keep M P;refine ⟨rfl,.slice V (es.length+1) T,.map (some b),⟨?_,by rw [c9];exact hown,c5.a⟩,?_,fun g hg=>?_,fun g hg=>?_⟩
  ·refine (b7.o.set (j:=7) (by omega) (.slice V (es.length+1) T)).congr (fun j hj=>?_)
   refine dz (fun j=>(if j=7 then (.slice V (es.length+1) T:Value) else tV o n sz es (.slice A es.length s) (.map (some b)) j)=tV o n sz (es++[(k,v)]) (.slice V (es.length+1) T) (.map (some b)) j) rfl rfl rfl rfl rfl rfl rfl rfl rfl ?_ rfl rfl rfl j hj;simp [tV,yw es k HV.out]
  ·have kf:Keeps w C (fun c=>c=t∨(Value.slice A es.length s).ownBlock=some c∨dx mv=some c):=Keeps.fresh (HI.out.k.mono (fun c e=>Or.inl e)) W.o.2 (HI.out.b.imp (fun e=>Or.inr (Or.inr e)) id)
   exact (kf.trans (H9.o.2.1.mono (fun c e=>Or.inr (Or.inl e)))).trans (M.mono (fun c e=>Or.inl e))
  ·rcases H9.o.2.2 g hg with y|y
   ·exact .inl y
   ·right
    have i:=HI.out.k.size;have D:=W.o.2.size;omega
  ·simp [dx] at hg
   subst hg;exact HI.out.b
end Go.Proofs.YtbpcdfbmnklcjaaGreatDoor
