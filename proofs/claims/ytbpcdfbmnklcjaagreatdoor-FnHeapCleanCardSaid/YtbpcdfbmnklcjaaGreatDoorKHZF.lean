import Derived.Test.YtbpcdfbmnklcjaaGreatDoorKHZD
namespace Go.Proofs.YtbpcdfbmnklcjaaGreatDoor
open Go Go.RowKit Go.WideMaps
open Go.ChangeMaps (setBlock)
set_option maxHeartbeats 6400000
set_option maxRecDepth 100000
set_option linter.unusedVariables false
variable {S:Nat->Prop} {base n t:Nat} {es:List En} {ev mv:Value} {o:Ob} {sz:Int} {tb:Nat->Nat} {w w1 w2:World}
attribute [local go_sem] bW
theorem BU {k v:HV} (f:∀ e∈es,e.1≠k) (d:HV) (j:Nat):mW (es++[(k,v)]) d j↔((d=k/\j=es.length)∨(d≠k/\mW es d j)):=by
 unfold mW;constructor
 ·rintro ⟨x,a,b⟩
  rw [List.getElem?_append] at a;split at a
  ·exact .inr ⟨fun c=>f x (aX a) (b.trans c),x,a,b⟩
  ·rename_i c
   rw [List.getElem?_singleton] at a;split at a
   ·simp at a
    subst a;exact .inl ⟨b.symm,by omega⟩
   ·cases a
 ·rintro (⟨a,b⟩|⟨g,x,a,b⟩)
  ·exact ⟨(k,v),by rw [b,fI (au _)];simp,a.symm⟩
  ·exact ⟨x,by rw [dF (aJ.1 a).1];exact a,b⟩
theorem yw (es:List En) (k:HV) {v:HV} (a:v.isNone=false):aZ (es++[(k,v)])=aZ es:=by
 unfold aZ;rw [List.filter_append];simp [a]
structure ML (base:Nat) (tb:Nat->Nat) (t n:Nat) (o:Ob) (sz:Int) (es:List En) (ev mv:Value) (w:World) (X:Nat) (k v:HV) (b:Nat) (wc:World):Prop where
 r:aD wc 136 t 13 (tV o n sz es ev (.map (some b)))
 e:wc.ownsRow base 167 10 ev es.length (jg tb es)
 p:kZ wc b (mW es)
 x:aD wc 143 X 5 (fun j=>(kE tb k).getD j (.bool false))
 y:aD wc 143 (X+1) 5 (fun j=>(kE tb v).getD j (.bool false))
 k:Keeps w wc (fun c=>c=t)
 b:dx mv=some b∨w.heap.size<=b
theorem kZ.new (w:World) (b:Nat):kZ (w.alloc (.map #[] b)) w.heap.size (mW []):=
 ⟨#[],b,Array.getElem?_push_size ..,⟨fun m hm=>by simp at hm,fun k i h=>by obtain ⟨e,a,_⟩:=h;simp at a,List.Pairwise.nil,fun k i h=>by obtain ⟨e,a,_⟩:=h;simp at a,fun k i j h=>by obtain ⟨e,a,_⟩:=h;simp at a⟩⟩
theorem Keeps.fresh {b:Nat} (h:Keeps w w1 S) (k:Keeps w1 w2 (fun c=>c=b)) (hb:S b∨w.heap.size<=b):Keeps w w2 S:=
 ⟨k.os.trans h.os,k.tape.trans h.tape,k.output.trans h.output,aI h.size k.size,fun c hc hn=>(k.block c (aW hc h.size) (fun e=>by
  rcases hb with x|x
  ·exact hn (e ▸ x)
  ·omega)).trans (h.block c hc hn)⟩
theorem FN (w:World):(binOp .eql 132 (.map none) (.map none)).run Tryz.prog w=.ok (.bool true) w:=by kernel_rfl
theorem Gg (w:World):(eqGuard .eql 132 (.tmp 9) (.const (.map none)) (.map none) (.map none)).run Tryz.prog w=.ok () w:=by kernel_rfl
theorem Gr (b:Nat) (w:World):(eqGuard .eql 132 (.tmp 9) (.const (.map none)) (.map (some b)) (.map none)).run Tryz.prog w=.ok () w:=by kernel_rfl
theorem DU (w:World):(Instr.makeMap 132 none).run Tryz.prog w=.ok (.map (some w.heap.size)) (w.alloc (.map #[] 0)):=by kernel_rfl
theorem E9 (b:Nat) (w:World):(binOp .eql 132 (.map (some b)) (.map none)).run Tryz.prog w=.ok (.bool false) w:=by kernel_rfl
theorem rV (x:M4 base tb t n o sz es ev mv w) (e6:es.length<=5000) {k v:HV} (hk:oW k) (hs:k.isSome=true) (hv:v.isNone=false) (a7:∀ e∈es,e.1≠k) (hd:Hd tb w k) (d4:base<=w.heap.size):
 Calls Tryz.prog 126 #[.pointer (some ⟨t,0,none⟩),.agg #[.int .i64 (vk k),.int .i64 (vi k),.int .u64 0,.string ByteArray.empty,aK tb k],.agg #[.int .i64 (vk v),.int .i64 (vi v),.int .u64 0,.string ByteArray.empty,aK tb v]] w fun e' w'=>e'=.returned (.tuple #[])/\∃ ev' mv',M4 base tb t n o sz (es++[(k,v)]) ev' mv' w'/\Keeps w w' (fun c=>c=t∨ev.ownBlock=some c∨dx mv=some c)/\(∀ g,ev'.ownBlock=some g->ev.ownBlock=some g∨w.heap.size<=g)/\(∀ g,dx mv'=some g->dx mv=some g∨w.heap.size<=g):=by
 have HX:=ah ((d_ w tb k).keep (Keeps.of (aU (w.alloc (.cells (gG tb k) 143)) (.cells (gG tb v) 143)) (au _) (fun _=>False)) (fun x=>x));have HY:=ah (d_ (w.alloc (.cells (gG tb k) 143)) tb v);have HB:=ah ((aU w (.cells (gG tb k) 143)).trans ((aU (w.alloc (.cells (gG tb k) 143)) (.cells (gG tb v) 143)).mono (aU w (.cells (gG tb k) 143)).size));have hZ:(w.alloc (.cells (gG tb k) 143)).heap.size=w.heap.size+1:=aG _;rw [hZ] at HY;clear hZ;have f3:=x.r.lt;have HT:=ah x;have HD:=ah hd;have e4:=ah hk;have e3:=ah hs;have e0:=ah a7;have HV:=ah hv;have d7:t≠w.heap.size:=by omega
 have d6:t≠w.heap.size+1:=by omega
 clear x hd hk hs a7 hv;go_enter Tryz.func126,Tryz.ntmps126;go_upto_region 1 with (fail)
 change Code.wp _ _ _ _ ((w.alloc (.cells (gG tb k) 143)).alloc (.cells (gG tb v) 143));generalize (w.alloc (.cells (gG tb k) 143)).alloc (.cells (gG tb v) 143)=w2 at *;generalize hX:w.heap.size=X at *;have K2:=ah (Keeps.of HB.o (aO hX) (fun _=>False));have b5:=ah hX;clear hX;have G:=ah (HT.o.r.keep K2.o id);have a4:=ah (aj HT.o.e K2.o (fun _ _ e=>e));have a3:=ah (HT.o.m.keep K2.o (fun _ _ e=>e));have c8:w2.cell? ⟨t,8,none⟩=some mv:=G.o.c 8;have z8:=G.o.ME 8;have f0:=HY.o.lt;obtain ⟨B,d2,c0⟩:∃ B,(binOp .eql 132 mv (.map none)).run Tryz.prog w2=.ok (.bool B) w2/\Hq ((mv=.map none->B=true)/\∀ b,mv=.map (some b)->B=false):=by
  rcases a3.o with ⟨rfl,h0⟩|⟨b,J,a1,rfl,h,C⟩
  ·exact ⟨true,FN w2,ah ⟨fun _=>rfl,fun b c=>by cases c⟩⟩
  ·exact ⟨false,E9 b w2,ah ⟨fun c=>(by cases c),fun _ _=>rfl⟩⟩
 have d3:(eqGuard .eql 132 (.tmp 9) (.const (.map none)) mv (.map none)).run Tryz.prog w2=.ok () w2:=by
  rcases a3.o with ⟨rfl,h0⟩|⟨b,J,a1,rfl,h,C⟩
  ·exact Gg w2
  ·exact Gr b w2
 go_upto_if 10 with (fail)
 clear d2 d3
 go_cut [] (fun wc=>Hq (∃ b,ML base tb t n o sz es ev mv w X k v b wc))
 case first=>
  rcases a3.o with ⟨rfl,h0⟩|⟨b,J,a1,rfl,h,C⟩
  ·subst h0
   obtain rfl:=c0.o.1 rfl;have c9:=DU w2;have b8:=ah (kZ.new w2 0);have a5:=ah (aU w2 (.map #[] 0));have b0:Hq (w2.heap.size≠t):=ah (by have:=G.o.lt;omega);generalize w2.alloc (.map #[] 0)=w2a at *;obtain ⟨Y,P⟩:∃ Y,w2.heap.size=Y:=⟨_,rfl⟩
   have hY:w2.heap.size<=Y:=aO P;rw [P] at c9 b8 a5 b0;have d8:=ah P;clear P;have a2:=ah (G.o.keep (Keeps.of a5.o hY (fun _=>False)) id);have f4:w2a.cell? ⟨t,8,none⟩=some (.map none):=a2.o.c 8;have f1:=a2.o.ME 8;clear c8 z8;go_wp2_with fail;go_meet;have L:Keeps w2a (w2a.setCell ⟨t,8,none⟩ (.map (some Y))) (fun c=>c=t):=Keeps.setCell (S:=fun c=>c=t) (Keeps.refl w2a _) rfl _;have ka:=fun S=>Keeps.of a5.o hY S;refine ⟨Y,⟨(a2.o.set (j:=8) (by omega) _).congr (fun j hj=>dz (fun j=>(if j=8 then (.map (some Y):Value) else tV o n sz [] ev (.map none) j)=tV o n sz [] ev (.map (some Y)) j) rfl rfl rfl rfl rfl rfl rfl rfl rfl rfl rfl rfl rfl j hj),?_,b8.o.keep L b0.out,(HX.o.keep (ka fun _=>False) id).keep L (fun c=>d7 c.symm),(HY.o.keep (ka fun _=>False) id).keep L (fun c=>d6 c.symm),((K2.o.mono (fun _ e=>e.elim)).trans (ka _)).trans L,.inr (by rw [b5.o,<-d8.o];omega)⟩⟩;exact aj (aj a4.o (ka fun _=>False) (fun _ _ e=>e)) L (fun g hg c=>ak a4.o G.o (by decide) (c ▸ hg))
  ·obtain rfl:=c0.o.2 b rfl
   go_wp2_with fail;go_meet;exact ⟨b,G.o,a4.o,⟨J,a1,h,C.p⟩,HX.o,HY.o,K2.o.mono (fun _ e=>e.elim),.inl rfl⟩
 case rest=>
 rename World=>w3;obtain ⟨b,q⟩:=hcut.out;obtain ⟨A,s,d1,e7,-⟩:=iA q.e;subst d1;have HI:=ah q;have E:b≠X:=fun c=>by
  obtain ⟨en,ck,h,_⟩:=q.p;obtain ⟨a0,C,_⟩:=q.x;rw [c] at h;rw [C] at h;cases h
 have d5:b≠X+1:=fun c=>by
  obtain ⟨en,ck,h,_⟩:=q.p;obtain ⟨a0,C,_⟩:=q.y;rw [c] at h;rw [C] at h;cases h
 have N:b≠t:=fun c=>by
  obtain ⟨en,ck,h,_⟩:=q.p;obtain ⟨a0,C,_⟩:=q.r;rw [c] at h;rw [C] at h;cases h
 have b3:∀ g,(Value.slice A es.length s).ownBlock=some g->b≠g:=fun g hg c=>by
  obtain ⟨en,ck,h,_⟩:=q.p;obtain ⟨a0,C,_⟩:=ay q.e hg;rw [c] at h;rw [C] at h;cases h
 have c1:=ah b3;have b1:Hd tb w3 k:=by
  intro m hm;obtain ⟨f,h,C⟩:=HD.o m hm;by_cases c:tb m=t
  ·have h3:=HT.o.r.c 1
   have h4:=h.c 1;rw [c,h3] at h4;refine ⟨_,by rw [c];exact q.r,?_⟩;have h5:tV o n sz es (.slice A es.length s) mv 1=f 1:=by simpa using h4
   rw [<-C,<-h5];rfl
  ·exact ⟨f,h.keep q.k c,C⟩
 have d9:=ah (fun (w':World) (hb:Below w3.heap.size w3 w')=>(b1.low hb).c);have e2:=ah (fun (w':World) (hb:Below w3.heap.size w3 w')=>q.p.keep (Keeps.of hb (au _) (fun _=>False)) (fun e=>e));have D:=q.r.lt;have d:=q.x.lt;have c7:w3.cell? ⟨t,7,none⟩=some (.slice A es.length s):=q.r.c 7;have b4:w3.cell? ⟨t,8,none⟩=some (.map (some b)):=q.r.c 8;obtain ⟨x0,x1,x2,x3,x4⟩:NC w3 X tb k:=q.x.c5;clear hcut q b3 b1 c8 z8;go_wp2_with fail
 go_region_held3 (fun w'=>w'.cell? ⟨t,7,none⟩=some (.slice A es.length s)/\w'.cell? ⟨t,8,none⟩=some (.map (some b))/\w'.cell? ⟨X,0,none⟩=some (.int .i64 (vk k))/\w'.cell? ⟨X,1,none⟩=some (.int .i64 (vi k))/\w'.cell? ⟨X,2,none⟩=some (.int .u64 0)/\w'.cell? ⟨X,3,none⟩=some (.string ByteArray.empty)/\w'.cell? ⟨X,4,none⟩=some (aK tb k)) (go_keep)
  (first
    |(refine iD (.tmp 19) rfl tb k rfl (d9.o _ (aC (aT _ _) _)) ?_
      intro Q T;have l:Below w3.heap.size w3 Q:=(aC (aT w3.heap.size w3) _).trans T;have z:=ah l;have t0:=(l.cell (p:=⟨t,7,none⟩) D).trans c7;have t1:=(l.cell (p:=⟨t,8,none⟩) D).trans b4;have t2:=(l.cell (p:=⟨X,0,none⟩) d).trans x0;have t3:=(l.cell (p:=⟨X,1,none⟩) d).trans x1;have t4:=(l.cell (p:=⟨X,2,none⟩) d).trans x2;have t5:=(l.cell (p:=⟨X,3,none⟩) d).trans x3;have t6:=(l.cell (p:=⟨X,4,none⟩) d).trans x4;clear l T;obtain ⟨H,c3,a8,i,c4⟩:=AY (e2.o _ z.o) e4.o e3.o es.length;have u0:=(bM (a:=⟨t,7,none⟩) (i.block _ (aW D z.o.size) N.symm)).trans t0;have u1:=(bM (a:=⟨t,8,none⟩) (i.block _ (aW D z.o.size) N.symm)).trans t1;have u2:=(bM (a:=⟨X,0,none⟩) (i.block _ (aW d z.o.size) E.symm)).trans t2;have u3:=(bM (a:=⟨X,1,none⟩) (i.block _ (aW d z.o.size) E.symm)).trans t3;have u4:=(bM (a:=⟨X,2,none⟩) (i.block _ (aW d z.o.size) E.symm)).trans t4;have u5:=(bM (a:=⟨X,3,none⟩) (i.block _ (aW d z.o.size) E.symm)).trans t5;have u6:=(bM (a:=⟨X,4,none⟩) (i.block _ (aW d z.o.size) E.symm)).trans t6;have V:=ah (show kZ H b (fun k' j=>(k'=k/\j=es.length)∨(k'≠k/\mW es k' j))/\Keeps w3 H (fun c=>c=b) from ⟨a8,(Keeps.of z.o (au _) _).trans i⟩);clear a8 i c4)
    |fail)
 clear c3 c7 b4 x0 x1 x2 x3 x4 t0 t1 t2 t3 t4 t5 t6 u0 u1 u2 u3 u4 u5 u6;have K:=ah (HI.out.r.keep V.o.2 N.symm);have b9:=ah (aj HI.out.e V.o.2 (fun g hg c=>c1.o g hg c.symm));have b6:=ah (HI.out.x.keep V.o.2 E.symm);have F:=ah (HI.out.y.keep V.o.2 d5.symm);have c7:H.cell? ⟨t,7,none⟩=some (.slice A es.length s):=K.o.c 7;have z7:=K.o.ME 7;obtain ⟨x0,x1,x2,x3,x4⟩:NC H X tb k:=b6.o.c5;have y0:H.cell? ⟨X+1,0,none⟩=some (.int .i64 (vk v)):=F.o.c 0;have y1:H.cell? ⟨X+1,1,none⟩=some (.int .i64 (vi v)):=F.o.c 1;have y2:H.cell? ⟨X+1,2,none⟩=some (.int .u64 0):=F.o.c 2;have y3:H.cell? ⟨X+1,3,none⟩=some (.string ByteArray.empty):=F.o.c 3;have y4:H.cell? ⟨X+1,4,none⟩=some (aK tb v):=F.o.c 4;have b2:base<=H.heap.size:=aI d4 (aI (by rw [<-b5.o];exact HI.out.k.size) V.o.2.size);have e1:=ah b2;have e5:=K.o.lt;have e9:=b6.o.lt;have e8:=F.o.lt;go_wp2_with fail
 go_region_law (
  refine qW (wr:=H) (.tmp 30) (.tmp 34) 131 167 10 112 _ rfl Tryz.underlying131 Aq rfl (by decide) base (.slice A es.length s) es.length (jg tb es) (jG tb (k,v)) b9.o rfl rfl rfl (fun u hu=>(eT.1 hu).elim (wP tb k u) (wP tb v u)) (by omega) (by decide) e1.o ?_;intro v' Q Z W a6;obtain ⟨U,R,c2⟩:=aF Z;subst c2;have M:=K.o.keep W (fun e=>ak b9.o K.o (by decide) e);have f5:Q.cell? ⟨t,7,none⟩=some (.slice A es.length s):=M.c 7;have f2:=M.ME 7;have b7:=ah M;have H9:=ah (And.intro Z (And.intro W a6));clear Z W a6 M)
 all_goals
  go_wp2;go_end0;have L:Keeps Q (Q.setCell ⟨t,7,none⟩ (.slice U (es.length+1) R)) (fun c=>c=t):=Keeps.setCell (S:=fun c=>c=t) (Keeps.refl Q _) rfl _;have d0:(es++[(k,v)]).length=es.length+1:=by simp
  have hown:(Q.setCell ⟨t,7,none⟩ (.slice U (es.length+1) R)).ownsRow base 167 10 (.slice U (es.length+1) R) (es.length+1) (jg tb (es++[(k,v)])):=aj (by
   have:=H9.o.1;unfold jg at this ⊢;rw [List.flatMap_append]
   simpa using this) L (fun g hg c=>ak H9.o.1 b7.o (by decide) (c ▸ hg))
  have c6:kZ (Q.setCell ⟨t,7,none⟩ (.slice U (es.length+1) R)) b (mW (es++[(k,v)])):=((V.o.1.congr (fun k' j _=>BU e0.o k' j)).keep H9.o.2.1 (fun c=>c1.o b c rfl)).keep L N;refine ⟨rfl,.slice U (es.length+1) R,.map (some b),⟨?_,by rw [d0];exact hown,c6.a⟩,?_,fun g hg=>?_,fun g hg=>?_⟩
  ·refine (b7.o.set (j:=7) (by omega) (.slice U (es.length+1) R)).congr (fun j hj=>?_)
   refine dz (fun j=>(if j=7 then (.slice U (es.length+1) R:Value) else tV o n sz es (.slice A es.length s) (.map (some b)) j)=tV o n sz (es++[(k,v)]) (.slice U (es.length+1) R) (.map (some b)) j) rfl rfl rfl rfl rfl rfl rfl rfl rfl ?_ rfl rfl rfl j hj;simp [tV,yw es k HV.out]
  ·have kf:Keeps w H (fun c=>c=t∨(Value.slice A es.length s).ownBlock=some c∨dx mv=some c):=Keeps.fresh (HI.out.k.mono (fun c e=>Or.inl e)) V.o.2 (HI.out.b.imp (fun e=>Or.inr (Or.inr e)) id)
   exact (kf.trans (H9.o.2.1.mono (fun c e=>Or.inr (Or.inl e)))).trans (L.mono (fun c e=>Or.inl e))
  ·rcases H9.o.2.2 g hg with y|y
   ·exact .inl y
   ·right
    have h:=HI.out.k.size;have C:=V.o.2.size;omega
  ·simp [dx] at hg
   subst hg;exact HI.out.b
end Go.Proofs.YtbpcdfbmnklcjaaGreatDoor
