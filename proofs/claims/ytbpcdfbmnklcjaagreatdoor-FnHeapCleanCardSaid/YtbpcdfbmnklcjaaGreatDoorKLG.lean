import Derived.Test.YtbpcdfbmnklcjaaGreatDoorKLD
import Derived.Test.YtbpcdfbmnklcjaaGreatDoorKJQ1
import Derived.Test.YtbpcdfbmnklcjaaGreatDoorKJO
import Derived.Test.YtbpcdfbmnklcjaaGreatDoorKJR0
namespace Go.Proofs.YtbpcdfbmnklcjaaGreatDoor
open Go Go.RowKit
set_option linter.unusedVariables false
section
variable {P c i k n:Nat} {Q:Exit->Act->World->Prop} {a:Act} {ev mv rv v v':Value} {os:Array Oper} {rest:List Oper} {w w' w0 w7 wr ws ws':World}
def Oo (o:dA):dA:=(if o.1=5 then 9 else o.1,if o.1=1/\o.2.1=2 then 0 else o.2.1,o.2.2.1,o.2.2.2)
theorem OM (o:dA):OI (Oo o):=by
 unfold Oo OI;refine ⟨?_,fun h1=>?_⟩
 ·show (if o.1=5 then (9:Int) else o.1)≠5
  split
  ·decide
  ·assumption
 ·have b:(if o.1=5 then (9:Int) else o.1)=1:=h1
  show (if o.1=1/\o.2.1=2 then (0:Int) else o.2.1)≠2;split
  ·decide
  ·rename_i c
   split at b
   ·cases b
   ·exact fun e=>c ⟨b,e⟩
def Oj (l:List dA) (i:Nat):List dA:=(l.take i).map Oo++l.drop i
theorem OJ (l:List dA):Oj l 0=l:=by simp [Oj]
theorem OC (l:List dA):Oj l l.length=l.map Oo:=by simp [Oj]
theorem Oz {l:List dA} {o:dA} (h:l[i]?=some o):(Oj l i)[i]?=some o:=by
 have hi:=(aJ.1 h).1;unfold Oj;rw [fI (by simp;omega),bY,bf,Nat.min_eq_left (by omega),Nat.sub_self,List.getElem?_drop,Nat.add_zero,h]
theorem OL {l:List dA} {o:dA} (h:l[i]?=some o):Oj l (i+1)=(Oj l i).set i (Oo o):=by
 obtain ⟨hi,b⟩:=aJ.1 h;unfold Oj;rw [List.set_append_right _ _ (by simp;omega),bY,bf,Nat.min_eq_left (by omega),Nat.sub_self,List.take_add_one,h,Option.toList_some,List.map_append,List.append_assoc,List.drop_eq_getElem_cons hi];rfl
theorem NW {l:List dA} {o:dA} (h:l[i]?=some o):l.set i o=l:=by
 obtain ⟨hi,rfl⟩:=aJ.1 h;exact List.set_getElem_self hi
theorem N7 (x:Int):∀ {l:List dA} {i:Nat} {o:dA},l[i]?=some o->(nH l).set (i*4) (.int .i64 x)=nH (l.set i (x,o.2))
 |a::l,0,o,h=>by simp at h;subst h;rfl
 |a::l,i+1,o,h=>by
  have:=N7 x (l:=l) (i:=i) (o:=o) (by simpa using h);rw [show (i+1)*4=i*4+1+1+1+1 by omega];show nI a++(nH l).set (i*4) _=nI a++nH (l.set i _);rw [this]
theorem N8 (x:Int):∀ {l:List dA} {i:Nat} {o:dA},l[i]?=some o->(nH l).set (i*4+1) (.int .i64 x)=nH (l.set i (o.1,x,o.2.2))
 |a::l,0,o,h=>by simp at h;subst h;rfl
 |a::l,i+1,o,h=>by
  have:=N8 x (l:=l) (i:=i) (o:=o) (by simpa using h);rw [show (i+1)*4+1=i*4+1+1+1+1+1 by omega];show nI a++(nH l).set (i*4+1) _=nI a++nH (l.set i _);rw [this]
structure TU (w0:World) (a:Option Addr) (n c:Nat) (l:List dA) (ws:World):Prop where
 o:ws.ownsRow w0.heap.size 39 4 (.slice a n c) n (nH l)
 l:l.length=n
 b:Below w0.heap.size w0 ws
theorem TU.ops {a:Option Addr} {l:List dA} (x:TU w0 a n c l ws):xX ws (.slice a n c) l:=qO (by rw [x.l];exact x.o)
theorem TU.at {w0 ws:World} {n c i:Nat} {a:Option Addr} {l:List dA} {o:dA} (x:TU w0 a n c l ws) (h:l[i]?=some o):
 ∃ g,a=some ⟨g,0,none⟩/\n<=c/\ws.cell? ⟨g,i*4,none⟩=some (.int .i64 o.1)/\ws.cell? ⟨g,i*4+1,none⟩=some (.int .i64 o.2.1)/\(∀ j,ws.frozen? ⟨g,j,none⟩=false):=by
 obtain ⟨A,d,b,q,hO⟩:=x.ops;simp only [Value.slice.injEq] at b;obtain ⟨rfl,m,rfl⟩:=b;obtain ⟨g,rfl,p,f,e,_⟩:=hO i o h;exact ⟨g,rfl,by omega,f,e,(ay x.o (g:=g) (by simp [Value.ownBlock])).ME⟩
theorem TU.set0 {g:Nat} {l:List dA} {o:dA} (x:TU w0 (some ⟨g,0,none⟩) n c l ws) (h:l[i]?=some o) (v:Int):TU w0 (some ⟨g,0,none⟩) n c (l.set i (v,o.2)) (ws.setCell ⟨g,i*4,none⟩ (.int .i64 v)):=by
 have hi:=(aJ.1 h).1;have f:=x.l;have hk:Keeps ws (ws.setCell ⟨g,i*4,none⟩ (.int .i64 v)) (fun q=>q=g):=Keeps.setCell (S:=fun q=>q=g) (Keeps.refl ws _) rfl _;have d:=aL x.o (i:=i*4) (by omega) (.int .i64 v);rw [N7 v h] at d;exact ⟨d,by rw [bX];exact f,x.b.trans (hk.below x.b.size (fun q e=>e ▸ (x.o.lt g (by simp [Value.ownBlock])).1))⟩
theorem TU.set1 {g:Nat} {l:List dA} {o:dA} (x:TU w0 (some ⟨g,0,none⟩) n c l ws) (h:l[i]?=some o) (v:Int):TU w0 (some ⟨g,0,none⟩) n c (l.set i (o.1,v,o.2.2)) (ws.setCell ⟨g,i*4+1,none⟩ (.int .i64 v)):=by
 have hi:=(aJ.1 h).1;have f:=x.l;have hk:Keeps ws (ws.setCell ⟨g,i*4+1,none⟩ (.int .i64 v)) (fun q=>q=g):=Keeps.setCell (S:=fun q=>q=g) (Keeps.refl ws _) rfl _;have d:=aL x.o (i:=i*4+1) (by omega) (.int .i64 v);rw [N8 v h] at d;exact ⟨d,by rw [bX];exact f,x.b.trans (hk.below x.b.size (fun q e=>e ▸ (x.o.lt g (by simp [Value.ownBlock])).1))⟩
theorem TU.low {a:Option Addr} {l:List dA} (x:TU w0 a n c l ws) (h:Below ws.heap.size ws ws'):TU w0 a n c l ws':=
 ⟨aj x.o (Keeps.of h (au _) (fun _=>False)) (fun _ _ e=>e),x.l,x.b.trans (h.mono x.b.size)⟩
theorem NJ {o:Oper} (B:o.guard=none) (s x:Operand)
 (ho:o.op=.call { callee:=.builtin .append,args:=#[s,x],argTypes:=#[23,23] })
 (base:Nat) (v:Value) (n g D m:Nat) (l d:List dA) (hown:wr.ownsRow base 39 4 v n (nH l)) (L:a.eval s=v) (hx:a.eval x=.slice (some ⟨g,0,none⟩) m D) (hm:d.length=m) (R:xX wr (.slice (some ⟨g,0,none⟩) m D) d) (S:1<=m) (G:n+m<=10000) (f:base<=wr.heap.size)
 (h:∀ v' w',w'.ownsRow base 39 4 v' (n+m) (nH (l++d))->Keeps wr w' (fun b=>v.ownBlock=some b)->wpList Tryz.prog os Q rest (a.put o.dst v') w'):
 wpList Tryz.prog os Q (o::rest) a wr:=by
 subst hm;obtain ⟨K,hi,z,y,t⟩:=info_parts fV;obtain ⟨A,T,F,H,hO⟩:=R;simp only [Value.slice.injEq] at F;obtain ⟨rfl,-,rfl⟩:=F;refine jf _ B s x 23 ho base 39 K _ 4 32 Tryz.underlying23 hi z y t rfl (by decide) v n (nH l) L hown ⟨g,0,none⟩ d.length D (nH d) hx (Cj d)
  (fun j u hj=>?_) (fun u hu=>?_) (by unfold maxLen;omega) (by omega) f S ?_
 ·rw [bL,Nat.zero_add]
  have M:j<d.length*4:=by rw [<-Cj];exact (aJ.1 hj).1
  have r:j/4<d.length:=by omega
  obtain ⟨Y,e,_,W,V,C,U⟩:=hO (j/4) d[j/4] (aN r);cases e;have p:=zH (aN r);have:j=j/4*4∨j=j/4*4+1∨j=j/4*4+2∨j=j/4*4+3:=by omega
  rcases this with e|e|e|e
  ·rw [e] at hj ⊢;rw [show j/4*4=j/4*4+0 from rfl,p 0 _ rfl] at hj;cases hj;exact W
  ·rw [e] at hj ⊢;rw [p 1 _ rfl] at hj;cases hj;exact V
  ·rw [e] at hj ⊢;rw [p 2 _ rfl] at hj;cases hj;exact C
  ·rw [e] at hj ⊢;rw [p 3 _ rfl] at hj;cases hj;exact U
 ·obtain ⟨e,_,N⟩:=List.mem_flatMap.1 hu
  exact f_ e u N
 ·intro v' w' J E X
  refine h v' w' (by rw [show nH (l++d)=nH l++nH d by simp [nH]];exact J) ?_;have hb:=(aT base wr).grown E f (fun q r=>(hown.lt q r).1);exact ⟨hb.os,hb.tape,hb.output,hb.size,fun q r hn=>E.block q r (fun e=>hn e.symm)⟩
theorem TU.app {a:Option Addr} {l l2:List dA} (x:TU w0 a n c l ws) (hk:l2.length=k) (d:w'.ownsRow w0.heap.size 39 4 v' (n+k) (nH (l++l2))) (e:Keeps ws w' (fun b=>(Value.slice a n c).ownBlock=some b)):
 ∃ a' c',v'=.slice a' (n+k) c'/\TU w0 a' (n+k) c' (l++l2) w':=by
 obtain ⟨a',c',rfl⟩:=aF d;exact ⟨a',c',rfl,d,by rw [bI,hk,x.l],x.b.trans (e.below x.b.size (fun g hg=>(x.o.lt g hg).1))⟩
theorem Oh (w:World) (l:List dA) (b:l.length<=100):xX (w.alloc (.cells (nH l).toArray 39)) (.slice (some ⟨w.heap.size,0,none⟩) l.length l.length) l:=by
 refine qO (base:=w.heap.size) ⟨Cj l,.inr ⟨w.heap.size,l.length,(nH l).toArray,rfl,au _,heap_alloc_new w _,au _,by unfold maxLen;omega,(List.size_toArray).trans (Cj l),?_⟩⟩;rw [<-Cj];exact bN
theorem Oi (w:World):(w.alloc (.cells #[] 39)).ownsRow w.heap.size 39 4 (.slice (some ⟨w.heap.size,0,none⟩) 0 0) 0 (nH []):=⟨rfl,.inr ⟨w.heap.size,0,#[],rfl,au _,heap_alloc_new w _,by decide,by decide,rfl,rfl⟩⟩
structure CL (w7:World) (P:Nat) (ops:List dA) (i:Nat) (mv rv ev:Value) (ws:World):Prop where
 bk:Nj w7.heap.size ws P (Oa ops i) mv rv ev
 el:(Oa ops i).edges.length<=i
 bl:Below w7.heap.size w7 ws
theorem CL.low {w7 ws ws':World} {P i:Nat} {ops:List dA} {mv rv ev:Value} (x:CL w7 P ops i mv rv ev ws) (h:Below ws.heap.size ws ws'):CL w7 P ops i mv rv ev ws':=⟨x.bk.low h,x.el,x.bl.trans (h.mono x.bl.size)⟩
theorem CL.no {ops:List dA} {o:dA} (x:CL w7 P ops i mv rv ev ws) (ho:ops[i]?=some o) (b:(cK (cZ (ops.take i)).2 o.1 o.2.1 o.2.2.1 o.2.2.2).1.code≠0):CL w7 P ops (i+1) mv rv ev ws:=by
 have e:Oa ops (i+1)=Oa ops i:=by rw [NI ho,if_neg b]
 exact ⟨by rw [e];exact x.bk,by rw [e];exact Nat.le_succ_of_le x.el,x.bl⟩
theorem CL.act {w7 ws w':World} {P i:Nat} {ops:List dA} {mv rv ev:Value} {o:dA} {e:Ending} (x:CL w7 P ops i mv rv ev ws) (ho:ops[i]?=some o) (d:(cK (cZ (ops.take i)).2 o.1 o.2.1 o.2.2.1 o.2.2.2).1.code=0)
 (h:uH w7.heap.size P ((Oa ops i).act o.1 o.2.1 o.2.2.1 o.2.2.2) mv rv ev ws e w'):e=.returned (.tuple #[])/\∃ mv' rv' ev',CL w7 P ops (i+1) mv' rv' ev' w':=by
 obtain ⟨l,mv',rv',ev',j,f⟩:=h;have b:Oa ops (i+1)=(Oa ops i).act o.1 o.2.1 o.2.2.1 o.2.2.2:=by rw [NI ho,if_pos d]
 exact ⟨l,mv',rv',ev',by rw [b];exact j,by rw [b];exact aI (CF _ _ _ _ _) (Nat.succ_le_succ x.el),x.bl.trans (f.k.below x.bl.size (fun g hg=>(x.bk.zl hg).1))⟩
theorem CL.new (w:World) (ops:List dA):
 CL w (w.heap.size+1+1) ops 0 (.slice (some ⟨w.heap.size,0,none⟩) 1 1) (.slice (some ⟨w.heap.size+1,0,none⟩) 1 1) (.slice none 0 0)
  (((w.alloc (.cells #[.int .i64 0] 3)).alloc (.cells #[.bool false] 4)).alloc (.cells #[.slice (some ⟨w.heap.size,0,none⟩) 1 1,.slice (some ⟨w.heap.size+1,0,none⟩) 1 1,.slice none 0 0] 34)):=by
 have s1:(w.alloc (.cells #[.int .i64 0] 3)).heap.size=w.heap.size+1:=by simp
 have m:(w.alloc (.cells #[.int .i64 0] 3)).ownsRow w.heap.size 3 1 (.slice (some ⟨w.heap.size,0,none⟩) 1 1) 1 (iL [0]):=⟨rfl,.inr ⟨w.heap.size,1,#[.int .i64 0],rfl,au _,heap_alloc_new w _,by decide,by decide,rfl,rfl⟩⟩
 have f:=aU w (.cells #[.int .i64 0] 3);generalize w.alloc (.cells #[.int .i64 0] 3)=wa at *;have s2:(wa.alloc (.cells #[.bool false] 4)).heap.size=w.heap.size+1+1:=by rw [<-s1];simp
 have o2:(wa.alloc (.cells #[.bool false] 4)).ownsRow w.heap.size 4 1 (.slice (some ⟨w.heap.size+1,0,none⟩) 1 1) 1 (iQ [false]):=⟨rfl,.inr ⟨w.heap.size+1,1,#[.bool false],rfl,by omega,by rw [<-s1];exact heap_alloc_new wa _,by decide,by decide,rfl,rfl⟩⟩
 have d:=aU wa (.cells #[.bool false] 4);have l:=aj m (Keeps.of d (au _) (fun _=>False)) (fun _ _ e=>e);generalize wa.alloc (.cells #[.bool false] 4)=wb at *;have g:=aD.mk' wb 34 #[.slice (some ⟨w.heap.size,0,none⟩) 1 1,.slice (some ⟨w.heap.size+1,0,none⟩) 1 1,.slice none 0 0];have b:=aU wb (.cells #[.slice (some ⟨w.heap.size,0,none⟩) 1 1,.slice (some ⟨w.heap.size+1,0,none⟩) 1 1,.slice none 0 0] 34);have h:=Keeps.of b (au _) (fun _=>False);rw [s2] at g;refine ⟨⟨?_,aj l h (fun _ _ e=>e),aj o2 h (fun _ _ e=>e),⟨rfl,.inl ⟨rfl,rfl⟩⟩,by omega⟩,au _,(f.trans (d.mono (by omega))).trans (b.mono (by omega))⟩;refine aD.congr (show aD _ _ _ 3 _ from g) (fun j hj=>?_);have:j=0∨j=1∨j=2:=by omega
 rcases this with rfl|rfl|rfl<;>rfl
theorem OQ {ops:List dA} (b:xX w v ops) (d:ops.length<=5000):Calls Tryz.prog 7 #[v] w fun e w'=>Below w.heap.size w w'/\∃ aA kA fs,e=.returned (.agg #[.int .i64 (Bt ops),.slice aA ops.length kA])/\J7 w' w.heap.size (.slice aA (dZ ops).length kA) (dZ ops) fs:=by
 have h:=yU b (by omega);rw [Ay d] at h ⊢;exact h
theorem OO {ops:List dA} (b:xX w v ops) (d:ops.length<=5000) (f:∀ o∈ops,-9223372036854775808<=o.2.2.1/\o.2.2.1<=9223372036854775807):Calls Tryz.prog 8 #[v] w fun e w'=>Below w.heap.size w w'/\∃ aA kA fs,e=.returned (.agg #[.int .i64 (Bt ops),.slice aA ops.length kA])/\J7 w' w.heap.size (.slice aA (dZ ops).length kA) (dZ ops) fs:=by
 have h:=Ak b (by omega) f;rw [Ay d] at h ⊢;refine h.mono ?_;rintro e w' ⟨l,aA,kA,fs,j,g,_⟩;exact ⟨l,aA,kA,fs,j,g⟩
end
set_option maxHeartbeats 6400000
set_option maxRecDepth 100000
section
variable {m n:Nat} {v:Value} {w w1:World}
theorem iy.over {f:Nat->Nat} (h:iy w.heap.size w v n f) (hb:Below w.heap.size w w1):iy w1.heap.size w1 v n f:=by
 rcases h.keep (Keeps.of hb (au _) (fun _=>False)) (au _) (fun _ e=>e.elim) with c|⟨b,o,a,i,g,d⟩
 ·exact .inl c
 ·exact .inr ⟨b,o,a,i,aW g hb.size,d⟩
theorem NU {u:Value} {f q:Nat->Nat} (h:iy w.heap.size w v n f) (h':iy w.heap.size w u m q) (h9:n<=9223372036854775807) (k6:m<=9223372036854775807):
 Calls Tryz.prog 4 #[v,u] w fun e w'=>e=.returned (.bool true)/\Below w.heap.size w w':=by
 obtain ⟨a,k8,rfl⟩:=h.form;obtain ⟨l1,k9,rfl⟩:=h'.form;by_cases hn:n<=1048576
 case neg=>
  have i3:((n:Int) > 1048576):=by omega
  clear h h';go_enter Tryz.func4,Tryz.ntmps4;go_wp2;go_ret;exact ⟨rfl,aT _ _⟩
 have i3:¬ ((n:Int) > 1048576):=by omega
 by_cases hm:m<=1048576
 case neg=>
  have i4:((m:Int) > 1048576):=by omega
  clear h h';go_enter Tryz.func4,Tryz.ntmps4;go_wp2;go_ret;exact ⟨rfl,aT _ _⟩
 have i4:¬ ((m:Int) > 1048576):=by omega
 have HU:=ah (fun (w1:World) (hb:Below w.heap.size w w1)=>Am (h'.over hb) hm);have HD:=ah (Dh h hn);have g7:=ah (vB f n);have g8:=ah (NV f n);unfold Gy at HD;generalize d9:gQ f n=ops at *;clear d9 h h';go_enter Tryz.func4,Tryz.ntmps4;go_wp2_with fail;refine HD.o.mono ?_;rintro e w1 ⟨j8,rfl,a3,a4⟩;obtain ⟨a1,k1,rfl⟩:=aF a3;clear HD;by_cases hl:ops.length<=4998
 case neg=>
  have e8:((ops.length:Int) > 4998):=by omega
  have HB:=ah a4;clear a3 a4;go_wp2;go_ret;exact ⟨rfl,HB.o⟩
 have e8:¬ ((ops.length:Int) > 4998):=by omega
 have f1:ops.length<=1600:=g8.o hl;have H1:Hq (TU w a1 ops.length k1 (Oj ops 0) w1):=ah ⟨by rw [OJ];exact a3,by rw [OJ],a4⟩;clear a3 a4 g8;generalize e7:ops.length=N at *;have HN:=ah e7;clear e7;go_wp2_with fail;go_loopw [31] (fun iv ws=>∃ i:Nat,i<=N/\iv=.int .i64 (i:Int)/\Hq (TU w a1 N k1 (Oj ops i) ws)) (fun iv _=>N-bF iv)
 case atStart=>exact ⟨0,by omega,rfl,H1.o⟩
 case round=>
  clear H1;obtain ⟨i,i9,rfl,F⟩:=hrel;by_cases f3:i<N
  ·have f4:((i:Int)<(N:Int)):=by omega
   obtain ⟨o,ho⟩:∃ o,ops[i]?=some o:=⟨_,aN (by rw [HN.o];exact f3)⟩
   obtain ⟨o0,o1,o2,o3⟩:=o;obtain ⟨g,rfl,j1,c0,A,c4⟩:=F.o.at (Oz ho);have c0:wr.cell? ⟨g,i*4,none⟩=some (.int .i64 o0):=c0;have A:wr.cell? ⟨g,i*4+1,none⟩=some (.int .i64 o1):=A;have z0:=c4 (i*4);have z1:=c4 (i*4+1);have HT:=ah (OL ho);have HA:=ah (Oz ho);clear c4 ho;have HR:Hq (∀ (y0 y1:Int) (ws:World),TU w (some ⟨g,0,none⟩) N k1 ((Oj ops i).set i (y0,y1,o2,o3)) ws->Oo (o0,o1,o2,o3)=(y0,y1,o2,o3)->TU w (some ⟨g,0,none⟩) N k1 (Oj ops (i+1)) ws):=ah (fun y0 y1 ws x e=>by rw [HT.o,e];exact x);clear HT;by_cases hk:o0=1
   ·subst hk
    by_cases hA:o1=2
    ·subst hA
     have HS:=ah (HR.o 1 0 _ (F.o.set1 HA.o 0) rfl);have l0:(wr.setCell ⟨g,i*4+1,none⟩ (.int .i64 0)).cell? ⟨g,i*4,none⟩=some (.int .i64 1):=by rw [Nz _ _ _ _ (by intro e;have:=congrArg Addr.off e;simp at this)];exact c0
     clear F HR HA;go_wp2;go_roundw
     ·exact ⟨i+1,by omega,by simp,HS.o⟩
     ·simp [bF];omega
    ·have k5:(o1==2)=false:=by simp [hA]
     have HS:=ah (HR.o 1 o1 wr (by rw [NW HA.o];exact F.o) (by simp [Oo,hA]));clear F HR HA hA;go_wp2;go_roundw
     ·exact ⟨i+1,by omega,by simp,HS.o⟩
     ·simp [bF];omega
   ·have i6:(o0==1)=false:=by simp [hk]
    by_cases h5:o0=5
    ·subst h5
     have HS:=ah (HR.o 9 o1 _ (F.o.set0 HA.o 9) rfl);clear F HR HA hk i6;go_wp2;go_roundw
     ·exact ⟨i+1,by omega,by simp,HS.o⟩
     ·simp [bF];omega
    ·have k7:(o0==5)=false:=by simp [h5]
     have HS:=ah (HR.o o0 o1 wr (by rw [NW HA.o];exact F.o) (by simp [Oo,hk,h5]));clear F HR HA hk h5;go_wp2;go_roundw
     ·exact ⟨i+1,by omega,by simp,HS.o⟩
     ·simp [bF];omega
  ·have f4:¬ ((i:Int)<(N:Int)):=by omega
   have Q:Hq (TU w a1 N k1 (ops.map Oo) wr):=ah (by
    have:=F.o;rw [show i=ops.length by rw [HN.o];omega,OC] at this;exact this)
   have HT:Hq ((∀ o∈ops.map Oo,OI o)/\(∀ o∈ops.map Oo,-9223372036854775808<=o.2.2.1/\o.2.2.1<=9223372036854775807)):=ah ⟨fun o ho=>by
    obtain ⟨p,_,rfl⟩:=List.mem_map.1 ho;exact OM p,fun o ho=>by
    obtain ⟨p,hp,rfl⟩:=List.mem_map.1 ho;have:=g7.o.1 p hp;show -9223372036854775808<=p.2.2.1/\p.2.2.1<=9223372036854775807;omega⟩
   clear F g7 HN;generalize ops.map Oo=T at *;clear i9 f3;go_wp2_with fail;refine (HU.o wr Q.o.b).mono ?_;rintro e w2 ⟨rfl,hd⟩;clear HU;go_wp2_with fail;refine (uT 2 (by omega) (by omega) (Dn.refl hd.out.1)).mono ?_;rintro e w3 ⟨d,s',rfl,_,f6⟩;have r:=ah (Q.o.low (hd.out.2.trans (f6.out.2.below hd.out.2.size (fun q e=>aO e.symm))));clear Q hd f6
   go_upto_if 65 with (fail)
   go_cut [5] (fun v wc=>∃ (a':Option Addr) (n' c':Nat),v=.slice a' n' c'/\Hq (TU w a' n' c' (T++Nv d) wc))
   case first=>
    cases d with
    |true=>
     have HX:=ah (r.o.low (aU w3 (.cells #[.int .i64 7,.int .i64 0,.int .i64 0,.int .i64 0] 39)));have HY:=ah (Oh w3 [((7,0,0,0):dA)] (by decide));go_wp2_with (first
      |(at_builtin
        refine NJ rfl (.tmp 66) (.tmp 68) rfl w.heap.size (.slice a1 N k1) N w3.heap.size 1 1 T [(7,0,0,0)] HX.o.o rfl rfl rfl HY.o (by decide) (by omega) HX.o.b.size ?_;intro v' S p1 p2;obtain ⟨a5,c5,rfl,x5⟩:=HX.o.app rfl p1 p2;have H5:=ah x5;clear p1 p2 x5)
      |go_in)
     go_wp2_with fail;go_meet;exact ⟨a5,_,c5,rfl,H5.o⟩
    |false=>
     have HX:=ah (r.o.low (aU w3 (.cells #[.int .i64 6,.int .i64 1000000,.int .i64 0,.int .i64 0,.int .i64 6,.int .i64 1000000,.int .i64 0,.int .i64 0] 39)));have HY:=ah (Oh w3 [((6,1000000,0,0):dA),(6,1000000,0,0)] (by decide));go_wp2_with (first
      |(at_builtin
        refine NJ rfl (.tmp 70) (.tmp 73) rfl w.heap.size (.slice a1 N k1) N w3.heap.size 2 2 T [(6,1000000,0,0),(6,1000000,0,0)] HX.o.o rfl rfl rfl HY.o (by decide) (by omega) HX.o.b.size ?_;intro v' S p1 p2;obtain ⟨a5,c5,rfl,x5⟩:=HX.o.app rfl p1 p2;have H5:=ah x5;clear p1 p2 x5)
      |go_in)
     go_wp2_with fail;go_meet;exact ⟨a5,_,c5,rfl,H5.o⟩
   case rest=>
   obtain ⟨a5,n5,c5,rfl,H5⟩:=hcut;rename World=>S;obtain rfl:T.length=N:=r.o.l;clear r e8 f4;have Z:=ah (Od f1 HT.o.1 d);have d2:Hq ((∀ o∈T++Nv d,OI o)/\∀ o∈T++Nv d,-9223372036854775808<=o.2.2.1/\o.2.2.1<=9223372036854775807):=ah ⟨fun o ho=>(eT.1 ho).elim (HT.o.1 o) (Og d o),fun o ho=>(eT.1 ho).elim (HT.o.2 o) (fun h=>by
    cases d<;>simp [Nv] at h<;>subst h<;>decide)⟩
   have e9:1<=(T++Nv d).length/\(T++Nv d).length<=1602:=by
    have:=N_ d;rw [bI];omega
   generalize T++Nv d=os at *;obtain rfl:os.length=n5:=H5.o.l;clear HT hl f1;obtain ⟨g5,rfl,k4,i1⟩:=H5.o.at (i:=0) (aN (by omega));clear i1;have V:=ah (Oi S);have a2:=ah (H5.o.low (aU S (.cells #[] 39)));go_wp2_with (first
    |(at_builtin
      refine NJ rfl (.tmp 75) (.tmp 76) rfl S.heap.size (.slice (some ⟨S.heap.size,0,none⟩) 0 0) 0 g5 c5 os.length [] os V.o rfl rfl rfl a2.o.ops e9.1 (by omega) (aU S _).size ?_;intro v' w6 p1 p2;rw [Nat.zero_add] at p1;have g0:Below S.heap.size S w6:=(aU S (.cells #[] 39)).trans (p2.below (aU S (.cells #[] 39)).size (fun g hg=>by simp [Value.ownBlock] at hg;omega));have H6:=ah (show xX w6 v' os/\TU w (some ⟨g5,0,none⟩) os.length c5 os w6 from ⟨qO (base:=S.heap.size) p1,H5.o.low g0⟩);obtain ⟨a6,c6,rfl⟩:=aF p1;clear p1 p2 g0)
    |fail)
   clear V a2;refine (OQ H6.o.1 (by omega)).mono ?_;rintro e C ⟨f9,aA,kA,fs,rfl,e6⟩;have K:=aU C (.cells #[.int .i64 (Bt os),.slice aA os.length kA] 27);have H7:=ah (show J7 _ w6.heap.size (.slice aA (dZ os).length kA) (dZ os) fs/\aD _ 27 C.heap.size 2 _/\TU w (some ⟨g5,0,none⟩) os.length c5 os _ from
    ⟨e6.keep (Keeps.of K (au _) (fun _=>False)) (fun _ e=>e.elim),xO C (Bt os) aA os.length kA,(H6.o.2.low f9).low K⟩)
   clear f9 e6 K H6 H5;go_upto_region 18 with (fail)
   generalize C.alloc (.cells #[.int .i64 (Bt os),.slice aA os.length kA] 27)=w8 at *;generalize C.heap.size=PW at *;generalize w6.heap.size=B6 at *;have V:=ah (Oi w8);have a2:=ah (H7.o.2.2.low (aU w8 (.cells #[] 39)));go_wp2_with (first
    |(at_builtin
      refine NJ rfl (.tmp 79) (.tmp 80) rfl w8.heap.size (.slice (some ⟨w8.heap.size,0,none⟩) 0 0) 0 g5 c5 os.length [] os V.o rfl rfl rfl a2.o.ops e9.1 (by omega) (aU w8 _).size ?_;intro v' w9 p1 p2;rw [Nat.zero_add] at p1;have f8:Below w8.heap.size w8 w9:=(aU w8 (.cells #[] 39)).trans (p2.below (aU w8 (.cells #[] 39)).size (fun g hg=>by simp [Value.ownBlock] at hg;omega));have H9:=ah (show xX w9 v' os/\Below w8.heap.size w8 w9 from ⟨qO (base:=w8.heap.size) p1,f8⟩);obtain ⟨a9,c9,rfl⟩:=aF p1;clear p1 p2 f8)
    |fail)
   clear V a2;refine (OO H9.o.1 (by omega) d2.o.2).mono ?_;rintro e wa ⟨K,aB,kB,g3,rfl,e3⟩;have c8:=aU wa (.cells #[.int .i64 (Bt os),.slice aB os.length kB] 27);have G:=ah (show J7 _ w9.heap.size (.slice aB (dZ os).length kB) (dZ os) g3/\aD _ 27 wa.heap.size 2 _/\Below w8.heap.size w8 _ from
    ⟨e3.keep (Keeps.of c8 (au _) (fun _=>False)) (fun _ e=>e.elim),xO wa (Bt os) aB os.length kB,(H9.o.2.trans (K.mono H9.o.2.size)).trans (c8.mono (aI H9.o.2.size K.size))⟩)
   clear K e3 c8 H9;go_upto_region 19 with (fail)
   generalize wa.alloc (.cells #[.int .i64 (Bt os),.slice aB os.length kB] 27)=C at *;generalize wa.heap.size=PG at *;generalize w9.heap.size=B9 at *;have D:=Ay (ops:=os) (by omega);have a0:Hq (LK C os (some ⟨g5,0,none⟩) c5 PW PG aA kA aB kB fs g3):=ah (by
    have g2:PW<w8.heap.size:=H7.o.2.1.lt;have i0:=Keeps.of G.o.2.2 (au _) (fun _=>False);exact ⟨(H7.o.2.2.low G.o.2.2).ops,by rw [D];exact (H7.o.2.1.low G.o.2.2 g2).c 1,by rw [D];exact G.o.2.1.c 1,⟨aW g2 G.o.2.2.size,G.o.2.1.lt⟩,⟨_,H7.o.1.keep i0 (fun _ e=>e.elim)⟩,⟨_,G.o.1⟩⟩)
   have h4:Hq (Below w.heap.size w C):=ah (H7.o.2.2.low G.o.2.2).b;have p1:C.cell? ⟨PW,1,none⟩=some (.slice aA os.length kA):=by have:=a0.o.p1;rwa [D] at this
   have q1:C.cell? ⟨PG,1,none⟩=some (.slice aB os.length kB):=by have:=a0.o.q1;rwa [D] at this
   have h7:(((C.alloc (.cells #[.int .i64 0] 3)).alloc (.cells #[.bool false] 4)).alloc (.cells #[.slice (some ⟨C.heap.size,0,none⟩) 1 1,.slice (some ⟨C.heap.size+1,0,none⟩) 1 1,.slice none 0 0] 34)).cell? ⟨PG,1,none⟩=some (.slice aB os.length kB):=((CL.new C os).bl.cell (p:=⟨PG,1,none⟩) a0.o.pl.2).trans q1;have g4:=ah (CL.new C os);have a7:=ah D;clear H7 G D;go_upto_region 22 with (fail)
   clear p1 q1;generalize ((C.alloc (.cells #[.int .i64 0] 3)).alloc (.cells #[.bool false] 4)).alloc (.cells #[.slice (some ⟨C.heap.size,0,none⟩) 1 1,.slice (some ⟨C.heap.size+1,0,none⟩) 1 1,.slice none 0 0] 34)=w8 at *;generalize C.heap.size+1+1=P at *;generalize hM:os.length=M at *;have HM:=ah hM;clear hM;go_wp2_with fail;clear h7;go_loopw [104] (fun iv ws=>∃ (j:Nat) (mv rv ev:Value),j<=M/\iv=.int .i64 (j:Int)/\Hq (CL C P os j mv rv ev ws)) (fun iv _=>M-bF iv)
   case atStart=>exact ⟨0,_,_,_,by omega,rfl,g4.o⟩
   case round=>
    clear g4;obtain ⟨j,mv,rv,ev,k2,rfl,F⟩:=hrel;have b7:=ah (Oy (l:=os) (by have:=HM.o;omega) d2.o.1 j (by have:=HM.o;omega));by_cases i7:j<M
    ·have i8:((j:Int)<(M:Int)):=by omega
     obtain ⟨o,an,gO,gA,H,af,y,cf,s,rd⟩:=a0.o.at (i:=j) (by rw [a7.o];exact i7);obtain ⟨cd,t,L,z,W,X,fl⟩:=an;have eA:=rd.eA;have eB:=rd.eB;obtain rfl:gO=g5:=by have:=rd.e1;simp at this;exact this.symm
     subst eA eB;have B:=ah rd;clear rd;have A:=B.o.c wr F.o.bl;have b0:wr.cell? ⟨H,j*7,none⟩=some (.int .i64 cd):=A.b0;have b1:wr.cell? ⟨H,j*7+1,none⟩=some (.int .i64 t):=A.b1;have b2:wr.cell? ⟨H,j*7+2,none⟩=some (.int .i64 L):=A.b2;have b3:wr.cell? ⟨H,j*7+3,none⟩=some (.int .i64 z):=A.b3;have b4:wr.cell? ⟨H,j*7+4,none⟩=some (.int .i64 W):=A.b4;have b5:wr.cell? ⟨H,j*7+5,none⟩=some (.int .i64 X):=A.b5;have b6:wr.cell? ⟨H,j*7+6,none⟩=some (.slice y fl.length s):=A.b6;clear A;have V:=ah (show aD _ 36 wr.heap.size 7 (GA cd t L z W X (.slice y fl.length s)) from aD.mk' wr 36 #[.int .i64 cd,.int .i64 t,.int .i64 L,.int .i64 z,.int .i64 W,.int .i64 X,.slice y fl.length s]);have Q:=ah (F.o.low (aU wr (.cells #[.int .i64 cd,.int .i64 t,.int .i64 L,.int .i64 z,.int .i64 W,.int .i64 X,.slice y fl.length s] 36)));clear F;go_upto_region 25 with (fail)
     clear b0 b1 b2 b3 b4 b5 b6;generalize wr.alloc (.cells #[.int .i64 cd,.int .i64 t,.int .i64 L,.int .i64 z,.int .i64 W,.int .i64 X,.slice y fl.length s] 36)=w2 at *;generalize wr.heap.size=Y at *;have e0:w2.cell? ⟨Y,0,none⟩=some (.int .i64 cd):=V.o.c 0;have c2:=B.o.c w2 Q.o.bl;have p1:w2.cell? ⟨PW,1,none⟩=some (.slice (some ⟨gA,0,none⟩) M kA):=by have:=c2.p1;rw [a7.o] at this;exact this
     have f0:w2.cell? ⟨gA,j*7,none⟩=some (.int .i64 cd):=c2.A0;clear c2;go_wp2_with fail;go_quiet (fail);have r:=ah (Q.o.low (aC (aT _ _) nq));have g9:=ah (show aD (w2.drewN nq) 36 Y 7 _ from V.o);clear e0 p1 f0 Q V;generalize w2.drewN nq=w3 at *;have e0:w3.cell? ⟨Y,0,none⟩=some (.int .i64 cd):=g9.o.c 0;by_cases hc:cd=0
     ·subst hc
      have c3:=B.o.c w3 r.o.bl;have o0:w3.cell? ⟨gO,j*4,none⟩=some (.int .i64 o.1):=c3.o0;have o1:w3.cell? ⟨gO,j*4+1,none⟩=some (.int .i64 o.2.1):=c3.o1;have o2:w3.cell? ⟨gO,j*4+2,none⟩=some (.int .i64 o.2.2.1):=c3.o2;have o3:w3.cell? ⟨gO,j*4+3,none⟩=some (.int .i64 o.2.2.2):=c3.o3;clear c3;have d3:=ah (show (cK (cZ (os.take j)).2 o.1 o.2.1 o.2.2.1 o.2.2.2).1.code=0 by rw [B.o.hx]);have HY:=ah (b7.o.x.yes (by omega) d3.o);have h0:=ah (Cu o.1 o.2.1 o.2.2.1 o.2.2.2 r.o.bk r.o.bl.size HY.o.1 HY.o.2.1 HY.o.2.2.1 (by have:=b7.o.x.ok.b.len;omega) (aI r.o.el (by omega)));go_wp2_with fail;refine h0.o.mono ?_;intro e w4 ha;obtain ⟨rfl,h8,h6,j2,s4⟩:=r.o.act B.o.ho d3.o ha;have j3:=ah s4;clear s4 ha h0 HY d3 r g9 o0 o1 o2 o3 e0;go_wp2;go_roundw
      ·exact ⟨j+1,h8,h6,j2,by omega,by simp,j3.o⟩
      ·simp [bF];omega
     ·have k3:(cd==0)=false:=by simp [hc]
      have j4:=ah (r.o.no B.o.ho (by rw [B.o.hx];exact hc));clear hc r;go_wp2;go_roundw
      ·exact ⟨j+1,mv,rv,ev,by omega,by simp,j4.o⟩
      ·simp [bF];omega
    ·have i8:¬ ((j:Int)<(M:Int)):=by omega
     obtain rfl:j=M:=by omega
     obtain ⟨J,rfl⟩:∃ J,j=J+1:=⟨j-1,by omega⟩
     obtain ⟨o,an,gO,gA,H,af,y,cf,s,rd⟩:=a0.o.at (i:=J) (by rw [a7.o];omega);have d6:xA (dZ os) J=an:=by rw [EC (by have:=HM.o;omega) rd.ho,rd.hx]
     obtain ⟨cd,t,L,z,W,X,fl⟩:=an;have eB:=rd.eB;subst eB;have B:=ah rd;clear rd;have b8:=Z.o;rw [show J+1-1=J by omega,d6] at b8;clear d6;have f7:=F.o.bk;have f5:=F.o.el;have a8:=ah F.o.bl;have E:=b7.o;clear F b7 Z d2;generalize Oa os (J+1)=b at *;have c7:b.modes.length=b.roots.length/\1<=b.roots.length/\b.roots.length<=5002:=by
      have h1:=E.x.bk.ml;have h2:=E.x.ok.l;have h3:=E.x.ok.b.len;have h5:=(aJ.1 E.x.ok.r0).1;rw [E.x.bk.rt];omega
     have g6:=ah (xB f7 a8.o.size (fun e he=>by
      have:=E.x.bk.rg e he;rw [E.x.bk.rt,E.x.ok.l];exact this) c7.1 c7.2.1 (by omega) (aI f5 (by omega)))
     have Z:=ah b8;clear b8 f7 f5 E;go_wp2_with fail;refine g6.o.mono ?_;rintro e S ⟨sn,sG,j7,rfl,U,j9,d7,i2,g1⟩;have d1:=ah (And.intro U.1.l d7);have j5:=ah (Z.o.2.2.2 sn (U.1.l.trans c7.1.symm) U.iff);have d5:=ah (a8.o.trans (g1.mono a8.o.size));obtain ⟨rfl,rfl,rfl,-⟩:=Z.o;clear g6 U d7 g1 a8 Z i2;generalize hR:b.roots.length=R at *;clear hR;go_wp2_with fail;go_loopw [131,12] (fun iv nv ws=>∃ k c:Nat,k<=R/\c<=k/\iv=.int .i64 (k:Int)/\nv=.int .i64 (c:Int)/\Hq ((sn.take k).count true=c/\ws=S)) (fun iv _ _=>R-bF iv)
     case atStart=>exact ⟨0,0,by omega,by omega,rfl,rfl,by simp,rfl⟩
     case round=>
      obtain ⟨k,c,k0,j1,rfl,rfl,HK⟩:=hrel;obtain rfl:=HK.o.2;by_cases f2:k<R
      ·have i5:((k:Int)<(R:Int)):=by omega
       have b9:k<sn.length:=by rw [d1.o.1];exact f2
       have cs:wr.cell? ⟨sG,k,none⟩=some (.bool sn[k]):=by
        rw [d1.o.2.cell (j:=k) f2];unfold eG;rw [bq,aN b9];rfl
       have d0:=ah (show (sn.take (k+1)).count true=(sn.take k).count true+(if sn[k] then 1 else 0) by
        rw [List.take_add_one,aN b9,List.count_append];cases sn[k]<;>rfl)
       obtain ⟨sb,d8⟩:∃ sb,sn[k]=sb:=⟨_,rfl⟩
       rw [d8] at cs d0;clear d8 b9;cases sb with
       |true=>
        go_wp2;go_roundw
        ·exact ⟨k+1,c+1,by omega,by omega,by simp,by simp,by rw [d0.o,HK.o.1];rfl,trivial⟩
        ·simp [bF];omega
       |false=>
        go_wp2;go_roundw
        ·exact ⟨k+1,c,by omega,by omega,by simp,rfl,by rw [d0.o,HK.o.1];rfl,trivial⟩
        ·simp [bF];omega
      ·have i5:¬ ((k:Int)<(R:Int)):=by omega
       have j0:L=(c:Int):=by
        have h1:=HK.o.1;rw [List.take_of_length_le (by rw [d1.o.1];omega)] at h1;have h2:=j5.o;rw [h1] at h2;exact h2
       subst j0;have A:=B.o.c wr d5.o;have q1:wr.cell? ⟨PG,1,none⟩=some (.slice (some ⟨H,0,none⟩) (J+1) kB):=by have:=A.q1;rw [a7.o] at this;exact this
       have b0:wr.cell? ⟨H,J*7,none⟩=some (.int .i64 0):=A.b0;have b1:wr.cell? ⟨H,J*7+1,none⟩=some (.int .i64 t):=A.b1;have b2:wr.cell? ⟨H,J*7+2,none⟩=some (.int .i64 (c:Int)):=A.b2;have b3:wr.cell? ⟨H,J*7+3,none⟩=some (.int .i64 z):=A.b3;have b4:wr.cell? ⟨H,J*7+4,none⟩=some (.int .i64 0):=A.b4;have b5:wr.cell? ⟨H,J*7+5,none⟩=some (.int .i64 0):=A.b5;have b6:wr.cell? ⟨H,J*7+6,none⟩=some (.slice y fl.length s):=A.b6;have d4:=ah (h4.o.trans (d5.o.mono h4.o.size));clear A B d5 HK;have V:=ah (show aD _ 36 wr.heap.size 7 (GA 0 t (c:Int) z 0 0 (.slice y fl.length s)) from aD.mk' wr 36 #[.int .i64 0,.int .i64 t,.int .i64 (c:Int),.int .i64 z,.int .i64 0,.int .i64 0,.slice y fl.length s]);have j6:=ah (d4.o.trans ((aU wr (.cells #[.int .i64 0,.int .i64 t,.int .i64 (c:Int),.int .i64 z,.int .i64 0,.int .i64 0,.slice y fl.length s] 36)).mono d4.o.size));go_upto_region 38 with (fail)
       clear b0 b1 b2 b3 b4 b5 b6 q1 d4;generalize wr.alloc (.cells #[.int .i64 0,.int .i64 t,.int .i64 (c:Int),.int .i64 z,.int .i64 0,.int .i64 0,.slice y fl.length s] 36)=w9 at *;generalize wr.heap.size=Y at *;have e2:w9.cell? ⟨Y,2,none⟩=some (.int .i64 (c:Int)):=V.o.c 2;have e4:w9.cell? ⟨Y,4,none⟩=some (.int .i64 0):=V.o.c 4;have e5:w9.cell? ⟨Y,5,none⟩=some (.int .i64 0):=V.o.c 5;clear V;go_wp2;go_ret;exact ⟨rfl,j6.o⟩
end
end Go.Proofs.YtbpcdfbmnklcjaaGreatDoor
namespace Go.Proofs.YtbpcdfbmnklcjaaGreatDoor
open Go.ChangeShapes Go.WideShapes Go.ChangeAt Go Go.RowKit Go.ChangeMaps Go.WideElems Go.Joins Go.Deep
set_option maxRecDepth 100000
set_option linter.unusedVariables false
section
variable {W:World} {cap fuel n:Nat}
theorem zZ:Tryz.prog.readableRec 22=true/\22<Tryz.prog.types.size:=⟨by kernel_rfl,by decide+kernel⟩
theorem xD {H:Type} {enc:TypeId × Value->H} {sp:Nat->Bool} {hd:Bool} {a:Option Addr} {x:DataW H × List MemPlace} (h:DataW.trod enc Tryz.prog W 0 sp hd fuel 22 [.slice a n cap]=some x):
 n<=9223372036854775807/\∃ f,iy W.heap.size W (.slice a n cap) n f:=by
 obtain ⟨r,h⟩:=Bn Tryz.underlying22 (show Tryz.prog.cellsOf 5=1 by kernel_rfl) (by omega) h;refine ⟨aI r (by decide+kernel),?_⟩;rcases h with rfl|⟨b,o,m,rfl,hb,k,g⟩
 ·exact ⟨fun _=>0,.inl ⟨rfl,_,_,rfl⟩⟩
 ·have key:∀ i,∃ z:Nat,i<n->z<=255/\W.cell? ⟨b,o+i,none⟩=some (.int .u8 (z:Int)):=by
   intro i;by_cases hi:i<n
   ·obtain ⟨u,y,t,d,e⟩:=g i hi
    obtain ⟨l,s,_,j⟩:=DataW.trod_int Tryz.underlying5 e;subst s;have q:IntKind.u8.min=0:=by decide
    have p:IntKind.u8.max=255:=by decide
    simp only [Lit.wf,Bool.and_eq_true,decide_eq_true_eq,q,p] at j;have c:=d 0 (by omega);rw [Nat.mul_one,Nat.add_zero] at c;refine ⟨l.toNat,fun _=>⟨by omega,?_⟩⟩;rw [Int.toNat_of_nonneg j.1];exact c
   ·exact ⟨0,fun h=>absurd h hi⟩
  exact ⟨fun i=>Classical.choose (key i),.inr ⟨b,o,cap,rfl,hb,fun i hi=>Classical.choose_spec (key i) hi⟩⟩
theorem NK (H:Type) (b:TypeId × Value->H) (W:World) (base:Nat) (args:Array Value) (Q P:List (DataW H)) (g:List MemPlace)
 (c:∀ (j:Nat) t v,Tryz.f4.params[j]?=some t->args[j]?=some v->Value.okWide Tryz.prog W .any base t v)
 (M:DataW.Whole b Tryz.prog Tryz.f4.params.toList Rows.fnHeapCleanSpec.vars false W args.toList Q P g):
 Calls Tryz.prog 4 args W fun e W'=>∃ v,e=.returned v/\Rows.fnHeapCleanSpec.post b Tryz.prog Tryz.f4 false true false false W args v W':=by
 have u:=M;obtain ⟨p,q,y,w,rfl,V,U⟩:=M;have hA:DataW.TrodAll b Tryz.prog W 0 (fun _=>true) true Tryz.f4.params.toList args.toList Q p:=y;have N:DataW.TrodVars b Tryz.prog W (fun _=>true) ["loop.example/g00002/impl.errNumWhole"] P q:=w;rw [Tryz.params4] at hA c;obtain ⟨K,S,d0,a3,L,q0,E,rfl,rfl,h0,r0⟩:=trodAll_cons hA;obtain ⟨J,R,d1,a2,p1,q1,B,rfl,rfl,Z,T⟩:=trodAll_cons r0;obtain ⟨rfl,rfl,rfl⟩:=trodAll_nil T;obtain rfl:args=#[K,J]:=by cases args;simp_all
 obtain ⟨g1,rfl⟩:=AV N;have r:=u.lt;obtain ⟨fuel,D⟩:=h0;obtain ⟨k,C⟩:=Z;clear y w;obtain ⟨a0,m,A,rfl⟩:=okWide_slice Tryz.underlying22 (c 0 22 K rfl rfl);obtain ⟨a1,l,z,rfl⟩:=okWide_slice Tryz.underlying22 (c 1 22 J rfl rfl);have s:DataW.trod b Tryz.prog W 0 (fun _=>true) true fuel 22 [.slice a0 m A]=some (d0,L):=D;have i:DataW.trod b Tryz.prog W 0 (fun _=>true) true k 22 [.slice a1 l z]=some (d1,p1):=C;obtain ⟨Y,f,X⟩:=xD s;obtain ⟨G,f1,F⟩:=xD i;refine (NU X F Y G).mono fun e W' ⟨he,hb⟩=>?_;subst he;have o:∀ {fu:Nat} {a:Option Addr} {len cap:Nat} {d:DataW H} {p:List MemPlace},DataW.trod b Tryz.prog W 0 (fun _=>true) true fu 22 [.slice a len cap]=some (d,p)->(∀ x∈p,x.block<W.heap.size)->∀ (sp:Nat->Bool),(∀ x∈p,sp x.block=true)->DataW.Trod b Tryz.prog W' 0 sp true 22 (.slice a len cap) d p:=fun {fu} {_} {_} {_} {_} {_} D hl sp hsp=>by
  exact ⟨fu,DataW.trod_stays (kids_book Tryz.laidOut zZ.1) (book_sized zZ.1) (fun h=>by cases h) ⟨zZ.2,book_self 22⟩ D (fun x hx=>hb.same (hl x hx)) hsp⟩
 refine ⟨_,rfl,Bo u (pa:=L++(p1++[])) (pv:=q) (fun _ _ _=>trodAll_cons_mk (shut_bool Tryz.underlying4 _) trodAll_mk0) (fun sp hsp=>trodAll_cons_mk (o s (fun x hx=>r x (by simp [hx])) sp (fun x hx=>hsp x (by simp [hx]))) (trodAll_cons_mk (o i (fun x hx=>r x (by simp [hx])) sp (fun x hx=>hsp x (by simp [hx]))) trodAll_mk0))
  (fun sp hsp=>qA Tryz.laidOut hb Fg (fun x hx=>hsp x (by simp [hx])) N) (by simp) hb (ok_one (by kernel_rfl) rfl (okWide_bool_mk Tryz.underlying4 _))⟩
end
end Go.Proofs.YtbpcdfbmnklcjaaGreatDoor
