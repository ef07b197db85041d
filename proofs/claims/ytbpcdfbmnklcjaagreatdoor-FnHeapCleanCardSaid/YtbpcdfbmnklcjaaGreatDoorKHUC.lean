import Derived.Test.YtbpcdfbmnklcjaaGreatDoorKHYB
import Derived.Test.YtbpcdfbmnklcjaaGreatDoorKHST0
namespace Go.Proofs.YtbpcdfbmnklcjaaGreatDoor
open Go Go.RowKit
set_option maxHeartbeats 6400000
set_option maxRecDepth 100000
set_option linter.unusedVariables false
variable {M N R X Y Z base c cap cr hand i j k k0 n:Nat} {S:Nat->Prop} {ar:Option Addr} {e:En} {h:Hp} {o:Ob} {ref:Int} {root sn sn9:List Bool} {rv:Value} {td td9:List Nat} {w wo wr ws ws':World}
def Es (H:Nat) (rv:Value) (hand:Nat) (k:Nat):Value:=if k=0 then .pointer (some ⟨H,0,none⟩) else if k=1 then rv else .int .i64 (hand:Int)
def iQ (l:List Bool):List Value:=l.map Value.bool
def fJ (h:Hp) (hand:Nat) (ref:Int):Prop:=∃ n:Nat,ref=(n:Int)/\1<=n/\n<h.objs.length/\(n=hand∨h.Reach n)
theorem fJ.MU (c:ref<1∨(h.objs.length:Int)<=ref):¬ fJ h hand ref:=by
 rintro ⟨n,d,b,a,_⟩;omega
theorem fJ.iff (d:1<=n) (b:n<h.objs.length) (a:n≠hand):fJ h hand (n:Int)↔h.Reach n:=by
 constructor
 ·rintro ⟨m,e,_,_,c⟩
  have:m=n:=by omega
  subst this;exact c.resolve_left a
 ·exact fun r=>⟨n,rfl,d,b,.inr r⟩
def F6 (h:Hp) (hand:Nat) (ref:Int) (w:World) (e:Ending) (w':World):Prop:=(∃ b,e=.returned (.bool b)/\(b=true↔fJ h hand ref))/\Below w.heap.size w w'
theorem yT (c:ref<1∨(h.objs.length:Int)<=ref):F6 h hand ref w (.returned (.bool false)) w:=⟨⟨false,rfl,by simp;exact fJ.MU c⟩,aT _ _⟩
theorem BG (d:1<=n) (b:n<h.objs.length) (a:n=hand):F6 h hand (n:Int) w (.returned (.bool true)) w:=⟨⟨true,rfl,by simp;exact ⟨n,rfl,d,b,.inl a⟩⟩,aT _ _⟩
def Gv:Option Value->Bool
 |some (.bool true)=>true
 |_=>false
def tJ (w:World) (X:Nat):Nat->Nat
 |0=>0
 |n+1=>tJ w X n+if Gv (w.cell? ⟨X,n,none⟩) then 1 else 0
def FY:Value->Nat
 | .slice _ n _=>n
 |_=>0
def eG (sn:List Bool) (q:Nat):Value:=.bool (sn.getD q false)
theorem wV {w:World} {X:Nat} {sn:List Bool} (h:aD w 4 X sn.length (eG sn)):∀ n,n<=sn.length->tJ w X n=(sn.take n).count true
 |0,_=>by simp [tJ]
 |n+1,hn=>by
  rw [tJ,wV h n (by omega)];have hl:n<sn.length:=by omega
  have d:=h.cell (j:=n) hl;have b:sn[n]?=some sn[n]:=aN hl;rw [List.take_add_one,b,List.count_append,d];have a:eG sn n=.bool sn[n]:=by simp [eG,hl]
  rw [a];cases sn[n]<;>simp [Gv]
theorem tu (h:aD w 4 X N (eG sn)) (a:sn.length=N):tJ w X N=sn.count true:=by
 subst a;rw [wV h sn.length (au _),bN]
theorem uy {r:Nat} (hr:r<sn.length):∀ q,(if q=r then Value.bool true else eG sn q)=eG (sn.set r true) q:=by
 intro q;unfold eG;by_cases c:q=r
 ·subst c;simp [List.getD_eq_getElem?_getD,hr]
 ·have:r≠q:=fun e=>c e.symm
  simp [List.getD_eq_getElem?_getD,c,this]
theorem jd (h:w.ownsRow base 4 1 (.slice ar n cr) root.length (iQ root)) (hp:1<=root.length):∃ g,ar=some ⟨g,0,none⟩/\g<w.heap.size/\root.length<=cr/\∀ (j:Nat) (b:Bool),root[j]?=some b->w.cell? ⟨g,j,none⟩=some (.bool b):=by
 obtain ⟨l,⟨_,r⟩|⟨g,cap,f,d,hb,p,a,hr⟩⟩:=h
 ·omega
 ·have q:w.ownsRow base 4 1 (.slice ar n cr) root.length (iQ root):=⟨l,.inr ⟨g,cap,f,d,hb,p,a,hr⟩⟩
  simp only [Value.slice.injEq] at d;obtain ⟨rfl,rfl,rfl⟩:=d;have hr:=mF q;refine ⟨g,rfl,hr.lt,a,fun j b hj=>?_⟩;have m:=(aJ.1 hj).1;rw [hr.c j];simp [iQ,List.getD_eq_getElem?_getD,hj]
theorem nJ (a:root[j]?=some true) (l:root.length=N):∀ q,q<N->(if q=j then Value.bool true else eG (root.take j) q)=eG (root.take (j+1)) q:=by
 intro q b;obtain ⟨f,g⟩:=aJ.1 a;unfold eG;rw [bq,bq,List.getElem?_take,List.getElem?_take];by_cases c:q=j
 ·subst c;simp [a]
 ·by_cases d:q<j
  ·rw [if_neg c,if_pos d,if_pos (by omega)]
  ·rw [if_neg c,if_neg d,if_neg (by omega)]
theorem BZ (a:root[j]?=some false) (f:root.length=N):∀ q,q<N->eG (root.take j) q=eG (root.take (j+1)) q:=by
 intro q b;unfold eG;rw [bq,bq,List.getElem?_take,List.getElem?_take];by_cases c:q=j
 ·subst c;simp [a]
 ·by_cases d:q<j
  ·rw [if_pos d,if_pos (by omega)]
  ·rw [if_neg d,if_neg (by omega)]
theorem Ch (g:aD wr 4 X N (eG sn)) (d:sn.length=N) (f:aD wo 4 X N (eG sn9)) (b:sn9.length=N) (a:rH sn9 td9=rH sn td):N-tJ wo X N+td9.length<N-tJ wr X N+(k0::td).length:=by
 rw [tu g d,tu f b];unfold rH at a;rw [d,b] at a;rw [aY];omega
theorem lu (e:En) {v:HV} (a:v=if i=0 then e.1 else e.2) (hi:i<2) (b:c<5):(iX e).getD (i*5+c) (.bool false)=(wX v).getD c (.bool false):=by
 have:i=0∨i=1:=by omega
 rcases this with rfl|rfl
 ·rw [if_pos rfl] at a
  subst a;have:c=0∨c=1∨c=2∨c=3∨c=4:=by omega
  rcases this with rfl|rfl|rfl|rfl|rfl<;>rfl
 ·rw [if_neg (by decide)] at a
  subst a;have:c=0∨c=1∨c=2∨c=3∨c=4:=by omega
  rcases this with rfl|rfl|rfl|rfl|rfl<;>rfl
theorem EH {v:HV} (h:vr v≠0):v=some (.inr (vr v)):=by
 cases v with
 |none=>exact absurd rfl h
 |some x=>cases x with
  |inl z=>exact absurd rfl h
  |inr n=>rfl
theorem Ea (wr:World) (e:En):aD (wr.alloc (.cells (Nw e.1 e.2) 95)) 95 wr.heap.size 10 (fun j=>(iX e).getD j (.bool false)):=by
 have h:=aD.mk' wr 95 #[.int .i64 (vk e.1),.int .i64 (vi e.1),.int .u64 0,.string ByteArray.empty,.int .i64 (vr e.1),.int .i64 (vk e.2),.int .i64 (vi e.2),.int .u64 0,.string ByteArray.empty,.int .i64 (vr e.2)];refine aD.congr (show aD _ _ _ 10 _ from h) (fun j hj=>?_);have:j=0∨j=1∨j=2∨j=3∨j=4∨j=5∨j=6∨j=7∨j=8∨j=9:=by omega
 rcases this with rfl|rfl|rfl|rfl|rfl|rfl|rfl|rfl|rfl|rfl<;>rfl
structure B4 (h:Hp) (w ws:World) (X Y Z:Nat) (k0 j:Nat) (o:Ob) (e:En) (M i g k cap:Nat) (sn:List Bool) (td:List Nat):Prop where
 b:Bf h sn td k0 (o.es.take j)
 t:mP ws X g k cap td
 r:aD ws 4 X h.objs.length (eG sn)
 l:Below X w ws
 m:rH sn td=M
 y:aD ws 122 Y 10 (fun j=>(iX e).getD j (.bool false))
 z:aD ws 95 Z 10 (fun j=>(iX e).getD j (.bool false))
 d0:1<=i->e.2.isSome=true->∀ q∈bQ e.1,sn[q]?=some true
 d1:2<=i->e.2.isSome=true->∀ q∈bQ e.2,sn[q]?=some true
theorem B4.low {g:Nat} (b:B4 h w ws X Y Z k0 j o e M i g k cap sn td) (hb:Below ws.heap.size ws ws'):B4 h w ws' X Y Z k0 j o e M i g k cap sn td:=by
 have kk:=Keeps.of hb (au _) (fun _=>False);exact ⟨b.b,b.t.keep kk (fun x=>x),b.r.keep kk (fun x=>x),b.l.trans (hb.mono (dh b.r.lt)),b.m,b.y.keep kk (fun x=>x),b.z.keep kk (fun x=>x),b.d0,b.d1⟩
theorem B4.skip {g:Nat} (b:B4 h w ws X Y Z k0 j o e M i g k cap sn td) (hi:i<2) {v:HV} (a:v=if i=0 then e.1 else e.2) (d:e.2.isSome=true->∀ q∈bQ v,sn[q]?=some true):B4 h w ws X Y Z k0 j o e M (i+1) g k cap sn td:=by
 have:i=0∨i=1:=by omega
 rcases this with rfl|rfl
 ·rw [if_pos rfl] at a
  subst a;exact ⟨b.b,b.t,b.r,b.l,b.m,b.y,b.z,fun _=>d,fun h=>absurd h (by omega)⟩
 ·rw [if_neg (by decide)] at a
  subst a;exact ⟨b.b,b.t,b.r,b.l,b.m,b.y,b.z,fun _=>b.d0 (by omega),fun _=>d⟩
theorem B4.add {h:Hp} {w ws ws':World} {X Y Z k0 j:Nat} {o:Ob} {e:En} {M i g k cap g' k' cap' r:Nat} {sn:List Bool} {td:List Nat} (b:B4 h w ws X Y Z k0 j o e M i g k cap sn td) (hi:i<2) {v:HV} (p:v=if i=0 then e.1 else e.2) (d:v=some (.inr r)) (A:h.Reach k0) (ho:h.ob k0=some o) (H:e∈o.es) (D:e.2.isSome=true) (hr:sn[r]?=some false)
 (F:mP ws' X g' k' cap' (td++[r])) (kk:Keeps (ws.setCell ⟨X,r,none⟩ (.bool true)) ws' (fun b=>b=g)):B4 h w ws' X Y Z k0 j o e M (i+1) g' k' cap' (sn.set r true) (td++[r]):=by
 have f:=(aJ.1 hr).1;have E:Keeps ws (ws.setCell ⟨X,r,none⟩ (.bool true)) (fun b=>b=X):=Keeps.setCell (S:=fun b=>b=X) (Keeps.refl ws _) rfl _;have x:Keeps ws ws' (fun b=>b=X∨b=g):=(E.mono (fun b e=>Or.inl e)).trans (kk.mono (fun b e=>Or.inr e));have C:=b.t.apart b.r (by decide);have u:r∈dw e:=by
  have:i=0∨i=1:=by omega
  rcases this with rfl|rfl
  ·rw [if_pos rfl,d] at p
   exact List.mem_append_left _ (by rw [<-p];simp [bQ])
  ·rw [if_neg (by decide),d] at p
   exact List.mem_append_right _ (by rw [<-p];simp [bQ])
 have up:∀ n:Nat,sn[n]?=some true->(sn.set r true)[n]?=some true:=by
  intro n G;rw [gD];split
  ·rename_i c;subst c;simp
  ·exact G
 have a:(sn.set r true)[r]?=some true:=by simp [f]
 have s:aD ws' 4 X h.objs.length (eG (sn.set r true)):=((b.r.set (j:=r) (by rw [<-b.b.len];exact f) (.bool true)).congr (fun q _=>uy f q)).keep kk (fun e=>C e.symm);refine ⟨b.b.add A ho H D u f,F,s,b.l.trans (x.below (dh b.r.lt) (fun c e=>?_)),(Cb hr).trans b.m,b.y.keep x (fun e=>?_),b.z.keep x (fun e=>?_),fun h1 _ q hq=>?_,fun h2 _ q hq=>?_⟩
 ·rcases e with e|e
  ·omega
  ·rw [e];exact b.t.2.1
 ·rcases e with e|e
  ·exact b.y.apart b.r (by decide) e
  ·exact b.t.apart b.y (by decide) e.symm
 ·rcases e with e|e
  ·exact b.z.apart b.r (by decide) e
  ·exact b.t.apart b.z (by decide) e.symm
 ·have:i=0∨i=1:=by omega
  rcases this with rfl|rfl
  ·rw [if_pos rfl,d] at p
   rw [<-p] at hq;simp [bQ] at hq;subst hq;exact a
  ·exact up q (b.d0 (by omega) D q hq)
 ·have B:i=1:=by omega
  subst B;rw [if_neg (by decide),d] at p;rw [<-p] at hq;simp [bQ] at hq;subst hq;exact a
theorem tC (b:Inv h) (f:h.Reach k0) (ho:h.ob k0=some o) (m:e∈o.es) (l:e.2.isSome=true) {v:HV} (d:v=if i=0 then e.1 else e.2) {q:Nat} (g:q∈bQ v):q≠0/\q<h.objs.length:=by
 have hm:q∈dw e:=by
  by_cases c:i=0
  ·rw [if_pos c] at d;subst d;exact List.mem_append_left _ g
  ·rw [if_neg c] at d;subst d;exact List.mem_append_right _ g
 obtain ⟨p,a,-⟩:=Hp.Jq b (Hp.Jl f ho m l hm);refine ⟨fun c=>?_,Hp.Ia a⟩;subst c;rw [b.zero] at a;cases a
theorem vW {v:HV} {q:Nat} (a:q∈bQ v):vr v=q:=by
 cases v with
 |none=>simp [bQ] at a
 |some x=>cases x with
  |inl z=>simp [bQ] at a
  |inr n=>simp [bQ] at a;exact a.symm
theorem EI (w:World) {MC:Array Value} (h:MC=madeCells #[Value.bool false] n):aD (w.alloc (.cells MC 4)) 4 w.heap.size n (fun _=>.bool false):=by
 have a:=aD.mk' w 4 MC;have b:MC.size=n:=by rw [h];exact size_madeCells _ _
 rw [b] at a;refine a.congr (fun j hj=>?_);have f:MC.toList=List.replicate n (Value.bool false):=by rw [h];exact toList_madeCells_one _ _
 have d:MC[j]?=some (Value.bool false):=by
  rw [<-Array.getElem?_toList,f];simp [hj]
 simp [Array.getD_eq_getD_getElem?,d]
theorem je:(Tryz.prog.info? 4).map (fun i=>(i.zero,i.size,i.bytes))=some (some (.bool false),1,1):=by kernel_rfl
theorem uI (w:World) (n:Nat) (p:n<=6000) (g:Array Value) (f:g=madeCells #[Value.bool false] n):(Instr.makeSlice 31 (.int .i64 (n:Int)) (.int .i64 (n:Int))).run Tryz.prog w=.ok (.slice (some ⟨w.heap.size,0,none⟩) n n) (w.alloc (.cells g 4)):=by
 obtain ⟨l,hi,d,b,a⟩:=info_parts je;have m:=run_make (P:=Tryz.prog) w 31 4 l (.bool false) Tryz.underlying31 hi d .i64 .i64 n n (by omega) (Int.le_refl _) (by rw [a];omega) (by omega);rw [m,f];simp [b];rfl
theorem vP {L:SM} (a:MV base S h L w) (i:Inv h) (m7:h.objs.length<=5001) (f7:∀ n o,h.ob n=some o->o.es.length<=5000) (hR:aD w 61 R 3 (Es L.H rv hand)) (b5:w.ownsRow base 4 1 rv root.length (iQ root)) (e9:root.length=h.objs.length) (e8:h.roots=dR 0 root) (ref:Int):
 Calls Tryz.prog 40 #[.pointer (some ⟨R,0,none⟩),.int .i64 ref] w (F6 h hand ref w):=by
 have hp:=i.ps;obtain ⟨go,b0,b7,j6,c2⟩:=a.slot hp;have c0:w.cell? ⟨L.H,0,none⟩=some (.slice (some ⟨go,0,none⟩) h.objs.length b0):=by rw [<-b7];exact a.hp.c 0
 have r0:w.cell? ⟨R,0,none⟩=some (.pointer (some ⟨L.H,0,none⟩)):=hR.c 0;obtain ⟨ar,cr,Q⟩:=aF b5;have r1:w.cell? ⟨R,1,none⟩=some (.slice ar root.length cr):=by rw [<-Q];exact hR.c 1
 have r2:w.cell? ⟨R,2,none⟩=some (.int .i64 (hand:Int)):=hR.c 2;have HA:=ah a;have HI:=ah i;have HR:=ah hR;have i0:=ah b5;have l3:=ah e8;have l8:=ah f7;have l5:=ah b7;have h6:=ah Q;have a4:=ah e9;have m3:root.length<=h.objs.length:=by omega
 have m2:h.objs.length<=root.length:=by omega
 clear a i hR b5 e8 f7 b7 Q c2 e9;by_cases h1:ref<1
 ·have k7:decide (ref<1)=true:=by simpa using h1
  go_enter Tryz.func40,Tryz.ntmps40;go_wp2;go_ret;exact yT (.inl h1)
 ·have k7:decide (ref<1)=false:=by simpa using h1
  by_cases h2:(h.objs.length:Int)<=ref
  ·have k4:decide (ref ≥ (h.objs.length:Int))=true:=by simpa using h2
   go_enter Tryz.func40,Tryz.ntmps40;go_wp2;go_ret;exact yT (.inr h2)
  ·have k4:decide (ref ≥ (h.objs.length:Int))=false:=by simpa using h2
   obtain ⟨n,rfl⟩:∃ n:Nat,ref=(n:Int):=⟨ref.toNat,by omega⟩
   have f1:1<=n:=by omega
   have a0:n<h.objs.length:=by omega
   by_cases h3:n=hand
   ·have k3:((n:Int)==(hand:Int))=true:=by simp [h3]
    go_enter Tryz.func40,Tryz.ntmps40;go_wp2;go_ret;subst h3;exact BG f1 a0 rfl
   ·have k3:((n:Int)==(hand:Int))=false:=by simp;omega
    go_enter Tryz.func40,Tryz.ntmps40;obtain ⟨MC,c3⟩:∃ MC,MC=madeCells #[Value.bool false] h.objs.length:=⟨_,rfl⟩
    have i9:=fun w9:World=>uI w9 h.objs.length (by omega) MC c3;have c7:=ah (EI w c3);clear c3;go_upto_region 7 with (fail)
    have g8:=ah (mP.start (w.alloc (.cells MC 4)) (lo:=w.heap.size) (aU w _).size);have hZ:(w.alloc (.cells MC 4)).heap.size=w.heap.size+1:=aG _;rw [hZ] at g8;have h4:=ah (c7.o.low (aU (w.alloc (.cells MC 4)) (.cells #[] 3)) c7.o.lt);have HB:=ah (EP w (.cells MC 4) (.cells #[] 3));clear hZ i9 c7;generalize (w.alloc (.cells MC 4)).alloc (.cells #[] 3)=w2 at *;generalize hX:w.heap.size=X at *;have f8:R<X:=hX ▸ HR.o.lt;have k2:L.H<X:=hX ▸ HA.o.hp.lt;have q1:w2.cell? ⟨R,1,none⟩=some (.slice ar root.length cr):=(HB.o.cell (p:=⟨R,1,none⟩) f8).trans r1;rw [h6.o] at i0;obtain ⟨gr,rfl,f6,n2,f0⟩:=jd i0.o (by omega);rw [hX] at f6;have l4:=ah f0;clear f0;go_wp2;go_loopw [49,6] (fun jv tv ws=>∃ j g k cap:Nat,j<=root.length/\jv=.int .i64 j/\tv=.slice (some ⟨g,k,none⟩) (dR 0 (root.take j)).length cap/\Hq (mP ws X g k cap (dR 0 (root.take j))/\aD ws 4 X h.objs.length (eG (root.take j))/\Below X w ws)) (fun jv _ _=>root.length-bF jv)
    case atStart=>
     exact ⟨0,X+1,0,0,by omega,rfl,rfl,g8.o,h4.o.congr (fun j _=>by simp [eG]),HB.o⟩
    case round=>
     obtain ⟨j,g,k,cap,f5,rfl,rfl,f⟩:=hrel;have j0:(dR 0 (root.take j)).length<=6000:=by
      have h8:=gU (root.take j) 0;rw [bf] at h8;omega
     by_cases hj:j<root.length
     ·have j3:(j:Int)<(root.length:Int):=by omega
      have m8:(j:Int)<(h.objs.length:Int):=by omega
      obtain ⟨b,hb⟩:∃ b,root[j]?=some b:=⟨_,aN hj⟩
      have x0:wr.cell? ⟨gr,j,none⟩=some (.bool b):=(f.o.2.2.cell (p:=⟨gr,j,none⟩) f6).trans (l4.o j b hb);have K:=ah hb;clear hb;cases b with
      |true=>
       have y0:wr.cell? ⟨X,j,none⟩=some (eG (root.take j) j):=f.o.2.1.c j;have z0:=f.o.2.1.ME j;go_upto_region 12 with (fail)
       have e0:=ah (Keeps.setCell (S:=fun b=>b=X) (Keeps.refl wr _) (g:=X) (j:=j) rfl (.bool true));have c8:=ah (((f.o.2.1.set (j:=j) (by omega) (.bool true)).congr (fun q hq=>nJ K.o a4.o q hq)));have c4:=ah (f.o.1.keep e0.o (fun e=>f.o.1.apart f.o.2.1 (by decide) e));have l9:=ah (f.o.2.2.trans (e0.o.below (B:=X) (dh f.o.2.1.lt) (fun b e=>by omega)));clear x0 y0 z0 e0 f;generalize wr.setCell ⟨X,j,none⟩ (.bool true)=w4 at *;have f3:X<=w4.heap.size:=dh c8.o.lt;go_wp2_with (first
        |(at_builtin;refine c4.o.app rfl _ _ rfl rfl j rfl (by omega) f3 ?_;intro g5 k5 g1 w5 h5 e4;have H5:=ah h5;have K5:=ah e4;clear h5 e4)
        |go_in)
       go_roundw
       case rel=>
        refine ⟨j+1,g5,k5,g1,by omega,by simp,?_,?_,c8.o.keep K5.o (fun e=>c4.o.apart c8.o (by decide) e.symm),l9.o.trans (K5.o.below f3 (fun b e=>e ▸ c4.o.2.1))⟩
        ·rw [iU K.o];simp
        ·rw [iU K.o];exact H5.o
       case measure=>simp [bF];omega
      |false=>
       go_wp2;go_roundw
       case rel=>
        refine ⟨j+1,g,k,cap,by omega,by simp,?_,?_,f.o.2.1.congr (fun q hq=>BZ K.o a4.o q hq),f.o.2.2⟩
        ·rw [iU K.o];simp
        ·rw [iU K.o];simpa using f.o.1
       case measure=>simp [bF];omega
     ·have b9:j=root.length:=by omega
      subst b9;rw [bN] at *;clear hj f5;have i4:=ah (Bf.start HI.out a4.o l3.o);go_wp2;go_loopw [6] (fun tv ws=>∃ (g k cap:Nat) (sn:List Bool) (td:List Nat),tv=.slice (some ⟨g,k,none⟩) td.length cap/\Hq (Bf h sn td 0 []/\mP ws X g k cap td/\aD ws 4 X h.objs.length (eG sn)/\Below X w ws/\rH sn td<=h.objs.length)) (fun tv ws=>h.objs.length-tJ ws X h.objs.length+FY tv)
      case atStart=>
       exact ⟨g,k,cap,root,dR 0 root,rfl,i4.o,f.o.1,f.o.2.1,f.o.2.2,by rw [zD,a4.o];exact au _⟩
      case round=>
       clear f i4;obtain ⟨g,k,cap,sn,td,rfl,f⟩:=hrel;cases td with
       |nil=>
        have HD:=ah (f.o.1.done HI.out n);have m6:(n:Int)<(h.objs.length:Int):=by omega
        have s0:wr.cell? ⟨X,n,none⟩=some (eG sn n):=f.o.2.2.1.cell (j:=n) a0;have P:sn[n]?=some (sn.getD n false):=by
         have:n<sn.length:=by rw [f.o.1.len];exact a0
         simp [List.getD_eq_getElem?_getD,this]
        unfold eG at s0;have a3:=ah P;clear P;generalize sn.getD n false=bb at *;go_wp2;go_ret;refine (⟨⟨bb,rfl,?_⟩,hX ▸ f.o.2.2.2.1⟩:F6 h hand _ w _ _);rw [fJ.iff f1 a0 h3,<-HD.o,a3.o];simp
       |cons k0 td=>
        rw [aY];have b8:=f.o.1.tm k0 (List.mem_cons_self ..);have f4:k0<h.objs.length:=by rw [<-f.o.1.len];exact (aJ.1 b8).1
        have b6:=f.o.1.re k0 b8;obtain ⟨o,ho,-⟩:=Hp.Jq HI.out b6;have t0:wr.cell? ⟨g,k,none⟩=some (.int .i64 (k0:Int)):=f.o.2.1.cell (j:=0) rfl;have e2:=ah (HA.o.low (hX ▸ f.o.2.2.2.1));obtain ⟨f9,U,a8,-,F⟩:=e2.o.slot hp;have:f9=go/\U=b0:=by
         have A:=a8.symm.trans l5.o
         simpa using A
        obtain ⟨rfl,rfl⟩:=this;have d0:wr.cell? ⟨L.H,0,none⟩=some (.slice (some ⟨f9,0,none⟩) h.objs.length U):=(f.o.2.2.2.1.cell (p:=⟨L.H,0,none⟩) k2).trans c0;have d1:=F k0 f4;have d2:wr.cell? ⟨R,0,none⟩=some (.pointer (some ⟨L.H,0,none⟩)):=(f.o.2.2.2.1.cell (p:=⟨R,0,none⟩) f8).trans r0;obtain ⟨E,b1,c1,j7,-⟩:=e2.o.ents ho;obtain ⟨rr,e7⟩:=e2.o.ob k0 o ho;have d5:wr.cell? ⟨L.ob k0,5,none⟩=some (.slice E o.es.length b1):=by rw [<-c1];exact e7.c 5
        have m5:=l8.o k0 o ho;have m4:(k0:Int)<(h.objs.length:Int):=by omega
        have HO:=ah ho;have c9:=ah b6;have l7:=ah c1;obtain ⟨k1,j4,a7⟩:=f.o.2.1.Lu;have g7:=ah a7;have i3:=ah (f.o.1.pop HI.out);have i1:=ah (Dc sn td k0);have j9:td.length+1<=cap:=by have:=f.o.2.1.1;simpa using this
        clear b8 b6 ho c1 e7 F a8 a7;have i8:((td.length+1:Nat):Int) > 0:=by omega
        go_wp2;go_loopw [85,6] (fun jv tv ws=>∃ (j g k cap:Nat) (sn9:List Bool) (td9:List Nat),j<=o.es.length/\jv=.int .i64 j/\tv=.slice (some ⟨g,k,none⟩) td9.length cap/\Hq (Bf h sn9 td9 k0 (o.es.take j)/\mP ws X g k cap td9/\aD ws 4 X h.objs.length (eG sn9)/\Below X w ws/\rH sn9 td9=rH sn td)) (fun jv _ _=>o.es.length-bF jv)
        case atStart=>
         exact ⟨0,g,k1,cap-1,sn,td,by omega,rfl,rfl,i3.o,g7.o,f.o.2.2.1,f.o.2.2.2.1,rfl⟩
        case round=>
         clear t0 d0 d1 d2 d5 j4 i8 g7 i3;rename World=>wo;have a5:=ah f.o;clear f;obtain ⟨j,g,k,cap,sn9,td9,f5,rfl,rfl,f⟩:=hrel;by_cases j2:j<o.es.length
         ·obtain ⟨e,he⟩:∃ e,o.es[j]?=some e:=⟨_,aN j2⟩
          have j3:(j:Int)<(o.es.length:Int):=by omega
          have b2:=ah (HA.o.low (hX ▸ f.o.2.2.2.1));obtain ⟨E2,g3,a9,j8,T⟩:=b2.o.ents HO.o;have:E2=E/\g3=b1:=by
           have A:=a9.symm.trans l7.o;simp only [Value.slice.injEq] at A;exact ⟨A.1,A.2.2⟩
          obtain ⟨rfl,rfl⟩:=this;obtain ⟨g2,rfl,n1,d⟩:=T j e he;have d0:=d 0 _ rfl;have d1:=d 1 _ rfl;have d2:=d 2 _ rfl;have d3:=d 3 _ rfl;have d4:=d 4 _ rfl;have d5:=d 5 _ rfl;have d6:=d 6 _ rfl;have d7:=d 7 _ rfl;have d8:=d 8 _ rfl;have d9:=d 9 _ rfl;simp only [Nat.add_zero] at d0;have a2:=ah (lV wo e);have i7:=ah (aU wo (.cells (Nw e.1 e.2) 122));have i2:=ah he;clear a9 T d he b2;go_upto_region 20 with (fail)
          generalize wo.alloc (.cells (Nw e.1 e.2) 122)=w5 at *;generalize hY:wo.heap.size=Y at *;obtain ⟨x0,x1,x2,x3,x4⟩:NQ w5 Y e.1:=a2.o.c5;obtain ⟨x5,x6,x7,x8,x9⟩:OV w5 Y e.2:=a2.o.c6;clear d0 d1 d2 d3 d4 d5 d6 d7 d8 d9;have g4:=ah (Ea w5 e);have i6:=ah (aU w5 (.cells (Nw e.1 e.2) 95));go_upto_region 21 with (fail)
          generalize w5.alloc (.cells (Nw e.1 e.2) 95)=w6 at *;generalize hZ:w5.heap.size=Z at *;have H4:=ah (show B4 h w w6 X Y Z k0 j o e (rH sn td) 0 g k cap sn9 td9 from by
           have k5:=Keeps.of i7.o (aO hY) (fun _=>False);have k6:=Keeps.of i6.o (aO hZ) (fun _=>False);have b3:=k5.trans k6;exact ⟨f.o.1,f.o.2.1.keep b3 (fun x=>x),f.o.2.2.1.keep b3 (fun x=>x),f.o.2.2.2.1.trans (b3.below (dh f.o.2.2.1.lt) (fun b x=>x.elim)),f.o.2.2.2.2,a2.o.keep k6 (fun x=>x),g4.o,fun h=>absurd h (by omega),fun h=>absurd h (by omega)⟩)
          clear x0 x1 x2 x3 x4 x5 x6 x7 x8 x9 g4 i6 a2 i7 f;go_loopw [95,6] (fun iv tv ws=>∃ (i g k cap:Nat) (u:List Bool) (C:List Nat),i<=2/\iv=.int .i64 i/\tv=.slice (some ⟨g,k,none⟩) C.length cap/\Hq (B4 h w ws X Y Z k0 j o e (rH sn td) i g k cap u C)) (fun iv _ _=>2-bF iv)
          case atStart=>exact ⟨0,g,k,cap,sn9,td9,by omega,rfl,rfl,H4⟩
          case round=>
           clear H4;rename World=>W;obtain ⟨i,g,k,cap,u,C,n0,rfl,rfl,G⟩:=hrel;by_cases D:i<2
           ·obtain ⟨v,hv⟩:∃ v:HV,v=if i=0 then e.1 else e.2:=⟨_,rfl⟩
            have m9:(i:Int)<2:=by omega
            have y0:W.cell? ⟨Z,i*5,none⟩=some (.int .i64 (vk v)):=by
             have A:=G.o.z.c (i*5+0);rw [lu e hv D (by omega)] at A;exact A
            have y1:W.cell? ⟨Z,i*5+1,none⟩=some (.int .i64 (vi v)):=by
             have A:=G.o.z.c (i*5+1);rw [lu e hv D (by omega)] at A;exact A
            have y2:W.cell? ⟨Z,i*5+2,none⟩=some (.int .u64 0):=by
             have A:=G.o.z.c (i*5+2);rw [lu e hv D (by omega)] at A;exact A
            have y3:W.cell? ⟨Z,i*5+3,none⟩=some (.string ByteArray.empty):=by
             have A:=G.o.z.c (i*5+3);rw [lu e hv D (by omega)] at A;exact A
            have y4:W.cell? ⟨Z,i*5+4,none⟩=some (.int .i64 (vr v)):=by
             have A:=G.o.z.c (i*5+4);rw [lu e hv D (by omega)] at A;exact A
            have a1:=ah (rA W v);have i5:=ah (aU W (.cells (Nu v) 95));have s:=ah (G.o.low i5.o);have J:=ah hv;clear hv G;go_upto_region 23 with (fail)
            generalize W.alloc (.cells (Nu v) 95)=w7 at *;generalize W.heap.size=V at *;have z4:w7.cell? ⟨V,4,none⟩=some (.int .i64 (vr v)):=a1.o.c 4;have e5:w7.cell? ⟨Y,5,none⟩=some (.int .i64 (vk e.2)):=s.o.y.c 5;clear y0 y1 y2 y3 y4 i5;have e1:=ah (aX i2.o);by_cases h0:vr v=0
            ·have k8:((vr v:Int) !=0)=false:=by simp [h0]
             have l6:=ah h0;clear h0;go_wp2;go_roundw
             case rel=>exact ⟨i+1,g,k,cap,u,C,by omega,by simp,rfl,s.o.skip D J.o (fun hs q hq=>absurd ((vW hq).symm.trans l6.o) (tC HI.out c9.o HO.o e1.o hs J.o hq).1)⟩
             case measure=>simp [bF];omega
            ·have k8:((vr v:Int) !=0)=true:=by simp;omega
             have g6:=ah (EH h0);clear h0;cases hes:e.2.isSome with
             |false=>
              have j1:(vk e.2 !=0)=false:=by rw [fq,hes]
              have a6:=ah hes;clear hes;go_wp2;go_roundw
              case rel=>exact ⟨i+1,g,k,cap,u,C,by omega,by simp,rfl,s.o.skip D J.o (fun hs q hq=>by rw [a6.o] at hs;cases hs)⟩
              case measure=>simp [bF];omega
             |true=>
              have j1:(vk e.2 !=0)=true:=by rw [fq,hes]
              have a6:=ah hes;clear hes;have b4:vr v<h.objs.length:=(tC HI.out c9.o HO.o e1.o a6.o J.o (q:=vr v) (by rw [g6.o];simp [bQ,vr])).2;have m1:(vr v:Int)<(h.objs.length:Int):=by omega
              have s0:w7.cell? ⟨X,vr v,none⟩=some (eG u (vr v)):=s.o.r.cell (j:=vr v) b4;have z0:=s.o.r.ME (vr v);have P:u[vr v]?=some (u.getD (vr v) false):=by
               have:vr v<u.length:=by rw [s.o.b.len];exact b4
               simp [List.getD_eq_getElem?_getD,this]
              unfold eG at s0;have a3:=ah P;clear P;generalize u.getD (vr v) false=bb at *;cases bb with
              |true=>
               go_wp2;go_roundw
               case rel=>exact ⟨i+1,g,k,cap,u,C,by omega,by simp,rfl,s.o.skip D J.o (fun hs q hq=>by rw [<-vW hq];exact a3.o)⟩
               case measure=>simp [bF];omega
              |false=>
               have l2:=ah (s.o.t.keep (Keeps.setCell (S:=fun b=>b=X) (Keeps.refl w7 _) (g:=X) (j:=vr v) rfl (.bool true)) (fun e=>s.o.t.apart s.o.r (by decide) e));have l0:=ah (a1.o.keep (Keeps.setCell (S:=fun b=>b=X) (Keeps.refl w7 _) (g:=X) (j:=vr v) rfl (.bool true)) (fun e=>a1.o.apart s.o.r (by decide) e));have f2:X<=(w7.setCell ⟨X,vr v,none⟩ (.bool true)).heap.size:=dh (s.o.r.set (j:=vr v) b4 (.bool true)).lt;have m0:C.length<=10002:=by
                have h8:=s.o.m;have h7:=a5.o.2.2.2.2;rw [i1.o,<-h8] at h7;unfold rH at h7;omega
               go_upto_region 25 with (fail)
               generalize e6:w7.setCell ⟨X,vr v,none⟩ (.bool true)=w8 at *;have z8:w8.cell? ⟨V,4,none⟩=some (.int .i64 (vr v)):=l0.o.c 4;clear z4 e5 s0 z0 a1;have l1:=ah e6;clear e6;go_wp2_with (first
                |(at_builtin;refine l2.o.app rfl _ _ rfl rfl (vr v) rfl (by omega) f2 ?_;intro g9 k9 g0 w9 A e3;have H9:=ah A;have K9:=ah e3;clear A e3)
                |go_in)
               go_roundw
               case rel=>exact ⟨i+1,g9,k9,g0,u.set (vr v) true,C++[vr v],by omega,by simp,by simp,s.o.add D J.o g6.o c9.o HO.o e1.o a6.o a3.o H9.o (by rw [l1.o];exact K9.o)⟩
               case measure=>simp [bF];omega
           ·have j5:i=2:=by omega
            subst j5;go_wp2;go_roundw
            case rel=>
             refine ⟨j+1,g,k,cap,u,C,by omega,by simp,rfl,?_,G.o.t,G.o.r,G.o.l,G.o.m⟩;rw [List.take_add_one,i2.o];refine G.o.b.did (fun hs q hq=>?_);rcases eT.1 hq with y|y
             ·exact G.o.d0 (by omega) hs q y
             ·exact G.o.d1 (by omega) hs q y
            case measure=>simp [bF];omega
         ·have b9:j=o.es.length:=by omega
          subst b9;rw [bN] at f;go_wp2;go_roundw
          case rel=>exact ⟨g,k,cap,sn9,td9,rfl,f.o.1.fin HO.o rfl,f.o.2.1,f.o.2.2.1,f.o.2.2.2.1,by rw [f.o.2.2.2.2];have h7:=a5.o.2.2.2.2;rw [i1.o] at h7;omega⟩
          case measure=>exact Ch (k0:=k0) a5.o.2.2.1 a5.o.1.len f.o.2.2.1 f.o.1.len f.o.2.2.2.2
end Go.Proofs.YtbpcdfbmnklcjaaGreatDoor
