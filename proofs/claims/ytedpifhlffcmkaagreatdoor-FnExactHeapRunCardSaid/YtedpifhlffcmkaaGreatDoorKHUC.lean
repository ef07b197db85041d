import Derived.Test.YtedpifhlffcmkaaGreatDoorKIO0
import Derived.Test.YtedpifhlffcmkaaGreatDoorKHST0
namespace Go.Proofs.YtedpifhlffcmkaaGreatDoor
open Go Go.RowKit
set_option maxHeartbeats 6400000
set_option maxRecDepth 100000
set_option linter.unusedVariables false
variable {M N R X Y Z base c cap cr g hand i j k k0 n q:Nat} {S:Nat->Prop} {ar:Option Addr} {e:En} {h:Hp} {o:Ob} {ref:Int} {root sn sn9:List Bool} {rv:Value} {td td9:List Nat} {w wo wr ws ws':World}
def BH (H:Nat) (rv:Value) (hand:Nat) (k:Nat):Value:=if k=0 then .pointer (some ⟨H,0,none⟩) else if k=1 then rv else .int .i64 (hand:Int)
def qP (l:List Bool):List Value:=l.map Value.bool
def dH (h:Hp) (hand:Nat) (ref:Int):Prop:=∃ n:Nat,ref=(n:Int)/\1<=n/\n<h.objs.length/\(n=hand∨h.Reach n)
theorem dH.JX (c:ref<1∨(h.objs.length:Int)<=ref):¬ dH h hand ref:=by
 rintro ⟨n,h1,h2,h3,_⟩
 omega
theorem dH.iff (h1:1<=n) (h2:n<h.objs.length) (h3:n≠hand):dH h hand (n:Int)↔h.Reach n:=by
 constructor
 ·rintro ⟨m,e,_,_,c⟩
  have:m=n:=by omega
  subst this
  exact c.resolve_left h3
 ·exact fun r=>⟨n,rfl,h1,h2,.inr r⟩
def Dn (h:Hp) (hand:Nat) (ref:Int) (w:World) (e:Ending) (w':World):Prop:=(∃ b,e=.returned (.bool b)/\(b=true↔dH h hand ref))/\Below w.heap.size w w'
theorem wL (c:ref<1∨(h.objs.length:Int)<=ref):Dn h hand ref w (.returned (.bool false)) w:=⟨⟨false,rfl,by simp;exact dH.JX c⟩,Below.refl _ _⟩
theorem yX (h1:1<=n) (h2:n<h.objs.length) (h3:n=hand):Dn h hand (n:Int) w (.returned (.bool true)) w:=⟨⟨true,rfl,by simp;exact ⟨n,rfl,h1,h2,.inl h3⟩⟩,Below.refl _ _⟩
def DU:Option Value->Bool
 |some (.bool true)=>true
 |_=>false
def pK (w:World) (X:Nat):Nat->Nat
 |0=>0
 |n+1=>pK w X n+if DU (w.cell? ⟨X,n,none⟩) then 1 else 0
def DT:Value->Nat
 | .slice _ n _=>n
 |_=>0
def eB (sn:List Bool) (q:Nat):Value:=.bool (sn.getD q false)
theorem tZ {w:World} {X:Nat} {sn:List Bool} (h:aD w 4 X sn.length (eB sn)):∀ n,n<=sn.length->pK w X n=(sn.take n).count true
 |0,_=>by simp [pK]
 |n+1,hn=>by
  rw [pK,tZ h n (by omega)]
  have hl:n<sn.length:=by omega
  have h1:=h.cell (j:=n) hl
  have h2:sn[n]?=some sn[n]:=List.getElem?_eq_getElem hl
  rw [List.take_add_one,h2,List.count_append,h1]
  have h3:eB sn n=.bool sn[n]:=by simp [eB,hl]
  rw [h3]
  cases sn[n]<;>simp [DU]
theorem qw (h:aD w 4 X N (eB sn)) (hN:sn.length=N):pK w X N=sn.count true:=by
 subst hN
 rw [tZ h sn.length (Nat.le_refl _),List.take_length]
theorem xK {r:Nat} (hr:r<sn.length):∀ q,(if q=r then Value.bool true else eB sn q)=eB (sn.set r true) q:=by
 intro q
 unfold eB
 by_cases c:q=r
 ·subst c;simp [List.getD_eq_getElem?_getD,hr]
 ·have:r≠q:=fun e=>c e.symm
  simp [List.getD_eq_getElem?_getD,c,this]
theorem qh (h:w.ownsRow base 4 1 (.slice ar n cr) root.length (qP root)) (hp:1<=root.length):∃ g,ar=some ⟨g,0,none⟩/\g<w.heap.size/\root.length<=cr/\∀ (j:Nat) (b:Bool),root[j]?=some b->w.cell? ⟨g,j,none⟩=some (.bool b):=by
 obtain ⟨hl,⟨_,h2⟩|⟨g,cap,cur,hv,hb,hg,hnc,hr⟩⟩:=h
 ·omega
 ·have h0:w.ownsRow base 4 1 (.slice ar n cr) root.length (qP root):=⟨hl,.inr ⟨g,cap,cur,hv,hb,hg,hnc,hr⟩⟩
  simp only [Value.slice.injEq] at hv
  obtain ⟨rfl,rfl,rfl⟩:=hv
  have hr:=fQ h0
  refine ⟨g,rfl,hr.lt,hnc,fun j b hj=>?_⟩
  have hjl:=(List.getElem?_eq_some_iff.1 hj).1
  rw [hr.cell (j:=j) (by omega)]
  simp [qP,List.getD_eq_getElem?_getD,hj]
theorem lZ (hj:root[j]?=some true) (hN:root.length=N):∀ q,q<N->(if q=j then Value.bool true else eB (root.take j) q)=eB (root.take (j+1)) q:=by
 intro q hq
 obtain ⟨hl,he⟩:=List.getElem?_eq_some_iff.1 hj
 unfold eB
 rw [List.getD_eq_getElem?_getD,List.getD_eq_getElem?_getD,List.getElem?_take,List.getElem?_take]
 by_cases c:q=j
 ·subst c;simp [hj]
 ·by_cases d:q<j
  ·rw [if_neg c,if_pos d,if_pos (by omega)]
  ·rw [if_neg c,if_neg d,if_neg (by omega)]
theorem zZ (hj:root[j]?=some false) (hN:root.length=N):∀ q,q<N->eB (root.take j) q=eB (root.take (j+1)) q:=by
 intro q hq
 unfold eB
 rw [List.getD_eq_getElem?_getD,List.getD_eq_getElem?_getD,List.getElem?_take,List.getElem?_take]
 by_cases c:q=j
 ·subst c;simp [hj]
 ·by_cases d:q<j
  ·rw [if_pos d,if_pos (by omega)]
  ·rw [if_neg d,if_neg (by omega)]
theorem Ab (h1:aD wr 4 X N (eB sn)) (h2:sn.length=N) (h3:aD wo 4 X N (eB sn9)) (h4:sn9.length=N) (h5:o9 sn9 td9=o9 sn td):N-pK wo X N+td9.length<N-pK wr X N+(k0::td).length:=by
 rw [qw h1 h2,qw h3 h4]
 unfold o9 at h5
 rw [h2,h4] at h5
 rw [List.length_cons]
 omega
theorem jP (e:En) {v:HV} (hv:v=if i=0 then e.1 else e.2) (hi:i<2) (hc:c<5):(gD e).getD (i*5+c) (.bool false)=(uL v).getD c (.bool false):=by
 have:i=0∨i=1:=by omega
 rcases this with rfl|rfl
 ·rw [if_pos rfl] at hv
  subst hv
  have:c=0∨c=1∨c=2∨c=3∨c=4:=by omega
  rcases this with rfl|rfl|rfl|rfl|rfl<;>rfl
 ·rw [if_neg (by decide)] at hv
  subst hv
  have:c=0∨c=1∨c=2∨c=3∨c=4:=by omega
  rcases this with rfl|rfl|rfl|rfl|rfl<;>rfl
theorem Cc {v:HV} (h:vr v≠0):v=some (.inr (vr v)):=by
 cases v with
 |none=>exact absurd rfl h
 |some x=>cases x with
  |inl z=>exact absurd rfl h
  |inr n=>rfl
theorem BK (wr:World) (e:En):aD (wr.alloc (.cells #[.int .i64 (vk e.1),.int .i64 (vi e.1),.int .u64 0,.string ByteArray.empty,.int .i64 (vr e.1),.int .i64 (vk e.2),.int .i64 (vi e.2),.int .u64 0,.string ByteArray.empty,.int .i64 (vr e.2)] 95)) 95 wr.heap.size 10 (fun j=>(gD e).getD j (.bool false)):=by
 have h:=aD.mk' wr 95 #[.int .i64 (vk e.1),.int .i64 (vi e.1),.int .u64 0,.string ByteArray.empty,.int .i64 (vr e.1),.int .i64 (vk e.2),.int .i64 (vi e.2),.int .u64 0,.string ByteArray.empty,.int .i64 (vr e.2)]
 refine aD.congr (show aD _ _ _ 10 _ from h) (fun j hj=>?_)
 have:j=0∨j=1∨j=2∨j=3∨j=4∨j=5∨j=6∨j=7∨j=8∨j=9:=by omega
 rcases this with rfl|rfl|rfl|rfl|rfl|rfl|rfl|rfl|rfl|rfl<;>rfl
structure B4 (h:Hp) (w ws:World) (X Y Z:Nat) (k0 j:Nat) (o:Ob) (e:En) (M i g k cap:Nat) (sn:List Bool) (td:List Nat):Prop where
 b:Bf h sn td k0 (o.es.take j)
 t:kH ws X g k cap td
 r:aD ws 4 X h.objs.length (eB sn)
 l:Below X w ws
 m:o9 sn td=M
 y:aD ws 122 Y 10 (fun j=>(gD e).getD j (.bool false))
 z:aD ws 95 Z 10 (fun j=>(gD e).getD j (.bool false))
 d0:1<=i->e.2.isSome=true->∀ q∈bn e.1,sn[q]?=some true
 d1:2<=i->e.2.isSome=true->∀ q∈bn e.2,sn[q]?=some true
theorem B4.low (b:B4 h w ws X Y Z k0 j o e M i g k cap sn td) (hb:Below ws.heap.size ws ws'):B4 h w ws' X Y Z k0 j o e M i g k cap sn td:=by
 have kk:=Keeps.of hb (Nat.le_refl _) (fun _=>False)
 exact ⟨b.b,b.t.keep kk (fun x=>x),b.r.keep kk (fun x=>x),b.l.trans (hb.mono (Nat.le_of_lt b.r.lt)),b.m,b.y.keep kk (fun x=>x),b.z.keep kk (fun x=>x),b.d0,b.d1⟩
theorem B4.skip (b:B4 h w ws X Y Z k0 j o e M i g k cap sn td) (hi:i<2) {v:HV} (hv:v=if i=0 then e.1 else e.2) (hs:e.2.isSome=true->∀ q∈bn v,sn[q]?=some true):B4 h w ws X Y Z k0 j o e M (i+1) g k cap sn td:=by
 have:i=0∨i=1:=by omega
 rcases this with rfl|rfl
 ·rw [if_pos rfl] at hv
  subst hv
  exact ⟨b.b,b.t,b.r,b.l,b.m,b.y,b.z,fun _=>hs,fun h=>absurd h (by omega)⟩
 ·rw [if_neg (by decide)] at hv
  subst hv
  exact ⟨b.b,b.t,b.r,b.l,b.m,b.y,b.z,fun _=>b.d0 (by omega),fun _=>hs⟩
theorem B4.add {h:Hp} {w ws ws':World} {X Y Z k0 j:Nat} {o:Ob} {e:En} {M i g k cap g' k' cap' r:Nat} {sn:List Bool} {td:List Nat} (b:B4 h w ws X Y Z k0 j o e M i g k cap sn td) (hi:i<2) {v:HV} (hv:v=if i=0 then e.1 else e.2) (hvr:v=some (.inr r)) (hre:h.Reach k0) (ho:h.ob k0=some o) (he:e∈o.es) (hs:e.2.isSome=true) (hr:sn[r]?=some false)
 (ht:kH ws' X g' k' cap' (td++[r])) (kk:Keeps (ws.setCell ⟨X,r,none⟩ (.bool true)) ws' (fun b=>b=g)):B4 h w ws' X Y Z k0 j o e M (i+1) g' k' cap' (sn.set r true) (td++[r]):=by
 have hrl:=(List.getElem?_eq_some_iff.1 hr).1
 have k1:Keeps ws (ws.setCell ⟨X,r,none⟩ (.bool true)) (fun b=>b=X):=Keeps.setCell (S:=fun b=>b=X) (Keeps.refl ws _) rfl _
 have k2:Keeps ws ws' (fun b=>b=X∨b=g):=(k1.mono (fun b e=>Or.inl e)).trans (kk.mono (fun b e=>Or.inr e))
 have hgX:=b.t.apart b.r (by decide)
 have hmem:r∈bM e:=by
  have:i=0∨i=1:=by omega
  rcases this with rfl|rfl
  ·rw [if_pos rfl,hvr] at hv
   exact List.mem_append_left _ (by rw [<-hv];simp [bn])
  ·rw [if_neg (by decide),hvr] at hv
   exact List.mem_append_right _ (by rw [<-hv];simp [bn])
 have up:∀ n:Nat,sn[n]?=some true->(sn.set r true)[n]?=some true:=by
  intro n hn
  rw [List.getElem?_set]
  split
  ·rename_i c;subst c;simp
  ·exact hn
 have hself:(sn.set r true)[r]?=some true:=by simp [hrl]
 have hrow:aD ws' 4 X h.objs.length (eB (sn.set r true)):=((b.r.set (j:=r) (by rw [<-b.b.len];exact hrl) (.bool true)).congr (fun q _=>xK hrl q)).keep kk (fun e=>hgX e.symm)
 refine ⟨b.b.add hre ho he hs hmem hrl,ht,hrow,b.l.trans (k2.below (Nat.le_of_lt b.r.lt) (fun c e=>?_)),(yV hr).trans b.m,b.y.keep k2 (fun e=>?_),b.z.keep k2 (fun e=>?_),fun h1 _ q hq=>?_,fun h2 _ q hq=>?_⟩
 ·rcases e with e|e
  ·omega
  ·rw [e];exact b.t.2.1
 ·rcases e with e|e
  ·exact b.y.apart b.r (by decide) e
  ·exact b.t.apart b.y (by decide) e.symm
 ·rcases e with e|e
  ·exact b.z.apart b.r (by decide) e
  ·exact b.t.apart b.z (by decide) e.symm
 ·have:i=0∨i=1:=by omega
  rcases this with rfl|rfl
  ·rw [if_pos rfl,hvr] at hv
   rw [<-hv] at hq
   simp [bn] at hq
   subst hq
   exact hself
  ·exact up q (b.d0 (by omega) hs q hq)
 ·have hi1:i=1:=by omega
  subst hi1
  rw [if_neg (by decide),hvr] at hv
  rw [<-hv] at hq
  simp [bn] at hq
  subst hq
  exact hself
theorem qj (inv:Inv h) (hre:h.Reach k0) (ho:h.ob k0=some o) (he:e∈o.es) (hs:e.2.isSome=true) {v:HV} (hv:v=if i=0 then e.1 else e.2) (hq:q∈bn v):q≠0/\q<h.objs.length:=by
 have hm:q∈bM e:=by
  by_cases c:i=0
  ·rw [if_pos c] at hv;subst hv;exact List.mem_append_left _ hq
  ·rw [if_neg c] at hv;subst hv;exact List.mem_append_right _ hq
 obtain ⟨o',ho',-⟩:=Hp.FI inv (Hp.Fv hre ho he hs hm)
 refine ⟨fun c=>?_,Hp.Es ho'⟩
 subst c
 rw [inv.zero] at ho'
 cases ho'
theorem tJ {v:HV} (hq:q∈bn v):vr v=q:=by
 cases v with
 |none=>simp [bn] at hq
 |some x=>cases x with
  |inl z=>simp [bn] at hq
  |inr n=>simp [bn] at hq;exact hq.symm
theorem Bu (w:World) {MC:Array Value} (h:MC=madeCells #[Value.bool false] n):aD (w.alloc (.cells MC 4)) 4 w.heap.size n (fun _=>.bool false):=by
 have h1:=aD.mk' w 4 MC
 have hs:MC.size=n:=by rw [h];exact size_madeCells _ _
 rw [hs] at h1
 refine h1.congr (fun j hj=>?_)
 have h2:MC.toList=List.replicate n (Value.bool false):=by rw [h];exact toList_madeCells_one _ _
 have h3:MC[j]?=some (Value.bool false):=by
  rw [<-Array.getElem?_toList,h2]
  simp [hj]
 simp [Array.getD_eq_getD_getElem?,h3]
theorem nK:(Tryz.prog.info? 4).map (fun i=>(i.zero,i.size,i.bytes))=some (some (.bool false),1,1):=by kernel_rfl
theorem sN (w:World) (n:Nat) (hn:n<=6000) (MC:Array Value) (hMC:MC=madeCells #[Value.bool false] n):(Instr.makeSlice 31 (.int .i64 (n:Int)) (.int .i64 (n:Int))).run Tryz.prog w=.ok (.slice (some ⟨w.heap.size,0,none⟩) n n) (w.alloc (.cells MC 4)):=by
 obtain ⟨i0,hi,hz0,hz1,hz2⟩:=info_parts nK
 have h9:=run_make (P:=Tryz.prog) w 31 4 i0 (.bool false) Tryz.underlying31 hi hz0 .i64 .i64 n n (by omega) (Int.le_refl _) (by rw [hz2];omega) (by omega)
 rw [h9,hMC]
 simp [hz1]
 rfl
theorem rG {L:SM} (a:JU base S h L w) (i:Inv h) (hl9:h.objs.length<=5001) (he9:∀ n o,h.ob n=some o->o.es.length<=5000) (hR:aD w 61 R 3 (BH L.H rv hand)) (hrv:w.ownsRow base 4 1 rv root.length (qP root)) (hrl:root.length=h.objs.length) (hro:h.roots=bV 0 root) (ref:Int):
 Calls Tryz.prog 40 #[.pointer (some ⟨R,0,none⟩),.int .i64 ref] w (Dn h hand ref w):=by
 have hp:=i.ps
 obtain ⟨go,capo,hoS,hcapo,hcell⟩:=a.slot hp
 have c0:w.cell? ⟨L.H,0,none⟩=some (.slice (some ⟨go,0,none⟩) h.objs.length capo):=by rw [<-hoS];exact a.hp.cell (j:=0) (by omega)
 have r0:w.cell? ⟨R,0,none⟩=some (.pointer (some ⟨L.H,0,none⟩)):=hR.cell (j:=0) (by omega)
 obtain ⟨ar,cr,hrvv⟩:=aF hrv
 have r1:w.cell? ⟨R,1,none⟩=some (.slice ar root.length cr):=by rw [<-hrvv];exact hR.cell (j:=1) (by omega)
 have r2:w.cell? ⟨R,2,none⟩=some (.int .i64 (hand:Int)):=hR.cell (j:=2) (by omega)
 have HA:=ah a
 have HI:=ah i
 have HR:=ah hR
 have HRV:=ah hrv
 have HRO:=ah hro
 have HE9:=ah he9
 have HOS:=ah hoS
 have HRVV:=ah hrvv
 have HRL:=ah hrl
 have hrl1:root.length<=h.objs.length:=by omega
 have hrl2:h.objs.length<=root.length:=by omega
 clear a i hR hrv hro he9 hoS hrvv hcell hrl
 by_cases h1:ref<1
 ·have h1d:decide (ref<1)=true:=by simpa using h1
  go_enter Tryz.func40,Tryz.ntmps40
  go_wp2
  go_ret
  exact wL (.inl h1)
 ·have h1d:decide (ref<1)=false:=by simpa using h1
  by_cases h2:(h.objs.length:Int)<=ref
  ·have h2d:decide (ref ≥ (h.objs.length:Int))=true:=by simpa using h2
   go_enter Tryz.func40,Tryz.ntmps40
   go_wp2
   go_ret
   exact wL (.inr h2)
  ·have h2d:decide (ref ≥ (h.objs.length:Int))=false:=by simpa using h2
   obtain ⟨n,rfl⟩:∃ n:Nat,ref=(n:Int):=⟨ref.toNat,by omega⟩
   have hn1:1<=n:=by omega
   have hn2:n<h.objs.length:=by omega
   by_cases h3:n=hand
   ·have h3d:((n:Int)==(hand:Int))=true:=by simp [h3]
    go_enter Tryz.func40,Tryz.ntmps40
    go_wp2
    go_ret
    subst h3
    exact yX hn1 hn2 rfl
   ·have h3d:((n:Int)==(hand:Int))=false:=by simp;omega
    go_enter Tryz.func40,Tryz.ntmps40
    obtain ⟨MC,hMC⟩:∃ MC,MC=madeCells #[Value.bool false] h.objs.length:=⟨_,rfl⟩
    have hmk:=fun w9:World=>sN w9 h.objs.length (by omega) MC hMC
    have HSN:=ah (Bu w hMC)
    clear hMC
    go_upto_region 7 with (fail)
    have HTD:=ah (kH.start (w.alloc (.cells MC 4)) (lo:=w.heap.size) (aJ w _).size)
    have hZ:(w.alloc (.cells MC 4)).heap.size=w.heap.size+1:=Array.size_push _
    rw [hZ] at HTD
    have HSN2:=ah (HSN.o.low (aJ (w.alloc (.cells MC 4)) (.cells #[] 3)) HSN.o.lt)
    have HB:=ah (zO w (.cells MC 4) (.cells #[] 3))
    clear hZ hmk HSN
    generalize (w.alloc (.cells MC 4)).alloc (.cells #[] 3)=w2 at *
    generalize hX:w.heap.size=X at *
    have hRl:R<X:=hX ▸ HR.o.lt
    have hHl:L.H<X:=hX ▸ HA.o.hp.lt
    have q1:w2.cell? ⟨R,1,none⟩=some (.slice ar root.length cr):=(HB.o.cell (p:=⟨R,1,none⟩) hRl).trans r1
    rw [HRVV.o] at HRV
    obtain ⟨gr,rfl,hgr,hcr,hrc⟩:=qh HRV.o (by omega)
    rw [hX] at hgr
    have HRC:=ah hrc
    clear hrc
    go_wp2
    go_loopw [49,6] (fun jv tv ws=>∃ j g k cap:Nat,j<=root.length/\jv=.int .i64 j/\tv=.slice (some ⟨g,k,none⟩) (bV 0 (root.take j)).length cap/\Hq (kH ws X g k cap (bV 0 (root.take j))/\aD ws 4 X h.objs.length (eB (root.take j))/\Below X w ws)) (fun jv _ _=>root.length-aU jv)
    case atStart=>
     exact ⟨0,X+1,0,0,by omega,rfl,rfl,HTD.o,HSN2.o.congr (fun j _=>by simp [eB]),HB.o⟩
    case round=>
     obtain ⟨j,g,k,cap,hj9,rfl,rfl,HJ⟩:=hrel
     have hlen0:(bV 0 (root.take j)).length<=6000:=by
      have h8:=eZ (root.take j) 0
      rw [List.length_take] at h8
      omega
     by_cases hj:j<root.length
     ·have hji:(j:Int)<(root.length:Int):=by omega
      have hjN:(j:Int)<(h.objs.length:Int):=by omega
      obtain ⟨b,hb⟩:∃ b,root[j]?=some b:=⟨_,List.getElem?_eq_getElem hj⟩
      have x0:wr.cell? ⟨gr,j,none⟩=some (.bool b):=(HJ.o.2.2.cell (p:=⟨gr,j,none⟩) hgr).trans (HRC.o j b hb)
      have HBB:=ah hb
      clear hb
      cases b with
      |true=>
       have y0:wr.cell? ⟨X,j,none⟩=some (eB (root.take j) j):=HJ.o.2.1.cell (j:=j) (by omega)
       have z0:=HJ.o.2.1.Jv j
       go_upto_region 12 with (fail)
       have HK4:=ah (Keeps.setCell (S:=fun b=>b=X) (Keeps.refl wr _) (g:=X) (j:=j) rfl (.bool true))
       have HS4:=ah (((HJ.o.2.1.set (j:=j) (by omega) (.bool true)).congr (fun q hq=>lZ HBB.o HRL.o q hq)))
       have HT4:=ah (HJ.o.1.keep HK4.o (fun e=>HJ.o.1.apart HJ.o.2.1 (by decide) e))
       have HB4:=ah (HJ.o.2.2.trans (HK4.o.below (B:=X) (Nat.le_of_lt HJ.o.2.1.lt) (fun b e=>by omega)))
       clear x0 y0 z0 HK4 HJ
       generalize wr.setCell ⟨X,j,none⟩ (.bool true)=w4 at *
       have hlo:X<=w4.heap.size:=Nat.le_of_lt HS4.o.lt
       go_wp2_with (first
        |(at_builtin;refine HT4.o.app rfl _ _ rfl rfl j rfl (by omega) hlo ?_;intro g5 k5 cap5 w5 h5 kk5;have H5:=ah h5;have K5:=ah kk5;clear h5 kk5)
        |go_in)
       go_roundw
       case rel=>
        refine ⟨j+1,g5,k5,cap5,by omega,by simp,?_,?_,HS4.o.keep K5.o (fun e=>HT4.o.apart HS4.o (by decide) e.symm),HB4.o.trans (K5.o.below hlo (fun b e=>e ▸ HT4.o.2.1))⟩
        ·rw [gy HBB.o];simp
        ·rw [gy HBB.o];exact H5.o
       case measure=>simp [aU];omega
      |false=>
       go_wp2
       go_roundw
       case rel=>
        refine ⟨j+1,g,k,cap,by omega,by simp,?_,?_,HJ.o.2.1.congr (fun q hq=>zZ HBB.o HRL.o q hq),HJ.o.2.2⟩
        ·rw [gy HBB.o];simp
        ·rw [gy HBB.o];simpa using HJ.o.1
       case measure=>simp [aU];omega
     ·have hje:j=root.length:=by omega
      subst hje
      rw [List.take_length] at *
      clear hj hj9
      have HBF:=ah (Bf.start HI.out HRL.o HRO.o)
      go_wp2
      go_loopw [6] (fun tv ws=>∃ (g k cap:Nat) (sn:List Bool) (td:List Nat),tv=.slice (some ⟨g,k,none⟩) td.length cap/\Hq (Bf h sn td 0 []/\kH ws X g k cap td/\aD ws 4 X h.objs.length (eB sn)/\Below X w ws/\o9 sn td<=h.objs.length)) (fun tv ws=>h.objs.length-pK ws X h.objs.length+DT tv)
      case atStart=>
       exact ⟨g,k,cap,root,bV 0 root,rfl,HBF.o,HJ.o.1,HJ.o.2.1,HJ.o.2.2,by rw [xg,HRL.o];exact Nat.le_refl _⟩
      case round=>
       clear HJ HBF
       obtain ⟨g,k,cap,sn,td,rfl,HJ⟩:=hrel
       cases td with
       |nil=>
        have HD:=ah (HJ.o.1.done HI.out n)
        have hnN:(n:Int)<(h.objs.length:Int):=by omega
        have s0:wr.cell? ⟨X,n,none⟩=some (eB sn n):=HJ.o.2.2.1.cell (j:=n) hn2
        have hsl:sn[n]?=some (sn.getD n false):=by
         have:n<sn.length:=by rw [HJ.o.1.len];exact hn2
         simp [List.getD_eq_getElem?_getD,this]
        unfold eB at s0
        have HSL:=ah hsl
        clear hsl
        generalize sn.getD n false=bb at *
        go_wp2
        go_ret
        refine (⟨⟨bb,rfl,?_⟩,hX ▸ HJ.o.2.2.2.1⟩:Dn h hand _ w _ _)
        rw [dH.iff hn1 hn2 h3,<-HD.o,HSL.o]
        simp
       |cons k0 td=>
        rw [List.length_cons]
        have hk0:=HJ.o.1.tm k0 (List.mem_cons_self ..)
        have hk0l:k0<h.objs.length:=by rw [<-HJ.o.1.len];exact (List.getElem?_eq_some_iff.1 hk0).1
        have hre:=HJ.o.1.re k0 hk0
        obtain ⟨o,ho,-⟩:=Hp.FI HI.out hre
        have t0:wr.cell? ⟨g,k,none⟩=some (.int .i64 (k0:Int)):=HJ.o.2.1.cell (j:=0) rfl
        have HAW:=ah (HA.o.low (hX ▸ HJ.o.2.2.2.1))
        obtain ⟨go2,capo2,hoS2,-,hcell2⟩:=HAW.o.slot hp
        have:go2=go/\capo2=capo:=by
         have h9:=hoS2.symm.trans HOS.o
         simpa using h9
        obtain ⟨rfl,rfl⟩:=this
        have d0:wr.cell? ⟨L.H,0,none⟩=some (.slice (some ⟨go2,0,none⟩) h.objs.length capo2):=(HJ.o.2.2.2.1.cell (p:=⟨L.H,0,none⟩) hHl).trans c0
        have d1:=hcell2 k0 hk0l
        have d2:wr.cell? ⟨R,0,none⟩=some (.pointer (some ⟨L.H,0,none⟩)):=(HJ.o.2.2.2.1.cell (p:=⟨R,0,none⟩) hRl).trans r0
        obtain ⟨E,cape,hev,hcape,-⟩:=HAW.o.ents ho
        obtain ⟨rr,hrr⟩:=HAW.o.ob k0 o ho
        have d5:wr.cell? ⟨L.ob k0,5,none⟩=some (.slice E o.es.length cape):=by rw [<-hev];exact hrr.cell (j:=5) (by omega)
        have hes9:=HE9.o k0 o ho
        have hk0i:(k0:Int)<(h.objs.length:Int):=by omega
        have HO:=ah ho
        have HRE:=ah hre
        have HEV:=ah hev
        obtain ⟨k1,hif,htl1⟩:=HJ.o.2.1.IJ
        have HTL:=ah htl1
        have HBP:=ah (HJ.o.1.pop HI.out)
        have HMP:=ah (Av sn td k0)
        have hcap1:td.length+1<=cap:=by have:=HJ.o.2.1.1;simpa using this
        clear hk0 hre ho hev hrr hcell2 hoS2 htl1
        have htl:((td.length+1:Nat):Int) > 0:=by omega
        go_wp2
        go_loopw [85,6] (fun jv tv ws=>∃ (j g k cap:Nat) (sn9:List Bool) (td9:List Nat),j<=o.es.length/\jv=.int .i64 j/\tv=.slice (some ⟨g,k,none⟩) td9.length cap/\Hq (Bf h sn9 td9 k0 (o.es.take j)/\kH ws X g k cap td9/\aD ws 4 X h.objs.length (eB sn9)/\Below X w ws/\o9 sn9 td9=o9 sn td)) (fun jv _ _=>o.es.length-aU jv)
        case atStart=>
         exact ⟨0,g,k1,cap-1,sn,td,by omega,rfl,rfl,HBP.o,HTL.o,HJ.o.2.2.1,HJ.o.2.2.2.1,rfl⟩
        case round=>
         clear t0 d0 d1 d2 d5 hif htl HTL HBP
         rename World=>wo
         have HJO:=ah HJ.o
         clear HJ
         obtain ⟨j,g,k,cap,sn9,td9,hj9,rfl,rfl,HJ⟩:=hrel
         by_cases hjn:j<o.es.length
         ·obtain ⟨e,he⟩:∃ e,o.es[j]?=some e:=⟨_,List.getElem?_eq_getElem hjn⟩
          have hji:(j:Int)<(o.es.length:Int):=by omega
          have HAW2:=ah (HA.o.low (hX ▸ HJ.o.2.2.2.1))
          obtain ⟨E2,cap2,hev2,hcap2,hent2⟩:=HAW2.o.ents HO.o
          have:E2=E/\cap2=cape:=by
           have h9:=hev2.symm.trans HEV.o
           simp only [Value.slice.injEq] at h9
           exact ⟨h9.1,h9.2.2⟩
          obtain ⟨rfl,rfl⟩:=this
          obtain ⟨g2,rfl,hg2,hcells⟩:=hent2 j e he
          have d0:=hcells 0 _ rfl
          have d1:=hcells 1 _ rfl
          have d2:=hcells 2 _ rfl
          have d3:=hcells 3 _ rfl
          have d4:=hcells 4 _ rfl
          have d5:=hcells 5 _ rfl
          have d6:=hcells 6 _ rfl
          have d7:=hcells 7 _ rfl
          have d8:=hcells 8 _ rfl
          have d9:=hcells 9 _ rfl
          simp only [Nat.add_zero] at d0
          have HX5:=ah (jR wo e)
          have HB5:=ah (aJ wo (.cells #[.int .i64 (vk e.1),.int .i64 (vi e.1),.int .u64 0,.string ByteArray.empty,.int .i64 (vr e.1),.int .i64 (vk e.2),.int .i64 (vi e.2),.int .u64 0,.string ByteArray.empty,.int .i64 (vr e.2)] 122))
          have HEE:=ah he
          clear hev2 hent2 hcells he HAW2
          go_upto_region 20 with (fail)
          generalize wo.alloc (.cells #[.int .i64 (vk e.1),.int .i64 (vi e.1),.int .u64 0,.string ByteArray.empty,.int .i64 (vr e.1),.int .i64 (vk e.2),.int .i64 (vi e.2),.int .u64 0,.string ByteArray.empty,.int .i64 (vr e.2)] 122)=w5 at *
          generalize hY:wo.heap.size=Y at *
          have x0:w5.cell? ⟨Y,0,none⟩=some (.int .i64 (vk e.1)):=HX5.o.cell (j:=0) (by omega)
          have x1:w5.cell? ⟨Y,1,none⟩=some (.int .i64 (vi e.1)):=HX5.o.cell (j:=1) (by omega)
          have x2:w5.cell? ⟨Y,2,none⟩=some (.int .u64 0):=HX5.o.cell (j:=2) (by omega)
          have x3:w5.cell? ⟨Y,3,none⟩=some (.string ByteArray.empty):=HX5.o.cell (j:=3) (by omega)
          have x4:w5.cell? ⟨Y,4,none⟩=some (.int .i64 (vr e.1)):=HX5.o.cell (j:=4) (by omega)
          have x5:w5.cell? ⟨Y,5,none⟩=some (.int .i64 (vk e.2)):=HX5.o.cell (j:=5) (by omega)
          have x6:w5.cell? ⟨Y,6,none⟩=some (.int .i64 (vi e.2)):=HX5.o.cell (j:=6) (by omega)
          have x7:w5.cell? ⟨Y,7,none⟩=some (.int .u64 0):=HX5.o.cell (j:=7) (by omega)
          have x8:w5.cell? ⟨Y,8,none⟩=some (.string ByteArray.empty):=HX5.o.cell (j:=8) (by omega)
          have x9:w5.cell? ⟨Y,9,none⟩=some (.int .i64 (vr e.2)):=HX5.o.cell (j:=9) (by omega)
          clear d0 d1 d2 d3 d4 d5 d6 d7 d8 d9
          have HZ6:=ah (BK w5 e)
          have HB6:=ah (aJ w5 (.cells #[.int .i64 (vk e.1),.int .i64 (vi e.1),.int .u64 0,.string ByteArray.empty,.int .i64 (vr e.1),.int .i64 (vk e.2),.int .i64 (vi e.2),.int .u64 0,.string ByteArray.empty,.int .i64 (vr e.2)] 95))
          go_upto_region 21 with (fail)
          generalize w5.alloc (.cells #[.int .i64 (vk e.1),.int .i64 (vi e.1),.int .u64 0,.string ByteArray.empty,.int .i64 (vr e.1),.int .i64 (vk e.2),.int .i64 (vi e.2),.int .u64 0,.string ByteArray.empty,.int .i64 (vr e.2)] 95)=w6 at *
          generalize hZ:w5.heap.size=Z at *
          have H4:=ah (show B4 h w w6 X Y Z k0 j o e (o9 sn td) 0 g k cap sn9 td9 from by
           have k5:=Keeps.of HB5.o (Nat.le_of_eq hY) (fun _=>False)
           have k6:=Keeps.of HB6.o (Nat.le_of_eq hZ) (fun _=>False)
           have k56:=k5.trans k6
           exact ⟨HJ.o.1,HJ.o.2.1.keep k56 (fun x=>x),HJ.o.2.2.1.keep k56 (fun x=>x),HJ.o.2.2.2.1.trans (k56.below (Nat.le_of_lt HJ.o.2.2.1.lt) (fun b x=>x.elim)),HJ.o.2.2.2.2,HX5.o.keep k6 (fun x=>x),HZ6.o,fun h=>absurd h (by omega),fun h=>absurd h (by omega)⟩)
          clear x0 x1 x2 x3 x4 x5 x6 x7 x8 x9 HZ6 HB6 HX5 HB5 HJ
          go_loopw [95,6] (fun iv tv ws=>∃ (i g k cap:Nat) (sn8:List Bool) (td8:List Nat),i<=2/\iv=.int .i64 i/\tv=.slice (some ⟨g,k,none⟩) td8.length cap/\Hq (B4 h w ws X Y Z k0 j o e (o9 sn td) i g k cap sn8 td8)) (fun iv _ _=>2-aU iv)
          case atStart=>exact ⟨0,g,k,cap,sn9,td9,by omega,rfl,rfl,H4⟩
          case round=>
           clear H4
           rename World=>wv
           obtain ⟨i,g,k,cap,sn8,td8,hi9,rfl,rfl,HW⟩:=hrel
           by_cases hi2:i<2
           ·obtain ⟨v,hv⟩:∃ v:HV,v=if i=0 then e.1 else e.2:=⟨_,rfl⟩
            have hii:(i:Int)<2:=by omega
            have y0:wv.cell? ⟨Z,i*5,none⟩=some (.int .i64 (vk v)):=by
             have h9:=HW.o.z.cell (j:=i*5+0) (by omega)
             rw [jP e hv hi2 (by omega)] at h9
             exact h9
            have y1:wv.cell? ⟨Z,i*5+1,none⟩=some (.int .i64 (vi v)):=by
             have h9:=HW.o.z.cell (j:=i*5+1) (by omega)
             rw [jP e hv hi2 (by omega)] at h9
             exact h9
            have y2:wv.cell? ⟨Z,i*5+2,none⟩=some (.int .u64 0):=by
             have h9:=HW.o.z.cell (j:=i*5+2) (by omega)
             rw [jP e hv hi2 (by omega)] at h9
             exact h9
            have y3:wv.cell? ⟨Z,i*5+3,none⟩=some (.string ByteArray.empty):=by
             have h9:=HW.o.z.cell (j:=i*5+3) (by omega)
             rw [jP e hv hi2 (by omega)] at h9
             exact h9
            have y4:wv.cell? ⟨Z,i*5+4,none⟩=some (.int .i64 (vr v)):=by
             have h9:=HW.o.z.cell (j:=i*5+4) (by omega)
             rw [jP e hv hi2 (by omega)] at h9
             exact h9
            have HZ7:=ah (oz wv v)
            have HB7:=ah (aJ wv (.cells #[.int .i64 (vk v),.int .i64 (vi v),.int .u64 0,.string ByteArray.empty,.int .i64 (vr v)] 95))
            have HV7:=ah (HW.o.low HB7.o)
            have HVV:=ah hv
            clear hv HW
            go_upto_region 23 with (fail)
            generalize wv.alloc (.cells #[.int .i64 (vk v),.int .i64 (vi v),.int .u64 0,.string ByteArray.empty,.int .i64 (vr v)] 95)=w7 at *
            generalize wv.heap.size=V at *
            have z4:w7.cell? ⟨V,4,none⟩=some (.int .i64 (vr v)):=HZ7.o.cell (j:=4) (by omega)
            have e5:w7.cell? ⟨Y,5,none⟩=some (.int .i64 (vk e.2)):=HV7.o.y.cell (j:=5) (by omega)
            clear y0 y1 y2 y3 y4 HB7
            have HEM:=ah (List.mem_of_getElem? HEE.o)
            by_cases h0:vr v=0
            ·have h0e:((vr v:Int) !=0)=false:=by simp [h0]
             have HH0:=ah h0
             clear h0
             go_wp2
             go_roundw
             case rel=>exact ⟨i+1,g,k,cap,sn8,td8,by omega,by simp,rfl,HV7.o.skip hi2 HVV.o (fun hs q hq=>absurd ((tJ hq).symm.trans HH0.o) (qj HI.out HRE.o HO.o HEM.o hs HVV.o hq).1)⟩
             case measure=>simp [aU];omega
            ·have h0e:((vr v:Int) !=0)=true:=by simp;omega
             have HVR:=ah (Cc h0)
             clear h0
             cases hes:e.2.isSome with
             |false=>
              have hke:(vk e.2 !=0)=false:=by rw [dB,hes]
              have HES:=ah hes
              clear hes
              go_wp2
              go_roundw
              case rel=>exact ⟨i+1,g,k,cap,sn8,td8,by omega,by simp,rfl,HV7.o.skip hi2 HVV.o (fun hs q hq=>by rw [HES.o] at hs;cases hs)⟩
              case measure=>simp [aU];omega
             |true=>
              have hke:(vk e.2 !=0)=true:=by rw [dB,hes]
              have HES:=ah hes
              clear hes
              have hvl:vr v<h.objs.length:=(qj HI.out HRE.o HO.o HEM.o HES.o HVV.o (q:=vr v) (by rw [HVR.o];simp [bn,vr])).2
              have hrli:(vr v:Int)<(h.objs.length:Int):=by omega
              have s0:w7.cell? ⟨X,vr v,none⟩=some (eB sn8 (vr v)):=HV7.o.r.cell (j:=vr v) hvl
              have z0:=HV7.o.r.Jv (vr v)
              have hsl:sn8[vr v]?=some (sn8.getD (vr v) false):=by
               have:vr v<sn8.length:=by rw [HV7.o.b.len];exact hvl
               simp [List.getD_eq_getElem?_getD,this]
              unfold eB at s0
              have HSL:=ah hsl
              clear hsl
              generalize sn8.getD (vr v) false=bb at *
              cases bb with
              |true=>
               go_wp2
               go_roundw
               case rel=>exact ⟨i+1,g,k,cap,sn8,td8,by omega,by simp,rfl,HV7.o.skip hi2 HVV.o (fun hs q hq=>by rw [<-tJ hq];exact HSL.o)⟩
               case measure=>simp [aU];omega
              |false=>
               have HT8:=ah (HV7.o.t.keep (Keeps.setCell (S:=fun b=>b=X) (Keeps.refl w7 _) (g:=X) (j:=vr v) rfl (.bool true)) (fun e=>HV7.o.t.apart HV7.o.r (by decide) e))
               have HZ8:=ah (HZ7.o.keep (Keeps.setCell (S:=fun b=>b=X) (Keeps.refl w7 _) (g:=X) (j:=vr v) rfl (.bool true)) (fun e=>HZ7.o.apart HV7.o.r (by decide) e))
               have hlo8:X<=(w7.setCell ⟨X,vr v,none⟩ (.bool true)).heap.size:=Nat.le_of_lt (HV7.o.r.set (j:=vr v) hvl (.bool true)).lt
               have htd8:td8.length<=10002:=by
                have h8:=HV7.o.m
                have h7:=HJO.o.2.2.2.2
                rw [HMP.o,<-h8] at h7
                unfold o9 at h7
                omega
               go_upto_region 25 with (fail)
               generalize hw8:w7.setCell ⟨X,vr v,none⟩ (.bool true)=w8 at *
               have z8:w8.cell? ⟨V,4,none⟩=some (.int .i64 (vr v)):=HZ8.o.cell (j:=4) (by omega)
               clear z4 e5 s0 z0 HZ7
               have HW8:=ah hw8
               clear hw8
               go_wp2_with (first
                |(at_builtin;refine HT8.o.app rfl _ _ rfl rfl (vr v) rfl (by omega) hlo8 ?_;intro g9 k9 cap9 w9 h9 kk9;have H9:=ah h9;have K9:=ah kk9;clear h9 kk9)
                |go_in)
               go_roundw
               case rel=>exact ⟨i+1,g9,k9,cap9,sn8.set (vr v) true,td8++[vr v],by omega,by simp,by simp,HV7.o.add hi2 HVV.o HVR.o HRE.o HO.o HEM.o HES.o HSL.o H9.o (by rw [HW8.o];exact K9.o)⟩
               case measure=>simp [aU];omega
           ·have hi3:i=2:=by omega
            subst hi3
            go_wp2
            go_roundw
            case rel=>
             refine ⟨j+1,g,k,cap,sn8,td8,by omega,by simp,rfl,?_,HW.o.t,HW.o.r,HW.o.l,HW.o.m⟩
             rw [List.take_add_one,HEE.o]
             refine HW.o.b.did (fun hs q hq=>?_)
             rcases List.mem_append.1 hq with y|y
             ·exact HW.o.d0 (by omega) hs q y
             ·exact HW.o.d1 (by omega) hs q y
            case measure=>simp [aU];omega
         ·have hje:j=o.es.length:=by omega
          subst hje
          rw [List.take_length] at HJ
          go_wp2
          go_roundw
          case rel=>exact ⟨g,k,cap,sn9,td9,rfl,HJ.o.1.fin HO.o rfl,HJ.o.2.1,HJ.o.2.2.1,HJ.o.2.2.2.1,by rw [HJ.o.2.2.2.2];have h7:=HJO.o.2.2.2.2;rw [HMP.o] at h7;omega⟩
          case measure=>exact Ab (k0:=k0) HJO.o.2.2.1 HJO.o.1.len HJ.o.2.2.1 HJ.o.1.len HJ.o.2.2.2.2
end Go.Proofs.YtedpifhlffcmkaaGreatDoor
