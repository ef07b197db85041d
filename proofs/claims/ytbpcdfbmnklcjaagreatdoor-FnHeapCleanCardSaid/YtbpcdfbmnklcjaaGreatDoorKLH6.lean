import Derived.Test.YtbpcdfbmnklcjaaGreatDoorKHSJ2
import Derived.Test.YtbpcdfbmnklcjaaGreatDoorKHS9
import Derived.Test.YtbpcdfbmnklcjaaGreatDoorKHG
import Derived.Test.YtbpcdfbmnklcjaaGreatDoorRows
import Derived.LaidSub
import Derived.WalkKit
import Derived.ProofKit
import Derived.OpenShut
import Derived.Deep.DeepHandedRow
import Derived.ChangeMaps5
import Derived.Carry
import Derived.ChangeOld
import Derived.Lib.SmallJoins
import Derived.ChangeSlices
import Derived.Test.YtbpcdfbmnklcjaaGreatDoorCards
import Derived.Lay
import Derived.SevenTiedAt
namespace Go.Proofs.YtbpcdfbmnklcjaaGreatDoor
open Go Go.RowKit
set_option linter.unusedVariables false
section
variable {h:Hp} {o:Ob}
structure Gd (h:Hp):Prop where
 i:Inv h
 s:Sm h
 n:mg h
 e:h.state≠1->h.grey=[]/\h.again=[]/\h.weak=[]/\h.G8=[]
theorem Gd.Mx (g:Gd h) (a:h.state=1):Nk h:=
 ⟨Wk.of g.s (g.i.s1 a) g.i.zero g.i.ps g.i.md,g.i.s1 a,fun n hn=>Hp.IG (g.i.ls n hn),g.i.w1⟩
theorem Gd.take {h:Hp} (g:Gd h) (a:h.state=1) (b:h.grey≠[]):Gd h.take.1:=
 ⟨g.i.take a,g.s.take b,g.n.of (M7.take h).lens (M7.take h).bytes (M7.take h).live,fun c=>absurd ((M7.take h).state.trans a) c⟩
theorem vY (c:h.grey=[]) (b:h.G8=[]) (a:h.weak=[]):h.nu=h.wn:=by
 unfold Hp.nu Hp.mu;rw [c,b,a];simp
theorem Gd.begin {h:Hp} (g:Gd h) (a:h.state=0):Gd h.begin:=by
 refine ⟨(g.i.begin a).1,?_,?_,fun c=>absurd (g.i.begin a).2 c⟩
 ·exact (Sm.alive g.s.Ii)
 ·have m:=M7.alive h.Ii
  exact g.n.of (m.lens) m.bytes m.live
theorem Gd.atomic {h:Hp} (g:Gd h) (c:h.state=1):Gd h.atomic:=by
 obtain ⟨hi,q,A,p⟩:=g.i.atomic c;have x:=g.Mx c;obtain ⟨z,m,j,w,k5,v⟩:=h.IW;have w3:Sm h.MK.at2.at3:=by
  have w1:Wk h.MK:=(x.k.alive.drain (x.t.MQ (Mt.alive h))).look (x.t.MQ (Mt.alive h)).drain|>.settle (x.t.MQ (Mt.alive h)).drain.He
  have e:=w1.at2 x.t.MK;exact ((e.MQ (Mt.Hu _ _) (aO (dO Hp.mark Hp.Ir _ _))).settle (x.t.MK.at2.MQ (Mt.Hu _ _))).s
 have a:Sm h.MK.at2.at3.at4.Mi:=(w3.cnt (Np.at4 _)).cnt (Np.Mi _);have f:=x.t.MK.at2;obtain ⟨o1,o2,o3,u⟩:=qE x.t (fun n hn=>x.l n (hn.elim .inl (fun y=>.inr (.inl y))));have r:=(Hp.Ji (f.MQ (Mt.Hu h.MK.at2 h.MK.at2.pending))).1;have b:h.MK.at2.at3.again=[]:=(M7.at3 _).again.trans ((dX h.MK).2.2.2.2.1.trans o2);have d:=(Np.at4 h.MK.at2.at3).trans (Np.Mi _);refine ⟨hi,⟨a.len,?_,a.fp,a.fr,a.Nn,a.cr,a.lim,a.rt,a.es⟩,?_,fun _=>⟨d.grey.trans r,d.again.trans b,rfl,rfl⟩⟩
 ·have C:=a.nu
  have B:h.atomic.nu<=h.MK.at2.at3.at4.Mi.nu:=by
   show h.MK.at2.at3.at4.Mi.wn+h.MK.at2.at3.at4.Mi.grey.length+0+0<=h.MK.at2.at3.at4.Mi.wn+h.MK.at2.at3.at4.Mi.grey.length+_+_;omega
  show h.atomic.nu+h.MK.at2.at3.at4.Mi.again.length<=20000;omega
 ·exact g.n.of (ug h) m j
theorem jI (h:Hp):h.G_.grey=h.grey/\h.G_.again=h.again/\h.G_.G8=h.G8/\h.G_.weak=h.weak/\h.G_.finals=h.finals/\h.G_.pending=h.pending/\h.G_.roots=h.roots/\h.G_.limit=h.limit:=by
 unfold Hp.G_;split
 ·split<;>exact ⟨rfl,rfl,rfl,rfl,rfl,rfl,rfl,rfl⟩
 ·exact ⟨rfl,rfl,rfl,rfl,rfl,rfl,rfl,rfl⟩
theorem lH {n:Nat} (e:h.G_.ob n=some o):∃ o',h.ob n=some o'/\o'.es=o.es:=by
 unfold Hp.G_ at e;split at e
 ·split at e
  ·have a:Hp.ob { h with objs:=h.objs.set h.G9 none } n=some o:=e
   rw [Hp.Kh] at a;split at a
   ·cases a
   ·exact ⟨o,a,rfl⟩
  ·have a:(h.upd h.G9 fun o=>{ o with col:=h.white }).ob n=some o:=e
   rw [Hp.Ho] at a;split at a
   ·cases hb:h.ob n with
    |none=>rw [hb] at a;simp at a
    |some o2=>rw [hb] at a;simp at a;subst a;exact ⟨o2,rfl,rfl⟩
   ·exact ⟨o,a,rfl⟩
 ·exact ⟨o,e,rfl⟩
theorem Gd.Hg {h:Hp} (g:Gd h) (p:h.state=2):Gd h.Hg:=by
 obtain ⟨v,w1,u,w3⟩:=g.e (by omega);obtain ⟨n1,y,x⟩:=(show mg h.skipped from g.n).G_;obtain ⟨P,N,M,L,K,J,H,G⟩:=jI h.skipped;obtain ⟨Q,s2,z⟩:=(g.i.skipped p).G_ p;have key:∀ t:Hp,t=h.skipped.G_.skipped->Sm t.close/\mg t.close/\t.close.grey=[]/\t.close.again=[]/\t.close.weak=[]/\t.close.G8=[]:=by
  intro t a;have e1:t.grey=[]/\t.again=[]/\t.weak=[]/\t.G8=[]:=by rw [a];exact ⟨P.trans v,N.trans w1,L.trans u,M.trans w3⟩
  have D:=uX t;have f:t.objs.length<=5001:=by rw [a];show h.skipped.G_.objs.length<=_;rw [z];exact g.s.len
  have c:t.nu+t.again.length<=20000:=by
   rw [vY e1.1 e1.2.2.2 e1.2.2.1,e1.2.1];simp only [List.length_nil];omega
  have k:t.finals.length+t.pending.length<=5000:=by rw [a];show h.skipped.G_.finals.length+h.skipped.G_.pending.length<=_;rw [K,J];exact g.s.fp
  have j:t.freed.length+t.live<=10000:=by rw [a];show h.skipped.G_.freed.length+h.skipped.G_.live<=_;rw [y];exact g.s.fr
  have m:t.bytes<=200000:=by rw [a];exact aI x g.s.Nn
  have r:t.G6<=200000:=by rw [a];show h.skipped.G_.G6<=_;rw [Hp.IJ];exact g.s.cr
  have q:t.limit<=404096:=by rw [a];show h.skipped.G_.limit<=_;rw [G];exact g.s.lim
  have b:t.roots.length<=5001:=by rw [a];show h.skipped.G_.roots.length<=_;rw [H];exact g.s.rt
  have l:∀ n o,t.ob n=some o->o.es.length<=5000:=by
   intro n o e;rw [a] at e;obtain ⟨w,F,E⟩:=lH (h:=h.skipped) (show h.skipped.G_.ob n=some o from e);rw [<-E];exact g.s.es n w F
  have d:mg t:=by rw [a];exact n1
  unfold Hp.close;split
  ·exact ⟨⟨f,c,k,j,m,r,q,b,l⟩,d,e1⟩
  ·exact ⟨⟨f,c,k,j,m,Nat.zero_le _,by show max (2*t.bytes) 4096<=_;omega,b,l⟩,d,e1⟩
 obtain ⟨C,B,A⟩:=key _ rfl;exact ⟨g.i.Hg p,C,B,fun _=>A⟩
theorem Gd.advance {h:Hp} (g:Gd h) (d:h.state≠0):Gd h.advance.1:=by
 unfold Hp.advance;split
 ·rename_i a;exact g.Hg a
 ·rename_i a
  have:=g.i.st;have b:h.state=1:=by omega
  split
  ·exact g.atomic b
  ·rename_i c;exact g.take b c
theorem Gd.work {u:Int} {h:Hp} (g:Gd h):Gd (Hp.work u h):=Hp.IC (P:=fun _ h q=>Gd h->Gd q) (fun u h _ g=>g) (fun u h q _ hs x g=>x (g.advance hs)) u h g
theorem Gd.step {u:Int} {h:Hp} (g:Gd h):Gd (Hp.step u h):=by
 unfold Hp.step;split
 ·rename_i a;exact (g.begin a).work
 ·exact g.work
theorem Gd.finish {h:Hp} (g:Gd h):Gd h.finish:=Hp.IQ (P:=fun h q=>Gd h->Gd q) (fun h _ g=>g) (fun h q _ hs x g=>x (g.advance hs)) h g.i g
theorem Gd.full {h:Hp} (g:Gd h):Gd h.full:=(g.finish.begin g.i.finish.2).finish
theorem Gd.JB {h:Hp} (g:Gd h) (c:Nat) (a:c<=200000):Gd { h with G6:=c }:=
 ⟨g.i.JB c,⟨g.s.len,g.s.nu,g.s.fp,g.s.fr,g.s.Nn,a,g.s.lim,g.s.rt,g.s.es⟩,g.n,g.e⟩
theorem Gd.Ip {h:Hp} (g:Gd h):Gd h.Ip:=Hp.I4 (P:=fun h q=>Gd h->Gd q) (fun h _ g=>g) (fun h q _ _ x g=>x (g.JB _ (by have:=g.s.cr;omega)).step) h g
theorem Gd.I6 {h:Hp} (g:Gd h):Gd h.I6:=by
 unfold Hp.I6;split
 ·split
  ·exact g
  ·exact (g.JB 0 (by omega)).step
 ·exact g.Ip
end
end Go.Proofs.YtbpcdfbmnklcjaaGreatDoor
namespace Go.Proofs.YtbpcdfbmnklcjaaGreatDoor
set_option linter.unusedVariables false
section
variable {dn:List En} {e:En} {h:Hp} {j k n:Nat} {o:Ob} {root sn:List Bool} {td:List Nat}
def dR:Nat->List Bool->List Nat
 |_,[]=>[]
 |i,b::l=>(if b then [i] else [])++dR (i+1) l
theorem jQ:∀ (l:List Bool) (i:Nat) (b:Bool),dR i (l++[b])=dR i l++(if b then [i+l.length] else [])
 | [],i,b=>by simp [dR]
 |a::l,i,b=>by
  rw [List.cons_append,dR,jQ l (i+1) b,dR,List.append_assoc,aY,show i+1+l.length=i+(l.length+1) by omega]
theorem iU {l:List Bool} {b:Bool} (h:l[j]?=some b):dR 0 (l.take (j+1))=dR 0 (l.take j)++(if b then [j] else []):=by
 obtain ⟨a,rfl⟩:=aJ.1 h;rw [List.take_add_one,h,Option.toList_some,jQ];rw [bf,Nat.min_eq_left (dh a),Nat.zero_add]
theorem qI:∀ (l:List Bool) (i n:Nat),n∈dR i l↔i<=n/\l[n-i]?=some true
 | [],i,n=>by simp [dR]
 |a::l,i,n=>by
  rw [dR,eT,qI l (i+1) n];constructor
  ·rintro (h|⟨h1,h2⟩)
   ·cases a with
    |false=>simp at h
    |true=>simp at h;subst h;simp
   ·refine ⟨by omega,?_⟩
    rw [show n-i=(n-(i+1))+1 by omega]
    simpa using h2
  ·rintro ⟨h1,h2⟩
   rcases Nat.eq_or_lt_of_le h1 with c|c
   ·subst c
    left;simp at h2;simp [h2]
   ·right
    refine ⟨c,?_⟩;rw [show n-i=(n-(i+1))+1 by omega] at h2
    simpa using h2
theorem dQ {l:List Bool} :n∈dR 0 l↔l[n]?=some true:=by rw [qI];simp
theorem gU:∀ (l:List Bool) (i:Nat),(dR i l).length<=l.length
 | [],i=>by simp [dR]
 |a::l,i=>by
  have:=gU l (i+1);rw [dR,bI,aY];cases a<;>simp<;>omega
theorem pG:∀ (l:List Bool) (i:Nat),(dR i l).length=l.count true
 | [],i=>by simp [dR]
 |a::l,i=>by
  rw [dR,bI,pG l (i+1)];cases a
  ·simp
  ·simp;omega
structure Bf (h:Hp) (sn:List Bool) (td:List Nat) (k:Nat) (dn:List En):Prop where
 len:sn.length=h.objs.length
 tm:∀ n∈td,sn[n]?=some true
 re:∀ n,sn[n]?=some true->h.Reach n
 ro:∀ r∈h.roots,sn[r]?=some true
 ex:∀ m o,sn[m]?=some true->h.ob m=some o->m ∉ td->m≠k->∀ e∈o.es,e.2.isSome=true->∀ r∈dw e,sn[r]?=some true
 kk:∀ e∈dn,e.2.isSome=true->∀ r∈dw e,sn[r]?=some true
theorem Bf.start (i:Inv h) (a:root.length=h.objs.length) (hr:h.roots=dR 0 root):Bf h root (dR 0 root) 0 []:=by
 refine ⟨a,fun n hn=>dQ.1 hn,fun n hn=>?_,fun r hr'=>?_,fun m o hm ho hn hk=>?_,fun e he=>by simp at he⟩
 ·exact Hp.JD (by rw [hr];exact dQ.2 hn)
 ·rw [hr] at hr';exact dQ.1 hr'
 ·exact absurd (dQ.2 hm) hn
theorem Bf.pop (i:Inv h) (b:Bf h sn (k::td) 0 []):Bf h sn td k []:=by
 refine ⟨b.len,fun n hn=>b.tm n (List.mem_cons_of_mem _ hn),b.re,b.ro,fun m o hm ho hn hk=>b.ex m o hm ho (fun c=>?_) (fun c=>?_),fun e he=>by simp at he⟩
 ·rcases jm.1 c with c|c
  ·exact hk c
  ·exact hn c
 ·subst c;rw [i.zero] at ho;cases ho
theorem Bf.add (b:Bf h sn td k dn) {r:Nat} (hk:h.Reach k) (ho:h.ob k=some o) (i:e∈o.es) (f:e.2.isSome=true) (hr:r∈dw e) (g:r<sn.length):Bf h (sn.set r true) (td++[r]) k dn:=by
 have up:∀ n:Nat,sn[n]?=some true->(sn.set r true)[n]?=some true:=by
  intro n a;rw [gD];split
  ·rename_i c;subst c;simp
  ·exact a
 have d:∀ n:Nat,(sn.set r true)[n]?=some true->n=r∨sn[n]?=some true:=by
  intro n a;rw [gD] at a;split at a
  ·rename_i c;exact .inl c.symm
  ·exact .inr a
 refine ⟨by rw [bX];exact b.len,fun n a=>?_,fun n a=>?_,fun q hq=>up q (b.ro q hq),fun m o' hm ho' a hmk e' he' hs' q hq=>?_,fun e' he' hs' q hq=>up q (b.kk e' he' hs' q hq)⟩
 ·rcases eT.1 a with c|c
  ·exact up n (b.tm n c)
  ·simp at c;subst c;simp [g]
 ·rcases d n a with c|c
  ·subst c;exact Hp.Jl hk ho i f hr
  ·exact b.re n c
 ·rcases d m hm with c|c
  ·subst c;exact absurd (List.mem_append_right _ (List.mem_singleton.2 rfl)) a
  ·exact up q (b.ex m o' c ho' (fun x=>a (List.mem_append_left _ x)) hmk e' he' hs' q hq)
theorem Bf.did (b:Bf h sn td k dn) (a:e.2.isSome=true->∀ r∈dw e,sn[r]?=some true):Bf h sn td k (dn++[e]):=by
 refine ⟨b.len,b.tm,b.re,b.ro,b.ex,fun e' he' hs' q hq=>?_⟩;rcases eT.1 he' with c|c
 ·exact b.kk e' c hs' q hq
 ·simp at c;subst c;exact a hs' q hq
theorem Bf.fin (b:Bf h sn td k dn) (ho:h.ob k=some o) (hd:dn=o.es):Bf h sn td 0 []:=by
 refine ⟨b.len,b.tm,b.re,b.ro,fun m o' hm ho' hn hk e he hs q hq=>?_,fun e he=>by simp at he⟩;by_cases c:m=k
 ·subst c
  rw [ho] at ho';cases ho';exact b.kk e (hd ▸ he) hs q hq
 ·exact b.ex m o' hm ho' hn c e he hs q hq
theorem Bf.done (i:Inv h) (b:Bf h sn [] 0 []) (n:Nat):sn[n]?=some true↔h.Reach n:=by
 refine ⟨b.re n,fun r=>r (fun n=>sn[n]?=some true) b.ro (fun m o e hm ho he hs q hq=>b.ex m o hm ho (by simp) (fun c=>?_) e he hs q hq)⟩;subst c;rw [i.zero] at ho;cases ho
def rH (sn:List Bool) (td:List Nat):Nat:=sn.length-sn.count true+td.length
theorem xq {r:Nat} (h:sn[r]?=some false):(sn.set r true).count true=sn.count true+1:=by
 induction sn generalizing r with
 |nil=>simp at h
 |cons a l ih=>
  cases r with
  |zero=>simp at h;subst h;simp
  |succ r=>
   have:=ih (r:=r) (by simpa using h);simp only [List.set_cons_succ,List.count_cons,this];omega
theorem Cb {r:Nat} (h:sn[r]?=some false):rH (sn.set r true) (td++[r])=rH sn td:=by
 unfold rH;have a:=xq h;have b:(sn.set r true).count true<=(sn.set r true).length:=List.count_le_length;rw [bX,a] at *;simp;omega
theorem Dc (sn:List Bool) (td:List Nat) (k:Nat):rH sn (k::td)=rH sn td+1:=by unfold rH;simp;omega
theorem zD (root:List Bool):rH root (dR 0 root)=root.length:=by
 unfold rH;rw [pG];have:root.count true<=root.length:=List.count_le_length;omega
end
end Go.Proofs.YtbpcdfbmnklcjaaGreatDoor
namespace Go.Proofs.YtbpcdfbmnklcjaaGreatDoor
open Go.ChangeShapes Go.WideShapes Go.ChangeAt Go Go.RowKit Go.ChangeMaps Go.WideElems
set_option linter.unusedVariables false
section
variable {W W' w:World} {v:Value}
theorem Bo {H:Type} {enc:TypeId × Value->H} {P:Program} {f:Func} {s:ChangeSpec} {apart fresh handsOn again:Bool} {args:Array Value} {ds gs:List (DataW H)} {before pa pv:List MemPlace}
 (n:DataW.Whole enc P f.params.toList s.vars apart W args.toList ds gs before)
 (e:∀ (b:Nat) (h:Nat->Bool) (hd:Bool),DataW.TrodAll enc P W' b h hd f.resultTypes.toList (v.resultList f.resultTypes.size) (s.fn H (ds++gs)).results [])
 (c:∀ h:Nat->Bool,(∀ p∈before,h p.block=true)->DataW.TrodAll enc P W' 0 h true f.params.toList args.toList (s.fn H (ds++gs)).args pa)
 (a:∀ h:Nat->Bool,(∀ p∈before,h p.block=true)->DataW.TrodVars enc P W' h s.vars (s.fn H (ds++gs)).vars pv)
 (d:before=pa++pv) (hb:Below W.heap.size W W')
 (m:∀ (j:Nat) (t:TypeId) (r:Value),f.resultTypes[j]?=some t->(v.resultList f.resultTypes.size)[j]?=some r->Value.okWide P W' .any 0 t r):
 s.post enc P f apart fresh handsOn again W args v W':=by
 have l:=n.lt;have g:∀ p∈before,(fun b=>decide (b<W.heap.size)) p.block=true:=fun p hp=>by simpa using l p hp
 refine ⟨ds,gs,before,[],pa,pv,n,e _ _ _,c _ g,a _ g,World.keptBut_mono (fun p hp=>⟨hp,?_⟩) (hb.frame _),fun _=>?_⟩
 ·rw [d,eT] at hp
  exact Or.inr hp
 ·obtain ⟨_,_,_,_,_,o,q⟩:=n
  refine ⟨m,_,_,([]++pa)++pv,⟨[]++pa,pv,trodAll_append (c _ (fun _ _=>rfl)) (e _ _ _),a _ (fun _ _=>rfl),rfl,?_,?_⟩,?_⟩
  ·intro b i hp
   have k:MemPlace.cell b i∈before:=by rw [d];simpa using hp
   rw [hb.frozen (p:=⟨b,i,none⟩) (l _ k)];exact o b i k
  ·intro u
   have:=q u;rw [d] at this
   simpa using this
  ·intro p hp _
   rw [d]
   simpa using hp
theorem AZ {b o:Nat} {sp:Option Nat} (h:w.cell? ⟨b,o,sp⟩=some v):b<w.heap.size:=by
 rcases Nat.lt_or_ge b w.heap.size with g|g
 ·exact g
 ·exfalso
  unfold World.cell? at h;rw [Array.getElem?_eq_none g] at h;cases h
theorem u_ {b o:Nat} {sp:Option Nat} (h:w.cell? ⟨b,o,sp⟩=some v):sp=none:=by
 rcases sp with _|x
 ·rfl
 ·exact absurd h (by unfold World.cell?;split<;>simp)
theorem rW (b o k:Nat):(⟨b,o,none⟩:Addr).add k=⟨b,o+k,none⟩:=by
 unfold Addr.add;split
 ·rename_i h;subst h;rfl
 ·rfl
theorem Tryz.own:ownKnob Tryz.prog.godebug=none:=by kernel_rfl
theorem Tryz.laidOut:laidOutB Tryz.prog=true:=by kernel_rfl
end
end Go.Proofs.YtbpcdfbmnklcjaaGreatDoor
namespace Go.Proofs.YtbpcdfbmnklcjaaGreatDoor
open Go
set_option maxRecDepth 100000
theorem Oq:joinedFacts Tryz.prog 4 Tryz.f4 (OpenSpec.ofChange Rows.fnHeapCleanSpec).bare Rows.fnHeapCleanRow=true:=by kernel_rfl
theorem Ox:Tryz.f4.isInstance Tryz.prog Rows.fnHeapCleanRow.origin Rows.fnHeapCleanRow.targs:=of_decide_eq_true (by kernel_rfl)
theorem Ov:Tryz.prog.funcNamed Rows.fnHeapCleanRow.func=some 4:=by kernel_rfl
theorem Ou:Tryz.f4.isWrapper Tryz.prog Rows.fnHeapCleanRow.wrapper Rows.fnHeapCleanRow.mainSum:=by unfold Func.isWrapper;first |(rw [if_pos (by decide+kernel)];kernel_rfl)|(rw [if_neg (by decide+kernel)];exact ⟨rfl,rfl⟩)
end Go.Proofs.YtbpcdfbmnklcjaaGreatDoor
