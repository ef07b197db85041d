import Derived.Test.YtedpifhlffcmkaaGreatDoorKHSJ2
import Derived.Test.YtedpifhlffcmkaaGreatDoorKHN
import Derived.Test.YtedpifhlffcmkaaGreatDoorKHS6
import Derived.ArgAppend
import Derived.Test.YtedpifhlffcmkaaGreatDoorRows
import Derived.LaidSub
import Derived.WalkKit
import Derived.ProofKit
import Derived.OpenShut
import Derived.Deep.DeepHandedRow
import Derived.ChangeMaps5
import Derived.Carry
import Derived.ChangeOld
import Derived.Lib.SmallJoins
import Derived.ChangeSlices
namespace Go.Proofs.YtedpifhlffcmkaaGreatDoor
open Go Go.RowKit
set_option linter.unusedVariables false
section
variable {h:Hp} {o:Ob}
structure Gd (h:Hp):Prop where
 i:Inv h
 s:Sm h
 n:jY h
 e:h.state≠1->h.grey=[]/\h.again=[]/\h.weak=[]/\h.D8=[]
theorem Gd.Jc (g:Gd h) (hs:h.state=1):Jy h:=
 ⟨Wk.of g.s (g.i.s1 hs) g.i.zero g.i.ps g.i.md,g.i.s1 hs,fun n hn=>Hp.ES (g.i.ls n hn),g.i.w1⟩
theorem Gd.take {h:Hp} (g:Gd h) (hs:h.state=1) (hg:h.grey≠[]):Gd h.take.1:=
 ⟨g.i.take hs,g.s.take hg,g.n.of (JM.take h).lens (JM.take h).bytes (JM.take h).live,fun c=>absurd ((JM.take h).state.trans hs) c⟩
theorem tY (h1:h.grey=[]) (h2:h.D8=[]) (h3:h.weak=[]):h.nu=h.wn:=by
 unfold Hp.nu Hp.mu
 rw [h1,h2,h3]
 simp
theorem Gd.begin {h:Hp} (g:Gd h) (hs:h.state=0):Gd h.begin:=by
 refine ⟨(g.i.begin hs).1,?_,?_,fun c=>absurd (g.i.begin hs).2 c⟩
 ·exact (Sm.alive g.s.Ev)
 ·have m:=JM.alive h.Ev
  exact g.n.of (m.lens) m.bytes m.live
theorem Gd.atomic {h:Hp} (g:Gd h) (hs:h.state=1):Gd h.atomic:=by
 obtain ⟨hi,hst,hl,hsw⟩:=g.i.atomic hs
 have x:=g.Jc hs
 obtain ⟨k1,k2,k3,k4,k5,k6⟩:=h.E9
 have w3:Sm h.JY.at2.at3:=by
  have w1:Wk h.JY:=(x.k.alive.drain (x.t.JN (I_.alive h))).look (x.t.JN (I_.alive h)).drain|>.settle (x.t.JN (I_.alive h)).drain.D_
  have w2:=w1.at2 x.t.JY
  exact ((w2.JN (I_.Eh _ _) (Nat.le_of_eq (bQ Hp.mark Hp.EC _ _))).settle (x.t.JY.at2.JN (I_.Eh _ _))).s
 have w5:Sm h.JY.at2.at3.at4.Jp:=(w3.cnt (J2.at4 _)).cnt (J2.Jp _)
 have t2:=x.t.JY.at2
 obtain ⟨o1,o2,o3,o4⟩:=oO x.t (fun n hn=>x.l n (hn.elim .inl (fun y=>.inr (.inl y))))
 have g3:=(Hp.Fx (t2.JN (I_.Eh h.JY.at2 h.JY.at2.pending))).1
 have ga3:h.JY.at2.at3.again=[]:=(JM.at3 _).again.trans ((dA h.JY).2.2.2.2.1.trans o2)
 have c5:=(J2.at4 h.JY.at2.at3).trans (J2.Jp _)
 refine ⟨hi,⟨w5.len,?_,w5.fp,w5.fr,w5.JQ,w5.cr,w5.lim,w5.rt,w5.es⟩,?_,fun _=>⟨c5.grey.trans g3,c5.again.trans ga3,rfl,rfl⟩⟩
 ·have h1:=w5.nu
  have h2:h.atomic.nu<=h.JY.at2.at3.at4.Jp.nu:=by
   show h.JY.at2.at3.at4.Jp.wn+h.JY.at2.at3.at4.Jp.grey.length+0+0<=h.JY.at2.at3.at4.Jp.wn+h.JY.at2.at3.at4.Jp.grey.length+_+_
   omega
  show h.atomic.nu+h.JY.at2.at3.at4.Jp.again.length<=20000
  omega
 ·exact g.n.of (qW h) k2 k3
theorem iH (h:Hp):h.D9.grey=h.grey/\h.D9.again=h.again/\h.D9.D8=h.D8/\h.D9.weak=h.weak/\h.D9.finals=h.finals/\h.D9.pending=h.pending/\h.D9.roots=h.roots/\h.D9.limit=h.limit:=by
 unfold Hp.D9
 split
 ·split<;>exact ⟨rfl,rfl,rfl,rfl,rfl,rfl,rfl,rfl⟩
 ·exact ⟨rfl,rfl,rfl,rfl,rfl,rfl,rfl,rfl⟩
theorem jG {n:Nat} (e:h.D9.ob n=some o):∃ o',h.ob n=some o'/\o'.es=o.es:=by
 unfold Hp.D9 at e
 split at e
 ·split at e
  ·have e':Hp.ob { h with objs:=h.objs.set h.D7 none } n=some o:=e
   rw [Hp.G_] at e'
   split at e'
   ·cases e'
   ·exact ⟨o,e',rfl⟩
  ·have e':(h.upd h.D7 fun o=>{ o with col:=h.white }).ob n=some o:=e
   rw [Hp.Ed] at e'
   split at e'
   ·cases hb:h.ob n with
    |none=>rw [hb] at e';simp at e'
    |some o2=>rw [hb] at e';simp at e';subst e';exact ⟨o2,rfl,rfl⟩
   ·exact ⟨o,e',rfl⟩
 ·exact ⟨o,e,rfl⟩
theorem Gd.Ec {h:Hp} (g:Gd h) (hs:h.state=2):Gd h.Ec:=by
 obtain ⟨w0,w1,w2,w3⟩:=g.e (by omega)
 obtain ⟨n1,n2,n3⟩:=(show jY h.skipped from g.n).D9
 obtain ⟨a1,a2,a3,a4,a5,a6,a7,a8⟩:=iH h.skipped
 obtain ⟨i2,s2,l2⟩:=(g.i.skipped hs).D9 hs
 have key:∀ t:Hp,t=h.skipped.D9.skipped->Sm t.close/\jY t.close/\t.close.grey=[]/\t.close.again=[]/\t.close.weak=[]/\t.close.D8=[]:=by
  intro t ht
  have e1:t.grey=[]/\t.again=[]/\t.weak=[]/\t.D8=[]:=by rw [ht];exact ⟨a1.trans w0,a2.trans w1,a4.trans w2,a3.trans w3⟩
  have hwn:=sG t
  have hln:t.objs.length<=5001:=by rw [ht];show h.skipped.D9.objs.length<=_;rw [l2];exact g.s.len
  have hnu:t.nu+t.again.length<=20000:=by
   rw [tY e1.1 e1.2.2.2 e1.2.2.1,e1.2.1]
   simp only [List.length_nil]
   omega
  have hfp:t.finals.length+t.pending.length<=5000:=by rw [ht];show h.skipped.D9.finals.length+h.skipped.D9.pending.length<=_;rw [a5,a6];exact g.s.fp
  have hfr:t.freed.length+t.live<=10000:=by rw [ht];show h.skipped.D9.freed.length+h.skipped.D9.live<=_;rw [n2];exact g.s.fr
  have hby:t.bytes<=200000:=by rw [ht];exact Nat.le_trans n3 g.s.JQ
  have hcr:t.D6<=200000:=by rw [ht];show h.skipped.D9.D6<=_;rw [Hp.EL];exact g.s.cr
  have hlm:t.limit<=404096:=by rw [ht];show h.skipped.D9.limit<=_;rw [a8];exact g.s.lim
  have hrt:t.roots.length<=5001:=by rw [ht];show h.skipped.D9.roots.length<=_;rw [a7];exact g.s.rt
  have hes:∀ n o,t.ob n=some o->o.es.length<=5000:=by
   intro n o e
   rw [ht] at e
   obtain ⟨o',e',h9⟩:=jG (h:=h.skipped) (show h.skipped.D9.ob n=some o from e)
   rw [<-h9]
   exact g.s.es n o' e'
  have hnm:jY t:=by rw [ht];exact n1
  unfold Hp.close
  split
  ·exact ⟨⟨hln,hnu,hfp,hfr,hby,hcr,hlm,hrt,hes⟩,hnm,e1⟩
  ·exact ⟨⟨hln,hnu,hfp,hfr,hby,Nat.zero_le _,by show max (2*t.bytes) 4096<=_;omega,hrt,hes⟩,hnm,e1⟩
 obtain ⟨k1,k2,k3⟩:=key _ rfl
 exact ⟨g.i.Ec hs,k1,k2,fun _=>k3⟩
theorem Gd.advance {h:Hp} (g:Gd h) (hs:h.state≠0):Gd h.advance.1:=by
 unfold Hp.advance
 split
 ·rename_i h2;exact g.Ec h2
 ·rename_i h2
  have:=g.i.st
  have h1:h.state=1:=by omega
  split
  ·exact g.atomic h1
  ·rename_i hg;exact g.take h1 hg
theorem Gd.work {u:Int} {h:Hp} (g:Gd h):Gd (Hp.work u h):=Hp.EP (P:=fun _ h q=>Gd h->Gd q) (fun u h _ g=>g) (fun u h q _ hs x g=>x (g.advance hs)) u h g
theorem Gd.step {u:Int} {h:Hp} (g:Gd h):Gd (Hp.step u h):=by
 unfold Hp.step
 split
 ·rename_i hs;exact (g.begin hs).work
 ·exact g.work
theorem Gd.finish {h:Hp} (g:Gd h):Gd h.finish:=Hp.EY (P:=fun h q=>Gd h->Gd q) (fun h _ g=>g) (fun h q _ hs x g=>x (g.advance hs)) h g.i g
theorem Gd.full {h:Hp} (g:Gd h):Gd h.full:=(g.finish.begin g.i.finish.2).finish
theorem Gd.F9 {h:Hp} (g:Gd h) (c:Nat) (hc:c<=200000):Gd { h with D6:=c }:=
 ⟨g.i.F9 c,⟨g.s.len,g.s.nu,g.s.fp,g.s.fr,g.s.JQ,hc,g.s.lim,g.s.rt,g.s.es⟩,g.n,g.e⟩
theorem Gd.ED {h:Hp} (g:Gd h):Gd h.ED:=Hp.Fp (P:=fun h q=>Gd h->Gd q) (fun h _ g=>g) (fun h q _ _ x g=>x (g.F9 _ (by have:=g.s.cr;omega)).step) h g
theorem Gd.Fe {h:Hp} (g:Gd h):Gd h.Fe:=by
 unfold Hp.Fe
 split
 ·split
  ·exact g
  ·exact (g.F9 0 (by omega)).step
 ·exact g.ED
end
end Go.Proofs.YtedpifhlffcmkaaGreatDoor
namespace Go.Proofs.YtedpifhlffcmkaaGreatDoor
set_option linter.unusedVariables false
section
variable {dn:List En} {e:En} {h:Hp} {j k n:Nat} {o:Ob} {root sn:List Bool} {td:List Nat}
def bV:Nat->List Bool->List Nat
 |_,[]=>[]
 |i,b::l=>(if b then [i] else [])++bV (i+1) l
theorem iw:∀ (l:List Bool) (i:Nat) (b:Bool),bV i (l++[b])=bV i l++(if b then [i+l.length] else [])
 | [],i,b=>by simp [bV]
 |a::l,i,b=>by
  rw [List.cons_append,bV,iw l (i+1) b,bV,List.append_assoc,List.length_cons,show i+1+l.length=i+(l.length+1) by omega]
theorem gy {l:List Bool} {b:Bool} (h:l[j]?=some b):bV 0 (l.take (j+1))=bV 0 (l.take j)++(if b then [j] else []):=by
 obtain ⟨hj,rfl⟩:=List.getElem?_eq_some_iff.1 h
 rw [List.take_add_one,h,Option.toList_some,iw]
 rw [List.length_take,Nat.min_eq_left (Nat.le_of_lt hj),Nat.zero_add]
theorem oF:∀ (l:List Bool) (i n:Nat),n∈bV i l↔i<=n/\l[n-i]?=some true
 | [],i,n=>by simp [bV]
 |a::l,i,n=>by
  rw [bV,List.mem_append,oF l (i+1) n]
  constructor
  ·rintro (h|⟨h1,h2⟩)
   ·cases a with
    |false=>simp at h
    |true=>simp at h;subst h;simp
   ·refine ⟨by omega,?_⟩
    rw [show n-i=(n-(i+1))+1 by omega]
    simpa using h2
  ·rintro ⟨h1,h2⟩
   rcases Nat.eq_or_lt_of_le h1 with c|c
   ·subst c
    left
    simp at h2
    simp [h2]
   ·right
    refine ⟨c,?_⟩
    rw [show n-i=(n-(i+1))+1 by omega] at h2
    simpa using h2
theorem bZ {l:List Bool} :n∈bV 0 l↔l[n]?=some true:=by rw [oF];simp
theorem eZ:∀ (l:List Bool) (i:Nat),(bV i l).length<=l.length
 | [],i=>by simp [bV]
 |a::l,i=>by
  have:=eZ l (i+1)
  rw [bV,List.length_append,List.length_cons]
  cases a<;>simp<;>omega
theorem mW:∀ (l:List Bool) (i:Nat),(bV i l).length=l.count true
 | [],i=>by simp [bV]
 |a::l,i=>by
  rw [bV,List.length_append,mW l (i+1)]
  cases a
  ·simp
  ·simp;omega
structure Bf (h:Hp) (sn:List Bool) (td:List Nat) (k:Nat) (dn:List En):Prop where
 len:sn.length=h.objs.length
 tm:∀ n∈td,sn[n]?=some true
 re:∀ n,sn[n]?=some true->h.Reach n
 ro:∀ r∈h.roots,sn[r]?=some true
 ex:∀ m o,sn[m]?=some true->h.ob m=some o->m ∉ td->m≠k->∀ e∈o.es,e.2.isSome=true->∀ r∈bM e,sn[r]?=some true
 kk:∀ e∈dn,e.2.isSome=true->∀ r∈bM e,sn[r]?=some true
theorem Bf.start (i:Inv h) (hl:root.length=h.objs.length) (hr:h.roots=bV 0 root):Bf h root (bV 0 root) 0 []:=by
 refine ⟨hl,fun n hn=>bZ.1 hn,fun n hn=>?_,fun r hr'=>?_,fun m o hm ho hn hk=>?_,fun e he=>by simp at he⟩
 ·exact Hp.FV (by rw [hr];exact bZ.2 hn)
 ·rw [hr] at hr';exact bZ.1 hr'
 ·exact absurd (bZ.2 hm) hn
theorem Bf.pop (i:Inv h) (b:Bf h sn (k::td) 0 []):Bf h sn td k []:=by
 refine ⟨b.len,fun n hn=>b.tm n (List.mem_cons_of_mem _ hn),b.re,b.ro,fun m o hm ho hn hk=>b.ex m o hm ho (fun c=>?_) (fun c=>?_),fun e he=>by simp at he⟩
 ·rcases List.mem_cons.1 c with c|c
  ·exact hk c
  ·exact hn c
 ·subst c;rw [i.zero] at ho;cases ho
theorem Bf.add (b:Bf h sn td k dn) {r:Nat} (hk:h.Reach k) (ho:h.ob k=some o) (he:e∈o.es) (hs:e.2.isSome=true) (hr:r∈bM e) (hl:r<sn.length):Bf h (sn.set r true) (td++[r]) k dn:=by
 have up:∀ n:Nat,sn[n]?=some true->(sn.set r true)[n]?=some true:=by
  intro n hn
  rw [List.getElem?_set]
  split
  ·rename_i c;subst c;simp
  ·exact hn
 have dn':∀ n:Nat,(sn.set r true)[n]?=some true->n=r∨sn[n]?=some true:=by
  intro n hn
  rw [List.getElem?_set] at hn
  split at hn
  ·rename_i c;exact .inl c.symm
  ·exact .inr hn
 refine ⟨by rw [List.length_set];exact b.len,fun n hn=>?_,fun n hn=>?_,fun q hq=>up q (b.ro q hq),fun m o' hm ho' hn hmk e' he' hs' q hq=>?_,fun e' he' hs' q hq=>up q (b.kk e' he' hs' q hq)⟩
 ·rcases List.mem_append.1 hn with c|c
  ·exact up n (b.tm n c)
  ·simp at c;subst c;simp [hl]
 ·rcases dn' n hn with c|c
  ·subst c;exact Hp.Fv hk ho he hs hr
  ·exact b.re n c
 ·rcases dn' m hm with c|c
  ·subst c;exact absurd (List.mem_append_right _ (List.mem_singleton.2 rfl)) hn
  ·exact up q (b.ex m o' c ho' (fun x=>hn (List.mem_append_left _ x)) hmk e' he' hs' q hq)
theorem Bf.did (b:Bf h sn td k dn) (he:e.2.isSome=true->∀ r∈bM e,sn[r]?=some true):Bf h sn td k (dn++[e]):=by
 refine ⟨b.len,b.tm,b.re,b.ro,b.ex,fun e' he' hs' q hq=>?_⟩
 rcases List.mem_append.1 he' with c|c
 ·exact b.kk e' c hs' q hq
 ·simp at c;subst c;exact he hs' q hq
theorem Bf.fin (b:Bf h sn td k dn) (ho:h.ob k=some o) (hd:dn=o.es):Bf h sn td 0 []:=by
 refine ⟨b.len,b.tm,b.re,b.ro,fun m o' hm ho' hn hk e he hs q hq=>?_,fun e he=>by simp at he⟩
 by_cases c:m=k
 ·subst c
  rw [ho] at ho';cases ho'
  exact b.kk e (hd ▸ he) hs q hq
 ·exact b.ex m o' hm ho' hn c e he hs q hq
theorem Bf.done (i:Inv h) (b:Bf h sn [] 0 []) (n:Nat):sn[n]?=some true↔h.Reach n:=by
 refine ⟨b.re n,fun r=>r (fun n=>sn[n]?=some true) b.ro (fun m o e hm ho he hs q hq=>b.ex m o hm ho (by simp) (fun c=>?_) e he hs q hq)⟩
 subst c;rw [i.zero] at ho;cases ho
def o9 (sn:List Bool) (td:List Nat):Nat:=sn.length-sn.count true+td.length
theorem uR {r:Nat} (h:sn[r]?=some false):(sn.set r true).count true=sn.count true+1:=by
 induction sn generalizing r with
 |nil=>simp at h
 |cons a l ih=>
  cases r with
  |zero=>simp at h;subst h;simp
  |succ r=>
   have:=ih (r:=r) (by simpa using h)
   simp only [List.set_cons_succ,List.count_cons,this]
   omega
theorem yV {r:Nat} (h:sn[r]?=some false):o9 (sn.set r true) (td++[r])=o9 sn td:=by
 unfold o9
 have h1:=uR h
 have h2:(sn.set r true).count true<=(sn.set r true).length:=List.count_le_length
 rw [List.length_set,h1] at *
 simp
 omega
theorem Av (sn:List Bool) (td:List Nat) (k:Nat):o9 sn (k::td)=o9 sn td+1:=by unfold o9;simp;omega
theorem xg (root:List Bool):o9 root (bV 0 root)=root.length:=by
 unfold o9
 rw [mW]
 have:root.count true<=root.length:=List.count_le_length
 omega
end
end Go.Proofs.YtedpifhlffcmkaaGreatDoor
namespace Go.Proofs.YtedpifhlffcmkaaGreatDoor
open Go Go.RowKit
set_option linter.unusedVariables false
section
variable {N T cap g k lo n:Nat} {Q:Exit->Act->World->Prop} {S:Nat->Prop} {ac:Act} {f:Nat->Value} {ops:Array Oper} {rest:List Oper} {td:List Nat} {w w' wr:World}
def kH (w:World) (lo g k cap:Nat) (td:List Nat):Prop:=td.length<=cap/\lo<=g/\∃ cur:Array Value,w.heap[g]?=some (.cells cur 3 (0,0))/\k+cap<=cur.size/\∀ (j n:Nat),td[j]?=some n->cur[k+j]?=some (.int .i64 (n:Int))
theorem kH.lt (a:kH w lo g k cap td):g<w.heap.size:=by
 obtain ⟨_,_,cur,h1,_⟩:=a
 rcases Nat.lt_or_ge g w.heap.size with c|c
 ·exact c
 ·rw [Array.getElem?_eq_none c] at h1;cases h1
theorem kH.keep (a:kH w lo g k cap td) (kk:Keeps w w' S) (hn:¬ S g):kH w' lo g k cap td:=by
 have hl:=a.lt
 obtain ⟨h1,h2,cur,h3,h4⟩:=a
 exact ⟨h1,h2,cur,(kk.block g hl hn).trans h3,h4⟩
theorem kH.cell {w:World} {lo g k cap:Nat} {td:List Nat} (a:kH w lo g k cap td) {j n:Nat} (h:td[j]?=some n):w.cell? ⟨g,k+j,none⟩=some (.int .i64 (n:Int)):=by
 obtain ⟨h1,h2,cur,h3,h4,h5⟩:=a
 simp [World.cell?,h3,h5 j n h]
theorem kH.tail (a:kH w lo g k cap (n::td)):kH w lo g (k+1) (cap-1) td:=by
 obtain ⟨h1,h2,cur,h3,h4,h5⟩:=a
 rw [List.length_cons] at h1
 refine ⟨by omega,h2,cur,h3,by omega,fun j m hm=>?_⟩
 rw [show k+1+j=k+(j+1) by omega]
 exact h5 (j+1) m (by simpa using hm)
theorem kH.IJ (a:kH w lo g k cap (n::td)):∃ k1,(if cap=1 then some (⟨g,k,none⟩:Addr) else some ⟨g,k+1,none⟩)=some ⟨g,k1,none⟩/\kH w lo g k1 (cap-1) td:=by
 by_cases c:cap=1
 ·refine ⟨k,by rw [if_pos c],?_⟩
  obtain ⟨h1,h2,cur,h3,h4,h5⟩:=a
  rw [List.length_cons] at h1
  have:td=[]:=List.length_eq_zero_iff.1 (by omega)
  subst this
  exact ⟨by simp,h2,cur,h3,by omega,fun j m hm=>by simp at hm⟩
 ·exact ⟨k+1,by rw [if_neg c],a.tail⟩
theorem kH.apart {G:Nat} (a:kH w lo g k cap td) (r:aD w T G N f) (hT:T≠3):g≠G:=by
 rintro rfl
 obtain ⟨_,_,cur,h3,_⟩:=a
 obtain ⟨c,h1,_⟩:=r
 rw [h1] at h3
 simp at h3
 exact hT h3.2
theorem kH.start (w:World) (h:lo<=w.heap.size):kH (w.alloc (.cells #[] 3)) lo w.heap.size 0 0 []:=by
 refine ⟨by simp,h,#[],heap_alloc_new w _,by simp,fun j n hj=>by simp at hj⟩
theorem kH.app (al:kH wr lo g k cap td) {o:Oper} (hgd:o.guard=none) (s x:Operand)
 (ho:o.op=.call { callee:=.builtin .append,args:=#[s,x],argTypes:=#[30,30] }) (hs:ac.eval s=.slice (some ⟨g,k,none⟩) td.length cap) (n:Nat) (hx:ac.eval x=.slice (some ⟨wr.heap.size,0,none⟩) 1 1) (hlen:td.length<=1000000) (hlo:lo<=wr.heap.size)
 (hK:∀ (g' k' cap':Nat) (w':World),kH w' lo g' k' cap' (td++[n])->Keeps wr w' (fun b=>b=g)->wpList Tryz.prog ops Q rest (ac.put o.dst (.slice (some ⟨g',k',none⟩) (td.length+1) cap')) w'):
 wpList Tryz.prog ops Q (o::rest) ac (wr.alloc (.cells #[.int .i64 (n:Int)] 3)):=by
 obtain ⟨i0,hi,hz0,hz1,hz2⟩:=info_parts iK
 have hlt:=al.lt
 obtain ⟨h1,h2,cur,h3,h4,h5⟩:=al
 have h3':(wr.alloc (.cells #[.int .i64 (n:Int)] 3)).heap[g]?=some (.cells cur 3 (0,0)):=((aJ wr _).block g hlt).trans h3
 have hln:(bU td).length=td.length*1:=by simp [bU]
 refine wpList_append_arg _ hgd s x 30 ho 3 i0 (.int .i64 0) 1 8 Tryz.underlying30 hi hz0 hz1 hz2 rfl (by decide) g k td.length cap (bU td) hs hln (fun j u hj=>?_) ⟨wr.heap.size,0,none⟩ 1 1 [.int .i64 (n:Int)] hx rfl (fun j u hj=>?_) (fun u hu=>by simp at hu;subst hu;rfl) (fun hc j hj=>?_) (by unfold maxLen;omega) (by omega) (fun hc=>?_) (fun hc v' w' hown hgr=>?_)
 ·have hjl:j<td.length:=by
   have:=(List.getElem?_eq_some_iff.1 hj).1
   omega
  have hu:u=.int .i64 (td[j]:Int):=by
   simp [bU,hjl] at hj
   exact hj.symm
  subst hu
  have:=h5 j td[j] (List.getElem?_eq_getElem hjl)
  simp [World.cell?,h3',this]
 ·rw [aY,Nat.zero_add]
  obtain ⟨hl,rfl⟩:=List.getElem?_eq_some_iff.1 hj
  have:=(aD.mk' wr 3 #[.int .i64 (n:Int)]).cell (j:=j) (by simpa using hl)
  rw [this]
  simp at hl
  subst hl
  rfl
 ·simp at hj
  subst hj
  have hcs:k+td.length*1+0<cur.size:=by omega
  refine ⟨?_,?_⟩
  ·simp only [World.cell?,h3']
   rw [Array.getElem?_eq_getElem hcs]
   rfl
  ·simp [World.frozen?,h3']
 ·have e:(wr.alloc (.cells #[.int .i64 (n:Int)] 3)).setCells g (k+td.length*1) [.int .i64 (n:Int)]=(wr.alloc (.cells #[.int .i64 (n:Int)] 3)).setCell ⟨g,k+td.length,none⟩ (.int .i64 (n:Int)):=by
   rw [Nat.mul_one];rfl
  rw [e]
  have hsm:=heap_setCell_same _ g (k+td.length) _ _ (.int .i64 (n:Int)) h3'
  have hb1:=aJ wr (.cells #[.int .i64 (n:Int)] 3)
  have kk:Keeps wr ((wr.alloc (.cells #[.int .i64 (n:Int)] 3)).setCell ⟨g,k+td.length,none⟩ (.int .i64 (n:Int))) (fun b=>b=g):=
   (Keeps.of hb1 (Nat.le_refl _) (fun b=>b=g)).setCell rfl _
  refine hK g k cap _ ⟨by simp;omega,h2,_,hsm,?_,fun j m hm=>?_⟩ kk
  ·simpa using h4
  ·have hjl:=(List.getElem?_eq_some_iff.1 hm).1
   rw [List.length_append,List.length_singleton] at hjl
   by_cases c:j=td.length
   ·subst c
    simp at hm
    subst hm
    have:k+td.length<cur.size:=by omega
    simp [this]
   ·have hj2:j<td.length:=by omega
    rw [List.getElem?_append_left hj2] at hm
    have:=h5 j m hm
    have hne:k+td.length≠k+j:=by omega
    rw [Array.getElem?_setIfInBounds_ne hne]
    exact this
 ·obtain ⟨hl,⟨h9,h9'⟩|⟨g',cap',cur',rfl,hb,hg,hnc,hcm,hcs,htk⟩⟩:=hown
  ·omega
  ·have hsz:=(aJ wr (.cells #[.int .i64 (n:Int)] 3)).size
   refine hK g' 0 cap' w' ⟨by simp;exact hnc,by omega,cur',hg,by omega,fun j m hm=>?_⟩ ?_
   ·have hjl:=(List.getElem?_eq_some_iff.1 hm).1
    rw [List.length_append,List.length_singleton] at hjl
    have h9:(cur'.toList.take ((td.length+1)*1))[j]?=(bU (td++[n]))[j]?:=by rw [htk];simp [bU]
    rw [List.getElem?_take,if_pos (by omega)] at h9
    rw [Nat.zero_add,<-Array.getElem?_toList,h9,bU,List.getElem?_map,hm]
    rfl
   ·have hb1:=aJ wr (.cells #[.int .i64 (n:Int)] 3)
    exact ⟨hgr.os.trans hb1.os,hgr.tape.trans hb1.tape,hgr.output.trans hb1.output,Nat.le_trans hb1.size hgr.size,fun b hb' _=>(hgr.block b (Nat.lt_of_lt_of_le hb' hb1.size) (by simp)).trans (hb1.block b hb')⟩
end
end Go.Proofs.YtedpifhlffcmkaaGreatDoor
namespace Go.Proofs.YtedpifhlffcmkaaGreatDoor
open Go.ChangeShapes Go.WideShapes Go.ChangeAt Go Go.RowKit Go.ChangeMaps Go.WideElems
set_option linter.unusedVariables false
section
variable {W W' w:World} {b:Nat} {v:Value}
theorem yt {H:Type} {enc:TypeId × Value->H} {P:Program} {f:Func} {s:ChangeSpec} {apart fresh handsOn again:Bool} {args:Array Value} {ds gs:List (DataW H)} {before pa pv:List MemPlace}
 (hW:DataW.Whole enc P f.params.toList s.vars apart W args.toList ds gs before)
 (hres:∀ (b:Nat) (sp:Nat->Bool) (hd:Bool),DataW.TrodAll enc P W' b sp hd f.resultTypes.toList (v.resultList f.resultTypes.size) (s.fn H (ds++gs)).results [])
 (hargs:∀ sp:Nat->Bool,(∀ p∈before,sp p.block=true)->DataW.TrodAll enc P W' 0 sp true f.params.toList args.toList (s.fn H (ds++gs)).args pa)
 (hvars:∀ sp:Nat->Bool,(∀ p∈before,sp p.block=true)->DataW.TrodVars enc P W' sp s.vars (s.fn H (ds++gs)).vars pv)
 (hps:before=pa++pv) (hb:Below W.heap.size W W')
 (hok:∀ (j:Nat) (t:TypeId) (r:Value),f.resultTypes[j]?=some t->(v.resultList f.resultTypes.size)[j]?=some r->Value.okWide P W' .any 0 t r):
 s.post enc P f apart fresh handsOn again W args v W':=by
 have hlt:=hW.lt
 have hold:∀ p∈before,(fun b=>decide (b<W.heap.size)) p.block=true:=fun p hp=>by simpa using hlt p hp
 refine ⟨ds,gs,before,[],pa,pv,hW,hres _ _ _,hargs _ hold,hvars _ hold,World.keptBut_mono (fun p hp=>⟨hp,?_⟩) (hb.frame _),fun _=>?_⟩
 ·rw [hps,List.mem_append] at hp
  exact Or.inr hp
 ·obtain ⟨_,_,_,_,_,hz,hn⟩:=hW
  refine ⟨hok,_,_,([]++pa)++pv,⟨[]++pa,pv,trodAll_append (hargs _ (fun _ _=>rfl)) (hres _ _ _),hvars _ (fun _ _=>rfl),rfl,?_,?_⟩,?_⟩
  ·intro b off hp
   have hp':MemPlace.cell b off∈before:=by rw [hps];simpa using hp
   rw [hb.frozen (p:=⟨b,off,none⟩) (hlt _ hp')]
   exact hz b off hp'
  ·intro ha
   have:=hn ha
   rw [hps] at this
   simpa using this
  ·intro p hp _
   rw [hps]
   simpa using hp
theorem xV {o:Nat} {sp:Option Nat} (h:w.cell? ⟨b,o,sp⟩=some v):b<w.heap.size:=by
 rcases Nat.lt_or_ge b w.heap.size with g|g
 ·exact g
 ·exfalso
  unfold World.cell? at h
  rw [Array.getElem?_eq_none g] at h
  cases h
theorem sK {o:Nat} {sp:Option Nat} (h:w.cell? ⟨b,o,sp⟩=some v):sp=none:=by
 rcases sp with _|x
 ·rfl
 ·exact absurd h (by unfold World.cell?;split<;>simp)
theorem qA (b o k:Nat):(⟨b,o,none⟩:Addr).add k=⟨b,o+k,none⟩:=by
 unfold Addr.add
 split
 ·rename_i h;subst h;rfl
 ·rfl
theorem Tryz.own:ownKnob Tryz.prog.godebug=none:=by kernel_rfl
theorem Tryz.laidOut:laidOutB Tryz.prog=true:=by kernel_rfl
end
end Go.Proofs.YtedpifhlffcmkaaGreatDoor
