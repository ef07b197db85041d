import Derived.Test.YtedpifhlffcmkaaGreatDoorKHZR
namespace Go.Proofs.YtedpifhlffcmkaaGreatDoor
open Go Go.RowKit
set_option maxHeartbeats 6400000
set_option maxRecDepth 100000
set_option linter.unusedVariables false
variable {cap t:Nat} {tb:Nat->Nat} {w:World} {z:Int}
attribute [local go_sem] bD
def jL (x y:Int):Int:=if x<y then -1 else if y<x then 1 else 0
theorem pU (w:World) (x:Int):Calls Tryz.prog 127 #[.int .i64 x] w fun e w'=>e=.returned (.bool false)/\w'=w:=by
 have h1:(x !=x)=false:=by simp
 go_enter Tryz.func127,Tryz.ntmps127
 go_wp2
 go_ret
 exact ⟨rfl,rfl⟩
theorem wS (w:World) (x y:Int):Calls Tryz.prog 108 #[.int .i64 x,.int .i64 y] w fun e w'=>e=.returned (.int .i64 (jL x y))/\w'=w:=by
 have H1:=ah (pU w x)
 have H2:=ah (pU w y)
 by_cases c1:x<y
 ·rw [show jL x y= -1 by unfold jL;rw [if_pos c1]]
  go_enter Tryz.func108,Tryz.ntmps108
  go_wp2_with fail
  refine H1.o.mono ?_
  rintro e2 w2 ⟨rfl,rfl⟩
  go_wp2_with fail
  refine H2.o.mono ?_
  rintro e3 w3 ⟨rfl,rfl⟩
  go_wp2
  go_ret
  exact ⟨rfl,rfl⟩
 ·by_cases c2:y<x
  ·rw [show jL x y=1 by unfold jL;rw [if_neg c1,if_pos c2]]
   have c3:x > y:=c2
   go_enter Tryz.func108,Tryz.ntmps108
   go_wp2_with fail
   refine H1.o.mono ?_
   rintro e2 w2 ⟨rfl,rfl⟩
   go_wp2_with fail
   refine H2.o.mono ?_
   rintro e3 w3 ⟨rfl,rfl⟩
   go_wp2
   go_ret
   exact ⟨rfl,rfl⟩
  ·rw [show jL x y=0 by unfold jL;rw [if_neg c1,if_neg c2]]
   have c3:¬ x > y:=c2
   go_enter Tryz.func108,Tryz.ntmps108
   go_wp2_with fail
   refine H1.o.mono ?_
   rintro e2 w2 ⟨rfl,rfl⟩
   go_wp2_with fail
   refine H2.o.mono ?_
   rintro e3 w3 ⟨rfl,rfl⟩
   go_wp2
   go_ret
   exact ⟨rfl,rfl⟩
theorem tH {n:Int} (h:w.cell? ⟨t,1,none⟩=some (.int .i64 n)):Calls Tryz.prog 77 #[.iface 127 (.pointer (some ⟨t,0,none⟩)),.int .i64 z] w fun e w'=>e=.returned (.int .i64 (jL n z))/\w'=w:=by
 have hm2:=fK t
 have HHD:=ah (d_ w t)
 have HC:=ah (wS w n z)
 go_enter Tryz.func77,Tryz.ntmps77
 go_wp2_with fail
 refine HHD.o.mono ?_
 rintro e2 w2 ⟨rfl,rfl⟩
 go_wp2_with fail
 refine HC.o.mono ?_
 rintro e3 w3 ⟨rfl,rfl⟩
 go_wp2
 go_ret
 exact ⟨rfl,rfl⟩
structure JH (l:List Nat) (z q:Nat):Prop where
 le:q<=l.length
 lo:∀ p m:Nat,l[p]?=some m->p<q->m<z
 hi:∀ p m:Nat,l[p]?=some m->q<=p->z<=m
def mF (l:List Nat) (z q:Nat):Bool:=decide (l[q]?=some z)
theorem zJ {A:Option Addr} {l:List Nat} (hup:l.Pairwise (·< ·)) (hll:l.length<=5001) (hcap:l.length<=cap)
 (hc:∀ p m:Nat,l[p]?=some m->∃ g,A=some ⟨g,0,none⟩/\w.cell? ⟨g,p,none⟩=some (.iface 127 (.pointer (some ⟨tb m,0,none⟩)))/\w.cell? ⟨tb m,1,none⟩=some (.int .i64 (m:Int))) (z:Nat):
 Calls Tryz.prog 76 #[.slice A l.length cap,.int .i64 (z:Int),.func (.func 77) #[] #[]] w fun e w'=>∃ q:Nat,e=.returned (.tuple #[.int .i64 (q:Int),.bool (mF l z q)])/\JH l z q/\w'=w:=by
 have HC:=ah hc
 have HUP:=ah hup
 clear hc hup
 go_enter Tryz.func76,Tryz.ntmps76
 go_wp2
 go_loopw [9,10] (fun iv jv ws=>∃ lo hi:Nat,lo<=hi/\hi<=l.length/\iv=.int .i64 lo/\jv=.int .i64 hi/\Hq (ws=w/\(∀ p m:Nat,l[p]?=some m->p<lo->m<z)/\(∀ p m:Nat,l[p]?=some m->hi<=p->z<=m))) (fun iv jv _=>aU jv-aU iv)
 case atStart=>exact ⟨0,l.length,by omega,by omega,rfl,rfl,rfl,fun p m _ hp=>by omega,fun p m hm hp=>by have:=(List.getElem?_eq_some_iff.1 hm).1;omega⟩
 case round=>
  obtain ⟨lo,hi,h1,h2,rfl,rfl,HJ⟩:=hrel
  obtain ⟨rfl,-⟩:=id HJ.o
  by_cases hlt:lo<hi
  ·have hlti:(lo:Int)<(hi:Int):=by omega
   go_upto_region 5 with (fail)
   obtain ⟨md,hmd1,hmd2,hmd3⟩:∃ md:Nat,((lo:Int)+(hi:Int))/2=(md:Int)/\lo<=md/\md<hi:=⟨(lo+hi)/2,by omega,by omega,by omega⟩
   rw [hmd1]
   have hml:md<l.length:=by omega
   obtain ⟨m,hm⟩:∃ m,l[md]?=some m:=⟨_,List.getElem?_eq_getElem hml⟩
   obtain ⟨g,rfl,hcg,hct⟩:=HC.o md m hm
   have hmi:(md:Int)<(l.length:Int):=by omega
   have HP:=ah (tH (z:=(z:Int)) hct)
   have HM:=ah hm
   clear hct hmd1 hm
   by_cases hmz:m<z
   ·rw [show jL (m:Int) (z:Int)= -1 by unfold jL;rw [if_pos (by omega)]] at HP
    have HL:Hq (∀ p q:Nat,l[p]?=some q->p<md+1->q<z):=ah (fun p q hq hp=>by
     rcases Nat.lt_or_ge p md with c|c
     ·have:=List.pairwise_iff_getElem.1 HUP.o p md (List.getElem?_eq_some_iff.1 hq).1 hml c
      rw [(List.getElem?_eq_some_iff.1 hq).2,(List.getElem?_eq_some_iff.1 HM.o).2] at this
      omega
     ·obtain rfl:p=md:=by omega
      rw [HM.o] at hq
      cases hq
      exact hmz)
    clear hmz
    go_wp2_with fail
    refine HP.o.mono ?_
    rintro e2 w2 ⟨rfl,rfl⟩
    go_wp2
    go_roundw
    case rel=>exact ⟨md+1,hi,by omega,by omega,by simp,rfl,trivial,HL.o,HJ.o.2.2⟩
    case measure=>simp [aU];omega
   ·obtain ⟨cv,hcv,hcv2⟩:∃ cv,jL (m:Int) (z:Int)=cv/\¬ cv<0:=⟨_,rfl,by
     unfold jL
     rw [if_neg (by omega)]
     split<;>omega⟩
    rw [hcv] at HP
    clear hcv
    have HL:Hq (∀ p q:Nat,l[p]?=some q->md<=p->z<=q):=ah (fun p q hq hp=>by
     rcases Nat.eq_or_lt_of_le hp with c|c
     ·subst c
      rw [HM.o] at hq
      cases hq
      omega
     ·have:=List.pairwise_iff_getElem.1 HUP.o md p hml (List.getElem?_eq_some_iff.1 hq).1 c
      rw [(List.getElem?_eq_some_iff.1 hq).2,(List.getElem?_eq_some_iff.1 HM.o).2] at this
      omega)
    clear hmz
    go_wp2_with fail
    refine HP.o.mono ?_
    rintro e2 w2 ⟨rfl,rfl⟩
    go_wp2
    go_roundw
    case rel=>exact ⟨lo,md,by omega,by omega,rfl,rfl,trivial,HJ.o.2.1,HL.o⟩
    case measure=>simp [aU];omega
  ·obtain rfl:hi=lo:=by omega
   have HQ:Hq (JH l z hi):=ah ⟨h2,HJ.o.2.1,HJ.o.2.2⟩
   by_cases hll2:hi<l.length
   ·obtain ⟨m,hm⟩:∃ m,l[hi]?=some m:=⟨_,List.getElem?_eq_getElem hll2⟩
    obtain ⟨g,rfl,hcg,hct⟩:=HC.o hi m hm
    have hmi:(hi:Int)<(l.length:Int):=by omega
    have HP:=ah (tH (z:=(z:Int)) hct)
    obtain ⟨cv,hcv⟩:∃ cv,jL (m:Int) (z:Int)=cv:=⟨_,rfl⟩
    have HCV:Hq (mF l z hi=(cv==0)):=ah (by
     unfold mF
     rw [hm,<-hcv]
     unfold jL
     rw [Bool.eq_iff_iff]
     simp
     split
     ·constructor
      ·intro c;omega
      ·intro c;omega
     ·split
      ·constructor
       ·intro c;omega
       ·intro c;omega
      ·constructor
       ·intro _;rfl
       ·intro _;omega)
    rw [hcv] at HP
    clear hct hm hcv
    go_wp2_with fail
    refine HP.o.mono ?_
    rintro e2 w2 ⟨rfl,rfl⟩
    go_wp2
    ((try simp only [Exit.inBlock,Exit.then]);refine bodyPost_ret (results_tmp2 rfl _ _ _) rfl ?_)
    exact ⟨hi,by rw [HCV.o];rfl,HQ.o,rfl⟩
   ·have hmi:¬ (hi:Int)<(l.length:Int):=by omega
    have HCV:Hq (mF l z hi=false):=ah (by unfold mF;rw [List.getElem?_eq_none (by omega)];rfl)
    go_wp2
    ((try simp only [Exit.inBlock,Exit.then]);refine bodyPost_ret (results_tmp2 rfl _ _ _) rfl ?_)
    exact ⟨hi,by rw [HCV.o];rfl,HQ.o,rfl⟩
end Go.Proofs.YtedpifhlffcmkaaGreatDoor
