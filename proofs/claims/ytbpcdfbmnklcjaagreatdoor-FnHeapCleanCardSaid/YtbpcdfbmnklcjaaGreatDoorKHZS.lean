import Derived.Test.YtbpcdfbmnklcjaaGreatDoorKHZR
namespace Go.Proofs.YtbpcdfbmnklcjaaGreatDoor
open Go Go.RowKit
set_option maxHeartbeats 6400000
set_option maxRecDepth 100000
set_option linter.unusedVariables false
variable {cap t:Nat} {tb:Nat->Nat} {w:World} {z:Int}
attribute [local go_sem] bW
def lW (x y:Int):Int:=if x<y then -1 else if y<x then 1 else 0
theorem rY (w:World) (x:Int):Calls Tryz.prog 127 #[.int .i64 x] w fun e w'=>e=.returned (.bool false)/\w'=w:=by
 have a:(x !=x)=false:=by simp
 go_enter Tryz.func127,Tryz.ntmps127;go_wp2;go_ret;exact ⟨rfl,rfl⟩
theorem Br (w:World) (x y:Int):Calls Tryz.prog 108 #[.int .i64 x,.int .i64 y] w fun e w'=>e=.returned (.int .i64 (lW x y))/\w'=w:=by
 have d:=ah (rY w x);have c:=ah (rY w y);by_cases b:x<y
 ·rw [show lW x y= -1 by unfold lW;rw [if_pos b]]
  go_enter Tryz.func108,Tryz.ntmps108;go_wp2_with fail;refine d.o.mono ?_;rintro h f ⟨rfl,rfl⟩;go_wp2_with fail;refine c.o.mono ?_;rintro g w3 ⟨rfl,rfl⟩;go_wp2;go_ret;exact ⟨rfl,rfl⟩
 ·by_cases a:y<x
  ·rw [show lW x y=1 by unfold lW;rw [if_neg b,if_pos a]]
   have i:x > y:=a;go_enter Tryz.func108,Tryz.ntmps108;go_wp2_with fail;refine d.o.mono ?_;rintro h f ⟨rfl,rfl⟩;go_wp2_with fail;refine c.o.mono ?_;rintro g w3 ⟨rfl,rfl⟩;go_wp2;go_ret;exact ⟨rfl,rfl⟩
  ·rw [show lW x y=0 by unfold lW;rw [if_neg b,if_neg a]]
   have i:¬ x > y:=a;go_enter Tryz.func108,Tryz.ntmps108;go_wp2_with fail;refine d.o.mono ?_;rintro h f ⟨rfl,rfl⟩;go_wp2_with fail;refine c.o.mono ?_;rintro g w3 ⟨rfl,rfl⟩;go_wp2;go_ret;exact ⟨rfl,rfl⟩
theorem vS {n:Int} (h:w.cell? ⟨t,1,none⟩=some (.int .i64 n)):Calls Tryz.prog 77 #[.iface 127 (.pointer (some ⟨t,0,none⟩)),.int .i64 z] w fun e w'=>e=.returned (.int .i64 (lW n z))/\w'=w:=by
 have b:=iO t;have a:=ah (gV w t);have c:=ah (Br w n z);go_enter Tryz.func77,Tryz.ntmps77;go_wp2_with fail;refine a.o.mono ?_;rintro g d ⟨rfl,rfl⟩;go_wp2_with fail;refine c.o.mono ?_;rintro f w3 ⟨rfl,rfl⟩;go_wp2;go_ret;exact ⟨rfl,rfl⟩
structure Nt (l:List Nat) (z q:Nat):Prop where
 le:q<=l.length
 lo:∀ p m:Nat,l[p]?=some m->p<q->m<z
 hi:∀ p m:Nat,l[p]?=some m->q<=p->z<=m
def oO (l:List Nat) (z q:Nat):Bool:=decide (l[q]?=some z)
theorem Cm {A:Option Addr} {l:List Nat} (n:l.Pairwise (·< ·)) (P:l.length<=5001) (H:l.length<=cap)
 (J:∀ p m:Nat,l[p]?=some m->∃ g,A=some ⟨g,0,none⟩/\w.cell? ⟨g,p,none⟩=some (.iface 127 (.pointer (some ⟨tb m,0,none⟩)))/\w.cell? ⟨tb m,1,none⟩=some (.int .i64 (m:Int))) (z:Nat):
 Calls Tryz.prog 76 #[.slice A l.length cap,.int .i64 (z:Int),.func (.func 77) #[] #[]] w fun e w'=>∃ q:Nat,e=.returned (.tuple #[.int .i64 (q:Int),.bool (oO l z q)])/\Nt l z q/\w'=w:=by
 have M:=ah J;have u:=ah n;clear J n;go_enter Tryz.func76,Tryz.ntmps76;go_wp2;go_loopw [9,10] (fun iv jv ws=>∃ lo hi:Nat,lo<=hi/\hi<=l.length/\iv=.int .i64 lo/\jv=.int .i64 hi/\Hq (ws=w/\(∀ p m:Nat,l[p]?=some m->p<lo->m<z)/\(∀ p m:Nat,l[p]?=some m->hi<=p->z<=m))) (fun iv jv _=>bF jv-bF iv)
 case atStart=>exact ⟨0,l.length,by omega,by omega,rfl,rfl,rfl,fun p m _ hp=>by omega,fun p m hm hp=>by have:=(aJ.1 hm).1;omega⟩
 case round=>
  obtain ⟨lo,hi,R,Q,rfl,rfl,v⟩:=hrel;obtain ⟨rfl,-⟩:=id v.o;by_cases N:lo<hi
  ·have F:(lo:Int)<(hi:Int):=by omega
   go_upto_region 5 with (fail)
   obtain ⟨md,d,E,D⟩:∃ md:Nat,((lo:Int)+(hi:Int))/2=(md:Int)/\lo<=md/\md<hi:=⟨(lo+hi)/2,by omega,by omega,by omega⟩
   rw [d];have h:md<l.length:=by omega
   obtain ⟨m,hm⟩:∃ m,l[md]?=some m:=⟨_,aN h⟩
   obtain ⟨g,rfl,y,b⟩:=M.o md m hm;have r:(md:Int)<(l.length:Int):=by omega
   have j:=ah (vS (z:=(z:Int)) b);have x:=ah hm;clear b d hm;by_cases f:m<z
   ·rw [show lW (m:Int) (z:Int)= -1 by unfold lW;rw [if_pos (by omega)]] at j
    have B:Hq (∀ p q:Nat,l[p]?=some q->p<md+1->q<z):=ah (fun p q hq hp=>by
     rcases Nat.lt_or_ge p md with c|c
     ·have:=List.pairwise_iff_getElem.1 u.o p md (aJ.1 hq).1 h c
      rw [(aJ.1 hq).2,(aJ.1 x.o).2] at this;omega
     ·obtain rfl:p=md:=by omega
      rw [x.o] at hq;cases hq;exact f)
    clear f;go_wp2_with fail;refine j.o.mono ?_;rintro K C ⟨rfl,rfl⟩;go_wp2;go_roundw
    case rel=>exact ⟨md+1,hi,by omega,by omega,by simp,rfl,trivial,B.o,v.o.2.2⟩
    case measure=>simp [bF];omega
   ·obtain ⟨i,a,G⟩:∃ i,lW (m:Int) (z:Int)=i/\¬ i<0:=⟨_,rfl,by
     unfold lW;rw [if_neg (by omega)];split<;>omega⟩
    rw [a] at j;clear a;have B:Hq (∀ p q:Nat,l[p]?=some q->md<=p->z<=q):=ah (fun p q hq hp=>by
     rcases Nat.eq_or_lt_of_le hp with c|c
     ·subst c
      rw [x.o] at hq;cases hq;omega
     ·have:=List.pairwise_iff_getElem.1 u.o md p h (aJ.1 hq).1 c
      rw [(aJ.1 hq).2,(aJ.1 x.o).2] at this;omega)
    clear f;go_wp2_with fail;refine j.o.mono ?_;rintro K C ⟨rfl,rfl⟩;go_wp2;go_roundw
    case rel=>exact ⟨lo,md,by omega,by omega,rfl,rfl,trivial,v.o.2.1,B.o⟩
    case measure=>simp [bF];omega
  ·obtain rfl:hi=lo:=by omega
   have L:Hq (Nt l z hi):=ah ⟨Q,v.o.2.1,v.o.2.2⟩;by_cases s:hi<l.length
   ·obtain ⟨m,hm⟩:∃ m,l[hi]?=some m:=⟨_,aN s⟩
    obtain ⟨g,rfl,y,b⟩:=M.o hi m hm;have r:(hi:Int)<(l.length:Int):=by omega
    have j:=ah (vS (z:=(z:Int)) b);obtain ⟨i,a⟩:∃ i,lW (m:Int) (z:Int)=i:=⟨_,rfl⟩
    have k:Hq (oO l z hi=(i==0)):=ah (by
     unfold oO;rw [hm,<-a];unfold lW;rw [Bool.eq_iff_iff];simp;split
     ·constructor
      ·intro c;omega
      ·intro c;omega
     ·split
      ·constructor
       ·intro c;omega
       ·intro c;omega
      ·constructor
       ·intro _;rfl
       ·intro _;omega)
    rw [a] at j;clear b hm a;go_wp2_with fail;refine j.o.mono ?_;rintro K C ⟨rfl,rfl⟩;go_wp2
    ((try simp only [Exit.inBlock,Exit.then]);refine bodyPost_ret (results_tmp2 rfl _ _ _) rfl ?_)
    exact ⟨hi,by rw [k.o];rfl,L.o,rfl⟩
   ·have r:¬ (hi:Int)<(l.length:Int):=by omega
    have k:Hq (oO l z hi=false):=ah (by unfold oO;rw [aM (by omega)];rfl);go_wp2
    ((try simp only [Exit.inBlock,Exit.then]);refine bodyPost_ret (results_tmp2 rfl _ _ _) rfl ?_)
    exact ⟨hi,by rw [k.o];rfl,L.o,rfl⟩
end Go.Proofs.YtbpcdfbmnklcjaaGreatDoor
