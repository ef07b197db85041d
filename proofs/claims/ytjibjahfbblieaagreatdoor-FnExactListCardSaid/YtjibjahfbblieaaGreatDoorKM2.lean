import Derived.Test.YtjibjahfbblieaaGreatDoorKMK3
import Derived.Test.YtjibjahfbblieaaGreatDoorKP1D1
import Ieee.Arith
import Derived.Test.YtjibjahfbblieaaGreatDoorKMC0
import Derived.Deep.DeepCutAuto
namespace Go.Proofs.YtjibjahfbblieaaGreatDoor
open Go Go.RowKit
set_option linter.unusedVariables false
def iJ (w:World) (u:Value) (L:List Int):Prop:=∃ b o cap,u=.slice (some ⟨b,o,none⟩) L.length cap/\b<w.heap.size/\∀ j,j<L.length->w.cell? ⟨b,o+j,none⟩=some (.int .u8 (L.getD j 0))
theorem iJ.low {w w':World} {u:Value} {L:List Int} {B:Nat} (h:iJ w u L) (hb:Below B w w') (hB:w.heap.size<=B):iJ w' u L:=by
 obtain ⟨b,o,cap,rfl,h1,h2⟩:=h
 exact ⟨b,o,cap,rfl,Nat.lt_of_lt_of_le h1 hb.size,fun j hj=>(hb.cell (p:=⟨b,o+j,none⟩) (Nat.lt_of_lt_of_le h1 hB)).trans (h2 j hj)⟩
theorem bL.part {w:World} {base:Nat} {v:Value} {L:List Int} (h:bL w base v L):iJ w v L:=by
 obtain ⟨⟨h1,h2⟩,hv⟩:=h
 rcases h2 with ⟨rfl,_⟩|⟨g,cap,cur,rfl,hB,hh,hn,hc,hs,ht⟩
 ·exact absurd rfl hv
 ·have hown:w.ownsRow base 5 1 (.slice (some ⟨g,0,none⟩) L.length cap) L.length (L.map (Value.int .u8)):=⟨h1,.inr ⟨g,cap,cur,rfl,hB,hh,hn,hc,hs,ht⟩⟩
  refine ⟨g,0,cap,rfl,(Lj hown).2,fun j hj=>?_⟩
  rw [Nat.zero_add,hown.cellAt j (by omega),List.getElem?_map,List.getElem?_eq_getElem hj,List.getD_eq_getElem?_getD,List.getElem?_eq_getElem hj]
  rfl
theorem eu (b o k:Nat):(⟨b,o,none⟩:Addr).add k=⟨b,o+k,none⟩:=by
 unfold Addr.add
 split
 ·rename_i h;subst h;rfl
 ·rfl
theorem gU {wr:World} {ops:Array Oper} {rest:List Oper} {o:Oper} {a:Act} {Q:Exit->Act->World->Prop} (hgd:o.guard=none) (s x:Operand)
 (ho:o.op=.call { callee:=.builtin .append,args:=#[s,x],argTypes:=#[35,35] }) (base:Nat) (v u:Value) (L L2:List Int) (hown:bL wr base v L) (hp:iJ wr u L2) (hs:a.eval s=v) (hx:a.eval x=u)
 (hlen:L.length+L2.length<=100000000000000) (hbase:base<=wr.heap.size)
 (h:∀ v' w',bL w' base v' (L++L2)->(∀ B w0,Below B w0 wr->B<=base->Below B w0 w')->(∀ gx,gx<wr.heap.size->v.ownBlock≠some gx->w'.heap[gx]?=wr.heap[gx]?)->wpList Tryz.prog ops Q rest (a.put o.dst v') w'):
 wpList Tryz.prog ops Q (o::rest) a wr:=by
 obtain ⟨i0,hi,hz0,hz1,hz2⟩:=info_parts Tryz.info5
 obtain ⟨b,off,cap,rfl,hb,hc⟩:=hp
 refine wpList_append_own _ hgd s x 35 ho base 5 i0 (.int .u8 0) 1 1 Tryz.underlying35 hi hz0 hz1 hz2 rfl (by decide) v L.length (L.map (Value.int .u8)) hs hown.1 ⟨b,off,none⟩ L2.length cap (L2.map (Value.int .u8)) hx (by simp)
  (fun j z hj=>?_) (fun z hz=>?_) (by unfold maxLen;omega) (by omega) hbase ?_
 ·rw [List.getElem?_map] at hj
  obtain ⟨y,hy,rfl⟩:=Option.map_eq_some_iff.1 hj
  obtain ⟨hl,rfl⟩:=List.getElem?_eq_some_iff.1 hy
  rw [eu,hc j hl,List.getD_eq_getElem?_getD,List.getElem?_eq_getElem hl]
  rfl
 ·obtain ⟨y,_,rfl⟩:=List.mem_map.1 hz
  rfl
 ·intro v' w' h1 h2 h3
  refine h v' w' ⟨by simpa using h1,fun hh=>hown.2 (h3.1 hh).1⟩ (fun B w0 hb hB=>hb.grown h2 (by omega) (fun q hq=>?_)) (fun gx hgx hne=>h2.block gx hgx (fun e=>hne e.symm))
  have:=(hown.1.lt q hq).1
  omega
def joinL (F:Nat->List Int) (i:Nat):List Int:=(List.range i).flatMap F
theorem fF (F:Nat->List Int) (i:Nat):joinL F i++F i=joinL F (i+1):=by simp [joinL,List.range_succ]
def F7 (w:World) (v:Value) (n:Nat) (F:Nat->List Int):Prop:=∃ b o cap,v=.slice (some ⟨b,o,none⟩) n cap/\b<w.heap.size/\n<=cap/\∀ i,i<n->∃ u,w.cell? ⟨b,o+i,none⟩=some u/\iJ w u (F i)
set_option maxHeartbeats 1600000 in
set_option maxRecDepth 100000 in
theorem yS (v:Value) (n:Nat) (F:Nat->List Int) (w:World) (hn:n<=100) (hF:∀ i,i<n->(F i).length<=10000000) (h:F7 w v n F):
 Calls Tryz.prog 25 #[v] w fun e w'=>∃ v',e=.returned v'/\bL w' w.heap.size v' (joinL F n)/\Below w.heap.size w w':=by
 obtain ⟨b,o,cap,rfl,hb,hcap,hc⟩:=h
 have HC:=hide hc
 have HFl:=hide hF
 clear hc hF
 go_enter Tryz.func25,Tryz.ntmps25
 go_wp2
 go_loopw [3,9] (fun ov iv wr=>∃ i:Nat,i<=n/\iv=.int .i64 i/\(joinL F i).length<=i*10000000/\bL wr w.heap.size ov (joinL F i)/\Below w.heap.size w wr) (fun _ iv _=>match iv with | .int _ x=>n-x.toNat|_=>0)
 case atStart=>exact ⟨0,by omega,rfl,by simp [joinL],rO w,(Below.refl _ _).alloc (Nat.le_refl _) _⟩
 case round=>
  obtain ⟨i,hi9,rfl,hl,hown,hbw⟩:=hrel
  by_cases hin:i<n
  ·obtain ⟨u,hu,hp⟩:=HC.out i hin
   have c0:=(hbw.cell (p:=⟨b,o+i,none⟩) hb).trans hu
   have hp2:=hp.low hbw (Nat.le_refl _)
   have hfl:=HFl.out i hin
   have HL:=hide (fF F i)
   obtain ⟨b2,o2,cap2,rfl,-⟩:=hp
   clear hu
   generalize joinL F i=L at *
   go_wp2_with (first
    |(at_builtin;refine gU rfl _ _ rfl w.heap.size _ _ L (F i) hown hp2 rfl rfl (by omega) hbw.size ?_;intro v' w1 hown' hgrow _)
    |go_in)
   go_roundw
   case rel=>exact ⟨i+1,by omega,by simp,by rw [<-HL.out,List.length_append];omega,by rw [<-HL.out];exact hown',hgrow _ _ hbw (Nat.le_refl _)⟩
   case measure=>simp;omega
  ·obtain rfl:i=n:=by omega
   go_wp2
   go_ret
   exact ⟨_,rfl,hown,hbw⟩
def uI (b:Bool):Int:=if b then 1 else 0
theorem zm (w:World) (z:Int):bL (w.alloc (.cells #[.int .u8 z] 5)) w.heap.size (.slice (some ⟨w.heap.size,0,none⟩) 1 1) [z]:=
 ⟨World.ownsRow_lit w #[.int .u8 z] 1 (Nat.le_refl _) (by simp [maxLen]) rfl,fun h=>by cases h⟩
set_option maxHeartbeats 1600000 in
set_option maxRecDepth 100000 in
theorem zw (b:Bool) (w:World):
 Calls Tryz.prog 52 #[.bool b] w fun e w'=>∃ v',e=.returned v'/\bL w' w.heap.size v' [uI b]/\Below w.heap.size w w':=by
 cases b
 ·go_enter Tryz.func52,Tryz.ntmps52
  go_wp2
  go_ret
  exact ⟨_,rfl,zm w 0,b_1 _ _⟩
 ·go_enter Tryz.func52,Tryz.ntmps52
  go_wp2
  go_ret
  exact ⟨_,rfl,zm w 1,b_1 _ _⟩
end Go.Proofs.YtjibjahfbblieaaGreatDoor
namespace Go.Proofs.YtjibjahfbblieaaGreatDoor.F
theorem iZ {A B A' B':Nat} (hB:0<B) (hB':0<B') (h:A*B'=A'*B):rq A B=rq A' B':=by
 rw [<-kX (N:=A) (D:=B) hB',<-kX (N:=A') (D:=B') hB,h,Nat.mul_comm B B']
theorem qY (neg:Bool) (n drop:Nat):Ieee.Toward.even.cut neg n drop=rq n (2^drop):=by
 unfold Ieee.Toward.cut
 have hlt:n<2^(n.log2+1):=Nat.lt_log2_self
 rw [Nat.one_shiftLeft]
 have key:∀ g,(n/g+(decide (g<2*(n%g))||(g==2*(n%g)&&n/g%2==1)).toNat)=rq n g:=by
  intro g
  unfold rq
  congr 1
  by_cases h1:g<2*(n%g)
  ·simp [h1]
  ·by_cases h2:2*(n%g)=g
   ·by_cases h3:n/g%2=1
    ·simp [h2,h3]
    ·simp [h2,h3]
   ·have h2':¬ g=2*(n%g):=fun e=>h2 e.symm
    simp [h1,h2,h2']
 by_cases hd:drop<=n.log2+2
 ·rw [Nat.min_eq_left hd]
  exact key _
 ·rw [Nat.min_eq_right (by omega)]
  have k1:=key (2^(n.log2+2))
  have small:∀ j,n.log2+2<=j->rq n (2^j)=0:=by
   intro j hj
   have h2:2^(n.log2+2)<=2^j:=Nat.pow_le_pow_right (by omega) hj
   have h3:2^(n.log2+2)=2*2^(n.log2+1):=by rw [Nat.pow_succ];omega
   unfold rq
   rw [Nat.div_eq_of_lt (by omega),Nat.mod_eq_of_lt (by omega),if_neg (by omega)]
  rw [small drop (by omega)]
  rw [small _ (Nat.le_refl _)] at k1
  exact k1
theorem kS {mag:Nat} {place:Int} (hm:mag≠0) {A B:Nat} (hAB:(A:Int)-B=place+1074):
 aC (mag*2^A) (2^B) (Ieee.double.nearest false mag place):=by
 have hlo:2^mag.log2<=mag:=Nat.log2_self_le hm
 have hhi:mag<2^(mag.log2+1):=Nat.lt_log2_self
 unfold Ieee.Format.nearest
 rw [if_neg hm]
 have lp:Ieee.double.leastPlace= -1074:=by decide
 have fb:(Ieee.double.fractionBits:Int)=52:=rfl
 have bn:Ieee.double.binade=4503599627370496:=by decide
 have ir:Ieee.double.infRung=ak:=by decide
 simp only [lp,fb,bn,ir]
 generalize hlast:max (place+(mag.log2:Int)-52) (-1074)=last
 rw [qY,Nat.shiftLeft_eq]
 unfold Ieee.Format.word
 simp only [Bool.false_eq_true,if_false]
 have p:∀ x:Nat,0<2^x:=fun x=>Nat.pow_pos (by omega)
 obtain ⟨k,hk⟩:∃ k:Nat,(k:Int)=last+1074:=⟨(last+1074).toNat,by omega⟩
 refine ⟨k,?_,?_,?_⟩
 ·
  have h1:mag*2^A<2^(mag.log2+1)*2^A:=Nat.mul_lt_mul_of_pos_right hhi (p A)
  refine Nat.lt_of_lt_of_le h1 ?_
  rw [<-Nat.pow_add,<-Nat.pow_add]
  exact Nat.pow_le_pow_right (by omega) (by omega)
 ·by_cases h0:k=0
  ·left;exact h0
  ·right
   have h1:2^mag.log2*2^A<=mag*2^A:=Nat.mul_le_mul_right _ hlo
   refine Nat.le_trans ?_ h1
   rw [<-Nat.pow_add,<-Nat.pow_add]
   exact Nat.pow_le_pow_right (by omega) (by omega)
 ·have e1:(last- -1074).toNat=k:=by omega
  rw [e1]
  have e2:rq (mag*2^(place-last).toNat) (2^(last-place).toNat)=rq (mag*2^A) (2^B*2^k):=by
   refine iZ (p _) (Nat.mul_pos (p _) (p _)) ?_
   rw [Nat.mul_assoc,Nat.mul_assoc,<-Nat.pow_add,<-Nat.pow_add,<-Nat.pow_add]
   congr 2
   omega
  rw [e2]
end Go.Proofs.YtjibjahfbblieaaGreatDoor.F
namespace Go.Proofs.YtjibjahfbblieaaGreatDoor.F
theorem NV {A B t:Nat} (hB:0<B) (ht:2<=t):rq (unr A B) (2^t)=rq A (B*2^t):=by
 obtain ⟨h,hh⟩:∃ h,2^t=4*h:=⟨2^(t-2),by
  have:t=2+(t-2):=by omega
  conv=>lhs;rw [this,Nat.pow_add]⟩
 rw [hh]
 have hpos:0<h:=by
  rcases Nat.eq_zero_or_pos h with e|e
  ·subst e;have:=Nat.pow_pos (n:=t) (show 0<2 by omega);omega
  ·exact e
 have hBh:0<B*(4*h):=Nat.mul_pos hB (by omega)
 have d1:=Nat.div_add_mod A (B*(4*h))
 have d2:=Nat.mod_lt A hBh
 unfold rq
 generalize A/(B*(4*h))=q at *
 generalize A%(B*(4*h))=r at *
 have d3:=Nat.div_add_mod r B
 have d4:=Nat.mod_lt r hB
 generalize hy:r/B=y at *
 generalize hz:r%B=z at *
 have hy4:y<4*h:=by rw [<-hy,Nat.div_lt_iff_lt_mul hB,Nat.mul_comm];exact d2
 have hA:A=B*(4*h*q+y)+z:=by rw [<-d1,<-d3,Nat.mul_add,<-Nat.mul_assoc B (4*h) q];omega
 have e1:A/B=4*h*q+y:=by rw [hA,Nat.mul_add_div hB,Nat.div_eq_of_lt d4];omega
 have e2:A%B=z:=by rw [hA,Nat.mul_add_mod,Nat.mod_eq_of_lt d4]
 have hu:unr A B=4*h*q+(if z=0 then y else y/2*2+1):=by
  rw [iy,e1,e2]
  have e4:4*h*q=2*(2*h*q):=by grind
  rw [e4]
  split
  ·rfl
  ·omega
 rw [hu]
 generalize hρ:(if z=0 then y else y/2*2+1)=ρ
 have hρ4:ρ<4*h:=by rw [<-hρ];split<;>omega
 have f1:(4*h*q+ρ)/(4*h)=q:=by rw [Nat.mul_add_div (by omega),Nat.div_eq_of_lt hρ4];omega
 have f2:(4*h*q+ρ)%(4*h)=ρ:=by rw [Nat.mul_add_mod,Nat.mod_eq_of_lt hρ4]
 rw [f1,f2]
 have bh:B*(4*h)=2*(B*(2*h)):=by grind
 have cmpy:∀ c,(B*c<=r↔c<=y):=by
  intro c
  rw [<-hy,Nat.le_div_iff_mul_le hB,Nat.mul_comm]
 have c1:=cmpy (2*h)
 have c2:=cmpy (2*h+1)
 have m1:B*(2*h+1)=B*(2*h)+B:=by rw [Nat.mul_add,Nat.mul_one]
 rw [m1] at c2
 rw [bh]
 have hzz:z=0↔r=B*y:=by omega
 congr 1
 by_cases hlt:y<2*h
 ·have:¬ B*(2*h)<=r:=fun e=>by have:=c1.1 e;omega
  rw [if_neg (by rw [<-hρ];split<;>omega),if_neg (by omega)]
 ·have hge:B*(2*h)<=r:=c1.2 (by omega)
  by_cases heq:y=2*h
  ·by_cases hz0:z=0
   ·have hr:r=B*(2*h):=by rw [hzz.1 hz0,heq]
    rw [if_pos hz0] at hρ
    have a1:(4*h<2*ρ∨2*ρ=4*h/\q%2=1)↔(2*(B*(2*h))<2*r∨2*r=2*(B*(2*h))/\q%2=1):=by omega
    simp only [a1]
   ·rw [if_neg hz0] at hρ
    have hr:B*(2*h)<r:=by
     rcases Nat.lt_or_eq_of_le hge with e|e
     ·exact e
     ·exact absurd (hzz.2 (by rw [<-e,heq])) hz0
    rw [if_pos (by omega),if_pos (by omega)]
  ·have hr:B*(2*h)<r:=by
    have:=c2.2 (by omega)
    omega
   rw [if_pos (by rw [<-hρ];split<;>omega),if_pos (by omega)]
end Go.Proofs.YtjibjahfbblieaaGreatDoor.F
namespace Go.Proofs.YtjibjahfbblieaaGreatDoor.F
theorem w_ {m n a b a' b':Nat} (h:m*2^a<n*2^b) (hh:b+a'<=b'+a):m*2^a'<n*2^b':=by
 have p:∀ x:Nat,0<2^x:=fun x=>Nat.pow_pos (by omega)
 have h1:m*2^a*2^a'<n*2^b*2^a':=Nat.mul_lt_mul_of_pos_right h (p a')
 have h2:n*2^b*2^a'<=n*2^b'*2^a:=by
  rw [Nat.mul_assoc,Nat.mul_assoc,<-Nat.pow_add,<-Nat.pow_add]
  exact Nat.mul_le_mul_left _ (Nat.pow_le_pow_right (by omega) hh)
 have h3:m*2^a*2^a'=m*2^a'*2^a:=by rw [Nat.mul_right_comm]
 rw [h3] at h1
 exact Nat.lt_of_mul_lt_mul_right (Nat.lt_of_lt_of_le h1 h2)
theorem xg {m n a b a' b':Nat} (h:n*2^b<=m*2^a) (hh:b'+a<=b+a'):n*2^b'<=m*2^a':=by
 have p:∀ x:Nat,0<2^x:=fun x=>Nat.pow_pos (by omega)
 have h1:n*2^b*2^a'<=m*2^a*2^a':=Nat.mul_le_mul_right _ h
 have h2:n*2^b'*2^a<=n*2^b*2^a':=by
  rw [Nat.mul_assoc,Nat.mul_assoc,<-Nat.pow_add,<-Nat.pow_add]
  exact Nat.mul_le_mul_left _ (Nat.pow_le_pow_right (by omega) hh)
 have h3:m*2^a*2^a'=m*2^a'*2^a:=by rw [Nat.mul_right_comm]
 rw [h3] at h1
 exact Nat.le_of_mul_le_mul_right (Nat.le_trans h2 h1) (p a)
theorem Mg {x n:Nat} (hn:0<n):2*(x/n)+(x%n !=0).toNat=unr (2*x) n:=by
 have h1:=Nat.div_add_mod x n
 have h2:=Nat.mod_lt x hn
 generalize x/n=q at *
 generalize x%n=r at *
 have e:2*x=n*(2*q)+2*r:=by rw [<-h1];grind
 rw [iy]
 by_cases hr:r=0
 ·subst hr
  have e1:2*x%n=0:=by rw [e];simp
  have e2:2*x/n=2*q:=by rw [e];simp [Nat.mul_div_cancel_left _ hn]
  rw [if_pos e1,e2];rfl
 ·have hb:(r !=0).toNat=1:=by simp [hr]
  rw [hb]
  by_cases hlt:2*r<n
  ·have e2:2*x/n=2*q:=by rw [e,Nat.mul_add_div hn,Nat.div_eq_of_lt hlt,Nat.add_zero]
   have e1:2*x%n=2*r:=by rw [e,Nat.mul_add_mod,Nat.mod_eq_of_lt hlt]
   rw [e1,if_neg (by omega),e2];omega
  ·have e3:2*x=n*(2*q+1)+(2*r-n):=by rw [e,Nat.mul_add n,Nat.mul_one];omega
   have e2:2*x/n=2*q+1:=by rw [e3,Nat.mul_add_div hn,Nat.div_eq_of_lt (by omega)]
   rw [e2]
   split<;>omega
theorem G9 {m n:Nat} {i j:Int} (hm:m≠0) (hn:n≠0) {A B:Nat} (hAB:(A:Int)-B=i-j+1074) {D:Ieee.Datum}
 (hD:Ieee.Datum.quotient 54 (.number false m i) (.number false n j)=some D):aC (m*2^A) (n*2^B) (Ieee.double.write D):=by
 have p:∀ x:Nat,0<2^x:=fun x=>Nat.pow_pos (by omega)
 have hn0:0<n:=Nat.pos_of_ne_zero hn
 unfold Ieee.Datum.quotient at hD
 simp only [hn,if_false,Bool.false_bne] at hD
 have hD':=Option.some.inj hD
 subst hD'
 generalize hmo:54+n.log2-m.log2=more at *
 rw [Nat.shiftLeft_eq,Mg hn0]
 have hmlo:2^m.log2<=m:=Nat.log2_self_le hm
 have hnhi:n<2^(n.log2+1):=Nat.lt_log2_self
 have e9:m*2^(more+1)=2*(m*2^more):=by rw [Nat.pow_succ];grind
 have hfl:2^54<=2*(m*2^more)/n:=by
  rw [Nat.le_div_iff_mul_le hn0]
  have h1:2^54*n<=2^54*2^(n.log2+1):=Nat.mul_le_mul_left _ (Nat.le_of_lt hnhi)
  have h2:2^m.log2*2^more<=m*2^more:=Nat.mul_le_mul_right _ hmlo
  have h3:2^54*2^(n.log2+1)<=2*(2^m.log2*2^more):=by
   have:2*(2^m.log2*2^more)=2^(1+(m.log2+more)):=by rw [Nat.pow_add,Nat.pow_add]
   rw [this,<-Nat.pow_add]
   exact Nat.pow_le_pow_right (by omega) (by omega)
  omega
 have hdm:=Nat.div_add_mod (2*(m*2^more)) n
 have hml:=Nat.mod_lt (2*(m*2^more)) hn0
 have huge:2*(m*2^more)/n<=unr (2*(m*2^more)) n:=by rw [iy];split<;>omega
 have hmag:unr (2*(m*2^more)) n≠0:=by have:=p 54;omega
 have hL1:2^(unr (2*(m*2^more)) n).log2<=unr (2*(m*2^more)) n:=Nat.log2_self_le hmag
 have hL2:unr (2*(m*2^more)) n<2^((unr (2*(m*2^more)) n).log2+1):=Nat.lt_log2_self
 have hL3:54<=(unr (2*(m*2^more)) n).log2:=(Nat.le_log2 hmag).2 (Nat.le_trans hfl huge)
 have hlow:n*2^(unr (2*(m*2^more)) n).log2<=m*2^(more+1):=by
  have hev:∃ g,2^(unr (2*(m*2^more)) n).log2=2*g:=⟨2^((unr (2*(m*2^more)) n).log2-1),by rw [<-Nat.pow_succ'];congr 1;omega⟩
  obtain ⟨g,hg⟩:=hev
  have hfl2:2^(unr (2*(m*2^more)) n).log2<=2*(m*2^more)/n:=by
   have hv:=iy (2*(m*2^more)) n
   rw [hg] at hL1 ⊢
   split at hv<;>omega
  have h5:=(Nat.le_div_iff_mul_le hn0).1 hfl2
  rw [Nat.mul_comm] at h5
  rw [e9]
  exact h5
 have hhigh:m*2^(more+1)<n*2^((unr (2*(m*2^more)) n).log2+1):=by
  have h6:2*(m*2^more)<n*(2*(m*2^more)/n+1):=by rw [Nat.mul_add,Nat.mul_one];omega
  have h7:n*(2*(m*2^more)/n+1)<=n*2^((unr (2*(m*2^more)) n).log2+1):=Nat.mul_le_mul_left _ (by omega)
  rw [e9]
  exact Nat.lt_of_lt_of_le h6 h7
 have hrq:=fun t (ht:2<=t)=>NV (A:=2*(m*2^more)) (B:=n) (t:=t) hn0 ht
 generalize unr (2*(m*2^more)) n=U at *
 show aC (m*2^A) (n*2^B) (Ieee.double.nearest false U (i-j-more-1))
 unfold Ieee.Format.nearest
 rw [if_neg hmag]
 have lp:Ieee.double.leastPlace= -1074:=by decide
 have fb:(Ieee.double.fractionBits:Int)=52:=rfl
 have bn:Ieee.double.binade=4503599627370496:=by decide
 have ir:Ieee.double.infRung=ak:=by decide
 simp only [lp,fb,bn,ir]
 generalize hlast:max (i-j-(more:Int)-1+(U.log2:Int)-52) (-1074)=last
 rw [qY,Nat.shiftLeft_eq]
 unfold Ieee.Format.word
 simp only [Bool.false_eq_true,if_false]
 obtain ⟨k,hk⟩:∃ k:Nat,(k:Int)=last+1074:=⟨(last+1074).toNat,by omega⟩
 have e0:(i-j-(more:Int)-1-last).toNat=0:=by omega
 have e1:(last- -1074).toNat=k:=by omega
 rw [e0,e1,Nat.pow_zero,Nat.mul_one,hrq _ (by omega)]
 refine ⟨k,?_,?_,?_⟩
 ·rw [Nat.mul_assoc,<-Nat.pow_add]
  exact w_ hhigh (by omega)
 ·by_cases h0:k=0
  ·left;exact h0
  ·right
   rw [Nat.mul_assoc,<-Nat.pow_add]
   exact xg hlow (by omega)
 ·congr 2
  refine iZ (Nat.mul_pos hn0 (p _)) (Nat.mul_pos (Nat.mul_pos hn0 (p _)) (p _)) ?_
  have e2:2*(m*2^more)*(n*2^B*2^k)=m*n*2^(1+more+B+k):=by
   rw [Nat.pow_add,Nat.pow_add,Nat.pow_add];grind
  have e3:m*2^A*(n*2^(last-(i-j-(more:Int)-1)).toNat)=m*n*2^(A+(last-(i-j-(more:Int)-1)).toNat):=by
   rw [Nat.pow_add];grind
  rw [e2,e3]
  congr 2
  omega
end Go.Proofs.YtjibjahfbblieaaGreatDoor.F
namespace Go.Proofs.YtjibjahfbblieaaGreatDoor.F
theorem vX:Ieee.double.leastPlace= -1074:=by decide
theorem vw:Ieee.double.binade=4503599627370496:=by decide
theorem xA:Ieee.double.infRung=ak:=by decide
theorem Bn:Ieee.double.signWeight=9223372036854775808:=by decide
theorem fH {k q:Nat} (hq:q<9007199254740992) (hk:k=0∨4503599627370496<=q) (hw:k*4503599627370496+q<ak):
 Ieee.double.read (k*4503599627370496+q)=.number false q ((k:Int)-1074):=by
 unfold Ieee.Format.read
 rw [Bn,vw,xA,vX]
 unfold ak at hw ⊢
 have h1:(k*4503599627370496+q)%9223372036854775808=k*4503599627370496+q:=Nat.mod_eq_of_lt (by omega)
 have h2:(k*4503599627370496+q)/9223372036854775808=0:=Nat.div_eq_of_lt (by omega)
 simp only [h1,h2]
 by_cases hs:k*4503599627370496+q<4503599627370496
 ·rw [if_pos hs]
  have hk0:k=0:=by omega
  subst hk0
  simp
 ·rw [if_neg hs,if_pos hw]
  have e1:(k*4503599627370496+q)/4503599627370496=k+q/4503599627370496:=by
   rw [Nat.add_comm,Nat.add_mul_div_right _ _ (by omega),Nat.add_comm]
  have e2:(k*4503599627370496+q)%4503599627370496=q%4503599627370496:=by
   rw [Nat.add_comm,Nat.add_mul_mod_self_right]
  have e3:q/4503599627370496=1:=by omega
  have e4:4503599627370496+q%4503599627370496=q:=by omega
  rw [e1,e2,e3,e4]
  simp
  omega
theorem Gt {d:Nat} (h0:d≠0) (h:d<9007199254740992):∃ (q g:Nat),Ieee.double.read (Ieee.double.nearest false d 0)=.number false q (-(g:Int))/\q=d*2^g/\g<=52:=by
 have hlo:2^d.log2<=d:=Nat.log2_self_le h0
 have hhi:d<2^(d.log2+1):=Nat.lt_log2_self
 have hL:d.log2<=52:=by
  have:2^d.log2<2^53:=Nat.lt_of_le_of_lt hlo h
  have:=(Nat.pow_lt_pow_iff_right (by omega)).1 this
  omega
 have hnear:Ieee.double.nearest false d 0=(1022+d.log2)*4503599627370496+d*2^(52-d.log2):=by
  unfold Ieee.Format.nearest
  rw [if_neg h0]
  have fb:(Ieee.double.fractionBits:Int)=52:=rfl
  simp only [vX,fb,vw,xA]
  have hlast:max ((0:Int)+(d.log2:Int)-52) (-1074)=(d.log2:Int)-52:=by omega
  rw [hlast,qY,Nat.shiftLeft_eq]
  unfold Ieee.Format.word
  simp only [Bool.false_eq_true,if_false]
  have e1:((d.log2:Int)-52- -1074).toNat=1022+d.log2:=by omega
  have e2:((0:Int)-((d.log2:Int)-52)).toNat=52-d.log2:=by omega
  have e3:((d.log2:Int)-52-0).toNat=0:=by omega
  rw [e1,e2,e3]
  have e4:rq (d*2^(52-d.log2)) (2^0)=d*2^(52-d.log2):=by
   unfold rq
   rw [Nat.pow_zero,Nat.div_one,Nat.mod_one]
   simp
  rw [e4]
  have hb:d*2^(52-d.log2)<9007199254740992:=by
   have:d*2^(52-d.log2)<2^(d.log2+1)*2^(52-d.log2):=Nat.mul_lt_mul_of_pos_right hhi (Nat.pow_pos (by omega))
   rw [<-Nat.pow_add,show d.log2+1+(52-d.log2)=53 by omega] at this
   exact this
  rw [Nat.min_eq_left (by unfold ak;omega)]
 have hb:d*2^(52-d.log2)<9007199254740992:=by
  have:d*2^(52-d.log2)<2^(d.log2+1)*2^(52-d.log2):=Nat.mul_lt_mul_of_pos_right hhi (Nat.pow_pos (by omega))
  rw [<-Nat.pow_add,show d.log2+1+(52-d.log2)=53 by omega] at this
  exact this
 have hb2:4503599627370496<=d*2^(52-d.log2):=by
  have:2^d.log2*2^(52-d.log2)<=d*2^(52-d.log2):=Nat.mul_le_mul_right _ hlo
  rw [<-Nat.pow_add,show d.log2+(52-d.log2)=52 by omega] at this
  exact this
 rw [hnear]
 refine ⟨d*2^(52-d.log2),52-d.log2,?_,rfl,by omega⟩
 rw [fH hb (.inr hb2) (by unfold ak;omega)]
 congr 1
 omega
theorem Lh {x y q1 q2:Nat} {i1 i2:Int} (hx:Ieee.double.read x=.number false q1 i1) (hy:Ieee.double.read y=.number false q2 i2) (h1:q1≠0) (h2:q2≠0) {A B:Nat} (hAB:(A:Int)-B=i1+i2+1074):
 ∃ r,Ieee.double.mul x y=some r/\aC (q1*q2*2^A) (2^B) r:=by
 unfold Ieee.Format.mul
 rw [hx,hy]
 refine ⟨_,rfl,?_⟩
 show aC (q1*q2*2^A) (2^B) (Ieee.double.nearest (false^^false) (q1*q2) (i1+i2))
 exact kS (Nat.mul_ne_zero h1 h2) hAB
theorem Kq {x y q1 q2:Nat} {i1 i2:Int} (hx:Ieee.double.read x=.number false q1 i1) (hy:Ieee.double.read y=.number false q2 i2) (h1:q1≠0) (h2:q2≠0) {A B:Nat} (hAB:(A:Int)-B=i1-i2+1074):
 ∃ r,Ieee.double.div x y=some r/\aC (q1*2^A) (q2*2^B) r:=by
 unfold Ieee.Format.div
 rw [hx,hy]
 have hq:∃ D,Ieee.Datum.quotient 54 (.number false q1 i1) (.number false q2 i2)=some D:=by
  unfold Ieee.Datum.quotient
  simp only [h2,if_false]
  exact ⟨_,rfl⟩
 obtain ⟨D,hD⟩:=hq
 refine ⟨Ieee.double.write D,?_,G9 h1 h2 hAB hD⟩
 have:Ieee.double.fractionBits+2=54:=rfl
 rw [this,hD]
 rfl
end Go.Proofs.YtjibjahfbblieaaGreatDoor.F
namespace Go.Proofs.YtjibjahfbblieaaGreatDoor.F
def iP (x v:Nat):Prop:=∃ (q:Nat) (i:Int),Ieee.double.read x=.number false q i/\ -60<=i/\i<=60/\q*2^(i+60).toNat=v*2^60/\q≠0
theorem uR {d:Nat} (h0:d≠0) (h:d<9007199254740992):iP (Ieee.double.nearest false d 0) d:=by
 obtain ⟨q,g,hr,hq,hg⟩:=Gt h0 h
 refine ⟨q,-(g:Int),hr,by omega,by omega,?_,?_⟩
 ·rw [hq,Nat.mul_assoc,<-Nat.pow_add]
  congr 2
  omega
 ·rw [hq];exact Nat.mul_ne_zero h0 (Nat.pos_iff_ne_zero.1 (Nat.pow_pos (by omega)))
def fC:List Nat:=[4607182418800017408,4621819117588971520,4636737291354636288,4652007308841189376,4666723172467343360,4681608360884174848,4696837146684686336,4711630319722168320,4726483295884279808,4741671816366391296,4756540486875873280,4771362005757984768,4786511204640096256,4801453603149578240,4816244402031689728,4831355200913801216,4846369599423283200,4861130398305394688,4876203697187506176,4891288408196988160,4906019910204099648,4921056587992461136,4936209963552724370]
def Bv (x v:Nat):Bool:=match Ieee.double.read x with
 | .number false q i=>decide (-60<=i/\i<=60/\q*2^(i+60).toNat=v*2^60/\q≠0)
 |_=>false
theorem DV {x v:Nat} (h:Bv x v=true):iP x v:=by
 unfold Bv at h
 split at h
 ·rename_i q i hr
  have:=of_decide_eq_true h
  exact ⟨q,i,hr,this.1,this.2.1,this.2.2.1,this.2.2.2⟩
 ·cases h
theorem yE:∀ k:Fin 23,Bv (fC.getD k.val 0) (10^k.val)=true:=by decide+kernel
theorem iU {x y v u:Nat} (hx:iP x v) (hy:iP y u) {c:Nat} (hc:c=1074):∃ r,Ieee.double.mul x y=some r/\aC (v*u*2^c) 1 r:=by
 obtain ⟨q1,i1,r1,a1,b1,e1,n1⟩:=hx
 obtain ⟨q2,i2,r2,a2,b2,e2,n2⟩:=hy
 obtain ⟨r,hr,hrnd⟩:=Lh r1 r2 n1 n2 (A:=(i1+i2+1074).toNat) (B:=0) (by omega)
 refine ⟨r,hr,?_⟩
 rw [Nat.pow_zero] at hrnd
 have e:q1*q2*2^(i1+i2+1074).toNat=v*u*2^c:=by
  obtain ⟨n9,h9⟩:∃ n9:Nat,n9=954:=⟨_,rfl⟩
  have h1:(i1+i2+1074).toNat=(i1+60).toNat+(i2+60).toNat+n9:=by omega
  have h2:c=60+60+n9:=by omega
  clear h9 hrnd hc
  subst h2
  rw [h1,Nat.pow_add,Nat.pow_add,Nat.pow_add (2:Nat) (60+60),Nat.pow_add]
  generalize 2^n9=z
  calc q1*q2*(2^(i1+60).toNat*2^(i2+60).toNat*z)=(q1*2^(i1+60).toNat)*(q2*2^(i2+60).toNat)*z:=by grind
   _=(v*2^60)*(u*2^60)*z:=by rw [e1,e2]
   _=_:=by grind
 rw [e] at hrnd
 exact hrnd
theorem tK {x y v u:Nat} (hx:iP x v) (hy:iP y u) {c:Nat} (hc:c=1074):∃ r,Ieee.double.div x y=some r/\aC (v*2^c) u r:=by
 obtain ⟨q1,i1,r1,a1,b1,e1,n1⟩:=hx
 obtain ⟨q2,i2,r2,a2,b2,e2,n2⟩:=hy
 obtain ⟨r,hr,hrnd⟩:=Kq r1 r2 n1 n2 (A:=(i1-i2+1074).toNat) (B:=0) (by omega)
 refine ⟨r,hr,?_⟩
 rw [Nat.pow_zero,Nat.mul_one] at hrnd
 rw [<-aC.scale (c:=2^(i2+60).toNat) (Nat.pow_pos (by omega)),e2] at hrnd
 have e:q1*2^(i1-i2+1074).toNat*2^(i2+60).toNat=v*2^c*2^60:=by
  have h1:(i1-i2+1074).toNat+(i2+60).toNat=(i1+60).toNat+c:=by omega
  clear hc hrnd
  rw [Nat.mul_assoc,<-Nat.pow_add,h1,Nat.pow_add,<-Nat.mul_assoc,e1]
  generalize 2^c=z
  grind
 rw [e] at hrnd
 exact (aC.scale (Nat.pow_pos (by omega))).1 hrnd
end Go.Proofs.YtjibjahfbblieaaGreatDoor.F
namespace Go.Proofs.YtjibjahfbblieaaGreatDoor.F
theorem Ma {N d W a:Nat} (hd:0<d) (ha:a<=2096) (h:N<d*2^a) (hw:aC N d W):W<ak:=by
 obtain ⟨k,h1,h2,h3⟩:=hw
 have hD:0<d*2^k:=Nat.mul_pos hd (Nat.pow_pos (by omega))
 have hk:k<=2043:=by
  rcases h2 with h2|h2
  ·rw [h2];exact Nat.zero_le _
  ·have h4:d*2^(52+k)<d*2^a:=Nat.lt_of_le_of_lt h2 h
   have h5:2^(52+k)<2^a:=Nat.lt_of_mul_lt_mul_left h4
   have h6:=(Nat.pow_lt_pow_iff_right (show 1<2 from Nat.lt_succ_self 1)).1 h5
   clear h h1 h2 h3 h4 h5 hD
   omega
 clear h
 have hq:rq N (d*2^k)<=9007199254740992:=by
  refine nE hD ?_
  have e:d*2^(53+k)=d*2^k*9007199254740992:=by rw [Nat.pow_add,Nat.mul_comm (2^53),<-Nat.mul_assoc]
  rw [e] at h1
  exact Nat.le_of_lt h1
 rw [h3]
 generalize rq N (d*2^k)=q at *
 clear h1 h2 h3 hD
 unfold ak
 omega
theorem vM {v r c:Nat} (h0:v≠0) (hv:v<9007199254740992) (hc:c=1074) (h:aC (v*2^c) 1 r):iP r v:=by
 have h2:=kS (mag:=v) (place:=0) h0 (A:=c) (B:=0) (by omega)
 rw [Nat.pow_zero] at h2
 rw [aC.unique h h2]
 exact uR h0 hv
theorem FM:Ieee.double.read 4831355200913801216=.number false 8000000000000000 (-3):=by decide+kernel
theorem Kl {X Y:Nat} (h:Y<X):some (compare (X:Int) (Y:Int))=some Ordering.gt:=by
 have:compare (X:Int) (Y:Int)=.gt:=by
  show compareOfLessAndEq (X:Int) (Y:Int)=.gt
  unfold compareOfLessAndEq
  rw [if_neg (by omega),if_neg (by omega)]
 rw [this]
theorem Jm {v r c:Nat} (hv:9007199254740992<=v) (hc:c=1074) (h:aC (v*2^c) 1 r):Ieee.double.order r 4831355200913801216=some .gt:=by
 obtain ⟨k,h1,h2,h3⟩:=h
 rw [Nat.one_mul] at h1 h2
 have hk:1075<=k:=by
  have h4:2^(53+c)<2^(53+k):=by
   refine Nat.lt_of_le_of_lt ?_ h1
   rw [Nat.pow_add]
   exact Nat.mul_le_mul_right _ hv
  have h6:=(Nat.pow_lt_pow_iff_right (show 1<2 from Nat.lt_succ_self 1)).1 h4
  clear h1 h2 h3 h4
  omega
 have hlow:2^(52+k)<=v*2^c:=by
  rcases h2 with h2|h2
  ·clear h1 h3;omega
  ·exact h2
 have hD:0<1*2^k:=Nat.mul_pos (by omega) (Nat.pow_pos (by omega))
 have hq1:4503599627370496<=rq (v*2^c) (1*2^k):=by
  refine pq hD ?_
  rw [Nat.one_mul]
  have e:2^(52+k)=2^k*4503599627370496:=by rw [Nat.pow_add,Nat.mul_comm]
  rw [e] at hlow
  exact hlow
 have hq2:rq (v*2^c) (1*2^k)<=9007199254740992:=by
  refine nE hD ?_
  rw [Nat.one_mul]
  have e:2^(53+k)=2^k*9007199254740992:=by rw [Nat.pow_add,Nat.mul_comm]
  rw [e] at h1
  exact Nat.le_of_lt h1
 generalize rq (v*2^c) (1*2^k)=q at *
 clear h1 h2 hlow hD
 unfold Ieee.Format.order
 rw [FM]
 have big:∀ (k q:Nat),1075<=k->4503599627370496<=q->q<9007199254740992->k*4503599627370496+q<ak->
  Ieee.Datum.order (Ieee.double.read (k*4503599627370496+q)) (.number false 8000000000000000 (-3))=some .gt:=by
  intro k q hk hq1 hq2 hw
  rw [fH hq2 (.inr hq1) hw]
  unfold Ieee.Datum.order
  have hmin:min ((k:Int)-1074) (-3)= -3:=by omega
  simp only [hmin]
  have e1:((-3:Int)- -3).toNat=0:=by decide
  rw [e1]
  unfold Ieee.signed
  simp only [Bool.false_eq_true,if_false]
  rw [Nat.shiftLeft_eq,Nat.shiftLeft_zero]
  have hp:1<=2^((k:Int)-1074- -3).toNat:=Nat.one_le_two_pow
  have h2:2^1<=2^((k:Int)-1074- -3).toNat:=Nat.pow_le_pow_right (by omega) (by omega)
  have h3:q*2<=q*2^((k:Int)-1074- -3).toNat:=Nat.mul_le_mul_left _ h2
  generalize q*2^((k:Int)-1074- -3).toNat=X at *
  exact Kl (by omega)
 by_cases hinf:ak<=k*4503599627370496+q
 ·rw [h3,Nat.min_eq_right hinf]
  have:Ieee.double.read ak=.infinity false:=by decide+kernel
  rw [this]
  rfl
 ·rw [h3,Nat.min_eq_left (by omega)]
  by_cases hq3:q<9007199254740992
  ·exact big k q hk hq1 hq3 (by omega)
  ·have hq4:q=9007199254740992:=by omega
   subst hq4
   have e:k*4503599627370496+9007199254740992=(k+1)*4503599627370496+4503599627370496:=by omega
   rw [e]
   exact big (k+1) 4503599627370496 (by omega) (by omega) (by omega) (by omega)
end Go.Proofs.YtjibjahfbblieaaGreatDoor.F
namespace Go.Proofs.YtjibjahfbblieaaGreatDoor.F
set_option maxHeartbeats 40000
def wM (r:Nat):Nat:=if r<4503599627370496 then r else r%4503599627370496+4503599627370496
def wK (r:Nat):Nat:=r/4503599627370496-1
def wE (r:Nat):Int:=(wK r:Int)-1074
theorem qP (r:Nat):wM r<9007199254740992:=by unfold wM;split<;>omega
theorem MN {r:Nat} (h:1<=wK r):4503599627370496<=wM r:=by unfold wK at h;unfold wM;split<;>omega
theorem nO (r:Nat):wK r*4503599627370496+wM r=r:=by unfold wK wM;split<;>omega
theorem IB {r:Nat} (h:r<ak):wK r<2046:=by unfold ak at h;unfold wK;omega
theorem yT {r:Nat} (h:r<ak):Ieee.double.read r=.number false (wM r) (wE r):=by
 have h1:wK r=0∨4503599627370496<=wM r:=by
  by_cases h0:wK r=0
  ·exact .inl h0
  ·exact .inr (MN (by omega))
 have:=fH (k:=wK r) (q:=wM r) (qP r) h1 (by rw [nO];exact h)
 rw [nO] at this
 exact this
theorem uH {r:Nat} (h:r<9223372036854775808):Ieee.double.read (9223372036854775808+r)=(Ieee.double.read r).opposite:=by
 unfold Ieee.Format.read
 rw [Bn,vw,xA,vX]
 have h1:(9223372036854775808+r)%9223372036854775808=r:=by omega
 have h2:(9223372036854775808+r)/9223372036854775808=1:=by omega
 have h3:r%9223372036854775808=r:=by omega
 have h4:r/9223372036854775808=0:=by omega
 simp only [h1,h2,h3,h4]
 split
 ·rfl
 ·split
  ·rfl
  ·split
   ·rfl
   ·rfl
def aI (s:Bool) (r:Nat):Nat:=if s then 9223372036854775808+r else r
theorem lT {s:Bool} {r:Nat} (h:r<ak):Ieee.double.read (aI s r)=.number s (wM r) (wE r):=by
 cases s with
 |false=>exact yT h
 |true=>
  show Ieee.double.read (9223372036854775808+r)=_
  rw [uH (by unfold ak at h;omega),yT h]
  rfl
theorem lY (s:Bool):Ieee.double.read (aI s ak)=.infinity s:=by cases s<;>decide+kernel
theorem zG {r:Nat} (h1:ak<r) (h2:r<9223372036854775808):Ieee.double.read r=.nan false (r-ak):=by
 unfold Ieee.Format.read
 rw [Bn,vw,xA,vX]
 have h3:r%9223372036854775808=r:=by omega
 have h4:r/9223372036854775808=0:=by omega
 simp only [h3,h4]
 rw [if_neg (by unfold ak at h1;omega),if_neg (by omega),if_neg (by omega)]
 rfl
theorem Fb {s:Bool} {r:Nat} (h1:ak<r) (h2:r<9223372036854775808):Ieee.double.read (aI s r)=.nan s (r-ak):=by
 cases s with
 |false=>exact zG h1 h2
 |true=>
  show Ieee.double.read (9223372036854775808+r)=_
  rw [uH h2,zG h1 h2]
  rfl
theorem A9 {W:Nat} (h:W<18446744073709551616):W=aI (decide (9223372036854775808<=W)) (W%9223372036854775808):=by
 unfold aI
 by_cases h1:9223372036854775808<=W
 ·rw [if_pos (decide_eq_true h1)];omega
 ·rw [if_neg (by rw [decide_eq_true_iff];exact h1)];omega
def qU (s:Bool) (n:Nat):Int:=if s then -(n:Int) else n
theorem FI (s:Bool) (m u:Nat):Ieee.signed s m u=qU s (m*2^u):=by
 unfold Ieee.signed qU
 rw [Nat.shiftLeft_eq]
theorem l9 {a b:Int} (h:a<b):compare a b=.lt:=by
 show compareOfLessAndEq a b=.lt
 unfold compareOfLessAndEq
 rw [if_pos h]
theorem nT {a b:Int} (h:a=b):compare a b=.eq:=Int.compare_eq_eq.2 h
theorem lM {a b:Int} (h:b<a):compare a b=.gt:=by
 show compareOfLessAndEq a b=.gt
 unfold compareOfLessAndEq
 rw [if_neg (by omega),if_neg (by omega)]
end Go.Proofs.YtjibjahfbblieaaGreatDoor.F
namespace Go.Proofs.YtjibjahfbblieaaGreatDoor
open Go Go.RowKit
set_option linter.unusedVariables false
theorem LM.val {w:World} {v:Value} {n:Nat} {f:Nat->Nat} (h:LM w v n f):∃ a cap,v=.slice a n cap:=by
 rcases h with ⟨rfl,a,cap,rfl⟩|⟨b,o,cap,rfl,_⟩
 ·exact ⟨a,cap,rfl⟩
 ·exact ⟨_,cap,rfl⟩
end Go.Proofs.YtjibjahfbblieaaGreatDoor
