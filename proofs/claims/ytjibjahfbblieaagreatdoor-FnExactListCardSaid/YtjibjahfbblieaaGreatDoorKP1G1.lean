import Derived.Test.YtjibjahfbblieaaGreatDoorKP1F2
namespace Go.Proofs.YtjibjahfbblieaaGreatDoor.F
open Go Go.RowKit
set_option linter.unusedVariables false
def aN (k:Nat):Nat × List UInt8:=Go.Pinned.cheatRows.getD k (0,[])
def oZ (k i:Nat):Int:=(((aN k).2.getD i 0).toNat:Int)
def JK (k:Nat):Bool:=
 decide (1<=k->(aN k).1+(aN k).2.length=k+1/\(aN k).2.length<=k/\1<=(aN k).2.length/\(aN k).2.length<=100/\dv (oZ k) (aN k).2.length=5^k/\
  10^((aN k).2.length-1)<=5^k/\5^k<10^(aN k).2.length/\(∀ i,i<(aN k).2.length->48<=oZ k i/\oZ k i<=57)/\oZ k ((aN k).2.length-1)≠48)
theorem EO:∀ k:Fin 61,JK k=true:=by decide+kernel
structure Cheats (w:World) (G o:Nat):Prop where
 size:18<w.heap.size
 hG:G<w.heap.size
 slice:w.cell? ⟨15,0,none⟩=some (.slice (some ⟨G,o,none⟩) 61 61)
 delta:∀ k,k<61->w.cell? ⟨G,o+k*2,none⟩=some (.int .i64 (aN k).1)
 cut:∀ k,k<61->∃ s:ByteArray,w.cell? ⟨G,o+k*2+1,none⟩=some (.string s)/\bs s=(aN k).2.map (fun b=>(b.toNat:Int))
theorem Io {k:Nat} {s:ByteArray} (h:bs s=(aN k).2.map (fun b=>(b.toNat:Int))):s.size=(aN k).2.length/\∀ i,i<s.size->sb s i=oZ k i:=by
 have hl:s.size=(aN k).2.length:=by rw [<-bD,h,List.length_map]
 refine ⟨hl,fun i hi=>?_⟩
 unfold sb oZ
 rw [h,List.getD_eq_getElem?_getD,List.getD_eq_getElem?_getD,List.getElem?_map]
 rw [hl] at hi
 rw [List.getElem?_eq_getElem hi]
 rfl
def yI (D:Nat->Int) (nd:Nat) (s:ByteArray):Bool:=decide (dv D nd*10^s.size<dv (sb s) s.size*10^nd)
theorem tJ (D:Nat->Int) (nd g:Nat) (s:ByteArray) (w:World) (hnd:nd<=800) (hs:s.size<=100) (hok:dh D nd) (hC:dh (sb s) s.size) (hl:sb s (s.size-1)≠48)
 (hcell:∀ k,k<800->w.cell? ⟨g,k,none⟩=some (.int .u8 (D k))):
 Calls Tryz.prog 257 #[.slice (some ⟨g,0,none⟩) nd 800,.string s] w fun e w'=>e=.returned (.bool (yI D nd s))/\∃ m,w'=w.drewN m:=by
 refine (BX D nd g s w hnd hs hok hC hl hcell).mono ?_
 rintro e w' ⟨b,n,rfl,rfl,h1,h2⟩
 refine ⟨?_,n,rfl⟩
 have:b=yI D nd s:=by
  unfold yI
  cases b
  ·symm;rw [decide_eq_false_iff_not];have:=h2 rfl;omega
  ·symm;rw [decide_eq_true_eq];exact h1 rfl
 rw [this]
def DJ (X M A u:Nat) (D:Nat->Int) (tr tr':Bool):Prop:=
 ∃ R,X=A*10^u+sg D (M-u) (u-min u (M-800))*10^(min u (M-800))+R/\R<10^(min u (M-800))/\(∀ i,M-u<=i->i<M-(M-800)->48<=D i/\D i<=57)/\tr'=(tr||decide (R≠0))
theorem tV (X M:Nat) (D:Nat->Int) (tr:Bool):DJ X M X 0 D tr tr:=by
 refine ⟨0,?_,?_,fun i h1 h2=>by omega,by simp⟩
 ·simp [sg]
 ·exact jy _
theorem qz {X M A A' u rem:Nat} {D:Nat->Int} {tr tr':Bool} (h:DJ X M A u D tr tr') (hA:A=A'*10+rem) (hr:rem<=9) (hu:u+1<=M) (hw:M-u-1<800):
 DJ X M A' (u+1) (gF D (M-u-1) (rem+48)) tr tr':=by
 obtain ⟨R,h1,h2,h3,h4⟩:=h
 have hj:M-800<=u:=by omega
 have m1:min u (M-800)=M-800:=Nat.min_eq_right hj
 have m2:min (u+1) (M-800)=M-800:=Nat.min_eq_right (by omega)
 rw [m1] at h1 h2
 refine ⟨R,?_,by rw [m2];exact h2,fun i a1 a2=>?_,h4⟩
 ·rw [m2,show M-(u+1)=M-u-1 by omega,show u+1-(M-800)=(u-(M-800))+1 by omega,Ii,show M-u-1+1=M-u by omega,h1,hA,
   show ((rem:Int)+48-48).toNat=rem by omega,Nat.pow_succ,Nat.add_mul (rem*_),Nat.mul_assoc rem,<-Nat.pow_add,show u-(M-800)+(M-800)=u by omega]
  generalize 10^u=p
  generalize sg D (M-u) (u-(M-800))*10^(M-800)=q
  rw [Nat.add_mul,Nat.mul_assoc,Nat.mul_comm 10 p]
  omega
 ·by_cases e:i=M-u-1
  ·subst e;rw [fI];omega
  ·rw [bN e];exact h3 i (by omega) a2
theorem iG {X M A A' u rem:Nat} {D:Nat->Int} {tr tr' tr'':Bool} (h:DJ X M A u D tr tr') (hA:A=A'*10+rem) (hr:rem<=9) (hu:u+1<=M) (hw:800<=M-u-1) (ht:tr''=(tr'||decide (rem≠0))):
 DJ X M A' (u+1) D tr tr'':=by
 obtain ⟨R,h1,h2,h3,h4⟩:=h
 have m1:min u (M-800)=u:=Nat.min_eq_left (by omega)
 have m2:min (u+1) (M-800)=u+1:=Nat.min_eq_left (by omega)
 rw [m1,Nat.sub_self] at h1
 rw [m1] at h2
 refine ⟨rem*10^u+R,?_,?_,fun i a1 a2=>h3 i (by omega) a2,?_⟩
 ·rw [m2,Nat.sub_self,h1,hA]
  simp only [sg,Nat.zero_mul,Nat.add_zero,Nat.pow_succ]
  generalize 10^u=p
  rw [Nat.add_mul,Nat.mul_assoc,Nat.mul_comm 10 p]
  omega
 ·rw [m2,Nat.pow_succ]
  have:=Nat.mul_le_mul_right (10^u) hr
  omega
 ·have hp:=jy u
  have key:(decide (R≠0)||decide (rem≠0))=decide (rem*10^u+R≠0):=by
   generalize hq:10^u=q at *
   by_cases hR:R=0
   ·by_cases h0:rem=0
    ·simp [hR,h0]
    ·have:rem*q≠0:=Nat.mul_ne_zero h0 (by omega)
     simp [hR,h0];omega
   ·simp [hR]
  rw [ht,h4,Bool.or_assoc,key]
theorem uO {X M u:Nat} {D:Nat->Int} {tr tr':Bool} (h:DJ X M 0 u D tr tr') (hu:u<=M):X<10^u:=by
 obtain ⟨R,h1,h2,h3,h4⟩:=h
 rw [Nat.zero_mul,Nat.zero_add] at h1
 have hs:sg D (M-u) (u-min u (M-800))<10^(u-min u (M-800)):=by
  have key:∀ (n a:Nat),(∀ i,a<=i->i<a+n->48<=D i/\D i<=57)->sg D a n<10^n:=by
   intro n
   induction n with
   |zero=>intro a _;simp [sg]
   |succ n ih=>
    intro a h
    have i1:=ih (a+1) (fun i b1 b2=>h i (by omega) (by omega))
    have i2:=h a (by omega) (by omega)
    have i3:eT D a<=9:=by unfold eT;omega
    have i4:=Nat.mul_le_mul_right (10^n) i3
    show eT D a*10^n+sg D (a+1) n<10^(n+1)
    rw [Nat.pow_succ]
    omega
  exact key _ _ (fun i b1 b2=>h3 i b1 (by omega))
 have e:10^u=10^(u-min u (M-800))*10^(min u (M-800)):=by rw [<-Nat.pow_add];congr 1;omega
 rw [h1,e]
 have:=Nat.mul_le_mul_right (10^(min u (M-800))) hs
 rw [Nat.succ_mul] at this
 omega
theorem qD {X M:Nat} {E:Int} {D:Nat->Int} {tr tr':Bool} {dp:Int} {n:Nat} (h:DJ X M 0 M D tr tr') (hX:10^(M-1)<=X) (hM:M≠0) (hn:n=M-(M-800)) (hdp:dp=E+(M:Nat)):
 Mq X E tr D (bM D n) (kr (bM D n) dp) tr':=by
 obtain ⟨R,h1,h2,h3,h4⟩:=h
 have m1:min M (M-800)=M-800:=Nat.min_eq_right (by omega)
 rw [m1,Nat.sub_self,NP,Nat.zero_mul,Nat.zero_add,<-hn] at h1
 rw [m1] at h2
 have hok:dh D n:=fun i hi=>h3 i (by omega) (by omega)
 have hh:D 0≠48:=by
  intro e
  obtain ⟨q,hq⟩:∃ q,n=1+q:=⟨n-1,by omega⟩
  have e1:dv D n<10^q:=by
   rw [hq,ji q 1]
   have:dv D 1=0:=by simp [dv,eT,e]
   rw [this,Nat.zero_mul,Nat.zero_add]
   exact sP (by rw [<-hq];exact hok)
  have e2:10^(M-1)=10^q*10^(M-800):=by rw [<-Nat.pow_add,show M-1=q+(M-800) by omega]
  have e3:=Nat.mul_le_mul_right (10^(M-800)) e1
  rw [Nat.succ_mul] at e3
  omega
 refine OA hok (by omega) (by omega) hh h1 h2 ?_ (by omega) h4
 rw [hdp,hn]
 omega
end Go.Proofs.YtjibjahfbblieaaGreatDoor.F
namespace Go.Proofs.YtjibjahfbblieaaGreatDoor.F
open Go Go.RowKit
set_option linter.unusedVariables false
def ShR (X:Nat) (E:Int) (tr:Bool) (g:Nat) (w:World) (e:Ending) (w':World):Prop:=
 e=.returned (.tuple #[])/\∃ D nd dp tr',DecAt w' g D (nd:Nat) dp tr'/\Mq X E tr D nd dp tr'/\Below g w w'
theorem bA {x:Int} (h0:0<=x) (h1:x<18446744073709551616):IntKind.u64.wrap x=x:=by
 simp [IntKind.wrap,IntKind.signed,IntKind.bits];omega
theorem CZ {n d P m:Nat} {x:Int} (hP:P<=1152921504606846976) (hn:n<P) (hx1:48<=x) (hx2:x<=57) (hd:d=(x-48).toNat) (hm:m=n+d*P):
 IntKind.u64.wrap (n+IntKind.u64.wrap ((x-48)*(P:Int)))=(m:Int)/\m<10*P:=by
 have hd9:d<=9:=by omega
 have h1:=Nat.mul_le_mul_right P hd9
 have e1:x-48=(d:Int):=by omega
 have e2:(x-48)*(P:Int)=((d*P:Nat):Int):=by rw [e1,Int.natCast_mul]
 generalize d*P=y at *
 rw [e2,bA (x:=(y:Int)) (by omega) (by omega),bA (by omega) (by omega)]
 omega
theorem qx {m q rem:Nat} (hm:m<11529215046068469760) (hq:q=m/10) (hr:rem=m%10):
 IntKind.u64.wrap ((m:Int)/10)=(q:Int)/\IntKind.u64.wrap ((m:Int)-IntKind.u64.wrap (10*(q:Int)))=(rem:Int)/\IntKind.u64.wrap ((rem:Int)+48)%256=(rem:Int)+48:=by
 have e:(m:Int)/10=(q:Int):=by omega
 rw [e,bA (by omega) (by omega),bA (x:=10*(q:Int)) (by omega) (by omega),bA (by omega) (by omega),bA (by omega) (by omega)]
 omega
theorem zT {D:Nat->Int} {r n P m q rem:Nat} (hm:m=n+(D r-48).toNat*P) (hq:q=m/10) (hr:rem=m%10):dv D (r+1)*P+n=(dv D r*P+q)*10+rem:=by
 have e:dv D (r+1)=dv D r*10+eT D r:=rfl
 rw [e,Nat.add_mul,Nat.add_mul,show eT D r=(D r-48).toNat from rfl,Nat.mul_assoc,Nat.mul_comm 10 P,<-Nat.mul_assoc]
 generalize (D r-48).toNat*P=y at *
 generalize dv D r*P=z
 omega
theorem Cv {m P q:Nat} (h:m<10*P) (hq:q=m/10):q<P:=by omega
end Go.Proofs.YtjibjahfbblieaaGreatDoor.F
namespace Go.Proofs.YtjibjahfbblieaaGreatDoor.F
open Go Go.RowKit
set_option linter.unusedVariables false
def Pz (D:Nat->Int) (nd r:Nat):Nat:=dv D (min r nd)*10^(r-nd)
theorem pY {D:Nat->Int} {nd r:Nat} (h:r<=nd):Pz D nd r=dv D r:=by
 unfold Pz;rw [Nat.min_eq_left h,show r-nd=0 by omega,Nat.pow_zero,Nat.mul_one]
theorem xP {D:Nat->Int} {nd r:Nat} (h:nd<=r):Pz D nd r=dv D nd*10^(r-nd):=by
 unfold Pz;rw [Nat.min_eq_right h]
theorem Gl {D:Nat->Int} {nd r:Nat} (h:r<nd):Pz D nd (r+1)=Pz D nd r*10+eT D r:=by
 rw [pY (by omega),pY (by omega)];rfl
theorem kR {D:Nat->Int} {nd r:Nat} (h:nd<=r):Pz D nd (r+1)=Pz D nd r*10+0:=by
 rw [xP h,xP (by omega),show r+1-nd=r-nd+1 by omega,Nat.pow_succ,Nat.mul_assoc,Nat.add_zero]
def J3 (D:Nat->Int) (nd k r t n:Nat) (D':Nat->Int) (tr tr':Bool):Prop:=
 ∃ R,Pz D nd r=n+10*2^k*(dv D' (min t 800)*10^(t-800)+R)/\R<10^(t-800)/\dh D' (min t 800)/\(t≠0->D' 0≠48)/\(t=0->2^k<=n)/\n<10*2^k/\tr'=(tr||decide (R≠0))
theorem sZ {D D':Nat->Int} {nd k r n:Nat} {tr:Bool} (hn:Pz D nd r=n) (h1:2^k<=n) (h2:n<10*2^k):J3 D nd k r 0 n D' tr tr:=by
 refine ⟨0,?_,by simp,fun i hi=>by omega,fun h=>absurd rfl h,fun _=>h1,h2,by simp⟩
 simp [dv,hn]
theorem Cr {P n c:Nat} (hc:c<=9):(n%P)*10+c<10*P∨P=0:=by
 by_cases h:P=0
 ·exact .inr h
 ·have:=Nat.mod_lt n (Nat.pos_of_ne_zero h);left;omega
theorem CY {P n c d S pr pr':Nat} (h:pr=n+10*P*S) (hpr:pr'=pr*10+c) (hd:d=n/P):pr'=((n%P)*10+c)+10*P*(S*10+d):=by
 have e:=Nat.div_add_mod n P
 rw [<-hd] at e
 rw [hpr,h,Nat.mul_add,Nat.add_mul]
 have e2:10*P*S*10=10*P*(S*10):=by rw [Nat.mul_assoc (10*P)]
 have e3:10*P*d=10*(P*d):=Nat.mul_assoc _ _ _
 rw [e2,e3]
 generalize 10*P*(S*10)=y
 generalize P*d=z at *
 omega
theorem qC {D D':Nat->Int} {nd k r t n c d n':Nat} {tr tr':Bool} (h:J3 D nd k r t n D' tr tr') (ht:t<800) (hpz:Pz D nd (r+1)=Pz D nd r*10+c) (hc:c<=9) (hd:d=n/2^k) (hn':n'=(n%2^k)*10+c):
 J3 D nd k (r+1) (t+1) n' (gF D' t (d+48)) tr tr'/\d<=9:=by
 obtain ⟨R,h1,h2,h3,h4,h5,h6,h7⟩:=h
 have hp:0<2^k:=Nat.pow_pos (by omega)
 have hd9:d<=9:=by
  have:n/2^k<10:=Nat.div_lt_of_lt_mul (by rw [Nat.mul_comm];exact h6)
  omega
 have m1:min t 800=t:=Nat.min_eq_left (by omega)
 have m2:min (t+1) 800=t+1:=Nat.min_eq_left (by omega)
 have z1:t-800=0:=Nat.sub_eq_zero_of_le (Nat.le_of_lt ht)
 have z2:t+1-800=0:=Nat.sub_eq_zero_of_le ht
 rw [m1] at h1 h3
 rw [z1,Nat.pow_zero] at h1 h2
 have hR:R=0:=by omega
 subst hR
 refine ⟨⟨0,?_,jy _,fun i hi=>?_,fun _=>?_,fun h=>by omega,?_,h7⟩,hd9⟩
 ·rw [m2,z2,Nat.pow_zero,Nat.mul_one,Nat.add_zero,Cg,hn',show ((d:Int)+48-48).toNat=d by omega]
  rw [Nat.mul_one,Nat.add_zero] at h1
  exact CY h1 hpz hd
 ·rw [m2] at hi
  by_cases e:i=t
  ·subst e;rw [fI];omega
  ·rw [bN e];exact h3 i (by omega)
 ·by_cases e:t=0
  ·subst e
   rw [fI]
   have h8:=h5 rfl
   have:1<=n/2^k:=(Nat.one_le_div_iff hp).2 h8
   omega
  ·rw [bN (by omega)];exact h4 e
 ·rw [hn']
  have:=Cr (P:=2^k) (n:=n) hc
  omega
theorem oJ {D D':Nat->Int} {nd k r t n c d n':Nat} {tr tr' tr'':Bool} (h:J3 D nd k r t n D' tr tr') (ht:800<=t) (hpz:Pz D nd (r+1)=Pz D nd r*10+c) (hc:c<=9) (hd:d=n/2^k) (hn':n'=(n%2^k)*10+c)
 (htr:tr''=(tr'||decide (d≠0))):J3 D nd k (r+1) (t+1) n' D' tr tr''/\d<=9:=by
 obtain ⟨R,h1,h2,h3,h4,h5,h6,h7⟩:=h
 have hp:0<2^k:=Nat.pow_pos (by omega)
 have hd9:d<=9:=by
  have:n/2^k<10:=Nat.div_lt_of_lt_mul (by rw [Nat.mul_comm];exact h6)
  omega
 have m1:min t 800=800:=Nat.min_eq_right (by omega)
 have m2:min (t+1) 800=800:=Nat.min_eq_right (by omega)
 have z2:10^(t+1-800)=10^(t-800)*10:=by rw [show t+1-800=(t-800)+1 by omega,Nat.pow_succ]
 rw [m1] at h1 h3
 refine ⟨⟨R*10+d,?_,by rw [z2];omega,by rw [m2];exact h3,fun _=>h4 (by omega),fun h=>by omega,?_,?_⟩,hd9⟩
 ·rw [m2,z2,hn',<-Nat.mul_assoc,<-Nat.add_assoc,<-Nat.add_mul]
  exact CY h1 hpz hd
 ·rw [hn']
  have:=Cr (P:=2^k) (n:=n) hc
  omega
 ·have key:(decide (R≠0)||decide (d≠0))=decide (R*10+d≠0):=by
   by_cases hR:R=0
   ·simp [hR]
   ·simp [hR];omega
  rw [htr,h7,Bool.or_assoc,key]
theorem Cy {D D':Nat->Int} {nd k r r0 t:Nat} {dp:Int} {tr tr':Bool} (h:J3 D nd k r t 0 D' tr tr') (hr:nd<=r) (hr2:r<=nd+k+1) (hrt:r=r0+t) (hnd:(nd:Int)=(nd:Int)):
 Mq (dv D nd*5^k) (dp-nd-k) tr D' (bM D' (min t 800)) (kr (bM D' (min t 800)) (dp-((r0:Int)-1))) tr':=by
 obtain ⟨R,h1,h2,h3,h4,h5,h6,h7⟩:=h
 have hp:0<2^k:=Nat.pow_pos (by omega)
 have ht:t≠0:=by intro e;have:=h5 e;omega
 rw [xP hr,Nat.zero_add] at h1
 have hX:dv D nd*5^k=(dv D' (min t 800)*10^(t-800)+R)*10^(k+1-(r-nd)):=by
  refine Nat.eq_of_mul_eq_mul_right (Nat.mul_pos (jy (r-nd)) hp) ?_
  have e10:2^k*5^k=10^k:=by rw [<-Nat.mul_pow]
  calc dv D nd*5^k*(10^(r-nd)*2^k)=dv D nd*10^(r-nd)*(2^k*5^k):=by
          generalize dv D nd=a;generalize 5^k=b;generalize 10^(r-nd)=c;generalize 2^k=d
          rw [Nat.mul_assoc,Nat.mul_assoc,Nat.mul_left_comm b c,Nat.mul_comm b d]
   _=10*2^k*(dv D' (min t 800)*10^(t-800)+R)*10^k:=by rw [h1,e10]
   _=(dv D' (min t 800)*10^(t-800)+R)*(10^(k+1))*2^k:=by
       rw [Nat.pow_succ]
       generalize dv D' (min t 800)*10^(t-800)+R=a;generalize 10^k=b;generalize 2^k=d
       simp only [Nat.mul_comm,Nat.mul_left_comm]
   _=(dv D' (min t 800)*10^(t-800)+R)*10^(k+1-(r-nd))*(10^(r-nd)*2^k):=by
       rw [show 10^(k+1)=10^(k+1-(r-nd))*10^(r-nd) by rw [<-Nat.pow_add];congr 1;omega]
       simp only [Nat.mul_assoc]
 by_cases h8:t<=800
 ·have z1:t-800=0:=by omega
  rw [z1,Nat.pow_zero] at h2
  have hR:R=0:=by omega
  rw [hR,z1,Nat.pow_zero,Nat.mul_one,Nat.add_zero] at hX
  refine za (j:=0) (r:=R) (z:=k+1-(r-nd)) h3 (by omega) (by omega) (h4 ht) ?_ (by rw [hR];exact Nat.one_pos) ?_ (.inl rfl) h7
  ·rw [hX,hR,Nat.pow_zero,Nat.mul_one];exact (Nat.add_zero _).symm
  ·rw [Nat.min_eq_left h8];omega
 ·have hm:min t 800=800:=Nat.min_eq_right (by omega)
  refine za (j:=t-800+(k+1-(r-nd))) (r:=R*10^(k+1-(r-nd))) (z:=0) h3 (by omega) (by omega) (h4 ht) ?_ ?_ ?_ (.inr hm) ?_
  ·rw [hX,Nat.add_mul,Nat.pow_zero,Nat.mul_one,Nat.mul_assoc,<-Nat.pow_add]
  ·rw [Nat.pow_add];exact Nat.mul_lt_mul_of_pos_right h2 (jy _)
  ·rw [hm];omega
  ·rw [h7]
   congr 1
   have hq:=jy (k+1-(r-nd))
   generalize 10^(k+1-(r-nd))=q at *
   by_cases hR:R=0
   ·simp [hR]
   ·have:R*q≠0:=Nat.mul_ne_zero hR (by omega)
    simp [hR,this]
theorem oV {r nd k n:Nat} (hr:nd<=r) (h:2^(min (r-nd) k) ∣ n):2^(min (r+1-nd) k) ∣ (n%2^k)*10+0:=by
 rw [Nat.add_zero]
 by_cases hk:k<=r-nd
 ·rw [Nat.min_eq_right hk] at h
  rw [Nat.mod_eq_zero_of_dvd h,Nat.zero_mul]
  exact Nat.dvd_zero _
 ·rw [Nat.min_eq_left (by omega)] at h
  rw [Nat.min_eq_left (by omega),show r+1-nd=(r-nd)+1 by omega,Nat.pow_succ]
  refine Nat.mul_dvd_mul ?_ (by decide)
  exact (Nat.dvd_mod_iff (Nat.pow_dvd_pow 2 (by omega))).2 h
theorem zu {r nd k n:Nat} (hr:r=nd+k) (h:2^(min (r-nd) k) ∣ n):(n%2^k)*10+0=0:=by
 rw [Nat.min_eq_right (by omega)] at h
 rw [Nat.mod_eq_zero_of_dvd h]
theorem qF {n P m:Nat} {x:Int} (hP:P<=1152921504606846976) (hn:n<P) (hx1:48<=x) (hx2:x<=57) (hm:m=n*10+(x-48).toNat):
 IntKind.u64.wrap (IntKind.u64.wrap (IntKind.u64.wrap ((n:Int)*10)+x)-48)=(m:Int):=by
 rw [bA (x:=(n:Int)*10) (by omega) (by omega),bA (x:=(n:Int)*10+x) (by omega) (by omega),bA (by omega) (by omega)]
 omega
theorem Bl {n P m:Nat} (hP:P<=1152921504606846976) (hn:n<P) (hm:m=n*10):IntKind.u64.wrap ((n:Int)*10)=(m:Int):=by
 rw [bA (x:=(n:Int)*10) (by omega) (by omega)]
 omega
theorem oU (n k:Nat) {d:Nat} (hd:d=n/2^k):(n:Int)/2^k=(d:Int):=by
 have e2k:((2^k:Nat):Int)=(2:Int)^k:=by simp
 rw [<-e2k,hd]
 exact (Int.natCast_ediv n (2^k)).symm
theorem Cw {k mk:Nat} (hP:2^k<=1152921504606846976) (hp:0<2^k) (hm:mk=2^k-1):IntKind.u64.wrap (IntKind.u64.wrap (2^k)-1)=(mk:Int):=by
 have e2k:((2^k:Nat):Int)=(2:Int)^k:=by simp
 rw [<-e2k]
 generalize 2^k=P at *
 rw [bA (x:=(P:Int)) (by omega) (by omega),bA (by omega) (by omega)]
 omega
theorem u_ {n k mk a:Nat} (hP:2^k<=1152921504606846976) (hn:n<10*2^k) (hm:mk=2^k-1) (ha:a=n%2^k):bits .and .u64 (n:Int) (mk:Int)=(a:Int):=by
 rw [u64_and_nat n mk (by omega) (by omega),hm,Nat.and_two_pow_sub_one_eq_mod,ha]
theorem qw {d:Nat} (hd:d<=9):IntKind.u64.wrap ((d:Int)+48)%256=(d:Int)+48:=by
 rw [bA (by omega) (by omega)];omega
theorem Og {n k:Nat} (h:n<2^k):((n:Int)/2^k==0)=true:=by
 rw [oU n k rfl,Nat.div_eq_of_lt h];rfl
theorem Pf {n k:Nat} (hp:0<2^k) (h:2^k<=n):((n:Int)/2^k==0)=false:=by
 rw [oU n k rfl,beq_eq_false_iff_ne]
 have:=(Nat.one_le_div_iff hp).2 h
 omega
end Go.Proofs.YtjibjahfbblieaaGreatDoor.F
