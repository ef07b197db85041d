import GoSem.PinnedTables
namespace Go.Proofs.YtjibjahfbblieaaGreatDoor.F
def lb:Nat->Nat->Nat->Nat->Nat->Nat
 |0,_,_,_,_=>0
 |fuel+1,a,m,l,r=>
  if a=0 then 18446744073709551616
  else
   let c:=(l+a-1)/a
   if a*c<=r then c
   else (l+m*lb fuel (m%a) a (a-r%a) (a-l%a)+a-1)/a
theorem xO (fuel:Nat):∀ (a m l r x:Nat),0<l->l<=r->r<m->l<=a*x%m->a*x%m<=r->a<m->a=0∨lb fuel a m l r<=x:=by
 induction fuel with
 |zero=>intro a m l r x _ _ _ _ _ _;right;exact Nat.zero_le _
 |succ fuel ih=>
  intro a m l r x hl hlr hrm h1 h2 ham
  by_cases ha:a=0
  ·left;exact ha
  ·right
   have hapos:0<a:=Nat.pos_of_ne_zero ha
   unfold lb
   rw [if_neg ha]
   have hdiv:=Nat.div_add_mod (a*x) m
   generalize hz:a*x%m=z at *
   generalize hy:a*x/m=y at *
   dsimp only
   split
   ·rename_i hc
    refine Nat.le_of_lt_succ ?_
    rw [Nat.div_lt_iff_lt_mul hapos]
    have hle:l<=a*x:=by omega
    have e:(x+1)*a=a*x+a:=by rw [Nat.succ_mul,Nat.mul_comm]
    show l+a-1<(x+1)*a
    omega
   ·rename_i hc
    have hr:r<a*((l+a-1)/a):=Nat.lt_of_not_le hc
    have q1:=Nat.div_add_mod (l+a-1) a
    have q2:=Nat.mod_lt (l+a-1) hapos
    generalize (l+a-1)/a=c at *
    generalize (l+a-1)%a=cm at *
    obtain ⟨t,rfl⟩:∃ t,c=t+1:=⟨c-1,by
     rcases Nat.eq_zero_or_pos c with h|h
     ·subst h;rw [Nat.mul_zero] at hr;omega
     ·omega⟩
    have hat:a*(t+1)=a*t+a:=Nat.mul_succ a t
    rw [hat] at hr q1
    have key:∀ w,l<=w->w<=r->w%a=w-a*t:=by
     intro w hw1 hw2
     have:w=a*t+(w-a*t):=by omega
     rw [this,Nat.mul_add_mod,Nat.mod_eq_of_lt (by omega)]
     omega
    have hl':=key l (Nat.le_refl _) hlr
    have hr':=key r hlr (Nat.le_refl _)
    have hz':=key z h1 h2
    rw [hl',hr']
    have hmy:m%a*y%a=a-(z-a*t):=by
     rw [Nat.mod_mul_mod]
     have e1:m*y+(z-a*t)=a*(x-t):=by
      rw [Nat.mul_sub]
      omega
     have hpos:0<z-a*t:=by omega
     have hltz:z-a*t<a:=by omega
     obtain ⟨g,hg⟩:∃ g,x-t=g+1:=⟨x-t-1,by
      rcases Nat.eq_zero_or_pos (x-t) with h|h
      ·rw [h,Nat.mul_zero] at e1;omega
      ·omega⟩
     rw [hg,Nat.mul_succ] at e1
     have e2:m*y=a*g+(a-(z-a*t)):=by omega
     rw [e2,Nat.mul_add_mod,Nat.mod_eq_of_lt (by omega)]
    have hI:=ih (m%a) a (a-(r-a*t)) (a-(l-a*t)) y (by omega) (by omega) (by omega) (by omega) (by omega) (Nat.mod_lt _ hapos)
    rcases hI with h0|hI
    ·rw [h0,Nat.zero_mul,Nat.zero_mod] at hmy;omega
    ·refine Nat.le_of_lt_succ ?_
     rw [Nat.div_lt_iff_lt_mul hapos]
     have hml:m*lb fuel (m%a) a (a-(r-a*t)) (a-(l-a*t))<=m*y:=Nat.mul_le_mul_left _ hI
     have e:(x+1)*a=a*x+a:=by rw [Nat.succ_mul,Nat.mul_comm]
     show _<(x+1)*a
     omega
def dP (p:Int):Int:=(p*108853)/32768
def dn (r:Nat × Nat):Nat:=r.1*18446744073709551616-r.2
def eO (p:Int):Nat:=10^p.toNat*2^(127-dP p).toNat
def aS (p:Int):Nat:=10^(-p).toNat*2^(dP p-127).toNat
def rowOk (p:Int) (r:Nat × Nat):Bool:=
 decide (r.1<18446744073709551616/\r.2<18446744073709551616/\r.2<=r.1*18446744073709551616/\eO p<=dn r*aS p/\dn r*aS p<eO p+aS p)
def Ig (r:Nat × Nat):Bool:=
 let off:=dn r*9223372036854775808%87112285931760246646623899502532662132736
 let l:=(174224571863520493293247799005065324265472-18446744073709551616-off)%87112285931760246646623899502532662132736
 decide (0<l/\l+36893488147419103232<87112285931760246646623899502532662132736/\dn r%87112285931760246646623899502532662132736≠0/\9223372036854775808<=lb 300 (dn r%87112285931760246646623899502532662132736) 87112285931760246646623899502532662132736 l (l+36893488147419103232))
theorem Oa {r:Nat × Nat} (h:Ig r=true) (x:Nat) (h1:9223372036854775808<=x) (h2:x<18446744073709551616):
 18446744073709551616<x*dn r%87112285931760246646623899502532662132736/\x*dn r%87112285931760246646623899502532662132736<87112285931760246646623899502532662132736-18446744073709551616:=by
 have h':=of_decide_eq_true h
 generalize dn r=P at *
 obtain ⟨t,rfl⟩:∃ t,x=9223372036854775808+t:=⟨x-9223372036854775808,by omega⟩
 have ht:t<9223372036854775808:=by omega
 have e:(9223372036854775808+t)*P%87112285931760246646623899502532662132736=(P*9223372036854775808%87112285931760246646623899502532662132736+P%87112285931760246646623899502532662132736*t%87112285931760246646623899502532662132736)%87112285931760246646623899502532662132736:=by
  rw [Nat.add_mul,Nat.add_mod,Nat.mul_comm 9223372036854775808 P,Nat.mul_comm t P,Nat.mod_mul_mod]
 rw [e]
 generalize ho:P*9223372036854775808%87112285931760246646623899502532662132736=off at *
 have hoff:off<87112285931760246646623899502532662132736:=by rw [<-ho];exact Nat.mod_lt _ (by omega)
 obtain ⟨c1,c2,c3,c4⟩:=h'
 have snd:=xO 300 (P%87112285931760246646623899502532662132736) 87112285931760246646623899502532662132736 ((174224571863520493293247799005065324265472-18446744073709551616-off)%87112285931760246646623899502532662132736) ((174224571863520493293247799005065324265472-18446744073709551616-off)%87112285931760246646623899502532662132736+36893488147419103232) t c1 (by omega) c2
 generalize hzz:P%87112285931760246646623899502532662132736*t%87112285931760246646623899502532662132736=z at *
 have hz:z<87112285931760246646623899502532662132736:=by rw [<-hzz];exact Nat.mod_lt _ (by omega)
 have hl:(174224571863520493293247799005065324265472-18446744073709551616-off)%87112285931760246646623899502532662132736=if off<=87112285931760246646623899502532662132736-18446744073709551616 then 87112285931760246646623899502532662132736-18446744073709551616-off else 174224571863520493293247799005065324265472-18446744073709551616-off:=by
  split<;>omega
 have hPm:P%87112285931760246646623899502532662132736<87112285931760246646623899502532662132736:=Nat.mod_lt _ (by omega)
 generalize lb 300 (P%87112285931760246646623899502532662132736) 87112285931760246646623899502532662132736 ((174224571863520493293247799005065324265472-18446744073709551616-off)%87112285931760246646623899502532662132736) ((174224571863520493293247799005065324265472-18446744073709551616-off)%87112285931760246646623899502532662132736+36893488147419103232)=LB at *
 generalize (174224571863520493293247799005065324265472-18446744073709551616-off)%87112285931760246646623899502532662132736=l at *
 by_cases hin:l<=z/\z<=l+36893488147419103232
 ·have:=snd hin.1 hin.2 hPm
  omega
 ·have hr:(off+z)%87112285931760246646623899502532662132736=if off+z<87112285931760246646623899502532662132736 then off+z else off+z-87112285931760246646623899502532662132736:=by
   split<;>omega
  rw [hr]
  split at hl<;>split<;>omega
def allRows:Bool:=(List.range 696).all fun i=>rowOk ((i:Int)-348) (Go.Pinned.pow10Rows.getD i (0,0))
def Lp:Bool:=(List.range 696).all fun i=>(decide (318<=i)&&decide (i<=375))||decide (i<3)||decide (658<i)||Ig (Go.Pinned.pow10Rows.getD i (0,0))
set_option maxRecDepth 100000 in
theorem Br:allRows=true:=by decide+kernel
set_option maxRecDepth 100000 in
theorem Am:Lp=true:=by decide+kernel
end Go.Proofs.YtjibjahfbblieaaGreatDoor.F
namespace Go.Proofs.YtjibjahfbblieaaGreatDoor.F
def aF:Nat:=18446744073709551616
def bg:Nat:=340282366920938463463374607431768211456
theorem NI:bg=aF*aF:=by decide
def sM (x hi lo s:Nat):Nat:=
 if x*hi/aF/2^s*2^s≠x*hi/aF then x*hi/aF/2^s|||1
 else (x*hi/aF-(if x*hi%aF<x*lo/aF then 1 else 0))/2^s|||(if 1<(x*hi%aF+aF-x*lo/aF)%aF then 1 else 0)
def unr (A B:Nat):Nat:=if A%B=0 then A/B else A/B|||1
theorem Bu {A B h:Nat} (h1:h*B<A) (h2:A<(h+1)*B):unr A B=h|||1:=by
 have hB:0<B:=by
  rcases Nat.eq_zero_or_pos B with e|e
  ·subst e;simp at h2
  ·exact e
 have hd:A/B=h:=by
  refine Nat.le_antisymm (Nat.le_of_lt_succ ((Nat.div_lt_iff_lt_mul hB).2 h2)) ((Nat.le_div_iff_mul_le hB).2 (Nat.le_of_lt h1))
 unfold unr
 rw [if_neg,hd]
 intro e
 have:=Nat.div_add_mod A B
 rw [hd,e,Nat.mul_comm] at this
 omega
theorem Dt {A B h:Nat} (hB:0<B) (h1:A=h*B):unr A B=h:=by
 subst h1
 unfold unr
 rw [if_pos (Nat.mul_mod_left _ _),Nat.mul_div_cancel _ hB]
theorem uS {x hi lo S a b P:Nat} (hx1:9223372036854775808<=x) (hx2:x<aF) (hlo:lo<aF) (hS:2<=S) (hb:0<b)
 (hP:P+x*lo=x*hi*aF) (ha1:x*a<=b*P) (ha2:b*P<x*a+b*x) (hbig:0<x*hi/aF)
 (hfar:∀ h,x*hi/aF=h*S->x*lo/aF<=x*hi%aF->x*hi%aF<=x*lo/aF+1->x*a=h*(b*(S*bg))):
 (if x*hi/aF/S*S≠x*hi/aF then x*hi/aF/S|||1
   else (x*hi/aF-(if x*hi%aF<x*lo/aF then 1 else 0))/S|||(if 1<(x*hi%aF+aF-x*lo/aF)%aF then 1 else 0))=unr (x*a) (b*(S*bg)):=by
 have e64:aF=18446744073709551616:=rfl
 have e128:bg=340282366920938463463374607431768211456:=rfl
 have hH:=Nat.div_add_mod (x*hi) aF
 have hm1:x*hi%aF<aF:=Nat.mod_lt _ (by omega)
 have hL:=Nat.div_add_mod (x*lo) aF
 have hm2:x*lo%aF<aF:=Nat.mod_lt _ (by omega)
 have hxlo:x*lo<=(aF-1)*(aF-1):=Nat.mul_le_mul (by omega) (by omega)
 have hPP:P+x*lo=x*hi/aF*bg+x*hi%aF*aF:=by
  rw [hP,NI]
  conv=>lhs;rw [<-hH]
  rw [Nat.add_mul,Nat.mul_comm aF,Nat.mul_assoc]
 generalize x*hi/aF=H at *
 generalize x*hi%aF=mid at *
 generalize hxl:x*lo=XL at *
 generalize XL/aF=mid2 at *
 generalize XL%aF=f at *
 have hHS:=Nat.div_add_mod H S
 have hHm:H%S<S:=Nat.mod_lt _ (by omega)
 have mulS:∀ k,k*(b*(S*bg))=b*(k*S*bg):=by intro k;rw [Nat.mul_left_comm,Nat.mul_assoc]
 by_cases h1:H/S*S≠H
 ·rw [if_pos h1]
  have hr:H%S≠0:=by
   intro e;apply h1;rw [e,Nat.mul_comm] at hHS;omega
  generalize H/S=h at *
  symm
  have hHeq:H=h*S+H%S:=by rw [Nat.mul_comm];omega
  generalize hk:h*S=K at *
  refine Bu ?_ ?_
  ·rw [mulS,hk]
   have hp:K*bg+x<=P:=by
    clear hP ha1 ha2 hfar mulS hHS hk
    rw [e64] at hxlo hx2 hm1 hPP
    rw [e128] at hPP ⊢
    omega
   have:b*(K*bg+x)<=b*P:=Nat.mul_le_mul_left _ hp
   rw [Nat.mul_add] at this
   omega
  ·rw [mulS,Nat.add_mul,hk,Nat.one_mul]
   have hp:P<(K+S)*bg:=by
    clear hP ha1 ha2 hfar mulS hHS hk
    rw [e64] at hxlo hx2 hm1 hPP
    rw [e128] at hPP ⊢
    omega
   have:b*P<b*((K+S)*bg):=Nat.mul_lt_mul_of_pos_left hp hb
   omega
 ·rw [if_neg h1]
  have hKS:H=H/S*S:=by
   by_cases e:H/S*S=H
   ·exact e.symm
   ·exact absurd e h1
  generalize H/S=h at *
  have hpos:0<h:=by
   rcases Nat.eq_zero_or_pos h with e|e
   ·subst e;rw [Nat.zero_mul] at hKS;omega
   ·exact e
  generalize hk:h*S=K at *
  subst hKS
  by_cases h2:mid<mid2
  ·rw [if_pos h2]
   have hst:1<(mid+aF-mid2)%aF:=by
    clear hP ha1 ha2 hfar mulS hHS hk hPP
    rw [e64] at hxlo hx2 hm1 hL hm2 ⊢
    omega
   rw [if_pos hst]
   have hdv:(H-1)/S=h-1:=by
    have e:H-1=S*(h-1)+(S-1):=by
     have e3:S*(h-1)=S*h-S:=by rw [Nat.mul_sub,Nat.mul_one]
     have e4:S*h=H:=by rw [Nat.mul_comm];exact hk
     have e5:S*1<=S*h:=Nat.mul_le_mul_left _ hpos
     rw [e3,e4];rw [e4] at e5;omega
    rw [e,Nat.mul_add_div (by omega),Nat.div_eq_of_lt (by omega),Nat.add_zero]
   rw [hdv]
   symm
   refine Bu ?_ ?_
   ·rw [mulS]
    have hk1:(h-1)*S=H-S:=by rw [Nat.sub_mul,Nat.one_mul,hk]
    rw [hk1]
    have hp:(H-S)*bg+x<=P:=by
     clear hP ha1 ha2 hfar mulS hHS hk hdv hk1
     rw [e64] at hxlo hx2 hm1 hPP hL
     rw [e128] at hPP ⊢
     omega
    have:b*((H-S)*bg+x)<=b*P:=Nat.mul_le_mul_left _ hp
    rw [Nat.mul_add] at this
    omega
   ·have e1:h-1+1=h:=by omega
    rw [e1,mulS,hk]
    have hp:P<H*bg:=by
     clear hP ha1 ha2 hfar mulS hHS hk hdv
     rw [e64] at hxlo hx2 hm1 hPP hL
     rw [e128] at hPP ⊢
     omega
    have:b*P<b*(H*bg):=Nat.mul_lt_mul_of_pos_left hp hb
    omega
  ·rw [if_neg h2]
   have hdv:(H-0)/S=h:=by rw [Nat.sub_zero,<-hk,Nat.mul_div_cancel _ (by omega)]
   rw [hdv]
   by_cases h3:mid<=mid2+1
   ·have hst:¬ 1<(mid+aF-mid2)%aF:=by
     clear hP ha1 ha2 hfar mulS hHS hk hPP
     rw [e64] at hxlo hx2 hm1 hL hm2 ⊢
     omega
    rw [if_neg hst,Nat.or_zero]
    symm
    exact Dt (Nat.mul_pos hb (Nat.mul_pos (by omega) (by rw [e128];omega))) (hfar h hk.symm (by omega) h3)
   ·have hst:1<(mid+aF-mid2)%aF:=by
     clear hP ha1 ha2 hfar mulS hHS hk hPP
     rw [e64] at hxlo hx2 hm1 hL hm2 ⊢
     omega
    rw [if_pos hst]
    symm
    refine Bu ?_ ?_
    ·rw [mulS,hk]
     have hp:H*bg+x<=P:=by
      clear hP ha1 ha2 hfar mulS hHS hk hdv
      rw [e64] at hxlo hx2 hm1 hPP hL hm2
      rw [e128] at hPP ⊢
      omega
     have:b*(H*bg+x)<=b*P:=Nat.mul_le_mul_left _ hp
     rw [Nat.mul_add] at this
     omega
    ·rw [mulS,Nat.add_mul,hk,Nat.one_mul]
     have hp:P<(H+S)*bg:=by
      clear hP ha1 ha2 hfar mulS hHS hk hdv
      rw [e64] at hxlo hx2 hm1 hPP hL
      rw [e128] at hPP ⊢
      omega
     have:b*P<b*((H+S)*bg):=Nat.mul_lt_mul_of_pos_left hp hb
     omega
def rowAt (p:Int):Nat × Nat:=Go.Pinned.pow10Rows.getD (p+348).toNat (0,0)
def NS:Bool:=(List.range 696).all fun i=>decide (9223372036854775808<=(Go.Pinned.pow10Rows.getD i (0,0)).1)
set_option maxRecDepth 100000 in
theorem Dp:NS=true:=by decide+kernel
def FX:Bool:=(List.range 28).all fun i=>decide ((Go.Pinned.pow10Rows.getD (348+i) (0,0)).2=0/\(Go.Pinned.pow10Rows.getD (348+i) (0,0)).1%2=0/\aS i=1)
set_option maxRecDepth 100000 in
theorem oo:FX=true:=by decide+kernel
def KR:Bool:=(List.range 31).all fun i=>decide (36893488147419103232*10^i<=2^(127-dP (-(i:Int))).toNat/\36893488147419103232*10^i<=2^(136+i)/\(dP (-(i:Int))-127).toNat=0)
set_option maxRecDepth 100000 in
theorem AZ:KR=true:=by decide+kernel
theorem b_ {n:Nat} {f:Nat->Bool} (h:(List.range n).all f=true) {i:Nat} (hi:i<n):f i=true:=
 (List.all_eq_true.1 h) i (List.mem_range.2 hi)
theorem wR {p:Int} (h1: -348<=p) (h2:p<=347):rowOk p (rowAt p)=true:=by
 have:=b_ Br (i:=(p+348).toNat) (by omega)
 have e:(((p+348).toNat:Nat):Int)-348=p:=by omega
 rw [e] at this
 exact this
theorem wh {p:Int} (h1: -348<=p) (h2:p<=347):9223372036854775808<=(rowAt p).1:=by
 have:=b_ Dp (i:=(p+348).toNat) (by omega)
 exact of_decide_eq_true this
theorem Ky {p:Int} (h1: -345<=p) (h2:p<=310) (h3:p< -30∨27<p):Ig (rowAt p)=true:=by
 have:=b_ Am (i:=(p+348).toNat) (by omega)
 simp only [Bool.or_eq_true,Bool.and_eq_true,decide_eq_true_eq] at this
 rcases this with ((h|h)|h)|h
 ·omega
 ·omega
 ·omega
 ·exact h
theorem mF {g u v d:Nat} (hu:g ∣ u) (hv:g ∣ v) (h1:u<v+d) (h2:v<u+d) (hd:d<=g):u=v:=by
 obtain ⟨m,rfl⟩:=hu
 obtain ⟨n,rfl⟩:=hv
 rcases Nat.lt_trichotomy m n with h|h|h
 ·have:g*(m+1)<=g*n:=Nat.mul_le_mul_left _ h
  rw [Nat.mul_add,Nat.mul_one] at this
  omega
 ·rw [h]
 ·have:g*(n+1)<=g*m:=Nat.mul_le_mul_left _ h
  rw [Nat.mul_add,Nat.mul_one] at this
  omega
end Go.Proofs.YtjibjahfbblieaaGreatDoor.F
