import Derived.Test.YtamdnnkdnhkghaaGreatDoorQ31
import Derived.Test.YtamdnnkdnhkghaaGreatDoorQ32
set_option maxHeartbeats 12800000
set_option maxRecDepth 100000
set_option linter.unusedVariables false
namespace Go.Proofs.YtamdnnkdnhkghaaGreatDoor
open Go Go.RowKit
theorem zt8 (A C r q:Nat) (s t z1 z2:Bool) (w:World) (X Y:Nat) (lo:Int) (hA:FinC A s z1) (hC:FinC C t z2) (hz:(z1&&z2)=false) (hmA:(A:Int)%9223372036854775808=r) (hmC:(C:Int)%9223372036854775808=q) (hr:r<infW) (hq:q<infW)
 (hlo:lo=min (wE r) (wE q)) (hX:X=wM r*2^(wE r-lo).toNat) (hY:Y=wM q*2^(wE q-lo).toNat) (hst:(s==t)=false) (hcmp:cmpI X Y=0):
 Rb 86 #[.int .u64 A,.int .u64 C] w (.int .u64 0):=by
 have GA:=hide hA
 have GC:=hide hC
 have P1:=hide (fun w=>zaw r w hr)
 have P2:=hide (fun w=>zaw q w hq)
 have m1:=wM_lt r
 have m2:=wM_lt q
 have k1:=wK_lt hr
 have k2:=wK_lt hq
 have E1: -1074<=wE r/\wE r<=971:=by unfold wE;omega
 have E2: -1074<=wE q/\wE q<=971:=by unfold wE;omega
 have O1:=hide (fun w=>zbf (wM r) w (by omega))
 have O2:=hide (fun w=>zbf (wM q) w (by omega))
 have L1:(dig (wM r)).length<=5:=zar (by omega)
 have L2:(dig (wM q)).length<=5:=zar (by omega)
 have cX:X<2^capE:=by rw [hX];exact zbu m1 (by omega)
 have cY:Y<2^capE:=by rw [hY];exact zbu m2 (by omega)
 have LX:=zbv cX
 have LY:=zbv cY
 clear hA hC k1 k2 hr hq cX cY
 generalize wM r=a1 at *
 generalize wM q=a2 at *
 generalize wE r=b1 at *
 generalize wE q=b2 at *
 by_cases hbe:b2<b1
 ·have hlo':lo=b2:=by omega
  subst hlo'
  have eX:a1*2^(b1-lo).toNat=X:=by rw [hX]
  have eY:a2*2^((0:Int)).toNat=Y:=by rw [hY];simp
  clear hX hY hlo
  go_enter Tryz.func86,Tryz.ntmps86
  go_wp2_with fail
  refine rs (GA.out.nan _) ?_
  go_wp2_with fail
  refine rs (GC.out.nan _) ?_
  go_wp2_with fail
  refine rs (GA.out.inf _) ?_
  go_wp2_with fail
  refine rs (GC.out.inf _) ?_
  go_wp2_with fail
  refine rs (GA.out.zero _) ?_
  cases z1 with
  |false=>
   go_wp2_with fail
   refine rs (P1.out _) ?_
   go_wp2_with fail
   refine rs (P2.out _) ?_
   go_wp2_with fail
   refine (O1.out _).mono ?_
   rintro e w3 ⟨v3,rfl,hg3,hb3⟩
   go_wp2_with fail
   refine (O2.out _).mono ?_
   rintro e w4 ⟨v4,rfl,hg4,hb4⟩
   have hg3':=hg3.below hb4
   have hb4':=bt hb3 hb4
   have HT1:=hide (fun k h0 h1=>twoI a1 k v3 w4 hg3' L1 h0 h1)
   have HG4:=hide hg4
   have Hb4:=hide hb4'
   clear hg3 hg4 hb3 hb4 hg3' hb4'
   go_wp2_with fail
   refine (HT1.out _ (by omega) (by omega)).mono ?_
   rintro e w5 ⟨v5,rfl,hg5,hb5⟩
   have hg4':=HG4.out.below hb5
   have hb5':=bt Hb4.out hb5
   have HT2:=hide (fun k h0 h1=>twoI a2 k v4 w5 hg4' L2 h0 h1)
   have HG5:=hide hg5
   have Hb5:=hide hb5'
   clear hg5 hb5 hg4' hb5' HT1 HG4
   go_wp2_with fail
   refine (HT2.out _ (by omega) (by omega)).mono ?_
   rintro e w6 ⟨v6,rfl,hg6,hb6⟩
   have hg5':=HG5.out.below hb6
   have hb6':=bt Hb5.out hb6
   have HGX:Hid (Big w6 v5 (dig X)):=hide (by have:=hg5';rw [eX] at this;exact this)
   have HGY:Hid (Big w6 v6 (dig Y)):=hide (by have:=hg6;rw [eY] at this;exact this)
   have Hb6:=hide hb6'
   clear hg5' hg6 hb6 hb6' HT2 HG5
   go_wp2_with fail
   refine rs (GA.out.minor _) ?_
   go_wp2_with fail
   refine rs (GC.out.minor _) ?_
   have HP:=hide (zaK X Y v5 v6 _ HGX.out HGY.out (by omega) (by omega))
   rw [hcmp] at HP
   go_wp2_with fail
   refine rb HP.out fun w6' hb6=>?_
   have HGX':=hide (HGX.out.below hb6)
   have HGY':=hide (HGY.out.below hb6)
   have Hb6':=hide (bt Hb6.out hb6)
   clear hb6 HP
   go_wp2
   go_ret
   exact ⟨rfl,Hb6'.out⟩
  |true=>
   obtain rfl:z2=false:=by simpa using hz
   go_wp2_with fail
   refine rs (GC.out.zero _) ?_
   go_wp2_with fail
   refine rs (P1.out _) ?_
   go_wp2_with fail
   refine rs (P2.out _) ?_
   go_wp2_with fail
   refine (O1.out _).mono ?_
   rintro e w3 ⟨v3,rfl,hg3,hb3⟩
   go_wp2_with fail
   refine (O2.out _).mono ?_
   rintro e w4 ⟨v4,rfl,hg4,hb4⟩
   have hg3':=hg3.below hb4
   have hb4':=bt hb3 hb4
   have HT1:=hide (fun k h0 h1=>twoI a1 k v3 w4 hg3' L1 h0 h1)
   have HG4:=hide hg4
   have Hb4:=hide hb4'
   clear hg3 hg4 hb3 hb4 hg3' hb4'
   go_wp2_with fail
   refine (HT1.out _ (by omega) (by omega)).mono ?_
   rintro e w5 ⟨v5,rfl,hg5,hb5⟩
   have hg4':=HG4.out.below hb5
   have hb5':=bt Hb4.out hb5
   have HT2:=hide (fun k h0 h1=>twoI a2 k v4 w5 hg4' L2 h0 h1)
   have HG5:=hide hg5
   have Hb5:=hide hb5'
   clear hg5 hb5 hg4' hb5' HT1 HG4
   go_wp2_with fail
   refine (HT2.out _ (by omega) (by omega)).mono ?_
   rintro e w6 ⟨v6,rfl,hg6,hb6⟩
   have hg5':=HG5.out.below hb6
   have hb6':=bt Hb5.out hb6
   have HGX:Hid (Big w6 v5 (dig X)):=hide (by have:=hg5';rw [eX] at this;exact this)
   have HGY:Hid (Big w6 v6 (dig Y)):=hide (by have:=hg6;rw [eY] at this;exact this)
   have Hb6:=hide hb6'
   clear hg5' hg6 hb6 hb6' HT2 HG5
   go_wp2_with fail
   refine rs (GA.out.minor _) ?_
   go_wp2_with fail
   refine rs (GC.out.minor _) ?_
   have HP:=hide (zaK X Y v5 v6 _ HGX.out HGY.out (by omega) (by omega))
   rw [hcmp] at HP
   go_wp2_with fail
   refine rb HP.out fun w6' hb6=>?_
   have HGX':=hide (HGX.out.below hb6)
   have HGY':=hide (HGY.out.below hb6)
   have Hb6':=hide (bt Hb6.out hb6)
   clear hb6 HP
   go_wp2
   go_ret
   exact ⟨rfl,Hb6'.out⟩
 have hlo':lo=b1:=by omega
 subst hlo'
 have eX:a1*2^((0:Int)).toNat=X:=by rw [hX];simp
 have eY:a2*2^(b2-lo).toNat=Y:=by rw [hY]
 clear hX hY hlo
 go_enter Tryz.func86,Tryz.ntmps86
 go_wp2_with fail
 refine rs (GA.out.nan _) ?_
 go_wp2_with fail
 refine rs (GC.out.nan _) ?_
 go_wp2_with fail
 refine rs (GA.out.inf _) ?_
 go_wp2_with fail
 refine rs (GC.out.inf _) ?_
 go_wp2_with fail
 refine rs (GA.out.zero _) ?_
 cases z1 with
 |false=>
  go_wp2_with fail
  refine rs (P1.out _) ?_
  go_wp2_with fail
  refine rs (P2.out _) ?_
  go_wp2_with fail
  refine (O1.out _).mono ?_
  rintro e w3 ⟨v3,rfl,hg3,hb3⟩
  go_wp2_with fail
  refine (O2.out _).mono ?_
  rintro e w4 ⟨v4,rfl,hg4,hb4⟩
  have hg3':=hg3.below hb4
  have hb4':=bt hb3 hb4
  have HT1:=hide (fun k h0 h1=>twoI a1 k v3 w4 hg3' L1 h0 h1)
  have HG4:=hide hg4
  have Hb4:=hide hb4'
  clear hg3 hg4 hb3 hb4 hg3' hb4'
  go_wp2_with fail
  refine (HT1.out _ (by omega) (by omega)).mono ?_
  rintro e w5 ⟨v5,rfl,hg5,hb5⟩
  have hg4':=HG4.out.below hb5
  have hb5':=bt Hb4.out hb5
  have HT2:=hide (fun k h0 h1=>twoI a2 k v4 w5 hg4' L2 h0 h1)
  have HG5:=hide hg5
  have Hb5:=hide hb5'
  clear hg5 hb5 hg4' hb5' HT1 HG4
  go_wp2_with fail
  refine (HT2.out _ (by omega) (by omega)).mono ?_
  rintro e w6 ⟨v6,rfl,hg6,hb6⟩
  have hg5':=HG5.out.below hb6
  have hb6':=bt Hb5.out hb6
  have HGX:Hid (Big w6 v5 (dig X)):=hide (by have:=hg5';rw [eX] at this;exact this)
  have HGY:Hid (Big w6 v6 (dig Y)):=hide (by have:=hg6;rw [eY] at this;exact this)
  have Hb6:=hide hb6'
  clear hg5' hg6 hb6 hb6' HT2 HG5
  go_wp2_with fail
  refine rs (GA.out.minor _) ?_
  go_wp2_with fail
  refine rs (GC.out.minor _) ?_
  have HP:=hide (zaK X Y v5 v6 _ HGX.out HGY.out (by omega) (by omega))
  rw [hcmp] at HP
  go_wp2_with fail
  refine rb HP.out fun w6' hb6=>?_
  have HGX':=hide (HGX.out.below hb6)
  have HGY':=hide (HGY.out.below hb6)
  have Hb6':=hide (bt Hb6.out hb6)
  clear hb6 HP
  go_wp2
  go_ret
  exact ⟨rfl,Hb6'.out⟩
 |true=>
  obtain rfl:z2=false:=by simpa using hz
  go_wp2_with fail
  refine rs (GC.out.zero _) ?_
  go_wp2_with fail
  refine rs (P1.out _) ?_
  go_wp2_with fail
  refine rs (P2.out _) ?_
  go_wp2_with fail
  refine (O1.out _).mono ?_
  rintro e w3 ⟨v3,rfl,hg3,hb3⟩
  go_wp2_with fail
  refine (O2.out _).mono ?_
  rintro e w4 ⟨v4,rfl,hg4,hb4⟩
  have hg3':=hg3.below hb4
  have hb4':=bt hb3 hb4
  have HT1:=hide (fun k h0 h1=>twoI a1 k v3 w4 hg3' L1 h0 h1)
  have HG4:=hide hg4
  have Hb4:=hide hb4'
  clear hg3 hg4 hb3 hb4 hg3' hb4'
  go_wp2_with fail
  refine (HT1.out _ (by omega) (by omega)).mono ?_
  rintro e w5 ⟨v5,rfl,hg5,hb5⟩
  have hg4':=HG4.out.below hb5
  have hb5':=bt Hb4.out hb5
  have HT2:=hide (fun k h0 h1=>twoI a2 k v4 w5 hg4' L2 h0 h1)
  have HG5:=hide hg5
  have Hb5:=hide hb5'
  clear hg5 hb5 hg4' hb5' HT1 HG4
  go_wp2_with fail
  refine (HT2.out _ (by omega) (by omega)).mono ?_
  rintro e w6 ⟨v6,rfl,hg6,hb6⟩
  have hg5':=HG5.out.below hb6
  have hb6':=bt Hb5.out hb6
  have HGX:Hid (Big w6 v5 (dig X)):=hide (by have:=hg5';rw [eX] at this;exact this)
  have HGY:Hid (Big w6 v6 (dig Y)):=hide (by have:=hg6;rw [eY] at this;exact this)
  have Hb6:=hide hb6'
  clear hg5' hg6 hb6 hb6' HT2 HG5
  go_wp2_with fail
  refine rs (GA.out.minor _) ?_
  go_wp2_with fail
  refine rs (GC.out.minor _) ?_
  have HP:=hide (zaK X Y v5 v6 _ HGX.out HGY.out (by omega) (by omega))
  rw [hcmp] at HP
  go_wp2_with fail
  refine rb HP.out fun w6' hb6=>?_
  have HGX':=hide (HGX.out.below hb6)
  have HGY':=hide (HGY.out.below hb6)
  have Hb6':=hide (bt Hb6.out hb6)
  clear hb6 HP
  go_wp2
  go_ret
  exact ⟨rfl,Hb6'.out⟩
theorem zm2 (A C:Nat) (s t i1 z1 n2 i2 z2:Bool) (w:World) (hA:WordC A true s i1 z1) (hC:WordC C n2 t i2 z2):
 Rs 86 #[.int .u64 A,.int .u64 C] w (.int .u64 9221120237041090560):=by
 have GA:=hide hA
 have GC:=hide hC
 clear hA hC
 go_enter Tryz.func86,Tryz.ntmps86
 go_wp2_with fail
 refine rs (GA.out.nan _) ?_
 go_wp2
 go_ret
 exact ⟨rfl,rfl⟩
theorem zig (A C:Nat) (s t i1 z1 i2 z2:Bool) (w:World) (hA:WordC A false s i1 z1) (hC:WordC C true t i2 z2):
 Rs 86 #[.int .u64 A,.int .u64 C] w (.int .u64 9221120237041090560):=by
 have GA:=hide hA
 have GC:=hide hC
 clear hA hC
 go_enter Tryz.func86,Tryz.ntmps86
 go_wp2_with fail
 refine rs (GA.out.nan _) ?_
 go_wp2_with fail
 refine rs (GC.out.nan _) ?_
 go_wp2
 go_ret
 exact ⟨rfl,rfl⟩
theorem zoM (A C:Nat) (s t z1 z2:Bool) (w:World) (hA:WordC A false s true z1) (hC:WordC C false t true z2) (hne:((A:Int) !=C)=true):
 Rs 86 #[.int .u64 A,.int .u64 C] w (.int .u64 9221120237041090560):=by
 have GA:=hide hA
 have GC:=hide hC
 clear hA hC
 go_enter Tryz.func86,Tryz.ntmps86
 go_wp2_with fail
 refine rs (GA.out.nan _) ?_
 go_wp2_with fail
 refine rs (GC.out.nan _) ?_
 go_wp2_with fail
 refine rs (GA.out.inf _) ?_
 go_wp2_with fail
 refine rs (GA.out.inf _) ?_
 go_wp2_with fail
 refine rs (GC.out.inf _) ?_
 go_wp2
 go_ret
 exact ⟨rfl,rfl⟩
theorem zp1 (A C:Nat) (s t z1 z2:Bool) (w:World) (hA:WordC A false s true z1) (hC:WordC C false t true z2) (hne:((A:Int) !=C)=false):
 Rs 86 #[.int .u64 A,.int .u64 C] w (.int .u64 A):=by
 have GA:=hide hA
 have GC:=hide hC
 clear hA hC
 go_enter Tryz.func86,Tryz.ntmps86
 go_wp2_with fail
 refine rs (GA.out.nan _) ?_
 go_wp2_with fail
 refine rs (GC.out.nan _) ?_
 go_wp2_with fail
 refine rs (GA.out.inf _) ?_
 go_wp2_with fail
 refine rs (GA.out.inf _) ?_
 go_wp2_with fail
 refine rs (GC.out.inf _) ?_
 go_wp2_with fail
 refine rs (GA.out.inf _) ?_
 go_wp2
 go_ret
 exact ⟨rfl,rfl⟩
theorem zsD (A C:Nat) (s t z1 z2:Bool) (w:World) (hA:WordC A false s true z1) (hC:WordC C false t false z2):
 Rs 86 #[.int .u64 A,.int .u64 C] w (.int .u64 A):=by
 have GA:=hide hA
 have GC:=hide hC
 clear hA hC
 go_enter Tryz.func86,Tryz.ntmps86
 go_wp2_with fail
 refine rs (GA.out.nan _) ?_
 go_wp2_with fail
 refine rs (GC.out.nan _) ?_
 go_wp2_with fail
 refine rs (GA.out.inf _) ?_
 go_wp2_with fail
 refine rs (GA.out.inf _) ?_
 go_wp2_with fail
 refine rs (GC.out.inf _) ?_
 go_wp2_with fail
 refine rs (GA.out.inf _) ?_
 go_wp2
 go_ret
 exact ⟨rfl,rfl⟩
theorem zsB (A C:Nat) (s t z1 z2:Bool) (w:World) (hA:WordC A false s false z1) (hC:WordC C false t true z2):
 Rs 86 #[.int .u64 A,.int .u64 C] w (.int .u64 C):=by
 have GA:=hide hA
 have GC:=hide hC
 clear hA hC
 go_enter Tryz.func86,Tryz.ntmps86
 go_wp2_with fail
 refine rs (GA.out.nan _) ?_
 go_wp2_with fail
 refine rs (GC.out.nan _) ?_
 go_wp2_with fail
 refine rs (GA.out.inf _) ?_
 go_wp2_with fail
 refine rs (GC.out.inf _) ?_
 go_wp2_with fail
 refine rs (GA.out.inf _) ?_
 go_wp2_with fail
 refine rs (GA.out.inf _) ?_
 go_wp2
 go_ret
 exact ⟨rfl,rfl⟩
theorem zqD (A C:Nat) (s t:Bool) (w:World) (hA:WordC A false s false true) (hC:WordC C false t false true) (hne:((A:Int)==C)=true):
 Rs 86 #[.int .u64 A,.int .u64 C] w (.int .u64 A):=by
 have GA:=hide hA
 have GC:=hide hC
 clear hA hC
 go_enter Tryz.func86,Tryz.ntmps86
 go_wp2_with fail
 refine rs (GA.out.nan _) ?_
 go_wp2_with fail
 refine rs (GC.out.nan _) ?_
 go_wp2_with fail
 refine rs (GA.out.inf _) ?_
 go_wp2_with fail
 refine rs (GC.out.inf _) ?_
 go_wp2_with fail
 refine rs (GA.out.zero _) ?_
 go_wp2_with fail
 refine rs (GC.out.zero _) ?_
 go_wp2
 go_ret
 exact ⟨rfl,rfl⟩
theorem zpY (A C:Nat) (s t:Bool) (w:World) (hA:WordC A false s false true) (hC:WordC C false t false true) (hne:((A:Int)==C)=false):
 Rs 86 #[.int .u64 A,.int .u64 C] w (.int .u64 0):=by
 have GA:=hide hA
 have GC:=hide hC
 clear hA hC
 go_enter Tryz.func86,Tryz.ntmps86
 go_wp2_with fail
 refine rs (GA.out.nan _) ?_
 go_wp2_with fail
 refine rs (GC.out.nan _) ?_
 go_wp2_with fail
 refine rs (GA.out.inf _) ?_
 go_wp2_with fail
 refine rs (GC.out.inf _) ?_
 go_wp2_with fail
 refine rs (GA.out.zero _) ?_
 go_wp2_with fail
 refine rs (GC.out.zero _) ?_
 go_wp2
 go_ret
 exact ⟨rfl,rfl⟩
theorem zkj {A C:Nat} {s:Bool} {k:Nat} (h:Ieee.double.read A=.nan s k):Ieee.double.add A C=none:=by
 unfold Ieee.Format.add
 rw [h]
 rfl
theorem zkc {A C:Nat} {s:Bool} {k:Nat} (h:Ieee.double.read C=.nan s k):Ieee.double.add A C=none:=by
 unfold Ieee.Format.add
 rw [h]
 cases Ieee.double.read A<;>rfl
theorem zl7 {s t:Bool} {r q:Nat} (hr:r<infW) (hq:q<infW) (X Y:Nat) (lo:Int) (hlo:lo=min (wE r) (wE q)) (hX:X=wM r*2^(wE r-lo).toNat) (hY:Y=wM q*2^(wE q-lo).toNat):
 Ieee.double.add (wordS s r) (wordS t q)=some (wordS (if sgZ s X+sgZ t Y=0 then s&&t else decide (sgZ s X+sgZ t Y<0)) (Ieee.double.nearest false (sgZ s X+sgZ t Y).natAbs lo)):=by
 unfold Ieee.Format.add
 rw [zaj hr,zaj hq,<-zb9]
 show (some (Ieee.Datum.number (if Ieee.signed s (wM r) (wE r-min (wE r) (wE q)).toNat+Ieee.signed t (wM q) (wE q-min (wE r) (wE q)).toNat=0 then s&&t else decide (Ieee.signed s (wM r) (wE r-min (wE r) (wE q)).toNat+Ieee.signed t (wM q) (wE q-min (wE r) (wE q)).toNat<0)) _ _)).map _=_
 rw [zbd,zbd,<-hlo,<-hX,<-hY]
 rfl
theorem zi9 {X Y:Nat}:(X<Y->cmpI X Y= -1)/\(X=Y->cmpI X Y=0)/\(Y<X->cmpI X Y=1):=⟨zdn,fun h=>by subst h;exact znI rfl,zjy⟩
theorem zo4 (s t:Bool) (r q:Nat) (w:World) (hr:r<infW) (hq:q<infW) (hz:¬ (r=0/\q=0)):
 Rb 86 #[.int .u64 (wordS s r:Nat),.int .u64 (wordS t q:Nat)] w (.int .u64 (opW (Ieee.double.add (wordS s r) (wordS t q)):Nat)):=by
 obtain ⟨lo,hlo⟩:∃ lo,lo=min (wE r) (wE q):=⟨_,rfl⟩
 obtain ⟨X,hX⟩:∃ X,X=wM r*2^(wE r-lo).toNat:=⟨_,rfl⟩
 obtain ⟨Y,hY⟩:∃ Y,Y=wM q*2^(wE q-lo).toNat:=⟨_,rfl⟩
 have hzz:(decide (r=0)&&decide (q=0))=false:=by
  rw [Bool.and_eq_false_iff]
  by_cases h:r=0
  ·exact .inr (decide_eq_false (fun g=>hz ⟨h,g⟩))
  exact .inl (decide_eq_false h)
 have hmA:=zaB (s:=s) (r:=r) (by unfold infW at hr;omega)
 have hmC:=zaB (s:=t) (r:=q) (by unfold infW at hq;omega)
 rw [zl7 hr hq X Y lo hlo hX hY]
 show Calls Tryz.prog 86 _ w fun e w'=>e=.returned (.int .u64 ((wordS (if sgZ s X+sgZ t Y=0 then s&&t else decide (sgZ s X+sgZ t Y<0)) (Ieee.double.nearest false (sgZ s X+sgZ t Y).natAbs lo):Nat):Int))/\_
 have hpos:r≠0->0<X:=fun h=>by rw [hX];exact Nat.mul_pos (Nat.pos_of_ne_zero (wM_ne h)) (Nat.pow_pos (by omega))
 have hpos2:q≠0->0<Y:=fun h=>by rw [hY];exact Nat.mul_pos (Nat.pos_of_ne_zero (wM_ne h)) (Nat.pow_pos (by omega))
 have hXY:0<X+Y:=by
  by_cases h:r=0
  ·have:=hpos2 (fun g=>hz ⟨h,g⟩);omega
  have:=hpos h;omega
 by_cases hst:t=s
 ·subst hst
  refine rb (zpy _ _ r q t t _ _ w X Y lo (finC hr) (finC hq) hzz hmA hmC hr hq hlo hX hY rfl) fun w' hb=>?_
  refine ⟨?_,hb⟩
  have e1:(sgZ t X+sgZ t Y).natAbs=X+Y:=by unfold sgZ;split<;>omega
  have e2:(if sgZ t X+sgZ t Y=0 then t&&t else decide (sgZ t X+sgZ t Y<0))=t:=by
   have:sgZ t X+sgZ t Y≠0:=by unfold sgZ;split<;>omega
   rw [if_neg this]
   cases t
   ·exact decide_eq_false (by unfold sgZ;simp;omega)
   exact decide_eq_true (by unfold sgZ;simp;omega)
  rw [e1,e2]
 have hbq:(s==t)=false:=by rw [beq_eq_false_iff_ne];exact fun h=>hst h.symm
 have ht:t=!s:=by cases s<;>cases t<;>simp_all
 rcases Nat.lt_trichotomy X Y with g|g|g
 ·refine rb (zva _ _ r q s t _ _ w X Y lo (finC hr) (finC hq) hzz hmA hmC hr hq hlo hX hY hbq (by omega) (zi9.1 g)) fun w' hb=>?_
  refine ⟨?_,hb⟩
  have e1:(sgZ s X+sgZ t Y).natAbs=Y-X:=by subst ht;unfold sgZ;cases s<;>simp<;>omega
  have e2:(if sgZ s X+sgZ t Y=0 then s&&t else decide (sgZ s X+sgZ t Y<0))=t:=by
   have:sgZ s X+sgZ t Y≠0:=by subst ht;unfold sgZ;cases s<;>simp<;>omega
   rw [if_neg this]
   subst ht
   cases s
   ·exact decide_eq_true (by unfold sgZ;simp;omega)
   exact decide_eq_false (by unfold sgZ;simp;omega)
  rw [e1,e2]
 ·refine rb (zt8 _ _ r q s t _ _ w X Y lo (finC hr) (finC hq) hzz hmA hmC hr hq hlo hX hY hbq (zi9.2.1 g)) fun w' hb=>?_
  refine ⟨?_,hb⟩
  have e1:sgZ s X+sgZ t Y=0:=by subst ht;subst g;unfold sgZ;cases s<;>simp<;>omega
  have e2:(s&&t)=false:=by subst ht;cases s<;>rfl
  rw [if_pos e1,e1,e2]
  show _=Ending.returned (.int .u64 ((wordS false (Ieee.double.nearest false 0 lo):Nat):Int))
  rw [zbU]
  rfl
 refine rb (zuQ _ _ r q s t _ _ w X Y lo (finC hr) (finC hq) hzz hmA hmC hr hq hlo hX hY hbq (by omega) (zi9.2.2 g)) fun w' hb=>?_
 refine ⟨?_,hb⟩
 have e1:(sgZ s X+sgZ t Y).natAbs=X-Y:=by subst ht;unfold sgZ;cases s<;>simp<;>omega
 have e2:(if sgZ s X+sgZ t Y=0 then s&&t else decide (sgZ s X+sgZ t Y<0))=s:=by
  have:sgZ s X+sgZ t Y≠0:=by subst ht;unfold sgZ;cases s<;>simp<;>omega
  rw [if_neg this]
  subst ht
  cases s
  ·exact decide_eq_false (by unfold sgZ;simp;omega)
  exact decide_eq_true (by unfold sgZ;simp;omega)
 rw [e1,e2]
theorem zox {s t:Bool} {r:Nat} (h:s≠t):(((wordS s r:Nat):Int)==(wordS t r:Nat))=false:=by
 rw [beq_eq_false_iff_ne]
 unfold wordS
 cases s<;>cases t<;>simp at h ⊢<;>omega
theorem zka (s t:Bool) (r q:Nat) (w:World) (hr:r<9223372036854775808) (hq:q<9223372036854775808):
 Rb 86 #[.int .u64 (wordS s r:Nat),.int .u64 (wordS t q:Nat)] w (.int .u64 (opW (Ieee.double.add (wordS s r) (wordS t q)):Nat)):=by
 rcases Nat.lt_trichotomy r infW with h|h|h
 ·rcases Nat.lt_trichotomy q infW with g|g|g
  ·by_cases hz:r=0/\q=0
   ·obtain ⟨rfl,rfl⟩:=hz
    have e1:Ieee.double.add (wordS s 0) (wordS t 0)=some (wordS (s&&t) 0):=by
     rw [zl7 (by decide) (by decide) 0 0 (wE 0) (by simp) (by rw [wM_is0,Nat.zero_mul]) (by rw [wM_is0,Nat.zero_mul])]
     have e0:sgZ s 0+sgZ t 0=0:=by unfold sgZ;cases s<;>cases t<;>rfl
     rw [if_pos e0,e0]
     show some (wordS (s&&t) (Ieee.double.nearest false 0 (wE 0)))=_
     rw [zbU]
    rw [e1]
    by_cases hst:s=t
    ·subst hst
     refine rs (zqD _ _ s s w (fin0 (by decide) rfl) (fin0 (by decide) rfl) (by simp)) ?_
     refine ⟨?_,Below.refl _ _⟩
     rw [Bool.and_self]
     rfl
    refine rs (zpY _ _ s t w (fin0 (by decide) rfl) (fin0 (by decide) rfl) (zox hst)) ?_
    refine ⟨?_,Below.refl _ _⟩
    have:(s&&t)=false:=by cases s<;>cases t<;>simp_all
    rw [this]
    rfl
   exact zo4 s t r q w h g hz
  ·subst g
   have e1:Ieee.double.add (wordS s r) (wordS t infW)=some (wordS t infW):=by
    unfold Ieee.Format.add
    rw [zaq,zaj h,<-za4]
    rfl
   rw [e1]
   refine rs (zsB _ _ s t _ _ w (zcb h) (zap rfl)) ?_
   exact ⟨rfl,Below.refl _ _⟩
  rw [zkc (zaI g hq)]
  refine rs (zig _ _ s t _ _ _ _ w (zcb h) (zaT hq g)) ?_
  exact ⟨rfl,Below.refl _ _⟩
 ·subst h
  rcases Nat.lt_trichotomy q infW with g|g|g
  ·have e1:Ieee.double.add (wordS s infW) (wordS t q)=some (wordS s infW):=by
    unfold Ieee.Format.add
    rw [zaq,zaj g,<-za4]
    rfl
   rw [e1]
   refine rs (zsD _ _ s t _ _ w (zap rfl) (zcb g)) ?_
   exact ⟨rfl,Below.refl _ _⟩
  ·subst g
   by_cases hst:s=t
   ·subst hst
    have e1:Ieee.double.add (wordS s infW) (wordS s infW)=some (wordS s infW):=by
     unfold Ieee.Format.add
     rw [zaq,<-za4]
     show ((if s=s then some (Ieee.Datum.infinity s) else none):Option Ieee.Datum).map _=_
     rw [if_pos rfl]
     rfl
    rw [e1]
    refine rs (zp1 _ _ s s _ _ w (zap rfl) (zap rfl) (by simp)) ?_
    exact ⟨rfl,Below.refl _ _⟩
   have e1:Ieee.double.add (wordS s infW) (wordS t infW)=none:=by
    unfold Ieee.Format.add
    rw [zaq,zaq]
    show ((if s=t then some (Ieee.Datum.infinity s) else none):Option Ieee.Datum).map _=_
    rw [if_neg hst]
    rfl
   rw [e1]
   refine rs (zoM _ _ s t _ _ w (zap rfl) (zap rfl) (by rw [bne,zox hst];rfl)) ?_
   exact ⟨rfl,Below.refl _ _⟩
  rw [zkc (zaI g hq)]
  refine rs (zig _ _ s t _ _ _ _ w (zap rfl) (zaT hq g)) ?_
  exact ⟨rfl,Below.refl _ _⟩
 rw [zkj (zaI h hr)]
 refine rs (zm2 _ _ s t _ _ _ _ _ w (zaT hr h) (wordC (s:=t) hq)) ?_
 exact ⟨rfl,Below.refl _ _⟩
theorem zp5 (t:Nat):infW<((t%2)*2^63+9218868437227405312+1+(t/2)%(2^52-1))%9223372036854775808/\(t%2)*2^63+9218868437227405312+1+(t/2)%(2^52-1)<18446744073709551616:=by
 have h1:(t/2)%(2^52-1)<2^52-1:=Nat.mod_lt _ (by decide)
 have h2:(2:Nat)^63=9223372036854775808:=rfl
 have h3:(2:Nat)^52-1=4503599627370495:=rfl
 rw [h3] at h1 ⊢
 rw [h2]
 unfold infW
 generalize t/2%4503599627370495=z at *
 have:t%2=0∨t%2=1:=by omega
 rcases this with g|g<;>rw [g]<;>omega
def FRes (o:Option Nat) (X:Nat):Prop:=(∃ R,o=some R/\X=R)∨(o=none/\infW<X%9223372036854775808/\X<18446744073709551616)
def FRun (op:BinOp) (A B:Nat) (o:Option Nat):Prop:=
 ∀ w:World,∃ X k,Sem.run Tryz.prog (Op.floatArith op .f64 A B) w=Result.ok (.float .f64 X) (w.drewN k)/\FRes o X
theorem zhM (op:BinOp) (A B:Nat) (o:Option Nat) (h:∀ w,Sem.run Tryz.prog (Op.floatArith op .f64 A B) w=match o with |some R=>Result.ok (.float .f64 R) w|none=>Result.ok (.float .f64 ((Question.nanBits .f64 A B).cut (w.tape w.drawn (.nanBits .f64 A B)))) w.drew):FRun op A B o:=by
 intro w
 have hw:=h w
 cases o with
 |some R=>exact ⟨R,0,hw,.inl ⟨R,rfl,rfl⟩⟩
 |none=>exact ⟨_,1,hw,.inr ⟨rfl,zp5 _⟩⟩
theorem zg7 (A B:Nat):FRun .add A B (Ieee.double.add A B):=zhM _ _ _ _ (fun w=>by
 have e:FloatKind.f64.format.add A B=Ieee.double.add A B:=rfl
 unfold Op.floatArith
 simp only [e]
 cases Ieee.double.add A B with
 |some R=>rfl
 |none=>rfl)
theorem zoL (A B:Nat):FRun .sub A B (Ieee.double.sub A B):=zhM _ _ _ _ (fun w=>by
 have e:FloatKind.f64.format.sub A B=Ieee.double.sub A B:=rfl
 unfold Op.floatArith
 simp only [e]
 cases Ieee.double.sub A B with
 |some R=>rfl
 |none=>rfl)
theorem zed (A B:Nat):FRun .mul A B (Ieee.double.mul A B):=zhM _ _ _ _ (fun w=>by
 have e:FloatKind.f64.format.mul A B=Ieee.double.mul A B:=rfl
 unfold Op.floatArith
 simp only [e]
 cases Ieee.double.mul A B with
 |some R=>rfl
 |none=>rfl)
theorem zhn (A B:Nat):FRun .quo A B (Ieee.double.div A B):=zhM _ _ _ _ (fun w=>by
 have e:FloatKind.f64.format.div A B=Ieee.double.div A B:=rfl
 unfold Op.floatArith
 simp only [e]
 cases Ieee.double.div A B with
 |some R=>rfl
 |none=>rfl)
theorem zjX {o:Option Nat} {X:Nat} (w:World) (hF:FRes o X) (ho:∀ R,o=some R->R%9223372036854775808<=infW/\R<18446744073709551616):
 Rb 68 #[.float .f64 X] w (.agg #[.bool true,.int .i64 0,.int .u64 (opW o:Nat)]):=by
 rcases hF with ⟨R,rfl,rfl⟩|⟨rfl,h1,h2⟩
 ·obtain ⟨h1,h2⟩:=ho X rfl
  have hs:=zbo h2
  have:FloatKind.f64.format.order X X=some .eq:=by rw [hs];exact zgY h1
  exact zbt X w this
 have hs:=zbo h2
 have:FloatKind.f64.format.order X X=none:=by rw [hs];exact zg8 h1 (Nat.mod_lt _ (by omega))
 exact zcc X w this
theorem zcI {w:World} {a b c:Obj} {p:Addr} {v:Value} (hp:p.block<w.heap.size+2) (h:((w.alloc a).alloc b).cell? p=some v):(((w.alloc a).alloc b).alloc c).cell? p=some v:=by
 have hb:Below ((w.alloc a).alloc b).heap.size ((w.alloc a).alloc b) (((w.alloc a).alloc b).alloc c):=(Below.refl _ _).alloc (Nat.le_refl _) c
 exact (hb.cell (by simpa using hp)).trans h
theorem zbD (op:BinOp) (A B:Nat) (o:Option Nat) (h:FRun op A B o) (hb:∀ w,Sem.run Tryz.prog (binOp op 45 (Value.float FloatKind.f64 A) (Value.float FloatKind.f64 B)) w=Sem.run Tryz.prog (Op.floatArith op .f64 A B) w):
 ∀ w:World,∃ X k,Sem.run Tryz.prog (binOp op 45 (Value.float FloatKind.f64 A) (Value.float FloatKind.f64 B)) w=Result.ok (.float .f64 X) (w.drewN k)/\FRes o X:=fun w=>by
 obtain ⟨X,k,h1,h2⟩:=h w
 exact ⟨X,k,(hb w).trans h1,h2⟩
theorem zmT (A B:Nat) (w:World):Sem.run Tryz.prog (binOp .add 45 (Value.float FloatKind.f64 A) (Value.float FloatKind.f64 B)) w=Sem.run Tryz.prog (Op.floatArith .add .f64 A B) w:=by
 unfold binOp
 simp [go_sem]
theorem zl5 (A B:Nat) (w:World):Sem.run Tryz.prog (binOp .sub 45 (Value.float FloatKind.f64 A) (Value.float FloatKind.f64 B)) w=Sem.run Tryz.prog (Op.floatArith .sub .f64 A B) w:=by
 unfold binOp
 simp [go_sem]
theorem zeF (A B:Nat) (w:World):Sem.run Tryz.prog (binOp .mul 45 (Value.float FloatKind.f64 A) (Value.float FloatKind.f64 B)) w=Sem.run Tryz.prog (Op.floatArith .mul .f64 A B) w:=by
 unfold binOp
 simp [go_sem]
theorem zhb (A B:Nat) (w:World):Sem.run Tryz.prog (binOp .quo 45 (Value.float FloatKind.f64 A) (Value.float FloatKind.f64 B)) w=Sem.run Tryz.prog (Op.floatArith .quo .f64 A B) w:=by
 unfold binOp
 simp [go_sem]
theorem za7 {w w2:World} {a b c:Obj} (h:Below (((w.alloc a).alloc b).alloc c).heap.size (((w.alloc a).alloc b).alloc c) w2):Below w.heap.size w w2:=zah (zah (zah h))
theorem zm4 (W:World):((W.alloc (numC false 0 0)).cell? ⟨W.heap.size,0,none⟩=some (.bool false)/\(W.alloc (numC false 0 0)).cell? ⟨W.heap.size,1,none⟩=some (.int .i64 0)/\(W.alloc (numC false 0 0)).cell? ⟨W.heap.size,2,none⟩=some (.int .u64 0))/\
 (W.alloc (numC false 0 0)).frozen? ⟨W.heap.size,0,none⟩=false/\(W.alloc (numC false 0 0)).frozen? ⟨W.heap.size,1,none⟩=false/\(W.alloc (numC false 0 0)).frozen? ⟨W.heap.size,2,none⟩=false:=by
 refine ⟨⟨by simp,by simp,by simp⟩,by simp,by simp,by simp⟩
theorem res_3 {w w2:World} {a b:Obj} (h:Below (((w.alloc a).alloc b).alloc (numC false 0 0)).heap.size (((w.alloc a).alloc b).alloc (numC false 0 0)) w2):
 (w2.cell? ⟨w.heap.size+1+1,0,none⟩=some (.bool false)/\w2.cell? ⟨w.heap.size+1+1,1,none⟩=some (.int .i64 0)/\w2.cell? ⟨w.heap.size+1+1,2,none⟩=some (.int .u64 0))/\
 w2.frozen? ⟨w.heap.size+1+1,0,none⟩=false/\w2.frozen? ⟨w.heap.size+1+1,1,none⟩=false/\w2.frozen? ⟨w.heap.size+1+1,2,none⟩=false:=by
 have k:=fun j=>h.cell (p:=⟨w.heap.size+1+1,j,none⟩) (by simp)
 have z:=fun j=>h.frozen (p:=⟨w.heap.size+1+1,j,none⟩) (by simp)
 have e:((w.alloc a).alloc b).heap.size=w.heap.size+1+1:=by simp
 have n0:=zm4 ((w.alloc a).alloc b)
 rw [e] at n0
 obtain ⟨⟨a0,a1,a2⟩,a3,a4,a5⟩:=n0
 exact ⟨⟨(k 0).trans a0,(k 1).trans a1,(k 2).trans a2⟩,(z 0).trans a3,(z 1).trans a4,(z 2).trans a5⟩
theorem put_3 {w w2:World} {a b:Obj} (h:Below (((w.alloc a).alloc b).alloc (numC false 0 0)).heap.size (((w.alloc a).alloc b).alloc (numC false 0 0)) w2) (x y z:Value):
 Below w.heap.size w (((w2.setCell ⟨w.heap.size+1+1,0,none⟩ x).setCell ⟨w.heap.size+1+1,1,none⟩ y).setCell ⟨w.heap.size+1+1,2,none⟩ z):=by
 have b0:=za7 h
 have b1:Below w.heap.size w (w2.setCell ⟨w.heap.size+1+1,0,none⟩ x):=b0.setCell (by show w.heap.size<=w.heap.size+1+1;omega) x
 have b2:Below w.heap.size w ((w2.setCell ⟨w.heap.size+1+1,0,none⟩ x).setCell ⟨w.heap.size+1+1,1,none⟩ y):=b1.setCell (by show w.heap.size<=w.heap.size+1+1;omega) y
 exact b2.setCell (by show w.heap.size<=w.heap.size+1+1;omega) z
structure Three (w w2:World) (f1 f2:Bool) (i1 u1 i2 u2:Int):Prop where
 a0:w2.cell? ⟨w.heap.size,0,none⟩=some (.bool f1)
 a1:w2.cell? ⟨w.heap.size,1,none⟩=some (.int .i64 i1)
 a2:w2.cell? ⟨w.heap.size,2,none⟩=some (.int .u64 u1)
 b0:w2.cell? ⟨w.heap.size+1,0,none⟩=some (.bool f2)
 b1:w2.cell? ⟨w.heap.size+1,1,none⟩=some (.int .i64 i2)
 b2:w2.cell? ⟨w.heap.size+1,2,none⟩=some (.int .u64 u2)
theorem zac {w w2:World} {f1 f2:Bool} {i1 u1 i2 u2:Int} {c:Obj} (h:Below (((w.alloc (numC f1 i1 u1)).alloc (numC f2 i2 u2)).alloc c).heap.size (((w.alloc (numC f1 i1 u1)).alloc (numC f2 i2 u2)).alloc c) w2):Three w w2 f1 f2 i1 u1 i2 u2:=by
 have ka:=fun j=>h.cell (p:=⟨w.heap.size,j,none⟩) (by simp;omega)
 have kb:=fun j=>h.cell (p:=⟨w.heap.size+1,j,none⟩) (by simp)
 exact ⟨(ka 0).trans (zcI (by simp) (by simp)),(ka 1).trans (zcI (by simp) (by simp)),(ka 2).trans (zcI (by simp) (by simp)),(kb 0).trans (zcI (by simp) (by simp)),(kb 1).trans (zcI (by simp) (by simp)),(kb 2).trans (zcI (by simp) (by simp))⟩
theorem zg6 (op:Int) (bop:BinOp) (hop:(op=1/\bop=.add)∨(op=2/\bop=.sub)∨(op=3/\bop=.mul)) (f1 f2:Bool) (i1 u1 i2 u2:Int) (A B:Nat) (o:Option Nat) (w:World) (hx:FOf f1 i1 u1 A) (hy:FOf f2 i2 u2 B) (hf:(f1||f2)=true)
 (hrun:FRun bop A B o) (ho:∀ R,o=some R->R%9223372036854775808<=infW/\R<18446744073709551616):
 Rb 135 #[.int .i64 op,.agg #[.bool f1,.int .i64 i1,.int .u64 u1],.agg #[.bool f2,.int .i64 i2,.int .u64 u2]] w (.agg #[.bool true,.int .i64 0,.int .u64 (opW o:Nat)]):=by
 have HRun:=hide (zbD _ A B o hrun (by rcases hop with ⟨_,rfl⟩|⟨_,rfl⟩|⟨_,rfl⟩<;>first |exact zmT A B|exact zl5 A B|exact zeF A B))
 have Ho:=hide ho
 clear hrun ho
 cases f1 with
 |true=>
  have cX:=hide (fun d os=>Calls.regrown_of (w:=(((w.alloc (numC true i1 u1)).alloc (numC f2 i2 u2)).alloc (numC false 0 0))) (d:=d) (os:=os) (hx _))
  have cY:=hide (fun d os=>Calls.regrown_of (w:=(((w.alloc (numC true i1 u1)).alloc (numC f2 i2 u2)).alloc (numC false 0 0))) (d:=d) (os:=os) (hy _))
  clear hx hy
  rcases hop with ⟨rfl,rfl⟩|⟨rfl,rfl⟩|⟨rfl,rfl⟩
  all_goals (
  go_enter Tryz.func135,Tryz.ntmps135
  go_wp2_with fail
  have K:=zac (Below.refl (((w.alloc (numC true i1 u1)).alloc (numC f2 i2 u2)).alloc (numC false 0 0)).heap.size (((w.alloc (numC true i1 u1)).alloc (numC f2 i2 u2)).alloc (numC false 0 0)))
  have k0:=fun d os=>cell_regrown K.a0 d os
  have k1:=fun d os=>cell_regrown K.a1 d os
  have k2:=fun d os=>cell_regrown K.a2 d os
  have k3:=fun d os=>cell_regrown K.b0 d os
  have k4:=fun d os=>cell_regrown K.b1 d os
  have k5:=fun d os=>cell_regrown K.b2 d os
  clear K
  refine wp_region_quiet_below mixedT (by kernel_rfl) ?_
  iterate 2 (quiet_step (exact cX.out _ _))
  iterate 4 (quiet_step (exact cY.out _ _))
  refine wpQuiet_nil ?_
  rintro w2 ⟨⟨dq,osq⟩,hw2⟩
  have hb2:Below (((w.alloc (numC true i1 u1)).alloc (numC f2 i2 u2)).alloc (numC false 0 0)).heap.size (((w.alloc (numC true i1 u1)).alloc (numC f2 i2 u2)).alloc (numC false 0 0)) w2:=by rw [hw2];exact below_regrown _ _ _
  clear hw2 k0 k1 k2 k3 k4 k5
  have HB2:=hide hb2
  clear hb2
  obtain ⟨X,kk,hrun,hres⟩:=HRun.out w2
  have HRes:=hide hres
  have HFN:=hide (fun w=>zjX w HRes.out Ho.out)
  clear hres
  go_wp2_with fail
  refine rb (HFN.out _) fun w3 hb3=>?_
  have hb3':=(zag HB2.out kk).trans (hb3.mono (zag HB2.out kk).size)
  have HB3:=hide hb3'
  obtain ⟨⟨c0,c1,c2⟩,z0,z1,z2⟩:=res_3 hb3'
  clear hb3 hb3' HFN
  go_wp2
  refine bodyPost_ret (v:=.agg #[.bool true,.int .i64 0,.int .u64 (opW o:Nat)]) ?_ rfl ⟨rfl,put_3 HB3.out _ _ _⟩
  simp [results,Tryz.results135,go_sem,c0,c1,c2])
 |false=>
  obtain rfl:f2=true:=by simpa using hf
  have cX:=hide (fun d os=>Calls.regrown_of (w:=(((w.alloc (numC false i1 u1)).alloc (numC true i2 u2)).alloc (numC false 0 0))) (d:=d) (os:=os) (hx _))
  have cY:=hide (fun d os=>Calls.regrown_of (w:=(((w.alloc (numC false i1 u1)).alloc (numC true i2 u2)).alloc (numC false 0 0))) (d:=d) (os:=os) (hy _))
  clear hx hy
  rcases hop with ⟨rfl,rfl⟩|⟨rfl,rfl⟩|⟨rfl,rfl⟩
  all_goals (
  go_enter Tryz.func135,Tryz.ntmps135
  go_wp2_with fail
  have K:=zac (Below.refl (((w.alloc (numC false i1 u1)).alloc (numC true i2 u2)).alloc (numC false 0 0)).heap.size (((w.alloc (numC false i1 u1)).alloc (numC true i2 u2)).alloc (numC false 0 0)))
  have k0:=fun d os=>cell_regrown K.a0 d os
  have k1:=fun d os=>cell_regrown K.a1 d os
  have k2:=fun d os=>cell_regrown K.a2 d os
  have k3:=fun d os=>cell_regrown K.b0 d os
  have k4:=fun d os=>cell_regrown K.b1 d os
  have k5:=fun d os=>cell_regrown K.b2 d os
  clear K
  refine wp_region_quiet_below mixedT (by kernel_rfl) ?_
  iterate 2 (quiet_step (exact cX.out _ _))
  iterate 4 (quiet_step (exact cY.out _ _))
  refine wpQuiet_nil ?_
  rintro w2 ⟨⟨dq,osq⟩,hw2⟩
  have hb2:Below (((w.alloc (numC false i1 u1)).alloc (numC true i2 u2)).alloc (numC false 0 0)).heap.size (((w.alloc (numC false i1 u1)).alloc (numC true i2 u2)).alloc (numC false 0 0)) w2:=by rw [hw2];exact below_regrown _ _ _
  clear hw2 k0 k1 k2 k3 k4 k5
  have HB2:=hide hb2
  clear hb2
  obtain ⟨X,kk,hrun,hres⟩:=HRun.out w2
  have HRes:=hide hres
  have HFN:=hide (fun w=>zjX w HRes.out Ho.out)
  clear hres
  go_wp2_with fail
  refine rb (HFN.out _) fun w3 hb3=>?_
  have hb3':=(zag HB2.out kk).trans (hb3.mono (zag HB2.out kk).size)
  have HB3:=hide hb3'
  obtain ⟨⟨c0,c1,c2⟩,z0,z1,z2⟩:=res_3 hb3'
  clear hb3 hb3' HFN
  go_wp2
  refine bodyPost_ret (v:=.agg #[.bool true,.int .i64 0,.int .u64 (opW o:Nat)]) ?_ rfl ⟨rfl,put_3 HB3.out _ _ _⟩
  simp [results,Tryz.results135,go_sem,c0,c1,c2])
def digN (n:Nat):List Int:=if n=0 then [] else decL n
theorem zgi {X c:Nat} (hc:c<10):digN (X*10+c)=if X=0/\c=0 then [] else digN X++[48+(c:Int)]:=by
 unfold digN
 by_cases h:X=0
 ·subst h
  by_cases h0:c=0
  ·subst h0;rfl
  rw [if_neg (by omega),if_neg (by omega),if_pos rfl,Nat.zero_mul,Nat.zero_add,zbp hc,Nat.mod_eq_of_lt hc]
  rfl
 rw [if_neg (by omega),if_neg (by omega),if_neg h,zcz (by omega)]
 have e1:(X*10+c)/10=X:=by omega
 have e2:(X*10+c)%10=c:=by omega
 rw [e1,e2]
theorem zqd (X:Nat):(digN X).length=0↔X=0:=by
 unfold digN
 split
 ·rename_i h;simp [h]
 rename_i h
 rw [zec]
 simp [h]
theorem zhU (d n:Nat):digL d (n+1)=digL (d/10) n++[48+((d%10:Nat):Int)]:=by
 unfold digL
 rw [List.range_succ,List.map_append,List.map_singleton]
 congr 1
 ·apply List.map_congr_left
  intro j hj
  rw [List.mem_range] at hj
  rw [zcs,zcs,Nat.div_div_eq_div_mul]
  have e:n+1-1-j=n-1-j+1:=by omega
  rw [e,Nat.pow_succ,Nat.mul_comm]
 rw [zcs]
 have e:n+1-1-n=0:=by omega
 rw [e,Nat.pow_zero,Nat.div_one]
theorem zfG (d n:Nat):zae (digL d n)=true:=by
 unfold zae
 rw [List.all_eq_true]
 intro z hz
 have:=zcd z hz
 unfold zax
 simp only [decide_eq_true_eq]
 omega
theorem digN_digL:∀ {l N:Nat},1<=l->10^(l-1)<=N->N<10^l->digN N=digL N l
 |0,_,h,_,_=>by omega
 |1,N,_,h1,h2=>by
  have h1':1<=N:=by simpa using h1
  have h2':N<10:=by simpa using h2
  have:=zgi (X:=0) (c:=N) h2'
  rw [Nat.zero_mul,Nat.zero_add,if_neg (by omega)] at this
  rw [this,zhU,Nat.mod_eq_of_lt h2']
  rfl
 |l+2,N,_,h1,h2=>by
  have e1:l+2-1=l+1:=by omega
  rw [e1,Nat.pow_succ] at h1
  rw [Nat.pow_succ] at h2
  have ih:=digN_digL (l:=l+1) (N:=N/10) (by omega) (by rw [Nat.add_sub_cancel,Nat.le_div_iff_mul_le (by omega)];exact h1) (by rw [Nat.div_lt_iff_lt_mul (by omega)];exact h2)
  have hs:=zgi (X:=N/10) (c:=N%10) (by omega)
  have e2:N/10*10+N%10=N:=by omega
  have hp:0<10^l:=Nat.pow_pos (by omega)
  rw [e2,if_neg (by omega),ih] at hs
  rw [hs,<-zhU]
theorem znC {N:Nat} (h:0<N):∃ l,1<=l/\10^(l-1)<=N/\N<10^l:=by
 induction N using Nat.strongRecOn with
 |_ N ih=>
  by_cases h10:N<10
  ·exact ⟨1,by omega,by show 10^0<=N;rw [Nat.pow_zero];omega,by rw [Nat.pow_one];exact h10⟩
  obtain ⟨l,h1,h2,h3⟩:=ih (N/10) (by omega) (by omega)
  refine ⟨l+1,by omega,?_,?_⟩
  ·obtain ⟨j,rfl⟩:∃ j,l=j+1:=⟨l-1,by omega⟩
   rw [Nat.add_sub_cancel] at h2 ⊢
   rw [Nat.pow_succ]
   omega
  rw [Nat.pow_succ]
  omega
theorem zqs (N s t:Nat):N/10^s%10^(t+1)=N/10^(s+1)%10^t*10+N/10^s%10:=by
 rw [Nat.pow_succ,Nat.pow_succ,<-Nat.div_div_eq_div_mul,Nat.mul_comm (10^t) 10,Nat.mod_mul]
 omega
theorem znj (N j:Nat):rq N (10^(j+1))=N/10^(j+1)+(if 5<N/10^j%10∨(N/10^j%10=5/\(N%10^j≠0∨N/10^(j+1)%2=1)) then 1 else 0):=by
 unfold rq
 have hz:0<10^j:=Nat.pow_pos (by omega)
 have hm:N%10^(j+1)=N/10^j%10*10^j+N%10^j:=by
  rw [Nat.pow_succ,Nat.mod_mul,Nat.mul_comm (10^j)]
  omega
 have hs:N%10^j<10^j:=Nat.mod_lt _ hz
 rw [hm]
 rw [Nat.pow_succ]
 generalize N/(10^j*10)=T
 have hg:N/10^j%10<10:=Nat.mod_lt _ (by omega)
 generalize N/10^j%10=g at *
 generalize N%10^j=S at *
 generalize 10^j=z at *
 congr 1
 have:g=0∨g=1∨g=2∨g=3∨g=4∨g=5∨g=6∨g=7∨g=8∨g=9:=by omega
 rcases this with rfl|rfl|rfl|rfl|rfl|rfl|rfl|rfl|rfl|rfl<;>(congr 1;apply propext;constructor<;>intro h<;>omega)
structure Ex (V c N P l:Nat):Prop where
 l1:1<=l
 lo:10^(l-1)<=N
 hi:N<10^l
 val:N*2^c=V*10^P
theorem Ex.cross {V c N P l k:Nat} (h:Ex V c N P l) (hk:k<=l):N*gB c ((P:Int)-l+k)=gA V ((P:Int)-l+k)*10^(l-k):=by
 unfold gA gB
 have e:P+(-((P:Int)-l+k)).toNat=((P:Int)-l+k).toNat+(l-k):=by omega
 rw [<-Nat.mul_assoc,h.val,Nat.mul_assoc,<-Nat.pow_add,e,Nat.pow_add,Nat.mul_assoc]
theorem Ex.round {V c N P l k:Nat} (h:Ex V c N P l) (hk1:1<=k) (hk:k<=l):
 rq N (10^(l-k))<=10^k/\(rq N (10^(l-k))=10^k->Fmt V c k (10^(k-1)) ((P:Int)-l+k-1))/\(rq N (10^(l-k))≠10^k->Fmt V c k (rq N (10^(l-k))) ((P:Int)-l+k)):=by
 have hB:=zc5 c ((P:Int)-l+k)
 have hx:=h.cross hk
 have hz:0<10^(l-k):=Nat.pow_pos (by omega)
 have hr:rq (gA V ((P:Int)-l+k)) (gB c ((P:Int)-l+k))=rq N (10^(l-k)):=(zc1 hz hB hx).symm
 have e1:10^(l-1)=10^(l-k)*10^(k-1):=by rw [<-Nat.pow_add];congr 1;omega
 have e2:10^l=10^(l-k)*10^k:=by rw [<-Nat.pow_add];congr 1;omega
 have hlo:=h.lo
 have hhi:=h.hi
 rw [e1] at hlo
 rw [e2] at hhi
 have r1:10^(k-1)<=rq N (10^(l-k)):=zgQ hz hlo
 have r2:rq N (10^(l-k))<=10^k:=rq_le hz (Nat.le_of_lt hhi)
 have v1:10^(k-1)*gB c ((P:Int)-l+k)<=gA V ((P:Int)-l+k):=by
  have:10^(l-k)*10^(k-1)*gB c ((P:Int)-l+k)<=gA V ((P:Int)-l+k)*10^(l-k):=by rw [<-hx];exact Nat.mul_le_mul_right _ hlo
  rw [Nat.mul_assoc,Nat.mul_comm] at this
  exact Nat.le_of_mul_le_mul_right this hz
 have v2:gA V ((P:Int)-l+k)<10^k*gB c ((P:Int)-l+k):=by
  have:gA V ((P:Int)-l+k)*10^(l-k)<10^(l-k)*10^k*gB c ((P:Int)-l+k):=by rw [<-hx];exact Nat.mul_lt_mul_of_pos_right hhi hB
  rw [Nat.mul_assoc (10^(l-k)),Nat.mul_comm (10^(l-k))] at this
  exact Nat.lt_of_mul_lt_mul_right this
 have hk10:=zeQ hk1
 have hkp:0<10^(k-1):=Nat.pow_pos (by omega)
 refine ⟨r2,fun he=>⟨Nat.le_refl _,by omega,_,v1,v2,.inr ⟨rfl,rfl,by rw [hr];exact he⟩⟩,fun he=>⟨r1,by omega,_,v1,v2,.inl ⟨rfl,hr.symm⟩⟩⟩
theorem zuM (N:Nat):rq N 1=N:=by
 unfold rq
 rw [Nat.div_one,Nat.mod_one,if_neg (by omega)]
 rfl
theorem Ex.whole {V c N P l:Nat} (h:Ex V c N P l):Fmt V c l N (P:Int):=by
 have hr:=h.round (k:=l) h.l1 (Nat.le_refl _)
 rw [Nat.sub_self,Nat.pow_zero,zuM] at hr
 have e:(P:Int)-l+l=P:=by omega
 rw [e] at hr
 exact hr.2.2 (by have:=h.hi;omega)
theorem Ex.back {r c N P l:Nat} (hc:c=1074) (h0:0<r) (hr:r<infW) (h:Ex (wV r) c N P l):zam N (-(P:Int)) r:=by
 refine zk6 hc h0 hr ?_
 have:=h.cross (k:=l) (Nat.le_refl _)
 have e:(P:Int)-l+l=P:=by omega
 rw [e,Nat.sub_self,Nat.pow_zero,Nat.mul_one] at this
 exact this
theorem zqk {wr:World} {ops:Array Oper} {rest:List Oper} {o:Oper} {a:Act} {Q:Exit->Act->World->Prop} (hgd:o.guard=none) (s x:Operand)
 (ho:o.op=.call { callee:=.builtin .append,args:=#[s,x],argTypes:=#[29,29] }) (v:Value) (L:List Int) (hbig:Byt wr v L) (hx:a.eval x=v) (hs:a.eval s=.slice (some ⟨wr.heap.size,0,none⟩) 0 0)
 (hlen:L.length<=10000000000)
 (h:∀ v' w',OwnB w' wr.heap.size v' L->Below wr.heap.size wr w'->wpList Tryz.prog ops Q rest (a.put o.dst v') w'):
 wpList Tryz.prog ops Q (o::rest) a (wr.alloc (.cells #[] 5)):=by
 obtain ⟨i0,hi,hz0,hz1,hz2⟩:=info_parts Tryz.info5
 obtain ⟨g,cap,rfl,h2,h3,h4,h5⟩:=hbig
 have hown:=zb3 wr
 refine wpList_append_own _ hgd s x 29 ho wr.heap.size 5 i0 (.int .u8 0) 1 1 Tryz.underlying29 hi hz0 hz1 hz2 rfl (by decide) _ 0 _ hs hown.1 ⟨g,0,none⟩ L.length cap (L.map (Value.int .u8)) hx (by simp) (zh3 h5 _ h4)
  (ints_oneCell _ _) (by unfold maxLen;omega) (by omega) (by simp) ?_
 intro v' w' h1 h2 h3
 refine h v' w' ⟨by simpa using h1,(fun hh=>by have:=(h3.1 hh).1;cases this)⟩ (((Below.refl _ _).alloc (Nat.le_refl _) _).grown h2 (by simp) (fun q hq=>by cases hq;exact Nat.le_refl _))
theorem dval_set:∀ (L:List Int) (i:Nat) (x:Int),i<L.length->dval (L.set i x)+(L.getD i 0-48).toNat*10^(L.length-1-i)=dval L+(x-48).toNat*10^(L.length-1-i)
 | [],i,x,h=>by simp at h
 |c::l,0,x,h=>by
  rw [List.set_cons_zero,zbi,zbi]
  simp
  omega
 |c::l,i+1,x,h=>by
  have ih:=dval_set l i x (by simpa using h)
  rw [List.set_cons_succ,zbi,zbi,List.length_set]
  have e:(c::l).length-1-(i+1)=l.length-1-i:=by simp;omega
  have e2:(c::l).getD (i+1) 0=l.getD i 0:=by simp
  rw [e,e2]
  omega
theorem zgO {L:List Int} {i:Nat} {x:Int} (h:zae L=true) (hx:48<=x/\x<=57):zae (L.set i x)=true:=by
 unfold zae at *
 rw [List.all_eq_true] at *
 intro z hz
 rcases List.mem_or_eq_of_mem_set hz with g|g
 ·exact h z g
 subst g
 unfold zax
 exact decide_eq_true hx
theorem zlk {L:List Int} (h:zae L=true) {z:Int} (hz:z∈L):48<=z/\z<=57:=by
 unfold zae at h
 rw [List.all_eq_true] at h
 have:=h z hz
 unfold zax at this
 exact of_decide_eq_true this
theorem zd3 {L:List Int} (h:zae L=true):L=digL (dval L) L.length:=by
 have hlt:=zgc h
 refine dval_inj h (zfG _ _) (by rw [zaa]) (by rw [zeg hlt])
def RouR (N l k:Nat) (w:World) (e:Ending) (w':World):Prop:=
 (rq N (10^(l-k))≠10^k/\∃ v',e=.returned (.tuple #[v',.bool false])/\Byt w' v' (digL (rq N (10^(l-k))) k)/\Below w.heap.size w w')∨
 (rq N (10^(l-k))=10^k/\∃ v',e=.returned (.tuple #[v',.bool true])/\Byt w' v' (digL (10^(k-1)) k)/\Below w.heap.size w w')
theorem rou_a {N l k:Nat} {w w':World} {v':Value} {L:List Int} (hL:L.length=k) (hd:zae L=true) (hv:dval L=rq N (10^(l-k))) (hb:Byt w' v' L) (hB:Below w.heap.size w w'):
 RouR N l k w (.returned (.tuple #[v',.bool false])) w':=by
 have hlt:=zgc hd
 rw [hL] at hlt
 have he:=zd3 hd
 rw [hL,hv] at he
 rw [he] at hb
 exact .inl ⟨by omega,v',rfl,hb,hB⟩
theorem rou_b {N l k:Nat} {w w':World} {v':Value} {L:List Int} (hk:1<=k) (hL:L.length=k) (hd:zae L=true) (hv:dval L+10^k=rq N (10^(l-k))) (hle:rq N (10^(l-k))<=10^k) (hb:Byt w' v' (49::L.take (k-1))) (hB:Below w.heap.size w w'):
 RouR N l k w (.returned (.tuple #[v',.bool true])) w':=by
 have h0:dval L=0:=by omega
 have ht:=ze7 L (k-1)
 have htl:(L.take (k-1)).length=k-1:=by rw [List.length_take];omega
 have hd2:zae (49::L.take (k-1))=true:=by
  unfold zae
  rw [List.all_cons,Bool.and_eq_true]
  refine ⟨rfl,?_⟩
  rw [List.all_eq_true]
  intro z hz
  unfold zae at hd
  rw [List.all_eq_true] at hd
  exact hd z (List.mem_of_mem_take hz)
 have he:=zd3 hd2
 have hv2:dval (49::L.take (k-1))=10^(k-1):=by
  rw [zbi,htl]
  have:((49:Int)-48).toNat=1:=rfl
  rw [this]
  omega
 have hl2:(49::L.take (k-1)).length=k:=by simp;omega
 rw [hv2,hl2] at he
 rw [he] at hb
 exact .inr ⟨by omega,v',rfl,hb,hB⟩
theorem zn9 {N s t:Nat} (d:Nat) (hd:d=N/10^s%10):(N/10^s%10^(t+1)≠0)↔(N/10^(s+1)%10^t≠0∨d≠0):=by
 rw [zqs,hd]
 omega
end Go.Proofs.YtamdnnkdnhkghaaGreatDoor
