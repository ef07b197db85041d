import Derived.Test.YtamdnnkdnhkghaaGreatDoorQ42
set_option maxHeartbeats 12800000
set_option maxRecDepth 100000
set_option linter.unusedVariables false
namespace Go.Proofs.YtamdnnkdnhkghaaGreatDoor
open Go Go.RowKit
theorem zoh (A C r q:Nat) (s t z1:Bool) (w:World) (X Y R:Nat) (lo:Int) (D:Int) (hA:FinC A s z1) (hC:FinC C t false) (hmA:(A:Int)%9223372036854775808=r) (hmC:(C:Int)%9223372036854775808=q) (hr:r<infW) (hq:q<infW)
 (hlo:lo=min (wE r) (wE q)) (hX:X=wM r*2^(wE r-lo).toNat) (hY:Y=wM q*2^(wE q-lo).toNat) (hY0:0<Y) (eR:X%Y=R) (hR0:R=0)
 (hadd:∀ w,Rb 86 #[.int .u64 (wordS s (Ieee.double.nearest false R lo):Nat),.int .u64 C] w (.int .u64 D)):
 Rb 88 #[.int .u64 A,.int .u64 C] w (.int .u64 (wordS s (Ieee.double.nearest false R lo):Nat)):=by
 have Hadd:=hide hadd
 have GA:=hide hA
 have GC:=hide hC
 have P1:=hide (fun w=>zaw r w hr)
 have P2:=hide (fun w=>zaw q w hq)
 have m1:=wM_lt r
 have m2:=wM_lt q
 have k1:=wK_lt hr
 have k2:=wK_lt hq
 have E1: -1074<=wE r/\wE r<=971:=by unfold wE;omega
 have E2: -1074<=wE q/\wE q<=971:=by unfold wE;omega
 have O1:=hide (fun w=>zbf (wM r) w (by omega))
 have O2:=hide (fun w=>zbf (wM q) w (by omega))
 have L1:(dig (wM r)).length<=5:=zar (by omega)
 have L2:(dig (wM q)).length<=5:=zar (by omega)
 have cX:X<2^capE:=by rw [hX];exact zbu m1 (by omega)
 have cY:Y<2^capE:=by rw [hY];exact zbu m2 (by omega)
 have LX:=zbv cX
 have LY:=zbv cY
 have LT:(dig R).length<=162:=Nat.le_trans (zak (by rw [<-eR];exact Nat.mod_le _ _)) LX
 have hRl:(dig R).length=0:=by rw [hR0,dig_zero];rfl
 have Wd:=hide (fun (vn:Value) (w:World) (hn:Big w vn (dig R))=>zcp R 1 lo vn _ _ (hn.below ((Below.refl w.heap.size w).alloc (Nat.le_refl _) _)) (zcJ w) (by omega) (by omega) (by have:=zar (n:=1) (by omega);omega) (by omega) (by omega))
 clear hA hC k1 k2 hr hq cX cY hadd hR0
 generalize wM r=a1 at *
 generalize wM q=a2 at *
 generalize wE r=b1 at *
 generalize wE q=b2 at *
 by_cases hbe:b2<b1
 ·have hlo':lo=b2:=by omega
  subst hlo'
  have eX:a1*2^(b1-lo).toNat=X:=by rw [hX]
  have eY:a2*2^((0:Int)).toNat=Y:=by rw [hY];simp
  clear hX hY hlo
  go_enter Tryz.func88,Tryz.ntmps88
  go_wp2_with fail
  refine rs (GA.out.nan _) ?_
  go_wp2_with fail
  refine rs (GC.out.nan _) ?_
  go_wp2_with fail
  refine rs (GA.out.inf _) ?_
  go_wp2_with fail
  refine rs (GC.out.zero _) ?_
  go_wp2_with fail
  refine rs (GC.out.inf _) ?_
  go_wp2_with fail
  refine rs (P1.out _) ?_
  go_wp2_with fail
  refine rs (P2.out _) ?_
  go_wp2_with fail
  refine (O1.out _).mono ?_
  rintro e w3 ⟨v3,rfl,hg3,hb3⟩
  have HT1:=hide (fun k h0 h1=>twoI a1 k v3 w3 hg3 L1 h0 h1)
  have Hb3:=hide hb3
  clear hg3 hb3
  go_wp2_with fail
  refine (HT1.out _ (by omega) (by omega)).mono ?_
  rintro e w4 ⟨v4,rfl,hg4,hb4⟩
  have HG4:=hide hg4
  have Hb4:=hide (bt Hb3.out hb4)
  clear hg4 hb4 HT1
  go_wp2_with fail
  refine (O2.out _).mono ?_
  rintro e w5 ⟨v5,rfl,hg5,hb5⟩
  have HT2:=hide (fun k h0 h1=>twoI a2 k v5 w5 hg5 L2 h0 h1)
  have HG5:=hide (HG4.out.below hb5)
  have Hb5:=hide (bt Hb4.out hb5)
  clear hg5 hb5 HG4
  go_wp2_with fail
  refine (HT2.out _ (by omega) (by omega)).mono ?_
  rintro e w6 ⟨v6,rfl,hg6,hb6⟩
  have HGX:Hid (Big w6 v4 (dig X)):=hide (by have:=HG5.out.below hb6;rw [eX] at this;exact this)
  have HGY:Hid (Big w6 v6 (dig Y)):=hide (by have:=hg6;rw [eY] at this;exact this)
  have Hb6:=hide (bt Hb5.out hb6)
  clear hg6 hb6 HT2 HG5
  have HRe:=hide (zds X Y v4 v6 _ HGX.out HGY.out (by omega) (by omega) hY0)
  go_wp2_with fail
  refine HRe.out.mono ?_
  rintro e w7 ⟨v7,rfl,hg7,hb7⟩
  rw [eR] at hg7
  have Hb7:=hide (bt Hb6.out hb7)
  have Hw:=hide (Wd.out v7 w7 hg7)
  obtain ⟨g7,cap7,hv7⟩:=hg7.len
  subst hv7
  rw [hRl] at Hw
  clear hb7 hg7 HRe
  go_wp2_with fail
  refine Hw.out.mono ?_
  rintro e w8 ⟨W,rfl,hW,hb8⟩
  have Hb8:=hide (Hb7.out.trans ((zah hb8).mono Hb7.out.size))
  have HWv:=hide (zaH hW)
  have hWle:=zas hW
  have Hs:=hide (fun w=>zal W s w (by unfold infW at hWle;omega))
  rw [<-HWv.out] at Hadd
  clear hb8 hW hWle Hw
  go_wp2_with fail
  refine rs (GA.out.minor _) ?_
  go_wp2_with fail
  refine rs (Hs.out _) ?_
  go_wp2
  go_ret
  exact ⟨by rw [<-HWv.out];rfl,Hb8.out⟩
 have hlo':lo=b1:=by omega
 subst hlo'
 have eX:a1*2^((0:Int)).toNat=X:=by rw [hX];simp
 have eY:a2*2^(b2-lo).toNat=Y:=by rw [hY]
 clear hX hY hlo
 go_enter Tryz.func88,Tryz.ntmps88
 go_wp2_with fail
 refine rs (GA.out.nan _) ?_
 go_wp2_with fail
 refine rs (GC.out.nan _) ?_
 go_wp2_with fail
 refine rs (GA.out.inf _) ?_
 go_wp2_with fail
 refine rs (GC.out.zero _) ?_
 go_wp2_with fail
 refine rs (GC.out.inf _) ?_
 go_wp2_with fail
 refine rs (P1.out _) ?_
 go_wp2_with fail
 refine rs (P2.out _) ?_
 go_wp2_with fail
 refine (O1.out _).mono ?_
 rintro e w3 ⟨v3,rfl,hg3,hb3⟩
 have HT1:=hide (fun k h0 h1=>twoI a1 k v3 w3 hg3 L1 h0 h1)
 have Hb3:=hide hb3
 clear hg3 hb3
 go_wp2_with fail
 refine (HT1.out _ (by omega) (by omega)).mono ?_
 rintro e w4 ⟨v4,rfl,hg4,hb4⟩
 have HG4:=hide hg4
 have Hb4:=hide (bt Hb3.out hb4)
 clear hg4 hb4 HT1
 go_wp2_with fail
 refine (O2.out _).mono ?_
 rintro e w5 ⟨v5,rfl,hg5,hb5⟩
 have HT2:=hide (fun k h0 h1=>twoI a2 k v5 w5 hg5 L2 h0 h1)
 have HG5:=hide (HG4.out.below hb5)
 have Hb5:=hide (bt Hb4.out hb5)
 clear hg5 hb5 HG4
 go_wp2_with fail
 refine (HT2.out _ (by omega) (by omega)).mono ?_
 rintro e w6 ⟨v6,rfl,hg6,hb6⟩
 have HGX:Hid (Big w6 v4 (dig X)):=hide (by have:=HG5.out.below hb6;rw [eX] at this;exact this)
 have HGY:Hid (Big w6 v6 (dig Y)):=hide (by have:=hg6;rw [eY] at this;exact this)
 have Hb6:=hide (bt Hb5.out hb6)
 clear hg6 hb6 HT2 HG5
 have HRe:=hide (zds X Y v4 v6 _ HGX.out HGY.out (by omega) (by omega) hY0)
 go_wp2_with fail
 refine HRe.out.mono ?_
 rintro e w7 ⟨v7,rfl,hg7,hb7⟩
 rw [eR] at hg7
 have Hb7:=hide (bt Hb6.out hb7)
 have Hw:=hide (Wd.out v7 w7 hg7)
 obtain ⟨g7,cap7,hv7⟩:=hg7.len
 subst hv7
 rw [hRl] at Hw
 clear hb7 hg7 HRe
 go_wp2_with fail
 refine Hw.out.mono ?_
 rintro e w8 ⟨W,rfl,hW,hb8⟩
 have Hb8:=hide (Hb7.out.trans ((zah hb8).mono Hb7.out.size))
 have HWv:=hide (zaH hW)
 have hWle:=zas hW
 have Hs:=hide (fun w=>zal W s w (by unfold infW at hWle;omega))
 rw [<-HWv.out] at Hadd
 clear hb8 hW hWle Hw
 go_wp2_with fail
 refine rs (GA.out.minor _) ?_
 go_wp2_with fail
 refine rs (Hs.out _) ?_
 go_wp2
 go_ret
 exact ⟨by rw [<-HWv.out];rfl,Hb8.out⟩
theorem zn2 (A C r q:Nat) (s t z1:Bool) (w:World) (X Y R:Nat) (lo:Int) (D:Int) (hA:FinC A s z1) (hC:FinC C t false) (hmA:(A:Int)%9223372036854775808=r) (hmC:(C:Int)%9223372036854775808=q) (hr:r<infW) (hq:q<infW)
 (hlo:lo=min (wE r) (wE q)) (hX:X=wM r*2^(wE r-lo).toNat) (hY:Y=wM q*2^(wE q-lo).toNat) (hY0:0<Y) (eR:X%Y=R) (hR0:0<R) (hst:(s==t)=true)
 (hadd:∀ w,Rb 86 #[.int .u64 (wordS s (Ieee.double.nearest false R lo):Nat),.int .u64 C] w (.int .u64 D)):
 Rb 88 #[.int .u64 A,.int .u64 C] w (.int .u64 (wordS s (Ieee.double.nearest false R lo):Nat)):=by
 have Hadd:=hide hadd
 have GA:=hide hA
 have GC:=hide hC
 have P1:=hide (fun w=>zaw r w hr)
 have P2:=hide (fun w=>zaw q w hq)
 have m1:=wM_lt r
 have m2:=wM_lt q
 have k1:=wK_lt hr
 have k2:=wK_lt hq
 have E1: -1074<=wE r/\wE r<=971:=by unfold wE;omega
 have E2: -1074<=wE q/\wE q<=971:=by unfold wE;omega
 have O1:=hide (fun w=>zbf (wM r) w (by omega))
 have O2:=hide (fun w=>zbf (wM q) w (by omega))
 have L1:(dig (wM r)).length<=5:=zar (by omega)
 have L2:(dig (wM q)).length<=5:=zar (by omega)
 have cX:X<2^capE:=by rw [hX];exact zbu m1 (by omega)
 have cY:Y<2^capE:=by rw [hY];exact zbu m2 (by omega)
 have LX:=zbv cX
 have LY:=zbv cY
 have LT:(dig R).length<=162:=Nat.le_trans (zak (by rw [<-eR];exact Nat.mod_le _ _)) LX
 have hRl:0<(dig R).length:=by rw [zcm];omega
 have Wd:=hide (fun (vn:Value) (w:World) (hn:Big w vn (dig R))=>zcp R 1 lo vn _ _ (hn.below ((Below.refl w.heap.size w).alloc (Nat.le_refl _) _)) (zcJ w) (by omega) (by omega) (by have:=zar (n:=1) (by omega);omega) (by omega) (by omega))
 clear hA hC k1 k2 hr hq cX cY hadd hR0
 generalize wM r=a1 at *
 generalize wM q=a2 at *
 generalize wE r=b1 at *
 generalize wE q=b2 at *
 by_cases hbe:b2<b1
 ·have hlo':lo=b2:=by omega
  subst hlo'
  have eX:a1*2^(b1-lo).toNat=X:=by rw [hX]
  have eY:a2*2^((0:Int)).toNat=Y:=by rw [hY];simp
  clear hX hY hlo
  go_enter Tryz.func88,Tryz.ntmps88
  go_wp2_with fail
  refine rs (GA.out.nan _) ?_
  go_wp2_with fail
  refine rs (GC.out.nan _) ?_
  go_wp2_with fail
  refine rs (GA.out.inf _) ?_
  go_wp2_with fail
  refine rs (GC.out.zero _) ?_
  go_wp2_with fail
  refine rs (GC.out.inf _) ?_
  go_wp2_with fail
  refine rs (P1.out _) ?_
  go_wp2_with fail
  refine rs (P2.out _) ?_
  go_wp2_with fail
  refine (O1.out _).mono ?_
  rintro e w3 ⟨v3,rfl,hg3,hb3⟩
  have HT1:=hide (fun k h0 h1=>twoI a1 k v3 w3 hg3 L1 h0 h1)
  have Hb3:=hide hb3
  clear hg3 hb3
  go_wp2_with fail
  refine (HT1.out _ (by omega) (by omega)).mono ?_
  rintro e w4 ⟨v4,rfl,hg4,hb4⟩
  have HG4:=hide hg4
  have Hb4:=hide (bt Hb3.out hb4)
  clear hg4 hb4 HT1
  go_wp2_with fail
  refine (O2.out _).mono ?_
  rintro e w5 ⟨v5,rfl,hg5,hb5⟩
  have HT2:=hide (fun k h0 h1=>twoI a2 k v5 w5 hg5 L2 h0 h1)
  have HG5:=hide (HG4.out.below hb5)
  have Hb5:=hide (bt Hb4.out hb5)
  clear hg5 hb5 HG4
  go_wp2_with fail
  refine (HT2.out _ (by omega) (by omega)).mono ?_
  rintro e w6 ⟨v6,rfl,hg6,hb6⟩
  have HGX:Hid (Big w6 v4 (dig X)):=hide (by have:=HG5.out.below hb6;rw [eX] at this;exact this)
  have HGY:Hid (Big w6 v6 (dig Y)):=hide (by have:=hg6;rw [eY] at this;exact this)
  have Hb6:=hide (bt Hb5.out hb6)
  clear hg6 hb6 HT2 HG5
  have HRe:=hide (zds X Y v4 v6 _ HGX.out HGY.out (by omega) (by omega) hY0)
  go_wp2_with fail
  refine HRe.out.mono ?_
  rintro e w7 ⟨v7,rfl,hg7,hb7⟩
  rw [eR] at hg7
  have Hb7:=hide (bt Hb6.out hb7)
  have Hw:=hide (Wd.out v7 w7 hg7)
  obtain ⟨g7,cap7,hv7⟩:=hg7.len
  subst hv7
  clear hb7 hg7 HRe
  go_wp2_with fail
  refine Hw.out.mono ?_
  rintro e w8 ⟨W,rfl,hW,hb8⟩
  have Hb8:=hide (Hb7.out.trans ((zah hb8).mono Hb7.out.size))
  have HWv:=hide (zaH hW)
  have hWle:=zas hW
  have Hs:=hide (fun w=>zal W s w (by unfold infW at hWle;omega))
  rw [<-HWv.out] at Hadd
  clear hb8 hW hWle Hw
  go_wp2_with fail
  refine rs (GA.out.minor _) ?_
  go_wp2_with fail
  refine rs (Hs.out _) ?_
  go_wp2_with fail
  refine rs (GA.out.minor _) ?_
  go_wp2_with fail
  refine rs (GC.out.minor _) ?_
  go_wp2
  go_ret
  exact ⟨by rw [<-HWv.out];rfl,Hb8.out⟩
 have hlo':lo=b1:=by omega
 subst hlo'
 have eX:a1*2^((0:Int)).toNat=X:=by rw [hX];simp
 have eY:a2*2^(b2-lo).toNat=Y:=by rw [hY]
 clear hX hY hlo
 go_enter Tryz.func88,Tryz.ntmps88
 go_wp2_with fail
 refine rs (GA.out.nan _) ?_
 go_wp2_with fail
 refine rs (GC.out.nan _) ?_
 go_wp2_with fail
 refine rs (GA.out.inf _) ?_
 go_wp2_with fail
 refine rs (GC.out.zero _) ?_
 go_wp2_with fail
 refine rs (GC.out.inf _) ?_
 go_wp2_with fail
 refine rs (P1.out _) ?_
 go_wp2_with fail
 refine rs (P2.out _) ?_
 go_wp2_with fail
 refine (O1.out _).mono ?_
 rintro e w3 ⟨v3,rfl,hg3,hb3⟩
 have HT1:=hide (fun k h0 h1=>twoI a1 k v3 w3 hg3 L1 h0 h1)
 have Hb3:=hide hb3
 clear hg3 hb3
 go_wp2_with fail
 refine (HT1.out _ (by omega) (by omega)).mono ?_
 rintro e w4 ⟨v4,rfl,hg4,hb4⟩
 have HG4:=hide hg4
 have Hb4:=hide (bt Hb3.out hb4)
 clear hg4 hb4 HT1
 go_wp2_with fail
 refine (O2.out _).mono ?_
 rintro e w5 ⟨v5,rfl,hg5,hb5⟩
 have HT2:=hide (fun k h0 h1=>twoI a2 k v5 w5 hg5 L2 h0 h1)
 have HG5:=hide (HG4.out.below hb5)
 have Hb5:=hide (bt Hb4.out hb5)
 clear hg5 hb5 HG4
 go_wp2_with fail
 refine (HT2.out _ (by omega) (by omega)).mono ?_
 rintro e w6 ⟨v6,rfl,hg6,hb6⟩
 have HGX:Hid (Big w6 v4 (dig X)):=hide (by have:=HG5.out.below hb6;rw [eX] at this;exact this)
 have HGY:Hid (Big w6 v6 (dig Y)):=hide (by have:=hg6;rw [eY] at this;exact this)
 have Hb6:=hide (bt Hb5.out hb6)
 clear hg6 hb6 HT2 HG5
 have HRe:=hide (zds X Y v4 v6 _ HGX.out HGY.out (by omega) (by omega) hY0)
 go_wp2_with fail
 refine HRe.out.mono ?_
 rintro e w7 ⟨v7,rfl,hg7,hb7⟩
 rw [eR] at hg7
 have Hb7:=hide (bt Hb6.out hb7)
 have Hw:=hide (Wd.out v7 w7 hg7)
 obtain ⟨g7,cap7,hv7⟩:=hg7.len
 subst hv7
 clear hb7 hg7 HRe
 go_wp2_with fail
 refine Hw.out.mono ?_
 rintro e w8 ⟨W,rfl,hW,hb8⟩
 have Hb8:=hide (Hb7.out.trans ((zah hb8).mono Hb7.out.size))
 have HWv:=hide (zaH hW)
 have hWle:=zas hW
 have Hs:=hide (fun w=>zal W s w (by unfold infW at hWle;omega))
 rw [<-HWv.out] at Hadd
 clear hb8 hW hWle Hw
 go_wp2_with fail
 refine rs (GA.out.minor _) ?_
 go_wp2_with fail
 refine rs (Hs.out _) ?_
 go_wp2_with fail
 refine rs (GA.out.minor _) ?_
 go_wp2_with fail
 refine rs (GC.out.minor _) ?_
 go_wp2
 go_ret
 exact ⟨by rw [<-HWv.out];rfl,Hb8.out⟩
theorem zeH (s b:Bool) (r:Nat) (w:World) (hr:r<9223372036854775808) (h:(FloatKind.f64.format.order r 9218868437227405311==some .gt)=b):Rs 24 #[.float .f64 (wordS s r),.int .i64 0] w (.bool b):=by
 have HA:=hide (fun w=>zdT s r w hr)
 generalize wordS s r=W at *
 go_enter Tryz.func24,Tryz.ntmps24
 go_wp2_with fail
 refine rs (HA.out _) ?_
 go_wp2
 all_goals go_ret
 all_goals exact ⟨rfl,rfl⟩
theorem zcD (s:Bool) (r:Nat) (w:World) (hr:r<infW):Rs 24 #[.float .f64 (wordS s r),.int .i64 0] w (.bool false):=by
 refine zeH s false r w (by unfold infW at hr;omega) ?_
 rw [ziV (by omega) (by decide),decide_eq_false]
 unfold infW at hr
 omega
theorem zkI {s:Bool} {r:Nat} (h:r<=infW):(FloatKind.f64.format.order (wordS s r) (wordS s r) !=some .eq)=false:=by
 have ho:=zbL (s:=s) (t:=s) h h
 have e:FloatKind.f64.format.order (wordS s r) (wordS s r)=Ieee.double.order (wordS s r) (wordS s r):=rfl
 rw [e,ho,zcK rfl]
 rfl
theorem zbT (s:Bool) (r:Nat) (w:World) (hr:r<=infW):Rs 23 #[.float .f64 (wordS s r)] w (.bool false):=by
 have h:=zeL (wordS s r) w
 rw [zkI hr] at h
 exact h
theorem zu1 {V:Nat} {a b:Int} (h:a=b):Ending.returned (.tuple #[.float .f64 V,.int .i64 a])=.returned (.tuple #[.float .f64 V,.int .i64 b]):=by rw [h]
theorem zjs {c:Nat} (h:c<2048):bits .and .u64 (c:Int) 2047=(c:Int):=by
 have:=u64_and_nat c 2047 (by omega) (by omega)
 rw [show (2047:Nat)=2^11-1 from rfl,Nat.and_two_pow_sub_one_eq_mod,Nat.mod_eq_of_lt (by omega)] at this
 exact this
theorem zh6 {n c M:Nat} (hc:c=n/4503599627370496) (hM:M=n%4503599627370496):(n:Int)/4503599627370496=(c:Int)/\(n:Int)%4503599627370496=(M:Int):=by
 subst hc hM
 omega
theorem zkU (r n x c M V:Nat) (w:World) (hz:(FloatKind.f64.format.order r 0==some .eq)=false)
 (hI:∀ w,Rs 24 #[.float .f64 r,.int .i64 0] w (.bool false))
 (hN:∀ w,Rs 23 #[.float .f64 r] w (.bool false))
 (hM:∀ w,Rs 264 #[.float .f64 r] w (.tuple #[.float .f64 n,.int .i64 (-(x:Int))]))
 (hx:x<=52) (hc2:c<=2046) (hq:(n:Int)/4503599627370496=(c:Int)) (hr:(n:Int)%4503599627370496=(M:Int))
 (ha:bits .and .u64 (c:Int) 2047=(c:Int)) (hA:bits .andNot .u64 (n:Int) 9218868437227405312=(M:Int)) (hO:bits .or .u64 (M:Int) 4602678819172646912=(V:Int)):
 Rs 261 #[.float .f64 r] w (.tuple #[.float .f64 V,.int .i64 ((c:Int)-1022-x)]):=by
 have HI:=hide hI
 have HN:=hide hN
 have HM:=hide hM
 have hb:=zbl n
 have hfb:=zaJ V
 clear hI hN hM
 go_enter Tryz.func261,Tryz.ntmps261
 go_wp2_with fail
 refine rs (HI.out _) ?_
 go_wp2_with fail
 refine rs (HN.out _) ?_
 go_wp2_with fail
 refine rs (HM.out _) ?_
 go_wp2
 all_goals go_ret2
 all_goals exact ⟨zu1 (by omega),rfl⟩
theorem zna {r n x:Nat} (h0:0<r) (hr:r<infW) (h:Nrm r n x) (w:World):Rs 261 #[.float .f64 r] w (.tuple #[.float .f64 (1022*4503599627370496+n%4503599627370496),.int .i64 (((n/4503599627370496:Nat):Int)-1022-x)]):=by
 have hz:=zid (a:=r) (b:=0) (by omega) (by decide)
 rw [decide_eq_false (by omega)] at hz
 have hn1:=h.lo
 have hn2:=h.hi
 have hx:x<=52:=by rcases h.alt with ⟨g,_⟩|⟨g,_⟩<;>omega
 obtain ⟨e1,e2⟩:=zh6 (n:=n) rfl rfl
 refine zkU r n x _ (n%4503599627370496) _ w hz (fun w=>zcD false r w hr) (fun w=>zbT false r w (by omega)) (fun w=>zeG hr h w) hx ?_ e1 e2 (zjs ?_) (zjp ?_) (or52 (k:=1022) (Nat.mod_lt _ (by omega)) (by omega))
 all_goals (unfold infW at hn2;omega)
theorem zgz {r n x:Nat} (h0:0<r) (hr:r<infW) (h:Nrm r n x) (w:World):Rs 256 #[.float .f64 r] w (.tuple #[.float .f64 (1022*4503599627370496+n%4503599627370496),.int .i64 (((n/4503599627370496:Nat):Int)-1022-x)]):=by
 have H:=hide (fun w=>zna h0 hr h w)
 go_enter Tryz.func256,Tryz.ntmps256
 go_wp2_with fail
 refine rs (H.out _) ?_
 go_wp2
 all_goals go_ret2
 all_goals exact ⟨rfl,rfl⟩
theorem zlo (q m z k c M t:Nat) (w:World) (hz:(FloatKind.f64.format.order q 0==some .eq)=false)
 (hI:∀ w,Rs 24 #[.float .f64 q,.int .i64 0] w (.bool false))
 (hN:∀ w,Rs 23 #[.float .f64 q] w (.bool false))
 (hM:∀ w,Rs 264 #[.float .f64 q] w (.tuple #[.float .f64 m,.int .i64 (-(z:Int))]))
 (hx:z<=52) (hk:k<=5000) (hc2:c<=2046) (hE1:z+1<=k+c) (hE2:k+c<=2046+z) (hq:(m:Int)/4503599627370496=(c:Int))
 (ha:bits .and .i64 (c:Int) 2047=(c:Int)) (hA:bits .andNot .u64 (m:Int) 9218868437227405312=(M:Int)) (hO:bits .or .u64 (M:Int) (((k:Int)+ -(z:Int)+((c:Int)-1023)+1023)*4503599627370496)=(t:Int))
 (hm:∀ w,Sem.run Tryz.prog (binOp .mul 45 (Value.float FloatKind.f64 4607182418800017408) (Value.float FloatKind.f64 t)) w=Result.ok (.float .f64 t) w):
 Rs 263 #[.float .f64 q,.int .i64 k] w (.float .f64 t):=by
 have HI:=hide hI
 have HN:=hide hN
 have HM:=hide hM
 have hb:=zbl m
 have hfb:=zaJ t
 clear hI hN hM
 go_enter Tryz.func263,Tryz.ntmps263
 go_wp2_with fail
 refine rs (HI.out _) ?_
 go_wp2_with fail
 refine rs (HN.out _) ?_
 go_wp2_with fail
 refine rs (HM.out _) ?_
 go_wp2
 all_goals go_ret
 all_goals exact ⟨rfl,rfl⟩
theorem zmN (q m z k c M t u:Nat) (w:World) (hz:(FloatKind.f64.format.order q 0==some .eq)=false)
 (hI:∀ w,Rs 24 #[.float .f64 q,.int .i64 0] w (.bool false))
 (hN:∀ w,Rs 23 #[.float .f64 q] w (.bool false))
 (hM:∀ w,Rs 264 #[.float .f64 q] w (.tuple #[.float .f64 m,.int .i64 (-(z:Int))]))
 (hx:z<=52) (hk:k<=5000) (hc2:c<=2046) (hc1:1<=c) (hE1:k+c<=z) (hq:(m:Int)/4503599627370496=(c:Int))
 (ha:bits .and .i64 (c:Int) 2047=(c:Int)) (hA:bits .andNot .u64 (m:Int) 9218868437227405312=(M:Int)) (hO:bits .or .u64 (M:Int) (((k:Int)+ -(z:Int)+((c:Int)-1023)+53+1023)*4503599627370496)=(u:Int))
 (hm:∀ w,Sem.run Tryz.prog (binOp .mul 45 (Value.float FloatKind.f64 4368491638549381120) (Value.float FloatKind.f64 u)) w=Result.ok (.float .f64 t) w):
 Rs 263 #[.float .f64 q,.int .i64 k] w (.float .f64 t):=by
 have HI:=hide hI
 have HN:=hide hN
 have HM:=hide hM
 have hb:=zbl m
 have hfb:=zaJ u
 clear hI hN hM
 go_enter Tryz.func263,Tryz.ntmps263
 go_wp2_with fail
 refine rs (HI.out _) ?_
 go_wp2_with fail
 refine rs (HN.out _) ?_
 go_wp2_with fail
 refine rs (HM.out _) ?_
 go_wp2
 all_goals go_ret
 all_goals exact ⟨rfl,rfl⟩
theorem znm {q m z k t:Nat} (h0:0<q) (hq:q<infW) (h:Nrm q m z) (ht:t<infW) (hv:wV t=wV q*2^k) (hk:k<=5000) (w:World):Rs 263 #[.float .f64 q,.int .i64 k] w (.float .f64 t):=by
 have hz:=zid (a:=q) (b:=0) (by omega) (by decide)
 rw [decide_eq_false (by omega)] at hz
 have hn1:=h.lo
 have hn2:=h.hi
 have hx:z<=52:=by rcases h.alt with ⟨g,_⟩|⟨g,_⟩<;>omega
 obtain ⟨e1,e2⟩:=zh6 (n:=m) rfl rfl
 have hm63:m<9223372036854775808:=by unfold infW at hn2;omega
 have hc:m/4503599627370496<=2046:=by unfold infW at hn2;omega
 rcases Nat.lt_or_ge z (k+m/4503599627370496) with g|g
 ·have ht2:=zr5 h hv (by omega)
  have hb:k+m/4503599627370496-z<=2046:=by unfold infW at ht;omega
  refine zlo q m z k (m/4503599627370496) (m%4503599627370496) t w hz (fun w=>zcD false q w hq) (fun w=>zbT false q w (by omega)) (fun w=>zeG hq h w) hx hk hc (by omega) (by omega) e1 ?_ (zjp hm63) ?_ (fun w=>zhH (zmH ht) w)
  ·rw [zcg]
   omega
  have:=or52 (r:=m%4503599627370496) (k:=k+m/4503599627370496-z) (Nat.mod_lt _ (by omega)) (by omega)
  rw [<-ht2] at this
  rw [<-this]
  congr 2
  omega
 obtain ⟨hz52,hu,hvu⟩:=zuD h hv g
 refine zmN q m z k (m/4503599627370496) (m%4503599627370496) t _ w hz (fun w=>zcD false q w hq) (fun w=>zbT false q w (by omega)) (fun w=>zeG hq h w) hx hk hc (by omega) (by omega) e1 ?_ (zjp hm63) ?_ (fun w=>zhH (zmz ht hu hvu) w)
 ·rw [zcg]
  omega
 have:=or52 (r:=m%4503599627370496) (k:=k+m/4503599627370496+1) (Nat.mod_lt _ (by omega)) (by omega)
 rw [<-this]
 congr 2
 omega
theorem zla {q m z k t:Nat} (h0:0<q) (hq:q<infW) (h:Nrm q m z) (ht:t<infW) (hv:wV t=wV q*2^k) (hk:k<=5000) (w:World):Rs 257 #[.float .f64 q,.int .i64 k] w (.float .f64 t):=by
 have H:=hide (fun w=>znm h0 hq h ht hv hk w)
 go_enter Tryz.func257,Tryz.ntmps257
 go_wp2_with fail
 refine rs (H.out _) ?_
 go_wp2
 all_goals go_ret
 all_goals exact ⟨rfl,rfl⟩
def fltN:Value->Nat
 | .float _ x=>x
 |_=>0
structure ModR (r q yf:Nat) (ye:Int) (rf:Nat) (re:Int) (b:Bool) (k t d:Nat):Prop where
 fr:∀ w,Rs 256 #[.float .f64 r] w (.tuple #[.float .f64 rf,.int .i64 re])
 lt:(FloatKind.f64.format.order rf yf==some .lt)=b
 r0: -5000<=re
 r1:re<=5000
 kv:(k:Int)=(if b then re-1 else re)-ye
 ld:∀ w,Rs 257 #[.float .f64 q,.int .i64 k] w (.float .f64 t)
 sb:∀ w,Sem.run Tryz.prog (binOp .sub 45 (Value.float FloatKind.f64 r) (Value.float FloatKind.f64 t)) w=Result.ok (.float .f64 d) w
 dl:d<r
 df:d<infW
 md:wV d%wV q=wV r%wV q
theorem zpp {r q m z:Nat} (hr:r<infW) (hq:0<q) (hqr:q<=r) (hm:Nrm q m z):∃ rf re b k t d,ModR r q (1022*4503599627370496+m%4503599627370496) (((m/4503599627370496:Nat):Int)-1022-z) rf re b k t d:=by
 obtain ⟨n,x,hn⟩:=zgP (r:=r) (by omega) hr
 obtain ⟨k,t,hk,ht,hv,htr,h2⟩:=zmV hr hqr hn hm
 obtain ⟨d,hd,hdv⟩:=zoZ hr htr h2
 have hn1:=hn.lo
 have hn2:=hn.hi
 have hm1:=hm.lo
 have hm2:=hm.hi
 have hx:x<=52:=by rcases hn.alt with ⟨g,_⟩|⟨g,_⟩<;>omega
 have hz:z<=52:=by rcases hm.alt with ⟨g,_⟩|⟨g,_⟩<;>omega
 have hnn:n/4503599627370496<=2046:=by unfold infW at hn2;omega
 have hmm:m/4503599627370496<=2046:=by unfold infW at hm2;omega
 have hk5:k<=5000:=by split at hk<;>omega
 have hw1:1022*4503599627370496+n%4503599627370496<=infW:=by unfold infW;omega
 have hw2:1022*4503599627370496+m%4503599627370496<=infW:=by unfold infW;omega
 have htp:0<wV t:=by
  rw [hv]
  exact Nat.mul_pos (zeo (by omega)) (za9 _)
 refine ⟨_,_,decide (n%4503599627370496<m%4503599627370496),k,t,d,fun w=>zgz (by omega) hr hn w,?_,by omega,by omega,?_,fun w=>zla hq (by omega) hm ht hv hk5 w,fun w=>zpM (zs8 hr ht hd hdv) w,?_,hd,?_⟩
 ·rw [zhQ hw1 hw2]
  by_cases g:n%4503599627370496<m%4503599627370496
  ·rw [decide_eq_true g,decide_eq_true (by omega)]
  rw [decide_eq_false g,decide_eq_false (by omega)]
 ·by_cases g:n%4503599627370496<m%4503599627370496
  ·rw [if_pos g] at hk
   rw [decide_eq_true g,if_pos rfl]
   omega
  rw [if_neg g] at hk
  rw [decide_eq_false g,if_neg (by decide)]
  omega
 ·rw [<-zin]
  omega
 rw [<-hdv,hv,Nat.mul_comm,Nat.add_mul_mod_self_right]
structure ModH (X Y q yf:Nat) (ye:Int) (neg:Bool):Prop where
 z:(FloatKind.f64.format.order Y 0==some .eq)=false
 i:∀ w,Rs 24 #[.float .f64 X,.int .i64 0] w (.bool false)
 n1:∀ w,Rs 23 #[.float .f64 X] w (.bool false)
 n2:∀ w,Rs 23 #[.float .f64 Y] w (.bool false)
 a:∀ w,Rs 52 #[.float .f64 Y] w (.float .f64 q)
 f:∀ w,Rs 256 #[.float .f64 q] w (.tuple #[.float .f64 yf,.int .i64 ye])
 e0: -5000<=ye
 e1:ye<=5000
 ng:(FloatKind.f64.format.order X 0==some .lt)=neg
theorem zrE (X Y q yf d:Nat) (ye:Int) (w:World) (h:ModH X Y q yf ye false) (hX:X<infW) (hq:q<=infW) (hd:Hid (wV X%wV q=wV d))
 (hR:∀ r,r<infW->q<=r->∃ rf re b k t e,ModR r q yf ye rf re b k t e):
 Rs 231 #[.float .f64 X,.float .f64 Y] w (.float .f64 d):=by
 have h1:=h.z
 have h2:=h.ng
 have e0:=h.e0
 have e1:=h.e1
 have HI:=hide h.i
 have HN1:=hide h.n1
 have HN2:=hide h.n2
 have HA:=hide h.a
 have HF:=hide h.f
 have HR:=hide hR
 have HX:=hide hX
 have Hq:=hide hq
 clear h hR hX hq
 go_enter Tryz.func231,Tryz.ntmps231
 go_wp2_with fail
 refine (HI.out _).mono ?_
 rintro e w1 ⟨rfl,rfl⟩
 go_wp2_with fail
 refine (HN1.out _).mono ?_
 rintro e w1 ⟨rfl,rfl⟩
 go_wp2_with fail
 refine (HN2.out _).mono ?_
 rintro e w1 ⟨rfl,rfl⟩
 go_wp2_with fail
 refine (HA.out _).mono ?_
 rintro e w1 ⟨rfl,rfl⟩
 go_wp2_with fail
 refine (HF.out _).mono ?_
 rintro e w1 ⟨rfl,rfl⟩
 go_wp2_with fail
 go_loopw [7] (fun rv wr=>∃ r:Nat,rv=.float .f64 r/\Hid (r<infW)/\Hid (wV r%wV q=wV d)/\wr=w1) (fun rv _=>fltN rv)
 case atStart=>exact ⟨X,rfl,HX,hd,rfl⟩
 clear HI HN1 HN2 HA HF HX hd
 obtain ⟨r,rfl,Hr,Hm,rfl⟩:=hrel
 have hgt:=ziV (a:=r) (b:=q) (Nat.le_of_lt Hr.out) Hq.out
 have heq:=zid (a:=r) (b:=q) (Nat.le_of_lt Hr.out) Hq.out
 by_cases hqr:q<=r
 ·obtain ⟨rf,re,b,k,t,d2,G⟩:=HR.out r Hr.out hqr
  have HFr:=hide G.fr
  have HLd:=hide G.ld
  have hlt:=G.lt
  have hr0:=G.r0
  have hr1:=G.r1
  have hkv:=G.kv
  have hsb:=G.sb
  have Hdl:=hide G.dl
  have Hdf:=hide G.df
  have Hmd:=hide (G.md.trans Hm.out)
  have hor:(decide (q<r)=true/\decide (r=q)=false)∨(decide (q<r)=false/\decide (r=q)=true):=by
   by_cases g:q<r
   ·exact .inl ⟨decide_eq_true g,decide_eq_false (by omega)⟩
   exact .inr ⟨decide_eq_false g,decide_eq_true (by omega)⟩
  clear G Hm Hr hqr
  cases b with
  |false=>
   have hk2:re-ye=(k:Int):=hkv.symm
   clear hkv
   rcases hor with ⟨g1,g2⟩|⟨g1,g2⟩
   all_goals (
    rw [g1] at hgt
    rw [g2] at heq
    clear g1 g2
    go_wp2_with fail
    refine rs (HFr.out _) ?_
    go_wp2_with fail
    refine rs (HLd.out _) ?_
    go_wp2
    go_roundw
    case rel=>exact ⟨d2,rfl,Hdf,Hmd,trivial⟩
    case measure=>exact Hdl.out)
  |true=>
   have hk2:re-1-ye=(k:Int):=hkv.symm
   clear hkv
   rcases hor with ⟨g1,g2⟩|⟨g1,g2⟩
   all_goals (
    rw [g1] at hgt
    rw [g2] at heq
    clear g1 g2
    go_wp2_with fail
    refine rs (HFr.out _) ?_
    go_wp2_with fail
    refine rs (HLd.out _) ?_
    go_wp2
    go_roundw
    case rel=>exact ⟨d2,rfl,Hdf,Hmd,trivial⟩
    case measure=>exact Hdl.out)
 rw [decide_eq_false (by omega)] at hgt heq
 have hfin:d=r:=by
  have:=Hm.out
  have h3:wV r<wV q:=wV_lt (by omega)
  rw [Nat.mod_eq_of_lt h3] at this
  exact (zf9 this).symm
 subst hfin
 clear Hm
 go_wp2
 all_goals go_ret
 all_goals exact ⟨rfl,rfl⟩
theorem zrK (X Y X0 V q yf d:Nat) (ye:Int) (w:World) (h:ModH X Y q yf ye true) (hX:X0<infW) (hq:q<=infW) (hd:Hid (wV X0%wV q=wV d))
 (hn1:∀ w,Sem.run Tryz.prog (Op.unary UnOp.neg (Value.float FloatKind.f64 X)) w=Result.ok (Value.float FloatKind.f64 X0) w) (hn2:∀ w,Sem.run Tryz.prog (Op.unary UnOp.neg (Value.float FloatKind.f64 d)) w=Result.ok (Value.float FloatKind.f64 V) w)
 (hR:∀ r,r<infW->q<=r->∃ rf re b k t e,ModR r q yf ye rf re b k t e):
 Rs 231 #[.float .f64 X,.float .f64 Y] w (.float .f64 V):=by
 have h1:=h.z
 have h2:=h.ng
 have e0:=h.e0
 have e1:=h.e1
 have HI:=hide h.i
 have HN1:=hide h.n1
 have HN2:=hide h.n2
 have HA:=hide h.a
 have HF:=hide h.f
 have HR:=hide hR
 have HX:=hide hX
 have Hq:=hide hq
 clear h hR hX hq
 go_enter Tryz.func231,Tryz.ntmps231
 go_wp2_with fail
 refine (HI.out _).mono ?_
 rintro e w1 ⟨rfl,rfl⟩
 go_wp2_with fail
 refine (HN1.out _).mono ?_
 rintro e w1 ⟨rfl,rfl⟩
 go_wp2_with fail
 refine (HN2.out _).mono ?_
 rintro e w1 ⟨rfl,rfl⟩
 go_wp2_with fail
 refine (HA.out _).mono ?_
 rintro e w1 ⟨rfl,rfl⟩
 go_wp2_with fail
 refine (HF.out _).mono ?_
 rintro e w1 ⟨rfl,rfl⟩
 go_wp2_with fail
 go_loopw [7] (fun rv wr=>∃ r:Nat,rv=.float .f64 r/\Hid (r<infW)/\Hid (wV r%wV q=wV d)/\wr=w1) (fun rv _=>fltN rv)
 case atStart=>exact ⟨X0,rfl,HX,hd,rfl⟩
 clear HI HN1 HN2 HA HF HX hd
 obtain ⟨r,rfl,Hr,Hm,rfl⟩:=hrel
 have hgt:=ziV (a:=r) (b:=q) (Nat.le_of_lt Hr.out) Hq.out
 have heq:=zid (a:=r) (b:=q) (Nat.le_of_lt Hr.out) Hq.out
 by_cases hqr:q<=r
 ·obtain ⟨rf,re,b,k,t,d2,G⟩:=HR.out r Hr.out hqr
  have HFr:=hide G.fr
  have HLd:=hide G.ld
  have hlt:=G.lt
  have hr0:=G.r0
  have hr1:=G.r1
  have hkv:=G.kv
  have hsb:=G.sb
  have Hdl:=hide G.dl
  have Hdf:=hide G.df
  have Hmd:=hide (G.md.trans Hm.out)
  have hor:(decide (q<r)=true/\decide (r=q)=false)∨(decide (q<r)=false/\decide (r=q)=true):=by
   by_cases g:q<r
   ·exact .inl ⟨decide_eq_true g,decide_eq_false (by omega)⟩
   exact .inr ⟨decide_eq_false g,decide_eq_true (by omega)⟩
  clear G Hm Hr hqr
  cases b with
  |false=>
   have hk2:re-ye=(k:Int):=hkv.symm
   clear hkv
   rcases hor with ⟨g1,g2⟩|⟨g1,g2⟩
   all_goals (
    rw [g1] at hgt
    rw [g2] at heq
    clear g1 g2
    go_wp2_with fail
    refine rs (HFr.out _) ?_
    go_wp2_with fail
    refine rs (HLd.out _) ?_
    go_wp2
    go_roundw
    case rel=>exact ⟨d2,rfl,Hdf,Hmd,trivial⟩
    case measure=>exact Hdl.out)
  |true=>
   have hk2:re-1-ye=(k:Int):=hkv.symm
   clear hkv
   rcases hor with ⟨g1,g2⟩|⟨g1,g2⟩
   all_goals (
    rw [g1] at hgt
    rw [g2] at heq
    clear g1 g2
    go_wp2_with fail
    refine rs (HFr.out _) ?_
    go_wp2_with fail
    refine rs (HLd.out _) ?_
    go_wp2
    go_roundw
    case rel=>exact ⟨d2,rfl,Hdf,Hmd,trivial⟩
    case measure=>exact Hdl.out)
 rw [decide_eq_false (by omega)] at hgt heq
 have hfin:d=r:=by
  have:=Hm.out
  have h3:wV r<wV q:=wV_lt (by omega)
  rw [Nat.mod_eq_of_lt h3] at this
  exact (zf9 this).symm
 subst hfin
 clear Hm
 go_wp2
 all_goals go_ret
 all_goals exact ⟨rfl,rfl⟩
theorem zpt (X Y q yf:Nat) (ye:Int) (w:World) (h:ModH X Y q yf ye false) (hgt:(FloatKind.f64.format.order X q==some .gt)=false) (heq:(FloatKind.f64.format.order X q==some .eq)=false):
 Rs 231 #[.float .f64 X,.float .f64 Y] w (.float .f64 X):=by
 have h1:=h.z
 have h2:=h.ng
 have HI:=hide h.i
 have HN1:=hide h.n1
 have HN2:=hide h.n2
 have HA:=hide h.a
 have HF:=hide h.f
 clear h
 go_enter Tryz.func231,Tryz.ntmps231
 go_wp2_with fail
 refine (HI.out _).mono ?_
 rintro e w1 ⟨rfl,rfl⟩
 go_wp2_with fail
 refine (HN1.out _).mono ?_
 rintro e w1 ⟨rfl,rfl⟩
 go_wp2_with fail
 refine (HN2.out _).mono ?_
 rintro e w1 ⟨rfl,rfl⟩
 go_wp2_with fail
 refine (HA.out _).mono ?_
 rintro e w1 ⟨rfl,rfl⟩
 go_wp2_with fail
 refine (HF.out _).mono ?_
 rintro e w1 ⟨rfl,rfl⟩
 go_wp2_with fail
 go_loopw [7] (fun rv wr=>rv=.float .f64 X/\wr=w1) (fun rv _=>0)
 case atStart=>exact ⟨rfl,rfl⟩
 clear HI HN1 HN2 HA HF
 obtain ⟨rfl,rfl⟩:=hrel
 go_wp2
 all_goals go_ret
 all_goals exact ⟨rfl,rfl⟩
theorem ord0 {s:Bool} {r:Nat} (h:r<=infW):FloatKind.f64.format.order (wordS s r) 0=some (if r=0 then .eq else if s then .lt else .gt):=by
 have ho:=zbL (s:=s) (t:=false) (r:=r) (q:=0) h (by decide)
 have e:FloatKind.f64.format.order (wordS s r) 0=Ieee.double.order (wordS s r) (wordS false 0):=rfl
 rw [e,ho,wV_zero]
 by_cases h0:r=0
 ·subst h0
  rw [wV_zero,if_pos rfl]
  cases s<;>rfl
 have hp:=zeo h0
 rw [if_neg h0]
 cases s with
 |true=>rw [zbx (by unfold sgZ;simp;omega)];rfl
 |false=>rw [zbY (by unfold sgZ;simp;omega)];rfl
theorem zje {r q:Nat} (hr:r<infW) (hq:q<infW) (hq0:0<q):∃ D,D<infW/\wV D=wV r%wV q/\
 ∀ (lo:Int) (X Y:Nat),lo=min (wE r) (wE q)->X=wM r*2^(wE r-lo).toNat->Y=wM q*2^(wE q-lo).toNat->0<Y/\(0<X%Y↔0<D)/\Ieee.double.nearest false (X%Y) lo=D:=by
 obtain ⟨lo,hlo⟩:∃ lo,lo=min (wE r) (wE q):=⟨_,rfl⟩
 obtain ⟨X,hX⟩:∃ X,X=wM r*2^(wE r-lo).toNat:=⟨_,rfl⟩
 obtain ⟨Y,hY⟩:∃ Y,Y=wM q*2^(wE q-lo).toNat:=⟨_,rfl⟩
 obtain ⟨u,hu⟩:∃ u:Nat,(u:Int)=lo+1074:=⟨(lo+1074).toNat,by unfold wE at hlo;omega⟩
 have v1:wV r=X*2^u:=by
  rw [hX,Nat.mul_assoc,<-Nat.pow_add]
  unfold wV
  congr 2
  unfold wE at *
  omega
 have v2:wV q=Y*2^u:=by
  rw [hY,Nat.mul_assoc,<-Nat.pow_add]
  unfold wV
  congr 2
  unfold wE at *
  omega
 have hY0:0<Y:=by
  have:=zeo (r:=q) (by omega)
  rw [v2] at this
  exact Nat.pos_of_mul_pos_right this
 have hk1:=wK_lt hr
 have hu2:u<2046:=by unfold wE at hlo;omega
 have hsm:X%Y<9007199254740992:=by
  rcases Int.le_total (wE q) (wE r) with g|g
  ·have e:(wE q-lo).toNat=0:=by omega
   rw [e,Nat.pow_zero,Nat.mul_one] at hY
   have:=Nat.mod_lt X hY0
   have:=wM_lt q
   omega
  have e:(wE r-lo).toNat=0:=by omega
  rw [e,Nat.pow_zero,Nat.mul_one] at hX
  have:=Nat.mod_le X Y
  have:=wM_lt r
  omega
 obtain ⟨D,hD,hv⟩:=exists_word u (X%Y) hsm hu2
 refine ⟨D,hD,by rw [hv,v1,v2,Nat.mul_mod_mul_right],fun lo' X' Y' hlo' hX' hY'=>?_⟩
 have e1:lo'=lo:=hlo'.trans hlo.symm
 subst e1
 have e2:X'=X:=hX'.trans hX.symm
 have e3:Y'=Y:=hY'.trans hY.symm
 subst e2 e3
 refine ⟨hY0,?_,zcM (A:=u) (B:=0) hD (by rw [hv,Nat.pow_zero,Nat.mul_one]) (by omega)⟩
 constructor
 ·intro g
  rcases Nat.eq_zero_or_pos D with f|f
  ·rw [f,wV_zero] at hv
   have:=Nat.mul_pos g (za9 u)
   omega
  exact f
 intro g
 have:=zeo (r:=D) (by omega)
 rw [hv] at this
 exact Nat.pos_of_mul_pos_right this
theorem znV (w:World):Rs 256 #[.float .f64 9218868437227405312] w (.tuple #[.float .f64 9218868437227405312,.int .i64 0]):=by
 have hz:=zid (a:=infW) (b:=0) (by omega) (by decide)
 rw [decide_eq_false (by decide)] at hz
 have HI:=hide (fun w=>zeH false true infW w (by decide) (by rw [ziV (by omega) (by decide)];decide))
 have e0:wordS false infW=9218868437227405312:=rfl
 rw [e0] at HI
 unfold infW at hz
 have H:∀ w,Rs 261 #[.float .f64 9218868437227405312] w (.tuple #[.float .f64 9218868437227405312,.int .i64 0]):=by
  intro w
  go_enter Tryz.func261,Tryz.ntmps261
  go_wp2_with fail
  refine rs (HI.out _) ?_
  go_wp2
  all_goals go_ret2
  all_goals exact ⟨rfl,rfl⟩
 have HH:=hide H
 clear H hz HI
 go_enter Tryz.func256,Tryz.ntmps256
 go_wp2_with fail
 refine rs (HH.out _) ?_
 go_wp2
 all_goals go_ret2
 all_goals exact ⟨rfl,rfl⟩
theorem zo9 {s t:Bool} {r q m z:Nat} (hr:r<infW) (hq:q<infW) (hq0:0<q) (hm:Nrm q m z):ModH (wordS s r) (wordS t q) q (1022*4503599627370496+m%4503599627370496) (((m/4503599627370496:Nat):Int)-1022-z) (s&&decide (0<r)):=by
 have hm2:=hm.hi
 have hz:z<=52:=by rcases hm.alt with ⟨g,_⟩|⟨g,_⟩<;>omega
 have hmm:m/4503599627370496<=2046:=by unfold infW at hm2;omega
 refine ⟨?_,fun w=>zcD s r w hr,fun w=>zbT s r w (by omega),fun w=>zbT t q w (by omega),fun w=>zdT t q w (by unfold infW at hq;omega),fun w=>zgz hq0 hq hm w,by omega,by omega,?_⟩
 ·rw [ord0 (by omega),if_neg (by omega)]
  cases t<;>rfl
 rw [ord0 (by omega)]
 by_cases h0:r=0
 ·subst h0
  rw [if_pos rfl]
  cases s<;>rfl
 rw [if_neg h0,decide_eq_true (by omega)]
 cases s<;>rfl
theorem zpA {s t:Bool} {r:Nat} (hr:r<infW):ModH (wordS s r) (wordS t infW) infW infW 0 (s&&decide (0<r)):=by
 refine ⟨?_,fun w=>zcD s r w hr,fun w=>zbT s r w (by omega),fun w=>zbT t infW w (by omega),fun w=>zdT t infW w (by decide),fun w=>znV w,by omega,by omega,?_⟩
 ·rw [ord0 (by omega),if_neg (by decide)]
  cases t<;>rfl
 rw [ord0 (by omega)]
 by_cases h0:r=0
 ·subst h0
  rw [if_pos rfl]
  cases s<;>rfl
 rw [if_neg h0,decide_eq_true (by omega)]
 cases s<;>rfl
theorem zgr {q:Nat} (hq:q<=infW) (hq0:0<q):FloatKind.f64.format.order (wordS true 0) q=some .lt:=by
 have ho:=zbL (s:=true) (t:=false) (r:=0) (q:=q) (by decide) hq
 have e:FloatKind.f64.format.order (wordS true 0) q=Ieee.double.order (wordS true 0) (wordS false q):=rfl
 have hp:=zeo (r:=q) (by omega)
 rw [e,ho,wV_zero,zbx (by unfold sgZ;simp;omega)]
theorem zlN {s t:Bool} {r q yf D:Nat} {ye:Int} (hr:r<infW) (hq:q<=infW) (hq0:0<q) (h:ModH (wordS s r) (wordS t q) q yf ye (s&&decide (0<r))) (hD:wV D=wV r%wV q) (hD2:D<9223372036854775808)
 (hR:∀ r,r<infW->q<=r->∃ rf re b k t e,ModR r q yf ye rf re b k t e) (w:World):
 Rs 231 #[.float .f64 (wordS s r),.float .f64 (wordS t q)] w (.float .f64 (wordS s D)):=by
 cases s with
 |false=>
  exact zrE r (wordS t q) q yf D ye w h hr hq (hide hD.symm) hR
 |true=>
  by_cases h0:r=0
  ·subst h0
   have hDz:D=0:=by
    rw [wV_zero,Nat.zero_mod] at hD
    exact zf9 (hD.trans wV_zero.symm)
   subst hDz
   have e:(true&&decide (0<0))=false:=rfl
   rw [e] at h
   exact zpt (wordS true 0) (wordS t q) q yf ye w h (by rw [zgr hq hq0];rfl) (by rw [zgr hq hq0];rfl)
  have e:(true&&decide (0<r))=true:=by rw [decide_eq_true (by omega)];rfl
  rw [e] at h
  exact zrK (wordS true r) (wordS t q) r (wordS true D) q yf D ye w h hr hq (hide hD.symm) (fun w=>zej true r (by unfold infW at hr;omega) w) (fun w=>zej false D hD2 w) hR
theorem zja {A B M:Nat} (h:∀ w,Rs 231 #[.float .f64 A,.float .f64 B] w (.float .f64 M)) (w:World):
 Rs 200 #[.float .f64 A,.float .f64 B] w (.float .f64 M):=by
 have H:=hide h
 clear h
 go_enter Tryz.func200,Tryz.ntmps200
 go_wp2_with fail
 refine rs (H.out _) ?_
 go_wp2
 all_goals go_ret
 all_goals exact ⟨rfl,rfl⟩
theorem zrL (X Y:Nat) (b1 b2 b3 b4:Bool) (w:World) (h1:(FloatKind.f64.format.order Y 0==some .eq)=b1)
 (h2:∀ w,Rs 24 #[.float .f64 X,.int .i64 0] w (.bool b2))
 (h3:∀ w,Rs 23 #[.float .f64 X] w (.bool b3))
 (h4:∀ w,Rs 23 #[.float .f64 Y] w (.bool b4)) (hor:(b1||b2||b3||b4)=true):
 Rs 231 #[.float .f64 X,.float .f64 Y] w (.float .f64 9221120237041090561):=by
 have H2:=hide h2
 have H3:=hide h3
 have H4:=hide h4
 have HN:=hide (fun w=>zj9 w)
 clear h2 h3 h4
 cases b1 with
 |true=>
  go_enter Tryz.func231,Tryz.ntmps231
  go_wp2_with fail
  refine rs (HN.out _) ?_
  go_wp2
  all_goals go_ret
  all_goals exact ⟨rfl,rfl⟩
 |false=>
  cases b2 with
  |true=>
   go_enter Tryz.func231,Tryz.ntmps231
   go_wp2_with fail
   refine rs (H2.out _) ?_
   go_wp2_with fail
   refine rs (HN.out _) ?_
   go_wp2
   all_goals go_ret
   all_goals exact ⟨rfl,rfl⟩
  |false=>
   cases b3 with
   |true=>
    go_enter Tryz.func231,Tryz.ntmps231
    go_wp2_with fail
    refine rs (H2.out _) ?_
    go_wp2_with fail
    refine rs (H3.out _) ?_
    go_wp2_with fail
    refine rs (HN.out _) ?_
    go_wp2
    all_goals go_ret
    all_goals exact ⟨rfl,rfl⟩
   |false=>
    obtain rfl:b4=true:=by simpa using hor
    go_enter Tryz.func231,Tryz.ntmps231
    go_wp2_with fail
    refine rs (H2.out _) ?_
    go_wp2_with fail
    refine rs (H3.out _) ?_
    go_wp2_with fail
    refine rs (H4.out _) ?_
    go_wp2_with fail
    refine rs (HN.out _) ?_
    go_wp2
    all_goals go_ret
    all_goals exact ⟨rfl,rfl⟩
theorem zoE (A B M:Nat) (w:World) (hM:∀ w,Rs 200 #[.float .f64 A,.float .f64 B] w (.float .f64 M)) (hz:(FloatKind.f64.format.order M 0 !=some .eq)=false):
 Rb 173 #[.float .f64 A,.float .f64 B] w (.float .f64 M):=by
 have H:=hide hM
 clear hM
 go_enter Tryz.func173,Tryz.ntmps173
 go_wp2_with fail
 refine rs (H.out _) ?_
 go_wp2
 all_goals go_ret
 all_goals exact ⟨rfl,Below.refl _ _⟩
theorem zj0 (A B M:Nat) (s:Bool) (w:World) (hM:∀ w,Rs 200 #[.float .f64 A,.float .f64 B] w (.float .f64 M)) (hz:(FloatKind.f64.format.order M 0 !=some .eq)=true)
 (h1:∀ w,Rs 25 #[.float .f64 M] w (.bool s)) (h2:∀ w,Rs 25 #[.float .f64 B] w (.bool s)):
 Rb 173 #[.float .f64 A,.float .f64 B] w (.float .f64 M):=by
 have H:=hide hM
 have H1:=hide h1
 have H2:=hide h2
 clear hM h1 h2
 go_enter Tryz.func173,Tryz.ntmps173
 go_wp2_with fail
 refine rs (H.out _) ?_
 go_wp2_with fail
 refine rs (H1.out _) ?_
 go_wp2_with fail
 refine rs (H2.out _) ?_
 cases s
 all_goals go_wp2
 all_goals go_ret
 all_goals exact ⟨rfl,Below.refl _ _⟩
theorem zjR (A B M:Nat) (s t:Bool) (o:Option Nat) (w:World) (hst:(s !=t)=true) (hM:∀ w,Rs 200 #[.float .f64 A,.float .f64 B] w (.float .f64 M)) (hz:(FloatKind.f64.format.order M 0 !=some .eq)=true)
 (h1:∀ w,Rs 25 #[.float .f64 M] w (.bool s)) (h2:∀ w,Rs 25 #[.float .f64 B] w (.bool t))
 (hrun:FRun .add M B o):
 Calls Tryz.prog 173 #[.float .f64 A,.float .f64 B] w fun e w'=>∃ X,e=.returned (.float .f64 X)/\FRes o X/\Below w.heap.size w w':=by
 have HRun:=hide (zbD _ M B o hrun (zmT M B))
 have H:=hide hM
 have H1:=hide h1
 have H2:=hide h2
 clear hM h1 h2 hrun
 go_enter Tryz.func173,Tryz.ntmps173
 go_wp2_with fail
 refine (H.out _).mono ?_
 rintro e w1 ⟨rfl,rfl⟩
 go_wp2_with fail
 refine (H1.out _).mono ?_
 rintro e w1 ⟨rfl,rfl⟩
 go_wp2_with fail
 refine (H2.out _).mono ?_
 rintro e w1 ⟨rfl,rfl⟩
 obtain ⟨X,kk,hrun,hres⟩:=HRun.out w1
 have HRes:=hide hres
 clear hres
 obtain rfl:t=!s:=by cases s<;>cases t<;>simp at hst ⊢
 clear hst
 cases s
 all_goals (
  go_wp2
  all_goals go_ret
  all_goals first |exact ⟨X,rfl,HRes.out,zag (Below.refl _ _) kk⟩|exact ⟨X,rfl,HRes.out,Below.refl _ _⟩)
theorem zeq {s:Bool} {r b:Nat} (h:infW<r) (h2:r<9223372036854775808):FloatKind.f64.format.order (wordS s r) b=none:=by
 show Ieee.double.order (wordS s r) b=none
 unfold Ieee.Format.order
 rw [zaI h h2]
 cases Ieee.double.read b<;>rfl
theorem zl9 (s:Bool) (r:Nat) (w:World) (h:infW<r) (h2:r<9223372036854775808):Rs 23 #[.float .f64 (wordS s r)] w (.bool true):=by
 have hh:=zeL (wordS s r) w
 rw [zeq h h2] at hh
 exact hh
theorem ziq (s:Bool) (r:Nat) (w:World) (h2:r<9223372036854775808):Rs 23 #[.float .f64 (wordS s r)] w (.bool (decide (infW<r))):=by
 by_cases h:infW<r
 ·rw [decide_eq_true h];exact zl9 s r w h h2
 rw [decide_eq_false h];exact zbT s r w (by omega)
theorem zlc (s:Bool) (r:Nat) (w:World) (h2:r<9223372036854775808):Rs 24 #[.float .f64 (wordS s r),.int .i64 0] w (.bool (decide (r=infW))):=by
 refine zeH s _ r w h2 ?_
 by_cases h:infW<r
 ·have:=zeq (s:=false) (b:=9218868437227405311) h h2
  have e:wordS false r=r:=rfl
  rw [e] at this
  rw [this,decide_eq_false (by omega)]
  rfl
 rw [ziV (by omega) (by decide)]
 by_cases g:r=infW
 ·rw [decide_eq_true g,decide_eq_true (by subst g;decide)]
 rw [decide_eq_false g,decide_eq_false (by unfold infW at *;omega)]
theorem zjM {t:Bool} {q:Nat} (h2:q<9223372036854775808):(FloatKind.f64.format.order (wordS t q) 0==some .eq)=decide (q=0):=by
 by_cases h:infW<q
 ·rw [zeq h h2,decide_eq_false (by omega)];rfl
 rw [ord0 (by omega)]
 by_cases g:q=0
 ·rw [if_pos g,decide_eq_true g];rfl
 rw [if_neg g,decide_eq_false g];cases t<;>rfl
theorem zcq (s:Bool) (r:Nat) (h:r<9223372036854775808) (w:World):Rs 25 #[.float .f64 (wordS s r)] w (.bool s):=
 zgj (wordS s r) s w (ziv h)
def RemR (A B M:Nat):Prop:=∀ w,Calls Tryz.prog 173 #[.float .f64 A,.float .f64 B] w fun e w'=>∃ X,e=.returned (.float .f64 X)/\X<18446744073709551616/\nrmW X=nrmW M/\Below w.heap.size w w'
theorem zo7 (A:Nat) (t:Bool) (q:Nat) (hq:q<9223372036854775808) (hM:∀ w,Rs 200 #[.float .f64 A,.float .f64 (wordS t q)] w (.float .f64 9221120237041090561)):RemR A (wordS t q) 9221120237041090560:=by
 intro w
 have e0:(9221120237041090561:Nat)=wordS false 9221120237041090561:=rfl
 have hz:(FloatKind.f64.format.order 9221120237041090561 0 !=some .eq)=true:=by
  rw [e0,zeq (by decide) (by decide)];rfl
 cases t with
 |false=>
  refine rb (zj0 A _ _ false w hM hz (fun w=>zcq false 9221120237041090561 (by decide) w) (fun w=>zcq false q hq w)) fun w' hb=>?_
  exact ⟨_,rfl,by decide,rfl,hb⟩
 |true=>
  refine (zjR A _ _ false true _ w rfl hM hz (fun w=>zcq false 9221120237041090561 (by decide) w) (fun w=>zcq true q hq w) (zg7 _ _)).mono ?_
  rintro e w' ⟨X,rfl,hX,hb⟩
  have hnan:Ieee.double.read 9221120237041090561=.nan false (9221120237041090561-infW):=zaI (s:=false) (r:=9221120237041090561) (by decide) (by decide)
  rw [zkj hnan] at hX
  obtain ⟨h1,h2⟩:=zbI hX okW_none
  exact ⟨X,rfl,h2,h1,hb⟩
theorem zk5 (s t:Bool) (r q:Nat) (hr:r<9223372036854775808) (hq:q<9223372036854775808) (h:q=0∨r=infW∨infW<r∨infW<q) (w:World):
 Rs 200 #[.float .f64 (wordS s r),.float .f64 (wordS t q)] w (.float .f64 9221120237041090561):=by
 refine zja (fun w=>zrL (wordS s r) (wordS t q) _ _ _ _ w (zjM hq) (fun w=>zlc s r w hr) (fun w=>ziq s r w hr) (fun w=>ziq t q w hq) ?_) w
 rcases h with h|h|h|h
 all_goals rw [decide_eq_true h];simp
theorem zqX (s t:Bool) (r q D:Nat) (hD:D<infW) (hq:q<=infW) (hM:∀ w,Rs 200 #[.float .f64 (wordS s r),.float .f64 (wordS t q)] w (.float .f64 (wordS s D))):
 RemR (wordS s r) (wordS t q) (if D=0∨s=t then wordS s D else opW (Ieee.double.add (wordS s D) (wordS t q))):=by
 intro w
 have hD63:D<9223372036854775808:=by unfold infW at hD;omega
 have hq63:q<9223372036854775808:=by unfold infW at hq;omega
 have hz:=zjM (t:=s) (q:=D) hD63
 by_cases h0:D=0
 ·rw [if_pos (.inl h0)]
  rw [decide_eq_true h0] at hz
  have hz2:(FloatKind.f64.format.order (wordS s D) 0 !=some .eq)=false:=by rw [bne,hz];rfl
  refine rb (zoE _ _ _ w hM hz2) fun w' hb=>?_
  exact ⟨_,rfl,zbF (by omega),rfl,hb⟩
 rw [decide_eq_false h0] at hz
 have hz2:(FloatKind.f64.format.order (wordS s D) 0 !=some .eq)=true:=by rw [bne,hz];rfl
 by_cases hst:s=t
 ·rw [if_pos (.inr hst)]
  subst hst
  refine rb (zj0 _ _ _ s w hM hz2 (fun w=>zcq s D hD63 w) (fun w=>zcq s q hq63 w)) fun w' hb=>?_
  exact ⟨_,rfl,zbF (by omega),rfl,hb⟩
 rw [if_neg (fun h=>h.elim h0 hst)]
 refine (zjR _ _ _ s t _ w (by rw [bne_iff_ne];exact hst) hM hz2 (fun w=>zcq s D hD63 w) (fun w=>zcq t q hq63 w) (zg7 _ _)).mono ?_
 rintro e w' ⟨X,rfl,hX,hb⟩
 obtain ⟨h1,h2⟩:=zbI hX (zc2 _ _)
 exact ⟨X,rfl,h2,by rw [h1,zda (zc2 _ _)],hb⟩
theorem zoP {s t:Bool} {r:Nat} (hr:r<infW):Ieee.double.add (wordS s r) (wordS t infW)=some (wordS t infW):=by
 unfold Ieee.Format.add
 rw [zaj hr,zaq t,<-za4]
 rfl
theorem zp4 (s t:Bool) (r q:Nat) (hr:r<9223372036854775808) (hq:q<9223372036854775808):∃ M,M<18446744073709551616/\
 (∀ w,Rb 88 #[.int .u64 (wordS s r:Nat),.int .u64 (wordS t q:Nat)] w (.int .u64 (M:Nat)))/\RemR (wordS s r) (wordS t q) M:=by
 have quiet:∀ {M:Nat},(∀ w,Rs 88 #[.int .u64 (wordS s r:Nat),.int .u64 (wordS t q:Nat)] w (.int .u64 (M:Nat)))->∀ w,Rb 88 #[.int .u64 (wordS s r:Nat),.int .u64 (wordS t q:Nat)] w (.int .u64 (M:Nat)):=by
  intro M h w
  refine rs (h w) ?_
  exact ⟨rfl,Below.refl _ _⟩
 have nanC:(q=0∨r=infW∨infW<r∨infW<q)->RemR (wordS s r) (wordS t q) 9221120237041090560:=fun h=>zo7 _ t q hq (fun w=>zk5 s t r q hr hq h w)
 have cC:=wordC (s:=t) hq
 rcases Nat.lt_trichotomy r infW with h|h|h
 ·by_cases g1:infW<q
  ·exact ⟨9221120237041090560,by decide,quiet (fun w=>zgB _ _ s t _ _ _ _ w (zcb h) (zaT hq g1)),nanC (.inr (.inr (.inr g1)))⟩
  by_cases g2:q=0
  ·subst g2
   exact ⟨9221120237041090560,by decide,quiet (fun w=>zjI _ _ s t _ _ w (zcb h) (fin0 (by decide) rfl)),nanC (.inl rfl)⟩
  by_cases g3:q=infW
  ·subst g3
   have hD:wV r=wV r%wV infW:=(Nat.mod_eq_of_lt (wV_lt h)).symm
   have hM:=fun w=>zja (fun w=>zlN (D:=r) h (Nat.le_refl _) (by decide) (zpA (s:=s) (t:=t) h) hD hr (fun r' h1 h2=>by omega) w) w
   have hR:=zqX s t r infW r h (Nat.le_refl _) hM
   by_cases h0:r=0
   ·rw [if_pos (.inl h0)] at hR
    subst h0
    exact ⟨_,zbF (by omega),quiet (fun w=>zpo _ _ s t w (fin0 (by decide) rfl) (zap rfl)),hR⟩
   by_cases hst:s=t
   ·rw [if_pos (.inr hst)] at hR
    subst hst
    exact ⟨_,zbF (by omega),quiet (fun w=>zlC _ _ s w (fin1 h h0) (zap rfl)),hR⟩
   rw [if_neg (fun h=>h.elim h0 hst),zoP h] at hR
   refine ⟨wordS t infW,zbF (by omega),quiet (fun w=>?_),hR⟩
   cases s<;>cases t
   ·exact absurd rfl hst
   ·exact zoX _ _ true w (fin1 h h0) (zap rfl)
   ·exact zpL _ _ true w (fin1 h h0) (zap rfl)
   exact absurd rfl hst
  have hq2:q<infW:=by omega
  obtain ⟨D,hDi,hDv,hX⟩:=zje h hq2 (by omega)
  obtain ⟨m,z,hm⟩:=zgP (r:=q) (by omega) hq2
  have hM:=fun w=>zja (fun w=>zlN (D:=D) h (by omega) (by omega) (zo9 (s:=s) (t:=t) h hq2 (by omega) hm) hDv (by unfold infW at hDi;omega) (fun r' h1 h2=>zpp h1 (by omega) h2 hm) w) w
  have hR:=zqX s t r q D hDi (by omega) hM
  obtain ⟨hY0,hXD,hN⟩:=hX _ _ _ rfl rfl rfl
  have hadd:=fun w=>zka s t D q w (by unfold infW at hDi;omega) hq
  have hCf:=finC (s:=t) hq2
  rw [decide_eq_false g2] at hCf
  by_cases h0:D=0
  ·rw [if_pos (.inl h0)] at hR
   refine ⟨wordS s D,zbF (by omega),fun w=>?_,hR⟩
   have:=zoh _ _ r q s t _ w _ _ _ _ _ (finC (s:=s) h) hCf (zaB hr) (zaB hq) h hq2 rfl rfl rfl hY0 rfl (by omega) (fun w=>by rw [hN];exact hadd w)
   rw [hN] at this
   exact this
  by_cases hst:s=t
  ·rw [if_pos (.inr hst)] at hR
   refine ⟨wordS s D,zbF (by omega),fun w=>?_,hR⟩
   have:=zn2 _ _ r q s t _ w _ _ _ _ _ (finC (s:=s) h) hCf (zaB hr) (zaB hq) h hq2 rfl rfl rfl hY0 rfl (by omega) (by rw [hst];simp) (fun w=>by rw [hN];exact hadd w)
   rw [hN] at this
   exact this
  rw [if_neg (fun h=>h.elim h0 hst)] at hR
  refine ⟨_,zdD (zc2 _ _),fun w=>?_,hR⟩
  exact zoq _ _ r q s t _ w _ _ _ _ _ (finC (s:=s) h) hCf (zaB hr) (zaB hq) h hq2 rfl rfl rfl hY0 rfl (by omega) (by rw [beq_eq_false_iff_ne];exact hst) (fun w=>by rw [hN];exact hadd w)
 ·have cA:=zap (s:=s) h
  by_cases g1:infW<q
  ·exact ⟨9221120237041090560,by decide,quiet (fun w=>zgB _ _ s t _ _ _ _ w cA (zaT hq g1)),nanC (.inr (.inr (.inr g1)))⟩
  have cC2:=cC
  rw [decide_eq_false g1] at cC2
  exact ⟨9221120237041090560,by decide,quiet (fun w=>zkR _ _ s t _ _ _ w cA cC2),nanC (.inr (.inl h))⟩
 exact ⟨9221120237041090560,by decide,quiet (fun w=>zkP _ _ s t _ _ _ _ _ w (zaT hr h) cC),nanC (.inr (.inr (.inl h)))⟩
theorem zjT (n:Int):bits .and .i64 n 1=n%2:=by
 have h127:(BitVec.ofInt 64 1).toNat=2^1-1:=by decide
 have key:(BitVec.ofInt 64 n&&&BitVec.ofInt 64 1).toNat=(n%((2^64:Nat):Int)).toNat%2^1:=by
  rw [BitVec.toNat_and,BitVec.toNat_ofInt,h127,Nat.and_two_pow_sub_one_eq_mod]
 show IntKind.i64.wrap ((BitVec.ofInt 64 n&&&BitVec.ofInt 64 1).toNat:Nat)=n%2
 rw [key,IntKind.wrap_i64]
 omega
theorem ziD (j:Nat):bits .and .i64 (2*(j:Int)) 1=0:=by rw [zjT];omega
theorem zjU (j:Nat):bits .and .i64 (2*(j:Int)+1) 1=1:=by rw [zjT];omega
structure PwE (B T r:Nat) (n:Int) (neg:Bool):Prop where
 tr:∀ w,Rs 77 #[.float .f64 B] w (.float .f64 T)
 ab:∀ w,Rs 52 #[.float .f64 B] w (.float .f64 r)
 eq:(FloatKind.f64.format.order B T==some .eq)=true
 lo:(FloatKind.f64.format.order B 13875581655835475968==some .lt)=false
 hi:(FloatKind.f64.format.order B 4652209618980700160==some .gt)=false
 ng:(FloatKind.f64.format.order B 0==some .lt)=neg
 iv:floatToIntVal .f64 r .i64=some n
theorem res_1 {w w2:World} (h:Below (w.alloc (numC false 0 0)).heap.size (w.alloc (numC false 0 0)) w2):
 (w2.cell? ⟨w.heap.size,0,none⟩=some (.bool false)/\w2.cell? ⟨w.heap.size,1,none⟩=some (.int .i64 0)/\w2.cell? ⟨w.heap.size,2,none⟩=some (.int .u64 0))/\
 w2.frozen? ⟨w.heap.size,0,none⟩=false/\w2.frozen? ⟨w.heap.size,1,none⟩=false/\w2.frozen? ⟨w.heap.size,2,none⟩=false:=by
 have k:=fun j=>h.cell (p:=⟨w.heap.size,j,none⟩) (by simp)
 have z:=fun j=>h.frozen (p:=⟨w.heap.size,j,none⟩) (by simp)
 exact ⟨⟨(k 0).trans (by simp),(k 1).trans (by simp),(k 2).trans (by simp)⟩,(z 0).trans (by simp),(z 1).trans (by simp),(z 2).trans (by simp)⟩
theorem put_1 {w w2:World} (h:Below (w.alloc (numC false 0 0)).heap.size (w.alloc (numC false 0 0)) w2) (x y z:Value):
 Below w.heap.size w (((w2.setCell ⟨w.heap.size,0,none⟩ x).setCell ⟨w.heap.size,1,none⟩ y).setCell ⟨w.heap.size,2,none⟩ z):=by
 have b0:Below w.heap.size w w2:=((Below.refl w.heap.size w).alloc (Nat.le_refl _) _).trans (h.mono (by simp))
 have b1:Below w.heap.size w (w2.setCell ⟨w.heap.size,0,none⟩ x):=b0.setCell (by show w.heap.size<=w.heap.size;omega) x
 have b2:Below w.heap.size w ((w2.setCell ⟨w.heap.size,0,none⟩ x).setCell ⟨w.heap.size,1,none⟩ y):=b1.setCell (by show w.heap.size<=w.heap.size;omega) y
 exact b2.setCell (by show w.heap.size<=w.heap.size;omega) z
theorem zr8 (A B T r n P:Nat) (w:World) (hE:PwE B T r n false) (hA:A<18446744073709551616) (hn:n<=1023) (hP:powL 11 n (nrmW 4607182418800017408) (nrmW A)=P):
 Rb 137 #[.float .f64 A,.float .f64 B] w (.tuple #[.agg #[.bool true,.int .i64 0,.int .u64 (P:Nat)],.nilIface]):=by
 have HT:=hide hE.tr
 have HA:=hide hE.ab
 have h1:=hE.eq
 have h2:=hE.lo
 have h3:=hE.hi
 have h4:=hE.ng
 have hconv:=fun w=>run_convert_float_int (P:=Tryz.prog) w 45 3 .f64 .i64 r n (by kernel_rfl) (by kernel_rfl) hE.iv
 have HP:=hide hP
 clear hE hP
 go_enter Tryz.func137,Tryz.ntmps137
 go_wp2_with fail
 refine rs (HT.out _) ?_
 go_wp2_with fail
 refine rs (HA.out _) ?_
 go_wp2_with fail
 go_loopw [0,7,8] (fun bv rv lv wr=>∃ f k R S:Nat,bv=.float .f64 S/\rv=.float .f64 R/\lv=.int .i64 k/\k<=1023/\Hid (k<2^f)/\Hid (R<18446744073709551616)/\Hid (S<18446744073709551616)/\Hid (powL f k (nrmW R) (nrmW S)=P)/\Below (w.alloc (numC false 0 0)).heap.size (w.alloc (numC false 0 0)) wr) (fun _ _ lv _=>(intOf lv).toNat)
 case atStart=>exact ⟨11,n,4607182418800017408,A,rfl,rfl,rfl,hn,hide (by omega),hide (by omega),hide hA,HP,Below.refl _ _⟩
 clear HP HT HA
 obtain ⟨f,k,R,S,rfl,rfl,rfl,hk,Hf,HR,HS,HP,hbl⟩:=hrel
 have Hbl:=hide hbl
 clear hbl
 by_cases k0:k=0
 ·subst k0
  have hfin:nrmW R=P:=by rw [<-HP.out,zcH]
  have HFN:=hide (fun w=>zbK R w HR.out)
  rw [hfin] at HFN
  clear hfin HP
  go_wp2_with fail
  refine rb (HFN.out _) fun w3 hb3=>?_
  have hb3':=bt Hbl.out hb3
  have HB3:=hide hb3'
  obtain ⟨⟨c0,c1,c2⟩,z0,z1,z2⟩:=res_1 hb3'
  clear hb3 hb3' HFN
  go_wp2
  refine bodyPost_ret (v:=.tuple #[.agg #[.bool true,.int .i64 0,.int .u64 (P:Nat)],.nilIface]) ?_ rfl ⟨rfl,put_1 HB3.out _ _ _⟩
  simp [results,Tryz.results137,go_sem,c0,c1,c2]
 cases f with
 |zero=>exact absurd Hf.out (by omega)
 |succ f=>
  have hf2:k/2<2^f:=by have:=Hf.out;rw [Nat.pow_succ] at this;omega
  have Hf2:=hide hf2
  clear hf2
  have hPe:=HP.out
  unfold powL at hPe
  rw [if_neg k0] at hPe
  have HM2:=hide (zbD _ S S _ (zed S S) (zeF S S))
  have HM1:=hide (zbD _ R S _ (zed R S) (zeF R S))
  have E2:=hide (zhs HS.out HS.out)
  have E1:=hide (zhs HR.out HS.out)
  obtain ⟨j,hj⟩:∃ j,j=k/2:=⟨_,rfl⟩
  rw [<-hj] at hPe Hf2
  rcases Nat.mod_two_eq_zero_or_one k with h2b|h2b
  ·rw [if_neg (by omega)] at hPe
   have HPe:=hide hPe
   have hkk:k=2*j:=by omega
   clear hPe hj HP h2b
   subst hkk
   have hev:=ziD j
   rename World=>wq
   obtain ⟨X2,kk2,hrun2,hres2⟩:=HM2.out wq
   obtain ⟨n2,l2⟩:=zbI hres2 (zb6 _ _)
   have L2:=hide l2
   have N2:=hide n2
   clear hres2 n2 l2
   go_wp2
   go_roundw
   case rel=>exact ⟨f,j,R,X2,rfl,rfl,by go_num,by omega,Hf2,HR,L2,hide (by rw [N2.out,<-HPe.out];unfold mulW;rw [E2.out]),zag Hbl.out kk2⟩
   case measure=>simp [intOf];omega
  rw [if_pos h2b] at hPe
  have HPe:=hide hPe
  have hkk:k=2*j+1:=by omega
  clear hPe hj HP h2b
  subst hkk
  have hev:=zjU j
  rename World=>wq
  obtain ⟨X1,kk1,hrun1,hres1⟩:=HM1.out wq
  obtain ⟨X2,kk2,hrun2,hres2⟩:=HM2.out (wq.drewN kk1)
  obtain ⟨n1,l1⟩:=zbI hres1 (zb6 _ _)
  obtain ⟨n2,l2⟩:=zbI hres2 (zb6 _ _)
  have L1:=hide l1
  have N1:=hide n1
  have L2:=hide l2
  have N2:=hide n2
  clear hres1 n1 l1 hres2 n2 l2
  go_wp2
  go_roundw
  case rel=>exact ⟨f,j,X1,X2,rfl,rfl,by go_num,by omega,Hf2,L1,L2,hide (by rw [N1.out,N2.out,<-HPe.out];unfold mulW;rw [E1.out,E2.out]),zag Hbl.out (kk1+kk2)⟩
  case measure=>simp [intOf];omega
theorem zpj (A B T r n P:Nat) (w:World) (hE:PwE B T r n true) (hA:A<18446744073709551616) (hn:n<=1023) (hP:powL 11 n (nrmW 4607182418800017408) (nrmW A)=P):
 Rb 137 #[.float .f64 A,.float .f64 B] w (.tuple #[.agg #[.bool true,.int .i64 0,.int .u64 (opW (Ieee.double.div 4607182418800017408 P):Nat)],.nilIface]):=by
 have HT:=hide hE.tr
 have HA:=hide hE.ab
 have h1:=hE.eq
 have h2:=hE.lo
 have h3:=hE.hi
 have h4:=hE.ng
 have hconv:=fun w=>run_convert_float_int (P:=Tryz.prog) w 45 3 .f64 .i64 r n (by kernel_rfl) (by kernel_rfl) hE.iv
 have HP:=hide hP
 clear hE hP
 go_enter Tryz.func137,Tryz.ntmps137
 go_wp2_with fail
 refine rs (HT.out _) ?_
 go_wp2_with fail
 refine rs (HA.out _) ?_
 go_wp2_with fail
 go_loopw [0,7,8] (fun bv rv lv wr=>∃ f k R S:Nat,bv=.float .f64 S/\rv=.float .f64 R/\lv=.int .i64 k/\k<=1023/\Hid (k<2^f)/\Hid (R<18446744073709551616)/\Hid (S<18446744073709551616)/\Hid (powL f k (nrmW R) (nrmW S)=P)/\Below (w.alloc (numC false 0 0)).heap.size (w.alloc (numC false 0 0)) wr) (fun _ _ lv _=>(intOf lv).toNat)
 case atStart=>exact ⟨11,n,4607182418800017408,A,rfl,rfl,rfl,hn,hide (by omega),hide (by omega),hide hA,HP,Below.refl _ _⟩
 clear HP HT HA
 obtain ⟨f,k,R,S,rfl,rfl,rfl,hk,Hf,HR,HS,HP,hbl⟩:=hrel
 have Hbl:=hide hbl
 clear hbl
 by_cases k0:k=0
 ·subst k0
  have hfin:nrmW R=P:=by rw [<-HP.out,zcH]
  have HQ:=hide (zbD _ 4607182418800017408 R _ (zhn 4607182418800017408 R) (zhb 4607182418800017408 R))
  rename World=>wq
  obtain ⟨X3,kk3,hrun3,hres3⟩:=HQ.out wq
  obtain ⟨n3,l3⟩:=zbI hres3 (zdp _ _)
  have hdv:=zta (A:=4607182418800017408) (by decide) HR.out
  have e1:nrmW 4607182418800017408=4607182418800017408:=by decide
  rw [e1,hfin] at hdv
  rw [<-hdv] at n3
  have HFN:=hide (fun w=>zbK X3 w l3)
  rw [n3] at HFN
  have Hbl:=hide (zag Hbl.out kk3)
  clear hfin HP hdv e1 n3 l3 hres3
  go_wp2_with fail
  refine rb (HFN.out _) fun w3 hb3=>?_
  have hb3':=bt Hbl.out hb3
  have HB3:=hide hb3'
  obtain ⟨⟨c0,c1,c2⟩,z0,z1,z2⟩:=res_1 hb3'
  clear hb3 hb3' HFN
  go_wp2
  refine bodyPost_ret (v:=.tuple #[.agg #[.bool true,.int .i64 0,.int .u64 (opW (Ieee.double.div 4607182418800017408 P):Nat)],.nilIface]) ?_ rfl ⟨rfl,put_1 HB3.out _ _ _⟩
  simp [results,Tryz.results137,go_sem,c0,c1,c2]
 cases f with
 |zero=>exact absurd Hf.out (by omega)
 |succ f=>
  have hf2:k/2<2^f:=by have:=Hf.out;rw [Nat.pow_succ] at this;omega
  have Hf2:=hide hf2
  clear hf2
  have hPe:=HP.out
  unfold powL at hPe
  rw [if_neg k0] at hPe
  have HM2:=hide (zbD _ S S _ (zed S S) (zeF S S))
  have HM1:=hide (zbD _ R S _ (zed R S) (zeF R S))
  have E2:=hide (zhs HS.out HS.out)
  have E1:=hide (zhs HR.out HS.out)
  obtain ⟨j,hj⟩:∃ j,j=k/2:=⟨_,rfl⟩
  rw [<-hj] at hPe Hf2
  rcases Nat.mod_two_eq_zero_or_one k with h2b|h2b
  ·rw [if_neg (by omega)] at hPe
   have HPe:=hide hPe
   have hkk:k=2*j:=by omega
   clear hPe hj HP h2b
   subst hkk
   have hev:=ziD j
   rename World=>wq
   obtain ⟨X2,kk2,hrun2,hres2⟩:=HM2.out wq
   obtain ⟨n2,l2⟩:=zbI hres2 (zb6 _ _)
   have L2:=hide l2
   have N2:=hide n2
   clear hres2 n2 l2
   go_wp2
   go_roundw
   case rel=>exact ⟨f,j,R,X2,rfl,rfl,by go_num,by omega,Hf2,HR,L2,hide (by rw [N2.out,<-HPe.out];unfold mulW;rw [E2.out]),zag Hbl.out kk2⟩
   case measure=>simp [intOf];omega
  rw [if_pos h2b] at hPe
  have HPe:=hide hPe
  have hkk:k=2*j+1:=by omega
  clear hPe hj HP h2b
  subst hkk
  have hev:=zjU j
  rename World=>wq
  obtain ⟨X1,kk1,hrun1,hres1⟩:=HM1.out wq
  obtain ⟨X2,kk2,hrun2,hres2⟩:=HM2.out (wq.drewN kk1)
  obtain ⟨n1,l1⟩:=zbI hres1 (zb6 _ _)
  obtain ⟨n2,l2⟩:=zbI hres2 (zb6 _ _)
  have L1:=hide l1
  have N1:=hide n1
  have L2:=hide l2
  have N2:=hide n2
  clear hres1 n1 l1 hres2 n2 l2
  go_wp2
  go_roundw
  case rel=>exact ⟨f,j,X1,X2,rfl,rfl,by go_num,by omega,Hf2,L1,L2,hide (by rw [N1.out,N2.out,<-HPe.out];unfold mulW;rw [E1.out,E2.out]),zag Hbl.out (kk1+kk2)⟩
  case measure=>simp [intOf];omega
theorem ztN (A B T:Nat) (ev:Value) (b1 b2 b3:Bool) (w:World) (tr:∀ w,Rs 77 #[.float .f64 B] w (.float .f64 T))
 (eq:(FloatKind.f64.format.order B T==some .eq)=b1) (lo:(FloatKind.f64.format.order B 13875581655835475968==some .lt)=b2) (hi:(FloatKind.f64.format.order B 4652209618980700160==some .gt)=b3) (hb:(!b1||b2||b3)=true)
 (h4:4<w.heap.size) (he:w.cell? ⟨4,0,none⟩=some ev):
 Rb 137 #[.float .f64 A,.float .f64 B] w (.tuple #[.agg #[.bool false,.int .i64 0,.int .u64 0],ev]):=by
 have hb0:Below w.heap.size w (w.alloc (numC false 0 0)):=(Below.refl _ _).alloc (Nat.le_refl _) _
 have he3:=(hb0.cell (p:=⟨4,0,none⟩) h4).trans he
 obtain ⟨⟨c0,c1,c2⟩,z0,z1,z2⟩:=res_1 (Below.refl (w.alloc (numC false 0 0)).heap.size (w.alloc (numC false 0 0)))
 have HT:=hide tr
 clear tr hb0 he
 have hcases:b1=false∨(b1=true/\b2=true)∨(b1=true/\b2=false/\b3=true):=by cases b1<;>cases b2<;>cases b3<;>simp at hb ⊢
 clear hb
 rcases hcases with rfl|⟨rfl,rfl⟩|⟨rfl,rfl,rfl⟩
 all_goals (
  go_enter Tryz.func137,Tryz.ntmps137
  go_wp2_with fail
  refine rs (HT.out _) ?_
  go_wp2
  go_region
  go_wp2
  refine bodyPost_ret (v:=.tuple #[.agg #[.bool false,.int .i64 0,.int .u64 0],ev]) ?_ rfl ⟨rfl,?_⟩
  ·simp [results,Tryz.results137,go_sem,c0,c1,c2]
  exact Below.drew ((Below.refl _ _).alloc (Nat.le_refl _) _))
theorem zk1 (w:World):(callFunc 123 #[.float .f64 9221120237041090560]).run Tryz.prog w=.ok (.value (.float .f64 9221120237041090560)) w:=by
 rw [run_callFunc_extern (e:=Extern.MathFloor.toIntegral "math.archTrunc" .zero) Tryz.func123 (by kernel_rfl) (by kernel_rfl) (by kernel_rfl) (by kernel_rfl)]
 have:Extern.MathFloor.toIntegral "math.archTrunc" .zero #[.float .f64 9221120237041090560]=pure (.float .f64 9221120237041090560):=by kernel_rfl
 rw [this]
 rfl
theorem zk4 (t:Bool) (w:World):(callFunc 123 #[.float .f64 (wordS t infW)]).run Tryz.prog w=.ok (.value (.float .f64 (wordS t infW))) w:=by
 rw [run_callFunc_extern (e:=Extern.MathFloor.toIntegral "math.archTrunc" .zero) Tryz.func123 (by kernel_rfl) (by kernel_rfl) (by kernel_rfl) (by kernel_rfl)]
 have:Extern.MathFloor.toIntegral "math.archTrunc" .zero #[.float .f64 (wordS t infW)]=pure (.float .f64 (wordS t infW)):=by cases t<;>kernel_rfl
 rw [this]
 rfl
theorem ziK {A T:Nat} (ht:∀ w,(callFunc 123 #[.float .f64 A]).run Tryz.prog w=.ok (.value (.float .f64 T)) w) (w:World):Rs 77 #[.float .f64 A] w (.float .f64 T):=by
 go_enter Tryz.func77,Tryz.ntmps77
 go_wp2
 all_goals go_ret
 all_goals exact ⟨rfl,rfl⟩
theorem zm9 {r c:Nat} (hc:c=1074) (h:wM r%2^(-(wE r)).toNat=0):wV r=wT (wM r) (wE r)*2^c:=by
 rcases Int.lt_or_le (wE r) 0 with g|g
 ·obtain ⟨d,hd,hd1,hd2,hv,ht,_⟩:=zd6 hc g
  rw [<-hd] at h
  have h2:=Nat.div_mul_cancel (Nat.dvd_of_mod_eq_zero h)
  rw [hv,ht]
  have e:2^c=2^d*2^(c-d):=by rw [<-Nat.pow_add];congr 1;omega
  rw [e,<-Nat.mul_assoc,h2]
 exact (zhG hc g).symm
theorem zsn {t:Bool} {q N c:Nat} (hq:q<infW) (hc:c=1074) (hv:wV q=N*2^c):
 (FloatKind.f64.format.order (wordS t q) 13875581655835475968==some .lt)=(t&&decide (1023<N))/\(FloatKind.f64.format.order (wordS t q) 4652209618980700160==some .gt)=(!t&&decide (1023<N))/\(FloatKind.f64.format.order (wordS t q) 0==some .lt)=(t&&decide (0<N)):=by
 have hw:=zro (d:=1023) (c:=c) (by omega) hc
 have e1:Ieee.double.nearest false 1023 0=4652209618980700160:=by decide+kernel
 rw [e1] at hw
 have h1:=zeR (s:=t) (t:=true) (r:=q) (q:=4652209618980700160) hq hw.2
 have h2:=zeR (s:=t) (t:=false) (r:=q) (q:=4652209618980700160) hq hw.2
 have e2:wordS true 4652209618980700160=13875581655835475968:=rfl
 have e3:wordS false 4652209618980700160=4652209618980700160:=rfl
 have hp:0<2^c:=za9 c
 rw [e2,hv,hw.1,zey,zey,zf2 hp] at h1
 rw [e3,hv,hw.1,zey,zey,zf2 hp] at h2
 have h3:=ord0 (s:=t) (r:=q) (by omega)
 have hN:N=0↔q=0:=by
  constructor
  ·intro h
   rw [h,Nat.zero_mul] at hv
   exact zf9 (hv.trans wV_zero.symm)
  intro h
  rw [h,wV_zero] at hv
  rcases Nat.mul_eq_zero.1 hv.symm with g|g
  ·exact g
  omega
 refine ⟨?_,?_,?_⟩
 ·show (Ieee.double.order (wordS t q) 13875581655835475968==some .lt)=_
  rw [h1]
  by_cases g:t=true/\1023<N
  ·obtain ⟨rfl,g2⟩:=g
   rw [zbx (by unfold sgZ;simp;omega),decide_eq_true g2];rfl
  have hn:¬ sgZ t N<sgZ true 1023:=by
   unfold sgZ
   cases t
   ·simp<;>omega
   simp at g ⊢;omega
  have:compare (sgZ t N) (sgZ true 1023)≠ .lt:=fun h=>hn (Int.compare_eq_lt.1 h)
  have e4:(t&&decide (1023<N))=false:=by
   cases t
   ·rfl
   simp at g ⊢;exact g
  rw [e4,beq_eq_false_iff_ne]
  exact fun h=>this (Option.some.inj h)
 ·show (Ieee.double.order (wordS t q) 4652209618980700160==some .gt)=_
  rw [h2]
  by_cases g:t=false/\1023<N
  ·obtain ⟨rfl,g2⟩:=g
   rw [zbY (by unfold sgZ;simp;omega),decide_eq_true g2];rfl
  have hn:¬ sgZ false 1023<sgZ t N:=by
   unfold sgZ
   cases t
   ·simp at g ⊢;omega
   simp<;>omega
  have:compare (sgZ t N) (sgZ false 1023)≠ .gt:=fun h=>hn (Int.compare_eq_gt.1 h)
  have e4:(!t&&decide (1023<N))=false:=by
   cases t
   ·simp at g ⊢;exact g
   rfl
  rw [e4,beq_eq_false_iff_ne]
  exact fun h=>this (Option.some.inj h)
 rw [h3]
 by_cases g:q=0
 ·rw [if_pos g,hN.2 g]
  cases t<;>rfl
 rw [if_neg g,decide_eq_true (show 0<N by have:=hN.1;omega)]
 cases t<;>rfl
def PowB (A B:Nat) (o:Option Nat):Prop:=
 (∀ w,Rb 90 #[.int .u64 A,.int .u64 B] w (match o with |some P=>.tuple #[.int .u64 (P:Nat),.int .i64 0]|none=>.tuple #[.int .u64 0,.int .i64 4]))/\
 (∀ w ev,4<w.heap.size->w.cell? ⟨4,0,none⟩=some ev->Rb 137 #[.float .f64 A,.float .f64 B] w (match o with |some P=>.tuple #[.agg #[.bool true,.int .i64 0,.int .u64 (P:Nat)],.nilIface]|none=>.tuple #[.agg #[.bool false,.int .i64 0,.int .u64 0],ev]))
theorem powL_ok:∀ (f n R S:Nat),R<18446744073709551616/\nrmW R=R->powL f n R S<18446744073709551616/\nrmW (powL f n R S)=powL f n R S
 |0,n,R,S,h=>h
 |f+1,n,R,S,h=>by
  unfold powL
  split
  ·exact h
  refine powL_ok f _ _ _ ?_
  split
  ·exact ⟨zf6 _ _,zda (zb6 _ _)⟩
  exact h
theorem zo1 (A:Nat) (t:Bool) (q:Nat) (hA:A<18446744073709551616) (hAn:nrmW A=A) (hq:q<=infW∨(t=false/\q=9221120237041090560)):
 ∃ o,PowB A (wordS t q) o/\∀ P,o=some P->P<18446744073709551616/\nrmW P=P:=by
 have hq63:q<9223372036854775808:=by have hi:infW=9218868437227405312:=rfl;rcases hq with h|⟨_,h⟩<;>omega
 have hBlt:wordS t q<18446744073709551616:=by unfold wordS;split<;>omega
 have hBn:nrmW (wordS t q)=wordS t q:=by
  rcases hq with h|⟨rfl,rfl⟩
  ·unfold nrmW
   rw [if_neg (by have:=(zbJ (s:=t) h).1;omega)]
  rfl
 have hF:=fun w=>zaZ (wordS t q) w hBlt
 rw [hBn] at hF
 have hI:=fun w=>zif t q w hq63
 have e1:nrmW 4607182418800017408=4607182418800017408:=by decide
 have one:4607182418800017408<18446744073709551616/\nrmW 4607182418800017408=4607182418800017408:=⟨by decide,e1⟩
 have refuse:∀ (T:Nat) (b1 b2 b3:Bool),(∀ w,Rs 77 #[.float .f64 (wordS t q)] w (.float .f64 T))->(FloatKind.f64.format.order (wordS t q) T==some .eq)=b1->(FloatKind.f64.format.order (wordS t q) 13875581655835475968==some .lt)=b2->(FloatKind.f64.format.order (wordS t q) 4652209618980700160==some .gt)=b3->(!b1||b2||b3)=true->
  (∀ w,Rb 90 #[.int .u64 A,.int .u64 (wordS t q:Nat)] w (.tuple #[.int .u64 0,.int .i64 4]))->∃ o,PowB A (wordS t q) o/\∀ P,o=some P->P<18446744073709551616/\nrmW P=P:=by
  intro T b1 b2 b3 h1 h2 h3 h4 h5 h6
  exact ⟨none,⟨fun w=>h6 w,fun w ev h4' he=>ztN A (wordS t q) T ev b1 b2 b3 w h1 h2 h3 h4 h5 h4' he⟩,fun P h=>by cases h⟩
 rcases hq with hle|⟨rfl,rfl⟩
 ·rcases Nat.lt_or_eq_of_le hle with hlt|rfl
  ·obtain ⟨c,hc⟩:∃ c:Nat,c=1074:=⟨_,rfl⟩
   have htr:=fun w=>zhY t q w hlt
   have heq:(FloatKind.f64.format.order (wordS t q) (zbZ t q)==some .eq)=decide (wM q%2^(-(wE q)).toNat=0):=zgf hlt
   by_cases hwh:wM q%2^(-(wE q)).toNat=0
   ·rw [decide_eq_true hwh] at heq
    obtain ⟨N,hN⟩:∃ N,N=wT (wM q) (wE q):=⟨_,rfl⟩
    have hv:=zm9 hc hwh
    rw [<-hN] at hv
    obtain ⟨x1,x2,x3⟩:=zsn (t:=t) hlt hc hv
    by_cases hbig:1023<N
    ·rw [decide_eq_true hbig] at x1 x2
     refine refuse _ _ _ _ htr heq x1 x2 (by cases t<;>rfl) (fun w=>?_)
     by_cases hfit:fitsB t q=true
     ·have hz:zaL t q=some (sgZ t N):=by unfold zaL;rw [if_pos ⟨hfit,hwh⟩,hN]
      rw [hz] at hI
      have hg:=zfx hfit
      rw [<-hN] at hg
      cases t with
      |true=>
       have e:sgZ true N= -(N:Int):=rfl
       rw [e] at hg hI
       exact zrY A _ (-(N:Int)) (by omega) (by omega) w hF hI
      |false=>
       have e:sgZ false N=(N:Int):=rfl
       rw [e] at hg hI
       exact zp6 A _ (N:Int) (by omega) (by omega) w hF hI
     have hz:zaL t q=none:=by unfold zaL;rw [if_neg (fun h=>hfit h.1)]
     rw [hz] at hI
     exact zfl A _ w hF hI
    rw [decide_eq_false hbig,Bool.and_false] at x1 x2
    obtain ⟨hz,hfit⟩:=zeO (s:=t) hlt hc hv (by omega)
    obtain ⟨_,hfit0⟩:=zeO (s:=false) hlt hc hv (by omega)
    rw [hz] at hI
    have hiv:=zfY hfit0
    rw [<-hN] at hiv
    have hab:=fun w=>zdT t q w hq63
    obtain ⟨P,hP⟩:∃ P,P=powL 11 N 4607182418800017408 A:=⟨_,rfl⟩
    have hPok:=powL_ok 11 N 4607182418800017408 A one
    rw [<-hP] at hPok
    have hP2:powL 11 N (nrmW 4607182418800017408) (nrmW A)=P:=by rw [e1,hAn,hP]
    by_cases hneg:t=true/\0<N
    ·obtain ⟨rfl,hN0⟩:=hneg
     have hE:PwE (wordS true q) (zbZ true q) q N true:=⟨htr,hab,heq,x1,x2,by rw [x3,decide_eq_true hN0];rfl,hiv⟩
     refine ⟨some (opW (Ieee.double.div 4607182418800017408 P)),⟨fun w=>zn8 A _ N P (by omega) w hP hA (by omega) hF hI,fun w ev _ _=>zpj A _ _ q N P w hE hA (by omega) hP2⟩,fun R h=>?_⟩
     cases h
     exact ⟨zdD (zdp _ _),zda (zdp _ _)⟩
    have e0:(t&&decide (0<N))=false:=by
     cases t
     ·rfl
     simp at hneg ⊢;exact hneg
    have hE:PwE (wordS t q) (zbZ t q) q N false:=⟨htr,hab,heq,x1,x2,by rw [x3,e0],hiv⟩
    have ez:sgZ t N=(N:Int):=by
     unfold sgZ
     cases t
     ·rfl
     simp at hneg ⊢;omega
    rw [ez] at hI
    refine ⟨some P,⟨fun w=>zoO A _ N P w hP hA (by omega) hF hI,fun w ev _ _=>zr8 A _ _ q N P w hE hA (by omega) hP2⟩,fun R h=>?_⟩
    cases h
    exact hPok
   rw [decide_eq_false hwh] at heq
   have hz:zaL t q=none:=by unfold zaL;rw [if_neg (fun h=>hwh h.2)]
   rw [hz] at hI
   exact refuse _ _ _ _ htr heq rfl rfl rfl (fun w=>zfl A _ w hF hI)
  have htr:=fun w=>ziK (fun w=>zk4 t w) w
  have hself:(FloatKind.f64.format.order (wordS t infW) (wordS t infW)==some .eq)=true:=by
   have:=zkI (s:=t) (r:=infW) (by omega)
   rw [bne,Bool.not_eq_false'] at this
   exact this
  have hz:zaL t infW=none:=by
   unfold zaL
   rw [if_neg]
   rintro ⟨h,_⟩
   exact absurd (of_decide_eq_true h).1 (by omega)
  rw [hz] at hI
  refine refuse _ _ _ _ htr hself rfl rfl ?_ (fun w=>zfl A _ w hF hI)
  have h1:=zbL (s:=t) (t:=true) (r:=infW) (q:=4652209618980700160) (by omega) (by decide)
  have h2:=zbL (s:=t) (t:=false) (r:=infW) (q:=4652209618980700160) (by omega) (by decide)
  have hlt:wV 4652209618980700160<wV infW:=wV_lt (by decide)
  cases t with
  |true=>
   have e:(FloatKind.f64.format.order (wordS true infW) 13875581655835475968==some .lt)=true:=by
    show (Ieee.double.order (wordS true infW) (wordS true 4652209618980700160)==some .lt)=true
    rw [h1,zbx (by unfold sgZ;simp;omega)];rfl
   rw [e]
   rfl
  |false=>
   have e:(FloatKind.f64.format.order (wordS false infW) 4652209618980700160==some .gt)=true:=by
    show (Ieee.double.order (wordS false infW) (wordS false 4652209618980700160)==some .gt)=true
    rw [h2,zbY (by unfold sgZ;simp;omega)];rfl
   rw [e]
   simp
 have htr:=fun w=>ziK (A:=wordS false 9221120237041090560) zk1 w
 have hz:zaL false 9221120237041090560=none:=by
  unfold zaL
  rw [if_neg]
  rintro ⟨h,_⟩
  exact absurd (of_decide_eq_true h).1 (by decide)
 rw [hz] at hI
 exact refuse _ _ _ _ htr (by rw [zeq (by decide) (by decide)]) rfl rfl rfl (fun w=>zfl A _ w hF hI)
end Go.Proofs.YtamdnnkdnhkghaaGreatDoor
