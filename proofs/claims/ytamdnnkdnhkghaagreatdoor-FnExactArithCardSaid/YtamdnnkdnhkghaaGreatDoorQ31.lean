import Derived.Test.YtamdnnkdnhkghaaGreatDoorQ30
set_option maxHeartbeats 12800000
set_option maxRecDepth 100000
set_option linter.unusedVariables false
namespace Go.Proofs.YtamdnnkdnhkghaaGreatDoor
open Go Go.RowKit
theorem zuQ (A C r q:Nat) (s t z1 z2:Bool) (w:World) (X Y:Nat) (lo:Int) (hA:FinC A s z1) (hC:FinC C t z2) (hz:(z1&&z2)=false) (hmA:(A:Int)%9223372036854775808=r) (hmC:(C:Int)%9223372036854775808=q) (hr:r<infW) (hq:q<infW)
 (hlo:lo=min (wE r) (wE q)) (hX:X=wM r*2^(wE r-lo).toNat) (hY:Y=wM q*2^(wE q-lo).toNat) (hst:(s==t)=false) (hle:Y<=X) (hcmp:cmpI X Y=1):
 Rb 86 #[.int .u64 A,.int .u64 C] w (.int .u64 (wordS s (Ieee.double.nearest false (X-Y) lo):Nat)):=by
 have GA:=hide hA
 have GC:=hide hC
 have P1:=hide (fun w=>zaw r w hr)
 have P2:=hide (fun w=>zaw q w hq)
 have m1:=wM_lt r
 have m2:=wM_lt q
 have k1:=wK_lt hr
 have k2:=wK_lt hq
 have E1: -1074<=wE r/\wE r<=971:=by unfold wE;omega
 have E2: -1074<=wE q/\wE q<=971:=by unfold wE;omega
 have O1:=hide (fun w=>zbf (wM r) w (by omega))
 have O2:=hide (fun w=>zbf (wM q) w (by omega))
 have L1:(dig (wM r)).length<=5:=zar (by omega)
 have L2:(dig (wM q)).length<=5:=zar (by omega)
 have cX:X<2^capE:=by rw [hX];exact zbu m1 (by omega)
 have cY:Y<2^capE:=by rw [hY];exact zbu m2 (by omega)
 have LX:=zbv cX
 have LY:=zbv cY
 have LT:(dig (X-Y)).length<=162:=Nat.le_trans (zak (Nat.sub_le _ _)) LX
 have Wd:=hide (fun (vn:Value) (w:World) (hn:Big w vn (dig (X-Y)))=>zcp (X-Y) 1 lo vn _ _ (hn.below ((Below.refl w.heap.size w).alloc (Nat.le_refl _) _)) (zcJ w) (by omega) (by omega) (by have:=zar (n:=1) (by omega);omega) (by omega) (by omega))
 clear hA hC k1 k2 hr hq cX cY
 generalize wM r=a1 at *
 generalize wM q=a2 at *
 generalize wE r=b1 at *
 generalize wE q=b2 at *
 by_cases hbe:b2<b1
 ·have hlo':lo=b2:=by omega
  subst hlo'
  have eX:a1*2^(b1-lo).toNat=X:=by rw [hX]
  have eY:a2*2^((0:Int)).toNat=Y:=by rw [hY];simp
  clear hX hY hlo
  go_enter Tryz.func86,Tryz.ntmps86
  go_wp2_with fail
  refine rs (GA.out.nan _) ?_
  go_wp2_with fail
  refine rs (GC.out.nan _) ?_
  go_wp2_with fail
  refine rs (GA.out.inf _) ?_
  go_wp2_with fail
  refine rs (GC.out.inf _) ?_
  go_wp2_with fail
  refine rs (GA.out.zero _) ?_
  cases z1 with
  |false=>
   go_wp2_with fail
   refine rs (P1.out _) ?_
   go_wp2_with fail
   refine rs (P2.out _) ?_
   go_wp2_with fail
   refine (O1.out _).mono ?_
   rintro e w3 ⟨v3,rfl,hg3,hb3⟩
   go_wp2_with fail
   refine (O2.out _).mono ?_
   rintro e w4 ⟨v4,rfl,hg4,hb4⟩
   have hg3':=hg3.below hb4
   have hb4':=bt hb3 hb4
   have HT1:=hide (fun k h0 h1=>twoI a1 k v3 w4 hg3' L1 h0 h1)
   have HG4:=hide hg4
   have Hb4:=hide hb4'
   clear hg3 hg4 hb3 hb4 hg3' hb4'
   go_wp2_with fail
   refine (HT1.out _ (by omega) (by omega)).mono ?_
   rintro e w5 ⟨v5,rfl,hg5,hb5⟩
   have hg4':=HG4.out.below hb5
   have hb5':=bt Hb4.out hb5
   have HT2:=hide (fun k h0 h1=>twoI a2 k v4 w5 hg4' L2 h0 h1)
   have HG5:=hide hg5
   have Hb5:=hide hb5'
   clear hg5 hb5 hg4' hb5' HT1 HG4
   go_wp2_with fail
   refine (HT2.out _ (by omega) (by omega)).mono ?_
   rintro e w6 ⟨v6,rfl,hg6,hb6⟩
   have hg5':=HG5.out.below hb6
   have hb6':=bt Hb5.out hb6
   have HGX:Hid (Big w6 v5 (dig X)):=hide (by have:=hg5';rw [eX] at this;exact this)
   have HGY:Hid (Big w6 v6 (dig Y)):=hide (by have:=hg6;rw [eY] at this;exact this)
   have Hb6:=hide hb6'
   clear hg5' hg6 hb6 hb6' HT2 HG5
   go_wp2_with fail
   refine rs (GA.out.minor _) ?_
   go_wp2_with fail
   refine rs (GC.out.minor _) ?_
   have HP:=hide (zaK X Y v5 v6 _ HGX.out HGY.out (by omega) (by omega))
   rw [hcmp] at HP
   go_wp2_with fail
   refine rb HP.out fun w6' hb6=>?_
   have HGX':=hide (HGX.out.below hb6)
   have HGY':=hide (HGY.out.below hb6)
   have Hb6':=hide (bt Hb6.out hb6)
   clear hb6 HP
   have HM:=hide (zbb X Y v5 v6 w6' HGX'.out HGY'.out (by omega) hle)
   go_wp2_with fail
   refine HM.out.mono ?_
   rintro e w7 ⟨v7,rfl,hg7,hb7⟩
   have Hb7:=hide (bt Hb6'.out hb7)
   have Hw:=hide (Wd.out v7 w7 hg7)
   clear hg7 hb7 HM
   go_wp2_with fail
   refine Hw.out.mono ?_
   rintro e w8 ⟨W,rfl,hW,hb8⟩
   have Hb8:=hide (Hb7.out.trans ((zah hb8).mono Hb7.out.size))
   have HWv:=hide (zaH hW)
   have hWle:=zas hW
   have Hs:=hide (fun w=>zal W s w (by unfold infW at hWle;omega))
   clear hb8 hW hWle Hw
   go_wp2_with fail
   refine rs (GA.out.minor _) ?_
   go_wp2_with fail
   refine rs (Hs.out _) ?_
   go_wp2
   go_ret
   exact ⟨by rw [<-HWv.out];rfl,Hb8.out⟩
  |true=>
   obtain rfl:z2=false:=by simpa using hz
   go_wp2_with fail
   refine rs (GC.out.zero _) ?_
   go_wp2_with fail
   refine rs (P1.out _) ?_
   go_wp2_with fail
   refine rs (P2.out _) ?_
   go_wp2_with fail
   refine (O1.out _).mono ?_
   rintro e w3 ⟨v3,rfl,hg3,hb3⟩
   go_wp2_with fail
   refine (O2.out _).mono ?_
   rintro e w4 ⟨v4,rfl,hg4,hb4⟩
   have hg3':=hg3.below hb4
   have hb4':=bt hb3 hb4
   have HT1:=hide (fun k h0 h1=>twoI a1 k v3 w4 hg3' L1 h0 h1)
   have HG4:=hide hg4
   have Hb4:=hide hb4'
   clear hg3 hg4 hb3 hb4 hg3' hb4'
   go_wp2_with fail
   refine (HT1.out _ (by omega) (by omega)).mono ?_
   rintro e w5 ⟨v5,rfl,hg5,hb5⟩
   have hg4':=HG4.out.below hb5
   have hb5':=bt Hb4.out hb5
   have HT2:=hide (fun k h0 h1=>twoI a2 k v4 w5 hg4' L2 h0 h1)
   have HG5:=hide hg5
   have Hb5:=hide hb5'
   clear hg5 hb5 hg4' hb5' HT1 HG4
   go_wp2_with fail
   refine (HT2.out _ (by omega) (by omega)).mono ?_
   rintro e w6 ⟨v6,rfl,hg6,hb6⟩
   have hg5':=HG5.out.below hb6
   have hb6':=bt Hb5.out hb6
   have HGX:Hid (Big w6 v5 (dig X)):=hide (by have:=hg5';rw [eX] at this;exact this)
   have HGY:Hid (Big w6 v6 (dig Y)):=hide (by have:=hg6;rw [eY] at this;exact this)
   have Hb6:=hide hb6'
   clear hg5' hg6 hb6 hb6' HT2 HG5
   go_wp2_with fail
   refine rs (GA.out.minor _) ?_
   go_wp2_with fail
   refine rs (GC.out.minor _) ?_
   have HP:=hide (zaK X Y v5 v6 _ HGX.out HGY.out (by omega) (by omega))
   rw [hcmp] at HP
   go_wp2_with fail
   refine rb HP.out fun w6' hb6=>?_
   have HGX':=hide (HGX.out.below hb6)
   have HGY':=hide (HGY.out.below hb6)
   have Hb6':=hide (bt Hb6.out hb6)
   clear hb6 HP
   have HM:=hide (zbb X Y v5 v6 w6' HGX'.out HGY'.out (by omega) hle)
   go_wp2_with fail
   refine HM.out.mono ?_
   rintro e w7 ⟨v7,rfl,hg7,hb7⟩
   have Hb7:=hide (bt Hb6'.out hb7)
   have Hw:=hide (Wd.out v7 w7 hg7)
   clear hg7 hb7 HM
   go_wp2_with fail
   refine Hw.out.mono ?_
   rintro e w8 ⟨W,rfl,hW,hb8⟩
   have Hb8:=hide (Hb7.out.trans ((zah hb8).mono Hb7.out.size))
   have HWv:=hide (zaH hW)
   have hWle:=zas hW
   have Hs:=hide (fun w=>zal W s w (by unfold infW at hWle;omega))
   clear hb8 hW hWle Hw
   go_wp2_with fail
   refine rs (GA.out.minor _) ?_
   go_wp2_with fail
   refine rs (Hs.out _) ?_
   go_wp2
   go_ret
   exact ⟨by rw [<-HWv.out];rfl,Hb8.out⟩
 have hlo':lo=b1:=by omega
 subst hlo'
 have eX:a1*2^((0:Int)).toNat=X:=by rw [hX];simp
 have eY:a2*2^(b2-lo).toNat=Y:=by rw [hY]
 clear hX hY hlo
 go_enter Tryz.func86,Tryz.ntmps86
 go_wp2_with fail
 refine rs (GA.out.nan _) ?_
 go_wp2_with fail
 refine rs (GC.out.nan _) ?_
 go_wp2_with fail
 refine rs (GA.out.inf _) ?_
 go_wp2_with fail
 refine rs (GC.out.inf _) ?_
 go_wp2_with fail
 refine rs (GA.out.zero _) ?_
 cases z1 with
 |false=>
  go_wp2_with fail
  refine rs (P1.out _) ?_
  go_wp2_with fail
  refine rs (P2.out _) ?_
  go_wp2_with fail
  refine (O1.out _).mono ?_
  rintro e w3 ⟨v3,rfl,hg3,hb3⟩
  go_wp2_with fail
  refine (O2.out _).mono ?_
  rintro e w4 ⟨v4,rfl,hg4,hb4⟩
  have hg3':=hg3.below hb4
  have hb4':=bt hb3 hb4
  have HT1:=hide (fun k h0 h1=>twoI a1 k v3 w4 hg3' L1 h0 h1)
  have HG4:=hide hg4
  have Hb4:=hide hb4'
  clear hg3 hg4 hb3 hb4 hg3' hb4'
  go_wp2_with fail
  refine (HT1.out _ (by omega) (by omega)).mono ?_
  rintro e w5 ⟨v5,rfl,hg5,hb5⟩
  have hg4':=HG4.out.below hb5
  have hb5':=bt Hb4.out hb5
  have HT2:=hide (fun k h0 h1=>twoI a2 k v4 w5 hg4' L2 h0 h1)
  have HG5:=hide hg5
  have Hb5:=hide hb5'
  clear hg5 hb5 hg4' hb5' HT1 HG4
  go_wp2_with fail
  refine (HT2.out _ (by omega) (by omega)).mono ?_
  rintro e w6 ⟨v6,rfl,hg6,hb6⟩
  have hg5':=HG5.out.below hb6
  have hb6':=bt Hb5.out hb6
  have HGX:Hid (Big w6 v5 (dig X)):=hide (by have:=hg5';rw [eX] at this;exact this)
  have HGY:Hid (Big w6 v6 (dig Y)):=hide (by have:=hg6;rw [eY] at this;exact this)
  have Hb6:=hide hb6'
  clear hg5' hg6 hb6 hb6' HT2 HG5
  go_wp2_with fail
  refine rs (GA.out.minor _) ?_
  go_wp2_with fail
  refine rs (GC.out.minor _) ?_
  have HP:=hide (zaK X Y v5 v6 _ HGX.out HGY.out (by omega) (by omega))
  rw [hcmp] at HP
  go_wp2_with fail
  refine rb HP.out fun w6' hb6=>?_
  have HGX':=hide (HGX.out.below hb6)
  have HGY':=hide (HGY.out.below hb6)
  have Hb6':=hide (bt Hb6.out hb6)
  clear hb6 HP
  have HM:=hide (zbb X Y v5 v6 w6' HGX'.out HGY'.out (by omega) hle)
  go_wp2_with fail
  refine HM.out.mono ?_
  rintro e w7 ⟨v7,rfl,hg7,hb7⟩
  have Hb7:=hide (bt Hb6'.out hb7)
  have Hw:=hide (Wd.out v7 w7 hg7)
  clear hg7 hb7 HM
  go_wp2_with fail
  refine Hw.out.mono ?_
  rintro e w8 ⟨W,rfl,hW,hb8⟩
  have Hb8:=hide (Hb7.out.trans ((zah hb8).mono Hb7.out.size))
  have HWv:=hide (zaH hW)
  have hWle:=zas hW
  have Hs:=hide (fun w=>zal W s w (by unfold infW at hWle;omega))
  clear hb8 hW hWle Hw
  go_wp2_with fail
  refine rs (GA.out.minor _) ?_
  go_wp2_with fail
  refine rs (Hs.out _) ?_
  go_wp2
  go_ret
  exact ⟨by rw [<-HWv.out];rfl,Hb8.out⟩
 |true=>
  obtain rfl:z2=false:=by simpa using hz
  go_wp2_with fail
  refine rs (GC.out.zero _) ?_
  go_wp2_with fail
  refine rs (P1.out _) ?_
  go_wp2_with fail
  refine rs (P2.out _) ?_
  go_wp2_with fail
  refine (O1.out _).mono ?_
  rintro e w3 ⟨v3,rfl,hg3,hb3⟩
  go_wp2_with fail
  refine (O2.out _).mono ?_
  rintro e w4 ⟨v4,rfl,hg4,hb4⟩
  have hg3':=hg3.below hb4
  have hb4':=bt hb3 hb4
  have HT1:=hide (fun k h0 h1=>twoI a1 k v3 w4 hg3' L1 h0 h1)
  have HG4:=hide hg4
  have Hb4:=hide hb4'
  clear hg3 hg4 hb3 hb4 hg3' hb4'
  go_wp2_with fail
  refine (HT1.out _ (by omega) (by omega)).mono ?_
  rintro e w5 ⟨v5,rfl,hg5,hb5⟩
  have hg4':=HG4.out.below hb5
  have hb5':=bt Hb4.out hb5
  have HT2:=hide (fun k h0 h1=>twoI a2 k v4 w5 hg4' L2 h0 h1)
  have HG5:=hide hg5
  have Hb5:=hide hb5'
  clear hg5 hb5 hg4' hb5' HT1 HG4
  go_wp2_with fail
  refine (HT2.out _ (by omega) (by omega)).mono ?_
  rintro e w6 ⟨v6,rfl,hg6,hb6⟩
  have hg5':=HG5.out.below hb6
  have hb6':=bt Hb5.out hb6
  have HGX:Hid (Big w6 v5 (dig X)):=hide (by have:=hg5';rw [eX] at this;exact this)
  have HGY:Hid (Big w6 v6 (dig Y)):=hide (by have:=hg6;rw [eY] at this;exact this)
  have Hb6:=hide hb6'
  clear hg5' hg6 hb6 hb6' HT2 HG5
  go_wp2_with fail
  refine rs (GA.out.minor _) ?_
  go_wp2_with fail
  refine rs (GC.out.minor _) ?_
  have HP:=hide (zaK X Y v5 v6 _ HGX.out HGY.out (by omega) (by omega))
  rw [hcmp] at HP
  go_wp2_with fail
  refine rb HP.out fun w6' hb6=>?_
  have HGX':=hide (HGX.out.below hb6)
  have HGY':=hide (HGY.out.below hb6)
  have Hb6':=hide (bt Hb6.out hb6)
  clear hb6 HP
  have HM:=hide (zbb X Y v5 v6 w6' HGX'.out HGY'.out (by omega) hle)
  go_wp2_with fail
  refine HM.out.mono ?_
  rintro e w7 ⟨v7,rfl,hg7,hb7⟩
  have Hb7:=hide (bt Hb6'.out hb7)
  have Hw:=hide (Wd.out v7 w7 hg7)
  clear hg7 hb7 HM
  go_wp2_with fail
  refine Hw.out.mono ?_
  rintro e w8 ⟨W,rfl,hW,hb8⟩
  have Hb8:=hide (Hb7.out.trans ((zah hb8).mono Hb7.out.size))
  have HWv:=hide (zaH hW)
  have hWle:=zas hW
  have Hs:=hide (fun w=>zal W s w (by unfold infW at hWle;omega))
  clear hb8 hW hWle Hw
  go_wp2_with fail
  refine rs (GA.out.minor _) ?_
  go_wp2_with fail
  refine rs (Hs.out _) ?_
  go_wp2
  go_ret
  exact ⟨by rw [<-HWv.out];rfl,Hb8.out⟩
end Go.Proofs.YtamdnnkdnhkghaaGreatDoor
