import Derived.Test.YtamdnnkdnhkghaaGreatDoorQ39
set_option maxHeartbeats 12800000
set_option maxRecDepth 100000
set_option linter.unusedVariables false
namespace Go.Proofs.YtamdnnkdnhkghaaGreatDoor
open Go Go.RowKit
theorem zrz {x y k:Nat} (hl:(dig x).length<=1000) (hy:0<y) (h:y*2^k<=x):k<14000:=by
 obtain ⟨c,hc⟩:∃ c,c=1000:=⟨_,rfl⟩
 have h1:x<10000^c:=Nat.lt_of_lt_of_le (zbe x) (Nat.pow_le_pow_right (by omega) (by omega))
 have h2:10000^c<=(2^14)^c:=Nat.pow_le_pow_left (by omega) c
 rw [<-Nat.pow_mul] at h2
 have h3:2^k<=y*2^k:=Nat.le_mul_of_pos_left _ hy
 have h4:2^k<2^(14*c):=by
  generalize 2^k=a at *
  generalize 2^(14*c)=b at *
  omega
 have:=(Nat.pow_lt_pow_iff_right (show 1<2 by omega)).1 h4
 omega
theorem zqT {a b:Nat}:cmpI a b<=0↔a<=b:=by
 unfold cmpI
 by_cases h:a<b
 ·rw [if_pos h];omega
 rw [if_neg h]
 by_cases h2:b<a
 ·rw [if_pos h2];omega
 rw [if_neg h2];omega
theorem zds (x y:Nat) (va vb:Value) (w:World) (ha:Big w va (dig x)) (hb:Big w vb (dig y)) (hl:(dig x).length<=1000) (hl2:(dig y).length<=1000) (hy:0<y):
 Calls Tryz.prog 134 #[va,vb] w fun e w'=>∃ v',e=.returned v'/\Big w' v' (dig (x%y))/\Below w.heap.size w w':=by
 have HA:=hide ha
 have HB:=hide hb
 have Hl:=hide hl
 have HC:=hide (fun a b va vb w ha hb h1 h2=>zaK a b va vb w ha hb h1 h2)
 clear ha hb
 go_enter Tryz.func134,Tryz.ntmps134
 go_wp2
 go_loopw [5,6] (fun tv nv wr=>∃ k:Nat,nv=.int .i64 k/\k<=14001/\Big wr tv (dig (y*2^k))/\Below w.heap.size w wr) (fun _ nv _=>14002-(intOf nv).toNat)
 case atStart=>exact ⟨0,rfl,by omega,by rw [Nat.pow_zero,Nat.mul_one];exact HB.out,Below.refl _ _⟩
 obtain ⟨k,rfl,hk,hbig,hbl⟩:=hrel
 have hlen:(dig (y*2^k)).length<=20000:=by have:=za5 y k;omega
 have HT:=hide (fun (v:Value) (w:World) (hb:Big w v (dig (y*2^k)))=>zel (y*2^k) 2 0 v w hb (by omega) (by omega) (by omega))
 have HBig:=hide hbig
 have HCm:=hide (HC.out _ _ _ _ _ hbig (HA.out.below hbl) (by omega) (by omega))
 have Hb:=hide hbl
 clear hbig hbl
 by_cases hle:y*2^k<=x
 ·have hk2:=zrz Hl.out hy hle
  have hc:cmpI (y*2^k) x<=0:=zqT.2 hle
  obtain ⟨c,hcc⟩:∃ c,c=cmpI (y*2^k) x:=⟨_,rfl⟩
  rw [<-hcc] at HCm hc
  clear hcc
  go_wp2_with fail
  refine rb HCm.out fun w1 hb1=>?_
  have HBig1:=hide (HBig.out.below hb1)
  have Hb1:=hide (bt Hb.out hb1)
  clear hb1
  go_wp2_with fail
  refine (HT.out _ _ HBig1.out).mono ?_
  rintro e w2 ⟨v2,rfl,hbig2,hb2⟩
  have e2:y*2^k*2+0=y*2^(k+1):=by rw [Nat.pow_succ,Nat.mul_assoc];rfl
  rw [e2] at hbig2
  have Hb2:=hide (bt Hb1.out hb2)
  have HBig2:=hide hbig2
  clear hb2 hbig2 e2
  go_wp2
  go_roundw
  case rel=>exact ⟨k+1,by go_num,by omega,HBig2.out,Hb2.out⟩
  case measure=>simp [intOf];omega
 have hc:¬ cmpI (y*2^k) x<=0:=fun h=>hle (zqT.1 h)
 obtain ⟨c,hcc⟩:∃ c,c=cmpI (y*2^k) x:=⟨_,rfl⟩
 rw [<-hcc] at HCm hc
 clear hcc
 have Hlt:=hide (show x<y*2^k by omega)
 clear hle HT
 go_wp2_with fail
 refine rb HCm.out fun w1 hb1=>?_
 have HBig1:=hide (HBig.out.below hb1)
 have Hb1:=hide (bt Hb.out hb1)
 have HA1:=hide (HA.out.below (bt Hb.out hb1))
 clear hb1 HBig HCm
 rename World=>wA
 go_wp2_with fail
 go_loopw [0,5,6] (fun av tv nv wr=>∃ (k X:Nat),nv=.int .i64 k/\k<=14001/\Big wr tv (dig (y*2^k))/\Big wr av (dig X)/\Hid (X%y=x%y)/\X<y*2^k/\X<=x/\Below w.heap.size w wr) (fun _ _ nv _=>(intOf nv).toNat)
 case atStart=>exact ⟨k,x,rfl,hk,HBig1.out,HA1.out,hide rfl,Hlt.out,Nat.le_refl _,Hb1.out⟩
 clear HBig1 HA1 Hb1 Hlt hk
 obtain ⟨k,X,rfl,hk,hbt,hba,HX,hlt,hXx,hbl⟩:=hrel
 have hlenX:(dig X).length<=1000:=Nat.le_trans (zak hXx) Hl.out
 cases k with
 |zero=>
  rw [Nat.pow_zero,Nat.mul_one] at hlt
  have hfin:X=x%y:=by rw [<-HX.out,Nat.mod_eq_of_lt hlt]
  rw [hfin] at hba
  have Hba:=hide hba
  have Hbl:=hide hbl
  clear hba hbl hbt hfin
  go_wp2
  go_ret
  exact ⟨_,rfl,Hba.out,Hbl.out⟩
 |succ k=>
  have hlen:(dig (y*2^(k+1))).length<=20000:=by have:=za5 y (k+1);omega
  have HH:=hide (zdr (y*2^(k+1)) _ _ hbt (by omega))
  have e2:y*2^(k+1)/2=y*2^k:=by rw [Nat.pow_succ,<-Nat.mul_assoc,Nat.mul_div_cancel _ (by omega)]
  rw [e2] at HH
  have Hba:=hide hba
  have Hbl:=hide hbl
  clear hba hbl hbt e2
  have hlen2:(dig (y*2^k)).length<=20000:=by have:=za5 y k;omega
  have Hlt2:=hide hlt
  go_wp2_with fail
  refine HH.out.mono ?_
  rintro e w2 ⟨v2,rfl,hbt2,hb2⟩
  have hba2:=Hba.out.below hb2
  have HCm:=hide (HC.out X (y*2^k) _ v2 w2 hba2 hbt2 (by omega) (by omega))
  have Hba2:=hide hba2
  have Hbt2:=hide hbt2
  have Hb2:=hide (bt Hbl.out hb2)
  clear hb2 hba2 hbt2 HH
  by_cases hge:y*2^k<=X
  ·have hc:0<=cmpI X (y*2^k):=by unfold cmpI;rw [if_neg (by omega)];split<;>omega
   obtain ⟨c,hcc⟩:∃ c,c=cmpI X (y*2^k):=⟨_,rfl⟩
   rw [<-hcc] at HCm hc
   clear hcc
   have HM:=hide (fun (va vb:Value) (w:World) (ha:Big w va (dig X)) (hb:Big w vb (dig (y*2^k)))=>zbb X (y*2^k) va vb w ha hb (by omega) hge)
   go_wp2_with fail
   refine rb HCm.out fun w3 hb3=>?_
   have Hba3:=hide (Hba2.out.below hb3)
   have Hbt3:=hide (Hbt2.out.below hb3)
   have Hb3:=hide (bt Hb2.out hb3)
   clear hb3
   go_wp2_with fail
   refine (HM.out _ _ _ Hba3.out Hbt3.out).mono ?_
   rintro e w4 ⟨v4,rfl,hba4,hb4⟩
   have Hba4:=hide hba4
   have Hbt4:=hide (Hbt3.out.below hb4)
   have Hb4:=hide (bt Hb3.out hb4)
   clear hba4 hb4
   have HX4:Hid ((X-y*2^k)%y=x%y):=hide (by
    rw [<-HX.out]
    have e3:X=X-y*2^k+y*2^k:=by omega
    conv=>rhs;rw [e3,Nat.add_mul_mod_self_left])
   have hlt4:X-y*2^k<y*2^k:=by
    have:=Hlt2.out
    rw [Nat.pow_succ,<-Nat.mul_assoc] at this
    omega
   go_wp2
   go_roundw
   case rel=>exact ⟨k,X-y*2^k,by go_num,by omega,Hbt4.out,Hba4.out,HX4,hlt4,by omega,Hb4.out⟩
   case measure=>simp [intOf]
  have hc:¬ 0<=cmpI X (y*2^k):=by unfold cmpI;rw [if_pos (by omega)];omega
  obtain ⟨c,hcc⟩:∃ c,c=cmpI X (y*2^k):=⟨_,rfl⟩
  rw [<-hcc] at HCm hc
  clear hcc
  go_wp2_with fail
  refine rb HCm.out fun w3 hb3=>?_
  have Hba3:=hide (Hba2.out.below hb3)
  have Hbt3:=hide (Hbt2.out.below hb3)
  have Hb3:=hide (bt Hb2.out hb3)
  clear hb3
  go_wp2
  go_roundw
  case rel=>exact ⟨k,X,by go_num,by omega,Hbt3.out,Hba3.out,HX,by omega,hXx,Hb3.out⟩
  case measure=>simp [intOf]
theorem zoq (A C r q:Nat) (s t z1:Bool) (w:World) (X Y R:Nat) (lo:Int) (D:Int) (hA:FinC A s z1) (hC:FinC C t false) (hmA:(A:Int)%9223372036854775808=r) (hmC:(C:Int)%9223372036854775808=q) (hr:r<infW) (hq:q<infW)
 (hlo:lo=min (wE r) (wE q)) (hX:X=wM r*2^(wE r-lo).toNat) (hY:Y=wM q*2^(wE q-lo).toNat) (hY0:0<Y) (eR:X%Y=R) (hR0:0<R) (hst:(s==t)=false)
 (hadd:∀ w,Rb 86 #[.int .u64 (wordS s (Ieee.double.nearest false R lo):Nat),.int .u64 C] w (.int .u64 D)):
 Rb 88 #[.int .u64 A,.int .u64 C] w (.int .u64 D):=by
 have Hadd:=hide hadd
 have GA:=hide hA
 have GC:=hide hC
 have P1:=hide (fun w=>zaw r w hr)
 have P2:=hide (fun w=>zaw q w hq)
 have m1:=wM_lt r
 have m2:=wM_lt q
 have k1:=wK_lt hr
 have k2:=wK_lt hq
 have E1: -1074<=wE r/\wE r<=971:=by unfold wE;omega
 have E2: -1074<=wE q/\wE q<=971:=by unfold wE;omega
 have O1:=hide (fun w=>zbf (wM r) w (by omega))
 have O2:=hide (fun w=>zbf (wM q) w (by omega))
 have L1:(dig (wM r)).length<=5:=zar (by omega)
 have L2:(dig (wM q)).length<=5:=zar (by omega)
 have cX:X<2^capE:=by rw [hX];exact zbu m1 (by omega)
 have cY:Y<2^capE:=by rw [hY];exact zbu m2 (by omega)
 have LX:=zbv cX
 have LY:=zbv cY
 have LT:(dig R).length<=162:=Nat.le_trans (zak (by rw [<-eR];exact Nat.mod_le _ _)) LX
 have hRl:0<(dig R).length:=by rw [zcm];omega
 have Wd:=hide (fun (vn:Value) (w:World) (hn:Big w vn (dig R))=>zcp R 1 lo vn _ _ (hn.below ((Below.refl w.heap.size w).alloc (Nat.le_refl _) _)) (zcJ w) (by omega) (by omega) (by have:=zar (n:=1) (by omega);omega) (by omega) (by omega))
 clear hA hC k1 k2 hr hq cX cY hadd hR0
 generalize wM r=a1 at *
 generalize wM q=a2 at *
 generalize wE r=b1 at *
 generalize wE q=b2 at *
 by_cases hbe:b2<b1
 ·have hlo':lo=b2:=by omega
  subst hlo'
  have eX:a1*2^(b1-lo).toNat=X:=by rw [hX]
  have eY:a2*2^((0:Int)).toNat=Y:=by rw [hY];simp
  clear hX hY hlo
  go_enter Tryz.func88,Tryz.ntmps88
  go_wp2_with fail
  refine rs (GA.out.nan _) ?_
  go_wp2_with fail
  refine rs (GC.out.nan _) ?_
  go_wp2_with fail
  refine rs (GA.out.inf _) ?_
  go_wp2_with fail
  refine rs (GC.out.zero _) ?_
  go_wp2_with fail
  refine rs (GC.out.inf _) ?_
  go_wp2_with fail
  refine rs (P1.out _) ?_
  go_wp2_with fail
  refine rs (P2.out _) ?_
  go_wp2_with fail
  refine (O1.out _).mono ?_
  rintro e w3 ⟨v3,rfl,hg3,hb3⟩
  have HT1:=hide (fun k h0 h1=>twoI a1 k v3 w3 hg3 L1 h0 h1)
  have Hb3:=hide hb3
  clear hg3 hb3
  go_wp2_with fail
  refine (HT1.out _ (by omega) (by omega)).mono ?_
  rintro e w4 ⟨v4,rfl,hg4,hb4⟩
  have HG4:=hide hg4
  have Hb4:=hide (bt Hb3.out hb4)
  clear hg4 hb4 HT1
  go_wp2_with fail
  refine (O2.out _).mono ?_
  rintro e w5 ⟨v5,rfl,hg5,hb5⟩
  have HT2:=hide (fun k h0 h1=>twoI a2 k v5 w5 hg5 L2 h0 h1)
  have HG5:=hide (HG4.out.below hb5)
  have Hb5:=hide (bt Hb4.out hb5)
  clear hg5 hb5 HG4
  go_wp2_with fail
  refine (HT2.out _ (by omega) (by omega)).mono ?_
  rintro e w6 ⟨v6,rfl,hg6,hb6⟩
  have HGX:Hid (Big w6 v4 (dig X)):=hide (by have:=HG5.out.below hb6;rw [eX] at this;exact this)
  have HGY:Hid (Big w6 v6 (dig Y)):=hide (by have:=hg6;rw [eY] at this;exact this)
  have Hb6:=hide (bt Hb5.out hb6)
  clear hg6 hb6 HT2 HG5
  have HRe:=hide (zds X Y v4 v6 _ HGX.out HGY.out (by omega) (by omega) hY0)
  go_wp2_with fail
  refine HRe.out.mono ?_
  rintro e w7 ⟨v7,rfl,hg7,hb7⟩
  rw [eR] at hg7
  have Hb7:=hide (bt Hb6.out hb7)
  have Hw:=hide (Wd.out v7 w7 hg7)
  obtain ⟨g7,cap7,hv7⟩:=hg7.len
  subst hv7
  clear hb7 hg7 HRe
  go_wp2_with fail
  refine Hw.out.mono ?_
  rintro e w8 ⟨W,rfl,hW,hb8⟩
  have Hb8:=hide (Hb7.out.trans ((zah hb8).mono Hb7.out.size))
  have HWv:=hide (zaH hW)
  have hWle:=zas hW
  have Hs:=hide (fun w=>zal W s w (by unfold infW at hWle;omega))
  rw [<-HWv.out] at Hadd
  clear hb8 hW hWle Hw
  go_wp2_with fail
  refine rs (GA.out.minor _) ?_
  go_wp2_with fail
  refine rs (Hs.out _) ?_
  go_wp2_with fail
  refine rs (GA.out.minor _) ?_
  go_wp2_with fail
  refine rs (GC.out.minor _) ?_
  go_wp2_with fail
  refine rb (Hadd.out _) fun w9 hb9=>?_
  have Hb9:=hide (bt Hb8.out hb9)
  clear hb9
  go_wp2
  go_ret
  exact ⟨rfl,Hb9.out⟩
 have hlo':lo=b1:=by omega
 subst hlo'
 have eX:a1*2^((0:Int)).toNat=X:=by rw [hX];simp
 have eY:a2*2^(b2-lo).toNat=Y:=by rw [hY]
 clear hX hY hlo
 go_enter Tryz.func88,Tryz.ntmps88
 go_wp2_with fail
 refine rs (GA.out.nan _) ?_
 go_wp2_with fail
 refine rs (GC.out.nan _) ?_
 go_wp2_with fail
 refine rs (GA.out.inf _) ?_
 go_wp2_with fail
 refine rs (GC.out.zero _) ?_
 go_wp2_with fail
 refine rs (GC.out.inf _) ?_
 go_wp2_with fail
 refine rs (P1.out _) ?_
 go_wp2_with fail
 refine rs (P2.out _) ?_
 go_wp2_with fail
 refine (O1.out _).mono ?_
 rintro e w3 ⟨v3,rfl,hg3,hb3⟩
 have HT1:=hide (fun k h0 h1=>twoI a1 k v3 w3 hg3 L1 h0 h1)
 have Hb3:=hide hb3
 clear hg3 hb3
 go_wp2_with fail
 refine (HT1.out _ (by omega) (by omega)).mono ?_
 rintro e w4 ⟨v4,rfl,hg4,hb4⟩
 have HG4:=hide hg4
 have Hb4:=hide (bt Hb3.out hb4)
 clear hg4 hb4 HT1
 go_wp2_with fail
 refine (O2.out _).mono ?_
 rintro e w5 ⟨v5,rfl,hg5,hb5⟩
 have HT2:=hide (fun k h0 h1=>twoI a2 k v5 w5 hg5 L2 h0 h1)
 have HG5:=hide (HG4.out.below hb5)
 have Hb5:=hide (bt Hb4.out hb5)
 clear hg5 hb5 HG4
 go_wp2_with fail
 refine (HT2.out _ (by omega) (by omega)).mono ?_
 rintro e w6 ⟨v6,rfl,hg6,hb6⟩
 have HGX:Hid (Big w6 v4 (dig X)):=hide (by have:=HG5.out.below hb6;rw [eX] at this;exact this)
 have HGY:Hid (Big w6 v6 (dig Y)):=hide (by have:=hg6;rw [eY] at this;exact this)
 have Hb6:=hide (bt Hb5.out hb6)
 clear hg6 hb6 HT2 HG5
 have HRe:=hide (zds X Y v4 v6 _ HGX.out HGY.out (by omega) (by omega) hY0)
 go_wp2_with fail
 refine HRe.out.mono ?_
 rintro e w7 ⟨v7,rfl,hg7,hb7⟩
 rw [eR] at hg7
 have Hb7:=hide (bt Hb6.out hb7)
 have Hw:=hide (Wd.out v7 w7 hg7)
 obtain ⟨g7,cap7,hv7⟩:=hg7.len
 subst hv7
 clear hb7 hg7 HRe
 go_wp2_with fail
 refine Hw.out.mono ?_
 rintro e w8 ⟨W,rfl,hW,hb8⟩
 have Hb8:=hide (Hb7.out.trans ((zah hb8).mono Hb7.out.size))
 have HWv:=hide (zaH hW)
 have hWle:=zas hW
 have Hs:=hide (fun w=>zal W s w (by unfold infW at hWle;omega))
 rw [<-HWv.out] at Hadd
 clear hb8 hW hWle Hw
 go_wp2_with fail
 refine rs (GA.out.minor _) ?_
 go_wp2_with fail
 refine rs (Hs.out _) ?_
 go_wp2_with fail
 refine rs (GA.out.minor _) ?_
 go_wp2_with fail
 refine rs (GC.out.minor _) ?_
 go_wp2_with fail
 refine rb (Hadd.out _) fun w9 hb9=>?_
 have Hb9:=hide (bt Hb8.out hb9)
 clear hb9
 go_wp2
 go_ret
 exact ⟨rfl,Hb9.out⟩
def nrmW (W:Nat):Nat:=if infW<W%9223372036854775808 then 9221120237041090560 else W
theorem zaZ (W:Nat) (w:World) (hW:W<18446744073709551616):Rb 28 #[.int .u64 W] w (.agg #[.bool true,.int .i64 0,.int .u64 (nrmW W:Nat)]):=by
 have hN:=zcF (W:Int)
 by_cases h:infW<W%9223372036854775808
 ·have e:nrmW W=9221120237041090560:=by unfold nrmW;rw [if_pos h]
  have hd:decide (9218868437227405312<(W:Int)%9223372036854775808)=true:=by unfold infW at h;rw [decide_eq_true];omega
  rw [hd] at hN
  rw [e]
  have G:=hide (fun w=>hN w (by omega))
  clear hN hd e h
  go_enter Tryz.func28,Tryz.ntmps28
  go_wp2_with fail
  refine rs (G.out _) ?_
  go_wp2
  refine bodyPost_ret (v:=.agg #[.bool true,.int .i64 0,.int .u64 ((9221120237041090560:Nat):Int)]) ?_ rfl ⟨rfl,(Below.refl _ _).alloc (Nat.le_refl _) _⟩
  simp [results,Tryz.results28,go_sem]
 have e:nrmW W=W:=by unfold nrmW;rw [if_neg h]
 have hd:decide (9218868437227405312<(W:Int)%9223372036854775808)=false:=by unfold infW at h;rw [decide_eq_false];omega
 rw [hd] at hN
 rw [e]
 have G:=hide (fun w=>hN w (by omega))
 clear hN hd e h
 go_enter Tryz.func28,Tryz.ntmps28
 go_wp2_with fail
 refine rs (G.out _) ?_
 go_wp2
 refine bodyPost_ret (v:=.agg #[.bool true,.int .i64 0,.int .u64 (W:Int)]) ?_ rfl ⟨rfl,(Below.refl _ _).alloc (Nat.le_refl _) _⟩
 simp [results,Tryz.results28,go_sem]
theorem zsm (x:Int) (w:World):(Instr.field 26 (.agg #[.bool true,.int .i64 0,.int .u64 x]) 2).run Tryz.prog w=.ok (.int .u64 x) w:=by kernel_rfl
theorem ziQ (W:Nat) (w:World) (hW:W<18446744073709551616):Rb 84 #[.agg #[.bool true,.int .i64 0,.int .u64 W]] w (.int .u64 (nrmW W:Nat)):=by
 have G:=hide (fun w=>zaZ W w hW)
 have hfb:=zsm
 go_enter Tryz.func84,Tryz.ntmps84
 go_wp2_with fail
 refine rb (G.out _) fun w1 hb1=>?_
 have Hb1:=hide (zah hb1)
 clear hb1
 go_wp2
 go_ret
 exact ⟨rfl,Hb1.out⟩
theorem zjH (i:Int) (w:World) (h0: -9223372036854775808<=i) (h1:i<=9223372036854775807):Rb 59 #[.int .i64 i] w (.int .u64 (intW i:Nat)):=by
 by_cases hl:i= -9223372036854775808
 ·subst hl
  have e:intW (-9223372036854775808)=14114281232179134464:=by decide+kernel
  rw [e]
  exact zjG w
 exact zcP i w (by omega) h1
theorem zhW (i:Int) (w:World) (h0: -9223372036854775808<=i) (h1:i<=9223372036854775807):Rb 84 #[.agg #[.bool false,.int .i64 i,.int .u64 0]] w (.int .u64 (intW i:Nat)):=by
 have G:=hide (fun w=>zjH i w h0 h1)
 go_enter Tryz.func84,Tryz.ntmps84
 go_wp2_with fail
 refine rb (G.out _) fun w1 hb1=>?_
 have Hb1:=hide (zah hb1)
 clear hb1
 go_wp2
 go_ret
 exact ⟨rfl,Hb1.out⟩
theorem ztg {w w2:World} {a b:Obj} (h:Below ((w.alloc a).alloc b).heap.size ((w.alloc a).alloc b) w2):Below w.heap.size w w2:=zah (zah h)
theorem res_2 {w w2:World} {a:Obj} (h:Below ((w.alloc a).alloc (numC false 0 0)).heap.size ((w.alloc a).alloc (numC false 0 0)) w2):
 (w2.cell? ⟨w.heap.size+1,0,none⟩=some (.bool false)/\w2.cell? ⟨w.heap.size+1,1,none⟩=some (.int .i64 0)/\w2.cell? ⟨w.heap.size+1,2,none⟩=some (.int .u64 0))/\
 w2.frozen? ⟨w.heap.size+1,0,none⟩=false/\w2.frozen? ⟨w.heap.size+1,1,none⟩=false/\w2.frozen? ⟨w.heap.size+1,2,none⟩=false:=by
 have k:=fun j=>h.cell (p:=⟨w.heap.size+1,j,none⟩) (by simp)
 have z:=fun j=>h.frozen (p:=⟨w.heap.size+1,j,none⟩) (by simp)
 have e:(w.alloc a).heap.size=w.heap.size+1:=by simp
 have n0:=zm4 (w.alloc a)
 rw [e] at n0
 obtain ⟨⟨a0,a1,a2⟩,a3,a4,a5⟩:=n0
 exact ⟨⟨(k 0).trans a0,(k 1).trans a1,(k 2).trans a2⟩,(z 0).trans a3,(z 1).trans a4,(z 2).trans a5⟩
theorem put_2 {w w2:World} {a:Obj} (h:Below ((w.alloc a).alloc (numC false 0 0)).heap.size ((w.alloc a).alloc (numC false 0 0)) w2) (x y z:Value):
 Below w.heap.size w (((w2.setCell ⟨w.heap.size+1,0,none⟩ x).setCell ⟨w.heap.size+1,1,none⟩ y).setCell ⟨w.heap.size+1,2,none⟩ z):=by
 have b0:=ztg h
 have b1:Below w.heap.size w (w2.setCell ⟨w.heap.size+1,0,none⟩ x):=b0.setCell (by show w.heap.size<=w.heap.size+1;omega) x
 have b2:Below w.heap.size w ((w2.setCell ⟨w.heap.size+1,0,none⟩ x).setCell ⟨w.heap.size+1,1,none⟩ y):=b1.setCell (by show w.heap.size<=w.heap.size+1;omega) y
 exact b2.setCell (by show w.heap.size<=w.heap.size+1;omega) z
theorem zs4 (i:Int) (w:World):Rb 120 #[.agg #[.bool false,.int .i64 i,.int .u64 0]] w (.agg #[.bool false,.int .i64 (wrap64 (-i)),.int .u64 0]):=by
 go_enter Tryz.func120,Tryz.ntmps120
 go_wp2_with fail
 refine rb (zaD _ _) fun w3 hb3=>?_
 have HB3:=hide hb3
 obtain ⟨⟨c0,c1,c2⟩,z0,z1,z2⟩:=res_2 hb3
 clear hb3
 go_wp2
 refine bodyPost_ret (v:=.agg #[.bool false,.int .i64 (wrap64 (-i)),.int .u64 0]) ?_ rfl ⟨rfl,put_2 HB3.out _ _ _⟩
 simp [results,Tryz.results120,go_sem,c0,c1,c2]
theorem zeZ (s:Bool) (r:Nat) (w:World) (hr:r<9223372036854775808):Rb 68 #[.float .f64 (wordS s r)] w (.agg #[.bool true,.int .i64 0,.int .u64 (nrmW (wordS s r):Nat)]):=by
 have hm:wordS s r%9223372036854775808=r:=by unfold wordS;split<;>omega
 by_cases h:infW<r
 ·have e:nrmW (wordS s r)=9221120237041090560:=by unfold nrmW;rw [hm,if_pos h]
  rw [e]
  exact zcc _ w (zg8 h hr)
 have e:nrmW (wordS s r)=wordS s r:=by unfold nrmW;rw [hm,if_neg h]
 rw [e]
 exact zbt _ w (zgY (by omega))
theorem zrH (s:Bool) (r:Nat) (w:World) (hr:r<9223372036854775808):Rb 120 #[.agg #[.bool true,.int .i64 0,.int .u64 (wordS s r:Nat)]] w (.agg #[.bool true,.int .i64 0,.int .u64 (nrmW (wordS (!s) r):Nat)]):=by
 have HF:=hide (fun w=>zbB (wordS s r) 0 w)
 have hneg:=zej s r hr
 have HN:=hide (fun w=>zeZ (!s) r w hr)
 obtain ⟨W,hW⟩:∃ W,W=wordS s r:=⟨_,rfl⟩
 obtain ⟨V,hV⟩:∃ V,V=wordS (!s) r:=⟨_,rfl⟩
 rw [<-hW] at HF hneg ⊢
 rw [<-hV] at hneg HN ⊢
 clear hW hV
 go_enter Tryz.func120,Tryz.ntmps120
 go_wp2_with fail
 refine rb (HF.out _) fun w1 hb1=>?_
 have HB1:=hide hb1
 clear hb1
 go_wp2_with fail
 refine rb (HN.out _) fun w3 hb3=>?_
 have hb3':=bt HB1.out hb3
 have HB3:=hide hb3'
 obtain ⟨⟨c0,c1,c2⟩,z0,z1,z2⟩:=res_2 hb3'
 clear hb3 hb3'
 go_wp2
 refine bodyPost_ret (v:=.agg #[.bool true,.int .i64 0,.int .u64 (nrmW V:Nat)]) ?_ rfl ⟨rfl,put_2 HB3.out _ _ _⟩
 simp [results,Tryz.results120,go_sem,c0,c1,c2]
theorem zkP (A C:Nat) (s t i1 z1 n2 i2 z2:Bool) (w:World) (hA:WordC A true s i1 z1) (hC:WordC C n2 t i2 z2):
 Rs 88 #[.int .u64 A,.int .u64 C] w (.int .u64 9221120237041090560):=by
 have GA:=hide hA
 have GC:=hide hC
 clear hA hC
 go_enter Tryz.func88,Tryz.ntmps88
 go_wp2_with fail
 refine rs (GA.out.nan _) ?_
 go_wp2
 go_ret
 exact ⟨rfl,rfl⟩
theorem zgB (A C:Nat) (s t i1 z1 i2 z2:Bool) (w:World) (hA:WordC A false s i1 z1) (hC:WordC C true t i2 z2):
 Rs 88 #[.int .u64 A,.int .u64 C] w (.int .u64 9221120237041090560):=by
 have GA:=hide hA
 have GC:=hide hC
 clear hA hC
 go_enter Tryz.func88,Tryz.ntmps88
 go_wp2_with fail
 refine rs (GA.out.nan _) ?_
 go_wp2_with fail
 refine rs (GC.out.nan _) ?_
 go_wp2
 go_ret
 exact ⟨rfl,rfl⟩
theorem zkR (A C:Nat) (s t z1 i2 z2:Bool) (w:World) (hA:WordC A false s true z1) (hC:WordC C false t i2 z2):
 Rs 88 #[.int .u64 A,.int .u64 C] w (.int .u64 9221120237041090560):=by
 have GA:=hide hA
 have GC:=hide hC
 clear hA hC
 go_enter Tryz.func88,Tryz.ntmps88
 go_wp2_with fail
 refine rs (GA.out.nan _) ?_
 go_wp2_with fail
 refine rs (GC.out.nan _) ?_
 go_wp2_with fail
 refine rs (GA.out.inf _) ?_
 go_wp2
 go_ret
 exact ⟨rfl,rfl⟩
theorem zjI (A C:Nat) (s t z1 i2:Bool) (w:World) (hA:WordC A false s false z1) (hC:WordC C false t i2 true):
 Rs 88 #[.int .u64 A,.int .u64 C] w (.int .u64 9221120237041090560):=by
 have GA:=hide hA
 have GC:=hide hC
 clear hA hC
 go_enter Tryz.func88,Tryz.ntmps88
 go_wp2_with fail
 refine rs (GA.out.nan _) ?_
 go_wp2_with fail
 refine rs (GC.out.nan _) ?_
 go_wp2_with fail
 refine rs (GA.out.inf _) ?_
 go_wp2_with fail
 refine rs (GC.out.zero _) ?_
 go_wp2
 go_ret
 exact ⟨rfl,rfl⟩
theorem zpo (A C:Nat) (s t:Bool) (w:World) (hA:WordC A false s false true) (hC:WordC C false t true false):
 Rs 88 #[.int .u64 A,.int .u64 C] w (.int .u64 A):=by
 have GA:=hide hA
 have GC:=hide hC
 clear hA hC
 go_enter Tryz.func88,Tryz.ntmps88
 go_wp2_with fail
 refine rs (GA.out.nan _) ?_
 go_wp2_with fail
 refine rs (GC.out.nan _) ?_
 go_wp2_with fail
 refine rs (GA.out.inf _) ?_
 go_wp2_with fail
 refine rs (GC.out.zero _) ?_
 go_wp2_with fail
 refine rs (GC.out.inf _) ?_
 go_wp2_with fail
 refine rs (GA.out.zero _) ?_
 go_wp2
 go_ret
 exact ⟨rfl,rfl⟩
theorem zlC (A C:Nat) (s:Bool) (w:World) (hA:WordC A false s false false) (hC:WordC C false s true false):
 Rs 88 #[.int .u64 A,.int .u64 C] w (.int .u64 A):=by
 have GA:=hide hA
 have GC:=hide hC
 clear hA hC
 go_enter Tryz.func88,Tryz.ntmps88
 go_wp2_with fail
 refine rs (GA.out.nan _) ?_
 go_wp2_with fail
 refine rs (GC.out.nan _) ?_
 go_wp2_with fail
 refine rs (GA.out.inf _) ?_
 go_wp2_with fail
 refine rs (GC.out.zero _) ?_
 go_wp2_with fail
 refine rs (GC.out.inf _) ?_
 go_wp2_with fail
 refine rs (GA.out.zero _) ?_
 go_wp2_with fail
 refine rs (GA.out.minor _) ?_
 go_wp2_with fail
 refine rs (GC.out.minor _) ?_
 go_wp2
 go_ret
 exact ⟨rfl,rfl⟩
theorem zpL (A C:Nat) (z:Bool) (w:World) (hA:WordC A false true false false) (hC:WordC C false false true false):
 Rs 88 #[.int .u64 A,.int .u64 C] w (.int .u64 C):=by
 have GA:=hide hA
 have GC:=hide hC
 clear hA hC
 go_enter Tryz.func88,Tryz.ntmps88
 go_wp2_with fail
 refine rs (GA.out.nan _) ?_
 go_wp2_with fail
 refine rs (GC.out.nan _) ?_
 go_wp2_with fail
 refine rs (GA.out.inf _) ?_
 go_wp2_with fail
 refine rs (GC.out.zero _) ?_
 go_wp2_with fail
 refine rs (GC.out.inf _) ?_
 go_wp2_with fail
 refine rs (GA.out.zero _) ?_
 go_wp2_with fail
 refine rs (GA.out.minor _) ?_
 go_wp2_with fail
 refine rs (GC.out.minor _) ?_
 go_wp2
 go_ret
 exact ⟨rfl,rfl⟩
theorem zoX (A C:Nat) (z:Bool) (w:World) (hA:WordC A false false false false) (hC:WordC C false true true false):
 Rs 88 #[.int .u64 A,.int .u64 C] w (.int .u64 C):=by
 have GA:=hide hA
 have GC:=hide hC
 clear hA hC
 go_enter Tryz.func88,Tryz.ntmps88
 go_wp2_with fail
 refine rs (GA.out.nan _) ?_
 go_wp2_with fail
 refine rs (GC.out.nan _) ?_
 go_wp2_with fail
 refine rs (GA.out.inf _) ?_
 go_wp2_with fail
 refine rs (GC.out.zero _) ?_
 go_wp2_with fail
 refine rs (GC.out.inf _) ?_
 go_wp2_with fail
 refine rs (GA.out.zero _) ?_
 go_wp2_with fail
 refine rs (GA.out.minor _) ?_
 go_wp2_with fail
 refine rs (GC.out.minor _) ?_
 go_wp2
 go_ret
 exact ⟨rfl,rfl⟩
theorem zbF {s:Bool} {r:Nat} (h:r<=infW):wordS s r<18446744073709551616:=by
 unfold infW at h
 unfold wordS
 cases s
 ·rw [if_neg (by decide)];omega
 rw [if_pos rfl];omega
theorem zhR (s:Bool) (m:Nat) (i:Int):Ieee.double.write (.number s m i)<18446744073709551616:=by
 rw [zb9]
 exact zbF (zbr _ _)
theorem zij (s:Bool):Ieee.double.write (.infinity s)<18446744073709551616:=by
 rw [za4]
 exact zbF (Nat.le_refl _)
def mulW (a b:Nat):Nat:=opW (Ieee.double.mul a b)
theorem zf6 (a b:Nat):mulW a b<18446744073709551616:=by
 unfold mulW Ieee.Format.mul
 cases Ieee.double.read a<;>cases Ieee.double.read b<;>dsimp only [Ieee.Datum.product]<;>(repeat' split)<;>first |exact zhR _ _ _|exact zij _|exact (by decide:9221120237041090560<18446744073709551616)
theorem zfb (A B:Nat) (w:World) (hA:A<18446744073709551616) (hB:B<18446744073709551616):
 Rb 87 #[.int .u64 A,.int .u64 B] w (.int .u64 (mulW A B:Nat)):=by
 obtain ⟨s,r,e1,h1⟩:=zcx (u:=(A:Int)) (by omega) (by omega)
 obtain ⟨t,q,e2,h2⟩:=zcx (u:=(B:Int)) (by omega) (by omega)
 have e1:A=wordS s r:=by omega
 have e2:B=wordS t q:=by omega
 subst e1 e2
 exact zkz s t r q w h1 h2
theorem zpm (A B:Nat) (w:World) (hA:A<18446744073709551616) (hB:B<18446744073709551616):
 Rb 60 #[.int .u64 A,.int .u64 B] w (.int .u64 (opW (Ieee.double.div A B):Nat)):=by
 obtain ⟨s,r,e1,h1⟩:=zcx (u:=(A:Int)) (by omega) (by omega)
 obtain ⟨t,q,e2,h2⟩:=zcx (u:=(B:Int)) (by omega) (by omega)
 have e1:A=wordS s r:=by omega
 have e2:B=wordS t q:=by omega
 subst e1 e2
 exact zhp s t r q w h1 h2
def powL:Nat->Nat->Nat->Nat->Nat
 |0,_,r,_=>r
 |f+1,n,r,s=>if n=0 then r else powL f (n/2) (if n%2=1 then mulW r s else r) (mulW s s)
theorem zcH (f r s:Nat):powL f 0 r s=r:=by
 cases f with
 |zero=>rfl
 |succ f=>unfold powL;rw [if_pos rfl]
theorem zfl (A B:Nat) (w:World)
 (hF:∀ w,Rb 28 #[.int .u64 B] w (.agg #[.bool true,.int .i64 0,.int .u64 B]))
 (hI:∀ w,Rb 37 #[.agg #[.bool true,.int .i64 0,.int .u64 B]] w (.tuple #[.int .i64 0,.bool false])):
 Rb 90 #[.int .u64 A,.int .u64 B] w (.tuple #[.int .u64 0,.int .i64 4]):=by
 have HF:=hide hF
 have HI:=hide hI
 clear hF hI
 go_enter Tryz.func90,Tryz.ntmps90
 go_wp2_with fail
 refine rb (HF.out _) fun w1 hb1=>?_
 have Hb1:=hide hb1
 clear hb1
 go_wp2_with fail
 refine rb (HI.out _) fun w2 hb2=>?_
 have Hb2:=hide (bt Hb1.out hb2)
 clear hb2
 go_wp2
 refine bodyPost_ret (v:=.tuple #[.int .u64 0,.int .i64 4]) ?_ rfl ⟨rfl,Hb2.out⟩
 simp [results,Tryz.results90,go_sem]
theorem zrY (A B:Nat) (n:Int) (h:n< -1023) (h0: -9223372036854775808<=n) (w:World)
 (hF:∀ w,Rb 28 #[.int .u64 B] w (.agg #[.bool true,.int .i64 0,.int .u64 B]))
 (hI:∀ w,Rb 37 #[.agg #[.bool true,.int .i64 0,.int .u64 B]] w (.tuple #[.int .i64 n,.bool true])):
 Rb 90 #[.int .u64 A,.int .u64 B] w (.tuple #[.int .u64 0,.int .i64 4]):=by
 have HF:=hide hF
 have HI:=hide hI
 clear hF hI
 go_enter Tryz.func90,Tryz.ntmps90
 go_wp2_with fail
 refine rb (HF.out _) fun w1 hb1=>?_
 have Hb1:=hide hb1
 clear hb1
 go_wp2_with fail
 refine rb (HI.out _) fun w2 hb2=>?_
 have Hb2:=hide (bt Hb1.out hb2)
 clear hb2
 go_wp2
 refine bodyPost_ret (v:=.tuple #[.int .u64 0,.int .i64 4]) ?_ rfl ⟨rfl,Hb2.out⟩
 simp [results,Tryz.results90,go_sem]
theorem zp6 (A B:Nat) (n:Int) (h:1023<n) (h0:n<=9223372036854775807) (w:World)
 (hF:∀ w,Rb 28 #[.int .u64 B] w (.agg #[.bool true,.int .i64 0,.int .u64 B]))
 (hI:∀ w,Rb 37 #[.agg #[.bool true,.int .i64 0,.int .u64 B]] w (.tuple #[.int .i64 n,.bool true])):
 Rb 90 #[.int .u64 A,.int .u64 B] w (.tuple #[.int .u64 0,.int .i64 4]):=by
 have HF:=hide hF
 have HI:=hide hI
 clear hF hI
 go_enter Tryz.func90,Tryz.ntmps90
 go_wp2_with fail
 refine rb (HF.out _) fun w1 hb1=>?_
 have Hb1:=hide hb1
 clear hb1
 go_wp2_with fail
 refine rb (HI.out _) fun w2 hb2=>?_
 have Hb2:=hide (bt Hb1.out hb2)
 clear hb2
 go_wp2
 refine bodyPost_ret (v:=.tuple #[.int .u64 0,.int .i64 4]) ?_ rfl ⟨rfl,Hb2.out⟩
 simp [results,Tryz.results90,go_sem]
end Go.Proofs.YtamdnnkdnhkghaaGreatDoor
