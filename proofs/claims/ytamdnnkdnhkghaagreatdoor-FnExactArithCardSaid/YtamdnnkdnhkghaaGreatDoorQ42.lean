import Derived.Test.YtamdnnkdnhkghaaGreatDoorQ41
set_option maxHeartbeats 12800000
set_option maxRecDepth 100000
set_option linter.unusedVariables false
namespace Go.Proofs.YtamdnnkdnhkghaaGreatDoor
open Go Go.RowKit
theorem ztI (i1 i2:Int) (X Y:Nat) (w:World) (hx:ASF false i1 0 X) (hy:ASF false i2 0 Y):
 Rb 44 #[.int .i64 1,.agg #[.bool false,.int .i64 i1,.int .u64 0],.agg #[.bool false,.int .i64 i2,.int .u64 0]] w (.tuple #[.agg #[.bool false,.int .i64 (wrap64 (i1+i2)),.int .u64 0],.int .i64 0]):=by
 have HX:=hide hx
 have HY:=hide hy
 clear hx hy
 go_enter Tryz.func44,Tryz.ntmps44
 go_wp2_with fail
 refine rb (HX.out _) fun w1 hb1=>?_
 have HB:=hide hb1
 obtain ⟨a0,a1,a2,b0,b1,b2⟩:=zac hb1
 clear hb1
 go_wp2_with fail
 refine rb (HY.out _) fun w2 hb2=>?_
 have hbn:=bt HB.out hb2
 clear HB hb2 a0 a1 a2 b0 b1 b2
 have HB:=hide hbn
 obtain ⟨a0,a1,a2,b0,b1,b2⟩:=zac hbn
 clear hbn
 go_wp2_with fail
 refine rb (zaM _ _) fun w3 hb3=>?_
 have hbn:=bt HB.out hb3
 clear HB hb3 a0 a1 a2 b0 b1 b2
 have HB:=hide hbn
 obtain ⟨a0,a1,a2,b0,b1,b2⟩:=zac hbn
 clear hbn
 obtain ⟨⟨c0,c1,c2⟩,z0,z1,z2⟩:=res_3 HB.out
 go_wp2
 refine bodyPost_ret (v:=.tuple #[.agg #[.bool false,.int .i64 (wrap64 (i1+i2)),.int .u64 0],.int .i64 0]) ?_ rfl ⟨rfl,put_3 HB.out _ _ _⟩
 simp [results,Tryz.results44,go_sem,c0,c1,c2]
theorem zt0 (i1 i2:Int) (X Y:Nat) (w:World) (hx:ASF false i1 0 X) (hy:ASF false i2 0 Y):
 Rb 44 #[.int .i64 2,.agg #[.bool false,.int .i64 i1,.int .u64 0],.agg #[.bool false,.int .i64 i2,.int .u64 0]] w (.tuple #[.agg #[.bool false,.int .i64 (wrap64 (i1-i2)),.int .u64 0],.int .i64 0]):=by
 have HX:=hide hx
 have HY:=hide hy
 clear hx hy
 go_enter Tryz.func44,Tryz.ntmps44
 go_wp2_with fail
 refine rb (HX.out _) fun w1 hb1=>?_
 have HB:=hide hb1
 obtain ⟨a0,a1,a2,b0,b1,b2⟩:=zac hb1
 clear hb1
 go_wp2_with fail
 refine rb (HY.out _) fun w2 hb2=>?_
 have hbn:=bt HB.out hb2
 clear HB hb2 a0 a1 a2 b0 b1 b2
 have HB:=hide hbn
 obtain ⟨a0,a1,a2,b0,b1,b2⟩:=zac hbn
 clear hbn
 go_wp2_with fail
 refine rb (zaM _ _) fun w3 hb3=>?_
 have hbn:=bt HB.out hb3
 clear HB hb3 a0 a1 a2 b0 b1 b2
 have HB:=hide hbn
 obtain ⟨a0,a1,a2,b0,b1,b2⟩:=zac hbn
 clear hbn
 obtain ⟨⟨c0,c1,c2⟩,z0,z1,z2⟩:=res_3 HB.out
 go_wp2
 refine bodyPost_ret (v:=.tuple #[.agg #[.bool false,.int .i64 (wrap64 (i1-i2)),.int .u64 0],.int .i64 0]) ?_ rfl ⟨rfl,put_3 HB.out _ _ _⟩
 simp [results,Tryz.results44,go_sem,c0,c1,c2]
theorem ztH (i1 i2:Int) (X Y:Nat) (w:World) (hx:ASF false i1 0 X) (hy:ASF false i2 0 Y):
 Rb 44 #[.int .i64 3,.agg #[.bool false,.int .i64 i1,.int .u64 0],.agg #[.bool false,.int .i64 i2,.int .u64 0]] w (.tuple #[.agg #[.bool false,.int .i64 (wrap64 (i1*i2)),.int .u64 0],.int .i64 0]):=by
 have HX:=hide hx
 have HY:=hide hy
 clear hx hy
 go_enter Tryz.func44,Tryz.ntmps44
 go_wp2_with fail
 refine rb (HX.out _) fun w1 hb1=>?_
 have HB:=hide hb1
 obtain ⟨a0,a1,a2,b0,b1,b2⟩:=zac hb1
 clear hb1
 go_wp2_with fail
 refine rb (HY.out _) fun w2 hb2=>?_
 have hbn:=bt HB.out hb2
 clear HB hb2 a0 a1 a2 b0 b1 b2
 have HB:=hide hbn
 obtain ⟨a0,a1,a2,b0,b1,b2⟩:=zac hbn
 clear hbn
 go_wp2_with fail
 refine rb (zaM _ _) fun w3 hb3=>?_
 have hbn:=bt HB.out hb3
 clear HB hb3 a0 a1 a2 b0 b1 b2
 have HB:=hide hbn
 obtain ⟨a0,a1,a2,b0,b1,b2⟩:=zac hbn
 clear hbn
 obtain ⟨⟨c0,c1,c2⟩,z0,z1,z2⟩:=res_3 HB.out
 go_wp2
 refine bodyPost_ret (v:=.tuple #[.agg #[.bool false,.int .i64 (wrap64 (i1*i2)),.int .u64 0],.int .i64 0]) ?_ rfl ⟨rfl,put_3 HB.out _ _ _⟩
 simp [results,Tryz.results44,go_sem,c0,c1,c2]
theorem ztQ (i1 i2:Int) (X Y:Nat) (w:World) (hx:ASF false i1 0 X) (hy:ASF false i2 0 Y):
 Rb 44 #[.int .i64 13,.agg #[.bool false,.int .i64 i1,.int .u64 0],.agg #[.bool false,.int .i64 i2,.int .u64 0]] w (.tuple #[.agg #[.bool false,.int .i64 (wrap64 (-i1)),.int .u64 0],.int .i64 0]):=by
 have HX:=hide hx
 have HY:=hide hy
 clear hx hy
 go_enter Tryz.func44,Tryz.ntmps44
 go_wp2_with fail
 refine rb (HX.out _) fun w1 hb1=>?_
 have HB:=hide hb1
 obtain ⟨a0,a1,a2,b0,b1,b2⟩:=zac hb1
 clear hb1
 go_wp2_with fail
 refine rb (HY.out _) fun w2 hb2=>?_
 have hbn:=bt HB.out hb2
 clear HB hb2 a0 a1 a2 b0 b1 b2
 have HB:=hide hbn
 obtain ⟨a0,a1,a2,b0,b1,b2⟩:=zac hbn
 clear hbn
 go_wp2_with fail
 refine rb (zaM _ _) fun w3 hb3=>?_
 have hbn:=bt HB.out hb3
 clear HB hb3 a0 a1 a2 b0 b1 b2
 have HB:=hide hbn
 obtain ⟨a0,a1,a2,b0,b1,b2⟩:=zac hbn
 clear hbn
 obtain ⟨⟨c0,c1,c2⟩,z0,z1,z2⟩:=res_3 HB.out
 go_wp2
 refine bodyPost_ret (v:=.tuple #[.agg #[.bool false,.int .i64 (wrap64 (-i1)),.int .u64 0],.int .i64 0]) ?_ rfl ⟨rfl,put_3 HB.out _ _ _⟩
 simp [results,Tryz.results44,go_sem,c0,c1,c2]
theorem zuS (i1 i2:Int) (X Y:Nat) (w:World) (hx:ASF false i1 0 X) (hy:ASF false i2 0 Y) (h0: -9223372036854775808<=i1) (h1:i1<=9223372036854775807) (h2: -9223372036854775808<=i2) (h3:i2<=9223372036854775807) (hb:(i2==0)=false):
 Rb 44 #[.int .i64 5,.agg #[.bool false,.int .i64 i1,.int .u64 0],.agg #[.bool false,.int .i64 i2,.int .u64 0]] w (.tuple #[.agg #[.bool false,.int .i64 (wrap64 (i1-wrap64 (qZ i1 i2*i2))),.int .u64 0],.int .i64 0]):=by
 have HX:=hide hx
 have HY:=hide hy
 have HQ:=hide (fun w=>zkn i1 i2 w h0 h1 h2 h3 (by simpa using hb))
 clear hx hy h0 h1 h2 h3
 go_enter Tryz.func44,Tryz.ntmps44
 go_wp2_with fail
 refine rb (HX.out _) fun w1 hb1=>?_
 have HB:=hide hb1
 obtain ⟨a0,a1,a2,b0,b1,b2⟩:=zac hb1
 clear hb1
 go_wp2_with fail
 refine rb (HY.out _) fun w2 hb2=>?_
 have hbn:=bt HB.out hb2
 clear HB hb2 a0 a1 a2 b0 b1 b2
 have HB:=hide hbn
 obtain ⟨a0,a1,a2,b0,b1,b2⟩:=zac hbn
 clear hbn
 go_wp2_with fail
 refine rs (HQ.out _) ?_
 go_wp2_with fail
 refine rb (zaM _ _) fun w4 hb3=>?_
 have hbn:=bt HB.out hb3
 clear HB hb3 a0 a1 a2 b0 b1 b2
 have HB:=hide hbn
 obtain ⟨a0,a1,a2,b0,b1,b2⟩:=zac hbn
 clear hbn
 obtain ⟨⟨c0,c1,c2⟩,z0,z1,z2⟩:=res_3 HB.out
 go_wp2
 refine bodyPost_ret (v:=.tuple #[.agg #[.bool false,.int .i64 (wrap64 (i1-wrap64 (qZ i1 i2*i2))),.int .u64 0],.int .i64 0]) ?_ rfl ⟨rfl,put_3 HB.out _ _ _⟩
 simp [results,Tryz.results44,go_sem,c0,c1,c2]
theorem zt1 (i1 i2:Int) (X Y:Nat) (w:World) (hx:ASF false i1 0 X) (hy:ASF false i2 0 Y) (h0: -9223372036854775808<=i1) (h1:i1<=9223372036854775807) (h2: -9223372036854775808<=i2) (h3:i2<=9223372036854775807) (hb:(i2==0)=false):
 Rb 44 #[.int .i64 6,.agg #[.bool false,.int .i64 i1,.int .u64 0],.agg #[.bool false,.int .i64 i2,.int .u64 0]] w (.tuple #[.agg #[.bool false,.int .i64 (qZ i1 i2),.int .u64 0],.int .i64 0]):=by
 have HX:=hide hx
 have HY:=hide hy
 have HQ:=hide (fun w=>zkn i1 i2 w h0 h1 h2 h3 (by simpa using hb))
 clear hx hy h0 h1 h2 h3
 go_enter Tryz.func44,Tryz.ntmps44
 go_wp2_with fail
 refine rb (HX.out _) fun w1 hb1=>?_
 have HB:=hide hb1
 obtain ⟨a0,a1,a2,b0,b1,b2⟩:=zac hb1
 clear hb1
 go_wp2_with fail
 refine rb (HY.out _) fun w2 hb2=>?_
 have hbn:=bt HB.out hb2
 clear HB hb2 a0 a1 a2 b0 b1 b2
 have HB:=hide hbn
 obtain ⟨a0,a1,a2,b0,b1,b2⟩:=zac hbn
 clear hbn
 go_wp2_with fail
 refine rs (HQ.out _) ?_
 go_wp2_with fail
 refine rb (zaM _ _) fun w4 hb3=>?_
 have hbn:=bt HB.out hb3
 clear HB hb3 a0 a1 a2 b0 b1 b2
 have HB:=hide hbn
 obtain ⟨a0,a1,a2,b0,b1,b2⟩:=zac hbn
 clear hbn
 obtain ⟨⟨c0,c1,c2⟩,z0,z1,z2⟩:=res_3 HB.out
 go_wp2
 refine bodyPost_ret (v:=.tuple #[.agg #[.bool false,.int .i64 (qZ i1 i2),.int .u64 0],.int .i64 0]) ?_ rfl ⟨rfl,put_3 HB.out _ _ _⟩
 simp [results,Tryz.results44,go_sem,c0,c1,c2]
theorem zm7 (op i1:Int) (X Y:Nat) (w:World) (hop:op=5∨op=6) (hx:ASF false i1 0 X) (hy:ASF false 0 0 Y):
 Rb 44 #[.int .i64 op,.agg #[.bool false,.int .i64 i1,.int .u64 0],.agg #[.bool false,.int .i64 0,.int .u64 0]] w (.tuple #[.agg #[.bool false,.int .i64 0,.int .u64 0],.int .i64 3]):=by
 have HX:=hide hx
 have HY:=hide hy
 clear hx hy
 rcases hop with rfl|rfl
 all_goals (
  go_enter Tryz.func44,Tryz.ntmps44
  go_wp2_with fail
  refine rb (HX.out _) fun w1 hb1=>?_
  have HB:=hide hb1
  obtain ⟨a0,a1,a2,b0,b1,b2⟩:=zac hb1
  clear hb1
  go_wp2_with fail
  refine rb (HY.out _) fun w2 hb2=>?_
  have hbn:=bt HB.out hb2
  clear HB hb2 a0 a1 a2 b0 b1 b2
  have HB:=hide hbn
  obtain ⟨a0,a1,a2,b0,b1,b2⟩:=zac hbn
  clear hbn
  obtain ⟨⟨c0,c1,c2⟩,z0,z1,z2⟩:=res_3 HB.out
  go_wp2
  refine bodyPost_ret (v:=.tuple #[.agg #[.bool false,.int .i64 0,.int .u64 0],.int .i64 3]) ?_ rfl ⟨rfl,put_3 HB.out _ _ _⟩
  simp [results,Tryz.results44,go_sem,c0,c1,c2])
theorem zfN (op:Int) (hop:8<=op) (hop2:op≠13) (f1 f2:Bool) (i1 u1 i2 u2:Int) (f3:Bool) (i3 u3 k:Int) (w:World)
 (hO:∀ w,Rb 83 #[.int .i64 op,.agg #[.bool f1,.int .i64 i1,.int .u64 u1],.agg #[.bool f2,.int .i64 i2,.int .u64 u2]] w (.tuple #[.agg #[.bool f3,.int .i64 i3,.int .u64 u3],.int .i64 k])):
 Rb 44 #[.int .i64 op,.agg #[.bool f1,.int .i64 i1,.int .u64 u1],.agg #[.bool f2,.int .i64 i2,.int .u64 u2]] w (.tuple #[.agg #[.bool f3,.int .i64 i3,.int .u64 u3],.int .i64 k]):=by
 have HO:=hide hO
 clear hO
 have h13:(op !=13)=true:=by simpa using hop2
 go_enter Tryz.func44,Tryz.ntmps44
 go_wp2_with fail
 refine rb (HO.out _) fun w1 hb1=>?_
 have HB:=hide hb1
 clear hb1
 obtain ⟨⟨c0,c1,c2⟩,z0,z1,z2⟩:=res_3 HB.out
 go_wp2
 refine bodyPost_ret (v:=.tuple #[.agg #[.bool f3,.int .i64 i3,.int .u64 u3],.int .i64 k]) ?_ rfl ⟨rfl,put_3 HB.out _ _ _⟩
 simp [results,Tryz.results44,go_sem,c0,c1,c2]
end Go.Proofs.YtamdnnkdnhkghaaGreatDoor
namespace Go.Proofs.YtamdnnkdnhkghaaGreatDoor
theorem zf9 {a b:Nat} (h:wV a=wV b):a=b:=by
 rcases Nat.lt_trichotomy a b with g|g|g
 ·have:=wV_lt g;omega
 ·exact g
 have:=wV_lt g;omega
theorem zin {a b:Nat}:wV a<wV b↔a<b:=by
 constructor
 ·intro h
  rcases Nat.lt_or_ge a b with g|g
  ·exact g
  have:=wV_le g;omega
 exact wV_lt
theorem za9 (x:Nat):0<2^x:=Nat.pow_pos (by omega)
theorem zon {r d:Nat} (hr:r<infW) (hd:0<d):IsRnd (wV r*d) d r:=by
 refine ⟨wK r,?_,?_,?_⟩
 ·unfold wV
  rw [Nat.pow_add,Nat.mul_comm _ d]
  refine Nat.mul_lt_mul_of_pos_left ?_ hd
  exact Nat.mul_lt_mul_of_pos_right (show wM r<2^53 from wM_lt r) (za9 _)
 ·rcases Nat.eq_zero_or_pos (wK r) with h|h
  ·exact .inl h
  right
  unfold wV
  rw [Nat.pow_add,Nat.mul_comm _ d]
  exact Nat.mul_le_mul_left d (Nat.mul_le_mul_right _ (show 2^52<=wM r from wM_ge h))
 have e:wV r*d=wM r*(d*2^wK r):=by unfold wV;rw [Nat.mul_assoc,Nat.mul_comm (2^wK r) d]
 rw [e]
 have hp:0<d*2^wK r:=Nat.mul_pos hd (za9 _)
 have h1:rq (wM r*(d*2^wK r)) (d*2^wK r)=wM r:=by
  unfold rq
  rw [Nat.mul_div_cancel _ hp,Nat.mul_mod_left,if_neg (by omega),Nat.add_zero]
 rw [h1,zcX r]
 omega
theorem near0 (i:Int):Ieee.double.nearest false 0 i=0:=by
 unfold Ieee.Format.nearest
 rw [if_pos rfl]
 decide+kernel
theorem zcM {m r A B:Nat} {p:Int} (hr:r<infW) (h:m*2^A=wV r*2^B) (hAB:(A:Int)-B=p+1074):Ieee.double.nearest false m p=r:=by
 by_cases hm:m=0
 ·subst hm
  rw [near0]
  rw [Nat.zero_mul] at h
  rcases Nat.mul_eq_zero.1 h.symm with g|g
  ·exact (zf9 (g.trans wV_zero.symm)).symm
  have:=za9 B;omega
 have h1:=zbk hm hAB
 rw [h] at h1
 exact IsRnd.unique h1 (zon hr (za9 B))
theorem exists_word:∀ (k m:Nat),m<9007199254740992->k<2046->∃ r,r<infW/\wV r=m*2^k
 |0,m,hm,_=>by
  refine ⟨m,by unfold infW;omega,?_⟩
  have h1:wM m=m:=by unfold wM;split<;>omega
  have h2:wK m=0:=by unfold wK;omega
  unfold wV
  rw [h1,h2]
 |k+1,m,hm,hk=>by
  by_cases h:m<4503599627370496
  ·obtain ⟨r,hr,hv⟩:=exists_word k (2*m) (by omega) (by omega)
   refine ⟨r,hr,?_⟩
   rw [hv,Nat.pow_succ,Nat.mul_comm 2 m,Nat.mul_assoc,Nat.mul_comm 2 (2^k)]
  refine ⟨k*4503599627370496+4503599627370496+m,by unfold infW;omega,?_⟩
  have h1:wM (k*4503599627370496+4503599627370496+m)=m:=by unfold wM;split<;>omega
  have h2:wK (k*4503599627370496+4503599627370496+m)=k+1:=by unfold wK;omega
  unfold wV
  rw [h1,h2]
theorem wV_at {m k:Nat} (h1:4503599627370496<=m) (h2:m<9007199254740992):wV (k*4503599627370496+m)=m*2^k:=by
 have e1:wM (k*4503599627370496+m)=m:=by unfold wM;split<;>omega
 have e2:wK (k*4503599627370496+m)=k:=by unfold wK;omega
 unfold wV
 rw [e1,e2]
theorem zg9 {a b t c:Nat} (ha:a<infW) (hb:b<infW) (ht:t<infW) (hc:c=1074) (h:wV a*wV b=wV t*2^c):Ieee.double.mul a b=some t:=by
 have ea:wordS false a=a:=rfl
 have eb:wordS false b=b:=rfl
 unfold Ieee.Format.mul
 rw [<-ea,<-eb,zaj ha,zaj hb]
 show some (Ieee.double.nearest (false^^false) (wM a*wM b) (wE a+wE b))=_
 have hh:wM a*wM b*2^(wK a+wK b)=wV t*2^c:=by
  rw [<-h]
  unfold wV
  rw [Nat.pow_add]
  ac_rfl
 rw [show (false^^false)=false from rfl,zcM ht hh (by unfold wE;omega)]
theorem zoZ {r t:Nat} (hr:r<infW) (htr:t<=r) (h2:wV r<=2*wV t):∃ d,d<infW/\wV d+wV t=wV r:=by
 have hk:wK t<=wK r:=znD htr
 have ht:t<infW:=by omega
 have hkk:wK t<2046:=wK_lt ht
 have e1:wV r=wM r*2^(wK r-wK t)*2^wK t:=by
  unfold wV
  rw [Nat.mul_assoc,<-Nat.pow_add]
  congr 2
  omega
 have hle:wV t<=wV r:=wV_le htr
 have e2:wV t=wM t*2^wK t:=rfl
 have hm:=wM_lt t
 generalize wM r*2^(wK r-wK t)=X at *
 generalize wM t=Y at *
 generalize wK t=k at *
 rw [e1,e2] at hle h2
 have hp:=za9 k
 have h3:Y<=X:=Nat.le_of_mul_le_mul_right hle hp
 have h4:X<=2*Y:=by
  rw [<-Nat.mul_assoc] at h2
  exact Nat.le_of_mul_le_mul_right h2 hp
 obtain ⟨d,hd,hv⟩:=exists_word k (X-Y) (by omega) hkk
 refine ⟨d,hd,?_⟩
 rw [hv,e1,e2,<-Nat.add_mul]
 congr 1
 omega
theorem zs8 {r t d:Nat} (hr:r<infW) (ht:t<infW) (hd:d<infW) (h:wV d+wV t=wV r):Ieee.double.sub r t=some d:=by
 have er:wordS false r=r:=rfl
 have et:wordS false t=t:=rfl
 have h1:Ieee.double.sub r t=(Ieee.Datum.sum (Ieee.double.read r) (Ieee.double.read t).opposite).map Ieee.double.write:=rfl
 rw [h1,<-er,<-et,zaj hr,zaj ht]
 obtain ⟨base,hbase⟩:∃ base,base=min (wE r) (wE t):=⟨_,rfl⟩
 obtain ⟨X,hX⟩:∃ X,X=wM r*2^(wE r-base).toNat:=⟨_,rfl⟩
 obtain ⟨Y,hY⟩:∃ Y,Y=wM t*2^(wE t-base).toNat:=⟨_,rfl⟩
 show (some (Ieee.Datum.number (if Ieee.signed false (wM r) (wE r-min (wE r) (wE t)).toNat+Ieee.signed true (wM t) (wE t-min (wE r) (wE t)).toNat=0 then false&&true else decide (Ieee.signed false (wM r) (wE r-min (wE r) (wE t)).toNat+Ieee.signed true (wM t) (wE t-min (wE r) (wE t)).toNat<0)) (Ieee.signed false (wM r) (wE r-min (wE r) (wE t)).toNat+Ieee.signed true (wM t) (wE t-min (wE r) (wE t)).toNat).natAbs (min (wE r) (wE t)))).map _=_
 rw [zbd,zbd,<-hbase,<-hX,<-hY]
 obtain ⟨u,hu⟩:∃ u:Nat,(u:Int)=base+1074:=⟨(base+1074).toNat,by unfold wE at hbase;omega⟩
 have v1:wV r=X*2^u:=by
  rw [hX,Nat.mul_assoc,<-Nat.pow_add]
  unfold wV
  congr 2
  unfold wE at *
  omega
 have v2:wV t=Y*2^u:=by
  rw [hY,Nat.mul_assoc,<-Nat.pow_add]
  unfold wV
  congr 2
  unfold wE at *
  omega
 have hYX:Y<=X:=by
  have:Y*2^u<=X*2^u:=by rw [<-v1,<-v2];omega
  exact Nat.le_of_mul_le_mul_right this (za9 u)
 have hs:sgZ false X+sgZ true Y=((X-Y:Nat):Int):=by unfold sgZ;simp;omega
 rw [hs]
 have hd0:(if (((X-Y:Nat):Int)=0) then (false&&true) else decide (((X-Y:Nat):Int)<0))=false:=by
  split
  ·rfl
  exact decide_eq_false (by omega)
 rw [hd0]
 show some (Ieee.double.nearest false (((X-Y:Nat):Int).natAbs) base)=_
 rw [Int.natAbs_natCast]
 have hh:(X-Y)*2^u=wV d*2^0:=by
  rw [Nat.pow_zero,Nat.mul_one,Nat.sub_mul,<-v1,<-v2]
  omega
 rw [zcM hd hh (by omega)]
structure Nrm (r n x:Nat):Prop where
 lo:4503599627370496<=n
 hi:n<infW
 val:wV n=wV r*2^x
 alt:(x=0/\n=r/\4503599627370496<=r)∨(x=52/\r<4503599627370496)
theorem zpG {r:Nat} (h:r<4503599627370496):wV r=r:=by
 have h1:wM r=r:=by unfold wM;rw [if_pos h]
 have h2:wK r=0:=by unfold wK;omega
 unfold wV
 rw [h1,h2,Nat.pow_zero,Nat.mul_one]
theorem zgP {r:Nat} (h0:0<r) (hr:r<infW):∃ n x,Nrm r n x:=by
 by_cases h:r<4503599627370496
 ·obtain ⟨n,hn,hv⟩:=exists_word 52 r (by omega) (by omega)
  refine ⟨n,52,?_,hn,by rw [hv,zpG h],.inr ⟨rfl,h⟩⟩
  have e:wV 4503599627370496=4503599627370496:=by decide
  rcases Nat.lt_or_ge n 4503599627370496 with g|g
  ·have:=wV_lt g
   rw [e,hv] at this
   omega
  exact g
 exact ⟨r,0,by omega,hr,by rw [Nat.pow_zero,Nat.mul_one],.inl ⟨rfl,rfl,by omega⟩⟩
theorem zkl {r n x:Nat} (h:Nrm r n x):wV r*2^x=(n%4503599627370496+4503599627370496)*2^(n/4503599627370496-1):=by
 have hlo:=h.lo
 rw [<-h.val]
 have e:n=(n/4503599627370496-1)*4503599627370496+(n%4503599627370496+4503599627370496):=by omega
 have h1:=wV_at (m:=n%4503599627370496+4503599627370496) (k:=n/4503599627370496-1) (by omega) (by omega)
 rw [<-e] at h1
 exact h1
theorem zko {M N a c:Nat} (hM:4503599627370496<=M) (hN:N<9007199254740992) (h:M*2^c<=N*2^a):c<=a:=by
 rcases Nat.lt_or_ge a c with g|g
 ·have h1:2^(a+1)<=2^c:=Nat.pow_le_pow_right (by omega) g
  have h2:4503599627370496*2^(a+1)<=M*2^c:=Nat.mul_le_mul hM h1
  have h3:N*2^a<9007199254740992*2^a:=Nat.mul_lt_mul_of_pos_right hN (za9 a)
  have h4:4503599627370496*2^(a+1)=9007199254740992*2^a:=by rw [Nat.pow_succ];omega
  omega
 exact g
theorem zli {T M z j r:Nat} (hM:4503599627370496<=M) (hM2:M<9007199254740992) (h:T*2^z=M*2^j) (hr:r<infW) (hT:T<=wV r):∃ t,t<infW/\wV t=T:=by
 rcases Nat.lt_or_ge j z with g|g
 ·have e:2^z=2^(z-j)*2^j:=by rw [<-Nat.pow_add];congr 1;omega
  rw [e,<-Nat.mul_assoc] at h
  have h1:=Nat.eq_of_mul_eq_mul_right (za9 j) h
  have h2:T<=M:=by
   have:=Nat.mul_le_mul_left T (za9 (z-j))
   omega
  obtain ⟨t,ht,hv⟩:=exists_word 0 T (by omega) (by omega)
  exact ⟨t,ht,by rw [hv,Nat.pow_zero,Nat.mul_one]⟩
 have e:2^j=2^(j-z)*2^z:=by rw [<-Nat.pow_add];congr 1;omega
 rw [e,<-Nat.mul_assoc] at h
 have h1:=Nat.eq_of_mul_eq_mul_right (za9 z) h
 have h2:j-z<=wK r:=by
  refine zko hM (wM_lt r) ?_
  rw [<-h1]
  exact hT
 have h3:=wK_lt hr
 obtain ⟨t,ht,hv⟩:=exists_word (j-z) M hM2 (by omega)
 exact ⟨t,ht,by rw [hv,h1]⟩
theorem zmV {r q n m x z:Nat} (hr:r<infW) (hqr:q<=r) (hn:Nrm r n x) (hm:Nrm q m z):
 ∃ k t:Nat,(k:Int)=((n/4503599627370496:Nat):Int)-x-(if n%4503599627370496<m%4503599627370496 then 1 else 0)-((m/4503599627370496:Nat)-z)/\t<infW/\wV t=wV q*2^k/\t<=r/\wV r<=2*wV t:=by
 have hl1:=hn.lo
 have hl2:=hm.lo
 have h1:=zkl hn
 have h2:=zkl hm
 have hle:=wV_le hqr
 obtain ⟨a,ha⟩:∃ a,a=n/4503599627370496:=⟨_,rfl⟩
 obtain ⟨c,hc⟩:∃ c,c=m/4503599627370496:=⟨_,rfl⟩
 have ha1:1<=a:=by omega
 have hc1:1<=c:=by omega
 obtain ⟨N,hN⟩:∃ N,N=n%4503599627370496+4503599627370496:=⟨_,rfl⟩
 obtain ⟨M,hM⟩:∃ M,M=m%4503599627370496+4503599627370496:=⟨_,rfl⟩
 have hN1:4503599627370496<=N:=by omega
 have hN2:N<9007199254740992:=by omega
 have hM1:4503599627370496<=M:=by omega
 have hM2:M<9007199254740992:=by omega
 have hb:(if n%4503599627370496<m%4503599627370496 then (1:Int) else 0)=if N<M then 1 else 0:=by
  by_cases g:N<M
  ·rw [if_pos g,if_pos (by omega)]
  rw [if_neg g,if_neg (by omega)]
 rw [<-hN,<-ha] at h1
 rw [<-hM,<-hc] at h2
 rw [hb,<-ha,<-hc]
 clear hb ha hc hN hM hl1 hl2
 have e1:wV r*2^(x+z)=N*2^(a-1+z):=by rw [Nat.pow_add,<-Nat.mul_assoc,h1,Nat.mul_assoc,<-Nat.pow_add]
 have e2:wV q*2^(x+z)=M*2^(c-1+x):=by rw [Nat.pow_add,Nat.mul_comm (2^x),<-Nat.mul_assoc,h2,Nat.mul_assoc,<-Nat.pow_add]
 have h3:M*2^(c-1+x)<=N*2^(a-1+z):=by rw [<-e1,<-e2];exact Nat.mul_le_mul_right _ hle
 have h4:=zko hM1 hN2 h3
 obtain ⟨k,hk⟩:∃ k,a-1+z=c-1+x+k+(if N<M then 1 else 0):=by
  by_cases g:N<M
  ·rw [if_pos g]
   rcases Nat.lt_or_eq_of_le h4 with f|f
   ·exact ⟨a-1+z-(c-1+x)-1,by omega⟩
   rw [f] at h3
   have:=Nat.le_of_mul_le_mul_right h3 (za9 _)
   omega
  rw [if_neg g]
  exact ⟨a-1+z-(c-1+x),by omega⟩
 have e3:wV q*2^k*2^(x+z)=M*2^(c-1+x+k):=by
  rw [Nat.mul_assoc,Nat.mul_comm (2^k),<-Nat.mul_assoc,e2,Nat.mul_assoc,<-Nat.pow_add]
 have p1:=za9 (c-1+x+k)
 have p2:=za9 (x+z)
 have key:wV q*2^k<=wV r/\wV r<=2*(wV q*2^k):=by
  have e4:wV r*2^(x+z)=N*2^(if N<M then 1 else 0)*2^(c-1+x+k):=by
   rw [e1,hk,Nat.pow_add,Nat.mul_assoc,Nat.mul_comm (2^(if N<M then 1 else 0))]
  have g1:M<=N*2^(if N<M then 1 else 0)/\N*2^(if N<M then 1 else 0)<=2*M:=by
   by_cases g:N<M
   ·rw [if_pos g];omega
   rw [if_neg g];omega
  constructor
  ·refine Nat.le_of_mul_le_mul_right ?_ p2
   rw [e3,e4]
   exact Nat.mul_le_mul_right _ g1.1
  refine Nat.le_of_mul_le_mul_right ?_ p2
  rw [Nat.mul_assoc,e3,e4,<-Nat.mul_assoc]
  exact Nat.mul_le_mul_right _ g1.2
 obtain ⟨t,ht,hv⟩:=zli hM1 hM2 e3 hr key.1
 refine ⟨k,t,?_,ht,hv,?_,by rw [hv];exact key.2⟩
 ·by_cases g:N<M
  ·rw [if_pos g] at hk ⊢
   omega
  rw [if_neg g] at hk ⊢
  omega
 rcases Nat.lt_or_ge r t with g|g
 ·have:=wV_lt g
  rw [hv] at this
  have:=key.1
  omega
 exact g
theorem zr5 {q m z k t:Nat} (hm:Nrm q m z) (hv:wV t=wV q*2^k) (h:z+1<=k+m/4503599627370496):t=(k+m/4503599627370496-z)*4503599627370496+m%4503599627370496:=by
 have h2:=zkl hm
 have hlo:=hm.lo
 obtain ⟨c,hc⟩:∃ c,c=m/4503599627370496:=⟨_,rfl⟩
 obtain ⟨M,hM⟩:∃ M,M=m%4503599627370496+4503599627370496:=⟨_,rfl⟩
 have hc1:1<=c:=by omega
 have e:(k+m/4503599627370496-z)*4503599627370496+m%4503599627370496=(k+c-z-1)*4503599627370496+M:=by omega
 rw [e]
 apply zf9
 rw [wV_at (by omega) (by omega),hv]
 rw [<-hc,<-hM] at h2
 refine Nat.eq_of_mul_eq_mul_right (za9 z) ?_
 rw [Nat.mul_assoc,Nat.mul_comm (2^k),<-Nat.mul_assoc,h2,Nat.mul_assoc,<-Nat.pow_add,Nat.mul_assoc,<-Nat.pow_add]
 congr 2
 omega
theorem zuD {q m z k t:Nat} (hm:Nrm q m z) (hv:wV t=wV q*2^k) (h:k+m/4503599627370496<=z):
 z=52/\(k+m/4503599627370496+1)*4503599627370496+m%4503599627370496<infW/\wV ((k+m/4503599627370496+1)*4503599627370496+m%4503599627370496)=wV t*2^53:=by
 have h2:=zkl hm
 have hlo:=hm.lo
 have hz:z=52:=by rcases hm.alt with ⟨g,_⟩|⟨g,_⟩<;>omega
 subst hz
 refine ⟨rfl,by unfold infW;omega,?_⟩
 obtain ⟨c,hc⟩:∃ c,c=m/4503599627370496:=⟨_,rfl⟩
 obtain ⟨M,hM⟩:∃ M,M=m%4503599627370496+4503599627370496:=⟨_,rfl⟩
 have hc1:1<=c:=by omega
 have e:(k+m/4503599627370496+1)*4503599627370496+m%4503599627370496=(k+c)*4503599627370496+M:=by clear h2 hv hm;omega
 rw [e,wV_at (by omega) (by omega),hv]
 rw [<-hc,<-hM] at h2
 have e1:wV q*2^k*2^53=wV q*2^52*2^(k+1):=by
  obtain ⟨a,ha⟩:∃ a,a=52:=⟨_,rfl⟩
  rw [show (53:Nat)=a+1 by omega,<-ha,Nat.mul_assoc,Nat.mul_assoc,<-Nat.pow_add,<-Nat.pow_add,show k+(a+1)=a+(k+1) by omega]
 rw [e1,h2,Nat.mul_assoc,<-Nat.pow_add]
 congr 2
 omega
theorem zuB (c j:Nat) (hc:c=j+52):wV (j*4503599627370496+4503599627370496)=2^c:=by
 rw [wV_at (by omega) (by omega),hc,Nat.pow_add,Nat.mul_comm]
theorem znR {a c j:Nat} (ha:a=j*4503599627370496+4503599627370496) (hc:c=j+52):wV a=2^c:=by
 rw [ha]
 exact zuB c j hc
theorem zn4 {t c:Nat} (ht:t<infW) (hc:c=1074):Ieee.double.mul 4607182418800017408 t=some t:=
 zg9 (c:=c) (by decide) ht ht hc (by rw [znR (a:=4607182418800017408) (c:=c) (j:=1022) (by decide) (by omega),Nat.mul_comm])
theorem zmH {t:Nat} (ht:t<infW):Ieee.double.mul 4607182418800017408 t=some t:=zn4 ht rfl
theorem znN {t u c d:Nat} (ht:t<infW) (hu:u<infW) (h:wV u=wV t*2^53) (hc:c=1074) (hd:d=1021):Ieee.double.mul 4368491638549381120 u=some t:=
 zg9 (c:=c) (by decide) hu ht hc (by
  rw [znR (a:=4368491638549381120) (c:=d) (j:=969) (by decide) (by omega),h,Nat.mul_comm,Nat.mul_assoc,<-Nat.pow_add,show 53+d=c by omega])
theorem zmz {t u:Nat} (ht:t<infW) (hu:u<infW) (h:wV u=wV t*2^53):Ieee.double.mul 4368491638549381120 u=some t:=znN ht hu h rfl rfl
theorem zqL {r n c d:Nat} (hr:r<infW) (hn:n<infW) (h:wV n=wV r*2^52) (hc:c=1074) (hd:d=1126):Ieee.double.mul r 4841369599423283200=some n:=
 zg9 (c:=c) hr (by decide) hn hc (by
  rw [znR (a:=4841369599423283200) (c:=d) (j:=1074) (by decide) (by omega),h,Nat.mul_assoc,<-Nat.pow_add,show 52+c=d by omega])
theorem zqq {r n:Nat} (hr:r<infW) (hn:n<infW) (h:wV n=wV r*2^52):Ieee.double.mul r 4841369599423283200=some n:=zqL hr hn h rfl rfl
end Go.Proofs.YtamdnnkdnhkghaaGreatDoor
namespace Go.Proofs.YtamdnnkdnhkghaaGreatDoor
open Go Go.RowKit
theorem zoH {A:Nat} (h:A<18446744073709551616):bits .andNot .u64 (A:Int) 9223372036854775808=((A%9223372036854775808:Nat):Int):=by
 have:=u64_andNot_nat A 9223372036854775808 h (by omega)
 rw [show (18446744073709551615-9223372036854775808:Nat)=2^63-1 from rfl,Nat.and_two_pow_sub_one_eq_mod] at this
 exact this
theorem zjp {m:Nat} (h:m<9223372036854775808):bits .andNot .u64 (m:Int) 9218868437227405312=((m%4503599627370496:Nat):Int):=by
 have:=u64_andNot_nat m 9218868437227405312 (by omega) (by omega)
 have e:m&&&(18446744073709551615-9218868437227405312)=m%4503599627370496:=by
  have hle:m&&&(18446744073709551615-9218868437227405312)<=m:=Nat.and_le_left
  have h63:(m&&&(18446744073709551615-9218868437227405312))%2^63=m&&&(18446744073709551615-9218868437227405312):=Nat.mod_eq_of_lt (Nat.lt_of_le_of_lt hle h)
  rw [<-h63,Nat.and_mod_two_pow]
  have e1:m%2^63=m:=Nat.mod_eq_of_lt h
  have e2:(18446744073709551615-9218868437227405312)%2^63=2^52-1:=by decide
  rw [e1,e2,Nat.and_two_pow_sub_one_eq_mod,show (2:Nat)^52=4503599627370496 from rfl]
 rw [e] at this
 exact this
theorem zdT (s:Bool) (r:Nat) (w:World) (hr:r<9223372036854775808):Rs 52 #[.float .f64 (wordS s r)] w (.float .f64 r):=by
 have h1:=zoH (A:=wordS s r) (by unfold wordS;split<;>omega)
 have e1:wordS s r%9223372036854775808=r:=by unfold wordS;split<;>omega
 rw [e1] at h1
 have ht:=zbl (wordS s r)
 have hfb:=zaJ r
 generalize wordS s r=W at *
 go_enter Tryz.func52,Tryz.ntmps52
 go_wp2
 all_goals go_ret
 all_goals exact ⟨rfl,rfl⟩
theorem ztn (a b:Nat):compare (sgZ false a) (sgZ false b)=if a<b then .lt else if a=b then .eq else .gt:=by
 show compare (a:Int) (b:Int)=_
 rcases Nat.lt_trichotomy a b with h|h|h
 ·rw [if_pos h,zbx (by omega)]
 ·rw [if_neg (by omega),if_pos h,zcK (by omega)]
 rw [if_neg (by omega),if_neg (by omega),zbY (by omega)]
theorem zjh {a b:Nat} (ha:a<=infW) (hb:b<=infW):FloatKind.f64.format.order a b=some (if a<b then .lt else if a=b then .eq else .gt):=by
 have h:=zbL (s:=false) (t:=false) ha hb
 have e:FloatKind.f64.format.order a b=Ieee.double.order (wordS false a) (wordS false b):=rfl
 rw [e,h,ztn]
 have e1:(wV a<wV b)=(a<b):=propext zin
 have e2:(wV a=wV b)=(a=b):=propext ⟨zf9,fun h=>by rw [h]⟩
 simp only [e1,e2]
theorem zhQ {a b:Nat} (ha:a<=infW) (hb:b<=infW):(FloatKind.f64.format.order a b==some .lt)=decide (a<b):=by
 rw [zjh ha hb]
 by_cases h:a<b
 ·rw [if_pos h,decide_eq_true h];rfl
 rw [if_neg h,decide_eq_false h];split<;>rfl
theorem ziV {a b:Nat} (ha:a<=infW) (hb:b<=infW):(FloatKind.f64.format.order a b==some .gt)=decide (b<a):=by
 rw [zjh ha hb]
 by_cases h:a<b
 ·rw [if_pos h,decide_eq_false (by omega)];rfl
 rw [if_neg h]
 by_cases g:a=b
 ·rw [if_pos g,decide_eq_false (by omega)];rfl
 rw [if_neg g,decide_eq_true (by omega)];rfl
theorem zid {a b:Nat} (ha:a<=infW) (hb:b<=infW):(FloatKind.f64.format.order a b==some .eq)=decide (a=b):=by
 rw [zjh ha hb]
 by_cases h:a<b
 ·rw [if_pos h,decide_eq_false (by omega)];rfl
 rw [if_neg h]
 by_cases g:a=b
 ·rw [if_pos g,decide_eq_true g];rfl
 rw [if_neg g,decide_eq_false g];rfl
theorem zhH {A B R:Nat} (h:Ieee.double.mul A B=some R) (w:World):Sem.run Tryz.prog (binOp .mul 45 (Value.float FloatKind.f64 A) (Value.float FloatKind.f64 B)) w=Result.ok (.float .f64 R) w:=by
 rw [zeF]
 have e:FloatKind.f64.format.mul A B=some R:=h
 unfold Op.floatArith
 simp only [e]
 rfl
theorem zpM {A B R:Nat} (h:Ieee.double.sub A B=some R) (w:World):Sem.run Tryz.prog (binOp .sub 45 (Value.float FloatKind.f64 A) (Value.float FloatKind.f64 B)) w=Result.ok (.float .f64 R) w:=by
 rw [zl5]
 have e:FloatKind.f64.format.sub A B=some R:=h
 unfold Op.floatArith
 simp only [e]
 rfl
theorem zeG {r n x:Nat} (hr:r<infW) (h:Nrm r n x) (w:World):Rs 264 #[.float .f64 r] w (.tuple #[.float .f64 n,.int .i64 (-(x:Int))]):=by
 have HA:=hide (fun w=>zdT false r w (by unfold infW at hr;omega))
 have ho:=zhQ (a:=r) (b:=4503599627370496) (by omega) (by decide)
 rcases h.alt with ⟨rfl,rfl,hlo⟩|⟨rfl,hlo⟩
 ·rw [decide_eq_false (by omega)] at ho
  clear h
  go_enter Tryz.func264,Tryz.ntmps264
  go_wp2_with fail
  refine rs (HA.out _) ?_
  go_wp2
  all_goals go_ret2
  all_goals exact ⟨rfl,rfl⟩
 rw [decide_eq_true hlo] at ho
 have hm:=zhH (zqq hr h.hi h.val)
 clear h
 go_enter Tryz.func264,Tryz.ntmps264
 go_wp2_with fail
 refine rs (HA.out _) ?_
 go_wp2
 all_goals go_ret2
 all_goals exact ⟨rfl,rfl⟩
theorem zef {A:Nat} (h:A<18446744073709551616) (hn:infW<A%9223372036854775808):∃ s k,Ieee.double.read A=.nan s k:=by
 have hs:=zbo h
 rw [hs]
 exact ⟨_,_,zaI hn (Nat.mod_lt _ (by omega))⟩
theorem nan_read0:∃ s k,Ieee.double.read 9221120237041090560=.nan s k:=zef (by decide) (by decide)
theorem zdc (A:Nat):(infW<A%9223372036854775808/\nrmW A=9221120237041090560)∨(A%9223372036854775808<=infW/\nrmW A=A):=by
 unfold nrmW
 by_cases h:infW<A%9223372036854775808
 ·exact .inl ⟨h,if_pos h⟩
 exact .inr ⟨by omega,if_neg h⟩
theorem zn3 {A:Nat} (h:A<18446744073709551616):nrmW A<18446744073709551616:=by
 rcases zdc A with ⟨_,e⟩|⟨_,e⟩<;>rw [e]
 ·omega
 exact h
theorem zhs {A B:Nat} (hA:A<18446744073709551616) (hB:B<18446744073709551616):Ieee.double.mul (nrmW A) (nrmW B)=Ieee.double.mul A B:=by
 obtain ⟨s0,k0,e0⟩:=nan_read0
 rcases zdc A with ⟨h,e⟩|⟨h,e⟩
 ·obtain ⟨s,k,e1⟩:=zef hA h
  rw [e,zg5 e0,zg5 e1]
 rw [e]
 rcases zdc B with ⟨g,f⟩|⟨g,f⟩
 ·obtain ⟨s,k,e1⟩:=zef hB g
  rw [f,zd9 e0,zd9 e1]
 rw [f]
theorem zta {A B:Nat} (hA:A<18446744073709551616) (hB:B<18446744073709551616):Ieee.double.div (nrmW A) (nrmW B)=Ieee.double.div A B:=by
 obtain ⟨s0,k0,e0⟩:=nan_read0
 rcases zdc A with ⟨h,e⟩|⟨h,e⟩
 ·obtain ⟨s,k,e1⟩:=zef hA h
  rw [e,zhi e0,zhi e1]
 rw [e]
 rcases zdc B with ⟨g,f⟩|⟨g,f⟩
 ·obtain ⟨s,k,e1⟩:=zef hB g
  rw [f,zet e0,zet e1]
 rw [f]
def OkW (o:Option Nat):Prop:=∀ R,o=some R->R%9223372036854775808<=infW/\R<18446744073709551616
theorem zbJ {s:Bool} {r:Nat} (h:r<=infW):wordS s r%9223372036854775808<=infW/\wordS s r<18446744073709551616:=by
 have h2:=zbF (s:=s) h
 refine ⟨?_,h2⟩
 have e:wordS s r%9223372036854775808=r:=by unfold infW at h;unfold wordS;split<;>omega
 rw [e]
 exact h
theorem zhx (s:Bool) (m:Nat) (i:Int):OkW (some (Ieee.double.write (.number s m i))):=fun R h=>by
 cases h
 rw [zb9]
 exact zbJ (zbr _ _)
theorem zhh (s:Bool):OkW (some (Ieee.double.write (.infinity s))):=fun R h=>by
 cases h
 rw [za4]
 exact zbJ (Nat.le_refl _)
theorem okW_none:OkW none:=fun R h=>by cases h
theorem zb6 (a b:Nat):OkW (Ieee.double.mul a b):=by
 unfold Ieee.Format.mul
 cases Ieee.double.read a<;>cases Ieee.double.read b<;>dsimp only [Ieee.Datum.product]<;>(repeat' split)<;>first |exact zhx _ _ _|exact zhh _|exact okW_none
theorem zc2 (a b:Nat):OkW (Ieee.double.add a b):=by
 unfold Ieee.Format.add
 cases Ieee.double.read a<;>cases Ieee.double.read b<;>dsimp only [Ieee.Datum.sum]<;>(repeat' split)<;>first |exact zhx _ _ _|exact zhh _|exact okW_none
theorem zmk (a b:Nat):OkW (Ieee.double.sub a b):=by
 unfold Ieee.Format.sub
 cases Ieee.double.read a<;>cases (Ieee.double.read b).opposite<;>dsimp only [Ieee.Datum.sum]<;>(repeat' split)<;>first |exact zhx _ _ _|exact zhh _|exact okW_none
theorem zdp (a b:Nat):OkW (Ieee.double.div a b):=by
 unfold Ieee.Format.div
 cases Ieee.double.read a<;>cases Ieee.double.read b<;>dsimp only [Ieee.Datum.quotient]<;>(repeat' split)<;>first |exact zhx _ _ _|exact zhh _|exact okW_none
theorem zdD {o:Option Nat} (h:OkW o):opW o<18446744073709551616:=by
 cases o with
 |none=>exact (by decide:9221120237041090560<18446744073709551616)
 |some R=>exact (h R rfl).2
theorem zda {o:Option Nat} (h:OkW o):nrmW (opW o)=opW o:=by
 cases o with
 |none=>rfl
 |some R=>
  have:=(h R rfl).1
  show nrmW R=R
  unfold nrmW
  rw [if_neg (by omega)]
theorem zbI {o:Option Nat} {X:Nat} (h:FRes o X) (ho:OkW o):nrmW X=opW o/\X<18446744073709551616:=by
 rcases h with ⟨R,rfl,rfl⟩|⟨rfl,h1,h2⟩
 ·exact ⟨zda ho,(ho _ rfl).2⟩
 exact ⟨by unfold nrmW;rw [if_pos h1];rfl,h2⟩
theorem zbK (X:Nat) (w:World) (hX:X<18446744073709551616):Rb 68 #[.float .f64 X] w (.agg #[.bool true,.int .i64 0,.int .u64 (nrmW X:Nat)]):=by
 have hs:=zbo hX
 have h:=zeZ (decide (9223372036854775808<=X)) (X%9223372036854775808) w (Nat.mod_lt _ (by omega))
 rw [<-hs] at h
 exact h
theorem zgy (i:Int):floatOfInt .f64 i=intW i:=zbW _ _ _
theorem znF (i:Int):intW i<18446744073709551616:=(zbJ (zbr _ _)).2
theorem zs3 (i:Int):intW i%9223372036854775808<=infW:=(zbJ (zbr _ _)).1
theorem zlm (s:Bool) (r:Nat) (hr:r<infW) (hE:wE r<0) (w:World):
 Rb 89 #[.int .u64 (wordS s r:Nat)] w (.int .u64 (intW (sgZ s (zbg s r)):Nat)):=by
 obtain ⟨c,hc⟩:∃ c:Nat,c=1074:=⟨_,rfl⟩
 obtain ⟨d,hd,hd1,hd2,hv,ht,hfl⟩:=zd6 hc (show wE r<0 by omega)
 have hsm:=zdP (s:=s) (r:=r) (by omega)
 obtain ⟨F,hF⟩:∃ F,F=sgZ s (zbg s r):=⟨_,rfl⟩
 rw [<-hF]
 have hb: -9223372036854775808<F/\F<=9223372036854775807:=by rw [hF];unfold sgZ;cases s<;>simp<;>omega
 have A:=flFin (s:=s) hr hb.1 hb.2
 have hp:0<2^d:=Nat.pow_pos (by omega)
 by_cases h0:wM r=0
 ·have hF0:F=0:=by
   rw [hF,hfl,h0,Nat.zero_div,Nat.zero_mod]
   cases s<;>rfl
  rw [h0,hF0] at A
  rw [hF0]
  exact zos A (by omega) w
 have hM:((wM r:Int) !=0)=true:=by rw [bne_iff_ne];omega
 have hm:=wM_lt r
 by_cases hdeep:wE r<= -63
 ·refine zrF A hdeep hM ?_ w
  have h2:2^53<=2^d:=Nat.pow_le_pow_right (by omega) (by omega)
  rw [hF,hfl,Nat.div_eq_of_lt (by omega),Nat.mod_eq_of_lt (by omega)]
  cases s with
  |false=>rfl
  |true=>
   have:(true&&wM r !=0).toNat=1:=by simp [h0]
   rw [this]
   rfl
 have hTi:(wM r:Int)/2^(-(wE r)).toNat=((wM r/2^d:Nat):Int):=by rw [<-hd];norm_cast
 have hdm:=Nat.div_add_mod (wM r) (2^d)
 have hle:wM r/2^d*2^d<=wM r:=Nat.div_mul_le_self _ _
 have hTl:wM r/2^d<=wM r:=Nat.div_le_self _ _
 have hbb:(wrap64 (((wM r/2^d:Nat):Int)*2^(-(wE r)).toNat)==(wM r:Int))=decide (wM r%2^d=0):=by
  rw [<-hd]
  have hmul:((wM r/2^d:Nat):Int)*2^d=((wM r/2^d*2^d:Nat):Int):=by norm_cast
  rw [hmul]
  rw [Nat.mul_comm] at hdm
  generalize wM r/2^d*2^d=Y at *
  generalize wM r%2^d=Z at *
  have hw:wrap64 (Y:Int)=Y:=by unfold wrap64;omega
  rw [hw]
  by_cases hZ:Z=0
  ·rw [decide_eq_true hZ,beq_iff_eq];omega
  rw [decide_eq_false hZ,beq_eq_false_iff_ne];omega
 refine ztx A (by omega) (by omega) (by omega) hM hTi hbb (by omega) (by omega) ?_ w
 rw [hF,hfl]
 generalize wM r/2^d=T at *
 generalize wM r%2^d=Z at *
 unfold sgZ
 cases s with
 |false=>simp
 |true=>
  by_cases hZ:Z=0
  ·subst hZ;simp
  have:(true&&Z !=0).toNat=1:=by simp [hZ]
  rw [this,decide_eq_false hZ]
  simp
  omega
theorem zgh (s:Bool) (r:Nat) (hr:r<infW) (hE:0<=wE r) (w:World):
 Rb 89 #[.int .u64 (wordS s r:Nat)] w (.int .u64 (wordS s r:Nat)):=
 zrB (F:=0) (X:=intW 0) (flFin (s:=s) hr (by omega) (by omega)) hE w
theorem zmQ (w:World):Rs 71 #[.int .u64 9218868437227405312] w (.tuple #[.int .i64 4503599627370496,.int .i64 972]):=by
 go_enter Tryz.func71,Tryz.ntmps71
 go_wp2
 all_goals go_ret2
 all_goals exact ⟨rfl,rfl⟩
theorem zlD (s:Bool) (w:World):
 Rb 89 #[.int .u64 (wordS s infW:Nat)] w (.int .u64 (wordS s infW:Nat)):=by
 have H1:=hide (zap (s:=s) (r:=infW) rfl).inf
 have hm:=zaB (s:=s) (r:=infW) (by decide)
 have HP:=hide (fun (w:World)=>zmQ w)
 generalize wordS s infW=W at *
 unfold infW at hm
 go_enter Tryz.func89,Tryz.ntmps89
 go_wp2_with (first |(go_at_call 71;refine (HP.out _).mono ?_;rintro e w' ⟨rfl,rfl⟩)|(go_at_call 48;refine (H1.out _).mono ?_;rintro e w' ⟨rfl,rfl⟩))
 all_goals go_ret
 all_goals exact ⟨rfl,Below.refl _ _⟩
theorem zkX (s:Bool) (r:Nat) (hr:r<4845873199050653696) (w:World):
 Rs 174 #[.float .f64 (wordS s r)] w (.float .f64 (intW (sgZ s (zbg s r)))):=by
 have hi:r<infW:=by unfold infW;omega
 have HA:=hide (fun w=>zdT s r w (by omega))
 have HF:=hide (fun w=>zmg s r w hi)
 have ho:=zhQ (a:=r) (b:=4845873199050653696) (by omega) (by decide)
 rw [decide_eq_true hr] at ho
 have hfit:fitsB s r=true:=decide_eq_true ⟨hi,.inl (by unfold wE wK;omega)⟩
 have hz:=zlh (s:=s) hfit
 have hg:=zia (s:=s) hfit
 have hw:=zgy (sgZ s (zbg s r))
 generalize wordS s (zcB s r)=V at *
 generalize sgZ s (zbg s r)=F at *
 generalize wordS s r=W at *
 have hconv:=fun w=>run_convert_float_int (P:=Tryz.prog) w 45 3 .f64 .i64 V F (by kernel_rfl) (by kernel_rfl) hz
 clear hfit hz
 go_enter Tryz.func174,Tryz.ntmps174
 go_wp2_with fail
 refine rs (HA.out _) ?_
 go_wp2_with fail
 refine rs (HF.out _) ?_
 go_wp2
 all_goals go_ret
 all_goals exact ⟨by first |rfl|rw [hw],rfl⟩
theorem zdM (s:Bool) (r:Nat) (hr:r<9223372036854775808) (ho:(FloatKind.f64.format.order r 4845873199050653696==some .lt)=false) (w:World):
 Rs 174 #[.float .f64 (wordS s r)] w (.float .f64 (wordS s r)):=by
 have HA:=hide (fun w=>zdT s r w hr)
 generalize wordS s r=W at *
 go_enter Tryz.func174,Tryz.ntmps174
 go_wp2_with fail
 refine rs (HA.out _) ?_
 go_wp2
 all_goals go_ret
 all_goals exact ⟨rfl,rfl⟩
theorem zk0 {r b:Nat} (h:infW<r) (h2:r<9223372036854775808):FloatKind.f64.format.order r b=none:=by
 show Ieee.double.order r b=none
 unfold Ieee.Format.order
 rw [zhz h h2]
 cases Ieee.double.read b<;>rfl
theorem zsE {s:Bool} {r:Nat} (hr:r<infW) (hE:wE r=0):intW (sgZ s (zbg s r))=wordS s r:=by
 obtain ⟨c,hc⟩:∃ c:Nat,c=1074:=⟨_,rfl⟩
 have hf:zbg s r=wM r:=by
  rw [zdN (by omega)]
  unfold wT
  rw [hE]
  simp
 have hk:wK r=c:=by unfold wE at hE;omega
 have hM:4503599627370496<=wM r:=wM_ge (by omega)
 have hn:Ieee.double.nearest false (wM r) 0=r:=zcM (A:=c) (B:=0) hr (by unfold wV;rw [hk,Nat.pow_zero,Nat.mul_one]) (by omega)
 have hab:(sgZ s (wM r)).natAbs=wM r:=zkY _ _
 have hd:decide (sgZ s (wM r)<0)=s:=by
  unfold sgZ
  cases s with
  |false=>simp
  |true=>simp;omega
 rw [hf]
 unfold intW
 rw [hab,hn,hd]
theorem zlF (s:Bool) (r:Nat) (hr:r<=infW):∃ R:Nat,R%9223372036854775808<=infW/\R<18446744073709551616/\
 (∀ w,Rb 89 #[.int .u64 (wordS s r:Nat)] w (.int .u64 R))/\
 (∀ w,Rs 174 #[.float .f64 (wordS s r)] w (.float .f64 R)):=by
 rcases Nat.lt_or_eq_of_le hr with h|h
 ·rcases Nat.lt_or_ge r 4845873199050653696 with g|g
  ·refine ⟨intW (sgZ s (zbg s r)),zs3 _,znF _,fun w=>?_,fun w=>zkX s r g w⟩
   rcases Int.lt_or_le (wE r) 0 with f|f
   ·exact zlm s r h f w
   have e0:wE r=0:=by unfold wE wK at f ⊢;omega
   rw [zsE h e0]
   exact zgh s r h f w
  have ho:=zhQ (a:=r) (b:=4845873199050653696) (by omega) (by decide)
  rw [decide_eq_false (by omega)] at ho
  exact ⟨wordS s r,(zbJ hr).1,(zbJ hr).2,fun w=>zgh s r h (by unfold wE wK;omega) w,fun w=>zdM s r (by unfold infW at h;omega) ho w⟩
 subst h
 have ho:=zhQ (a:=infW) (b:=4845873199050653696) (by omega) (by decide)
 rw [decide_eq_false (by decide)] at ho
 exact ⟨wordS s infW,(zbJ hr).1,(zbJ hr).2,fun w=>zlD s w,fun w=>zdM s infW (by decide) ho w⟩
theorem zoO (A B n P:Nat) (w:World) (hP:P=powL 11 n 4607182418800017408 A) (hA:A<18446744073709551616) (hn:n<=1023)
 (hF:∀ w,Rb 28 #[.int .u64 B] w (.agg #[.bool true,.int .i64 0,.int .u64 B]))
 (hI:∀ w,Rb 37 #[.agg #[.bool true,.int .i64 0,.int .u64 B]] w (.tuple #[.int .i64 n,.bool true])):
 Rb 90 #[.int .u64 A,.int .u64 B] w (.tuple #[.int .u64 P,.int .i64 0]):=by
 have HF:=hide hF
 have HI:=hide hI
 have HO:=hide (fun w=>zcP 1 w (by omega) (by omega))
 clear hF hI
 go_enter Tryz.func90,Tryz.ntmps90
 go_wp2_with fail
 refine rb (HF.out _) fun w1 hb1=>?_
 have Hb1:=hide hb1
 clear hb1
 go_wp2_with fail
 refine rb (HI.out _) fun w2 hb2=>?_
 have Hb2:=hide (bt Hb1.out hb2)
 clear hb2
 go_wp2_with fail
 refine rb (HO.out _) fun w3 hb3=>?_
 have Hb3:=hide (bt Hb2.out hb3)
 clear hb3
 go_wp2_with fail
 have HP:Hid (powL 11 n 4607182418800017408 A=P):=hide hP.symm
 clear hP
 go_loopw [6,9,10] (fun nv rv sv wr=>∃ f k R S:Nat,nv=.int .i64 k/\rv=.int .u64 R/\sv=.int .u64 S/\k<=1023/\Hid (k<2^f)/\Hid (R<18446744073709551616)/\Hid (S<18446744073709551616)/\Hid (powL f k R S=P)/\Below w.heap.size w wr) (fun nv _ _ _=>(intOf nv).toNat)
 case atStart=>exact ⟨11,n,4607182418800017408,A,rfl,rfl,rfl,hn,hide (by omega),hide (by omega),hide hA,HP,Hb3.out⟩
 clear HP Hb1 Hb2 Hb3 HO HF HI
 obtain ⟨f,k,R,S,rfl,rfl,rfl,hk,Hf,HR,HS,HP,hbl⟩:=hrel
 have Hbl:=hide hbl
 clear hbl
 by_cases k0:k=0
 ·subst k0
  have hfin:R=P:=by rw [<-HP.out,zcH]
  subst hfin
  go_wp2
  refine bodyPost_ret (v:=.tuple #[.int .u64 (R:Int),.int .i64 0]) ?_ rfl ⟨rfl,Hbl.out⟩
  simp [results,Tryz.results90,go_sem]
 cases f with
 |zero=>exact absurd Hf.out (by omega)
 |succ f=>
  have hf2:k/2<2^f:=by have:=Hf.out;rw [Nat.pow_succ] at this;omega
  have Hf2:=hide hf2
  clear hf2
  have HM1:=hide (fun w=>zfb R S w HR.out HS.out)
  have HM2:=hide (fun w=>zfb S S w HS.out HS.out)
  have L1:=hide (zf6 R S)
  have L2:=hide (zf6 S S)
  have hPe:=HP.out
  unfold powL at hPe
  rw [if_neg k0] at hPe
  obtain ⟨j,hj⟩:∃ j,j=k/2:=⟨_,rfl⟩
  rw [<-hj] at hPe Hf2
  rcases Nat.mod_two_eq_zero_or_one k with h2|h2
  ·rw [if_neg (by omega)] at hPe
   have HPe:=hide hPe
   have hkk:k=2*j:=by omega
   clear hPe hj HP h2
   subst hkk
   go_wp2_with fail
   refine rb (HM2.out _) fun w4 hb4=>?_
   have Hb4:=hide (bt Hbl.out hb4)
   clear hb4
   go_wp2
   go_roundw
   case rel=>exact ⟨f,j,R,mulW S S,by go_num,rfl,rfl,by omega,Hf2,HR,L2,HPe,Hb4.out⟩
   case measure=>simp [intOf];omega
  rw [if_pos h2] at hPe
  have HPe:=hide hPe
  have hkk:k=2*j+1:=by omega
  clear hPe hj HP h2
  subst hkk
  by_cases hj0:j=0
  ·subst hj0
   go_wp2_with fail
   refine rb (HM1.out _) fun w4 hb4=>?_
   have Hb4:=hide (bt Hbl.out hb4)
   clear hb4
   go_wp2
   go_roundw
   case rel=>exact ⟨f,0,mulW R S,S,by go_num,rfl,rfl,by omega,Hf2,L1,HS,hide (by have:=HPe.out;rw [zcH] at this ⊢;exact this),Hb4.out⟩
   case measure=>simp [intOf]
  go_wp2_with fail
  refine rb (HM1.out _) fun w4 hb4=>?_
  have Hb4:=hide (bt Hbl.out hb4)
  clear hb4
  go_wp2_with fail
  refine rb (HM2.out _) fun w5 hb5=>?_
  have Hb5:=hide (bt Hb4.out hb5)
  clear hb5
  go_wp2
  go_roundw
  case rel=>exact ⟨f,j,mulW R S,mulW S S,by go_num,rfl,rfl,by omega,Hf2,L1,L2,HPe,Hb5.out⟩
  case measure=>simp [intOf];omega
theorem zn8 (A B n P:Nat) (n0:1<=n) (w:World) (hP:P=powL 11 n 4607182418800017408 A) (hA:A<18446744073709551616) (hn:n<=1023)
 (hF:∀ w,Rb 28 #[.int .u64 B] w (.agg #[.bool true,.int .i64 0,.int .u64 B]))
 (hI:∀ w,Rb 37 #[.agg #[.bool true,.int .i64 0,.int .u64 B]] w (.tuple #[.int .i64 (-(n:Int)),.bool true])):
 Rb 90 #[.int .u64 A,.int .u64 B] w (.tuple #[.int .u64 (opW (Ieee.double.div 4607182418800017408 P):Nat),.int .i64 0]):=by
 have HF:=hide hF
 have HI:=hide hI
 have HO:=hide (fun w=>zcP 1 w (by omega) (by omega))
 clear hF hI
 go_enter Tryz.func90,Tryz.ntmps90
 go_wp2_with fail
 refine rb (HF.out _) fun w1 hb1=>?_
 have Hb1:=hide hb1
 clear hb1
 go_wp2_with fail
 refine rb (HI.out _) fun w2 hb2=>?_
 have Hb2:=hide (bt Hb1.out hb2)
 clear hb2
 go_wp2_with fail
 refine rb (HO.out _) fun w3 hb3=>?_
 have Hb3:=hide (bt Hb2.out hb3)
 clear hb3
 go_wp2_with fail
 have HP:Hid (powL 11 n 4607182418800017408 A=P):=hide hP.symm
 clear hP
 go_loopw [6,9,10] (fun nv rv sv wr=>∃ f k R S:Nat,nv=.int .i64 k/\rv=.int .u64 R/\sv=.int .u64 S/\k<=1023/\Hid (k<2^f)/\Hid (R<18446744073709551616)/\Hid (S<18446744073709551616)/\Hid (powL f k R S=P)/\Below w.heap.size w wr) (fun nv _ _ _=>(intOf nv).toNat)
 case atStart=>exact ⟨11,n,4607182418800017408,A,rfl,rfl,rfl,hn,hide (by omega),hide (by omega),hide hA,HP,Hb3.out⟩
 clear HP Hb1 Hb2 Hb3 HF HI
 obtain ⟨f,k,R,S,rfl,rfl,rfl,hk,Hf,HR,HS,HP,hbl⟩:=hrel
 have Hbl:=hide hbl
 clear hbl
 by_cases k0:k=0
 ·subst k0
  have hfin:R=P:=by rw [<-HP.out,zcH]
  subst hfin
  have HD:=hide (fun w=>zpm 4607182418800017408 R w (by omega) HR.out)
  go_wp2_with fail
  refine rb (HO.out _) fun w4 hb4=>?_
  have Hb4:=hide (bt Hbl.out hb4)
  clear hb4
  go_wp2_with fail
  refine rb (HD.out _) fun w5 hb5=>?_
  have Hb5:=hide (bt Hb4.out hb5)
  clear hb5
  go_wp2
  refine bodyPost_ret (v:=.tuple #[.int .u64 (opW (Ieee.double.div 4607182418800017408 R):Nat),.int .i64 0]) ?_ rfl ⟨rfl,Hb5.out⟩
  simp [results,Tryz.results90,go_sem]
 cases f with
 |zero=>exact absurd Hf.out (by omega)
 |succ f=>
  have hf2:k/2<2^f:=by have:=Hf.out;rw [Nat.pow_succ] at this;omega
  have Hf2:=hide hf2
  clear hf2
  have HM1:=hide (fun w=>zfb R S w HR.out HS.out)
  have HM2:=hide (fun w=>zfb S S w HS.out HS.out)
  have L1:=hide (zf6 R S)
  have L2:=hide (zf6 S S)
  have hPe:=HP.out
  unfold powL at hPe
  rw [if_neg k0] at hPe
  obtain ⟨j,hj⟩:∃ j,j=k/2:=⟨_,rfl⟩
  rw [<-hj] at hPe Hf2
  rcases Nat.mod_two_eq_zero_or_one k with h2|h2
  ·rw [if_neg (by omega)] at hPe
   have HPe:=hide hPe
   have hkk:k=2*j:=by omega
   clear hPe hj HP h2
   subst hkk
   go_wp2_with fail
   refine rb (HM2.out _) fun w4 hb4=>?_
   have Hb4:=hide (bt Hbl.out hb4)
   clear hb4
   go_wp2
   go_roundw
   case rel=>exact ⟨f,j,R,mulW S S,by go_num,rfl,rfl,by omega,Hf2,HR,L2,HPe,Hb4.out⟩
   case measure=>simp [intOf];omega
  rw [if_pos h2] at hPe
  have HPe:=hide hPe
  have hkk:k=2*j+1:=by omega
  clear hPe hj HP h2
  subst hkk
  by_cases hj0:j=0
  ·subst hj0
   go_wp2_with fail
   refine rb (HM1.out _) fun w4 hb4=>?_
   have Hb4:=hide (bt Hbl.out hb4)
   clear hb4
   go_wp2
   go_roundw
   case rel=>exact ⟨f,0,mulW R S,S,by go_num,rfl,rfl,by omega,Hf2,L1,HS,hide (by have:=HPe.out;rw [zcH] at this ⊢;exact this),Hb4.out⟩
   case measure=>simp [intOf]
  go_wp2_with fail
  refine rb (HM1.out _) fun w4 hb4=>?_
  have Hb4:=hide (bt Hbl.out hb4)
  clear hb4
  go_wp2_with fail
  refine rb (HM2.out _) fun w5 hb5=>?_
  have Hb5:=hide (bt Hb4.out hb5)
  clear hb5
  go_wp2
  go_roundw
  case rel=>exact ⟨f,j,mulW R S,mulW S S,by go_num,rfl,rfl,by omega,Hf2,L1,L2,HPe,Hb5.out⟩
  case measure=>simp [intOf];omega
end Go.Proofs.YtamdnnkdnhkghaaGreatDoor
