import Derived.Test.YtamdnnkdnhkghaaGreatDoorQ37
set_option maxHeartbeats 12800000
set_option maxRecDepth 100000
set_option linter.unusedVariables false
namespace Go.Proofs.YtamdnnkdnhkghaaGreatDoor
open Go Go.RowKit
theorem zog (r c:Nat) (w:World) (hc:c=1074) (hr:r<infW):
 Calls Tryz.prog 49 #[.int .u64 r] w fun e w'=>∃ L,e=.returned (.string (strL L))/\MagT r c L/\Below w.heap.size w w':=by
 by_cases h0:r=0
 ·subst h0
  refine rs (zlj w) ?_
  exact ⟨_,rfl,.inl ⟨rfl,rfl⟩,Below.refl _ _⟩
 exact znp r c w hc (by omega) hr
def NumT (f:Bool) (i u:Int) (t:ByteArray):Prop:=
 if f=true then ∃ s r,u=((wordS s r:Nat):Int)/\r<9223372036854775808/\∃ c,c=1074/\WordT s r c t else t=⟨(Lib.itoa i).toArray⟩
theorem zn5 {s s':Bool} {r r':Nat} (h:r<9223372036854775808) (h':r'<9223372036854775808) (e:wordS s r=wordS s' r'):s=s'/\r=r':=by
 unfold wordS at e
 cases s<;>cases s'<;>simp at e ⊢<;>omega
theorem NumT.unique {f:Bool} {i u:Int} {t t':ByteArray} (h:NumT f i u t) (h':NumT f i u t'):t=t':=by
 unfold NumT at h h'
 by_cases hf:f=true
 ·rw [if_pos hf] at h h'
  obtain ⟨s,r,e,hr,c,hc,hT⟩:=h
  obtain ⟨s',r',e',hr',c',hc',hT'⟩:=h'
  obtain ⟨rfl,rfl⟩:=zn5 (s:=s) (s':=s') hr hr' (by omega)
  subst hc hc'
  exact hT.unique hT'
 rw [if_neg hf] at h h'
 rw [h,h']
theorem zcx {u:Int} (h0:0<=u) (h1:u<18446744073709551616):∃ s r,u=((wordS s r:Nat):Int)/\r<9223372036854775808:=by
 have:=zbo (W:=u.toNat) (by omega)
 exact ⟨decide (9223372036854775808<=u.toNat),u.toNat%9223372036854775808,by rw [<-this];omega,Nat.mod_lt _ (by omega)⟩
theorem zoK (f:Bool) (i u:Int) (w:World) (hi0: -9223372036854775808<=i) (hi1:i<=9223372036854775807) (h0:0<=u) (h1:u<18446744073709551616) (hF:FE w):
 Calls Tryz.prog 10 #[.agg #[.bool f,.int .i64 i,.int .u64 u]] w fun e w'=>FNum (NumT f i u) w e w':=by
 cases f with
 |false=>
  refine (zuX i u w hi0 hi1 hF).mono ?_
  rintro e w' ⟨t,rfl,ht,hb⟩
  exact ⟨t,rfl,by unfold NumT;rw [if_neg (by decide)];exact ht,hb⟩
 |true=>
  obtain ⟨s,r,rfl,hr⟩:=zcx h0 h1
  obtain ⟨c,hc⟩:∃ c:Nat,c=1074:=⟨_,rfl⟩
  refine (zqi i s r c w hc hr hF).mono ?_
  rintro e w' ⟨t,rfl,ht,hb⟩
  exact ⟨t,rfl,by unfold NumT;rw [if_pos rfl];exact ⟨s,r,rfl,hr,c,hc,ht⟩,hb⟩
theorem zoF (f:Bool) (i u:Int) (w:World) (hi0: -9223372036854775808<=i) (hi1:i<=9223372036854775807) (h0:0<=u) (h1:u<18446744073709551616):
 Calls Tryz.prog 20 #[.agg #[.bool f,.int .i64 i,.int .u64 u]] w fun e w'=>FNum (NumT f i u) w e w':=by
 cases f with
 |false=>
  refine (ztM i u w hi0 hi1).mono ?_
  rintro e w' ⟨t,rfl,ht,hb⟩
  exact ⟨t,rfl,by unfold NumT;rw [if_neg (by decide)];exact ht,hb⟩
 |true=>
  obtain ⟨s,r,rfl,hr⟩:=zcx h0 h1
  obtain ⟨c,hc⟩:∃ c:Nat,c=1074:=⟨_,rfl⟩
  refine (zql i s r c w hr (fun hlt w1=>zog r c w1 hc hlt)).mono ?_
  rintro e w' ⟨t,rfl,ht,hb⟩
  exact ⟨t,rfl,by unfold NumT;rw [if_pos rfl];exact ⟨s,r,rfl,hr,c,hc,ht⟩,hb⟩
theorem zoz (X:Int):0<=IntKind.u64.wrap X/\IntKind.u64.wrap X<18446744073709551616:=by
 rw [IntKind.wrap_u64]
 omega
def qZ (a b:Int):Int:=if b= -1 then wrap64 (-a) else if a.tmod b≠0/\¬ (a<0↔b<0) then wrap64 (wrap64 (a.tdiv b)-1) else wrap64 (a.tdiv b)
theorem zkn (a b:Int) (w:World) (h0: -9223372036854775808<=a) (h1:a<=9223372036854775807) (h2: -9223372036854775808<=b) (h3:b<=9223372036854775807) (hb:b≠0):
 Rs 85 #[.int .i64 a,.int .i64 b] w (.int .i64 (qZ a b)):=by
 have hb0:(b==0)=false:=by rw [beq_eq_false_iff_ne];exact hb
 by_cases hm:b= -1
 ·subst hm
  have e:qZ a (-1)=wrap64 (-a):=by unfold qZ;rw [if_pos rfl]
  rw [e]
  go_enter Tryz.func85,Tryz.ntmps85
  go_wp2
  go_ret
  exact ⟨rfl,rfl⟩
 have hm1:(b== -1)=false:=by rw [beq_eq_false_iff_ne];exact hm
 by_cases hc:a.tmod b≠0/\¬ (a<0↔b<0)
 ·have e:qZ a b=wrap64 (wrap64 (a.tdiv b)-1):=by unfold qZ;rw [if_neg hm,if_pos hc]
  rw [e]
  have t0:(a.tmod b !=0)=true:=by rw [bne_iff_ne];exact hc.1
  have s0:(decide (a<0)==decide (b<0))=false:=by rw [beq_eq_false_iff_ne];intro h;exact hc.2 (by simpa using h)
  clear hc e
  go_enter Tryz.func85,Tryz.ntmps85
  go_wp2
  go_ret
  exact ⟨rfl,rfl⟩
 have e:qZ a b=wrap64 (a.tdiv b):=by unfold qZ;rw [if_neg hm,if_neg hc]
 rw [e]
 by_cases ht:a.tmod b=0
 ·have t0:(a.tmod b !=0)=false:=by rw [bne_eq_false_iff_eq];exact ht
  clear hc e
  go_enter Tryz.func85,Tryz.ntmps85
  go_wp2
  go_ret
  exact ⟨rfl,rfl⟩
 have t0:(a.tmod b !=0)=true:=by rw [bne_iff_ne];exact ht
 have s0:(decide (a<0)==decide (b<0))=true:=by
  rw [beq_iff_eq]
  have:(a<0↔b<0):=Classical.byContradiction (fun h=>hc ⟨ht,h⟩)
  simpa using this
 clear hc e ht
 go_enter Tryz.func85,Tryz.ntmps85
 go_wp2
 go_ret
 exact ⟨rfl,rfl⟩
def shZ (a n:Int):Int:=if n<0 then wrap64 (IntKind.u64.wrap a/2^min (IntKind.u64.wrap (wrap64 (-n))).toNat 64) else wrap64 (IntKind.u64.wrap (IntKind.u64.wrap a*2^min n.toNat 64))
theorem zgG (a n:Int) (w:World) (h0: -9223372036854775808<=a) (h1:a<=9223372036854775807) (h2: -9223372036854775808<=n) (h3:n<=9223372036854775807):
 Rs 175 #[.int .i64 a,.int .i64 n] w (.int .i64 (shZ a n)):=by
 by_cases hn:n<0
 ·have e:shZ a n=wrap64 (IntKind.u64.wrap a/2^min (IntKind.u64.wrap (wrap64 (-n))).toNat 64):=by unfold shZ;rw [if_pos hn]
  rw [e]
  clear e
  go_enter Tryz.func175,Tryz.ntmps175
  go_wp2
  go_ret
  exact ⟨rfl,rfl⟩
 have e:shZ a n=wrap64 (IntKind.u64.wrap (IntKind.u64.wrap a*2^min n.toNat 64)):=by unfold shZ;rw [if_neg hn]
 rw [e]
 clear e
 go_enter Tryz.func175,Tryz.ntmps175
 go_wp2
 go_ret
 exact ⟨rfl,rfl⟩
theorem zom {a n:Int} (h2: -9223372036854775808<=n) (h3:n<=9223372036854775807) (h:n<= -64∨64<=n):shZ a n=0:=by
 unfold shZ
 have hu:=zoz a
 rcases h with h|h
 ·rw [if_pos (by omega)]
  have hc:min (IntKind.u64.wrap (wrap64 (-n))).toNat 64=64:=by
   have:64<=(IntKind.u64.wrap (wrap64 (-n))).toNat:=by
    rw [IntKind.wrap_u64]
    simp only [wrap64]
    omega
   omega
  rw [hc]
  have:IntKind.u64.wrap a/2^64=0:=Int.ediv_eq_zero_of_lt hu.1 hu.2
  rw [this]
  simp only [wrap64]
  omega
 rw [if_neg (by omega)]
 have hc:min n.toNat 64=64:=by omega
 rw [hc]
 have:IntKind.u64.wrap (IntKind.u64.wrap a*2^64)=0:=by
  rw [IntKind.wrap_u64]
  have e:(2:Int)^64=18446744073709551616:=rfl
  rw [e]
  exact Int.mul_emod_left _ _
 rw [this]
 simp only [wrap64]
 omega
theorem zgJ (a n:Int) (w:World) (h0: -9223372036854775808<=a) (h1:a<=9223372036854775807) (h2: -9223372036854775808<=n) (h3:n<=9223372036854775807):
 Rs 128 #[.int .i64 a,.int .i64 n] w (.int .i64 (shZ a n)):=by
 by_cases ho:n<= -64∨64<=n
 ·rw [zom h2 h3 ho]
  rcases ho with ho|ho
  ·go_enter Tryz.func128,Tryz.ntmps128
   go_wp2
   go_ret
   exact ⟨rfl,rfl⟩
  go_enter Tryz.func128,Tryz.ntmps128
  go_wp2
  go_ret
  exact ⟨rfl,rfl⟩
 by_cases hn:n<0
 ·have e:shZ a n=wrap64 (IntKind.u64.wrap a/2^(-n).toNat):=by
   unfold shZ
   rw [if_pos hn]
   have:(IntKind.u64.wrap (wrap64 (-n))).toNat=(-n).toNat:=by
    rw [IntKind.wrap_u64]
    simp only [wrap64]
    omega
   rw [this]
   have e2:min (-n).toNat 64=(-n).toNat:=by omega
   rw [e2]
  rw [e]
  clear e
  go_enter Tryz.func128,Tryz.ntmps128
  go_wp2
  go_ret
  exact ⟨rfl,rfl⟩
 have e:shZ a n=wrap64 (IntKind.u64.wrap (IntKind.u64.wrap a*2^n.toNat)):=by
  unfold shZ
  have e2:min n.toNat 64=n.toNat:=by omega
  rw [if_neg hn,e2]
 rw [e]
 clear e
 go_enter Tryz.func128,Tryz.ntmps128
 go_wp2
 go_ret
 exact ⟨rfl,rfl⟩
theorem zpT (x:Int): -9223372036854775808<=wrap64 x/\wrap64 x<=9223372036854775807:=by
 simp only [wrap64]
 omega
theorem zaM (i:Int) (w:World):Rb 30 #[.int .i64 i] w (.agg #[.bool false,.int .i64 i,.int .u64 0]):=by
 go_enter Tryz.func30,Tryz.ntmps30
 go_wp2
 refine bodyPost_ret (v:=.agg #[.bool false,.int .i64 i,.int .u64 0]) ?_ rfl ⟨rfl,(Below.refl _ _).alloc (Nat.le_refl _) _⟩
 simp [results,Tryz.results30,go_sem]
def AIs (v:Value) (z:Option Int):Prop:=∀ w,Rb 37 #[v] w (asIntV z)
theorem mid_3 {w w2:World} {a c:Obj} {f:Bool} {i u:Int} (h:Below (((w.alloc a).alloc (numC f i u)).alloc c).heap.size (((w.alloc a).alloc (numC f i u)).alloc c) w2):
 w2.cell? ⟨w.heap.size+1,0,none⟩=some (.bool f)/\w2.cell? ⟨w.heap.size+1,1,none⟩=some (.int .i64 i)/\w2.cell? ⟨w.heap.size+1,2,none⟩=some (.int .u64 u):=by
 have k:=fun j=>h.cell (p:=⟨w.heap.size+1,j,none⟩) (by simp)
 exact ⟨(k 0).trans (zcI (by simp) (by simp)),(k 1).trans (zcI (by simp) (by simp)),(k 2).trans (zcI (by simp) (by simp))⟩
theorem zpQ (f1 f2:Bool) (i1 u1 i2 u2 x y:Int) (w:World) (hx:AIs (.agg #[.bool f1,.int .i64 i1,.int .u64 u1]) (some x)) (hy:AIs (.agg #[.bool f2,.int .i64 i2,.int .u64 u2]) (some y)):
 Rb 83 #[.int .i64 8,.agg #[.bool f1,.int .i64 i1,.int .u64 u1],.agg #[.bool f2,.int .i64 i2,.int .u64 u2]] w (.tuple #[.agg #[.bool false,.int .i64 (bits BinOp.and IntKind.i64 x y),.int .u64 0],.int .i64 0]):=by
 have HX:=hide (fun w=>hx w)
 have HY:=hide (fun w=>hy w)
 clear hx hy
 simp only [asIntV] at HX HY
 go_enter Tryz.func83,Tryz.ntmps83
 go_wp2_with fail
 refine rb (HX.out _) fun w1 hb1=>?_
 have HB1:=hide hb1
 obtain ⟨m0,m1,m2⟩:=mid_3 hb1
 clear hb1
 go_wp2_with fail
 refine rb (HY.out _) fun w2 hb2=>?_
 have HB2:=hide (bt HB1.out hb2)
 clear hb2 m0 m1 m2
 go_wp2_with fail
 refine rb (zaM _ _) fun w3 hb3=>?_
 have hb3':=bt HB2.out hb3
 have HB3:=hide hb3'
 obtain ⟨⟨c0,c1,c2⟩,z0,z1,z2⟩:=res_3 hb3'
 clear hb3 hb3'
 go_wp2
 refine bodyPost_ret (v:=.tuple #[.agg #[.bool false,.int .i64 (bits BinOp.and IntKind.i64 x y),.int .u64 0],.int .i64 0]) ?_ rfl ⟨rfl,put_3 HB3.out _ _ _⟩
 simp [results,Tryz.results83,go_sem,c0,c1,c2]
theorem ztm (f1 f2:Bool) (i1 u1 i2 u2 x y:Int) (w:World) (hx:AIs (.agg #[.bool f1,.int .i64 i1,.int .u64 u1]) (some x)) (hy:AIs (.agg #[.bool f2,.int .i64 i2,.int .u64 u2]) (some y)):
 Rb 83 #[.int .i64 9,.agg #[.bool f1,.int .i64 i1,.int .u64 u1],.agg #[.bool f2,.int .i64 i2,.int .u64 u2]] w (.tuple #[.agg #[.bool false,.int .i64 (bits BinOp.or IntKind.i64 x y),.int .u64 0],.int .i64 0]):=by
 have HX:=hide (fun w=>hx w)
 have HY:=hide (fun w=>hy w)
 clear hx hy
 simp only [asIntV] at HX HY
 go_enter Tryz.func83,Tryz.ntmps83
 go_wp2_with fail
 refine rb (HX.out _) fun w1 hb1=>?_
 have HB1:=hide hb1
 obtain ⟨m0,m1,m2⟩:=mid_3 hb1
 clear hb1
 go_wp2_with fail
 refine rb (HY.out _) fun w2 hb2=>?_
 have HB2:=hide (bt HB1.out hb2)
 clear hb2 m0 m1 m2
 go_wp2_with fail
 refine rb (zaM _ _) fun w3 hb3=>?_
 have hb3':=bt HB2.out hb3
 have HB3:=hide hb3'
 obtain ⟨⟨c0,c1,c2⟩,z0,z1,z2⟩:=res_3 hb3'
 clear hb3 hb3'
 go_wp2
 refine bodyPost_ret (v:=.tuple #[.agg #[.bool false,.int .i64 (bits BinOp.or IntKind.i64 x y),.int .u64 0],.int .i64 0]) ?_ rfl ⟨rfl,put_3 HB3.out _ _ _⟩
 simp [results,Tryz.results83,go_sem,c0,c1,c2]
theorem zoS (f1 f2:Bool) (i1 u1 i2 u2 x y:Int) (w:World) (hx:AIs (.agg #[.bool f1,.int .i64 i1,.int .u64 u1]) (some x)) (hy:AIs (.agg #[.bool f2,.int .i64 i2,.int .u64 u2]) (some y)):
 Rb 83 #[.int .i64 10,.agg #[.bool f1,.int .i64 i1,.int .u64 u1],.agg #[.bool f2,.int .i64 i2,.int .u64 u2]] w (.tuple #[.agg #[.bool false,.int .i64 (bits BinOp.xor IntKind.i64 x y),.int .u64 0],.int .i64 0]):=by
 have HX:=hide (fun w=>hx w)
 have HY:=hide (fun w=>hy w)
 clear hx hy
 simp only [asIntV] at HX HY
 go_enter Tryz.func83,Tryz.ntmps83
 go_wp2_with fail
 refine rb (HX.out _) fun w1 hb1=>?_
 have HB1:=hide hb1
 obtain ⟨m0,m1,m2⟩:=mid_3 hb1
 clear hb1
 go_wp2_with fail
 refine rb (HY.out _) fun w2 hb2=>?_
 have HB2:=hide (bt HB1.out hb2)
 clear hb2 m0 m1 m2
 go_wp2_with fail
 refine rb (zaM _ _) fun w3 hb3=>?_
 have hb3':=bt HB2.out hb3
 have HB3:=hide hb3'
 obtain ⟨⟨c0,c1,c2⟩,z0,z1,z2⟩:=res_3 hb3'
 clear hb3 hb3'
 go_wp2
 refine bodyPost_ret (v:=.tuple #[.agg #[.bool false,.int .i64 (bits BinOp.xor IntKind.i64 x y),.int .u64 0],.int .i64 0]) ?_ rfl ⟨rfl,put_3 HB3.out _ _ _⟩
 simp [results,Tryz.results83,go_sem,c0,c1,c2]
theorem zo0 (f1 f2:Bool) (i1 u1 i2 u2 x y:Int) (w:World) (hx:AIs (.agg #[.bool f1,.int .i64 i1,.int .u64 u1]) (some x)) (hy:AIs (.agg #[.bool f2,.int .i64 i2,.int .u64 u2]) (some y)) (r0: -9223372036854775808<=x) (r1:x<=9223372036854775807) (r2: -9223372036854775808<=y) (r3:y<=9223372036854775807):
 Rb 83 #[.int .i64 11,.agg #[.bool f1,.int .i64 i1,.int .u64 u1],.agg #[.bool f2,.int .i64 i2,.int .u64 u2]] w (.tuple #[.agg #[.bool false,.int .i64 (shZ x y),.int .u64 0],.int .i64 0]):=by
 have HX:=hide (fun w=>hx w)
 have HY:=hide (fun w=>hy w)
 clear hx hy
 simp only [asIntV] at HX HY
 go_enter Tryz.func83,Tryz.ntmps83
 go_wp2_with fail
 refine rb (HX.out _) fun w1 hb1=>?_
 have HB1:=hide hb1
 obtain ⟨m0,m1,m2⟩:=mid_3 hb1
 clear hb1
 go_wp2_with fail
 refine rb (HY.out _) fun w2 hb2=>?_
 have HB2:=hide (bt HB1.out hb2)
 clear hb2 m0 m1 m2
 go_wp2_with fail
 refine rs (zgJ x y _ r0 r1 r2 r3) ?_
 go_wp2_with fail
 refine rb (zaM _ _) fun w3 hb3=>?_
 have hb3':=bt HB2.out hb3
 have HB3:=hide hb3'
 obtain ⟨⟨c0,c1,c2⟩,z0,z1,z2⟩:=res_3 hb3'
 clear hb3 hb3'
 go_wp2
 refine bodyPost_ret (v:=.tuple #[.agg #[.bool false,.int .i64 (shZ x y),.int .u64 0],.int .i64 0]) ?_ rfl ⟨rfl,put_3 HB3.out _ _ _⟩
 simp [results,Tryz.results83,go_sem,c0,c1,c2]
theorem zpW (f1 f2:Bool) (i1 u1 i2 u2 x y:Int) (w:World) (hx:AIs (.agg #[.bool f1,.int .i64 i1,.int .u64 u1]) (some x)) (hy:AIs (.agg #[.bool f2,.int .i64 i2,.int .u64 u2]) (some y)) (r0: -9223372036854775808<=x) (r1:x<=9223372036854775807) (r2: -9223372036854775808<=y) (r3:y<=9223372036854775807) (hne:y≠ -9223372036854775808):
 Rb 83 #[.int .i64 12,.agg #[.bool f1,.int .i64 i1,.int .u64 u1],.agg #[.bool f2,.int .i64 i2,.int .u64 u2]] w (.tuple #[.agg #[.bool false,.int .i64 (shZ x (-y)),.int .u64 0],.int .i64 0]):=by
 have HX:=hide (fun w=>hx w)
 have HY:=hide (fun w=>hy w)
 have hmin:(y== -9223372036854775808)=false:=by rw [beq_eq_false_iff_ne];exact hne
 clear hx hy
 simp only [asIntV] at HX HY
 go_enter Tryz.func83,Tryz.ntmps83
 go_wp2_with fail
 refine rb (HX.out _) fun w1 hb1=>?_
 have HB1:=hide hb1
 obtain ⟨m0,m1,m2⟩:=mid_3 hb1
 clear hb1
 go_wp2_with fail
 refine rb (HY.out _) fun w2 hb2=>?_
 have HB2:=hide (bt HB1.out hb2)
 clear hb2 m0 m1 m2
 go_wp2_with fail
 refine rs (zgJ x (-y) _ r0 r1 (by omega) (by omega)) ?_
 go_wp2_with fail
 refine rb (zaM _ _) fun w3 hb3=>?_
 have hb3':=bt HB2.out hb3
 have HB3:=hide hb3'
 obtain ⟨⟨c0,c1,c2⟩,z0,z1,z2⟩:=res_3 hb3'
 clear hb3 hb3'
 go_wp2
 refine bodyPost_ret (v:=.tuple #[.agg #[.bool false,.int .i64 (shZ x (-y)),.int .u64 0],.int .i64 0]) ?_ rfl ⟨rfl,put_3 HB3.out _ _ _⟩
 simp [results,Tryz.results83,go_sem,c0,c1,c2]
theorem zpE (f1 f2:Bool) (i1 u1 i2 u2 x:Int) (w:World) (hx:AIs (.agg #[.bool f1,.int .i64 i1,.int .u64 u1]) (some x)) (hy:AIs (.agg #[.bool f2,.int .i64 i2,.int .u64 u2]) (some (-9223372036854775808))):
 Rb 83 #[.int .i64 12,.agg #[.bool f1,.int .i64 i1,.int .u64 u1],.agg #[.bool f2,.int .i64 i2,.int .u64 u2]] w (.tuple #[.agg #[.bool false,.int .i64 (0),.int .u64 0],.int .i64 0]):=by
 have HX:=hide (fun w=>hx w)
 have HY:=hide (fun w=>hy w)
 clear hx hy
 simp only [asIntV] at HX HY
 go_enter Tryz.func83,Tryz.ntmps83
 go_wp2_with fail
 refine rb (HX.out _) fun w1 hb1=>?_
 have HB1:=hide hb1
 obtain ⟨m0,m1,m2⟩:=mid_3 hb1
 clear hb1
 go_wp2_with fail
 refine rb (HY.out _) fun w2 hb2=>?_
 have HB2:=hide (bt HB1.out hb2)
 clear hb2 m0 m1 m2
 go_wp2_with fail
 refine rb (zaM _ _) fun w3 hb3=>?_
 have hb3':=bt HB2.out hb3
 have HB3:=hide hb3'
 obtain ⟨⟨c0,c1,c2⟩,z0,z1,z2⟩:=res_3 hb3'
 clear hb3 hb3'
 go_wp2
 refine bodyPost_ret (v:=.tuple #[.agg #[.bool false,.int .i64 (0),.int .u64 0],.int .i64 0]) ?_ rfl ⟨rfl,put_3 HB3.out _ _ _⟩
 simp [results,Tryz.results83,go_sem,c0,c1,c2]
theorem zo3 (f1 f2:Bool) (i1 u1 i2 u2 x y:Int) (w:World) (hx:AIs (.agg #[.bool f1,.int .i64 i1,.int .u64 u1]) (some x)) (hy:AIs (.agg #[.bool f2,.int .i64 i2,.int .u64 u2]) (some y)) (r0: -9223372036854775808<=x) (r1:x<=9223372036854775807):
 Rb 83 #[.int .i64 14,.agg #[.bool f1,.int .i64 i1,.int .u64 u1],.agg #[.bool f2,.int .i64 i2,.int .u64 u2]] w (.tuple #[.agg #[.bool false,.int .i64 (-1-x),.int .u64 0],.int .i64 0]):=by
 have HX:=hide (fun w=>hx w)
 have HY:=hide (fun w=>hy w)
 clear hx hy
 simp only [asIntV] at HX HY
 go_enter Tryz.func83,Tryz.ntmps83
 go_wp2_with fail
 refine rb (HX.out _) fun w1 hb1=>?_
 have HB1:=hide hb1
 obtain ⟨m0,m1,m2⟩:=mid_3 hb1
 clear hb1
 go_wp2_with fail
 refine rb (HY.out _) fun w2 hb2=>?_
 have HB2:=hide (bt HB1.out hb2)
 clear hb2 m0 m1 m2
 go_wp2_with fail
 refine rb (zaM _ _) fun w3 hb3=>?_
 have hb3':=bt HB2.out hb3
 have HB3:=hide hb3'
 obtain ⟨⟨c0,c1,c2⟩,z0,z1,z2⟩:=res_3 hb3'
 clear hb3 hb3'
 go_wp2
 refine bodyPost_ret (v:=.tuple #[.agg #[.bool false,.int .i64 (-1-x),.int .u64 0],.int .i64 0]) ?_ rfl ⟨rfl,put_3 HB3.out _ _ _⟩
 simp [results,Tryz.results83,go_sem,c0,c1,c2]
theorem zoe (f1 f2:Bool) (i1 u1 i2 u2 x op:Int) (z:Option Int) (w:World) (hx:AIs (.agg #[.bool f1,.int .i64 i1,.int .u64 u1]) (none)) (hy:AIs (.agg #[.bool f2,.int .i64 i2,.int .u64 u2]) (z)):
 Rb 83 #[.int .i64 op,.agg #[.bool f1,.int .i64 i1,.int .u64 u1],.agg #[.bool f2,.int .i64 i2,.int .u64 u2]] w (.tuple #[.agg #[.bool false,.int .i64 0,.int .u64 0],.int .i64 5]):=by
 obtain ⟨yy,bb,hz⟩:∃ yy bb,asIntV z=.tuple #[.int .i64 yy,.bool bb]:=by cases z<;>exact ⟨_,_,rfl⟩
 have HX:=hide (fun w=>hx w)
 have HY:=hide (fun w=>hy w)
 clear hx hy
 rw [hz] at HY
 simp only [asIntV] at HX
 clear hz
 go_enter Tryz.func83,Tryz.ntmps83
 go_wp2_with fail
 refine rb (HX.out _) fun w1 hb1=>?_
 have HB1:=hide hb1
 obtain ⟨m0,m1,m2⟩:=mid_3 hb1
 clear hb1
 go_wp2_with fail
 refine rb (HY.out _) fun w2 hb2=>?_
 have HB2:=hide (bt HB1.out hb2)
 clear hb2 m0 m1 m2
 obtain ⟨⟨c0,c1,c2⟩,z0,z1,z2⟩:=res_3 HB2.out
 go_wp2
 refine bodyPost_ret (v:=.tuple #[.agg #[.bool false,.int .i64 0,.int .u64 0],.int .i64 5]) ?_ rfl ⟨rfl,?_⟩
 ·simp [results,Tryz.results83,go_sem,c0,c1,c2]
 exact put_3 HB2.out _ _ _
theorem zsH (f1 f2:Bool) (i1 u1 i2 u2 x op:Int) (w:World) (hx:AIs (.agg #[.bool f1,.int .i64 i1,.int .u64 u1]) (some x)) (hy:AIs (.agg #[.bool f2,.int .i64 i2,.int .u64 u2]) (none)):
 Rb 83 #[.int .i64 op,.agg #[.bool f1,.int .i64 i1,.int .u64 u1],.agg #[.bool f2,.int .i64 i2,.int .u64 u2]] w (.tuple #[.agg #[.bool false,.int .i64 0,.int .u64 0],.int .i64 5]):=by
 have HX:=hide (fun w=>hx w)
 have HY:=hide (fun w=>hy w)
 clear hx hy
 simp only [asIntV] at HX HY
 go_enter Tryz.func83,Tryz.ntmps83
 go_wp2_with fail
 refine rb (HX.out _) fun w1 hb1=>?_
 have HB1:=hide hb1
 obtain ⟨m0,m1,m2⟩:=mid_3 hb1
 clear hb1
 go_wp2_with fail
 refine rb (HY.out _) fun w2 hb2=>?_
 have HB2:=hide (bt HB1.out hb2)
 clear hb2 m0 m1 m2
 obtain ⟨⟨c0,c1,c2⟩,z0,z1,z2⟩:=res_3 HB2.out
 go_wp2
 refine bodyPost_ret (v:=.tuple #[.agg #[.bool false,.int .i64 0,.int .u64 0],.int .i64 5]) ?_ rfl ⟨rfl,?_⟩
 ·simp [results,Tryz.results83,go_sem,c0,c1,c2]
 exact put_3 HB2.out _ _ _
def WOf (v:Value) (z:Option Int):Prop:=∀ w ev,5<w.heap.size->w.cell? ⟨5,0,none⟩=some ev->Rb 41 #[v] w (zc9 ev z)
theorem zaD (i:Int) (w:World):Rb 63 #[.int .i64 i] w (.agg #[.bool false,.int .i64 i,.int .u64 0]):=by
 go_enter Tryz.func63,Tryz.ntmps63
 go_wp2
 refine bodyPost_ret (v:=.agg #[.bool false,.int .i64 i,.int .u64 0]) ?_ rfl ⟨rfl,(Below.refl _ _).alloc (Nat.le_refl _) _⟩
 simp [results,Tryz.results63,go_sem]
theorem zgg {w w2:World} {a b c:Obj} {ev:Value} (h5:5<w.heap.size) (he:w.cell? ⟨5,0,none⟩=some ev) (h:Below (((w.alloc a).alloc b).alloc c).heap.size (((w.alloc a).alloc b).alloc c) w2):5<w2.heap.size/\w2.cell? ⟨5,0,none⟩=some ev:=by
 have hb:=za7 h
 exact ⟨Nat.lt_of_lt_of_le h5 hb.size,(hb.cell (p:=⟨5,0,none⟩) h5).trans he⟩
theorem zoW (f1 f2:Bool) (i1 u1 i2 u2 x y:Int) (ev:Value) (w:World) (hx:WOf (.agg #[.bool f1,.int .i64 i1,.int .u64 u1]) (some x)) (hy:WOf (.agg #[.bool f2,.int .i64 i2,.int .u64 u2]) (some y)) (h5:5<w.heap.size) (he:w.cell? ⟨5,0,none⟩=some ev) (hev:∃ a b,ev=.iface a b):
 Rb 138 #[.int .i64 8,.agg #[.bool f1,.int .i64 i1,.int .u64 u1],.agg #[.bool f2,.int .i64 i2,.int .u64 u2]] w (.tuple #[.agg #[.bool false,.int .i64 (bits BinOp.and IntKind.i64 x y),.int .u64 0],.nilIface]):=by
 obtain ⟨eva,evb,rfl⟩:=hev
 have HX:=hide (fun w h1 h2=>hx w (.iface eva evb) h1 h2)
 have HY:=hide (fun w h1 h2=>hy w (.iface eva evb) h1 h2)
 have HE:=hide (fun w2 (h:Below (((w.alloc (numC f1 i1 u1)).alloc (numC f2 i2 u2)).alloc (numC false 0 0)).heap.size (((w.alloc (numC f1 i1 u1)).alloc (numC f2 i2 u2)).alloc (numC false 0 0)) w2)=>zgg h5 he h)
 clear hx hy h5 he
 simp only [zc9] at HX HY
 go_enter Tryz.func138,Tryz.ntmps138
 go_wp2_with fail
 refine rb (HX.out _ (HE.out _ (Below.refl _ _)).1 (HE.out _ (Below.refl _ _)).2) fun w1 hb1=>?_
 have HB1:=hide hb1
 obtain ⟨m0,m1,m2⟩:=mid_3 hb1
 clear hb1
 go_wp2_with fail
 refine rb (HY.out _ (HE.out _ HB1.out).1 (HE.out _ HB1.out).2) fun w2 hb2=>?_
 have HB2:=hide (bt HB1.out hb2)
 clear hb2 m0 m1 m2
 go_wp2_with fail
 refine rb (zaD _ _) fun w3 hb3=>?_
 have hb3':=bt HB2.out hb3
 have HB3:=hide hb3'
 obtain ⟨⟨c0,c1,c2⟩,z0,z1,z2⟩:=res_3 hb3'
 clear hb3 hb3'
 go_wp2
 refine bodyPost_ret (v:=.tuple #[.agg #[.bool false,.int .i64 (bits BinOp.and IntKind.i64 x y),.int .u64 0],.nilIface]) ?_ rfl ⟨rfl,put_3 HB3.out _ _ _⟩
 simp [results,Tryz.results138,go_sem,c0,c1,c2]
theorem zsG (f1 f2:Bool) (i1 u1 i2 u2 x y:Int) (ev:Value) (w:World) (hx:WOf (.agg #[.bool f1,.int .i64 i1,.int .u64 u1]) (some x)) (hy:WOf (.agg #[.bool f2,.int .i64 i2,.int .u64 u2]) (some y)) (h5:5<w.heap.size) (he:w.cell? ⟨5,0,none⟩=some ev) (hev:∃ a b,ev=.iface a b):
 Rb 138 #[.int .i64 9,.agg #[.bool f1,.int .i64 i1,.int .u64 u1],.agg #[.bool f2,.int .i64 i2,.int .u64 u2]] w (.tuple #[.agg #[.bool false,.int .i64 (bits BinOp.or IntKind.i64 x y),.int .u64 0],.nilIface]):=by
 obtain ⟨eva,evb,rfl⟩:=hev
 have HX:=hide (fun w h1 h2=>hx w (.iface eva evb) h1 h2)
 have HY:=hide (fun w h1 h2=>hy w (.iface eva evb) h1 h2)
 have HE:=hide (fun w2 (h:Below (((w.alloc (numC f1 i1 u1)).alloc (numC f2 i2 u2)).alloc (numC false 0 0)).heap.size (((w.alloc (numC f1 i1 u1)).alloc (numC f2 i2 u2)).alloc (numC false 0 0)) w2)=>zgg h5 he h)
 clear hx hy h5 he
 simp only [zc9] at HX HY
 go_enter Tryz.func138,Tryz.ntmps138
 go_wp2_with fail
 refine rb (HX.out _ (HE.out _ (Below.refl _ _)).1 (HE.out _ (Below.refl _ _)).2) fun w1 hb1=>?_
 have HB1:=hide hb1
 obtain ⟨m0,m1,m2⟩:=mid_3 hb1
 clear hb1
 go_wp2_with fail
 refine rb (HY.out _ (HE.out _ HB1.out).1 (HE.out _ HB1.out).2) fun w2 hb2=>?_
 have HB2:=hide (bt HB1.out hb2)
 clear hb2 m0 m1 m2
 go_wp2_with fail
 refine rb (zaD _ _) fun w3 hb3=>?_
 have hb3':=bt HB2.out hb3
 have HB3:=hide hb3'
 obtain ⟨⟨c0,c1,c2⟩,z0,z1,z2⟩:=res_3 hb3'
 clear hb3 hb3'
 go_wp2
 refine bodyPost_ret (v:=.tuple #[.agg #[.bool false,.int .i64 (bits BinOp.or IntKind.i64 x y),.int .u64 0],.nilIface]) ?_ rfl ⟨rfl,put_3 HB3.out _ _ _⟩
 simp [results,Tryz.results138,go_sem,c0,c1,c2]
theorem zqG (f1 f2:Bool) (i1 u1 i2 u2 x y:Int) (ev:Value) (w:World) (hx:WOf (.agg #[.bool f1,.int .i64 i1,.int .u64 u1]) (some x)) (hy:WOf (.agg #[.bool f2,.int .i64 i2,.int .u64 u2]) (some y)) (h5:5<w.heap.size) (he:w.cell? ⟨5,0,none⟩=some ev) (hev:∃ a b,ev=.iface a b):
 Rb 138 #[.int .i64 10,.agg #[.bool f1,.int .i64 i1,.int .u64 u1],.agg #[.bool f2,.int .i64 i2,.int .u64 u2]] w (.tuple #[.agg #[.bool false,.int .i64 (bits BinOp.xor IntKind.i64 x y),.int .u64 0],.nilIface]):=by
 obtain ⟨eva,evb,rfl⟩:=hev
 have HX:=hide (fun w h1 h2=>hx w (.iface eva evb) h1 h2)
 have HY:=hide (fun w h1 h2=>hy w (.iface eva evb) h1 h2)
 have HE:=hide (fun w2 (h:Below (((w.alloc (numC f1 i1 u1)).alloc (numC f2 i2 u2)).alloc (numC false 0 0)).heap.size (((w.alloc (numC f1 i1 u1)).alloc (numC f2 i2 u2)).alloc (numC false 0 0)) w2)=>zgg h5 he h)
 clear hx hy h5 he
 simp only [zc9] at HX HY
 go_enter Tryz.func138,Tryz.ntmps138
 go_wp2_with fail
 refine rb (HX.out _ (HE.out _ (Below.refl _ _)).1 (HE.out _ (Below.refl _ _)).2) fun w1 hb1=>?_
 have HB1:=hide hb1
 obtain ⟨m0,m1,m2⟩:=mid_3 hb1
 clear hb1
 go_wp2_with fail
 refine rb (HY.out _ (HE.out _ HB1.out).1 (HE.out _ HB1.out).2) fun w2 hb2=>?_
 have HB2:=hide (bt HB1.out hb2)
 clear hb2 m0 m1 m2
 go_wp2_with fail
 refine rb (zaD _ _) fun w3 hb3=>?_
 have hb3':=bt HB2.out hb3
 have HB3:=hide hb3'
 obtain ⟨⟨c0,c1,c2⟩,z0,z1,z2⟩:=res_3 hb3'
 clear hb3 hb3'
 go_wp2
 refine bodyPost_ret (v:=.tuple #[.agg #[.bool false,.int .i64 (bits BinOp.xor IntKind.i64 x y),.int .u64 0],.nilIface]) ?_ rfl ⟨rfl,put_3 HB3.out _ _ _⟩
 simp [results,Tryz.results138,go_sem,c0,c1,c2]
theorem zpK (f1 f2:Bool) (i1 u1 i2 u2 x y:Int) (ev:Value) (w:World) (hx:WOf (.agg #[.bool f1,.int .i64 i1,.int .u64 u1]) (some x)) (hy:WOf (.agg #[.bool f2,.int .i64 i2,.int .u64 u2]) (some y)) (h5:5<w.heap.size) (he:w.cell? ⟨5,0,none⟩=some ev) (hev:∃ a b,ev=.iface a b) (r0: -9223372036854775808<=x) (r1:x<=9223372036854775807) (r2: -9223372036854775808<=y) (r3:y<=9223372036854775807):
 Rb 138 #[.int .i64 11,.agg #[.bool f1,.int .i64 i1,.int .u64 u1],.agg #[.bool f2,.int .i64 i2,.int .u64 u2]] w (.tuple #[.agg #[.bool false,.int .i64 (shZ x y),.int .u64 0],.nilIface]):=by
 obtain ⟨eva,evb,rfl⟩:=hev
 have HX:=hide (fun w h1 h2=>hx w (.iface eva evb) h1 h2)
 have HY:=hide (fun w h1 h2=>hy w (.iface eva evb) h1 h2)
 have HE:=hide (fun w2 (h:Below (((w.alloc (numC f1 i1 u1)).alloc (numC f2 i2 u2)).alloc (numC false 0 0)).heap.size (((w.alloc (numC f1 i1 u1)).alloc (numC f2 i2 u2)).alloc (numC false 0 0)) w2)=>zgg h5 he h)
 clear hx hy h5 he
 simp only [zc9] at HX HY
 go_enter Tryz.func138,Tryz.ntmps138
 go_wp2_with fail
 refine rb (HX.out _ (HE.out _ (Below.refl _ _)).1 (HE.out _ (Below.refl _ _)).2) fun w1 hb1=>?_
 have HB1:=hide hb1
 obtain ⟨m0,m1,m2⟩:=mid_3 hb1
 clear hb1
 go_wp2_with fail
 refine rb (HY.out _ (HE.out _ HB1.out).1 (HE.out _ HB1.out).2) fun w2 hb2=>?_
 have HB2:=hide (bt HB1.out hb2)
 clear hb2 m0 m1 m2
 go_wp2_with fail
 refine rs (zgG x y _ r0 r1 r2 r3) ?_
 go_wp2_with fail
 refine rb (zaD _ _) fun w3 hb3=>?_
 have hb3':=bt HB2.out hb3
 have HB3:=hide hb3'
 obtain ⟨⟨c0,c1,c2⟩,z0,z1,z2⟩:=res_3 hb3'
 clear hb3 hb3'
 go_wp2
 refine bodyPost_ret (v:=.tuple #[.agg #[.bool false,.int .i64 (shZ x y),.int .u64 0],.nilIface]) ?_ rfl ⟨rfl,put_3 HB3.out _ _ _⟩
 simp [results,Tryz.results138,go_sem,c0,c1,c2]
theorem zqc (f1 f2:Bool) (i1 u1 i2 u2 x y:Int) (ev:Value) (w:World) (hx:WOf (.agg #[.bool f1,.int .i64 i1,.int .u64 u1]) (some x)) (hy:WOf (.agg #[.bool f2,.int .i64 i2,.int .u64 u2]) (some y)) (h5:5<w.heap.size) (he:w.cell? ⟨5,0,none⟩=some ev) (hev:∃ a b,ev=.iface a b) (r0: -9223372036854775808<=x) (r1:x<=9223372036854775807) (r2: -9223372036854775808<=y) (r3:y<=9223372036854775807):
 Rb 138 #[.int .i64 12,.agg #[.bool f1,.int .i64 i1,.int .u64 u1],.agg #[.bool f2,.int .i64 i2,.int .u64 u2]] w (.tuple #[.agg #[.bool false,.int .i64 (shZ x (wrap64 (-y))),.int .u64 0],.nilIface]):=by
 obtain ⟨eva,evb,rfl⟩:=hev
 have HX:=hide (fun w h1 h2=>hx w (.iface eva evb) h1 h2)
 have HY:=hide (fun w h1 h2=>hy w (.iface eva evb) h1 h2)
 have HE:=hide (fun w2 (h:Below (((w.alloc (numC f1 i1 u1)).alloc (numC f2 i2 u2)).alloc (numC false 0 0)).heap.size (((w.alloc (numC f1 i1 u1)).alloc (numC f2 i2 u2)).alloc (numC false 0 0)) w2)=>zgg h5 he h)
 clear hx hy h5 he
 simp only [zc9] at HX HY
 go_enter Tryz.func138,Tryz.ntmps138
 go_wp2_with fail
 refine rb (HX.out _ (HE.out _ (Below.refl _ _)).1 (HE.out _ (Below.refl _ _)).2) fun w1 hb1=>?_
 have HB1:=hide hb1
 obtain ⟨m0,m1,m2⟩:=mid_3 hb1
 clear hb1
 go_wp2_with fail
 refine rb (HY.out _ (HE.out _ HB1.out).1 (HE.out _ HB1.out).2) fun w2 hb2=>?_
 have HB2:=hide (bt HB1.out hb2)
 clear hb2 m0 m1 m2
 have hw:=zpT (-y)
 go_wp2_with fail
 refine rs (zgG x (wrap64 (-y)) _ r0 r1 hw.1 hw.2) ?_
 go_wp2_with fail
 refine rb (zaD _ _) fun w3 hb3=>?_
 have hb3':=bt HB2.out hb3
 have HB3:=hide hb3'
 obtain ⟨⟨c0,c1,c2⟩,z0,z1,z2⟩:=res_3 hb3'
 clear hb3 hb3'
 go_wp2
 refine bodyPost_ret (v:=.tuple #[.agg #[.bool false,.int .i64 (shZ x (wrap64 (-y))),.int .u64 0],.nilIface]) ?_ rfl ⟨rfl,put_3 HB3.out _ _ _⟩
 simp [results,Tryz.results138,go_sem,c0,c1,c2]
theorem zsa (f1 f2:Bool) (i1 u1 i2 u2 op:Int) (z:Option Int) (ev:Value) (w:World) (hx:WOf (.agg #[.bool f1,.int .i64 i1,.int .u64 u1]) (none)) (hy:WOf (.agg #[.bool f2,.int .i64 i2,.int .u64 u2]) (z)) (h5:5<w.heap.size) (he:w.cell? ⟨5,0,none⟩=some ev) (hev:∃ a b,ev=.iface a b):
 Rb 138 #[.int .i64 op,.agg #[.bool f1,.int .i64 i1,.int .u64 u1],.agg #[.bool f2,.int .i64 i2,.int .u64 u2]] w (.tuple #[.agg #[.bool false,.int .i64 0,.int .u64 0],ev]):=by
 obtain ⟨eva,evb,rfl⟩:=hev
 have HX:=hide (fun w h1 h2=>hx w (.iface eva evb) h1 h2)
 have HY:=hide (fun w h1 h2=>hy w (.iface eva evb) h1 h2)
 have HE:=hide (fun w2 (h:Below (((w.alloc (numC f1 i1 u1)).alloc (numC f2 i2 u2)).alloc (numC false 0 0)).heap.size (((w.alloc (numC f1 i1 u1)).alloc (numC f2 i2 u2)).alloc (numC false 0 0)) w2)=>zgg h5 he h)
 clear hx hy h5 he
 clear HY
 simp only [zc9] at HX
 go_enter Tryz.func138,Tryz.ntmps138
 go_wp2_with fail
 refine rb (HX.out _ (HE.out _ (Below.refl _ _)).1 (HE.out _ (Below.refl _ _)).2) fun w1 hb1=>?_
 have HB1:=hide hb1
 obtain ⟨⟨c0,c1,c2⟩,z0,z1,z2⟩:=res_3 hb1
 clear hb1
 go_wp2
 refine bodyPost_ret (v:=.tuple #[.agg #[.bool false,.int .i64 0,.int .u64 0],.iface eva evb]) ?_ rfl ⟨rfl,put_3 HB1.out _ _ _⟩
 simp [results,Tryz.results138,go_sem,c0,c1,c2]
theorem zsS (f1 f2:Bool) (i1 u1 i2 u2 x op:Int) (ev:Value) (w:World) (hx:WOf (.agg #[.bool f1,.int .i64 i1,.int .u64 u1]) (some x)) (hy:WOf (.agg #[.bool f2,.int .i64 i2,.int .u64 u2]) (none)) (h5:5<w.heap.size) (he:w.cell? ⟨5,0,none⟩=some ev) (hev:∃ a b,ev=.iface a b):
 Rb 138 #[.int .i64 op,.agg #[.bool f1,.int .i64 i1,.int .u64 u1],.agg #[.bool f2,.int .i64 i2,.int .u64 u2]] w (.tuple #[.agg #[.bool false,.int .i64 0,.int .u64 0],ev]):=by
 obtain ⟨eva,evb,rfl⟩:=hev
 have HX:=hide (fun w h1 h2=>hx w (.iface eva evb) h1 h2)
 have HY:=hide (fun w h1 h2=>hy w (.iface eva evb) h1 h2)
 have HE:=hide (fun w2 (h:Below (((w.alloc (numC f1 i1 u1)).alloc (numC f2 i2 u2)).alloc (numC false 0 0)).heap.size (((w.alloc (numC f1 i1 u1)).alloc (numC f2 i2 u2)).alloc (numC false 0 0)) w2)=>zgg h5 he h)
 clear hx hy h5 he
 simp only [zc9] at HX HY
 go_enter Tryz.func138,Tryz.ntmps138
 go_wp2_with fail
 refine rb (HX.out _ (HE.out _ (Below.refl _ _)).1 (HE.out _ (Below.refl _ _)).2) fun w1 hb1=>?_
 have HB1:=hide hb1
 obtain ⟨m0,m1,m2⟩:=mid_3 hb1
 clear hb1
 go_wp2_with fail
 refine rb (HY.out _ (HE.out _ HB1.out).1 (HE.out _ HB1.out).2) fun w2 hb2=>?_
 have HB2:=hide (bt HB1.out hb2)
 clear hb2 m0 m1 m2
 obtain ⟨⟨c0,c1,c2⟩,z0,z1,z2⟩:=res_3 HB2.out
 go_wp2
 refine bodyPost_ret (v:=.tuple #[.agg #[.bool false,.int .i64 0,.int .u64 0],.iface eva evb]) ?_ rfl ⟨rfl,put_3 HB2.out _ _ _⟩
 simp [results,Tryz.results138,go_sem,c0,c1,c2]
theorem zoi (i1 i2:Int) (w:World):
 Rb 135 #[.int .i64 1,.agg #[.bool false,.int .i64 i1,.int .u64 0],.agg #[.bool false,.int .i64 i2,.int .u64 0]] w (.agg #[.bool false,.int .i64 (wrap64 (i1+i2)),.int .u64 0]):=by
 go_enter Tryz.func135,Tryz.ntmps135
 go_wp2_with fail
 refine rb (zaD _ _) fun w3 hb3=>?_
 have HB3:=hide hb3
 obtain ⟨⟨c0,c1,c2⟩,z0,z1,z2⟩:=res_3 hb3
 clear hb3
 go_wp2
 refine bodyPost_ret (v:=.agg #[.bool false,.int .i64 (wrap64 (i1+i2)),.int .u64 0]) ?_ rfl ⟨rfl,put_3 HB3.out _ _ _⟩
 simp [results,Tryz.results135,go_sem,c0,c1,c2]
theorem zmA (i1 i2:Int) (w:World):
 Rb 135 #[.int .i64 2,.agg #[.bool false,.int .i64 i1,.int .u64 0],.agg #[.bool false,.int .i64 i2,.int .u64 0]] w (.agg #[.bool false,.int .i64 (wrap64 (i1-i2)),.int .u64 0]):=by
 go_enter Tryz.func135,Tryz.ntmps135
 go_wp2_with fail
 refine rb (zaD _ _) fun w3 hb3=>?_
 have HB3:=hide hb3
 obtain ⟨⟨c0,c1,c2⟩,z0,z1,z2⟩:=res_3 hb3
 clear hb3
 go_wp2
 refine bodyPost_ret (v:=.agg #[.bool false,.int .i64 (wrap64 (i1-i2)),.int .u64 0]) ?_ rfl ⟨rfl,put_3 HB3.out _ _ _⟩
 simp [results,Tryz.results135,go_sem,c0,c1,c2]
theorem znP (i1 i2:Int) (w:World):
 Rb 135 #[.int .i64 3,.agg #[.bool false,.int .i64 i1,.int .u64 0],.agg #[.bool false,.int .i64 i2,.int .u64 0]] w (.agg #[.bool false,.int .i64 (wrap64 (i1*i2)),.int .u64 0]):=by
 go_enter Tryz.func135,Tryz.ntmps135
 go_wp2_with fail
 refine rb (zaD _ _) fun w3 hb3=>?_
 have HB3:=hide hb3
 obtain ⟨⟨c0,c1,c2⟩,z0,z1,z2⟩:=res_3 hb3
 clear hb3
 go_wp2
 refine bodyPost_ret (v:=.agg #[.bool false,.int .i64 (wrap64 (i1*i2)),.int .u64 0]) ?_ rfl ⟨rfl,put_3 HB3.out _ _ _⟩
 simp [results,Tryz.results135,go_sem,c0,c1,c2]
theorem ziS (x:Int):∃ k,wrap64 x=x+18446744073709551616*k:=by
 simp only [wrap64]
 exact ⟨-((x+9223372036854775808)/18446744073709551616),by omega⟩
theorem zo6 (z m:Int):wrap64 (z+18446744073709551616*m)=wrap64 z:=by
 simp only [wrap64]
 omega
theorem zmJ {z:Int} (h0: -9223372036854775808<=z) (h1:z<=9223372036854775807):wrap64 z=z:=by
 simp only [wrap64]
 omega
def rZ (a b:Int):Int:=if a.tmod b≠0/\¬ (a.tmod b<0↔b<0) then a.tmod b+b else a.tmod b
theorem zex {a b:Int} (h:a.tmod b≠0):(a.tmod b<0↔a<0):=by
 rcases (show a<0∨0<=a by omega) with g|g
 ·have h1:a.tmod b<=0:=by
   have:=Int.tmod_nonneg b (show 0<= -a by omega)
   rw [Int.neg_tmod] at this
   omega
  omega
 have:=Int.tmod_nonneg b g
 omega
theorem zhK {a b:Int} (hb:b≠0): -(b.natAbs:Int)<a.tmod b/\a.tmod b<b.natAbs:=by
 have h:=Int.natAbs_tmod a b
 have h2:(a.tmod b).natAbs<b.natAbs:=by
  rw [h]
  exact Nat.mod_lt _ (by omega)
 omega
theorem zkA {a b:Int} (hb:b≠0) (h2: -9223372036854775808<=b) (h3:b<=9223372036854775807): -9223372036854775808<=rZ a b/\rZ a b<=9223372036854775807:=by
 have hr:=zhK (a:=a) hb
 unfold rZ
 split<;>omega
theorem rZ_eq {a b:Int} (hb:b≠0) (h2: -9223372036854775808<=b) (h3:b<=9223372036854775807):wrap64 (a-wrap64 (qZ a b*b))=rZ a b:=by
 have hdm:b*a.tdiv b+a.tmod b=a:=Int.mul_tdiv_add_tmod a b
 have hr:=zkA (a:=a) hb h2 h3
 obtain ⟨t,m,hq,ht⟩:∃ t m:Int,qZ a b=t+18446744073709551616*m/\a-t*b=rZ a b:=by
  unfold qZ rZ
  by_cases hm:b= -1
  ·subst hm
   obtain ⟨k,hk⟩:=ziS (-a)
   have h0:a.tmod (-1)=0:=by
    have:=zhK (a:=a) (b:= -1) (by omega)
    have e:(((-1:Int).natAbs:Nat):Int)=1:=rfl
    rw [e] at this
    omega
   rw [if_pos rfl,h0,hk]
   exact ⟨-a,k,rfl,by simp⟩
  rw [if_neg hm]
  by_cases hc:a.tmod b≠0/\¬ (a<0↔b<0)
  ·have hs:=zex hc.1
   obtain ⟨k,hk⟩:=ziS (a.tdiv b)
   obtain ⟨k2,hk2⟩:=ziS (wrap64 (a.tdiv b)-1)
   rw [if_pos hc,if_pos ⟨hc.1,fun h=>hc.2 (hs.symm.trans h)⟩,hk2,hk]
   refine ⟨a.tdiv b-1,k+k2,by omega,?_⟩
   rw [Int.sub_mul,Int.one_mul,Int.mul_comm (a.tdiv b) b]
   omega
  obtain ⟨k,hk⟩:=ziS (a.tdiv b)
  have hc2:¬ (a.tmod b≠0/\¬ (a.tmod b<0↔b<0)):=fun ⟨g1,g2⟩=>hc ⟨g1,fun h=>g2 ((zex g1).trans h)⟩
  rw [if_neg hc,if_neg hc2,hk]
  refine ⟨a.tdiv b,k,rfl,?_⟩
  rw [Int.mul_comm (a.tdiv b) b]
  omega
 rw [hq]
 obtain ⟨k,hk⟩:=ziS ((t+18446744073709551616*m)*b)
 rw [hk]
 have e:a-((t+18446744073709551616*m)*b+18446744073709551616*k)=rZ a b+18446744073709551616*(-(m*b)-k):=by
  rw [<-ht]
  grind
 rw [e,zo6,zmJ hr.1 hr.2]
theorem zms {a b:Int} (hb:b≠0):qZ a b=if a.tmod b≠0/\¬ (a.tmod b<0↔b<0) then wrap64 (wrap64 (a.tdiv b)-1) else wrap64 (a.tdiv b):=by
 unfold qZ
 by_cases hm:b= -1
 ·subst hm
  have h0:a.tmod (-1)=0:=by
   have:=zhK (a:=a) (b:= -1) (by omega)
   have e:(((-1:Int).natAbs:Nat):Int)=1:=rfl
   rw [e] at this
   omega
  rw [if_pos rfl,if_neg (by rw [h0];simp)]
  congr 1
  rw [Int.tdiv_neg,Int.tdiv_one]
 rw [if_neg hm]
 by_cases hc:a.tmod b≠0/\¬ (a<0↔b<0)
 ·have hs:=zex hc.1
  rw [if_pos hc,if_pos ⟨hc.1,fun h=>hc.2 (hs.symm.trans h)⟩]
 have hc2:¬ (a.tmod b≠0/\¬ (a.tmod b<0↔b<0)):=fun ⟨g1,g2⟩=>hc ⟨g1,fun h=>g2 ((zex g1).trans h)⟩
 rw [if_neg hc,if_neg hc2]
theorem zku (op a:Int) (ev:Value) (w:World) (h3:3<w.heap.size) (he:w.cell? ⟨3,0,none⟩=some ev):
 Rb 136 #[.int .i64 op,.agg #[.bool false,.int .i64 a,.int .u64 0],.agg #[.bool false,.int .i64 0,.int .u64 0]] w (.tuple #[.agg #[.bool false,.int .i64 0,.int .u64 0],ev]):=by
 have hb0:Below w.heap.size w (((w.alloc (numC false a 0)).alloc (numC false 0 0)).alloc (numC false 0 0)):=za7 (Below.refl _ _)
 have he3:=(hb0.cell (p:=⟨3,0,none⟩) h3).trans he
 obtain ⟨⟨c0,c1,c2⟩,z0,z1,z2⟩:=res_3 (Below.refl (((w.alloc (numC false a 0)).alloc (numC false 0 0)).alloc (numC false 0 0)).heap.size (((w.alloc (numC false a 0)).alloc (numC false 0 0)).alloc (numC false 0 0)))
 have HP:=hide (put_3 (Below.refl (((w.alloc (numC false a 0)).alloc (numC false 0 0)).alloc (numC false 0 0)).heap.size (((w.alloc (numC false a 0)).alloc (numC false 0 0)).alloc (numC false 0 0))))
 clear hb0 he
 go_enter Tryz.func136,Tryz.ntmps136
 go_wp2
 go_region
 go_wp2
 refine bodyPost_ret (v:=.tuple #[.agg #[.bool false,.int .i64 0,.int .u64 0],ev]) ?_ rfl ⟨rfl,?_⟩
 ·simp [results,Tryz.results136,go_sem,c0,c1,c2]
 exact Below.drew (za7 (Below.refl _ _))
theorem zs6 (a b:Int) (w:World) (h0: -9223372036854775808<=a) (h1:a<=9223372036854775807) (h2: -9223372036854775808<=b) (h3:b<=9223372036854775807) (hb:b≠0):
 Rb 136 #[.int .i64 5,.agg #[.bool false,.int .i64 a,.int .u64 0],.agg #[.bool false,.int .i64 b,.int .u64 0]] w (.tuple #[.agg #[.bool false,.int .i64 (rZ a b),.int .u64 0],.nilIface]):=by
 have hb0:(b==0)=false:=by rw [beq_eq_false_iff_ne];exact hb
 have hq:=zms (a:=a) hb
 have hr:rZ a b=if a.tmod b≠0/\¬ (a.tmod b<0↔b<0) then a.tmod b+b else a.tmod b:=rfl
 have hrr:=zkA (a:=a) hb h2 h3
 by_cases hc:a.tmod b≠0/\¬ (a.tmod b<0↔b<0)
 ·rw [if_pos hc] at hq hr
  rw [hr] at hrr
  have t0:(a.tmod b !=0)=true:=by rw [bne_iff_ne];exact hc.1
  have s0:(decide (a.tmod b<0)==decide (b<0))=false:=by rw [beq_eq_false_iff_ne];intro h;exact hc.2 (by simpa using h)
  rw [hr]
  clear hc hq hr
  go_enter Tryz.func136,Tryz.ntmps136
  go_wp2_with fail
  go_quiet (fail)
  go_wp2_with fail
  refine rb (zaD _ _) fun w3 hb3=>?_
  have hb3':=(zag (Below.refl (((w.alloc (numC false a 0)).alloc (numC false b 0)).alloc (numC false 0 0)).heap.size (((w.alloc (numC false a 0)).alloc (numC false b 0)).alloc (numC false 0 0))) _).trans hb3
  have HB3:=hide hb3'
  obtain ⟨⟨c0,c1,c2⟩,z0,z1,z2⟩:=res_3 hb3'
  clear hb3 hb3'
  go_wp2
  refine bodyPost_ret (v:=.tuple #[.agg #[.bool false,.int .i64 _,.int .u64 0],.nilIface]) ?_ rfl ⟨rfl,put_3 HB3.out _ _ _⟩
  simp [results,Tryz.results136,go_sem,c0,c1,c2]
 rw [if_neg hc] at hq hr
 rw [hr] at hrr
 rw [hr]
 by_cases ht:a.tmod b=0
 ·have t0:(a.tmod b !=0)=false:=by rw [bne_eq_false_iff_eq];exact ht
  rw [ht]
  clear hc hq hr
  go_enter Tryz.func136,Tryz.ntmps136
  go_wp2_with fail
  go_quiet (fail)
  go_wp2_with fail
  refine rb (zaD _ _) fun w3 hb3=>?_
  have hb3':=(zag (Below.refl (((w.alloc (numC false a 0)).alloc (numC false b 0)).alloc (numC false 0 0)).heap.size (((w.alloc (numC false a 0)).alloc (numC false b 0)).alloc (numC false 0 0))) _).trans hb3
  have HB3:=hide hb3'
  obtain ⟨⟨c0,c1,c2⟩,z0,z1,z2⟩:=res_3 hb3'
  clear hb3 hb3'
  go_wp2
  refine bodyPost_ret (v:=.tuple #[.agg #[.bool false,.int .i64 _,.int .u64 0],.nilIface]) ?_ rfl ⟨rfl,put_3 HB3.out _ _ _⟩
  simp [results,Tryz.results136,go_sem,c0,c1,c2]
 have t0:(a.tmod b !=0)=true:=by rw [bne_iff_ne];exact ht
 have s0:(decide (a.tmod b<0)==decide (b<0))=true:=by
  rw [beq_iff_eq]
  have:(a.tmod b<0↔b<0):=Classical.byContradiction (fun h=>hc ⟨ht,h⟩)
  simpa using this
 clear hc hq hr ht
 go_enter Tryz.func136,Tryz.ntmps136
 go_wp2_with fail
 go_quiet (fail)
 go_wp2_with fail
 refine rb (zaD _ _) fun w3 hb3=>?_
 have hb3':=(zag (Below.refl (((w.alloc (numC false a 0)).alloc (numC false b 0)).alloc (numC false 0 0)).heap.size (((w.alloc (numC false a 0)).alloc (numC false b 0)).alloc (numC false 0 0))) _).trans hb3
 have HB3:=hide hb3'
 obtain ⟨⟨c0,c1,c2⟩,z0,z1,z2⟩:=res_3 hb3'
 clear hb3 hb3'
 go_wp2
 refine bodyPost_ret (v:=.tuple #[.agg #[.bool false,.int .i64 _,.int .u64 0],.nilIface]) ?_ rfl ⟨rfl,put_3 HB3.out _ _ _⟩
 simp [results,Tryz.results136,go_sem,c0,c1,c2]
theorem zsR (a b:Int) (w:World) (h0: -9223372036854775808<=a) (h1:a<=9223372036854775807) (h2: -9223372036854775808<=b) (h3:b<=9223372036854775807) (hb:b≠0):
 Rb 136 #[.int .i64 6,.agg #[.bool false,.int .i64 a,.int .u64 0],.agg #[.bool false,.int .i64 b,.int .u64 0]] w (.tuple #[.agg #[.bool false,.int .i64 (qZ a b),.int .u64 0],.nilIface]):=by
 have hb0:(b==0)=false:=by rw [beq_eq_false_iff_ne];exact hb
 have hq:=zms (a:=a) hb
 have hr:rZ a b=if a.tmod b≠0/\¬ (a.tmod b<0↔b<0) then a.tmod b+b else a.tmod b:=rfl
 have hrr:=zkA (a:=a) hb h2 h3
 by_cases hc:a.tmod b≠0/\¬ (a.tmod b<0↔b<0)
 ·rw [if_pos hc] at hq hr
  rw [hr] at hrr
  have t0:(a.tmod b !=0)=true:=by rw [bne_iff_ne];exact hc.1
  have s0:(decide (a.tmod b<0)==decide (b<0))=false:=by rw [beq_eq_false_iff_ne];intro h;exact hc.2 (by simpa using h)
  rw [hq]
  clear hc hq hr
  go_enter Tryz.func136,Tryz.ntmps136
  go_wp2_with fail
  go_quiet (fail)
  go_wp2_with fail
  refine rb (zaD _ _) fun w3 hb3=>?_
  have hb3':=(zag (Below.refl (((w.alloc (numC false a 0)).alloc (numC false b 0)).alloc (numC false 0 0)).heap.size (((w.alloc (numC false a 0)).alloc (numC false b 0)).alloc (numC false 0 0))) _).trans hb3
  have HB3:=hide hb3'
  obtain ⟨⟨c0,c1,c2⟩,z0,z1,z2⟩:=res_3 hb3'
  clear hb3 hb3'
  go_wp2
  refine bodyPost_ret (v:=.tuple #[.agg #[.bool false,.int .i64 _,.int .u64 0],.nilIface]) ?_ rfl ⟨rfl,put_3 HB3.out _ _ _⟩
  simp [results,Tryz.results136,go_sem,c0,c1,c2]
 rw [if_neg hc] at hq hr
 rw [hr] at hrr
 rw [hq]
 by_cases ht:a.tmod b=0
 ·have t0:(a.tmod b !=0)=false:=by rw [bne_eq_false_iff_eq];exact ht
  skip
  clear hc hq hr
  go_enter Tryz.func136,Tryz.ntmps136
  go_wp2_with fail
  go_quiet (fail)
  go_wp2_with fail
  refine rb (zaD _ _) fun w3 hb3=>?_
  have hb3':=(zag (Below.refl (((w.alloc (numC false a 0)).alloc (numC false b 0)).alloc (numC false 0 0)).heap.size (((w.alloc (numC false a 0)).alloc (numC false b 0)).alloc (numC false 0 0))) _).trans hb3
  have HB3:=hide hb3'
  obtain ⟨⟨c0,c1,c2⟩,z0,z1,z2⟩:=res_3 hb3'
  clear hb3 hb3'
  go_wp2
  refine bodyPost_ret (v:=.tuple #[.agg #[.bool false,.int .i64 _,.int .u64 0],.nilIface]) ?_ rfl ⟨rfl,put_3 HB3.out _ _ _⟩
  simp [results,Tryz.results136,go_sem,c0,c1,c2]
 have t0:(a.tmod b !=0)=true:=by rw [bne_iff_ne];exact ht
 have s0:(decide (a.tmod b<0)==decide (b<0))=true:=by
  rw [beq_iff_eq]
  have:(a.tmod b<0↔b<0):=Classical.byContradiction (fun h=>hc ⟨ht,h⟩)
  simpa using this
 clear hc hq hr ht
 go_enter Tryz.func136,Tryz.ntmps136
 go_wp2_with fail
 go_quiet (fail)
 go_wp2_with fail
 refine rb (zaD _ _) fun w3 hb3=>?_
 have hb3':=(zag (Below.refl (((w.alloc (numC false a 0)).alloc (numC false b 0)).alloc (numC false 0 0)).heap.size (((w.alloc (numC false a 0)).alloc (numC false b 0)).alloc (numC false 0 0))) _).trans hb3
 have HB3:=hide hb3'
 obtain ⟨⟨c0,c1,c2⟩,z0,z1,z2⟩:=res_3 hb3'
 clear hb3 hb3'
 go_wp2
 refine bodyPost_ret (v:=.tuple #[.agg #[.bool false,.int .i64 _,.int .u64 0],.nilIface]) ?_ rfl ⟨rfl,put_3 HB3.out _ _ _⟩
 simp [results,Tryz.results136,go_sem,c0,c1,c2]
end Go.Proofs.YtamdnnkdnhkghaaGreatDoor
