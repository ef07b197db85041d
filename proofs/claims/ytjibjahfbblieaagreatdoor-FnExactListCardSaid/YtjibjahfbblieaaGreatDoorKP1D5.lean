import Derived.Test.YtjibjahfbblieaaGreatDoorKP1D1
import Derived.Laws.Externs
import Derived.Lib.BitFns
namespace Go.Proofs.YtjibjahfbblieaaGreatDoor.F
open Go Go.RowKit
set_option linter.unusedVariables false
theorem yV {m:Nat} (h:m<4503599627370496):bits .and .u64 (m:Int) 4503599627370496=0:=by
 have:=u64_and_nat m 4503599627370496 (by omega) (by omega)
 have e:m&&&4503599627370496=0:=by
  apply Nat.eq_of_testBit_eq
  intro i
  rw [Nat.testBit_and,Nat.zero_testBit,show (4503599627370496:Nat)=2^52 from rfl,Nat.testBit_two_pow]
  by_cases hi:52=i
  ·subst hi;rw [Nat.testBit_lt_two_pow (by exact h)];rfl
  ·simp [hi]
 rw [e] at this
 exact this
theorem lG {m:Nat} (h1:4503599627370496<=m) (h2:m<9007199254740992):bits .and .u64 (m:Int) 4503599627370496=4503599627370496:=by
 have:=u64_and_nat m 4503599627370496 (by omega) (by omega)
 have e:m&&&4503599627370496=4503599627370496:=by
  apply Nat.eq_of_testBit_eq
  intro i
  rw [Nat.testBit_and,show (4503599627370496:Nat)=2^52 from rfl,Nat.testBit_two_pow]
  by_cases hi:52=i
  ·subst hi
   have:m.testBit 52=true:=by
    rw [Nat.testBit_eq_decide_div_mod_eq]
    have:m/2^52=1:=by
     rw [show (2:Nat)^52=4503599627370496 from rfl];omega
    rw [this];rfl
   rw [this];simp
  ·simp [hi]
 rw [e] at this
 exact this
theorem bB (z:Int) (w:World):(callFunc 253 #[.int .u64 z]).run Tryz.prog w=.ok (.value (.float .f64 z.toNat)) w:=by
 rw [run_callFunc_extern (e:=Extern.MathFloatBits.float64frombits) Tryz.func253 (by kernel_rfl) (by kernel_rfl) (by kernel_rfl) (by kernel_rfl)]
 rfl
set_option maxRecDepth 100000 in
set_option maxHeartbeats 800000 in
theorem LU (m:Nat) (z e:Int) (w:World) (hz:Hid (z.toNat=m)) (ha:bits .and .u64 z 4503599627370496=0):
 Calls Tryz.prog 263 #[.int .u64 z,.int .i64 e] w fun r w'=>r=.returned (.tuple #[.float .f64 m,.nilIface])/\w'=w:=by
 have hfb:=bB
 go_enter Tryz.func263,Tryz.ntmps263
 go_wp2
 go_ret2
 exact ⟨by rw [<-hz.out];rfl,rfl⟩
set_option maxRecDepth 100000 in
set_option maxHeartbeats 800000 in
theorem IE (z e:Int) (w:World) (ha:bits .and .u64 z 4503599627370496=4503599627370496) (he:972<=e) (h2:bits .and .u64 z 9223372036854775808=0)
 (h3:bits .or .u64 0 9218868437227405312=9218868437227405312):
 Calls Tryz.prog 263 #[.int .u64 z,.int .i64 e] w fun r w'=>r=.returned (.tuple #[.float .f64 9218868437227405312,.iface 223 (.int .i64 1)])/\w'=w:=by
 have hfb:=bB
 go_enter Tryz.func263,Tryz.ntmps263
 go_wp2
 go_ret2
 exact ⟨by simp,rfl⟩
set_option maxRecDepth 100000 in
set_option maxHeartbeats 800000 in
theorem KA (m:Nat) (z y v e:Int) (w:World) (ha:bits .and .u64 z 4503599627370496=4503599627370496) (he:e<972) (he2: -1075<=e) (h2:bits .andNot .u64 z 4503599627370496=y)
 (h3:bits .or .u64 y ((1075+e)*4503599627370496)=v) (hv:Hid (v.toNat=m)):
 Calls Tryz.prog 263 #[.int .u64 z,.int .i64 e] w fun r w'=>r=.returned (.tuple #[.float .f64 m,.nilIface])/\w'=w:=by
 have hfb:=bB
 go_enter Tryz.func263,Tryz.ntmps263
 go_wp2
 go_ret2
 exact ⟨by rw [<-hv.out];rfl,rfl⟩
theorem IY {m:Nat} (h:m<9223372036854775808):bits .and .u64 (m:Int) 9223372036854775808=0:=by
 have:=u64_and_nat m 9223372036854775808 (by omega) (by omega)
 have e:m&&&9223372036854775808=0:=by
  apply Nat.eq_of_testBit_eq
  intro i
  rw [Nat.testBit_and,Nat.zero_testBit,show (9223372036854775808:Nat)=2^63 from rfl,Nat.testBit_two_pow]
  by_cases hi:63=i
  ·subst hi;rw [Nat.testBit_lt_two_pow (by exact h)];rfl
  ·simp [hi]
 rw [e] at this
 exact this
theorem Jy:bits .or .u64 0 9218868437227405312=9218868437227405312:=by
 have:=u64_or_nat 0 9218868437227405312 (by omega) (by omega)
 rw [Nat.zero_or] at this
 exact this
theorem Gf {m:Nat} (h1:4503599627370496<=m) (h2:m<9007199254740992):bits .andNot .u64 (m:Int) 4503599627370496=((m-4503599627370496:Nat):Int):=by
 have:=u64_andNot_nat m 4503599627370496 (by omega) (by omega)
 have e:m&&&(18446744073709551615-4503599627370496)=m-4503599627370496:=by
  have hle:m&&&(18446744073709551615-4503599627370496)<=m:=Nat.and_le_left
  have h53:(m&&&(18446744073709551615-4503599627370496))%2^53=m&&&(18446744073709551615-4503599627370496):=Nat.mod_eq_of_lt (Nat.lt_of_le_of_lt hle h2)
  rw [<-h53,Nat.and_mod_two_pow]
  have e1:m%2^53=m:=Nat.mod_eq_of_lt h2
  have e2:(18446744073709551615-4503599627370496)%2^53=2^52-1:=by decide
  rw [e1,e2,Nat.and_two_pow_sub_one_eq_mod,show (2:Nat)^52=4503599627370496 from rfl]
  omega
 rw [e] at this
 exact this
theorem PD {r k:Nat} (hr:r<4503599627370496) (hk:k<2048):bits .or .u64 (r:Int) ((k:Int)*4503599627370496)=((k*4503599627370496+r:Nat):Int):=by
 have h1:=u64_or_nat r (k*4503599627370496) (by omega) (by omega)
 have h2:=Nat.two_pow_add_eq_or_of_lt (i:=52) (b:=r) hr k
 rw [show (2:Nat)^52=4503599627370496 from rfl,Nat.mul_comm] at h2
 rw [Nat.or_comm,<-h2] at h1
 rw [<-h1]
 rw [Int.natCast_mul]
 rfl
def kF (k m:Nat):Value:=
 if ak<=k*4503599627370496+m then .tuple #[.float .f64 ak,.iface 223 (.int .i64 1)] else .tuple #[.float .f64 (k*4503599627370496+m),.nilIface]
theorem yh (k m:Nat) (z e:Int) (w:World) (hz:z=(m:Int)) (he:e=(k:Int)-1074) (hm:m<9007199254740992) (hkm:k=0∨4503599627370496<=m):
 Calls Tryz.prog 263 #[.int .u64 z,.int .i64 e] w fun r w'=>r=.returned (kF k m)/\w'=w:=by
 subst hz
 by_cases h52:m<4503599627370496
 ·have hk:k=0:=by omega
  subst hk
  refine (LU m m e w (hide (by omega)) (yV h52)).mono ?_
  rintro r w' ⟨rfl,rfl⟩
  refine ⟨?_,rfl⟩
  unfold kF
  rw [if_neg (by unfold ak;omega),Nat.zero_mul,Nat.zero_add]
 ·have hge:4503599627370496<=m:=by omega
  by_cases hk:2046<=k
  ·refine (IE m e w (lG hge hm) (by omega) (IY (by omega)) Jy).mono ?_
   rintro r w' ⟨rfl,rfl⟩
   refine ⟨?_,rfl⟩
   unfold kF
   rw [if_pos (by unfold ak;omega)]
   rfl
  ·refine (KA (k*4503599627370496+m) m ((m-4503599627370496:Nat):Int) (((k+1)*4503599627370496+(m-4503599627370496):Nat):Int) e w (lG hge hm) (by omega) (by omega) (Gf hge hm) ?_ (hide (by omega))).mono ?_
   ·have:=PD (r:=m-4503599627370496) (k:=k+1) (by omega) (by omega)
    have e1:1075+e=((k+1:Nat):Int):=by omega
    rw [e1]
    exact this
   ·rintro r w' ⟨rfl,rfl⟩
    refine ⟨?_,rfl⟩
    unfold kF
    rw [if_neg (by unfold ak;omega)]
end Go.Proofs.YtjibjahfbblieaaGreatDoor.F
namespace Go.Proofs.YtjibjahfbblieaaGreatDoor.F
open Go Go.RowKit
set_option linter.unusedVariables false
set_option maxRecDepth 100000 in
set_option maxHeartbeats 800000 in
theorem iQ (i hi lo g:Nat) (e lp p:Int) (w:World) (hp:p+348=(i:Int)) (hi696:i<696) (he1: -5000<=e) (he2:e<=5000) (hl1: -5000<=lp) (hl2:lp<=5000)
 (hg:14<g) (f0:w.frozen? ⟨g,0,none⟩=false) (f1:w.frozen? ⟨g,1,none⟩=false) (f2:w.frozen? ⟨g,2,none⟩=false)
 (t0:w.cell? ⟨14,i*2,none⟩=some (.int .u64 hi)) (t1:w.cell? ⟨14,i*2+1,none⟩=some (.int .u64 lo))
 (c0:w.cell? ⟨g,0,none⟩=some (.int .u64 0)) (c1:w.cell? ⟨g,1,none⟩=some (.int .u64 0)) (c2:w.cell? ⟨g,2,none⟩=some (.int .i64 0)):
 Calls Tryz.prog 228 #[.pointer (some ⟨g,0,none⟩),.int .i64 e,.int .i64 p,.int .i64 lp] w fun r w'=>r=.returned (.tuple #[])/\w'=((w.setCell ⟨g,0,none⟩ (.int .u64 hi)).setCell ⟨g,1,none⟩ (.int .u64 lo)).setCell ⟨g,2,none⟩ (.int .i64 (-(e+lp+3))):=by
 go_enter Tryz.func228,Tryz.ntmps228
 go_wp2
 go_end0
 exact ⟨rfl,rfl⟩
end Go.Proofs.YtjibjahfbblieaaGreatDoor.F
namespace Go.Proofs.YtjibjahfbblieaaGreatDoor.F
open Go Go.RowKit
set_option linter.unusedVariables false
theorem jB (x:Nat) (h0:x≠0) (h:x<2^64):1<=Lib.bitLen x/\2^(Lib.bitLen x-1)<=x/\x<2^Lib.bitLen x:=by
 induction x using Nat.strongRecOn with
 |ind x ih=>
  rw [Lib.bitLen_half x h0 h]
  by_cases h1:x/2=0
  ·have hx:x=1:=by omega
   subst hx
   have:Lib.bitLen (1/2)=0:=by decide
   rw [this];decide
  ·have:=ih (x/2) (by omega) h1 (by omega)
   obtain ⟨g1,g2,g3⟩:=this
   generalize Lib.bitLen (x/2)=b at *
   refine ⟨by omega,?_,?_⟩
   ·have e:1+b-1=(b-1)+1:=by omega
    rw [e,Nat.pow_succ];omega
   ·rw [Nat.add_comm,Nat.pow_succ];omega
theorem bitLen_le64 (x:Nat) (h0:x≠0) (h:x<2^64):Lib.bitLen x<=64:=by
 have hb:=jB x h0 h
 have h2:2^(Lib.bitLen x-1)<2^64:=Nat.lt_of_le_of_lt hb.2.1 h
 have:=(Nat.pow_lt_pow_iff_right (by omega)).1 h2
 omega
theorem jl (d b:Nat) (hd:d<18446744073709551616) (hb:b=Lib.bitLen d) (w:World):
 Calls Tryz.prog 158 #[.int .u64 d] w fun e w'=>e=.returned (.int .i64 b)/\w'=w:=by
 subst hb
 exact Tryz.bits_Len64 d w (by omega) (by omega)
theorem BG {p:Int} (h1: -345<=p) (h2:p<=310): -1147<=dP p/\dP p<=1030:=by unfold dP;omega
theorem pJ (k m:Nat):∃ f v,kF k m=.tuple #[.float .f64 f,v]:=by
 unfold kF;split
 ·exact ⟨_,_,rfl⟩
 ·exact ⟨_,_,rfl⟩
def OV (ke u:Nat):Value:=if 36028797018963966<=u then kF (ke+1) (fu (u/2|||u%2)) else kF ke (fu u)
theorem and1 {u:Nat} (h:u<288230376151711744):bits .and .u64 (u:Int) 1=((u%2:Nat):Int):=by
 have:=u64_and_nat u 1 (by omega) (by omega)
 rw [Nat.and_one_is_mod] at this
 exact this
theorem KS {u:Nat} (h:u<288230376151711744):bits .or .u64 ((u:Int)/2) (bits .and .u64 (u:Int) 1)=((u/2|||u%2:Nat):Int):=by
 rw [and1 h]
 exact u64_or_nat (u/2) (u%2) (by omega) (by omega)
theorem Kj {u:Nat} (h:u<288230376151711744):bits .or .u64 (u:Int) (bits .and .u64 (u:Int) 1)=(u:Int):=by
 rw [and1 h,u64_or_nat u (u%2) (by omega) (by omega)]
 rw [<-Nat.and_one_is_mod]
 have:u|||(u&&&1)=u:=by
  apply Nat.eq_of_testBit_eq
  intro i
  rw [Nat.testBit_or,Nat.testBit_and]
  cases u.testBit i<;>simp
 rw [this]
theorem zero_or {m:Nat} (h:m<18446744073709551616):bits .or .u64 0 (m:Int)=(m:Int):=by
 have:=u64_or_nat 0 m (by omega) h
 rw [Nat.zero_or] at this
 exact this
theorem Bw {u:Nat} (h:u<288230376151711744):(u/2|||u%2)<9223372036854775808:=by
 have:(u/2|||u%2)<2^63:=Nat.or_lt_two_pow (by omega) (by omega)
 exact this
theorem dV {w:World} {o:Obj} {b k:Nat} {v:Value} (hb:b<w.heap.size) (h:w.cell? ⟨b,k,none⟩=some v):(w.alloc o).cell? ⟨b,k,none⟩=some v:=
 (((Below.refl w.heap.size w).alloc (Nat.le_refl _) o).cell (p:=⟨b,k,none⟩) hb).trans h
set_option maxRecDepth 100000 in
set_option maxHeartbeats 1600000 in
theorem F4 (d b i hi lo s x:Nat) (p lp:Int) (w:World) (hd:d<18446744073709551616) (hb:Hid (b=Lib.bitLen d)) (hb1:1<=b) (hb2:b<=64) (hp1: -345<=p) (hp2:p<=310)
 (hlp:Hid (lp=dP p)) (hl1: -1147<=lp) (hl2:lp<=1030) (hp:Hid (p+348=(i:Int))) (hi696:i<696) (hg:14<w.heap.size)
 (t0:w.cell? ⟨14,i*2,none⟩=some (.int .u64 hi)) (t1:w.cell? ⟨14,i*2+1,none⟩=some (.int .u64 lo))
 (hs:Hid ((s:Int)=61-min 1074 (53-(b:Int)-lp)-b-lp)) (hs64:s<64) (hx:Hid (x=d*2^(64-b))) (hx2:x<18446744073709551616) (hhi:hi<18446744073709551616) (hlo:lo<18446744073709551616) (hpos:Hid (0<x*hi/aF)) (u:Nat) (hu:Hid (u=sM x hi lo s)) (hu63:u<288230376151711744) (ke:Nat)
 (hke:Hid ((ke:Int)=1074-min 1074 (53-(b:Int)-lp))) (hm1:Hid (36028797018963966<=u->fu (u/2|||u%2)<9007199254740992/\4503599627370496<=fu (u/2|||u%2)))
 (hm2:Hid (u<36028797018963966->fu u<9007199254740992/\(ke=0∨4503599627370496<=fu u))):
 Calls Tryz.prog 255 #[.int .u64 d,.int .i64 p,.int .u64 0] w fun r w'=>r=.returned (OV ke u)/\Below w.heap.size w w':=by
 go_enter Tryz.func255,Tryz.ntmps255
 go_wp2_with fail
 refine (jl d b hd hb.out _).mono ?_
 rintro r w1 ⟨rfl,rfl⟩
 go_wp2_with fail
 refine (iA p _ (by omega) (by omega)).mono ?_
 rintro r w1 ⟨rfl,rfl⟩
 rw [<-hlp.out]
 go_wp2_with fail
 have he1: -1100<=min 1074 (53-(b:Int)-lp):=by omega
 have he2:min 1074 (53-(b:Int)-lp)<=1074:=by omega
 generalize min 1074 (53-(b:Int)-lp)=e at *
 refine (iQ i hi lo _ (e-(64-(b:Int))) lp p _ hp.out hi696 (by omega) (by omega) (by omega) (by omega) hg (by simp) (by simp) (by simp) (dV (by omega) t0) (dV (by omega) t1) (by simp) (by simp) (by simp)).mono ?_
 rintro r w2 ⟨rfl,rfl⟩
 have hss: -(e-(64-(b:Int))+lp+3)=(s:Int):=by have:=hs.out;omega
 have HSS:=hide hss
 rw [hss]
 clear hss
 go_wp2_with fail
 have hxw:IntKind.u64.wrap ((d:Int)*2^(64-b))=(x:Int):=by
  have e1:(d:Int)*2^(64-b)=(x:Int):=by rw [hx.out,Int.natCast_mul,oz]
  rw [e1,wrap_u64 (by omega) (by omega)]
 rw [hxw]
 refine (mR x hi lo s _ _ hx2 hhi hlo hs64 hpos.out (by simp) (by simp) (by simp)).mono ?_
 rintro r w2 ⟨rfl,n,rfl⟩
 rw [<-hu.out]
 clear hxw
 by_cases hsh:36028797018963966<=(u:Int)
 ·go_wp2_with fail
  refine (uN _).mono ?_
  rintro r w2 ⟨rfl,rfl⟩
  go_wp2_with fail
  refine (Tryz.internal_strconv_bool2_int _ _).mono ?_
  rintro r w2 ⟨rfl,rfl⟩
  go_wp2_with fail
  rw [KS hu63]
  refine (lU (u/2|||u%2) _ (Bw hu63)).mono ?_
  rintro r w2 ⟨rfl,rfl⟩
  have hm:=hm1.out (by omega)
  have HP:Hid (OV ke u=kF (ke+1) (fu (u/2|||u%2))):=hide (by unfold OV;rw [if_pos (by omega)])
  generalize fu (u/2|||u%2)=m at *
  obtain ⟨hma,hmb⟩:=hm
  have hz:=zero_or (m:=m) (by omega)
  go_wp2_with fail
  refine (yh (ke+1) m _ _ _ rfl (by have:=hke.out;omega) hma (.inr hmb)).mono ?_
  rintro r w2 ⟨rfl,rfl⟩
  obtain ⟨f,v,hv⟩:=pJ (ke+1) m
  have HV:=hide hv
  rw [hv]
  clear hv
  go_wp2
  go_ret2
  exact ⟨by rw [HP.out,HV.out];rfl,below_drewN ((Below.refl _ _).alloc (Nat.le_refl _) _) _⟩
 ·go_wp2_with fail
  refine (uN _).mono ?_
  rintro r w2 ⟨rfl,rfl⟩
  go_wp2_with fail
  have hsf:decide ((36028797018963966:Int)<=(u:Int))=false:=decide_eq_false (by omega)
  rw [hsf]
  refine (Tryz.internal_strconv_bool2_int false _).mono ?_
  rintro r w2 ⟨rfl,rfl⟩
  rw [if_neg (by decide)]
  have Hsh:=hide hsh
  clear hsf hsh
  go_wp2_with fail
  rw [Kj hu63]
  refine (lU u _ (by omega)).mono ?_
  rintro r w2 ⟨rfl,rfl⟩
  have hsh:=Hsh.out
  have hm:=hm2.out (by omega)
  have HP:Hid (OV ke u=kF ke (fu u)):=hide (by unfold OV;rw [if_neg (by omega)])
  generalize fu u=m at *
  obtain ⟨hma,hmb⟩:=hm
  have Hmb:=hide hmb
  clear hmb
  have hz:=zero_or (m:=m) (by omega)
  go_wp2_with fail
  refine (yh ke m _ _ _ rfl (by have:=hke.out;omega) hma Hmb.out).mono ?_
  rintro r w2 ⟨rfl,rfl⟩
  obtain ⟨f,v,hv⟩:=pJ ke m
  have HV:=hide hv
  rw [hv]
  clear hv
  go_wp2
  go_ret2
  exact ⟨by rw [HP.out,HV.out];rfl,below_drewN ((Below.refl _ _).alloc (Nat.le_refl _) _) _⟩
end Go.Proofs.YtjibjahfbblieaaGreatDoor.F
namespace Go.Proofs.YtjibjahfbblieaaGreatDoor.F
open Go Go.RowKit
set_option linter.unusedVariables false
def Qg (W:Nat):Value:=if W=ak then .tuple #[.float .f64 ak,.iface 223 (.int .i64 1)] else .tuple #[.float .f64 W,.nilIface]
theorem tT (k m:Nat):kF k m=Qg (min (k*4503599627370496+m) ak):=by
 unfold kF Qg
 by_cases h:ak<=k*4503599627370496+m
 ·rw [if_pos h,Nat.min_eq_right h,if_pos rfl]
 ·rw [if_neg h,Nat.min_eq_left (by omega),if_neg (by omega)]
theorem Ic (A B:Nat):unr A B<=A/B+1:=by rw [iy];split<;>omega
theorem KM {N D:Nat} (hD:0<D) (U:N*1048576<D*18889447917080071372800):unr (4*N) D<288230376151711744:=by
 have h1:=Ic (4*N) D
 have h2:4*N/D<144115188075855872:=by
  rw [Nat.div_lt_iff_lt_mul hD]
  omega
 omega
theorem PF.tiny {d:Nat} {p:Int} {b s ke c:Nat} (h:PF d p b s ke) (hc:c=1074) (hs:64<=s):2*(d*10^p.toNat*2^c)<10^(-p).toNat:=by
 have hk:ke=0:=by rcases h.hke with hk|hk;exact hk;omega
 have hbal:=h.bal hc
 have hx:=h.x.2
 have hr:=(Aq h.hp1 h.hp2).2
 have hden:0<aS p:=Nat.mul_pos (Nat.pow_pos (by omega)) (Nat.pow_pos (by omega))
 have hS:2^64<=2^s:=Nat.pow_le_pow_right (by omega) hs
 subst hk
 rw [Nat.pow_zero,Nat.mul_one] at hbal
 have hDd:0<10^(-p).toNat:=Nat.pow_pos (by omega)
 generalize d*10^p.toNat*2^c=N at *
 generalize 10^(-p).toNat=D at *
 generalize d*2^(64-b)=x at *
 generalize eO p=a at *
 generalize aS p=q at *
 generalize 2^s=S at *
 clear h hc
 have h1:x*a*1048576<q*(S*bg)*1048576:=by
  have s1:x*(a*1048576)<=x*(q*356811582894123049326108028987766352327475200):=Nat.mul_le_mul_left _ hr
  have s2:x*(q*356811582894123049326108028987766352327475200)<=18446744073709551616*(q*356811582894123049326108028987766352327475200):=Nat.mul_le_mul_right _ (Nat.le_of_lt hx)
  have s3:q*(18446744073709551616*bg)<=q*(S*bg):=Nat.mul_le_mul_left _ (Nat.mul_le_mul_right _ hS)
  rw [Nat.mul_assoc x a]
  refine Nat.lt_of_le_of_lt (Nat.le_trans s1 s2) (Nat.lt_of_lt_of_le ?_ (Nat.mul_le_mul_right _ s3))
  rw [Nat.mul_left_comm,Nat.mul_assoc q]
  exact Nat.mul_lt_mul_of_pos_left (by decide) hden
 have h2:x*a<q*(S*bg):=Nat.lt_of_mul_lt_mul_right h1
 have h3:x*a*D<q*(S*bg)*D:=Nat.mul_lt_mul_of_pos_right h2 hDd
 rw [hbal] at h3
 have h4:q*(S*bg)*(4*N)<q*(S*bg)*D:=by rw [Nat.mul_comm _ (4*N)];exact h3
 have h5:=Nat.lt_of_mul_lt_mul_left h4
 omega
set_option maxRecDepth 100000 in
set_option maxHeartbeats 1600000 in
theorem E9 (d b i hi lo s:Nat) (p lp:Int) (w:World) (hd:d<18446744073709551616) (hb:Hid (b=Lib.bitLen d)) (hb1:1<=b) (hb2:b<=64) (hp1: -345<=p) (hp2:p<=310)
 (hlp:Hid (lp=dP p)) (hl1: -1147<=lp) (hl2:lp<=1030) (hp:Hid (p+348=(i:Int))) (hi696:i<696) (hg:14<w.heap.size)
 (t0:w.cell? ⟨14,i*2,none⟩=some (.int .u64 hi)) (t1:w.cell? ⟨14,i*2+1,none⟩=some (.int .u64 lo))
 (hs:Hid ((s:Int)=61-min 1074 (53-(b:Int)-lp)-b-lp)) (hs64:64<=s):
 Calls Tryz.prog 255 #[.int .u64 d,.int .i64 p,.int .u64 0] w fun r w'=>r=.returned (.tuple #[.float .f64 0,.nilIface])/\Below w.heap.size w w':=by
 have hfb:=bB
 have hz:bits .or .u64 0 0=0:=zero_or (m:=0) (by omega)
 go_enter Tryz.func255,Tryz.ntmps255
 go_wp2_with fail
 refine (jl d b hd hb.out _).mono ?_
 rintro r w1 ⟨rfl,rfl⟩
 go_wp2_with fail
 refine (iA p _ (by omega) (by omega)).mono ?_
 rintro r w1 ⟨rfl,rfl⟩
 rw [<-hlp.out]
 go_wp2_with fail
 have he1: -1100<=min 1074 (53-(b:Int)-lp):=by omega
 have he2:min 1074 (53-(b:Int)-lp)<=1074:=by omega
 generalize min 1074 (53-(b:Int)-lp)=e at *
 refine (iQ i hi lo _ (e-(64-(b:Int))) lp p _ hp.out hi696 (by omega) (by omega) (by omega) (by omega) hg (by simp) (by simp) (by simp) (dV (by omega) t0) (dV (by omega) t1) (by simp) (by simp) (by simp)).mono ?_
 rintro r w2 ⟨rfl,rfl⟩
 have hss: -(e-(64-(b:Int))+lp+3)=(s:Int):=by have:=hs.out;omega
 rw [hss]
 clear hss
 go_wp2
 go_ret2
 exact ⟨by simp,(Below.refl _ _).alloc (Nat.le_refl _) _⟩
theorem qL (d:Nat) (p:Int) (w:World) (hd0:d≠0) (hd:d<18446744073709551616) (hp1: -345<=p) (hp2:p<=310) (hg:14<w.heap.size)
 (t0:w.cell? ⟨14,(p+348).toNat*2,none⟩=some (.int .u64 (rowAt p).1)) (t1:w.cell? ⟨14,(p+348).toNat*2+1,none⟩=some (.int .u64 (rowAt p).2)):
 Calls Tryz.prog 255 #[.int .u64 d,.int .i64 p,.int .u64 0] w fun r w'=>∃ W,r=.returned (Qg W)/\aB d p W/\Below w.heap.size w w':=by
 obtain ⟨b1,b2,b3⟩:=jB d hd0 hd
 have b4:=bitLen_le64 d hd0 hd
 obtain ⟨l1,l2⟩:=BG hp1 hp2
 have hrow:=of_decide_eq_true (wR (p:=p) (by omega) (by omega))
 have hhi:=wh (p:=p) (by omega) (by omega)
 obtain ⟨r1,r2,_,_,_⟩:=hrow
 generalize hb:Lib.bitLen d=b at *
 generalize hlp:dP p=lp at *
 obtain ⟨s,hs⟩:∃ s:Nat,(s:Int)=61-min 1074 (53-(b:Int)-lp)-b-lp:=⟨(61-min 1074 (53-(b:Int)-lp)-b-lp).toNat,by omega⟩
 obtain ⟨ke,hke⟩:∃ ke:Nat,(ke:Int)=1074-min 1074 (53-(b:Int)-lp):=⟨(1074-min 1074 (53-(b:Int)-lp)).toNat,by omega⟩
 have pf:PF d p b s ke:=⟨b4,b2,b3,b1,hp1,hp2,by omega,by rw [hlp];omega,by omega⟩
 have hden:0<10^(-p).toNat:=Nat.pow_pos (by omega)
 by_cases h64:s<64
 ·have hu:=MU hp1 hp2 (s:=s) pf.x.1 pf.x.2 pf.hs
  rw [pf.unr rfl] at hu
  have L:=pf.lower rfl
  have U:=pf.upper rfl
  have hpos:0<d*2^(64-b)*(rowAt p).1/aF:=by
   rw [Nat.div_pos_iff]
   refine ⟨by rw [e64];omega,?_⟩
   have:9223372036854775808*9223372036854775808<=d*2^(64-b)*(rowAt p).1:=Nat.mul_le_mul pf.x.1 hhi
   rw [e64];omega
  refine (F4 d b (p+348).toNat (rowAt p).1 (rowAt p).2 s (d*2^(64-b)) p lp w hd (hide hb.symm) b1 b4 hp1 hp2 (hide hlp.symm) l1 l2 (hide (by omega)) (by omega) hg t0 t1 (hide hs) h64 (hide rfl) pf.x.2 r1 r2 (hide hpos) _ (hide rfl) ?_ ke (hide hke) (hide ?_) (hide ?_)).mono ?_
  ·rw [hu]
   exact KM (Nat.mul_pos hden (Nat.pow_pos (by omega))) U
  ·intro h
   rw [hu] at h ⊢
   have:=y8 hden U L h
   exact ⟨this.1,this.2.1⟩
  ·intro h
   rw [hu] at h ⊢
   have:=xX hden L h
   exact ⟨this.1,this.2.2⟩
  ·rintro r w' ⟨rfl,hbel⟩
   unfold OV
   rw [hu]
   by_cases h:36028797018963966<=unr (4*(d*10^p.toNat*2^1074)) (10^(-p).toNat*2^ke)
   ·rw [if_pos h,tT]
    exact ⟨_,rfl,(y8 hden U L h).2.2,hbel⟩
   ·rw [if_neg h,tT]
    exact ⟨_,rfl,(xX hden L (Nat.lt_of_not_le h)).2.1,hbel⟩
 ·refine (E9 d b (p+348).toNat (rowAt p).1 (rowAt p).2 s p lp w hd (hide hb.symm) b1 b4 hp1 hp2 (hide hlp.symm) l1 l2 (hide (by omega)) (by omega) hg t0 t1 (hide hs) (by omega)).mono ?_
  have tiny:∀ c,c=1074->aC (d*10^p.toNat*2^c) (10^(-p).toNat) 0:=fun c hc=>o_ (pf.tiny hc (by omega))
  rintro r w' ⟨rfl,hbel⟩
  exact ⟨0,rfl,tiny 1074 rfl,hbel⟩
end Go.Proofs.YtjibjahfbblieaaGreatDoor.F
