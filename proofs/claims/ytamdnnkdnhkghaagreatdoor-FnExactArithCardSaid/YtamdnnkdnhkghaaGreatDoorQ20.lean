import Derived.Lib.ParseIntBCases
import Derived.Lib.IndexAny
import Derived.Lib.IndexMore
import Derived.Test.YtamdnnkdnhkghaaGreatDoorQ18
import Derived.Test.YtamdnnkdnhkghaaGreatDoorQ19
set_option maxHeartbeats 12800000
set_option maxRecDepth 100000
set_option linter.unusedVariables false
namespace Go.Proofs.YtamdnnkdnhkghaaGreatDoor
open Go Go.RowKit
theorem ztl {A A' D:Nat} (hD:0<D) (h:A<=A'):rq A D<=rq A' D:=by
 unfold rq
 have hq:=Nat.div_le_div_right (c:=D) h
 have e1:=Nat.div_add_mod A D
 have e2:=Nat.div_add_mod A' D
 have r1:=Nat.mod_lt A hD
 have r2:=Nat.mod_lt A' hD
 by_cases c:A/D=A'/D
 ·rw [c] at e1 ⊢
  have hr:A%D<=A'%D:=by omega
  generalize A'/D=q at *
  generalize A%D=r at *
  generalize A'%D=r' at *
  split
  ·rename_i h1
   rw [if_pos (by omega)]
   exact Nat.le_refl _
  split<;>omega
 have:A/D+1<=A'/D:=by omega
 split<;>split<;>omega
theorem IsRnd.mono {A A' d W W':Nat} (hd:0<d) (h:A<=A') (h1:IsRnd A d W) (h2:IsRnd A' d W'):W<=W':=by
 obtain ⟨k,a1,a2,a3⟩:=h1
 obtain ⟨k',b1,b2,b3⟩:=h2
 have p2':∀ n:Nat,0<2^n:=fun n=>Nat.pow_pos (by omega)
 have key:k*4503599627370496+rq A (d*2^k)<=k'*4503599627370496+rq A' (d*2^k'):=by
  rcases Nat.lt_trichotomy k k' with c|c|c
  ·have u1:rq A (d*2^k)<=9007199254740992:=by
    rw [<-pow53];refine rqLe (Nat.mul_pos hd (p2' _)) ?_
    rw [Nat.mul_assoc,<-Nat.pow_add,Nat.add_comm k 53];exact a1
   have u2:4503599627370496<=rq A' (d*2^k'):=by
    rw [<-pow52];refine rqGe (Nat.mul_pos hd (p2' _)) ?_
    rw [Nat.mul_assoc,<-Nat.pow_add,Nat.add_comm k' 52]
    rcases b2 with g|g
    ·omega
    exact g
   have:=Nat.mul_le_mul_right 4503599627370496 c
   rw [Nat.succ_mul] at this
   omega
  ·subst c
   have:=ztl (Nat.mul_pos hd (p2' k)) h
   omega
  exfalso
  rcases a2 with g|g
  ·omega
  have h3:d*2^(53+k')<=d*2^(52+k):=Nat.mul_le_mul_left _ (Nat.pow_le_pow_right (by omega) (by omega))
  omega
 rw [a3,b3]
 omega
theorem zam.ex (N:Nat) (E:Int):∃ W,zam N E W:=zgA _ (p10 _)
theorem zam.shift {m c W:Nat} {E:Int} (h:zam m (E+c) W):zam (m*10^c) E W:=by
 unfold zam at *
 have h1:=(IsRnd.scale (c:=10^(c+(-E).toNat-(-(E+c)).toNat)) (p10 _)).2 h
 have h2:=(IsRnd.scale (N:=m*10^c*10^E.toNat*2^1074) (d:=10^(-E).toNat) (W:=W) (c:=10^c) (p10 _)).1
 apply h2
 have e1:m*10^(E+↑c).toNat*2^1074*10^(c+(-E).toNat-(-(E+↑c)).toNat)=m*10^c*10^E.toNat*2^1074*10^c:=by
  generalize 2^1074=t
  have e:10^(E+↑c).toNat*10^(c+(-E).toNat-(-(E+↑c)).toNat)=10^c*10^E.toNat*10^c:=by
   rw [<-Nat.pow_add,<-Nat.pow_add,<-Nat.pow_add];congr 1;omega
  calc m*10^(E+↑c).toNat*t*10^(c+(-E).toNat-(-(E+↑c)).toNat)=m*t*(10^(E+↑c).toNat*10^(c+(-E).toNat-(-(E+↑c)).toNat)):=by simp only [Nat.mul_comm,Nat.mul_left_comm,Nat.mul_assoc]
   _=m*t*(10^c*10^E.toNat*10^c):=by rw [e]
   _=m*10^c*10^E.toNat*t*10^c:=by simp only [Nat.mul_comm,Nat.mul_left_comm,Nat.mul_assoc]
 have e2:10^(-(E+↑c)).toNat*10^(c+(-E).toNat-(-(E+↑c)).toNat)=10^(-E).toNat*10^c:=by
  rw [<-Nat.pow_add,<-Nat.pow_add];congr 1;omega
 rw [e1,e2] at h1
 exact h1
theorem zam.mono {N N' W W':Nat} {E:Int} (h:N<=N') (h1:zam N E W) (h2:zam N' E W'):W<=W':=
 IsRnd.mono (p10 _) (Nat.mul_le_mul_right _ (Nat.mul_le_mul_right _ h)) h1 h2
theorem zri {N:Nat} (h:N≠0):rfC N+1<=zaC N:=by
 have h1:zaC N≠0:=by rw [zcC h];omega
 unfold rfC;omega
theorem zqW (N:Nat):zaC N<=rfC N+19:=by unfold rfC;omega
theorem ze9 {N:Nat} (h:rfM N=0):N=0:=by
 rcases Nat.eq_zero_or_pos N with e|e
 ·exact e
 exfalso
 have h1:=zdX (n:=N) (by omega)
 have h2:=zri (N:=N) (by omega)
 unfold rfM at h
 have h3:N<10^rfC N:=by
  rcases Nat.lt_or_ge N (10^rfC N) with g|g
  ·exact g
  have:=Nat.div_pos g (p10 _);omega
 have:=zcr (Nat.lt_of_le_of_lt h1 h3)
 omega
theorem pow_fact3:2*2^1074<10^324:=by decide+kernel
theorem zqf {N:Nat} {E:Int} (h:E+rfC N< -345):zam N E 0:=by
 have h1:=zqW N
 exact zgK (a:=324) (b:=1074) pow_fact3 (by omega)
theorem zqP {N W:Nat} {E:Int} (ht:rfT N=false) (h:zam (rfM N) (E+rfC N) W):zam N E W:=by
 have h1:=h.shift
 unfold rfT at ht
 rw [decide_eq_false_iff_not] at ht
 have h2:=Nat.div_add_mod N (10^rfC N)
 have e:rfM N*10^rfC N=N:=by
  unfold rfM
  rw [Nat.mul_comm]
  omega
 rw [e] at h1
 exact h1
theorem zsW {N W:Nat} {E:Int} (h1:zam (rfM N) (E+rfC N) W) (h2:zam (rfM N+1) (E+rfC N) W):zam N E W:=by
 obtain ⟨V,hV⟩:=zam.ex N E
 have h3:=Nat.div_add_mod N (10^rfC N)
 have h4:=Nat.mod_lt N (p10 (rfC N))
 have a1:rfM N*10^rfC N<=N:=by unfold rfM;exact Nat.div_mul_le_self _ _
 have a2:N<=(rfM N+1)*10^rfC N:=by
  unfold rfM
  rw [Nat.add_mul,Nat.one_mul,Nat.mul_comm (N/_)]
  omega
 have b1:=zam.mono a1 h1.shift hV
 have b2:=zam.mono a2 hV h2.shift
 have:V=W:=by omega
 rw [<-this]
 exact hV
theorem zq5 (N:Nat):rfM N<10000000000000000000:=by
 have h1:=zce N
 have h2:=zqW N
 unfold rfM
 refine Nat.div_lt_of_lt_mul ?_
 have e:(10000000000000000000:Nat)=10^19:=by decide
 rw [e,<-Nat.pow_add]
 exact Nat.lt_of_lt_of_le h1 (Nat.pow_le_pow_right (by omega) (by omega))
theorem zb7 (s:ByteArray) (w:World) (h0:0<s.size) (hc:((s[0].toNat:Nat):Int)=46∨(48<=((s[0].toNat:Nat):Int)/\((s[0].toNat:Nat):Int)<=57)):
 Rs 217 #[.string s] w (.tuple #[.float .f64 0,.int .i64 0,.bool false]):=by
 have e43:(((s[0].toNat:Nat):Int)==43)=false:=bq (by omega)
 have e45:(((s[0].toNat:Nat):Int)==45)=false:=bq (by omega)
 have e105:(((s[0].toNat:Nat):Int)==105)=false:=bq (by omega)
 have e73:(((s[0].toNat:Nat):Int)==73)=false:=bq (by omega)
 have e110:(((s[0].toNat:Nat):Int)==110)=false:=bq (by omega)
 have e78:(((s[0].toNat:Nat):Int)==78)=false:=bq (by omega)
 have h0a:(0:Int)<(s.size:Int):=by omega
 have h0b:¬ s.size=0:=by omega
 have h0c:((s.size:Int)==0)=false:=bq (by omega)
 clear hc
 go_enter Tryz.func217,Tryz.ntmps217
 go_wp2
 go_ret3
 exact ⟨rfl,rfl⟩
def errV (W:Nat):Value:=if W=infW then .iface 149 (.int .i64 1) else .nilIface
def AtR (N:Nat) (E:Int) (s:ByteArray) (w:World) (e:Ending) (w':World):Prop:=
 ∃ W,e=.returned (.tuple #[.float .f64 W,.int .i64 s.size,errV W])/\zam N E W/\Below w.heap.size w w'
structure Vars (w:World) (G o P po C co:Nat):Prop where
 tabs:Tabs w G o
 h12:21<w.heap.size
 hP:P<w.heap.size
 opt:w.cell? ⟨12,0,none⟩=some (.bool true)
 expb:w.cell? ⟨14,1,none⟩=some (.int .u64 11)
 bias:w.cell? ⟨14,2,none⟩=some (.int .i64 (-1023))
 slice:w.cell? ⟨18,0,none⟩=some (.slice (some ⟨P,po,none⟩) 9 9)
 tab:∀ k,k<9->w.cell? ⟨P,po+k,none⟩=some (.int .i64 (powRow.getD k 0:Nat))
 cheats:zdG w C co
theorem znY (W:Nat):pfV W=.tuple #[.float .f64 W,errV W]:=by
 unfold pfV errV
 split
 ·rename_i h;rw [h]
 rfl
theorem zep {W:Nat} (h:W≠infW):errV W=.nilIface:=by unfold errV;rw [if_neg h]
theorem errV_inf:errV infW=.iface 149 (.int .i64 1):=by unfold errV;rw [if_pos rfl]
theorem zh5 (w:World):Rs 226 #[.bool false] w (.int .u64 0):=by
 go_enter Tryz.func226,Tryz.ntmps226
 go_wp2
 go_ret
 exact ⟨rfl,rfl⟩
theorem Vars.drewN {w:World} {G o P po C co:Nat} (h:Vars w G o P po C co) (q:Nat):Vars (w.drewN q) G o P po C co:=
 ⟨⟨h.tabs.size,h.tabs.hG,h.tabs.mant,h.tabs.slice,h.tabs.tens,h.tabs.rows0,h.tabs.rows1⟩,h.h12,h.hP,h.opt,h.expb,h.bias,h.slice,h.tab,⟨h.cheats.size,h.cheats.hG,h.cheats.slice,h.cheats.delta,h.cheats.cut⟩⟩
theorem zsw (N G o P po C co:Nat) (E:Int) (s:ByteArray) (w:World) (h0:0<s.size) (hs:s.size<=100) (hc:((s[0].toNat:Nat):Int)=46∨(48<=((s[0].toNat:Nat):Int)/\((s[0].toNat:Nat):Int)<=57)) (hrf:Calls Tryz.prog 218 #[.string s] w fun e w'=>RFR N E s w e w')
 (hV:Vars w G o P po C co) (hN:N=0):
 Calls Tryz.prog 198 #[.string s] w fun e w'=>AtR N E s w e w':=by
 have ho:=hV.opt
 have HV:=hide hV
 have S:=zb7 s w h0 hc
 have HS:=hide S
 have HR:=hide hrf
 have hm:rfM N=0:=by rw [hN];unfold rfM;rw [Nat.zero_div]
 have HD:Hid (zam N E 0):=hide (by rw [hN];exact zdS E)
 have hb0:bits .or .u64 0 0=0:=by decide
 have hfb:=zaS
 clear hc hrf S hV hN
 go_enter Tryz.func198,Tryz.ntmps198
 go_wp2_with fail
 refine HS.out.mono ?_
 rintro e w' ⟨rfl,rfl⟩
 go_wp2_with fail
 refine HR.out.mono ?_
 rintro e w' ⟨rfl,q,rfl⟩
 have hmi:((rfM N:Nat):Int)=0:=by omega
 go_wp2
 go_ret3
 refine ⟨0,?_,HD.out,below_drewN (Below.refl _ _) _⟩
 rw [zep (by rw [infW_eq];omega)]
 rfl
theorem zsu (N G o P po C co:Nat) (E:Int) (s:ByteArray) (w:World) (h0:0<s.size) (hs:s.size<=100) (hc:((s[0].toNat:Nat):Int)=46∨(48<=((s[0].toNat:Nat):Int)/\((s[0].toNat:Nat):Int)<=57)) (hrf:Calls Tryz.prog 218 #[.string s] w fun e w'=>RFR N E s w e w')
 (hV:Vars w G o P po C co) (hN:N≠0) (hp:310<E+rfC N):
 Calls Tryz.prog 198 #[.string s] w fun e w'=>AtR N E s w e w':=by
 have ho:=hV.opt
 have HV:=hide hV
 have S:=zb7 s w h0 hc
 have HS:=hide S
 have HR:=hide hrf
 have hm:rfM N≠0:=fun h=>hN (ze9 h)
 have hE:rfE N E=E+rfC N:=by unfold rfE;rw [if_neg hm]
 have HD:Hid (zam N E infW):=hide (zdH hN (by have:=zri hN;omega))
 have hp':310<rfE N E:=by omega
 have hm0:(((rfM N:Nat):Int)==0)=false:=bq (by omega)
 have hbi:bits .or .u64 0 9218868437227405312=9218868437227405312:=or_inf
 have hfb:=zaS
 clear hc hrf S hV hN hE hp hm
 go_enter Tryz.func198,Tryz.ntmps198
 go_wp2_with fail
 refine HS.out.mono ?_
 rintro e w' ⟨rfl,rfl⟩
 go_wp2_with fail
 refine HR.out.mono ?_
 rintro e w' ⟨rfl,q,rfl⟩
 go_wp2
 go_ret3
 refine ⟨infW,?_,HD.out,below_drewN (Below.refl _ _) _⟩
 rw [errV_inf]
 rfl
theorem zpq (N G o P po C co:Nat) (E:Int) (s:ByteArray) (w:World) (h0:0<s.size) (hs:s.size<=100) (hc:((s[0].toNat:Nat):Int)=46∨(48<=((s[0].toNat:Nat):Int)/\((s[0].toNat:Nat):Int)<=57)) (hrf:Calls Tryz.prog 218 #[.string s] w fun e w'=>RFR N E s w e w')
 (hV:Vars w G o P po C co) (hN:N≠0) (hp:E+rfC N< -345):
 Calls Tryz.prog 198 #[.string s] w fun e w'=>AtR N E s w e w':=by
 have ho:=hV.opt
 have HV:=hide hV
 have S:=zb7 s w h0 hc
 have HS:=hide S
 have HR:=hide hrf
 have hm:rfM N≠0:=fun h=>hN (ze9 h)
 have hE:rfE N E=E+rfC N:=by unfold rfE;rw [if_neg hm]
 have HD:Hid (zam N E 0):=hide (zqf hp)
 have hp':rfE N E< -345:=by omega
 have hm0:(((rfM N:Nat):Int)==0)=false:=bq (by omega)
 have hb0:bits .or .u64 0 0=0:=by decide
 have hfb:=zaS
 clear hc hrf S hV hN hE hp hm
 go_enter Tryz.func198,Tryz.ntmps198
 go_wp2_with fail
 refine HS.out.mono ?_
 rintro e w' ⟨rfl,rfl⟩
 go_wp2_with fail
 refine HR.out.mono ?_
 rintro e w' ⟨rfl,q,rfl⟩
 go_wp2
 go_ret3
 refine ⟨0,?_,HD.out,below_drewN (Below.refl _ _) _⟩
 rw [zep (by rw [infW_eq];omega)]
 rfl
theorem zps (N G o P po C co:Nat) (E:Int) (s:ByteArray) (w:World) (h0:0<s.size) (hs:s.size<=100) (hc:((s[0].toNat:Nat):Int)=46∨(48<=((s[0].toNat:Nat):Int)/\((s[0].toNat:Nat):Int)<=57)) (hrf:Calls Tryz.prog 218 #[.string s] w fun e w'=>RFR N E s w e w')
 (hV:Vars w G o P po C co) (hN:N≠0) (hp1: -345<=E+rfC N) (hp2:E+rfC N<=310) (ht:rfT N=false):
 Calls Tryz.prog 198 #[.string s] w fun e w'=>AtR N E s w e w':=by
 have ho:=hV.opt
 have HV:=hide hV
 have S:=zb7 s w h0 hc
 have HS:=hide S
 have HR:=hide hrf
 have hm:rfM N≠0:=fun h=>hN (ze9 h)
 have hE:rfE N E=E+rfC N:=by unfold rfE;rw [if_neg hm]
 have hml:=zq5 N
 have X:=fun (q:Nat)=>zmq (rfM N) G o (rfE N E) (w.drewN q) (hV.drewN q).tabs hm (by omega)
 have Y:=fun (q:Nat)=>zg3 (rfM N) (rfE N E) (w.drewN q) hm (by omega) (by omega) (by omega) hV.tabs.size (hV.tabs.rows0 _ (by omega)) (hV.tabs.rows1 _ (by omega))
 have HX:=hide X
 have HY:=hide Y
 have HD:Hid (∀ W,zam (rfM N) (rfE N E) W->zam N E W):=hide (fun W h=>zqP ht (by rw [<-hE];exact h))
 have hq1: -345<=rfE N E:=by omega
 have hq2:rfE N E<=310:=by omega
 have hm0:(((rfM N:Nat):Int)==0)=false:=bq (by omega)
 have hfb:=zaS
 clear hc hrf S hV hN hE hp1 hp2 hm X Y
 go_enter Tryz.func198,Tryz.ntmps198
 go_wp2_with fail
 refine HS.out.mono ?_
 rintro e w' ⟨rfl,rfl⟩
 go_wp2_with fail
 refine HR.out.mono ?_
 rintro e w' ⟨rfl,q,rfl⟩
 have hB:=zh5
 have HB:=hide hB
 clear hB
 go_wp2_with fail
 refine (HB.out _).mono ?_
 rintro e w' ⟨rfl,rfl⟩
 go_wp2_with fail
 refine (HX.out q).mono ?_
 rintro e w' ⟨⟨f,ok,rfl,hok⟩,rfl⟩
 cases ok with
 |true=>
  obtain ⟨hd1,hd2⟩:=hok rfl
  have Hd1:=hide hd1
  have Hd2:=hide hd2
  clear hd1 hd2 hok
  go_wp2
  go_ret3
  refine ⟨f,?_,HD.out _ Hd1.out,below_drewN (Below.refl _ _) _⟩
  rw [zep Hd2.out]
  rfl
 |false=>
  clear hok
  go_wp2_with fail
  refine (HY.out q).mono ?_
  rintro e w' ⟨W,rfl,hd,hb⟩
  rw [znY]
  have Hd:=hide hd
  have Hb:=hide hb
  clear hd hb
  go_wp2
  go_ret3
  exact ⟨W,rfl,HD.out _ Hd.out,(below_drewN (Below.refl _ _) _).trans Hb.out⟩
theorem zero114:Tryz.zeroCells225=(List.replicate 800 (Value.int .u8 0)++[Value.int .i64 0,Value.int .i64 0,Value.bool false,Value.bool false]).toArray:=by kernel_rfl
theorem zdy {W:Nat} (h:W<infW):∃ k q,W=k*4503599627370496+q/\q<9007199254740992/\(k=0∨4503599627370496<=q):=by
 by_cases c:W<4503599627370496
 ·exact ⟨0,W,by omega,by omega,.inl rfl⟩
 have h1:=Nat.div_add_mod W 4503599627370496
 have h2:=Nat.mod_lt W (show 0<4503599627370496 by omega)
 have h3:1<=W/4503599627370496:=(Nat.one_le_div_iff (by omega)).2 (by omega)
 refine ⟨W/4503599627370496-1,4503599627370496+W%4503599627370496,?_,by omega,.inr (by omega)⟩
 generalize W/4503599627370496=a at *
 generalize W%4503599627370496=b at *
 omega
theorem zrc {q q' k k':Nat} (hq:q<9007199254740992) (hq':q'<9007199254740992) (hk:k=0∨4503599627370496<=q) (hk':k'=0∨4503599627370496<=q') (hle:k<=k') (h:q=q'*2^(k'-k)):q=q'/\k=k':=by
 by_cases e:k=k'
 ·subst e
  rw [Nat.sub_self,Nat.pow_zero,Nat.mul_one] at h
  exact ⟨h,rfl⟩
 exfalso
 have h1:2^1<=2^(k'-k):=Nat.pow_le_pow_right (by omega) (by omega)
 have h2:4503599627370496<=q':=by omega
 have h3:=Nat.mul_le_mul h2 h1
 omega
theorem znx {q q' k k':Nat} (h:Ieee.Datum.order (.number false q ((k:Int)-1074)) (.number false q' ((k':Int)-1074))=some .eq):(k<=k'->q=q'*2^(k'-k))/\(k'<=k->q'=q*2^(k-k')):=by
 have h1:compare (Ieee.signed false q (((k:Int)-1074)-min ((k:Int)-1074) ((k':Int)-1074)).toNat) (Ieee.signed false q' (((k':Int)-1074)-min ((k:Int)-1074) ((k':Int)-1074)).toNat)=.eq:=by
  have:=h
  unfold Ieee.Datum.order at this
  exact Option.some.inj this
 have h2:=Int.compare_eq_eq.1 h1
 obtain ⟨a,ha⟩:∃ a,a=(((k:Int)-1074)-min ((k:Int)-1074) ((k':Int)-1074)).toNat:=⟨_,rfl⟩
 obtain ⟨c,hc⟩:∃ c,c=(((k':Int)-1074)-min ((k:Int)-1074) ((k':Int)-1074)).toNat:=⟨_,rfl⟩
 rw [<-ha,<-hc] at h2
 clear h h1
 have h3:q*2^a=q'*2^c:=by
  unfold Ieee.signed at h2
  rw [if_neg (by decide),if_neg (by decide),Nat.shiftLeft_eq,Nat.shiftLeft_eq] at h2
  exact Int.ofNat.inj h2
 clear h2
 constructor
 ·intro hle
  have e1:a=0:=by omega
  have e2:c=k'-k:=by omega
  rw [e1,e2,Nat.pow_zero,Nat.mul_one] at h3
  exact h3
 intro hle
 have e1:a=k-k':=by omega
 have e2:c=0:=by omega
 rw [e1,e2,Nat.pow_zero,Nat.mul_one] at h3
 exact h3.symm
theorem zsJ {v:Value} {L:List Value} {n k:Nat} (h:k<n):((List.replicate n v++L).toArray)[k]?=some v:=by
 rw [List.getElem?_toArray,List.getElem?_append_left (by rw [List.length_replicate];exact h),List.getElem?_replicate,if_pos h]
theorem zfo {v:Value} {L:List Value} {n k j:Nat} (h:k=n+j):((List.replicate n v++L).toArray)[k]?=L[j]?:=by
 rw [List.getElem?_toArray,List.getElem?_append_right (by rw [List.length_replicate];omega),List.length_replicate,h,Nat.add_sub_cancel_left]
theorem read_inf:Ieee.double.read infW=.infinity false:=by decide+kernel
theorem zkC {W W':Nat} (hW:W<=infW) (hW':W'<=infW) (h:Ieee.double.order W W'=some .eq):W=W':=by
 unfold Ieee.Format.order at h
 by_cases c:W=infW
 ·by_cases c':W'=infW
  ·rw [c,c']
  exfalso
  obtain ⟨k,q,e,h1,h2⟩:=zdy (W:=W') (by omega)
  rw [c,read_inf,e,zbO h1 h2 (by omega)] at h
  simp [Ieee.Datum.order] at h
 obtain ⟨k,q,e,h1,h2⟩:=zdy (W:=W) (by omega)
 by_cases c':W'=infW
 ·exfalso
  rw [c',read_inf,e,zbO h1 h2 (by omega)] at h
  simp [Ieee.Datum.order] at h
 obtain ⟨k',q',e',h1',h2'⟩:=zdy (W:=W') (by omega)
 rw [e,e',zbO h1 h2 (by omega),zbO h1' h2' (by omega)] at h
 obtain ⟨g1,g2⟩:=znx h
 rcases Nat.le_total k k' with hl|hl
 ·obtain ⟨rfl,rfl⟩:=zrc h1 h1' h2 h2' hl (g1 hl)
  rw [e,e']
 obtain ⟨rfl,rfl⟩:=zrc h1' h1 h2' h2 hl (g2 hl)
 rw [e,e']
theorem zas {N d W:Nat} (h:IsRnd N d W):W<=infW:=by
 obtain ⟨k,_,_,h3⟩:=h
 rw [h3];exact Nat.min_le_right _ _
theorem ztj (w:World):DecAt (w.alloc (.cells Tryz.zeroCells225 225)) w.heap.size (fun _=>0) ((0:Nat):Int) 0 false:=by
 have hc:∀ k v,Tryz.zeroCells225[k]?=some v->(w.alloc (.cells Tryz.zeroCells225 225)).cell? ⟨w.heap.size,k,none⟩=some v:=by
  intro k v h
  rw [World.cell?_alloc_at _ _ _ _ rfl];exact h
 refine ⟨by simp,fun k=>by simp,fun k hk=>hc _ _ ?_,hc _ _ ?_,hc _ _ ?_,hc _ _ ?_,hc _ _ ?_⟩
 ·rw [zero114];exact zsJ hk
 ·rw [zero114];exact zfo (j:=0) rfl
 ·rw [zero114];exact zfo (j:=1) rfl
 ·rw [zero114];exact zfo (j:=2) rfl
 rw [zero114];exact zfo (j:=3) rfl
theorem Vars.info {w w':World} {G o P po C co g:Nat} (h:Vars w G o P po C co) (hb:Below w.heap.size w w') (hg:w.heap.size<=g):FInfo w' g P po C co:=by
 have h12:=h.h12
 have hP:=h.hP
 have hC:=h.cheats.hG
 have hCb:=h.cheats.below hb h.h12 hC
 exact ⟨by omega,by omega,by omega,(hb.cell (by show 14<w.heap.size;omega)).trans h.tabs.mant,(hb.cell (by show 14<w.heap.size;omega)).trans h.expb,(hb.cell (by show 14<w.heap.size;omega)).trans h.bias,(hb.cell (by show 18<w.heap.size;omega)).trans h.slice,
  fun k hk=>(hb.cell h.hP).trans (h.tab k hk),hCb⟩
theorem Txt.len {s:ByteArray} {k b p:Nat} {ds:List Int} {x:Int} (h:Txt s k ds b p x):zaC (dval ds)<=100:=by
 have h1:=(zl6 ((bs s).take k)).1
 rw [h.scan,List.length_take,zad] at h1
 have h2:=ze4 (l:=(bs s).take k) (by
  intro c hc
  obtain ⟨j,hj,rfl⟩:=List.getElem_of_mem hc
  rw [List.length_take,zad] at hj
  have:=h.dp j (by omega)
  rw [List.getElem_take]
  rw [List.getD_eq_getElem?_getD,List.getElem?_eq_getElem (by rw [zad];omega)] at this
  exact this)
 rw [h.scan] at h2
 have h3:=zbX ds h2
 have h4:=h.hs
 have h5:ds.length<=min k s.size:=h1
 omega
theorem zsL (N G o P po C co k b p:Nat) (ds:List Int) (x E:Int) (s:ByteArray) (w:World) (hT:Txt s k ds b p x) (hNd:N=dval ds) (hEd:E=x-b) (h0:0<s.size) (hs:s.size<=100) (hc:((s[0].toNat:Nat):Int)=46∨(48<=((s[0].toNat:Nat):Int)/\((s[0].toNat:Nat):Int)<=57)) (hrf:Calls Tryz.prog 218 #[.string s] w fun e w'=>RFR N E s w e w')
 (hV:Vars w G o P po C co) (hN:N≠0) (hp1: -345<=E+rfC N) (hp2:E+rfC N<=310) (ht:rfT N=true):
 Calls Tryz.prog 198 #[.string s] w fun e w'=>AtR N E s w e w':=by
 have hlen:=hT.len
 rw [<-hNd] at hlen
 have hN100:N<10^100:=Nat.lt_of_lt_of_le (zce N) (Nat.pow_le_pow_right (by omega) hlen)
 have hEb: -430<=E/\E<=1000:=by
  have h1:rfC N<=81:=by unfold rfC;omega
  omega
 have T:=fun (w':World) (D0:Nat->Int) (g:Nat) (h:DecAt w' g D0 ((0:Nat):Int) 0 false)=>zss s k b p g ds x D0 w' hT h
 have HT:=hide T
 have Hn:=hide (show N≠0/\N<10^100/\ -430<=E/\E<=1000/\N=dval ds/\E=x-b from ⟨hN,hN100,hEb.1,hEb.2,hNd,hEd⟩)
 clear T hlen hN100 hEb hNd hEd
 have ho:=hV.opt
 have HV:=hide hV
 have S:=zb7 s w h0 hc
 have HS:=hide S
 have HR:=hide hrf
 have hm:rfM N≠0:=fun h=>hN (ze9 h)
 have hE:rfE N E=E+rfC N:=by unfold rfE;rw [if_neg hm]
 have hml:=zq5 N
 have Y:=fun (q:Nat)=>zg3 (rfM N) (rfE N E) (w.drewN q) hm (by omega) (by omega) (by omega) hV.tabs.size (hV.tabs.rows0 _ (by omega)) (hV.tabs.rows1 _ (by omega))
 have Z:=fun (w':World) (hb:Below w.heap.size w w')=>zg3 (rfM N+1) (rfE N E) w' (by omega) (by omega) (by omega) (by omega) (Nat.lt_of_lt_of_le hV.tabs.size hb.size)
  ((hb.cell (show 20<w.heap.size from hV.tabs.size)).trans (hV.tabs.rows0 _ (by omega))) ((hb.cell (show 20<w.heap.size from hV.tabs.size)).trans (hV.tabs.rows1 _ (by omega)))
 have HY:=hide Y
 have HZ:=hide Z
 have HD:Hid (∀ W,zam (rfM N) (rfE N E) W->zam (rfM N+1) (rfE N E) W->zam N E W):=hide (fun W h h'=>zsW (by rw [<-hE];exact h) (by rw [<-hE];exact h'))
 have hq1: -345<=rfE N E:=by omega
 have hq2:rfE N E<=310:=by omega
 have hm0:(((rfM N:Nat):Int)==0)=false:=bq (by omega)
 have hm1:IntKind.u64.wrap (((rfM N:Nat):Int)+1)=((rfM N+1:Nat):Int):=by rw [zaU (by omega) (by omega)];omega
 have hfb:=zaS
 have hB:=zh5
 have HB:=hide hB
 clear hT hc hrf S hV hN hE hp1 hp2 hm Y Z hB hml
 go_enter Tryz.func198,Tryz.ntmps198
 go_wp2_with fail
 refine HS.out.mono ?_
 rintro e w' ⟨rfl,rfl⟩
 go_wp2_with fail
 refine HR.out.mono ?_
 rintro e w' ⟨rfl,q,rfl⟩
 go_wp2_with fail
 refine (HB.out _).mono ?_
 rintro e w' ⟨rfl,rfl⟩
 go_wp2_with fail
 refine (HY.out q).mono ?_
 rintro e w1 ⟨W,rfl,hd,hb⟩
 rw [znY]
 have Hd:=hide hd
 have hb1:=(below_drewN (Below.refl _ _) q).trans hb
 have Hb:=hide hb1
 clear hd hb hb1
 go_wp2_with fail
 refine (HZ.out _ Hb.out).mono ?_
 rintro e w2 ⟨W',rfl,hd,hb⟩
 rw [znY]
 have Hd':=hide hd
 have hb2:=Hb.out.trans (hb.mono Hb.out.size)
 have Hb2:=hide hb2
 clear hd hb hb2
 cases hcmp:(FloatKind.f64.format.order W W'==some Ordering.eq) with
 |true=>
  have hWW:W=W':=zkC (zas Hd.out) (zas Hd'.out) (eq_of_beq hcmp)
  have HWW:=hide hWW
  clear hWW
  go_wp2_with fail
  go_ret3
  exact ⟨W,rfl,HD.out W Hd.out (by rw [HWW.out];exact Hd'.out),Hb2.out⟩
 |false=>
  go_wp2_with fail
  refine (HT.out _ _ _ (ztj w2)).mono ?_
  rintro e w3 ⟨rfl,D,nd,dp,hd,⟨g1,g2,g3,g4,g5⟩,hb3⟩
  obtain ⟨n1,n2,n3,n4,n5,n6⟩:=Hn.out
  have hb4:Below w'.heap.size w' w3:=(Hb2.out.alloc (Nat.le_trans (Nat.le_refl _) Hb2.out.size) _).trans (hb3.mono Hb2.out.size)
  have hlen:nd<=800:=by
   have:=zcr (Nat.lt_of_le_of_lt (zdX n1) n2)
   rw [<-n5] at g2
   omega
  have F:=zg2 N w2.heap.size P po C co nd E dp D w3 hd (HV.out.info hb4 Hb2.out.size) n1 n2 (by rw [g1,n5]) (by rw [g2,n5]) ⟨g3,hlen,g4⟩ (by omega) n3 n4
  have HF:=hide F
  have Hb4:=hide hb4
  clear F hb4 hb3 hd g1 g2 g3 g4 g5 n1 n2 n3 n4 n5 n6 hlen
  go_wp2_with fail
  refine (HF.out).mono ?_
  rintro e w5 ⟨V,rfl,hr,hb5⟩
  have Hr:=hide hr
  have hb6:=Hb4.out.trans (hb5.mono Hb2.out.size)
  have Hb6:=hide hb6
  clear hr hb5 hb6
  have hVn:(V:Int).toNat=V:=by omega
  by_cases hV:V=infW
  ·have hVd:decide (V=infW)=true:=decide_eq_true hV
   have HVi:=hide hV
   clear hV
   go_wp2_with fail
   go_ret3
   refine ⟨V,?_,Hr.out,Hb6.out⟩
   rw [HVi.out,errV_inf]
   rfl
  ·have hVd:decide (V=infW)=false:=decide_eq_false hV
   have HVi:=hide hV
   clear hV
   go_wp2_with fail
   go_ret3
   refine ⟨V,?_,Hr.out,Hb6.out⟩
   rw [zep HVi.out]
   rfl
theorem zsb (N:Nat) (E:Int) (s:ByteArray) (w:World) (h:Calls Tryz.prog 198 #[.string s] w fun e w'=>AtR N E s w e w'):
 Calls Tryz.prog 165 #[.string s,.int .i64 64] w fun e w'=>AtR N E s w e w':=by
 have H:=hide h
 clear h
 go_enter Tryz.func165,Tryz.ntmps165
 go_wp2_with fail
 refine H.out.mono ?_
 rintro e w' ⟨W,rfl,hd,hb⟩
 have Hd:=hide hd
 have Hb:=hide hb
 clear hd hb
 go_wp2
 go_ret3
 exact ⟨W,rfl,Hd.out,Hb.out⟩
def PfR (N:Nat) (E:Int) (w:World) (e:Ending) (w':World):Prop:=
 ∃ W,e=.returned (.tuple #[.float .f64 W,errV W])/\zam N E W/\Below w.heap.size w w'
theorem zsQ (N:Nat) (E:Int) (s:ByteArray) (w:World) (h:Calls Tryz.prog 198 #[.string s] w fun e w'=>AtR N E s w e w'):
 Calls Tryz.prog 113 #[.string s,.int .i64 64] w fun e w'=>PfR N E w e w':=by
 have h':=zsb N E s w h
 have H:=hide h'
 clear h h'
 go_enter Tryz.func113,Tryz.ntmps113
 go_wp2_with fail
 refine H.out.mono ?_
 rintro e w' ⟨W,rfl,hd,hb⟩
 have Hd:=hide hd
 have Hb:=hide hb
 clear hd hb
 go_wp2
 go_ret2
 exact ⟨W,rfl,Hd.out,Hb.out⟩
def SpfR (N:Nat) (E:Int) (w:World) (e:Ending) (w':World):Prop:=
 ∃ W,zam N E W/\Below w.heap.size w w'/\((W≠infW/\e=.returned (.tuple #[.float .f64 W,.nilIface]))∨(W=infW/\∃ B,e=.returned (.tuple #[.float .f64 W,.iface 150 (.pointer (some ⟨B,0,none⟩))])))
theorem zrO (N:Nat) (E:Int) (s:ByteArray) (w:World) (ev:Value) (hs:s.size<=100) (h2:9<w.heap.size) (hev:w.cell? ⟨9,0,none⟩=some ev) (hev2:ev=.nilIface∨∃ te pe,ev=.iface te pe) (h:Calls Tryz.prog 198 #[.string s] w fun e w'=>AtR N E s w e w'):
 Calls Tryz.prog 67 #[.string s,.int .i64 64] w fun e w'=>SpfR N E w e w':=by
 have h':=zsQ N E s w h
 have H:=hide h'
 have T:=fun (w':World) (hb:Below w.heap.size w w')=>Tryz.strconv_toError_range ⟨#[80,97,114,115,101,70,108,111,97,116]⟩ s 0 64 ev w' (by omega) ((hb.cell (show 9<w.heap.size from h2)).trans hev) hev2
 have HT:=hide T
 clear h h' T hev hev2
 go_enter Tryz.func67,Tryz.ntmps67
 go_wp2_with fail
 refine H.out.mono ?_
 rintro e w' ⟨W,rfl,hd,hb⟩
 have Hd:=hide hd
 have Hb:=hide hb
 clear hd hb
 by_cases hW:W=infW
 ·have hV:errV W=.iface 149 (.int .i64 1):=by rw [hW,errV_inf]
  have HW:=hide hW
  clear hW
  rw [hV]
  clear hV
  go_wp2_with fail
  refine (HT.out _ Hb.out).mono ?_
  rintro e w3 ⟨B,rfl,h3,h4,hb3⟩
  have Hb3:=hide hb3
  clear h3 h4 hb3
  go_wp2
  go_ret2
  exact ⟨W,Hd.out,bt Hb.out Hb3.out,.inr ⟨HW.out,B,rfl⟩⟩
 have hV:errV W=.nilIface:=zep hW
 have HW:=hide hW
 clear hW
 rw [hV]
 clear hV
 go_wp2
 go_ret2
 exact ⟨W,Hd.out,Hb.out,.inl ⟨HW.out,rfl⟩⟩
theorem zu8 (s:ByteArray) (k b p:Nat) (ds:List Int) (x:Int) (w:World) (hT:Txt s k ds b p x):
 Calls Tryz.prog 218 #[.string s] w fun e w'=>RFR (dval ds) (x-b) s w e w':=by
 have hk0:=hT.k0
 have hk:=hT.hk
 have h0:0<s.size:=by omega
 by_cases h2:s.size<=2
 ·exact rf_a s k b p ds x w hT h0 h2
 by_cases h48:((s[0].toNat:Nat):Int)=48
 ·exact rf_c s k b p ds x w hT h0 (by omega) h48
 exact rf_b s k b p ds x w hT h0 (by omega) h48
theorem ztS (s:ByteArray) (k b p G o P po C co:Nat) (ds:List Int) (x:Int) (w:World) (hT:Txt s k ds b p x) (hV:Vars w G o P po C co):
 Calls Tryz.prog 198 #[.string s] w fun e w'=>AtR (dval ds) (x-b) s w e w':=by
 have hk0:=hT.k0
 have hk:=hT.hk
 have hs:=hT.hs
 have h0:0<s.size:=by omega
 have hc:=dp_at hT (i:=0) (by omega) h0
 have hrf:=zu8 s k b p ds x w hT
 by_cases hN:dval ds=0
 ·exact zsw _ G o P po C co _ s w h0 hs hc hrf hV hN
 by_cases h1:310<x-b+rfC (dval ds)
 ·exact zsu _ G o P po C co _ s w h0 hs hc hrf hV hN h1
 by_cases h2:x-b+rfC (dval ds)< -345
 ·exact zpq _ G o P po C co _ s w h0 hs hc hrf hV hN h2
 cases ht:rfT (dval ds) with
 |false=>exact zps _ G o P po C co _ s w h0 hs hc hrf hV hN (by omega) (by omega) ht
 |true=>exact zsL _ G o P po C co k b p ds x _ s w hT rfl rfl h0 hs hc hrf hV hN (by omega) (by omega) ht
def dfold (acc:Nat) (l:List UInt8):Nat:=l.foldl (fun a c=>a*10+(c.toNat-48)) acc
theorem zpH (l:List UInt8):∀ acc,acc<=dfold acc l:=by
 induction l with
 |nil=>intro acc;exact Nat.le_refl _
 |cons c l ih=>
  intro acc
  refine Nat.le_trans ?_ (ih (acc*10+(c.toNat-48)))
  omega
theorem ziT {M:Nat} (hM:M=18446744073709551615) (l:List UInt8):∀ acc,acc<=M->(∀ c∈l,48<=c.toNat/\c.toNat<=57)->Lib.parseUintM M acc l=if dfold acc l<=M then .ok (dfold acc l) else .range:=by
 induction l with
 |nil=>intro acc ha _;rw [Lib.parseUintM];show _=if acc<=M then _ else _;rw [if_pos ha];rfl
 |cons c l ih=>
  intro acc ha hd
  have hc:=hd c (List.mem_cons_self)
  have hl:∀ c∈l,48<=c.toNat/\c.toNat<=57:=fun c' h=>hd c' (List.mem_cons_of_mem _ h)
  have hge:=zpH l (acc*10+(c.toNat-48))
  have e:dfold acc (c::l)=dfold (acc*10+(c.toNat-48)) l:=rfl
  rw [Lib.parseUintM,if_pos hc,e]
  by_cases h1:1844674407370955162<=acc
  ·rw [if_pos h1,if_neg (by omega)]
  rw [if_neg h1]
  by_cases h2:M<acc*10+(c.toNat-48)
  ·rw [if_pos h2,if_neg (by omega)]
  rw [if_neg h2]
  exact ih _ (by omega) hl
theorem zgH (s:ByteArray) (h:∀ c∈s.data.toList,48<=c.toNat/\c.toNat<=57):dval (bs s)=dfold 0 s.data.toList:=by
 unfold dval bs dfold
 have key:∀ (l:List UInt8) (acc:Nat),(∀ c∈l,48<=c.toNat/\c.toNat<=57)->(l.map fun b=>((b.toNat:Nat):Int)).foldl (fun a c=>a*10+(c-48).toNat) acc=l.foldl (fun a c=>a*10+(c.toNat-48)) acc:=by
  intro l
  induction l with
  |nil=>intro acc _;rfl
  |cons c l ih=>
   intro acc hd
   have hc:=hd c (List.mem_cons_self)
   show (l.map _).foldl _ (acc*10+(((c.toNat:Nat):Int)-48).toNat)=l.foldl _ (acc*10+(c.toNat-48))
   rw [show (((c.toNat:Nat):Int)-48).toNat=c.toNat-48 by omega]
   exact ih _ (fun c' h=>hd c' (List.mem_cons_of_mem _ h))
 exact key _ _ h
theorem ze1 (s:ByteArray) (h0:0<s.size) (h:zae (bs s)=true):
 (dval (bs s)<9223372036854775808->Lib.parseIntB 64 s.data.toList=.ok (dval (bs s):Int))/\(¬ dval (bs s)<9223372036854775808->Lib.parseIntB 64 s.data.toList=.range):=by
 have hd:∀ c∈s.data.toList,48<=c.toNat/\c.toNat<=57:=by
  intro c hc
  unfold zae at h
  rw [List.all_eq_true] at h
  have:=h ((c.toNat:Nat):Int) (List.mem_map.2 ⟨c,hc,rfl⟩)
  unfold zax at this
  rw [decide_eq_true_eq] at this
  omega
 have hv:=zgH s hd
 have hne:s.data.toList≠[]:=by
  intro e
  have:s.size=0:=by show s.data.size=0;rw [<-Array.length_toList,e];rfl
  omega
 obtain ⟨c,r,hcr⟩:=List.exists_cons_of_ne_nil hne
 have hc:=hd c (by rw [hcr];exact List.mem_cons_self)
 have hu:Lib.parseUintB 64 s.data.toList=if dval (bs s)<=18446744073709551615 then .ok (dval (bs s)) else .range:=by
  unfold Lib.parseUintB
  rw [if_neg hne,hv]
  exact ziT (M:=2^64-1) (by decide) _ 0 (Nat.zero_le _) hd
 have hp:Lib.parseIntB 64 s.data.toList=Lib.signlessC 9223372036854775808 (Lib.parseUintB 64 s.data.toList):=by
  have:=Lib.parseIntB_plain 64 c r (by omega) (by omega)
  rw [<-hcr] at this
  exact this
 rw [hp,hu]
 constructor
 ·intro hlt
  rw [if_pos (by omega)]
  show (if 9223372036854775808<=dval (bs s) then _ else _)=_
  rw [if_neg (by omega)]
 intro hge
 split
 ·show (if 9223372036854775808<=dval (bs s) then _ else _)=_
  rw [if_pos (by omega)]
 rfl
theorem zeM {W:Nat} (h:W<infW):Ieee.double.order W W=some .eq:=by
 obtain ⟨k,q,e,h1,h2⟩:=zdy h
 unfold Ieee.Format.order
 rw [e,zbO h1 h2 (by omega)]
 unfold Ieee.Datum.order
 simp only [Option.some.injEq]
 exact Int.compare_eq_eq.2 rfl
theorem zbl (W:Nat) (w:World):(callFunc 53 #[.float .f64 W]).run Tryz.prog w=.ok (.value (.int .u64 W)) w:=by
 rw [run_callFunc_extern (e:=Extern.MathFloatBits.float64bits) Tryz.func53 (by kernel_rfl) (by kernel_rfl) (by kernel_rfl) (by kernel_rfl)]
 rfl
theorem zde (W:Nat) (w:World) (h:W<infW):Rb 68 #[.float .f64 W] w (.agg #[.bool true,.int .i64 0,.int .u64 W]):=by
 have ho:FloatKind.f64.format.order W W=some Ordering.eq:=zeM h
 have hfb:=zbl
 clear h
 go_enter Tryz.func68,Tryz.ntmps68
 go_wp2
 exact bodyPost_ret (v:=.agg #[.bool true,.int .i64 0,.int .u64 W]) (by simp [results,Tryz.results68,go_sem]) rfl ⟨rfl,(Below.refl _ _).alloc (Nat.le_refl _) _⟩
abbrev resW (w:World):World:=w.alloc (.cells #[.bool false,.int .i64 0,.int .u64 0] 26)
theorem pd_no (s:ByteArray) (w:World) (hD:Rb 64 #[.string s] (resW w) (.bool false)):
 Rb 35 #[.string s] w zeroR:=by
 have H:=hide hD
 clear hD
 go_enter Tryz.func35,Tryz.ntmps35
 go_wp2_with fail
 refine rb H.out fun w' hb=>?_
 have hb':Below (w.heap.size+1) (resW w) w':=hb.mono (by simp)
 obtain ⟨c0,c1,c2,f0,f1,f2⟩:=resC hb'
 go_wp2
 refine bodyPost_ret (v:=zeroR) ?_ rfl ⟨rfl,?_⟩
 ·simp [results,Tryz.results35,go_sem,c0,c1,c2,zeroR,numV]
 refine Below.setCell (Below.setCell (Below.setCell (zab hb') ?_ _) ?_ _) ?_ _
 all_goals simp
theorem zdI (w:World) (t:ByteArray):Below w.heap.size w (Lib.bytesWorld w 5 t):=
 ⟨rfl,rfl,rfl,by rw [Lib.bytesWorld_size];omega,fun j hj=>Lib.bytesWorld_at_old w 5 t j hj⟩
theorem zu2 (s:ByteArray) (w:World) (hs:s.size<=100) (h0:0<s.size) (hD:Rb 64 #[.string s] (resW w) (.bool true)) (hA:zae (bs s)=true) (hN:dval (bs s)<9223372036854775808):
 Rb 35 #[.string s] w (.tuple #[numV false (dval (bs s)) 0,.bool true]):=by
 have hP:=(ze1 s h0 hA).1 hN
 have PI:=fun (w':World)=>Tryz.strconv_ParseInt_10_at64_ok s (by omega) _ hP w'
 have HP:=hide PI
 have AD:=fun (w':World)=>zao s w' (by omega)
 rw [hA] at AD
 have HA:=hide AD
 have H:=hide hD
 have hN1:(dval (bs s):Int)<9223372036854775808:=by omega
 generalize dval (bs s)=N at *
 clear hD hP PI AD hA
 go_enter Tryz.func35,Tryz.ntmps35
 go_wp2_with fail
 refine rb H.out fun w1 hb=>?_
 have hb1:Below (w.heap.size+1) (resW w) w1:=hb.mono (by simp)
 have Hb1:=hide hb1
 clear hb hb1
 go_wp2_with fail
 refine (HA.out _).mono ?_
 rintro e w' ⟨rfl,rfl⟩
 go_wp2_with fail
 refine rb (HP.out _) fun w2 hw2=>?_
 have hb2:Below w'.heap.size w' w2:=by
  rcases hw2 with rfl|⟨t,rfl⟩
  ·exact Below.refl _ _
  exact zdI _ _
 have hb3:=Hb1.out.trans (hb2.mono (by have:=Hb1.out.size;simp at this;omega))
 have Hb3:=hide hb3
 clear hw2 hb2 hb3
 go_wp2_with fail
 refine rb (zcT _ _) fun w3 hb4=>?_
 have hb':Below (w.heap.size+1) (resW w) w3:=Hb3.out.trans (hb4.mono (by have:=Hb3.out.size;simp at this;omega))
 obtain ⟨c0,c1,c2,f0,f1,f2⟩:=resC hb'
 go_wp2
 refine bodyPost_ret (v:=.tuple #[numV false N 0,.bool true]) ?_ rfl ⟨rfl,?_⟩
 ·simp [results,Tryz.results35,go_sem,c0,c1,c2,numV]
 refine Below.setCell (Below.setCell (Below.setCell (zab hb') ?_ _) ?_ _) ?_ _
 all_goals simp
theorem zrj (s:ByteArray) (N:Nat) (E:Int) (w:World) (hs:s.size<=100) (h0:0<s.size) (hD:Rb 64 #[.string s] (resW w) (.bool true)) (hA:zae (bs s)=false)
 (hS:∀ w',Below w.heap.size w w'->Calls Tryz.prog 67 #[.string s,.int .i64 64] w' fun e w''=>SpfR N E w' e w''):
 Calls Tryz.prog 35 #[.string s] w fun e w'=>∃ r,e=.returned r/\zbj N E r/\Below w.heap.size w w':=by
 have AD:=fun (w':World)=>zao s w' (by omega)
 rw [hA] at AD
 have HA:=hide AD
 have H:=hide hD
 have HS:=hide hS
 clear hD hS AD hA
 go_enter Tryz.func35,Tryz.ntmps35
 go_wp2_with fail
 refine rb H.out fun w1 hb=>?_
 have hb1:Below (w.heap.size+1) (resW w) w1:=hb.mono (by simp)
 have Hb1:=hide hb1
 clear hb hb1
 go_wp2_with fail
 refine (HA.out _).mono ?_
 rintro e w' ⟨rfl,rfl⟩
 have Hb3:=Hb1
 go_wp2_with fail
 refine (HS.out _ (zab Hb3.out)).mono ?_
 rintro e w4 ⟨W,hd,hb4,hres⟩
 have hb5:Below (w.heap.size+1) (resW w) w4:=Hb3.out.trans (hb4.mono (by have:=Hb3.out.size;simp at this;omega))
 have Hb5:=hide hb5
 have Hd:=hide hd
 clear hd hb4 hb5
 rcases hres with ⟨hW,rfl⟩|⟨hW,B,rfl⟩
 ·have hlt:W<infW:=by have:=zas Hd.out;omega
  have FN:=fun (w':World)=>zde W w' hlt
  have HF:=hide FN
  have HW:=hide hW
  clear hlt FN hW
  go_wp2_with fail
  refine rb (HF.out _) fun w6 hb6=>?_
  have hb':Below (w.heap.size+1) (resW w) w6:=Hb5.out.trans (hb6.mono (by have:=Hb5.out.size;simp at this;omega))
  obtain ⟨c0,c1,c2,f0,f1,f2⟩:=resC hb'
  go_wp2
  refine bodyPost_ret (v:=.tuple #[numV true 0 W,.bool true]) ?_ rfl ⟨_,rfl,⟨W,Hd.out,by rw [if_neg HW.out]⟩,?_⟩
  ·simp [results,Tryz.results35,go_sem,c0,c1,c2,numV]
  refine Below.setCell (Below.setCell (Below.setCell (zab hb') ?_ _) ?_ _) ?_ _
  all_goals simp
 have HW:=hide hW
 clear hW
 have hb':Below (w.heap.size+1) (resW w) w4:=Hb5.out
 obtain ⟨c0,c1,c2,f0,f1,f2⟩:=resC hb'
 go_wp2
 refine bodyPost_ret (v:=zeroR) ?_ rfl ⟨_,rfl,⟨W,Hd.out,by rw [if_pos HW.out]⟩,?_⟩
 ·simp [results,Tryz.results35,go_sem,c0,c1,c2,zeroR,numV]
 refine Below.setCell (Below.setCell (Below.setCell (zab hb') ?_ _) ?_ _) ?_ _
 all_goals simp
theorem zt6 (s:ByteArray) (N:Nat) (E:Int) (w:World) (hs:s.size<=100) (h0:0<s.size) (hD:Rb 64 #[.string s] (resW w) (.bool true)) (hA:zae (bs s)=true) (hN:¬ dval (bs s)<9223372036854775808) (ev:Value) (h2:9<w.heap.size) (hev:w.cell? ⟨9,0,none⟩=some ev) (hev2:ev=.nilIface∨∃ te pe,ev=.iface te pe)
 (hS:∀ w',Below w.heap.size w w'->Calls Tryz.prog 67 #[.string s,.int .i64 64] w' fun e w''=>SpfR N E w' e w''):
 Calls Tryz.prog 35 #[.string s] w fun e w'=>∃ r,e=.returned r/\zbj N E r/\Below w.heap.size w w':=by
 have hP:=(ze1 s h0 hA).2 hN
 have PI:=fun (w':World) (hb:Below w.heap.size w w')=>Tryz.strconv_ParseInt_10_at64_range s (by omega) hP ev w' ((hb.cell (show 9<w.heap.size from h2)).trans hev) hev2
 have HP:=hide PI
 have AD:=fun (w':World)=>zao s w' (by omega)
 clear hP PI hev hev2 hN
 rw [hA] at AD
 have HA:=hide AD
 have H:=hide hD
 have HS:=hide hS
 clear hD hS AD hA
 go_enter Tryz.func35,Tryz.ntmps35
 go_wp2_with fail
 refine rb H.out fun w1 hb=>?_
 have hb1:Below (w.heap.size+1) (resW w) w1:=hb.mono (by simp)
 have Hb1:=hide hb1
 clear hb hb1
 go_wp2_with fail
 refine (HA.out _).mono ?_
 rintro e w' ⟨rfl,rfl⟩
 go_wp2_with fail
 refine (HP.out _ (zab Hb1.out)).mono ?_
 rintro e w2 ⟨B0,rfl,h3,h4,hb2⟩
 have hb3:=Hb1.out.trans (hb2.mono (by have:=Hb1.out.size;simp at this;omega))
 have Hb3:=hide hb3
 clear h3 h4 hb2 hb3
 go_wp2_with fail
 refine (HS.out _ (zab Hb3.out)).mono ?_
 rintro e w4 ⟨W,hd,hb4,hres⟩
 have hb5:Below (w.heap.size+1) (resW w) w4:=Hb3.out.trans (hb4.mono (by have:=Hb3.out.size;simp at this;omega))
 have Hb5:=hide hb5
 have Hd:=hide hd
 clear hd hb4 hb5
 rcases hres with ⟨hW,rfl⟩|⟨hW,B,rfl⟩
 ·have hlt:W<infW:=by have:=zas Hd.out;omega
  have FN:=fun (w':World)=>zde W w' hlt
  have HF:=hide FN
  have HW:=hide hW
  clear hlt FN hW
  go_wp2_with fail
  refine rb (HF.out _) fun w6 hb6=>?_
  have hb':Below (w.heap.size+1) (resW w) w6:=Hb5.out.trans (hb6.mono (by have:=Hb5.out.size;simp at this;omega))
  obtain ⟨c0,c1,c2,f0,f1,f2⟩:=resC hb'
  go_wp2
  refine bodyPost_ret (v:=.tuple #[numV true 0 W,.bool true]) ?_ rfl ⟨_,rfl,⟨W,Hd.out,by rw [if_neg HW.out]⟩,?_⟩
  ·simp [results,Tryz.results35,go_sem,c0,c1,c2,numV]
  refine Below.setCell (Below.setCell (Below.setCell (zab hb') ?_ _) ?_ _) ?_ _
  all_goals simp
 have HW:=hide hW
 clear hW
 have hb':Below (w.heap.size+1) (resW w) w4:=Hb5.out
 obtain ⟨c0,c1,c2,f0,f1,f2⟩:=resC hb'
 go_wp2
 refine bodyPost_ret (v:=zeroR) ?_ rfl ⟨_,rfl,⟨W,Hd.out,by rw [if_pos HW.out]⟩,?_⟩
 ·simp [results,Tryz.results35,go_sem,c0,c1,c2,zeroR,numV]
 refine Below.setCell (Below.setCell (Below.setCell (zab hb') ?_ _) ?_ _) ?_ _
 all_goals simp
def isE (c:Int):Bool:=c==101||c==69
theorem zbz (m:List Int):(dscan m).1=m.filter (fun c=>decide (c≠46))/\(dscan m).2.2=m.count 46:=by
 unfold dscan
 have key:∀ (m:List Int) (st:List Int × Nat × Nat),(m.foldl dstep st).1=st.1++m.filter (fun c=>decide (c≠46))/\(m.foldl dstep st).2.2=st.2.2+m.count 46:=by
  intro m
  induction m with
  |nil=>intro st;simp
  |cons c m ih=>
   intro st
   obtain ⟨h1,h2⟩:=ih (dstep st c)
   rw [List.foldl_cons,h1,h2]
   by_cases e:c=46
   ·subst e
    simp [dstep]
    omega
   simp [dstep,e]
 have:=key m ([],0,0)
 simpa using this
def decM (m:List Int):Bool:=m.all isDP&&decide ((dscan m).1≠[])&&decide ((dscan m).2.2<=1)
theorem zkM {m:List Int} (h:∀ c∈m,c≠46):m.all isDP=zae m:=by
 unfold zae
 induction m with
 |nil=>rfl
 |cons c m ih=>
  rw [List.all_cons,List.all_cons,ih (fun c' h'=>h c' (List.mem_cons_of_mem _ h'))]
  have hc:isDP c=zax c:=by unfold isDP;rw [bq (h c List.mem_cons_self),Bool.or_false]
  rw [hc]
theorem zfD {m:List Int} (h:(46:Int)∈m):zae m=false:=by
 cases hh:zae m with
 |false=>rfl
 |true=>
  unfold zae at hh
  rw [List.all_eq_true] at hh
  have:=hh 46 h
  unfold zax at this
  simp at this
theorem zo5 {a:List Int} (h:∀ c∈a,c≠46):(zae a&&zae ([]:List Int)&&decide (a++[]≠[]))=decM a:=by
 obtain ⟨h1,h2⟩:=zbz a
 unfold decM
 rw [h1,h2,zkM h,List.append_nil]
 have e1:a.filter (fun c=>decide (c≠46))=a:=List.filter_eq_self.2 (fun c hc=>by simp [h c hc])
 have e2:a.count 46=0:=List.count_eq_zero.2 (fun hc=>h 46 hc rfl)
 rw [e1,e2]
 simp [zae]
theorem zqg {a b:List Int} (h:∀ c∈a,c≠46):(zae a&&zae b&&decide (a++b≠[]))=decM (a++46::b):=by
 obtain ⟨h1,h2⟩:=zbz (a++46::b)
 unfold decM
 rw [h1,h2,List.all_append,zkM h,List.all_cons]
 have e1:a.filter (fun c=>decide (c≠46))=a:=List.filter_eq_self.2 (fun c hc=>by simp [h c hc])
 have e2:a.count 46=0:=List.count_eq_zero.2 (fun hc=>h 46 hc rfl)
 rw [List.filter_append,e1,List.count_append,e2,List.count_cons_self]
 have e46:isDP 46=true:=by decide
 by_cases hb:(46:Int)∈b
 ·rw [zfD hb]
  have:0<b.count 46:=List.count_pos_iff.2 hb
  rw [decide_eq_false (p:=0+(b.count 46+1)<=1) (by omega)]
  simp
 have hb':∀ c∈b,c≠46:=fun c hc e=>hb (e ▸ hc)
 have e3:b.filter (fun c=>decide (c≠46))=b:=List.filter_eq_self.2 (fun c hc=>by simp [hb' c hc])
 have e4:b.count 46=0:=List.count_eq_zero.2 hb
 rw [List.filter_cons,if_neg (by simp),e3,e4,zkM hb',e46,decide_eq_true (p:=0+(0+1)<=1) (by omega)]
 simp
theorem zha {l:List Int} (h:l.all isDP=true):mlen l=l.length:=by
 rw [List.all_eq_true] at h
 refine zji (Nat.le_refl _) (fun j hj=>?_) (.inl rfl)
 rw [List.getD_eq_getElem?_getD,List.getElem?_eq_getElem hj]
 exact h _ (List.getElem_mem hj)
theorem zf4 {a b:List Int} {x:Int} (h:a.all isDP=true) (hx:isDP x=false):mlen (a++x::b)=a.length:=by
 rw [List.all_eq_true] at h
 refine zji (by simp) (fun j hj=>?_) (.inr ?_)
 ·rw [List.getD_eq_getElem?_getD,List.getElem?_append_left hj,List.getElem?_eq_getElem hj]
  exact h _ (List.getElem_mem hj)
 simp [List.getD_eq_getElem?_getD,hx]
theorem split_bad:∀ {l:List Int},l.all isDP=false->∃ a x b,l=a++x::b/\a.all isDP=true/\isDP x=false
 | [],h=>by simp at h
 |c::l,h=>by
  by_cases hc:isDP c=true
  ·rw [List.all_cons,hc,Bool.true_and] at h
   obtain ⟨a,x,b,e,h1,h2⟩:=split_bad h
   exact ⟨c::a,x,b,by rw [e];rfl,by rw [List.all_cons,hc,h1];rfl,h2⟩
  exact ⟨[],c,l,rfl,rfl,by simpa using hc⟩
theorem zeb {a b:List Int}:(a++b).take a.length=a:=by simp
theorem zfa {a b:List Int}:(a++b).drop a.length=b:=by simp
theorem zoQ {x:Int} {b:List Int} (h:isE x=false):expV (x::b)=none:=by
 unfold expV
 unfold isE at h
 rw [Bool.or_eq_false_iff,beq_eq_false_iff_ne,beq_eq_false_iff_ne] at h
 rw [if_neg]
 intro hh
 have:(x::b).getD 0 0=x:=rfl
 rw [this] at hh
 rcases hh with e|e
 ·exact h.1 e
 exact h.2 e
theorem zqV {x:Int} {b:List Int} (h:isE x=true):expV (x::b)=expS b:=by
 unfold expV
 unfold isE at h
 rw [Bool.or_eq_true,beq_iff_eq,beq_iff_eq] at h
 rw [if_pos (by have:(x::b).getD 0 0=x:=rfl;rw [this];exact h)]
 rfl
theorem znZ {x:Int} (h:isE x=true):isDP x=false:=by
 unfold isE at h
 rw [Bool.or_eq_true,beq_iff_eq,beq_iff_eq] at h
 rcases h with rfl|rfl<;>decide
theorem zkx {a b:List Int} {x:Int} (h1:a.all isDP=true) (h2:isDP x=false) (h3:isE x=false):DecR (a++x::b) zeroR:=by
 unfold DecR
 rw [zf4 h1 h2,zeb,zfa]
 split
 ·rfl
 rw [if_neg (by simp),if_pos (by simp),zoQ h3]
theorem zrq {a b:List Int} (hm:mlen (a++b)=a.length) (h:(dscan a).1=[]∨1<(dscan a).2.2):DecR (a++b) zeroR:=by
 unfold DecR
 rw [hm,zeb,if_pos h]
theorem zgv {m:List Int} (h:decM m=false) (hd:m.all isDP=true):(dscan m).1=[]∨1<(dscan m).2.2:=by
 unfold decM at h
 rw [hd,Bool.true_and,Bool.and_eq_false_iff,decide_eq_false_iff_not,decide_eq_false_iff_not] at h
 rcases h with h|h
 ·left;exact Classical.not_not.1 h
 right;omega
theorem zd8 {m:List Int} (h:decM m=true):m.all isDP=true/\(dscan m).1≠[]/\(dscan m).2.2<=1:=by
 unfold decM at h
 rw [Bool.and_eq_true,Bool.and_eq_true,decide_eq_true_eq,decide_eq_true_eq] at h
 exact ⟨h.1.1,h.1.2,h.2⟩
theorem zpD {l:List Int} (hE:∀ c∈l,isE c=false) (h:decM l=false):DecR l zeroR:=by
 cases hd:l.all isDP with
 |true=>
  have:=zrq (a:=l) (b:=[]) (by rw [List.append_nil];exact zha hd) (zgv h hd)
  rwa [List.append_nil] at this
 |false=>
  obtain ⟨a,x,b,rfl,h1,h2⟩:=split_bad hd
  exact zkx h1 h2 (hE x (by simp))
theorem zuO {m b:List Int} {x:Int} (hE:∀ c∈m,isE c=false) (hx:isE x=true) (h:(decM m&&(expS b).isSome)=false):DecR (m++x::b) zeroR:=by
 cases hd:m.all isDP with
 |false=>
  obtain ⟨a,y,c,rfl,h1,h2⟩:=split_bad hd
  rw [List.append_assoc]
  exact zkx h1 h2 (hE y (by simp))
 |true=>
  have hm:mlen (m++x::b)=m.length:=zf4 hd (znZ hx)
  rw [Bool.and_eq_false_iff] at h
  rcases h with h|h
  ·exact zrq hm (zgv h hd)
  unfold DecR
  rw [hm,zeb,zfa]
  split
  ·rfl
  rw [if_neg (by simp),if_pos (by simp),zqV hx]
  cases he:expS b with
  |none=>rfl
  |some y=>rw [he] at h;cases h
theorem zq9 {s:ByteArray} {m r:List Int} {x:Int} (hs:s.size<=100) (hl:bs s=m++r) (h:decM m=true) (hr:(r=[]/\x=0)∨(r≠[]/\expV r=some x)):
 Txt s m.length (dscan m).1 (dscan m).2.1 (dscan m).2.2 x:=by
 obtain ⟨h1,h2,h3⟩:=zd8 h
 have hlen:s.size=m.length+r.length:=by rw [<-zad,hl,List.length_append]
 refine ⟨hs,by omega,fun j hj=>?_,by rw [hl,zeb],h3,h2,?_⟩
 ·rw [hl,List.getD_eq_getElem?_getD,List.getElem?_append_left hj,List.getElem?_eq_getElem hj]
  rw [List.all_eq_true] at h1
  exact h1 _ (List.getElem_mem hj)
 rcases hr with ⟨e,hx⟩|⟨e,hx⟩
 ·left;exact ⟨by rw [hlen,e];rfl,hx⟩
 right
 have:r.length≠0:=fun hh=>e (List.eq_nil_of_length_eq_zero hh)
 exact ⟨by omega,by rw [hl,zfa];exact hx⟩
theorem zfc {m r:List Int} {x:Int} {v:Value} (h:decM m=true) (hm:mlen (m++r)=m.length) (hr:(r=[]/\x=0)∨(r≠[]/\expV r=some x))
 (hv:if r=[]/\(dscan m).2.2=0/\dval (dscan m).1<9223372036854775808 then v=.tuple #[numV false (dval (dscan m).1) 0,.bool true] else zbj (dval (dscan m).1) (x-(dscan m).2.1) v):DecR (m++r) v:=by
 obtain ⟨h1,h2,h3⟩:=zd8 h
 unfold DecR
 rw [hm,zeb,zfa,if_neg (by rintro (e|e);exact h2 e;omega)]
 have hlen:(m++r).length=m.length+r.length:=List.length_append
 by_cases c:r=[]
 ·subst c
  rcases hr with ⟨_,hx⟩|⟨e,_⟩
  ·subst hx
   have e1:m.length=(m++[]).length:=by simp
   split
   ·rename_i hc
    rw [if_pos ⟨rfl,hc.2.1,hc.2.2⟩] at hv
    exact hv
   rename_i hc
   rw [if_neg (fun hh=>hc ⟨e1,hh.2.1,hh.2.2⟩)] at hv
   rw [if_neg (by omega)]
   exact hv
  exact absurd rfl e
 rw [if_neg (fun hh=>c hh.1)] at hv
 have hne:r.length≠0:=fun hh=>c (List.eq_nil_of_length_eq_zero hh)
 rcases hr with ⟨e,_⟩|⟨_,hx⟩
 ·exact absurd e c
 rw [if_neg (by omega),if_pos (by omega),hx]
 exact hv
end Go.Proofs.YtamdnnkdnhkghaaGreatDoor
