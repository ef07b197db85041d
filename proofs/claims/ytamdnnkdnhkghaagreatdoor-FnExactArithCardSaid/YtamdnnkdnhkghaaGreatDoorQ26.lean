import Derived.Test.YtamdnnkdnhkghaaGreatDoorQ24
set_option maxHeartbeats 12800000
set_option maxRecDepth 100000
set_option linter.unusedVariables false
namespace Go.Proofs.YtamdnnkdnhkghaaGreatDoor
open Go Go.RowKit
theorem zt2 (d n k g base:Nat) (w w0:World) (v:Value) (he:Efg w0 base g (digL d n) w v []) (hk:k<=400) (hk0:0<k) (hn1:2<=n) (hn2:n<=17) (HT:Hid (∀ j,1<=j->j<n->dgA d n j=48)):
 Calls Tryz.prog 207 #[v,.bool false,.slice (some ⟨g,0,none⟩) 24 24,.int .i64 ((-(k:Int))+1),.int .i64 1,.int .i64 ((n:Int)-1),.int .u8 101,.bool false] w fun r w'=>∃ v',r=.returned v'/\Efg w0 base g (digL d n) w' v' (eTxt d n (-(k:Int))):=by
 have hc0:w.cell? ⟨g,0,none⟩=some (.int .u8 (dgA d n 0)):=by
  rw [he.cells 0 (by rw [zaa];omega),za3 (by omega)]
 rw [ze8 hk0,zb5 hn1]
 have hmin:min (1:Int) n=1:=by omega
 go_enter Tryz.func207,Tryz.ntmps207
 go_wp2_with (first |(at_builtin;(first |(refine zaG _ (by assumption) rfl _ _ rfl rfl rfl (by first |(simp;done)|(simp;omega)|(simp [zaa];done)|(simp [zaa];omega)) ?_;intro zv9 zw9 zh9)|(refine zaX _ _ (by assumption) rfl _ _ rfl rfl rfl (by first |(simp;done)|(simp;omega)|(simp [zaa];done)|(simp [zaa];omega)) ?_;intro zv9 zw9 zh9)|(refine zav _ _ _ (by assumption) rfl _ _ rfl rfl rfl (by first |(simp;done)|(simp;omega)|(simp [zaa];done)|(simp [zaa];omega)) ?_;intro zv9 zw9 zh9)))|go_in)
 rename_i he2
 go_loopw [0,114] (fun dv cv wr=>∃ t:Nat,cv=.int .i64 t/\1+t<=n/\Efg w0 base g (digL d n) wr dv ([dgA d n 0]++[46]++((digL d n).drop 1).take (1-1+t))) (fun _ cv _=>n-1-(intOf cv).toNat)
 case atStart=>
  exact ⟨0,rfl,by omega,Efg.cast (by assumption) (by simp)⟩
 obtain ⟨t,rfl,ht,he3⟩:=hrel
 by_cases hlt:1+t<n
 ·have hst:=hide (zee (d:=d) (n:=n) (nz:=1) (t:=t) (by omega) hlt (HT.out _ (by omega) hlt))
  have hL:([dgA d n 0]++[46]++((digL d n).drop 1).take (1-1+t)).length<=1000:=by simp;rw [zaa];omega
  go_wp2_with (first
   |(at_builtin;(refine zaG _ he3 rfl _ _ rfl rfl rfl hL ?_;intro v3 w3 he4))
   |go_in)
  go_wp2
  go_roundw
  case rel=>exact ⟨t+1,by go_num,by omega,he4.cast (by rw [List.append_assoc,hst.out])⟩
  case measure=>simp [intOf];omega
 have htn:t=n-1:=by omega
 subst htn
 have e:1-1+(n-1)=n-1:=by omega
 rw [e,zd2] at he3
 clear e
 clear HT hc0
 by_cases h1:k<10
 ·go_wp2_with (first |(at_builtin;(first |(refine zaG _ (by assumption) rfl _ _ rfl rfl rfl (by first |(simp;done)|(simp;omega)|(simp [zaa];done)|(simp [zaa];omega)) ?_;intro zv9 zw9 zh9)|(refine zaX _ _ (by assumption) rfl _ _ rfl rfl rfl (by first |(simp;done)|(simp;omega)|(simp [zaa];done)|(simp [zaa];omega)) ?_;intro zv9 zw9 zh9)|(refine zav _ _ _ (by assumption) rfl _ _ rfl rfl rfl (by first |(simp;done)|(simp;omega)|(simp [zaa];done)|(simp [zaa];omega)) ?_;intro zv9 zw9 zh9)))|go_in)
  go_ret
  exact ⟨_,rfl,Efg.cast (by assumption) (by rw [zfZ h1];rfl)⟩
 by_cases h2:k<100
 ·go_wp2_with (first |(at_builtin;(first |(refine zaG _ (by assumption) rfl _ _ rfl rfl rfl (by first |(simp;done)|(simp;omega)|(simp [zaa];done)|(simp [zaa];omega)) ?_;intro zv9 zw9 zh9)|(refine zaX _ _ (by assumption) rfl _ _ rfl rfl rfl (by first |(simp;done)|(simp;omega)|(simp [zaa];done)|(simp [zaa];omega)) ?_;intro zv9 zw9 zh9)|(refine zav _ _ _ (by assumption) rfl _ _ rfl rfl rfl (by first |(simp;done)|(simp;omega)|(simp [zaa];done)|(simp [zaa];omega)) ?_;intro zv9 zw9 zh9)))|go_in)
  go_ret
  exact ⟨_,rfl,Efg.cast (by assumption) (by rw [zge h1 h2];rfl)⟩
 go_wp2_with (first |(at_builtin;(first |(refine zaG _ (by assumption) rfl _ _ rfl rfl rfl (by first |(simp;done)|(simp;omega)|(simp [zaa];done)|(simp [zaa];omega)) ?_;intro zv9 zw9 zh9)|(refine zaX _ _ (by assumption) rfl _ _ rfl rfl rfl (by first |(simp;done)|(simp;omega)|(simp [zaa];done)|(simp [zaa];omega)) ?_;intro zv9 zw9 zh9)|(refine zav _ _ _ (by assumption) rfl _ _ rfl rfl rfl (by first |(simp;done)|(simp;omega)|(simp [zaa];done)|(simp [zaa];omega)) ?_;intro zv9 zw9 zh9)))|go_in)
 go_ret
 exact ⟨_,rfl,Efg.cast (by assumption) (by rw [zfM h1 h2];rfl)⟩
theorem zvb (d n nz k g base:Nat) (w w0:World) (v:Value) (he:Efg w0 base g (digL d n) w v []) (hk:k<=400) (hn1:2<=n) (hn2:n<=17) (hz1:2<=nz) (hz2:nz<=n) (HT:Hid (∀ j,nz<=j->j<n->dgA d n j=48)):
 Calls Tryz.prog 207 #[v,.bool false,.slice (some ⟨g,0,none⟩) 24 24,.int .i64 ((k:Int)+1),.int .i64 nz,.int .i64 ((n:Int)-1),.int .u8 101,.bool false] w fun r w'=>∃ v',r=.returned v'/\Efg w0 base g (digL d n) w' v' (eTxt d n (k:Int)):=by
 have hc0:w.cell? ⟨g,0,none⟩=some (.int .u8 (dgA d n 0)):=by
  rw [he.cells 0 (by rw [zaa];omega),za3 (by omega)]
 rw [zfy,zb5 hn1]
 have hmin:min (nz:Int) n=nz:=by omega
 go_enter Tryz.func207,Tryz.ntmps207
 go_wp2_with (first
  |(at_builtin;(first |(refine zaG _ (by assumption) rfl _ _ rfl rfl rfl (by simp) ?_;intro v1 w1 he1)|(refine zmj (w0:=w0) (base:=base) (g:=g) (N:=digL d n) (nz-1) 23 (by assumption) rfl _ _ rfl rfl rfl (by simp) (by rw [zaa];omega) (by omega) ?_;intro v2 w2 he2)))
  |go_in)
 go_loopw [0,114] (fun dv cv wr=>∃ t:Nat,cv=.int .i64 t/\nz+t<=n/\Efg w0 base g (digL d n) wr dv ([dgA d n 0]++[46]++((digL d n).drop 1).take (nz-1+t))) (fun _ cv _=>n-nz-(intOf cv).toNat)
 case atStart=>
  exact ⟨0,rfl,by omega,Efg.cast (by assumption) (by simp)⟩
 obtain ⟨t,rfl,ht,he3⟩:=hrel
 by_cases hlt:nz+t<n
 ·have hst:=hide (zee (d:=d) (n:=n) (nz:=nz) (t:=t) (by omega) hlt (HT.out _ (by omega) hlt))
  have hL:([dgA d n 0]++[46]++((digL d n).drop 1).take (nz-1+t)).length<=1000:=by simp;rw [zaa];omega
  go_wp2_with (first
   |(at_builtin;(refine zaG _ he3 rfl _ _ rfl rfl rfl hL ?_;intro v3 w3 he4))
   |go_in)
  go_wp2
  go_roundw
  case rel=>exact ⟨t+1,by go_num,by omega,he4.cast (by rw [List.append_assoc,hst.out])⟩
  case measure=>simp [intOf];omega
 have htn:t=n-nz:=by omega
 subst htn
 have e:nz-1+(n-nz)=n-1:=by omega
 rw [e,zd2] at he3
 clear e
 clear HT hc0
 by_cases h1:k<10
 ·go_wp2_with (first |(at_builtin;(first |(refine zaG _ (by assumption) rfl _ _ rfl rfl rfl (by first |(simp;done)|(simp;omega)|(simp [zaa];done)|(simp [zaa];omega)) ?_;intro zv9 zw9 zh9)|(refine zaX _ _ (by assumption) rfl _ _ rfl rfl rfl (by first |(simp;done)|(simp;omega)|(simp [zaa];done)|(simp [zaa];omega)) ?_;intro zv9 zw9 zh9)|(refine zav _ _ _ (by assumption) rfl _ _ rfl rfl rfl (by first |(simp;done)|(simp;omega)|(simp [zaa];done)|(simp [zaa];omega)) ?_;intro zv9 zw9 zh9)))|go_in)
  go_ret
  exact ⟨_,rfl,Efg.cast (by assumption) (by rw [zfZ h1];rfl)⟩
 by_cases h2:k<100
 ·go_wp2_with (first |(at_builtin;(first |(refine zaG _ (by assumption) rfl _ _ rfl rfl rfl (by first |(simp;done)|(simp;omega)|(simp [zaa];done)|(simp [zaa];omega)) ?_;intro zv9 zw9 zh9)|(refine zaX _ _ (by assumption) rfl _ _ rfl rfl rfl (by first |(simp;done)|(simp;omega)|(simp [zaa];done)|(simp [zaa];omega)) ?_;intro zv9 zw9 zh9)|(refine zav _ _ _ (by assumption) rfl _ _ rfl rfl rfl (by first |(simp;done)|(simp;omega)|(simp [zaa];done)|(simp [zaa];omega)) ?_;intro zv9 zw9 zh9)))|go_in)
  go_ret
  exact ⟨_,rfl,Efg.cast (by assumption) (by rw [zge h1 h2];rfl)⟩
 go_wp2_with (first |(at_builtin;(first |(refine zaG _ (by assumption) rfl _ _ rfl rfl rfl (by first |(simp;done)|(simp;omega)|(simp [zaa];done)|(simp [zaa];omega)) ?_;intro zv9 zw9 zh9)|(refine zaX _ _ (by assumption) rfl _ _ rfl rfl rfl (by first |(simp;done)|(simp;omega)|(simp [zaa];done)|(simp [zaa];omega)) ?_;intro zv9 zw9 zh9)|(refine zav _ _ _ (by assumption) rfl _ _ rfl rfl rfl (by first |(simp;done)|(simp;omega)|(simp [zaa];done)|(simp [zaa];omega)) ?_;intro zv9 zw9 zh9)))|go_in)
 go_ret
 exact ⟨_,rfl,Efg.cast (by assumption) (by rw [zfM h1 h2];rfl)⟩
theorem zul (d n nz k g base:Nat) (w w0:World) (v:Value) (he:Efg w0 base g (digL d n) w v []) (hk:k<=400) (hk0:0<k) (hn1:2<=n) (hn2:n<=17) (hz1:2<=nz) (hz2:nz<=n) (HT:Hid (∀ j,nz<=j->j<n->dgA d n j=48)):
 Calls Tryz.prog 207 #[v,.bool false,.slice (some ⟨g,0,none⟩) 24 24,.int .i64 ((-(k:Int))+1),.int .i64 nz,.int .i64 ((n:Int)-1),.int .u8 101,.bool false] w fun r w'=>∃ v',r=.returned v'/\Efg w0 base g (digL d n) w' v' (eTxt d n (-(k:Int))):=by
 have hc0:w.cell? ⟨g,0,none⟩=some (.int .u8 (dgA d n 0)):=by
  rw [he.cells 0 (by rw [zaa];omega),za3 (by omega)]
 rw [ze8 hk0,zb5 hn1]
 have hmin:min (nz:Int) n=nz:=by omega
 go_enter Tryz.func207,Tryz.ntmps207
 go_wp2_with (first
  |(at_builtin;(first |(refine zaG _ (by assumption) rfl _ _ rfl rfl rfl (by simp) ?_;intro v1 w1 he1)|(refine zmj (w0:=w0) (base:=base) (g:=g) (N:=digL d n) (nz-1) 23 (by assumption) rfl _ _ rfl rfl rfl (by simp) (by rw [zaa];omega) (by omega) ?_;intro v2 w2 he2)))
  |go_in)
 go_loopw [0,114] (fun dv cv wr=>∃ t:Nat,cv=.int .i64 t/\nz+t<=n/\Efg w0 base g (digL d n) wr dv ([dgA d n 0]++[46]++((digL d n).drop 1).take (nz-1+t))) (fun _ cv _=>n-nz-(intOf cv).toNat)
 case atStart=>
  exact ⟨0,rfl,by omega,Efg.cast (by assumption) (by simp)⟩
 obtain ⟨t,rfl,ht,he3⟩:=hrel
 by_cases hlt:nz+t<n
 ·have hst:=hide (zee (d:=d) (n:=n) (nz:=nz) (t:=t) (by omega) hlt (HT.out _ (by omega) hlt))
  have hL:([dgA d n 0]++[46]++((digL d n).drop 1).take (nz-1+t)).length<=1000:=by simp;rw [zaa];omega
  go_wp2_with (first
   |(at_builtin;(refine zaG _ he3 rfl _ _ rfl rfl rfl hL ?_;intro v3 w3 he4))
   |go_in)
  go_wp2
  go_roundw
  case rel=>exact ⟨t+1,by go_num,by omega,he4.cast (by rw [List.append_assoc,hst.out])⟩
  case measure=>simp [intOf];omega
 have htn:t=n-nz:=by omega
 subst htn
 have e:nz-1+(n-nz)=n-1:=by omega
 rw [e,zd2] at he3
 clear e
 clear HT hc0
 by_cases h1:k<10
 ·go_wp2_with (first |(at_builtin;(first |(refine zaG _ (by assumption) rfl _ _ rfl rfl rfl (by first |(simp;done)|(simp;omega)|(simp [zaa];done)|(simp [zaa];omega)) ?_;intro zv9 zw9 zh9)|(refine zaX _ _ (by assumption) rfl _ _ rfl rfl rfl (by first |(simp;done)|(simp;omega)|(simp [zaa];done)|(simp [zaa];omega)) ?_;intro zv9 zw9 zh9)|(refine zav _ _ _ (by assumption) rfl _ _ rfl rfl rfl (by first |(simp;done)|(simp;omega)|(simp [zaa];done)|(simp [zaa];omega)) ?_;intro zv9 zw9 zh9)))|go_in)
  go_ret
  exact ⟨_,rfl,Efg.cast (by assumption) (by rw [zfZ h1];rfl)⟩
 by_cases h2:k<100
 ·go_wp2_with (first |(at_builtin;(first |(refine zaG _ (by assumption) rfl _ _ rfl rfl rfl (by first |(simp;done)|(simp;omega)|(simp [zaa];done)|(simp [zaa];omega)) ?_;intro zv9 zw9 zh9)|(refine zaX _ _ (by assumption) rfl _ _ rfl rfl rfl (by first |(simp;done)|(simp;omega)|(simp [zaa];done)|(simp [zaa];omega)) ?_;intro zv9 zw9 zh9)|(refine zav _ _ _ (by assumption) rfl _ _ rfl rfl rfl (by first |(simp;done)|(simp;omega)|(simp [zaa];done)|(simp [zaa];omega)) ?_;intro zv9 zw9 zh9)))|go_in)
  go_ret
  exact ⟨_,rfl,Efg.cast (by assumption) (by rw [zge h1 h2];rfl)⟩
 go_wp2_with (first |(at_builtin;(first |(refine zaG _ (by assumption) rfl _ _ rfl rfl rfl (by first |(simp;done)|(simp;omega)|(simp [zaa];done)|(simp [zaa];omega)) ?_;intro zv9 zw9 zh9)|(refine zaX _ _ (by assumption) rfl _ _ rfl rfl rfl (by first |(simp;done)|(simp;omega)|(simp [zaa];done)|(simp [zaa];omega)) ?_;intro zv9 zw9 zh9)|(refine zav _ _ _ (by assumption) rfl _ _ rfl rfl rfl (by first |(simp;done)|(simp;omega)|(simp [zaa];done)|(simp [zaa];omega)) ?_;intro zv9 zw9 zh9)))|go_in)
 go_ret
 exact ⟨_,rfl,Efg.cast (by assumption) (by rw [zfM h1 h2];rfl)⟩
end Go.Proofs.YtamdnnkdnhkghaaGreatDoor
