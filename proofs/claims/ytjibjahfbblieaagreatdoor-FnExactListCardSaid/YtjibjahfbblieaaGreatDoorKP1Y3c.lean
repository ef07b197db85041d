import Derived.Test.YtjibjahfbblieaaGreatDoorKMC1
namespace Go.Proofs.YtjibjahfbblieaaGreatDoor.F
open Go Go.RowKit
set_option linter.unusedVariables false
set_option maxHeartbeats 1600000 in
set_option maxRecDepth 100000 in
theorem Nl (d n k g base:Nat) (w w0:World) (v:Value) (he:Efg w0 base g (digL d n) w v []) (hk:k<=400) (hn1:2<=n) (hn2:n<=17) (HT:Hid (∀ j,1<=j->j<n->g_ d n j=48)):
 Calls Tryz.prog 210 #[v,.bool false,.slice (some ⟨g,0,none⟩) 24 24,.int .i64 ((k:Int)+1),.int .i64 1,.int .i64 ((n:Int)-1),.int .u8 101,.bool false] w fun r w'=>∃ v',r=.returned v'/\Efg w0 base g (digL d n) w' v' (eP d n (k:Int)):=by
 have hc0:w.cell? ⟨g,0,none⟩=some (.int .u8 (g_ d n 0)):=by
  rw [he.cells 0 (by rw [digL_len];omega),bZ (by omega)]
 rw [nV,iq hn1]
 have hmin:min (1:Int) n=1:=by omega
 go_enter Tryz.func210,Tryz.ntmps210
 go_wp2_with (first |(at_builtin;(first |(refine aR _ (by assumption) rfl _ _ rfl rfl rfl (by first |(simp;done)|(simp;omega)|(simp [digL_len];done)|(simp [digL_len];omega)) ?_;intro zv9 zw9 zh9)|(refine bK _ _ (by assumption) rfl _ _ rfl rfl rfl (by first |(simp;done)|(simp;omega)|(simp [digL_len];done)|(simp [digL_len];omega)) ?_;intro zv9 zw9 zh9)|(refine aL _ _ _ (by assumption) rfl _ _ rfl rfl rfl (by first |(simp;done)|(simp;omega)|(simp [digL_len];done)|(simp [digL_len];omega)) ?_;intro zv9 zw9 zh9)))|go_in)
 rename_i he2
 go_loopw [0,114] (fun dv cv wr=>∃ t:Nat,cv=.int .i64 t/\1+t<=n/\Efg w0 base g (digL d n) wr dv ([g_ d n 0]++[46]++((digL d n).drop 1).take (1-1+t))) (fun _ cv _=>n-1-(intOf cv).toNat)
 case atStart=>
  exact ⟨0,rfl,by omega,Efg.cast (by assumption) (by simp)⟩
 case round=>
  obtain ⟨t,rfl,ht,he3⟩:=hrel
  by_cases hlt:1+t<n
  ·have hst:=hide (lV (d:=d) (n:=n) (nz:=1) (t:=t) (by omega) hlt (HT.out _ (by omega) hlt))
   have hL:([g_ d n 0]++[46]++((digL d n).drop 1).take (1-1+t)).length<=1000:=by simp;rw [digL_len];omega
   go_wp2_with (first
    |(at_builtin;(refine aR _ he3 rfl _ _ rfl rfl rfl hL ?_;intro v3 w3 he4))
    |go_in)
   go_wp2
   go_roundw
   case rel=>exact ⟨t+1,by go_num,by omega,he4.cast (by rw [List.append_assoc,hst.out])⟩
   case measure=>simp [intOf];omega
  ·have htn:t=n-1:=by omega
   subst htn
   have e:1-1+(n-1)=n-1:=by omega
   rw [e,kL] at he3
   clear e
   clear HT hc0
   by_cases h1:k<10
   ·go_wp2_with (first |(at_builtin;(first |(refine aR _ (by assumption) rfl _ _ rfl rfl rfl (by first |(simp;done)|(simp;omega)|(simp [digL_len];done)|(simp [digL_len];omega)) ?_;intro zv9 zw9 zh9)|(refine bK _ _ (by assumption) rfl _ _ rfl rfl rfl (by first |(simp;done)|(simp;omega)|(simp [digL_len];done)|(simp [digL_len];omega)) ?_;intro zv9 zw9 zh9)|(refine aL _ _ _ (by assumption) rfl _ _ rfl rfl rfl (by first |(simp;done)|(simp;omega)|(simp [digL_len];done)|(simp [digL_len];omega)) ?_;intro zv9 zw9 zh9)))|go_in)
    go_ret
    exact ⟨_,rfl,Efg.cast (by assumption) (by rw [nD h1];rfl)⟩
   ·by_cases h2:k<100
    ·go_wp2_with (first |(at_builtin;(first |(refine aR _ (by assumption) rfl _ _ rfl rfl rfl (by first |(simp;done)|(simp;omega)|(simp [digL_len];done)|(simp [digL_len];omega)) ?_;intro zv9 zw9 zh9)|(refine bK _ _ (by assumption) rfl _ _ rfl rfl rfl (by first |(simp;done)|(simp;omega)|(simp [digL_len];done)|(simp [digL_len];omega)) ?_;intro zv9 zw9 zh9)|(refine aL _ _ _ (by assumption) rfl _ _ rfl rfl rfl (by first |(simp;done)|(simp;omega)|(simp [digL_len];done)|(simp [digL_len];omega)) ?_;intro zv9 zw9 zh9)))|go_in)
     go_ret
     exact ⟨_,rfl,Efg.cast (by assumption) (by rw [m_ h1 h2];rfl)⟩
    ·go_wp2_with (first |(at_builtin;(first |(refine aR _ (by assumption) rfl _ _ rfl rfl rfl (by first |(simp;done)|(simp;omega)|(simp [digL_len];done)|(simp [digL_len];omega)) ?_;intro zv9 zw9 zh9)|(refine bK _ _ (by assumption) rfl _ _ rfl rfl rfl (by first |(simp;done)|(simp;omega)|(simp [digL_len];done)|(simp [digL_len];omega)) ?_;intro zv9 zw9 zh9)|(refine aL _ _ _ (by assumption) rfl _ _ rfl rfl rfl (by first |(simp;done)|(simp;omega)|(simp [digL_len];done)|(simp [digL_len];omega)) ?_;intro zv9 zw9 zh9)))|go_in)
     go_ret
     exact ⟨_,rfl,Efg.cast (by assumption) (by rw [nk h1 h2];rfl)⟩
end Go.Proofs.YtjibjahfbblieaaGreatDoor.F
namespace Go.Proofs.YtjibjahfbblieaaGreatDoor.F
open Go Go.RowKit
set_option linter.unusedVariables false
set_option maxHeartbeats 1600000 in
set_option maxRecDepth 100000 in
theorem Ou (d n k g base:Nat) (w w0:World) (v:Value) (he:Efg w0 base g (digL d n) w v []) (hk:k<=400) (hk0:0<k) (hn1:2<=n) (hn2:n<=17) (HT:Hid (∀ j,1<=j->j<n->g_ d n j=48)):
 Calls Tryz.prog 210 #[v,.bool false,.slice (some ⟨g,0,none⟩) 24 24,.int .i64 ((-(k:Int))+1),.int .i64 1,.int .i64 ((n:Int)-1),.int .u8 101,.bool false] w fun r w'=>∃ v',r=.returned v'/\Efg w0 base g (digL d n) w' v' (eP d n (-(k:Int))):=by
 have hc0:w.cell? ⟨g,0,none⟩=some (.int .u8 (g_ d n 0)):=by
  rw [he.cells 0 (by rw [digL_len];omega),bZ (by omega)]
 rw [ou hk0,iq hn1]
 have hmin:min (1:Int) n=1:=by omega
 go_enter Tryz.func210,Tryz.ntmps210
 go_wp2_with (first |(at_builtin;(first |(refine aR _ (by assumption) rfl _ _ rfl rfl rfl (by first |(simp;done)|(simp;omega)|(simp [digL_len];done)|(simp [digL_len];omega)) ?_;intro zv9 zw9 zh9)|(refine bK _ _ (by assumption) rfl _ _ rfl rfl rfl (by first |(simp;done)|(simp;omega)|(simp [digL_len];done)|(simp [digL_len];omega)) ?_;intro zv9 zw9 zh9)|(refine aL _ _ _ (by assumption) rfl _ _ rfl rfl rfl (by first |(simp;done)|(simp;omega)|(simp [digL_len];done)|(simp [digL_len];omega)) ?_;intro zv9 zw9 zh9)))|go_in)
 rename_i he2
 go_loopw [0,114] (fun dv cv wr=>∃ t:Nat,cv=.int .i64 t/\1+t<=n/\Efg w0 base g (digL d n) wr dv ([g_ d n 0]++[46]++((digL d n).drop 1).take (1-1+t))) (fun _ cv _=>n-1-(intOf cv).toNat)
 case atStart=>
  exact ⟨0,rfl,by omega,Efg.cast (by assumption) (by simp)⟩
 case round=>
  obtain ⟨t,rfl,ht,he3⟩:=hrel
  by_cases hlt:1+t<n
  ·have hst:=hide (lV (d:=d) (n:=n) (nz:=1) (t:=t) (by omega) hlt (HT.out _ (by omega) hlt))
   have hL:([g_ d n 0]++[46]++((digL d n).drop 1).take (1-1+t)).length<=1000:=by simp;rw [digL_len];omega
   go_wp2_with (first
    |(at_builtin;(refine aR _ he3 rfl _ _ rfl rfl rfl hL ?_;intro v3 w3 he4))
    |go_in)
   go_wp2
   go_roundw
   case rel=>exact ⟨t+1,by go_num,by omega,he4.cast (by rw [List.append_assoc,hst.out])⟩
   case measure=>simp [intOf];omega
  ·have htn:t=n-1:=by omega
   subst htn
   have e:1-1+(n-1)=n-1:=by omega
   rw [e,kL] at he3
   clear e
   clear HT hc0
   by_cases h1:k<10
   ·go_wp2_with (first |(at_builtin;(first |(refine aR _ (by assumption) rfl _ _ rfl rfl rfl (by first |(simp;done)|(simp;omega)|(simp [digL_len];done)|(simp [digL_len];omega)) ?_;intro zv9 zw9 zh9)|(refine bK _ _ (by assumption) rfl _ _ rfl rfl rfl (by first |(simp;done)|(simp;omega)|(simp [digL_len];done)|(simp [digL_len];omega)) ?_;intro zv9 zw9 zh9)|(refine aL _ _ _ (by assumption) rfl _ _ rfl rfl rfl (by first |(simp;done)|(simp;omega)|(simp [digL_len];done)|(simp [digL_len];omega)) ?_;intro zv9 zw9 zh9)))|go_in)
    go_ret
    exact ⟨_,rfl,Efg.cast (by assumption) (by rw [nD h1];rfl)⟩
   ·by_cases h2:k<100
    ·go_wp2_with (first |(at_builtin;(first |(refine aR _ (by assumption) rfl _ _ rfl rfl rfl (by first |(simp;done)|(simp;omega)|(simp [digL_len];done)|(simp [digL_len];omega)) ?_;intro zv9 zw9 zh9)|(refine bK _ _ (by assumption) rfl _ _ rfl rfl rfl (by first |(simp;done)|(simp;omega)|(simp [digL_len];done)|(simp [digL_len];omega)) ?_;intro zv9 zw9 zh9)|(refine aL _ _ _ (by assumption) rfl _ _ rfl rfl rfl (by first |(simp;done)|(simp;omega)|(simp [digL_len];done)|(simp [digL_len];omega)) ?_;intro zv9 zw9 zh9)))|go_in)
     go_ret
     exact ⟨_,rfl,Efg.cast (by assumption) (by rw [m_ h1 h2];rfl)⟩
    ·go_wp2_with (first |(at_builtin;(first |(refine aR _ (by assumption) rfl _ _ rfl rfl rfl (by first |(simp;done)|(simp;omega)|(simp [digL_len];done)|(simp [digL_len];omega)) ?_;intro zv9 zw9 zh9)|(refine bK _ _ (by assumption) rfl _ _ rfl rfl rfl (by first |(simp;done)|(simp;omega)|(simp [digL_len];done)|(simp [digL_len];omega)) ?_;intro zv9 zw9 zh9)|(refine aL _ _ _ (by assumption) rfl _ _ rfl rfl rfl (by first |(simp;done)|(simp;omega)|(simp [digL_len];done)|(simp [digL_len];omega)) ?_;intro zv9 zw9 zh9)))|go_in)
     go_ret
     exact ⟨_,rfl,Efg.cast (by assumption) (by rw [nk h1 h2];rfl)⟩
end Go.Proofs.YtjibjahfbblieaaGreatDoor.F
