import Derived.Test.YtjibjahfbblieaaGreatDoorKMC1
namespace Go.Proofs.YtjibjahfbblieaaGreatDoor.F
open Go Go.RowKit
set_option linter.unusedVariables false
set_option maxHeartbeats 1600000 in
set_option maxRecDepth 100000 in
theorem Ng (d k g base:Nat) (w w0:World) (v:Value) (he:Efg w0 base g (digL d 1) w v []) (hk:k<=400):
 Calls Tryz.prog 210 #[v,.bool false,.slice (some ⟨g,0,none⟩) 24 24,.int .i64 ((k:Int)+1),.int .i64 1,.int .i64 0,.int .u8 101,.bool false] w fun r w'=>∃ v',r=.returned v'/\Efg w0 base g (digL d 1) w' v' (eP d 1 (k:Int)):=by
 have hc0:w.cell? ⟨g,0,none⟩=some (.int .u8 (g_ d 1 0)):=by
  rw [he.cells 0 (by rw [digL_len];omega),bZ (by omega)]
 rw [nV]
 by_cases h1:k<10
 ·rw [nD h1]
  go_enter Tryz.func210,Tryz.ntmps210
  go_wp2_with (first |(at_builtin;(first |(refine aR _ (by assumption) rfl _ _ rfl rfl rfl (by first |(simp;done)|(simp;omega)|(simp [digL_len];done)|(simp [digL_len];omega)) ?_;intro zv9 zw9 zh9)|(refine bK _ _ (by assumption) rfl _ _ rfl rfl rfl (by first |(simp;done)|(simp;omega)|(simp [digL_len];done)|(simp [digL_len];omega)) ?_;intro zv9 zw9 zh9)|(refine aL _ _ _ (by assumption) rfl _ _ rfl rfl rfl (by first |(simp;done)|(simp;omega)|(simp [digL_len];done)|(simp [digL_len];omega)) ?_;intro zv9 zw9 zh9)))|go_in)
  go_ret
  exact ⟨_,rfl,Efg.cast (by assumption) rfl⟩
 ·by_cases h2:k<100
  ·rw [m_ h1 h2]
   go_enter Tryz.func210,Tryz.ntmps210
   go_wp2_with (first |(at_builtin;(first |(refine aR _ (by assumption) rfl _ _ rfl rfl rfl (by first |(simp;done)|(simp;omega)|(simp [digL_len];done)|(simp [digL_len];omega)) ?_;intro zv9 zw9 zh9)|(refine bK _ _ (by assumption) rfl _ _ rfl rfl rfl (by first |(simp;done)|(simp;omega)|(simp [digL_len];done)|(simp [digL_len];omega)) ?_;intro zv9 zw9 zh9)|(refine aL _ _ _ (by assumption) rfl _ _ rfl rfl rfl (by first |(simp;done)|(simp;omega)|(simp [digL_len];done)|(simp [digL_len];omega)) ?_;intro zv9 zw9 zh9)))|go_in)
   go_ret
   exact ⟨_,rfl,Efg.cast (by assumption) rfl⟩
  ·rw [nk h1 h2]
   go_enter Tryz.func210,Tryz.ntmps210
   go_wp2_with (first |(at_builtin;(first |(refine aR _ (by assumption) rfl _ _ rfl rfl rfl (by first |(simp;done)|(simp;omega)|(simp [digL_len];done)|(simp [digL_len];omega)) ?_;intro zv9 zw9 zh9)|(refine bK _ _ (by assumption) rfl _ _ rfl rfl rfl (by first |(simp;done)|(simp;omega)|(simp [digL_len];done)|(simp [digL_len];omega)) ?_;intro zv9 zw9 zh9)|(refine aL _ _ _ (by assumption) rfl _ _ rfl rfl rfl (by first |(simp;done)|(simp;omega)|(simp [digL_len];done)|(simp [digL_len];omega)) ?_;intro zv9 zw9 zh9)))|go_in)
   go_ret
   exact ⟨_,rfl,Efg.cast (by assumption) rfl⟩
set_option maxHeartbeats 1600000 in
set_option maxRecDepth 100000 in
theorem Nv (d k g base:Nat) (w w0:World) (v:Value) (he:Efg w0 base g (digL d 1) w v []) (hk:k<=400) (hk0:0<k):
 Calls Tryz.prog 210 #[v,.bool false,.slice (some ⟨g,0,none⟩) 24 24,.int .i64 ((-(k:Int))+1),.int .i64 1,.int .i64 0,.int .u8 101,.bool false] w fun r w'=>∃ v',r=.returned v'/\Efg w0 base g (digL d 1) w' v' (eP d 1 (-(k:Int))):=by
 have hc0:w.cell? ⟨g,0,none⟩=some (.int .u8 (g_ d 1 0)):=by
  rw [he.cells 0 (by rw [digL_len];omega),bZ (by omega)]
 rw [ou hk0]
 by_cases h1:k<10
 ·rw [nD h1]
  go_enter Tryz.func210,Tryz.ntmps210
  go_wp2_with (first |(at_builtin;(first |(refine aR _ (by assumption) rfl _ _ rfl rfl rfl (by first |(simp;done)|(simp;omega)|(simp [digL_len];done)|(simp [digL_len];omega)) ?_;intro zv9 zw9 zh9)|(refine bK _ _ (by assumption) rfl _ _ rfl rfl rfl (by first |(simp;done)|(simp;omega)|(simp [digL_len];done)|(simp [digL_len];omega)) ?_;intro zv9 zw9 zh9)|(refine aL _ _ _ (by assumption) rfl _ _ rfl rfl rfl (by first |(simp;done)|(simp;omega)|(simp [digL_len];done)|(simp [digL_len];omega)) ?_;intro zv9 zw9 zh9)))|go_in)
  go_ret
  exact ⟨_,rfl,Efg.cast (by assumption) rfl⟩
 ·by_cases h2:k<100
  ·rw [m_ h1 h2]
   go_enter Tryz.func210,Tryz.ntmps210
   go_wp2_with (first |(at_builtin;(first |(refine aR _ (by assumption) rfl _ _ rfl rfl rfl (by first |(simp;done)|(simp;omega)|(simp [digL_len];done)|(simp [digL_len];omega)) ?_;intro zv9 zw9 zh9)|(refine bK _ _ (by assumption) rfl _ _ rfl rfl rfl (by first |(simp;done)|(simp;omega)|(simp [digL_len];done)|(simp [digL_len];omega)) ?_;intro zv9 zw9 zh9)|(refine aL _ _ _ (by assumption) rfl _ _ rfl rfl rfl (by first |(simp;done)|(simp;omega)|(simp [digL_len];done)|(simp [digL_len];omega)) ?_;intro zv9 zw9 zh9)))|go_in)
   go_ret
   exact ⟨_,rfl,Efg.cast (by assumption) rfl⟩
  ·rw [nk h1 h2]
   go_enter Tryz.func210,Tryz.ntmps210
   go_wp2_with (first |(at_builtin;(first |(refine aR _ (by assumption) rfl _ _ rfl rfl rfl (by first |(simp;done)|(simp;omega)|(simp [digL_len];done)|(simp [digL_len];omega)) ?_;intro zv9 zw9 zh9)|(refine bK _ _ (by assumption) rfl _ _ rfl rfl rfl (by first |(simp;done)|(simp;omega)|(simp [digL_len];done)|(simp [digL_len];omega)) ?_;intro zv9 zw9 zh9)|(refine aL _ _ _ (by assumption) rfl _ _ rfl rfl rfl (by first |(simp;done)|(simp;omega)|(simp [digL_len];done)|(simp [digL_len];omega)) ?_;intro zv9 zw9 zh9)))|go_in)
   go_ret
   exact ⟨_,rfl,Efg.cast (by assumption) rfl⟩
end Go.Proofs.YtjibjahfbblieaaGreatDoor.F
