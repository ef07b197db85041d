import Derived.Test.YtjibjahfbblieaaGreatDoorKBR
import Derived.Test.YtjibjahfbblieaaGreatDoorKP1J0
import Derived.Test.YtjibjahfbblieaaGreatDoorKP1D5
import Derived.Test.YtjibjahfbblieaaGreatDoorKP1Y3a
import Derived.Test.YtjibjahfbblieaaGreatDoorKP1Y3c
import Derived.Test.YtjibjahfbblieaaGreatDoorKP1Y3e
import Derived.OwnWalk
namespace Go.Proofs.YtjibjahfbblieaaGreatDoor.F
open Go Go.RowKit
set_option linter.unusedVariables false
theorem jV (W:Nat) (w:World):(callFunc 207 #[.float .f64 W]).run Tryz.prog w=.ok (.value (.int .u64 W)) w:=by
 rw [run_callFunc_extern (e:=Extern.MathFloatBits.float64bits) Tryz.func207 (by kernel_rfl) (by kernel_rfl) (by kernel_rfl) (by kernel_rfl)]
 rfl
theorem rE (r:Nat) (h:r<18446744073709551616):bits .and .u64 (r:Int) 4503599627370495=((r%4503599627370496:Nat):Int):=by
 have:=u64_and_nat r 4503599627370495 h (by omega)
 rw [show (4503599627370495:Nat)=2^52-1 from rfl,Nat.and_two_pow_sub_one_eq_mod] at this
 exact this
theorem IU (f:Nat) (h:f<4503599627370496):bits .or .u64 (f:Int) 4503599627370496=((f+4503599627370496:Nat):Int):=by
 have h1:=u64_or_nat f 4503599627370496 (by omega) (by omega)
 have h2:f|||4503599627370496=f+4503599627370496:=by
  have:=Nat.two_pow_add_eq_or_of_lt (i:=52) (b:=f) h 1
  rw [Nat.or_comm]
  have e:(2:Nat)^52*1=4503599627370496:=rfl
  rw [e] at this
  rw [<-this]
  exact Nat.add_comm _ _
 rw [h2] at h1
 exact h1
theorem eG.below {w w':World} {base:Nat} {v:Value} {L:List Int} (h:eG w base v L) (hb:Below w.heap.size w w'):eG w' base v L:=by
 obtain ⟨⟨h1,h2⟩,hv⟩:=h
 refine ⟨⟨h1,?_⟩,hv⟩
 rcases h2 with h2|⟨g,cap,cur,h3,h4,h5,h6⟩
 ·exact .inl h2
 ·refine .inr ⟨g,cap,cur,h3,h4,?_,h6⟩
  rw [hb.block g (Array.getElem?_eq_some_iff.1 h5).1]
  exact h5
theorem Di (d n nz g base:Nat) (X:Int) (w w0:World) (v:Value) (he:Efg w0 base g (digL d n) w v []) (hn1:1<=n) (hn2:n<=17) (hz1:1<=nz) (hz2:nz<=n) (ht:∀ j,nz<=j->j<n->g_ d n j=48) (hX1: -400<=X) (hX2:X<=400):
 Calls Tryz.prog 210 #[v,.bool false,.slice (some ⟨g,0,none⟩) 24 24,.int .i64 (X+1),.int .i64 nz,.int .i64 ((n:Int)-1),.int .u8 101,.bool false] w fun r w'=>∃ v',r=.returned v'/\Efg w0 base g (digL d n) w' v' (eP d n X):=by
 rcases Int.lt_or_le X 0 with hneg|hpos
 ·obtain ⟨k,hk⟩:∃ k:Nat,X= -(k:Int):=⟨X.natAbs,by omega⟩
  subst hk
  by_cases h1:n=1
  ·subst h1
   obtain rfl:nz=1:=by omega
   exact Nv d k g base w w0 v he (by omega) (by omega)
  ·by_cases h2:nz=1
   ·subst h2
    exact Ou d n k g base w w0 v he (by omega) (by omega) (by omega) hn2 (hide ht)
   ·exact Nw d n nz k g base w w0 v he (by omega) (by omega) (by omega) hn2 (by omega) hz2 (hide ht)
 ·obtain ⟨k,hk⟩:∃ k:Nat,X=(k:Int):=⟨X.natAbs,by omega⟩
  subst hk
  by_cases h1:n=1
  ·subst h1
   obtain rfl:nz=1:=by omega
   exact Ng d k g base w w0 v he (by omega)
  ·by_cases h2:nz=1
   ·subst h2
    exact Nl d n k g base w w0 v he (by omega) (by omega) hn2 (hide ht)
   ·exact Ni d n nz k g base w w0 v he (by omega) (by omega) hn2 (by omega) hz2 (hide ht)
abbrev sO:Obj:=.cells #[.int .u8 0,.int .u8 0,.int .u8 0,.int .u8 0,.int .u8 0,.int .u8 0,.int .u8 0,.int .u8 0,.int .u8 0,.int .u8 0,.int .u8 0,.int .u8 0,.int .u8 0,.int .u8 0,.int .u8 0,.int .u8 0,.int .u8 0,.int .u8 0,.int .u8 0,.int .u8 0,.int .u8 0,.int .u8 0,.int .u8 0,.int .u8 0] 203
theorem buf_cells (W:World):∀ j,j<24->(W.alloc sO).cell? ⟨W.heap.size,j,none⟩=some (.int .u8 0)/\(W.alloc sO).frozen? ⟨W.heap.size,j,none⟩=false:=by
 intro j hj
 have hA:(#[.int .u8 0,.int .u8 0,.int .u8 0,.int .u8 0,.int .u8 0,.int .u8 0,.int .u8 0,.int .u8 0,.int .u8 0,.int .u8 0,.int .u8 0,.int .u8 0,.int .u8 0,.int .u8 0,.int .u8 0,.int .u8 0,.int .u8 0,.int .u8 0,.int .u8 0,.int .u8 0,.int .u8 0,.int .u8 0,.int .u8 0,.int .u8 0]:Array Value)=Array.replicate 24 (.int .u8 0):=rfl
 have hh:(W.alloc sO).heap[W.heap.size]?=some sO:=heap_alloc_new W _
 constructor
 ·unfold World.cell?
  simp only [hh]
  rw [hA]
  simp [hj]
 ·unfold World.frozen?
  simp only [hh]
  simp
theorem tab_below {w w':World} (h:Lib.TabIs Tryz.prog w "internal/strconv.uint64pow10" .u64 Lib.pow10Tab) (hs:3<w.heap.size) (hb:Below w.heap.size w w'):Lib.TabIs Tryz.prog w' "internal/strconv.uint64pow10" .u64 Lib.pow10Tab:=by
 unfold Lib.TabIs World.var? at h ⊢
 rw [show Tryz.prog.globalNamed "internal/strconv.uint64pow10" =some 3 by kernel_rfl] at h ⊢
 simp only [Option.bind_some] at h ⊢
 rw [hb.block 3 hs]
 exact h
theorem Dj {d n:Nat} (hn:1<=n) (h1:10^(n-1)<=d) (h2:d<10^n):Lib.nDigits d=n:=by
 have:=Lib.nDigits_unique (n-1) d h1 (by rw [Nat.sub_add_cancel hn];exact h2)
 omega
def OG (x n:Nat) (E:Int) (base:Nat) (w:World) (e:Ending) (w':World):Prop:=
 ∃ v' d q,e=.returned v'/\FixW x n E d q/\eG w' base v' (eP d n ((n:Int)-1-q))/\Below base w w'
theorem CU {x n d:Nat} {E q:Int} (h:FixW x n E d q) (h1: -1074<=E+63) (h2:E+63<=1023): -400<=(n:Int)-1-q/\(n:Int)-1-q<=400:=by
 have: -400<l10 (E+63)/\l10 (E+63)<399:=by unfold l10;omega
 rcases h.val with ⟨hq,_⟩|⟨hq,_⟩
 ·unfold zV at hq;omega
 ·unfold zV at hq;omega
theorem uF {d n:Nat} (hn:1<=n) (h1:10^(n-1)<=d) (h2:d<10^n):g_ d n 0≠48:=by
 rw [iB]
 have e:n-1-0=n-1:=rfl
 rw [e]
 have hp:0<10^(n-1):=Nat.pow_pos (by omega)
 have h3:1<=d/10^(n-1):=(Nat.one_le_div_iff hp).2 h1
 have h4:d/10^(n-1)<10:=by
  rw [Nat.div_lt_iff_lt_mul hp,Nat.mul_comm,<-Nat.pow_succ]
  have:(n-1).succ=n:=by omega
  rw [this];exact h2
 rw [Nat.mod_eq_of_lt h4]
 omega
theorem uG {w W w1 w2:World} {base d n nz:Nat} {v:Value} (hown:eG w base v []) (hbase:base<=w.heap.size) (hW:Below w.heap.size w W) (hWs:W.heap.size=w.heap.size) (hb1:Below (W.alloc sO).heap.size (W.alloc sO) w1) (hs:SetD w1 w2 w.heap.size d n nz):Efg w base w.heap.size (digL d n) w2 v []:=by
 have hal:Below w.heap.size w (W.alloc sO):=hW.alloc (by omega) _
 have hsz:(W.alloc sO).heap.size=w.heap.size+1:=by simp;omega
 have h1:Below w.heap.size w w1:=hal.trans (hb1.mono (by omega))
 have h2:Below w.heap.size w w2:=h1.trans hs.bel
 have s1:=hb1.size
 have s2:=hs.bel.size
 refine ⟨hown.below h2,?_,by omega,fun j hj=>?_,by omega,h2.mono hbase⟩
 ·intro hh
  have:=(hown.1.lt _ hh).2
  omega
 ·rw [digL_len] at hj
  rw [hs.dig j hj,bZ hj]
end Go.Proofs.YtjibjahfbblieaaGreatDoor.F
namespace Go.Proofs.YtjibjahfbblieaaGreatDoor.F
open Go Go.RowKit
set_option linter.unusedVariables false
theorem Ea:eP 0 1 0=[]++[48]++[101]++[43]++[48,48]:=by decide
set_option maxHeartbeats 1600000 in
set_option maxRecDepth 100000 in
theorem GN (base:Nat) (w w0:World) (v:Value) (he:Efg w0 base 0 [] w v []):
 Calls Tryz.prog 210 #[v,.bool false,.slice none 0 0,.int .i64 0,.int .i64 0,.int .i64 0,.int .u8 101,.bool false] w fun r w'=>∃ v',r=.returned v'/\Efg w0 base 0 [] w' v' (eP 0 1 0):=by
 rw [Ea]
 go_enter Tryz.func210,Tryz.ntmps210
 go_wp2_with (first |(at_builtin;(first |(refine aR _ (by assumption) rfl _ _ rfl rfl rfl (by first |(simp;done)|(simp;omega)|(simp [digL_len];done)|(simp [digL_len];omega)) ?_;intro zv9 zw9 zh9)|(refine bK _ _ (by assumption) rfl _ _ rfl rfl rfl (by first |(simp;done)|(simp;omega)|(simp [digL_len];done)|(simp [digL_len];omega)) ?_;intro zv9 zw9 zh9)|(refine aL _ _ _ (by assumption) rfl _ _ rfl rfl rfl (by first |(simp;done)|(simp;omega)|(simp [digL_len];done)|(simp [digL_len];omega)) ?_;intro zv9 zw9 zh9)))|go_in)
 go_ret
 exact ⟨_,rfl,by assumption⟩
set_option maxHeartbeats 1600000 in
set_option maxRecDepth 100000 in
theorem Eh (base:Nat) (v:Value) (w:World) (hown:eG w base v []) (hbase:base<=w.heap.size) (hb0:0<base):
 Calls Tryz.prog 188 #[v,.float .f64 0,.int .u8 101,.int .i64 0] w fun e w'=>∃ v',e=.returned v'/\eG w' base v' (eP 0 1 0)/\Below base w w':=by
 have hfb:=jV 0
 have e1:bits .and .u64 0 4503599627370495=0:=by decide+kernel
 have e3:bits .and .i64 0 2047=0:=by decide+kernel
 have He:Hid (∀ m,Efg w base 0 [] (w.drewN m) v []):=hide (fun m=>⟨hown.below (bF (Below.refl _ _) m),fun hh=>by have:=(hown.1.lt _ hh).1;omega,by simp;omega,fun j hj=>by simp at hj,by simpa using hbase,(bF (Below.refl _ _) m).mono hbase⟩)
 clear hown
 go_enter Tryz.func188,Tryz.ntmps188
 go_wp2_with fail
 go_quiet (fail)
 go_wp2_with fail
 refine (GN base _ w v (He.out _)).mono ?_
 rintro e w3 ⟨v3,rfl,he3⟩
 have H3:=hide he3
 clear he3
 go_wp2
 go_ret
 exact ⟨v3,rfl,H3.out.own,H3.out.bel⟩
end Go.Proofs.YtjibjahfbblieaaGreatDoor.F
