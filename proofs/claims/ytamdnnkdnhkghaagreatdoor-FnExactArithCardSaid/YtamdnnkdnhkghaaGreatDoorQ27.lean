import Derived.Lib.QuietBelow
import Derived.Lib.Replace
import Derived.Test.YtamdnnkdnhkghaaGreatDoorQ25
import Derived.Test.YtamdnnkdnhkghaaGreatDoorQ26
set_option maxHeartbeats 12800000
set_option maxRecDepth 100000
set_option linter.unusedVariables false
namespace Go.Proofs.YtamdnnkdnhkghaaGreatDoor
open Go Go.RowKit
theorem zic (s:Bool) (r:Nat):FloatKind.f64.encode (Ieee.Datum.integral .down (.number s (wM r) (wE r)))=wordS s (zcB s r):=by
 rw [zgV]
 show Ieee.double.nearest s (zbg s r) 0=_
 rw [zbW]
 rfl
theorem zns {s:Bool} {r:Nat} (h:r<infW) (w:World):(callFunc 170 #[.float .f64 (wordS s r)]).run Tryz.prog w=.ok (.value (.float .f64 (wordS s (zcB s r)))) w:=by
 rw [run_callFunc_extern (e:=Extern.MathFloor.toIntegral "math.archFloor" .down) Tryz.func170 (by kernel_rfl) (by kernel_rfl) (by kernel_rfl) (by kernel_rfl)]
 have:Extern.MathFloor.toIntegral "math.archFloor" .down #[.float .f64 (wordS s r)]=pure (.float .f64 (wordS s (zcB s r))):=by
  refine Eq.trans (b:=Extern.MathFloor.toIntegral.match_1 (motive:=fun _=>Sem Value) (FloatKind.f64.decode (wordS s r)) _ _) rfl ?_
  rw [zeE h,<-zic]
 rw [this]
 rfl
theorem zmg (s:Bool) (r:Nat) (w:World) (h:r<infW):
 Rs 126 #[.float .f64 (wordS s r)] w (.float .f64 (wordS s (zcB s r))):=by
 have ht:=fun w=>zns (s:=s) h w
 generalize wordS s r=W at *
 generalize wordS s (zcB s r)=T at *
 go_enter Tryz.func126,Tryz.ntmps126
 go_wp2
 all_goals go_ret
 all_goals exact ⟨rfl,rfl⟩
def intW (i:Int):Nat:=wordS (decide (i<0)) (Ieee.double.nearest false i.natAbs 0)
theorem zjL {n W:Nat} (h:IsRnd (n*2^((0:Int)+1074).toNat) (1*2^(-1074-(0:Int)).toNat) W):W=Ieee.double.nearest false n 0:=by
 obtain ⟨c,hc⟩:∃ c:Nat,c=1074:=⟨_,rfl⟩
 have e1:((0:Int)+1074).toNat=c:=by omega
 have e2:(-1074-(0:Int)).toNat=0:=by decide
 rw [e1,e2,Nat.pow_zero,Nat.mul_one] at h
 by_cases h0:n=0
 ·subst h0
  rw [Nat.zero_mul] at h
  have h1:IsRnd 0 1 0:=zbV (by omega)
  rw [IsRnd.unique h h1]
  decide+kernel
 have h1:=zbk (mag:=n) (place:=0) h0 (A:=c) (B:=0) (by omega)
 rw [Nat.pow_zero] at h1
 exact IsRnd.unique h h1
theorem zcP (i:Int) (w:World) (h0: -9223372036854775808<i) (h1:i<=9223372036854775807):
 Rb 59 #[.int .i64 i] w (.int .u64 (intW i:Nat)):=by
 have hb:(i== -9223372036854775808)=false:=by rw [beq_eq_false_iff_ne];omega
 by_cases hn:i<0
 ·obtain ⟨n,hni,hn2⟩:∃ n:Nat,-i=n/\n<9223372036854775808:=⟨(-i).toNat,by omega,by omega⟩
  have hw:Ieee.double.nearest false n 0<=infW:=zbr n 0
  have hI:(intW i:Nat)=9223372036854775808+Ieee.double.nearest false n 0:=by
   unfold intW wordS
   have:i.natAbs=n:=by omega
   rw [this,decide_eq_true hn,if_pos rfl]
  rw [hI]
  have O:=hide (fun w'=>zbf n w' hn2)
  have Wd:=hide (fun w' vn vd h hd=>zfu n w' vn vd hn2 h hd)
  clear hI
  generalize hW:Ieee.double.nearest false n 0=V at *
  have HW:=hide hW
  have hw1:(V:Int)<=9218868437227405312:=by unfold infW at hw;omega
  clear hW hw
  rw [Int.natCast_add]
  go_enter Tryz.func59,Tryz.ntmps59
  go_wp2_with fail
  refine (O.out _).mono ?_
  rintro e w1 ⟨v1,rfl,hbig,hb1⟩
  go_wp2_with fail
  refine (Wd.out _ _ _ (hbig.below ((Below.refl _ _).alloc (Nat.le_refl _) _)) (zdJ w1)).mono ?_
  rintro e w2 ⟨W,rfl,hrnd,hb2⟩
  have hWV:W=V:=by rw [<-HW.out];exact zjL hrnd
  subst hWV
  clear hrnd
  go_wp2
  go_ret
  exact ⟨rfl,hb1.trans (((Below.refl w1.heap.size w1).alloc (Nat.le_refl _) _).trans (hb2.mono (by simp))|>.mono hb1.size)⟩
 obtain ⟨n,hni,hn2⟩:∃ n:Nat,i=n/\n<9223372036854775808:=⟨i.toNat,by omega,by omega⟩
 subst hni
 have hI:(intW (n:Int):Nat)=Ieee.double.nearest false n 0:=by
  unfold intW wordS
  rw [decide_eq_false hn,if_neg (by decide)]
  rfl
 rw [hI]
 have O:=hide (fun w'=>zbf n w' hn2)
 have Wd:=hide (fun w' vn vd h hd=>zfu n w' vn vd hn2 h hd)
 clear hI
 generalize hW:Ieee.double.nearest false n 0=V at *
 have HW:=hide hW
 clear hW
 go_enter Tryz.func59,Tryz.ntmps59
 go_wp2_with fail
 refine (O.out _).mono ?_
 rintro e w1 ⟨v1,rfl,hbig,hb1⟩
 go_wp2_with fail
 refine (Wd.out _ _ _ (hbig.below ((Below.refl _ _).alloc (Nat.le_refl _) _)) (zdJ w1)).mono ?_
 rintro e w2 ⟨W,rfl,hrnd,hb2⟩
 have hWV:W=V:=by rw [<-HW.out];exact zjL hrnd
 subst hWV
 clear hrnd
 go_wp2
 go_ret
 exact ⟨rfl,hb1.trans (((Below.refl w1.heap.size w1).alloc (Nat.le_refl _) _).trans (hb2.mono (by simp))|>.mono hb1.size)⟩
structure FlFin (W r:Nat) (M E:Int) (s:Bool) (F:Int) (X:Nat):Prop where
 i:∀ w,Rs 48 #[.int .u64 W] w (.bool false)
 p:∀ w,Rs 71 #[.int .u64 r] w (.tuple #[.int .i64 M,.int .i64 E])
 n:∀ w,Rs 47 #[.int .u64 W] w (.bool s)
 f:∀ w,Rb 59 #[.int .i64 F] w (.int .u64 X)
 m:(W:Int)%9223372036854775808=r
theorem zrB {W r:Nat} {M E F:Int} {s:Bool} {X:Nat} (h:FlFin W r M E s F X) (hE:0<=E) (w:World):
 Rb 89 #[.int .u64 W] w (.int .u64 W):=by
 have H1:=hide h.i
 have H2:=hide h.p
 have hm:=h.m
 clear h
 go_enter Tryz.func89,Tryz.ntmps89
 go_wp2_with (first |(go_at_call 71;refine (H2.out _).mono ?_;rintro e w' ⟨rfl,rfl⟩)|(go_at_call 48;refine (H1.out _).mono ?_;rintro e w' ⟨rfl,rfl⟩))
 all_goals go_ret
 all_goals exact ⟨rfl,Below.refl _ _⟩
theorem ztx {W r:Nat} {M E F T:Int} {s b:Bool} {X:Nat} (h:FlFin W r M E s F X) (hE:E<0) (hE2: -63<E) (hM0:0<=M) (hM:(M !=0)=true) (hT:M/2^(-E).toNat=T) (hb:(wrap64 (T*2^(-E).toNat)==M)=b) (h0:0<=T) (h1:T<=9007199254740992)
 (hF:F=if s then (if b then -T else -T-1) else T) (w:World):
 Rb 89 #[.int .u64 W] w (.int .u64 X):=by
 have H1:=hide h.i
 have H2:=hide h.p
 have H3:=hide h.n
 have H4:=hide h.f
 have hm:=h.m
 clear h
 have hMz:(M==0)=false:=by rw [beq_eq_false_iff_ne];rw [bne_iff_ne] at hM;exact hM
 subst hF
 cases s<;>cases b
 all_goals (simp only [Bool.false_eq_true,if_false,if_true] at H4)
 all_goals (go_enter Tryz.func89,Tryz.ntmps89;go_wp2_with (first |(go_at_call 71;refine (H2.out _).mono ?_;rintro e w' ⟨rfl,rfl⟩)|(go_at_call 48;refine (H1.out _).mono ?_;rintro e w' ⟨rfl,rfl⟩)|(go_at_call 47;refine (H3.out _).mono ?_;rintro e w' ⟨rfl,rfl⟩)|(go_at_call 59;refine (H4.out _).mono ?_;rintro e w1 ⟨rfl,hb1⟩)))
 all_goals go_ret
 all_goals exact ⟨rfl,hb1⟩
theorem zrF {W r:Nat} {M E F:Int} {s:Bool} {X:Nat} (h:FlFin W r M E s F X) (hE:E<= -63) (hM:(M !=0)=true) (hF:F=if s then -1 else 0) (w:World):
 Rb 89 #[.int .u64 W] w (.int .u64 X):=by
 have H1:=hide h.i
 have H2:=hide h.p
 have H3:=hide h.n
 have H4:=hide h.f
 have hm:=h.m
 clear h
 have hE0:E<0:=by omega
 have hMz:(M==0)=false:=by rw [beq_eq_false_iff_ne];rw [bne_iff_ne] at hM;exact hM
 subst hF
 cases s
 all_goals (simp only [Bool.false_eq_true,if_false,if_true] at H4)
 all_goals (go_enter Tryz.func89,Tryz.ntmps89;go_wp2_with (first |(go_at_call 71;refine (H2.out _).mono ?_;rintro e w' ⟨rfl,rfl⟩)|(go_at_call 48;refine (H1.out _).mono ?_;rintro e w' ⟨rfl,rfl⟩)|(go_at_call 47;refine (H3.out _).mono ?_;rintro e w' ⟨rfl,rfl⟩)|(go_at_call 59;refine (H4.out _).mono ?_;rintro e w1 ⟨rfl,hb1⟩)))
 all_goals go_ret
 all_goals exact ⟨rfl,hb1⟩
theorem zos {W r:Nat} {E:Int} {s:Bool} {X:Nat} (h:FlFin W r 0 E s 0 X) (hE:E<0) (w:World):
 Rb 89 #[.int .u64 W] w (.int .u64 X):=by
 have H1:=hide h.i
 have H2:=hide h.p
 have H3:=hide h.n
 have H4:=hide h.f
 have hm:=h.m
 clear h
 by_cases hE0:E<= -63
 all_goals cases s
 all_goals (go_enter Tryz.func89,Tryz.ntmps89;go_wp2_with (first |(go_at_call 71;refine (H2.out _).mono ?_;rintro e w' ⟨rfl,rfl⟩)|(go_at_call 48;refine (H1.out _).mono ?_;rintro e w' ⟨rfl,rfl⟩)|(go_at_call 47;refine (H3.out _).mono ?_;rintro e w' ⟨rfl,rfl⟩)|(go_at_call 59;refine (H4.out _).mono ?_;rintro e w1 ⟨rfl,hb1⟩)))
 all_goals go_ret
 all_goals exact ⟨rfl,hb1⟩
theorem zkY (s:Bool) (n:Nat):(sgZ s n).natAbs=n:=by unfold sgZ;cases s<;>simp
theorem flFin {s:Bool} {r:Nat} (hr:r<infW) {F:Int} (h0: -9223372036854775808<F) (h1:F<=9223372036854775807):FlFin (wordS s r) r (wM r) (wE r) s F (intW F):=by
 have A:=asFin (s:=s) hr
 exact ⟨A.a.c2,A.p,A.n,fun w=>zcP F w h0 h1,A.m⟩
theorem zjl (i:Int) (w:World):
 Rb 22 #[numG false i 0] w (.float .f64 (floatOfInt .f64 i)):=by
 unfold numG
 go_enter Tryz.func22,Tryz.ntmps22
 go_wp2
 all_goals go_ret
 all_goals exact ⟨rfl,(Below.refl _ _).alloc (Nat.le_refl _) _⟩
abbrev numC (f:Bool) (i u:Int):Obj:=.cells #[.bool f,.int .i64 i,.int .u64 u] 26
def FOf (f:Bool) (i u:Int) (A:Nat):Prop:=∀ w,Rb 22 #[.agg #[.bool f,.int .i64 i,.int .u64 u]] w (.float .f64 A)
theorem zeL (A:Nat) (w:World):Rs 23 #[.float .f64 A] w (.bool (FloatKind.f64.format.order A A !=some .eq)):=by
 go_enter Tryz.func23,Tryz.ntmps23
 go_wp2
 all_goals go_ret
 all_goals exact ⟨rfl,rfl⟩
theorem mixedT:Tryz.prog.follows .mixedOrders=true:=by kernel_rfl
end Go.Proofs.YtamdnnkdnhkghaaGreatDoor
namespace Go.Proofs.YtamdnnkdnhkghaaGreatDoor
open Go
theorem zkm {c:UInt8}:∀ {a:List UInt8},c ∉ a->Lib.index a [c]= -1
 | [],_=>rfl
 |b::l,h=>by
  have hb:c≠b:=fun e=>h (by simp [e])
  have ih:=zkm (a:=l) (c:=c) (fun e=>h (by simp [e]))
  unfold Lib.index
  have:([c]:List UInt8).isPrefixOf (b::l)=false:=by simp [List.isPrefixOf,hb]
  rw [this,ih]
  rfl
theorem index_one {c:UInt8} {b:List UInt8}:∀ {a:List UInt8},c ∉ a->Lib.index (a++c::b) [c]=(a.length:Int)
 | [],_=>by
   show Lib.index (c::b) [c]=_
   unfold Lib.index
   rw [if_pos (by simp [List.isPrefixOf])]
   rfl
 |x::l,h=>by
  have hb:c≠x:=fun e=>h (by simp [e])
  have ih:=index_one (b:=b) (a:=l) (c:=c) (fun e=>h (by simp [e]))
  show Lib.index (x::(l++c::b)) [c]=_
  unfold Lib.index
  have h1:([c]:List UInt8).isPrefixOf (x::(l++c::b))=false:=by simp [List.isPrefixOf,hb]
  rw [h1,ih]
  have:(((l.length:Nat):Int)== -1)=false:=by rw [beq_eq_false_iff_ne];omega
  simp [this]
theorem zsy {c:UInt8} {a b:List UInt8} (h:c ∉ a):Lib.cut (a++c::b) [c]=(a,b,true):=by
 unfold Lib.cut
 rw [index_one h,if_pos (by omega)]
 simp
theorem zjk {c:UInt8} {a b:List UInt8} (h:c ∉ a):Lib.replace (a++c::b) [c] [] 1=a++b:=by
 unfold Lib.replace
 have hne:(([c]:List UInt8)==[])=false:=rfl
 have hc:1<=Lib.count (a++c::b) [c]:=by
  unfold Lib.count Lib.countFrom
  rw [index_one h]
  have:(((a.length:Nat):Int)== -1)=false:=by rw [beq_eq_false_iff_ne];omega
  rw [this]
  simp
 have hn:Lib.replaceNum (a++c::b) [c] 1=1:=by
  unfold Lib.replaceNum
  rw [if_neg (by omega)]
  rfl
 rw [hne,hn,Lib.replaceK_hit _ _ 0 _ _ (index_one h)]
 simp [Lib.replaceK]
theorem zkZ {c:UInt8} {a:List UInt8} (h:c ∉ a):Lib.replace a [c] [] 1=a:=by
 unfold Lib.replace
 have hne:(([c]:List UInt8)==[])=false:=rfl
 have hc:Lib.count a [c]=0:=Lib.count_miss (zkm h)
 have hn:Lib.replaceNum a [c] 1=0:=by
  unfold Lib.replaceNum
  rw [hc,if_pos (by omega)]
 rw [hne,hn]
 rfl
end Go.Proofs.YtamdnnkdnhkghaaGreatDoor
namespace Go.Proofs.YtamdnnkdnhkghaaGreatDoor
open Go Go.RowKit
theorem zdm (W:Nat) (w:World):(callFunc 204 #[.float .f64 W]).run Tryz.prog w=.ok (.value (.int .u64 W)) w:=by
 rw [run_callFunc_extern (e:=Extern.MathFloatBits.float64bits) Tryz.func204 (by kernel_rfl) (by kernel_rfl) (by kernel_rfl) (by kernel_rfl)]
 rfl
theorem zgU (r:Nat) (h:r<18446744073709551616):bits .and .u64 (r:Int) 4503599627370495=((r%4503599627370496:Nat):Int):=by
 have:=u64_and_nat r 4503599627370495 h (by omega)
 rw [show (4503599627370495:Nat)=2^52-1 from rfl,Nat.and_two_pow_sub_one_eq_mod] at this
 exact this
theorem zpF (f:Nat) (h:f<4503599627370496):bits .or .u64 (f:Int) 4503599627370496=((f+4503599627370496:Nat):Int):=by
 have h1:=u64_or_nat f 4503599627370496 (by omega) (by omega)
 have h2:f|||4503599627370496=f+4503599627370496:=by
  have:=Nat.two_pow_add_eq_or_of_lt (i:=52) (b:=f) h 1
  rw [Nat.or_comm]
  have e:(2:Nat)^52*1=4503599627370496:=rfl
  rw [e] at this
  rw [<-this]
  exact Nat.add_comm _ _
 rw [h2] at h1
 exact h1
theorem OwnB.below {w w':World} {base:Nat} {v:Value} {L:List Int} (h:OwnB w base v L) (hb:Below w.heap.size w w'):OwnB w' base v L:=by
 obtain ⟨⟨h1,h2⟩,hv⟩:=h
 refine ⟨⟨h1,?_⟩,hv⟩
 rcases h2 with h2|⟨g,cap,cur,h3,h4,h5,h6⟩
 ·exact .inl h2
 refine .inr ⟨g,cap,cur,h3,h4,?_,h6⟩
 rw [hb.block g (Array.getElem?_eq_some_iff.1 h5).1]
 exact h5
theorem znK (d n nz g base:Nat) (X:Int) (w w0:World) (v:Value) (he:Efg w0 base g (digL d n) w v []) (hn1:1<=n) (hn2:n<=17) (hz1:1<=nz) (hz2:nz<=n) (ht:∀ j,nz<=j->j<n->dgA d n j=48) (hX1: -400<=X) (hX2:X<=400):
 Calls Tryz.prog 207 #[v,.bool false,.slice (some ⟨g,0,none⟩) 24 24,.int .i64 (X+1),.int .i64 nz,.int .i64 ((n:Int)-1),.int .u8 101,.bool false] w fun r w'=>∃ v',r=.returned v'/\Efg w0 base g (digL d n) w' v' (eTxt d n X):=by
 rcases Int.lt_or_le X 0 with hneg|hpos
 ·obtain ⟨k,hk⟩:∃ k:Nat,X= -(k:Int):=⟨X.natAbs,by omega⟩
  subst hk
  by_cases h1:n=1
  ·subst h1
   obtain rfl:nz=1:=by omega
   exact zuy d k g base w w0 v he (by omega) (by omega)
  by_cases h2:nz=1
  ·subst h2
   exact zt2 d n k g base w w0 v he (by omega) (by omega) (by omega) hn2 (hide ht)
  exact zul d n nz k g base w w0 v he (by omega) (by omega) (by omega) hn2 (by omega) hz2 (hide ht)
 obtain ⟨k,hk⟩:∃ k:Nat,X=(k:Int):=⟨X.natAbs,by omega⟩
 subst hk
 by_cases h1:n=1
 ·subst h1
  obtain rfl:nz=1:=by omega
  exact ztV d k g base w w0 v he (by omega)
 by_cases h2:nz=1
 ·subst h2
  exact zuR d n k g base w w0 v he (by omega) (by omega) hn2 (hide ht)
 exact zvb d n nz k g base w w0 v he (by omega) (by omega) hn2 (by omega) hz2 (hide ht)
abbrev bufO:Obj:=.cells #[.int .u8 0,.int .u8 0,.int .u8 0,.int .u8 0,.int .u8 0,.int .u8 0,.int .u8 0,.int .u8 0,.int .u8 0,.int .u8 0,.int .u8 0,.int .u8 0,.int .u8 0,.int .u8 0,.int .u8 0,.int .u8 0,.int .u8 0,.int .u8 0,.int .u8 0,.int .u8 0,.int .u8 0,.int .u8 0,.int .u8 0,.int .u8 0] 144
theorem zdV (W:World):∀ j,j<24->(W.alloc bufO).cell? ⟨W.heap.size,j,none⟩=some (.int .u8 0)/\(W.alloc bufO).frozen? ⟨W.heap.size,j,none⟩=false:=by
 intro j hj
 have hA:(#[.int .u8 0,.int .u8 0,.int .u8 0,.int .u8 0,.int .u8 0,.int .u8 0,.int .u8 0,.int .u8 0,.int .u8 0,.int .u8 0,.int .u8 0,.int .u8 0,.int .u8 0,.int .u8 0,.int .u8 0,.int .u8 0,.int .u8 0,.int .u8 0,.int .u8 0,.int .u8 0,.int .u8 0,.int .u8 0,.int .u8 0,.int .u8 0]:Array Value)=Array.replicate 24 (.int .u8 0):=rfl
 have hh:(W.alloc bufO).heap[W.heap.size]?=some bufO:=heap_alloc_new W _
 constructor
 ·unfold World.cell?
  simp only [hh]
  rw [hA]
  simp [hj]
 unfold World.frozen?
 simp only [hh]
 simp
theorem zga {w w':World} (h:Lib.TabIs Tryz.prog w "internal/strconv.uint64pow10" .u64 Lib.pow10Tab) (hs:6<w.heap.size) (hb:Below w.heap.size w w'):Lib.TabIs Tryz.prog w' "internal/strconv.uint64pow10" .u64 Lib.pow10Tab:=by
 unfold Lib.TabIs World.var? at h ⊢
 rw [show Tryz.prog.globalNamed "internal/strconv.uint64pow10" =some 6 by kernel_rfl] at h ⊢
 simp only [Option.bind_some] at h ⊢
 rw [hb.block 6 hs]
 exact h
theorem zni {d n:Nat} (hn:1<=n) (h1:10^(n-1)<=d) (h2:d<10^n):Lib.nDigits d=n:=by
 have:=Lib.nDigits_unique (n-1) d h1 (by rw [Nat.sub_add_cancel hn];exact h2)
 omega
def FtoR (x n:Nat) (E:Int) (base:Nat) (w:World) (e:Ending) (w':World):Prop:=
 ∃ v' d q,e=.returned v'/\FixW x n E d q/\OwnB w' base v' (eTxt d n ((n:Int)-1-q))/\Below base w w'
theorem fix_X {x n d:Nat} {E q:Int} (h:FixW x n E d q) (h1: -1074<=E+63) (h2:E+63<=1023): -400<=(n:Int)-1-q/\(n:Int)-1-q<=400:=by
 have: -400<l10 (E+63)/\l10 (E+63)<399:=by unfold l10;omega
 rcases h.val with ⟨hq,_⟩|⟨hq,_⟩
 ·unfold fpP at hq;omega
 unfold fpP at hq;omega
theorem ziX {d n:Nat} (hn:1<=n) (h1:10^(n-1)<=d) (h2:d<10^n):dgA d n 0≠48:=by
 rw [zcs]
 have e:n-1-0=n-1:=rfl
 rw [e]
 have hp:0<10^(n-1):=Nat.pow_pos (by omega)
 have h3:1<=d/10^(n-1):=(Nat.one_le_div_iff hp).2 h1
 have h4:d/10^(n-1)<10:=by
  rw [Nat.div_lt_iff_lt_mul hp,Nat.mul_comm,<-Nat.pow_succ]
  have:(n-1).succ=n:=by omega
  rw [this];exact h2
 rw [Nat.mod_eq_of_lt h4]
 omega
theorem ziG {w W w1 w2:World} {base d n nz:Nat} {v:Value} (hown:OwnB w base v []) (hbase:base<=w.heap.size) (hW:Below w.heap.size w W) (hWs:W.heap.size=w.heap.size) (hb1:Below (W.alloc bufO).heap.size (W.alloc bufO) w1) (hs:SetD w1 w2 w.heap.size d n nz):Efg w base w.heap.size (digL d n) w2 v []:=by
 have hal:Below w.heap.size w (W.alloc bufO):=hW.alloc (by omega) _
 have hsz:(W.alloc bufO).heap.size=w.heap.size+1:=by simp;omega
 have h1:Below w.heap.size w w1:=hal.trans (hb1.mono (by omega))
 have h2:Below w.heap.size w w2:=h1.trans hs.bel
 have s1:=hb1.size
 have s2:=hs.bel.size
 refine ⟨hown.below h2,?_,by omega,fun j hj=>?_,by omega,h2.mono hbase⟩
 ·intro hh
  have:=(hown.1.lt _ hh).2
  omega
 rw [zaa] at hj
 rw [hs.dig j hj,za3 hj]
end Go.Proofs.YtamdnnkdnhkghaaGreatDoor
