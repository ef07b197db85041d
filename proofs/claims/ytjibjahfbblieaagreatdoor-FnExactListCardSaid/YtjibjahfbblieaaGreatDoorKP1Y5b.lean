import Derived.Test.YtjibjahfbblieaaGreatDoorKP1Y6
import Derived.Deep.RegionWith
namespace Go.Proofs.YtjibjahfbblieaaGreatDoor.F
open Go Go.RowKit
set_option linter.unusedVariables false
set_option maxHeartbeats 1600000 in
set_option maxRecDepth 100000 in
theorem IW (r k f n b x base:Nat) (E:Int) (v:Value) (w:World) (hrk:Hid (r=(k+1)*4503599627370496+f)) (hk:k<=2045) (hf:f<4503599627370496) (hn1:1<=n) (hn2:n<=17) (hb:Hid (b=Lib.bitLen (f+4503599627370496))) (hb1:1<=b) (hb2:b<=53)
 (hx:Hid (IntKind.u64.wrap (((f+4503599627370496:Nat):Int)*2^(64-b))=(x:Int))) (hE:Hid ((k:Int)+1+ -1023-(64-(b:Int))-52=E)) (HF:Hid (∀ w1:World,Below w.heap.size w w1->Calls Tryz.prog 213 #[.int .u64 x,.int .i64 E,.int .i64 n,.int .i64 ((n:Int)-1),.int .u8 101] w1 fun r w'=>∃ (d:Nat) (q:Int),r=.returned (.tuple #[.int .u64 d,.int .i64 (-q)])/\FixW x n E d q/\Below w1.heap.size w1 w'))
 (hE1: -1074<=E+63) (hE2:E+63<=1023) (hown:eG w base v []) (hbase:base<=w.heap.size) (hopt:w.cell? ⟨11,0,none⟩=some (.bool true)) (hsz:18<w.heap.size) (htab:Lib.TabIs Tryz.prog w "internal/strconv.uint64pow10" .u64 Lib.pow10Tab):
 Calls Tryz.prog 188 #[v,.float .f64 r,.int .u8 101,.int .i64 ((n:Int)-1)] w fun e w'=>OG x n E base w e w':=by
 have hfb:=jV
 have e1:bits .and .u64 (r:Int) 4503599627370495=(f:Int):=by have h:=hrk.out;rw [rE r (by omega)];omega
 have e2:((r:Int)/9223372036854775808 !=0)=false:=by have h:=hrk.out;rw [bne_eq_false_iff_eq];omega
 have e3:bits .and .i64 ((r:Int)/4503599627370496) 2047=(k:Int)+1:=by have h:=hrk.out;rw [lu];omega
 have e4:bits .or .u64 (f:Int) 4503599627370496=((f+4503599627370496:Nat):Int):=IU f hf
 have hM:f+4503599627370496<9007199254740992:=by omega
 have hM0:0<f+4503599627370496:=by omega
 have hr63:r<9223372036854775808:=by have h:=hrk.out;omega
 clear hf
 generalize f+4503599627370496=M at *
 have Htab:=hide htab
 have Hown:=hide hown
 clear htab hown
 go_enter Tryz.func188,Tryz.ntmps188
 go_wp2_with fail
 go_quiet (fail)
 go_wp2_with fail
 refine (jl M b (by omega) hb.out _).mono ?_
 rintro e w1 ⟨rfl,rfl⟩
 go_wp2_with fail
 rw [hx.out,hE.out]
 have hW:Below w.heap.size w (w.drewN nq):=bF (Below.refl _ _) nq
 refine (HF.out _ (hW.alloc (by simp) _)).mono ?_
 rintro e w1 ⟨d,q,rfl,hfix,hb1'⟩
 have h10:=vL hn2
 have hd1:=hfix.lo
 have hd2:=hfix.hi
 have hd0:0<d:=Nat.lt_of_lt_of_le (Nat.pow_pos (by omega)) hd1
 have hXr:=CU hfix hE1 hE2
 have Hfix:=hide hfix
 have Hb1:=hide hb1'
 have hbA:Below w.heap.size w w1:=(hW.alloc (by simp) sO).trans (hb1'.mono (B':=w.heap.size) (by simp))
 have Htab1:=hide (tab_below Htab.out (by omega) hbA)
 have hs1:w.heap.size<w1.heap.size:=by have:=hb1'.size;simp at this;omega
 have Hbuf:=hide (fun j (hj:j<24)=>(⟨(hb1'.cell (p:=⟨w.heap.size,j,none⟩) (by simp)).trans (buf_cells (w.drewN nq) j hj).1,(hb1'.frozen (p:=⟨w.heap.size,j,none⟩) (by simp)).trans (buf_cells (w.drewN nq) j hj).2⟩:_/\_))
 have hnz:((d:Int) !=0)=true:=by rw [bne_iff_ne];omega
 have Hd1:=hide hd1
 have Hd2:=hide hd2
 clear hfix hb1' hd1 hd2 hbA
 have hnd:Lib.nDigits d=n:=Dj hn1 Hd1.out Hd2.out
 have Hnd:=hide (fun w2 (h:w2=w1.drew)=>(show Calls Tryz.prog 141 #[.int .u64 d] w2 fun e w'=>e=.returned (.int .i64 n)/\w'=w2 by
  have:=Tryz.internal_strconv_numDigits d hd0 (Nat.lt_trans Hd2.out (by omega)) w2 (by subst h;exact Htab1.out)
  rw [hnd] at this
  exact this))
 have Hsd:=hide (mI w.heap.size d n (-q) w1.drew hs1 hn1 hn2 Hd2.out (by omega) (by omega) Hbuf.out)
 clear hnd
 go_wp2_with fail
 go_region_with (first
  |(go_at_call 141;refine (Hnd.out _ rfl).mono ?_;rintro e w2 ⟨rfl,rfl⟩)
  |(go_at_call 212;refine Hsd.out.mono ?_;rintro e w2 ⟨nz,rfl,hset⟩))
 have hz0:1<=nz:=by
  rcases Nat.eq_zero_or_pos nz with h0|h0
  ·exact absurd (hset.tail 0 (by omega) (by omega)) (uF hn1 Hd1.out Hd2.out)
  ·exact h0
 have hz1:=hset.le
 have hz2:=hide hset.tail
 have He:=hide (uG Hown.out hbase hW (by simp) (⟨Hb1.out.os,Hb1.out.tape,Hb1.out.output,Hb1.out.size,Hb1.out.block⟩:Below _ _ w1.drew) hset)
 clear hset
 go_wp2_with fail
 have eX:(n:Int)+ -q=((n:Int)-1-q)+1:=by omega
 rw [eX]
 clear eX
 refine (Di d n nz w.heap.size base ((n:Int)-1-q) _ w v He.out hn1 hn2 hz0 hz1 hz2.out (by omega) (by omega)).mono ?_
 rintro e w3 ⟨v3,rfl,he3⟩
 have H3:=hide he3
 clear he3
 go_wp2
 go_ret
 exact ⟨v3,d,q,rfl,Hfix.out,H3.out.own,H3.out.bel⟩
end Go.Proofs.YtjibjahfbblieaaGreatDoor.F
