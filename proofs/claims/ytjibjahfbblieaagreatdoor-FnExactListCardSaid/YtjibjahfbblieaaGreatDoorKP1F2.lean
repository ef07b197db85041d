import Derived.Test.YtjibjahfbblieaaGreatDoorKP1D5
import Derived.Test.YtjibjahfbblieaaGreatDoorKM2
import Derived.Laws.FloatArith
import Derived.Deep.LoopGhost
import Derived.Deep.QuietTactic
import Derived.BigQuiet
import Derived.RegionTactic
import Derived.ChangeAlike
namespace Go.Proofs.YtjibjahfbblieaaGreatDoor.F
open Go Go.RowKit
set_option linter.unusedVariables false
set_option maxRecDepth 100000 in
set_option maxHeartbeats 800000 in
theorem DU (d:Nat) (z p:Int) (w:World) (hz:Hid (z=(d:Int))) (h0:0<=z) (h1:z<18446744073709551616) (hbig:4503599627370496<=z) (m0:w.cell? ⟨13,0,none⟩=some (.int .u64 52)):
 Calls Tryz.prog 254 #[.int .u64 z,.int .i64 p,.bool false] w fun r w'=>r=.returned (.tuple #[.float .f64 0,.bool false])/\w'=w:=by
 have hne:(z/4503599627370496 !=0)=true:=by rw [bne_iff_ne];omega
 go_enter Tryz.func254,Tryz.ntmps254
 go_wp2
 go_ret2
 exact ⟨rfl,rfl⟩
set_option maxRecDepth 100000 in
set_option maxHeartbeats 800000 in
theorem Ba (d f:Nat) (z:Int) (w:World) (hz:Hid (z=(d:Int))) (h0:0<=z) (hs:z<4503599627370496) (m0:w.cell? ⟨13,0,none⟩=some (.int .u64 52)) (hf:floatOfInt .f64 z=f):
 Calls Tryz.prog 254 #[.int .u64 z,.int .i64 0,.bool false] w fun r w'=>r=.returned (.tuple #[.float .f64 f,.bool true])/\w'=w:=by
 have hne:(z/4503599627370496 !=0)=false:=by rw [bne_eq_false_iff_eq];omega
 go_enter Tryz.func254,Tryz.ntmps254
 go_wp2
 go_ret2
 exact ⟨rfl,rfl⟩
set_option maxRecDepth 100000 in
set_option maxHeartbeats 800000 in
theorem Fa (d f g r k G o:Nat) (z:Int) (w:World) (hz:Hid (z=(d:Int))) (h0:0<=z) (hs:z<4503599627370496) (m0:w.cell? ⟨13,0,none⟩=some (.int .u64 52)) (hf:floatOfInt .f64 z=f)
 (k1:1<=k) (k2:k<=22) (sl:w.cell? ⟨18,0,none⟩=some (.slice (some ⟨G,o,none⟩) 23 23)) (tb:w.cell? ⟨G,o+k,none⟩=some (.float .f64 g)) (hq:floatBits .quo .f64 f g=some r):
 Calls Tryz.prog 254 #[.int .u64 z,.int .i64 (-(k:Int)),.bool false] w fun e w'=>e=.returned (.tuple #[.float .f64 r,.bool true])/\w'=w:=by
 have hne:(z/4503599627370496 !=0)=false:=by rw [bne_eq_false_iff_eq];omega
 have hk0:(-(k:Int)==0)=false:=by rw [beq_eq_false_iff_ne];omega
 have hd:=fun (w:World)=>run_float_arith (P:=Tryz.prog) w .quo 162 .f64 f g r hq
 clear hq
 go_enter Tryz.func254,Tryz.ntmps254
 go_wp2
 go_ret2
 exact ⟨rfl,rfl⟩
def Mf (r:Nat) (e:Ending):Prop:=∃ f ok,e=.returned (.tuple #[.float .f64 f,.bool ok])/\(ok=true->f=r)
theorem CV {r:Nat} {e:Ending} (f:Nat) (h:e=.returned (.tuple #[.float .f64 f,.bool false])):Mf r e:=⟨f,false,h,fun h=>by cases h⟩
theorem zn {r:Nat} {e:Ending} (h:e=.returned (.tuple #[.float .f64 r,.bool true])):Mf r e:=⟨r,true,h,fun _=>rfl⟩
set_option maxRecDepth 100000 in
set_option maxHeartbeats 800000 in
theorem DF (d f g r k G o:Nat) (z:Int) (w:World) (hz:Hid (z=(d:Int))) (h0:0<=z) (hs:z<4503599627370496) (m0:w.cell? ⟨13,0,none⟩=some (.int .u64 52)) (hf:floatOfInt .f64 z=f)
 (k1:1<=k) (k2:k<=22) (sl:w.cell? ⟨18,0,none⟩=some (.slice (some ⟨G,o,none⟩) 23 23)) (tb:w.cell? ⟨G,o+k,none⟩=some (.float .f64 g)) (hq:floatBits .mul .f64 f g=some r):
 Calls Tryz.prog 254 #[.int .u64 z,.int .i64 (k:Int),.bool false] w fun e w'=>Mf r e/\w'=w:=by
 have hne:(z/4503599627370496 !=0)=false:=by rw [bne_eq_false_iff_eq];omega
 have hk0:((k:Int)==0)=false:=by rw [beq_eq_false_iff_ne];omega
 have hd:=fun (w:World)=>run_float_arith (P:=Tryz.prog) w .mul 162 .f64 f g r hq
 clear hq
 go_enter Tryz.func254,Tryz.ntmps254
 go_wp2
 all_goals go_ret2
 all_goals first
  |exact ⟨CV f rfl,rfl⟩
  |exact ⟨zn rfl,rfl⟩
set_option maxRecDepth 100000 in
set_option maxHeartbeats 1600000 in
theorem wU (d f g1 r1 k G o:Nat) (z:Int) (w:World) (hz:Hid (z=(d:Int))) (h0:0<=z) (hs:z<4503599627370496) (m0:w.cell? ⟨13,0,none⟩=some (.int .u64 52)) (hf:floatOfInt .f64 z=f)
 (k1:23<=k) (k2:k<=37) (sl:w.cell? ⟨18,0,none⟩=some (.slice (some ⟨G,o,none⟩) 23 23)) (tb1:w.cell? ⟨G,o+(k-22),none⟩=some (.float .f64 g1))
 (hq1:floatBits .mul .f64 f g1=some r1) (ho:FloatKind.f64.format.order r1 4831355200913801216=some .gt):
 Calls Tryz.prog 254 #[.int .u64 z,.int .i64 (k:Int),.bool false] w fun e w'=>e=.returned (.tuple #[.float .f64 r1,.bool false])/\w'=w:=by
 have hne:(z/4503599627370496 !=0)=false:=by rw [bne_eq_false_iff_eq];omega
 have hk0:((k:Int)==0)=false:=by rw [beq_eq_false_iff_ne];omega
 have hd1:=fun (w:World)=>run_float_arith (P:=Tryz.prog) w .mul 162 .f64 f g1 r1 hq1
 clear hq1
 have hob:(FloatKind.f64.format.order r1 4831355200913801216==some .gt)=true:=by rw [ho];rfl
 go_enter Tryz.func254,Tryz.ntmps254
 go_wp2
 all_goals go_ret2
 all_goals exact ⟨rfl,rfl⟩
set_option maxRecDepth 100000 in
set_option maxHeartbeats 1600000 in
theorem Er (d f g1 r1 k G o:Nat) (z:Int) (w:World) (hz:Hid (z=(d:Int))) (h0:0<=z) (hs:z<4503599627370496) (m0:w.cell? ⟨13,0,none⟩=some (.int .u64 52)) (hf:floatOfInt .f64 z=f)
 (k1:23<=k) (k2:k<=37) (sl:w.cell? ⟨18,0,none⟩=some (.slice (some ⟨G,o,none⟩) 23 23)) (tb1:w.cell? ⟨G,o+(k-22),none⟩=some (.float .f64 g1))
 (hq1:floatBits .mul .f64 f g1=some r1) (g2 r2:Nat) (tb2:w.cell? ⟨G,o+22,none⟩=some (.float .f64 g2)) (ho:¬ FloatKind.f64.format.order r1 4831355200913801216=some .gt) (hq2:floatBits .mul .f64 r1 g2=some r2):
 Calls Tryz.prog 254 #[.int .u64 z,.int .i64 (k:Int),.bool false] w fun e w'=>Mf r2 e/\w'=w:=by
 have hne:(z/4503599627370496 !=0)=false:=by rw [bne_eq_false_iff_eq];omega
 have hk0:((k:Int)==0)=false:=by rw [beq_eq_false_iff_ne];omega
 have hd1:=fun (w:World)=>run_float_arith (P:=Tryz.prog) w .mul 162 .f64 f g1 r1 hq1
 clear hq1
 have hob:(FloatKind.f64.format.order r1 4831355200913801216==some .gt)=false:=by rw [beq_eq_false_iff_ne];exact ho
 have hd2:=fun (w:World)=>run_float_arith (P:=Tryz.prog) w .mul 162 .f64 r1 g2 r2 hq2
 clear hq2
 go_enter Tryz.func254,Tryz.ntmps254
 go_wp2
 all_goals go_ret2
 all_goals first
  |exact ⟨CV r1 rfl,rfl⟩
  |exact ⟨zn rfl,rfl⟩
set_option maxRecDepth 100000 in
set_option maxHeartbeats 800000 in
theorem EZ (d f:Nat) (z p:Int) (w:World) (hz:Hid (z=(d:Int))) (h0:0<=z) (hs:z<4503599627370496) (m0:w.cell? ⟨13,0,none⟩=some (.int .u64 52)) (hf:floatOfInt .f64 z=f)
 (hp:37<p∨p< -22):
 Calls Tryz.prog 254 #[.int .u64 z,.int .i64 p,.bool false] w fun e w'=>e=.returned (.tuple #[.float .f64 f,.bool false])/\w'=w:=by
 have hne:(z/4503599627370496 !=0)=false:=by rw [bne_eq_false_iff_eq];omega
 have hk0:(p==0)=false:=by rw [beq_eq_false_iff_ne];omega
 rcases hp with hp|hp
 all_goals go_enter Tryz.func254,Tryz.ntmps254
 all_goals go_wp2
 all_goals go_ret2
 all_goals exact ⟨rfl,rfl⟩
end Go.Proofs.YtjibjahfbblieaaGreatDoor.F
namespace Go.Proofs.YtjibjahfbblieaaGreatDoor.F
open Go Go.RowKit
set_option linter.unusedVariables false
structure Tabs (w:World) (G o:Nat):Prop where
 size:14<w.heap.size
 hG:G<w.heap.size
 mant:w.cell? ⟨13,0,none⟩=some (.int .u64 52)
 slice:w.cell? ⟨18,0,none⟩=some (.slice (some ⟨G,o,none⟩) 23 23)
 tens:∀ k,k<23->w.cell? ⟨G,o+k,none⟩=some (.float .f64 (fC.getD k 0))
 rows0:∀ i,i<696->w.cell? ⟨14,i*2,none⟩=some (.int .u64 ((Go.Pinned.pow10Rows.getD i (0,0)).1:Nat))
 rows1:∀ i,i<696->w.cell? ⟨14,i*2+1,none⟩=some (.int .u64 ((Go.Pinned.pow10Rows.getD i (0,0)).2:Nat))
theorem OP (d:Nat):floatOfInt .f64 (d:Int)=Ieee.double.nearest false d 0:=by
 show Ieee.double.write (.number (decide ((d:Int)<0)) (d:Int).natAbs 0)=_
 rw [decide_eq_false (by omega),Int.natAbs_natCast]
 rfl
def NK (d:Nat) (p:Int) (e:Ending):Prop:=∃ f ok,e=.returned (.tuple #[.float .f64 f,.bool ok])/\(ok=true->aB d p f/\f≠ak)
theorem vK {d:Nat} {p:Int} {f c:Nat} (hd:d<4503599627370496) (hp1: -22<=p) (hp2:p<=37) (hc:c=1074) (h:aC (d*10^p.toNat*2^c) (10^(-p).toNat) f):f≠ak:=by
 have hden:0<10^(-p).toNat:=Nat.pow_pos (Nat.succ_pos 9)
 have h1:d*10^p.toNat*2^c<10^(-p).toNat*2^(52+148+c):=by
  have a1:10^p.toNat<=10^37:=Nat.pow_le_pow_right (by omega) (by omega)
  have a2:(10:Nat)^37<=2^148:=by decide
  have a3:d*10^p.toNat<2^52*2^148:=Nat.mul_lt_mul_of_lt_of_le hd (Nat.le_trans a1 a2) (Nat.pow_pos (by omega))
  rw [Nat.pow_add 2 (52+148) c,Nat.pow_add 2 52 148,<-Nat.mul_assoc]
  refine Nat.mul_lt_mul_of_pos_right ?_ (Nat.pow_pos (by omega))
  exact Nat.lt_of_lt_of_le a3 (Nat.le_mul_of_pos_left _ hden)
 exact Nat.ne_of_lt (Ma hden (by omega) h1 h)
theorem EF (d G o:Nat) (p:Int) (w:World) (T:Tabs w G o) (hd0:d≠0) (hd:d<18446744073709551616):
 Calls Tryz.prog 254 #[.int .u64 d,.int .i64 p,.bool false] w fun e w'=>NK d p e/\w'=w:=by
 by_cases hb:4503599627370496<=d
 ·refine (DU d d p w (hide rfl) (by omega) (by omega) (by omega) T.mant).mono ?_
  rintro e w' ⟨rfl,rfl⟩
  exact ⟨⟨_,_,rfl,fun h=>by cases h⟩,rfl⟩
 ·have hs:d<4503599627370496:=by omega
  have hw:=uR hd0 (show d<9007199254740992 by omega)
  have pw:∀ k,k<23->iP (fC.getD k 0) (10^k):=fun k hk=>DV (yE ⟨k,hk⟩)
  by_cases hp0:p=0
  ·subst hp0
   refine (Ba d _ d w (hide rfl) (by omega) (by omega) T.mant (OP d)).mono ?_
   rintro e w' ⟨rfl,rfl⟩
   have key:∀ c,c=1074->aC (d*10^(0:Int).toNat*2^c) (10^(-(0:Int)).toNat) (Ieee.double.nearest false d 0):=by
    intro c hc
    have h2:=kS (mag:=d) (place:=0) hd0 (A:=c) (B:=0) (by omega)
    have e1:(0:Int).toNat=0:=rfl
    have e2:(-(0:Int)).toNat=0:=rfl
    rw [e1,e2,Nat.pow_zero,Nat.mul_one]
    rw [Nat.pow_zero] at h2
    exact h2
   exact ⟨⟨_,_,rfl,fun _=>⟨key 1074 rfl,vK hs (by omega) (by omega) rfl (key 1074 rfl)⟩⟩,rfl⟩
  ·by_cases hneg: -22<=p/\p<0
   ·obtain ⟨k,hk⟩:∃ k:Nat,p= -(k:Int):=⟨(-p).toNat,by omega⟩
    subst hk
    have hk23:k<23:=by omega
    obtain ⟨r,hr,_⟩:=tK hw (pw k hk23) (c:=1074) rfl
    have key:∀ c,c=1074->aC (d*10^(-(k:Int)).toNat*2^c) (10^(-(-(k:Int))).toNat) r:=by
     intro c hc
     obtain ⟨r',hr',h'⟩:=tK hw (pw k hk23) hc
     have:r=r':=by rw [hr] at hr';exact Option.some.inj hr'
     subst this
     have e1:(-(k:Int)).toNat=0:=by omega
     have e2:(-(-(k:Int))).toNat=k:=by omega
     rw [e1,e2,Nat.pow_zero,Nat.mul_one]
     exact h'
    refine (Fa d _ _ r k G o d w (hide rfl) (by omega) (by omega) T.mant (OP d) (by omega) (by omega) T.slice (T.tens k hk23) hr).mono ?_
    rintro e w' ⟨rfl,rfl⟩
    exact ⟨⟨_,_,rfl,fun _=>⟨key 1074 rfl,vK hs (by omega) (by omega) rfl (key 1074 rfl)⟩⟩,rfl⟩
   ·by_cases hpos:0<p/\p<=22
    ·obtain ⟨k,hk⟩:∃ k:Nat,p=(k:Int):=⟨p.toNat,by omega⟩
     subst hk
     have hk23:k<23:=by omega
     obtain ⟨r,hr,_⟩:=iU hw (pw k hk23) (c:=1074) rfl
     have key:∀ c,c=1074->aC (d*10^((k:Int)).toNat*2^c) (10^(-(k:Int)).toNat) r:=by
      intro c hc
      obtain ⟨r',hr',h'⟩:=iU hw (pw k hk23) hc
      have:r=r':=by rw [hr] at hr';exact Option.some.inj hr'
      subst this
      have e1:(-(k:Int)).toNat=0:=by omega
      rw [e1,Int.toNat_natCast,Nat.pow_zero]
      exact h'
     refine (DF d _ _ r k G o d w (hide rfl) (by omega) (by omega) T.mant (OP d) (by omega) (by omega) T.slice (T.tens k hk23) hr).mono ?_
     rintro e w' ⟨⟨f,ok,rfl,hok⟩,rfl⟩
     refine ⟨⟨f,ok,rfl,fun h=>?_⟩,rfl⟩
     rw [hok h]
     exact ⟨key 1074 rfl,vK hs (by omega) (by omega) rfl (key 1074 rfl)⟩
    ·by_cases hfar:22<p/\p<=37
     ·obtain ⟨k,hk⟩:∃ k:Nat,p=(k:Int):=⟨p.toNat,by omega⟩
      subst hk
      have hk23:k-22<23:=by omega
      obtain ⟨r1,hr1,_⟩:=iU hw (pw (k-22) hk23) (c:=1074) rfl
      have rnd1:∀ c,c=1074->aC (d*10^(k-22)*2^c) 1 r1:=by
       intro c hc
       obtain ⟨r',hr',h'⟩:=iU hw (pw (k-22) hk23) hc
       have:r1=r':=by rw [hr1] at hr';exact Option.some.inj hr'
       subst this
       exact h'
      have small:¬ FloatKind.f64.format.order r1 4831355200913801216=some .gt->iP r1 (d*10^(k-22)):=by
       intro hng
       by_cases hv:d*10^(k-22)<9007199254740992
       ·exact vM (c:=1074) (Nat.mul_ne_zero hd0 (Nat.pos_iff_ne_zero.1 (Nat.pow_pos (by omega)))) hv rfl (rnd1 1074 rfl)
       ·exact absurd (Jm (c:=1074) (Nat.le_of_not_lt hv) rfl (rnd1 1074 rfl)) hng
      by_cases hng:FloatKind.f64.format.order r1 4831355200913801216=some .gt
      ·refine (wU d _ _ r1 k G o d w (hide rfl) (by omega) (by omega) T.mant (OP d) (by omega) (by omega) T.slice (T.tens (k-22) hk23) hr1 hng).mono ?_
       rintro e w' ⟨rfl,rfl⟩
       exact ⟨⟨_,_,rfl,fun h=>by cases h⟩,rfl⟩
      ·obtain ⟨r2,h1,_⟩:=iU (small hng) (pw 22 (by omega)) (c:=1074) rfl
       have key:∀ c,c=1074->aC (d*10^((k:Int)).toNat*2^c) (10^(-(k:Int)).toNat) r2:=by
        intro c hc
        obtain ⟨r',hr',h'⟩:=iU (small hng) (pw 22 (by omega)) hc
        have:r2=r':=by rw [h1] at hr';exact Option.some.inj hr'
        subst this
        have e1:(-(k:Int)).toNat=0:=by omega
        have e2:d*10^(k-22)*10^22=d*10^k:=by
         rw [Nat.mul_assoc,<-Nat.pow_add]
         congr 2
         omega
        rw [e1,Int.toNat_natCast,Nat.pow_zero,<-e2]
        exact h'
       refine (Er d _ _ r1 k G o d w (hide rfl) (by omega) (by omega) T.mant (OP d) (by omega) (by omega) T.slice (T.tens (k-22) hk23) hr1 _ r2 (T.tens 22 (by omega)) hng h1).mono ?_
       rintro e w' ⟨⟨f,ok,rfl,hok⟩,rfl⟩
       refine ⟨⟨f,ok,rfl,fun h=>?_⟩,rfl⟩
       rw [hok h]
       exact ⟨key 1074 rfl,vK hs (by omega) (by omega) rfl (key 1074 rfl)⟩
     ·refine (EZ d _ d p w (hide rfl) (by omega) (by omega) T.mant (OP d) (by omega)).mono ?_
      rintro e w' ⟨rfl,rfl⟩
      exact ⟨⟨_,_,rfl,fun h=>by cases h⟩,rfl⟩
end Go.Proofs.YtjibjahfbblieaaGreatDoor.F
namespace Go.Proofs.YtjibjahfbblieaaGreatDoor.F
open Go Go.RowKit
set_option linter.unusedVariables false
structure DecAt (w:World) (g:Nat) (D:Nat->Int) (nd dp:Int) (tr:Bool):Prop where
 lt:g<w.heap.size
 fr:∀ k,w.frozen? ⟨g,k,none⟩=false
 dig:∀ k,k<800->w.cell? ⟨g,k,none⟩=some (.int .u8 (D k))
 nd:w.cell? ⟨g,800,none⟩=some (.int .i64 nd)
 dp:w.cell? ⟨g,801,none⟩=some (.int .i64 dp)
 neg:w.cell? ⟨g,802,none⟩=some (.bool false)
 tr:w.cell? ⟨g,803,none⟩=some (.bool tr)
theorem bH {g i j:Nat} (h:i≠j):(⟨g,i,none⟩:Addr)≠⟨g,j,none⟩:=by
 intro e;cases e;exact h rfl
theorem DecAt.setNd {w:World} {g:Nat} {D:Nat->Int} {nd dp:Int} {tr:Bool} (h:DecAt w g D nd dp tr) (x:Int):DecAt (w.setCell ⟨g,800,none⟩ (.int .i64 x)) g D x dp tr:={
 lt:=by simpa using h.lt
 fr:=fun k=>by simpa using h.fr k
 dig:=fun k hk=>(World.cell?_setCell_other _ _ _ _ (bH (by omega))).trans (h.dig k hk)
 nd:=World.cell?_setCell_same _ _ _ h.nd
 dp:=(World.cell?_setCell_other _ _ _ _ (bH (by omega))).trans h.dp
 neg:=(World.cell?_setCell_other _ _ _ _ (bH (by omega))).trans h.neg
 tr:=(World.cell?_setCell_other _ _ _ _ (bH (by omega))).trans h.tr }
theorem DecAt.setDp {w:World} {g:Nat} {D:Nat->Int} {nd dp:Int} {tr:Bool} (h:DecAt w g D nd dp tr) (x:Int):DecAt (w.setCell ⟨g,801,none⟩ (.int .i64 x)) g D nd x tr:={
 lt:=by simpa using h.lt
 fr:=fun k=>by simpa using h.fr k
 dig:=fun k hk=>(World.cell?_setCell_other _ _ _ _ (bH (by omega))).trans (h.dig k hk)
 nd:=(World.cell?_setCell_other _ _ _ _ (bH (by omega))).trans h.nd
 dp:=World.cell?_setCell_same _ _ _ h.dp
 neg:=(World.cell?_setCell_other _ _ _ _ (bH (by omega))).trans h.neg
 tr:=(World.cell?_setCell_other _ _ _ _ (bH (by omega))).trans h.tr }
theorem DecAt.setTr {w:World} {g:Nat} {D:Nat->Int} {nd dp:Int} {tr:Bool} (h:DecAt w g D nd dp tr) (x:Bool):DecAt (w.setCell ⟨g,803,none⟩ (.bool x)) g D nd dp x:={
 lt:=by simpa using h.lt
 fr:=fun k=>by simpa using h.fr k
 dig:=fun k hk=>(World.cell?_setCell_other _ _ _ _ (bH (by omega))).trans (h.dig k hk)
 nd:=(World.cell?_setCell_other _ _ _ _ (bH (by omega))).trans h.nd
 dp:=(World.cell?_setCell_other _ _ _ _ (bH (by omega))).trans h.dp
 neg:=(World.cell?_setCell_other _ _ _ _ (bH (by omega))).trans h.neg
 tr:=World.cell?_setCell_same _ _ _ h.tr }
theorem DecAt.drewN {w:World} {g:Nat} {D:Nat->Int} {nd dp:Int} {tr:Bool} (h:DecAt w g D nd dp tr) (n:Nat):DecAt (w.drewN n) g D nd dp tr:=
 ⟨h.lt,h.fr,h.dig,h.nd,h.dp,h.neg,h.tr⟩
theorem below_drewN {B:Nat} {a w:World} (h:Below B a w) (n:Nat):Below B a (w.drewN n):=⟨h.os,h.tape,h.output,h.size,h.block⟩
def gF (D:Nat->Int) (k:Nat) (x:Int):Nat->Int:=fun j=>if j=k then x else D j
theorem fI (D:Nat->Int) (k:Nat) (x:Int):gF D k x k=x:=by simp [gF]
theorem bN {D:Nat->Int} {k j:Nat} {x:Int} (h:j≠k):gF D k x j=D j:=by simp [gF,h]
theorem DecAt.setDig {w:World} {g:Nat} {D:Nat->Int} {nd dp:Int} {tr:Bool} (h:DecAt w g D nd dp tr) {k:Nat} (hk:k<800) (x:Int):DecAt (w.setCell ⟨g,k,none⟩ (.int .u8 x)) g (gF D k x) nd dp tr:={
 lt:=by simpa using h.lt
 fr:=fun k=>by simpa using h.fr k
 dig:=fun j hj=>by
  by_cases e:j=k
  ·subst e;rw [fI];exact World.cell?_setCell_same _ _ _ (h.dig j hj)
  ·rw [bN e];exact (World.cell?_setCell_other _ _ _ _ (bH (by omega))).trans (h.dig j hj)
 nd:=(World.cell?_setCell_other _ _ _ _ (bH (by omega))).trans h.nd
 dp:=(World.cell?_setCell_other _ _ _ _ (bH (by omega))).trans h.dp
 neg:=(World.cell?_setCell_other _ _ _ _ (bH (by omega))).trans h.neg
 tr:=(World.cell?_setCell_other _ _ _ _ (bH (by omega))).trans h.tr }
def bM (D:Nat->Int):Nat->Nat
 |0=>0
 |n+1=>if D n=48 then bM D n else n+1
def kr (n:Nat) (dp:Int):Int:=if n=0 then 0 else dp
theorem DC {D:Nat->Int} {n m:Nat} (h:m=n+1) (hd:D n=48):bM D m=bM D n:=by subst h;simp [bM,hd]
theorem AY {D:Nat->Int} {n m:Nat} (h:m=n+1) (hd:D n≠48):bM D m=m:=by subst h;simp [bM,hd]
set_option maxHeartbeats 800000 in
set_option maxRecDepth 100000 in
theorem iR (g n:Nat) (D:Nat->Int) (dp:Int) (tr:Bool) (w:World) (h:DecAt w g D n dp tr) (hn:n<=800):
 Calls Tryz.prog 237 #[.pointer (some ⟨g,0,none⟩)] w fun e w'=>e=.returned (.tuple #[])/\DecAt w' g D (bM D n) (kr (bM D n) dp) tr/\Below g w w':=by
 have H:=hide h
 go_enter Tryz.func237,Tryz.ntmps237
 go_wp2
 go_loopg [] n (fun gk wr=>∃ m:Nat,gk=m/\m<=800/\DecAt wr g D m dp tr/\Hid (bM D m=bM D n)/\Below g w wr)
 case atStart=>exact ⟨n,rfl,hn,H.out,hide rfl,Below.refl _ _⟩
 case round=>
  obtain ⟨m,rfl,hm,hd,Ht,hb⟩:=hrel
  have c0:=hd.nd
  have c9:=hd.dp
  have f0:=hd.fr
  have Hd:=hide hd
  have Hb:=hide hb
  clear hd hb h H
  by_cases hz:gk=0
  ·subst hz
   go_wp2
   go_quiet (fail)
   go_wp2
   go_end0
   have e:=Ht.out
   have hdn:=(Hd.out.drewN nq).setDp 0
   have e0:bM D n=0:=e.symm
   rw [e0]
   exact ⟨rfl,hdn,(below_drewN Hb.out nq).setCell (Nat.le_refl _) _⟩
  ·have c1:=Hd.out.dig (gk-1) (by omega)
   have hi:((gk:Int)-1).toNat=gk-1:=by omega
   have hp:(0:Int)<(gk:Int):=by omega
   have hp2:0<gk:=by omega
   have hp3:decide ((0:Int)<(gk:Int))=true:=by simp;omega
   have hp4:decide (0<gk)=true:=by simp;omega
   have hb0:(0:Int)<=(gk:Int)-1:=by omega
   have hb1:(gk:Int)-1<800:=by omega
   by_cases hv:D (gk-1)=48
   ·have hvb:(D (gk-1)==48)=true:=by rw [hv];rfl
    have Hv:=hide hv
    clear hv
    go_wp2
    go_quiet (fail)
    go_wp2
    go_roundg (gk-1)
    case rel=>
     refine ⟨gk-1,rfl,by omega,?_,hide ?_,?_⟩
     ·have hdn:=(Hd.out.drewN nq).setNd ((gk-1:Nat):Int)
      have e:((gk-1:Nat):Int)=(gk:Int)-1:=by omega
      rw [e] at hdn ⊢
      exact hdn
     ·rw [<-Ht.out];exact (DC (by omega) Hv.out).symm
     ·exact (below_drewN Hb.out nq).setCell (Nat.le_refl _) _
    case measure=>omega
   ·have hvb:(D (gk-1)==48)=false:=by rw [beq_eq_false_iff_ne];exact hv
    have Hv:=hide hv
    clear hv
    go_wp2
    go_quiet (fail)
    go_wp2
    go_end0
    have e:=Ht.out
    have e0:bM D n=gk:=by rw [<-e];exact AY (by omega) Hv.out
    rw [e0]
    refine ⟨rfl,?_,below_drewN Hb.out nq⟩
    have:kr gk dp=dp:=by unfold kr;rw [if_neg hz]
    rw [this]
    exact Hd.out.drewN nq
end Go.Proofs.YtjibjahfbblieaaGreatDoor.F
namespace Go.Proofs.YtjibjahfbblieaaGreatDoor.F
open Go Go.RowKit
set_option linter.unusedVariables false
def eT (D:Nat->Int) (i:Nat):Nat:=(D i-48).toNat
def dh (D:Nat->Int) (n:Nat):Prop:=∀ i,i<n->48<=D i/\D i<=57
def dv (D:Nat->Int):Nat->Nat
 |0=>0
 |n+1=>dv D n*10+eT D n
def sg (D:Nat->Int):Nat->Nat->Nat
 |_,0=>0
 |a,n+1=>eT D a*10^n+sg D (a+1) n
theorem Ag {D:Nat->Int} {n i:Nat} (h:dh D n) (hi:i<n):eT D i<=9:=by
 have:=h i hi;unfold eT;omega
theorem NR {D:Nat->Int} {n i:Nat} (h:dh D n) (hi:i<n):D i=48+(eT D i:Int):=by
 have:=h i hi;unfold eT;omega
theorem dh.mono {D:Nat->Int} {n m:Nat} (h:dh D n) (hm:m<=n):dh D m:=fun i hi=>h i (by omega)
theorem jy (n:Nat):0<10^n:=Nat.pow_pos (by omega)
theorem uo {D:Nat->Int}:∀ {n:Nat},dh D n->dv D n<10^n
 |0,_=>by simp [dv]
 |n+1,h=>by
  have h1:=uo (h.mono (Nat.le_succ n))
  have h2:=Ag h (Nat.lt_succ_self n)
  have:10^(n+1)=10^n*10:=Nat.pow_succ 10 n
  unfold dv
  omega
theorem jO {D E:Nat->Int}:∀ {n:Nat},(∀ i,i<n->D i=E i)->dv D n=dv E n
 |0,_=>rfl
 |n+1,h=>by
  unfold dv
  rw [jO (fun i hi=>h i (by omega))]
  unfold eT
  rw [h n (by omega)]
theorem zJ {D E:Nat->Int}:∀ {n a:Nat},(∀ i,a<=i->i<a+n->D i=E i)->sg D a n=sg E a n
 |0,_,_=>rfl
 |n+1,a,h=>by
  unfold sg
  rw [zJ (fun i h1 h2=>h i (by omega) (by omega))]
  unfold eT
  rw [h a (by omega) (by omega)]
theorem sP {D:Nat->Int}:∀ {n a:Nat},dh D (a+n)->sg D a n<10^n
 |0,_,_=>by simp [sg]
 |n+1,a,h=>by
  have h1:=sP (D:=D) (n:=n) (a:=a+1) (fun i hi=>h i (by omega))
  have h2:=Ag h (i:=a) (by omega)
  have:10^(n+1)=10^n*10:=Nat.pow_succ 10 n
  have h3:eT D a*10^n<=9*10^n:=Nat.mul_le_mul_right _ h2
  unfold sg
  omega
theorem ji {D:Nat->Int}:∀ (n a:Nat),dv D (a+n)=dv D a*10^n+sg D a n
 |0,a=>by simp [sg]
 |n+1,a=>by
  have h:=ji (D:=D) n (a+1)
  rw [show a+(n+1)=a+1+n by omega,h]
  rw [show sg D a (n+1)=eT D a*10^n+sg D (a+1) n from rfl,show dv D (a+1)=dv D a*10+eT D a from rfl,Nat.pow_succ,Nat.add_mul,Nat.mul_assoc,Nat.mul_comm 10,Nat.add_assoc]
theorem NP (D:Nat->Int) (n:Nat):sg D 0 n=dv D n:=by
 have:=ji (D:=D) n 0
 simp [dv] at this
 exact this.symm
theorem Ii {D:Nat->Int} {w n:Nat} {x:Int}:sg (gF D w x) w (n+1)=(x-48).toNat*10^n+sg D (w+1) n:=by
 show eT (gF D w x) w*10^n+sg (gF D w x) (w+1) n=_
 have e1:eT (gF D w x) w=(x-48).toNat:=by unfold eT;rw [fI]
 have e2:sg (gF D w x) (w+1) n=sg D (w+1) n:=zJ (fun i h1 h2=>bN (by omega))
 rw [e1,e2]
theorem Cg {D:Nat->Int} {w:Nat} {x:Int}:dv (gF D w x) (w+1)=dv D w*10+(x-48).toNat:=by
 show dv (gF D w x) w*10+eT (gF D w x) w=_
 have e1:eT (gF D w x) w=(x-48).toNat:=by unfold eT;rw [fI]
 have e2:dv (gF D w x) w=dv D w:=jO (fun i h1=>bN (by omega))
 rw [e1,e2]
theorem oq (D:Nat->Int):∀ n,bM D n<=n
 |0=>Nat.le_refl 0
 |n+1=>by
  unfold bM
  split
  ·have:=oq D n;omega
  ·exact Nat.le_refl _
theorem mU (D:Nat->Int):∀ n,bM D n=0∨D (bM D n-1)≠48
 |0=>.inl rfl
 |n+1=>by
  unfold bM
  split
  ·exact mU D n
  ·rename_i h;exact .inr (by simpa using h)
theorem wH {D:Nat->Int}:∀ (n:Nat),dv D n=dv D (bM D n)*10^(n-bM D n)
 |0=>rfl
 |n+1=>by
  unfold bM
  split
  ·rename_i h
   have h0:eT D n=0:=by unfold eT;rw [h];rfl
   rw [show dv D (n+1)=dv D n*10+eT D n from rfl,h0,Nat.add_zero]
   have:=oq D n
   rw [show n+1-bM D n=(n-bM D n)+1 by omega,Nat.pow_succ,<-Nat.mul_assoc,<-wH n]
  ·simp
structure Norm (D:Nat->Int) (nd:Nat):Prop where
 ok:dh D nd
 le:nd<=800
 head:nd≠0->D 0≠48
theorem pV {D:Nat->Int} {n:Nat} (h:dh D n) (hn:n≠0) (hh:D 0≠48):10^(n-1)<=dv D n:=by
 obtain ⟨m,rfl⟩:∃ m,n=1+m:=⟨n-1,by omega⟩
 rw [ji m 1]
 have h0:=h 0 (by omega)
 have:1<=dv D 1:=by simp [dv,eT];omega
 have:=Nat.mul_le_mul_right (10^m) this
 rw [show 1+m-1=m by omega]
 omega
def Mq (X:Nat) (E:Int) (tr:Bool) (D:Nat->Int) (nd:Nat) (dp:Int) (tr':Bool):Prop:=
 Norm D nd/\nd≠0/\D (nd-1)≠48/\∃ j t r,X=dv D nd*10^t*10^j+r/\r<10^j/\dp=E+(j+t+nd:Nat)/\(j=0∨800<=nd+t)/\tr'=(tr||decide (r≠0))
theorem OA {X:Nat} {E:Int} {tr tr':Bool} {D:Nat->Int} {n j r:Nat} {dp:Int} (hok:dh D n) (hn:n<=800) (hn0:n≠0) (hh:D 0≠48) (hX:X=dv D n*10^j+r) (hr:r<10^j)
 (hdp:dp=E+(j+n:Nat)) (hj:j=0∨n=800) (ht:tr'=(tr||decide (r≠0))):Mq X E tr D (bM D n) (kr (bM D n) dp) tr':=by
 have hle:=oq D n
 have hpos:=pV hok hn0 hh
 have htr:=wH (D:=D) n
 have hne:bM D n≠0:=by
  intro e
  rw [e] at htr
  have:=jy (n-1)
  simp [dv] at htr
  omega
 refine ⟨⟨hok.mono hle,by omega,fun _=>hh⟩,hne,(mU D n).resolve_left hne,j,n-bM D n,r,?_,hr,?_,?_,ht⟩
 ·rw [<-htr];exact hX
 ·unfold kr;rw [if_neg hne,hdp];omega
 ·omega
theorem za {X:Nat} {E:Int} {tr tr':Bool} {D:Nat->Int} {n j r z:Nat} {dp:Int} (hok:dh D n) (hn:n<=800) (hn0:n≠0) (hh:D 0≠48) (hX:X=dv D n*10^z*10^j+r) (hr:r<10^j)
 (hdp:dp=E+(j+z+n:Nat)) (hj:j=0∨n=800) (ht:tr'=(tr||decide (r≠0))):Mq X E tr D (bM D n) (kr (bM D n) dp) tr':=by
 have hle:=oq D n
 have hpos:=pV hok hn0 hh
 have htr:=wH (D:=D) n
 have hne:bM D n≠0:=by
  intro e
  rw [e] at htr
  have:=jy (n-1)
  simp [dv] at htr
  omega
 refine ⟨⟨hok.mono hle,by omega,fun _=>hh⟩,hne,(mU D n).resolve_left hne,j,n-bM D n+z,r,?_,hr,?_,?_,ht⟩
 ·rw [Nat.pow_add,<-Nat.mul_assoc,<-htr];exact hX
 ·unfold kr;rw [if_neg hne,hdp];omega
 ·omega
theorem lex_lt {D C:Nat->Int} {i n L:Nat} (hD:dh D n) (hC:dh C L) (hin:i<n) (hiL:i<L) (he:∀ j,j<i->D j=C j) (hlt:D i<C i):dv D n*10^L<dv C L*10^n:=by
 obtain ⟨a,rfl⟩:∃ a,n=i+1+a:=⟨n-i-1,by omega⟩
 obtain ⟨b,rfl⟩:∃ b,L=i+1+b:=⟨L-i-1,by omega⟩
 have e:dv D i=dv C i:=jO he
 have h1:dv D (i+1)+1<=dv C (i+1):=by
  have a1:=hD i (by omega)
  have a2:=hC i (by omega)
  simp only [dv,eT,e]
  omega
 have h2:dv D (i+1+a)<(dv D (i+1)+1)*10^a:=by
  rw [ji a (i+1),Nat.add_mul,Nat.one_mul]
  have:=sP (D:=D) (n:=a) (a:=i+1) hD
  omega
 have h3:dv C (i+1)*10^b<=dv C (i+1+b):=by rw [ji b (i+1)];exact Nat.le_add_right _ _
 calc dv D (i+1+a)*10^(i+1+b)<(dv D (i+1)+1)*10^a*10^(i+1+b):=Nat.mul_lt_mul_of_pos_right h2 (jy _)
  _=(dv D (i+1)+1)*10^b*10^(i+1+a):=by rw [Nat.mul_assoc,Nat.mul_assoc,<-Nat.pow_add,<-Nat.pow_add];congr 2;omega
  _<=dv C (i+1)*10^b*10^(i+1+a):=Nat.mul_le_mul_right _ (Nat.mul_le_mul_right _ h1)
  _<=dv C (i+1+b)*10^(i+1+a):=Nat.mul_le_mul_right _ h3
theorem Lg {D C:Nat->Int} {n L:Nat} (hC:dh C L) (hnL:n<L) (he:∀ j,j<n->D j=C j) (hlast:C (L-1)≠48):dv D n*10^L<dv C L*10^n:=by
 obtain ⟨b,rfl⟩:∃ b,L=n+b+1:=⟨L-n-1,by omega⟩
 have e:dv D n=dv C n:=jO he
 have h1:dv C (n+b+1)=dv C n*10^(b+1)+sg C n (b+1):=by rw [show n+b+1=n+(b+1) by omega];exact ji _ _
 have h2:0<sg C n (b+1):=by
  have a1:dv C (n+b+1)=dv C (n+b)*10+eT C (n+b):=rfl
  have a2:0<eT C (n+b):=by
   have:=hC (n+b) (by omega)
   have h3:C (n+b)≠48:=by simpa using hlast
   unfold eT;omega
  have a3:dv C (n+b)=dv C n*10^b+sg C n b:=ji _ _
  have a4:dv C n*10^(b+1)=dv C n*10^b*10:=by rw [Nat.pow_succ,Nat.mul_assoc]
  generalize dv C n*10^b=y at *
  omega
 rw [h1,e,Nat.add_mul,Nat.mul_assoc,<-Nat.pow_add,show b+1+n=n+b+1 by omega]
 have:=Nat.mul_pos h2 (jy n)
 omega
theorem MZ {D C:Nat->Int} {n L:Nat} (hnL:L<=n) (he:∀ j,j<L->D j=C j):dv C L*10^n<=dv D n*10^L:=by
 obtain ⟨b,rfl⟩:∃ b,n=L+b:=⟨n-L,by omega⟩
 have e:dv D L=dv C L:=jO he
 rw [ji b L,e,Nat.add_mul,Nat.pow_add,Nat.mul_comm (10^L),<-Nat.mul_assoc]
 exact Nat.le_add_right _ _
theorem wZ {V nd k L:Nat} (h5:10^(L-1)<=5^k) (h5':5^k<10^L) (hL:1<=L) (hLk:L<=k) (hV1:10^(nd-1)<=V) (hV2:V<10^nd) (hnd:nd≠0):
 (V*10^L<5^k*10^nd->10^(nd+(k-L)-1)<=V*2^k/\V*2^k<10^(nd+(k-L)))/\(5^k*10^nd<=V*10^L->10^(nd+(k-L+1)-1)<=V*2^k/\V*2^k<10^(nd+(k-L+1))):=by
 have e10:2^k*5^k=10^k:=by rw [<-Nat.mul_pow]
 have p5:0<5^k:=Nat.pow_pos (by omega)
 have p2:0<2^k:=Nat.pow_pos (by omega)
 refine ⟨fun h=>⟨?_,?_⟩,fun h=>⟨?_,?_⟩⟩
 ·
  refine Nat.le_of_mul_le_mul_right ?_ (Nat.mul_pos p5 (jy L))
  calc 10^(nd+(k-L)-1)*(5^k*10^L)<=10^(nd+(k-L)-1)*(10^L*10^L):=Nat.mul_le_mul_left _ (Nat.mul_le_mul_right _ (Nat.le_of_lt h5'))
   _=10^(nd-1)*(10^k*10^L):=by rw [<-Nat.pow_add,<-Nat.pow_add,<-Nat.pow_add,<-Nat.pow_add];congr 1;omega
   _<=V*(10^k*10^L):=Nat.mul_le_mul_right _ hV1
   _=V*2^k*(5^k*10^L):=by rw [<-e10];simp only [Nat.mul_assoc]
 ·refine Nat.lt_of_mul_lt_mul_right (a:=10^L) ?_
  calc V*2^k*10^L=V*10^L*2^k:=by rw [Nat.mul_assoc,Nat.mul_comm (2^k),<-Nat.mul_assoc]
   _<5^k*10^nd*2^k:=Nat.mul_lt_mul_of_pos_right h p2
   _=10^k*10^nd:=by rw [<-e10,Nat.mul_comm (2^k),Nat.mul_assoc,Nat.mul_assoc,Nat.mul_comm (10^nd)]
   _=10^(nd+(k-L))*10^L:=by rw [<-Nat.pow_add,<-Nat.pow_add];congr 1;omega
 ·refine Nat.le_of_mul_le_mul_right ?_ (jy L)
  calc 10^(nd+(k-L+1)-1)*10^L=10^k*10^nd:=by rw [<-Nat.pow_add,<-Nat.pow_add];congr 1;omega
   _=5^k*10^nd*2^k:=by rw [<-e10,Nat.mul_comm (2^k),Nat.mul_assoc,Nat.mul_assoc,Nat.mul_comm (10^nd)]
   _<=V*10^L*2^k:=Nat.mul_le_mul_right _ h
   _=V*2^k*10^L:=by rw [Nat.mul_assoc,Nat.mul_comm (10^L),<-Nat.mul_assoc]
 ·refine Nat.lt_of_mul_lt_mul_right (a:=5^k) ?_
  calc V*2^k*5^k=V*10^k:=by rw [Nat.mul_assoc,e10]
   _<10^nd*10^k:=Nat.mul_lt_mul_of_pos_right hV2 (jy k)
   _=10^(nd+(k-L+1))*10^(L-1):=by rw [<-Nat.pow_add,<-Nat.pow_add];congr 1;omega
   _<=10^(nd+(k-L+1))*5^k:=Nat.mul_le_mul_left _ h5
end Go.Proofs.YtjibjahfbblieaaGreatDoor.F
namespace Go.Proofs.YtjibjahfbblieaaGreatDoor.F
open Go Go.RowKit
set_option linter.unusedVariables false
def sb (s:ByteArray) (i:Nat):Int:=(bs s).getD i 0
def Ny (D:Nat->Int) (nd:Nat) (s:ByteArray) (w:World) (e:Ending) (w':World):Prop:=
 ∃ b n,e=.returned (.bool b)/\w'=w.drewN n/\(b=true->dv D nd*10^s.size<dv (sb s) s.size*10^nd)/\(b=false->dv (sb s) s.size*10^nd<=dv D nd*10^s.size)
theorem Ie {D:Nat->Int} {nd:Nat} {s:ByteArray} {w:World} {e:Ending} {w':World} (n:Nat) (h1:e=.returned (.bool true)) (h2:w'=w.drewN n) (h:dv D nd*10^s.size<dv (sb s) s.size*10^nd):Ny D nd s w e w':=
 ⟨true,n,h1,h2,fun _=>h,fun h=>by cases h⟩
theorem IG {D:Nat->Int} {nd:Nat} {s:ByteArray} {w:World} {e:Ending} {w':World} (n:Nat) (h1:e=.returned (.bool false)) (h2:w'=w.drewN n) (h:dv (sb s) s.size*10^nd<=dv D nd*10^s.size):Ny D nd s w e w':=
 ⟨false,n,h1,h2,(fun h=>Bool.noConfusion h),fun _=>h⟩
set_option maxHeartbeats 800000 in
set_option maxRecDepth 100000 in
theorem BX (D:Nat->Int) (nd g:Nat) (s:ByteArray) (w:World) (hnd:nd<=800) (hs:s.size<=100) (hok:dh D nd) (hC:dh (sb s) s.size) (hl:sb s (s.size-1)≠48)
 (hcell:∀ k,k<800->w.cell? ⟨g,k,none⟩=some (.int .u8 (D k))):
 Calls Tryz.prog 257 #[.slice (some ⟨g,0,none⟩) nd 800,.string s] w fun e w'=>Ny D nd s w e w':=by
 have HC:=hide hcell
 have Hok:=hide hok
 have HCs:=hide hC
 have Hl:=hide hl
 clear hcell hok hC hl
 go_enter Tryz.func257,Tryz.ntmps257
 go_wp2
 go_loopw [5] (fun iv wr=>∃ (i n:Nat),i<=s.size/\i<=nd/\iv=.int .i64 i/\wr=w.drewN n/\Hid (∀ j,j<i->D j=sb s j)) (fun iv _=>s.size-(intOf iv).toNat)
 case atStart=>exact ⟨0,0,Nat.zero_le _,Nat.zero_le _,rfl,rfl,hide (fun j hj=>by omega)⟩
 case round=>
  obtain ⟨i,n,hi1,hi2,rfl,rfl,He⟩:=hrel
  by_cases hlt:i<s.size
  ·by_cases hnd':i<nd
   ·have Hg:=hide (aA hlt)
    have c1:w.cell? ⟨g,i,none⟩=some (.int .u8 (D i)):=HC.out i (by omega)
    have hx:=Hok.out i hnd'
    obtain ⟨hx1,hx2⟩:=hx
    have hi3:(i:Int)<(nd:Int):=by omega
    have hi4:(i:Int)<(s.size:Int):=by omega
    have Hx:=hide (And.intro hx1 hx2)
    clear hx1 hx2
    by_cases heq:D i=((s[i].toNat:Nat):Int)
    ·have hb:(D i !=((s[i].toNat:Nat):Int))=false:=by rw [bne_eq_false_iff_eq];exact heq
     have Heq:=hide heq
     clear heq
     go_wp2
     go_quiet (fail)
     go_wp2
     go_roundw
     case rel=>exact ⟨i+1,n+nq,by omega,by omega,by go_num,rfl,hide (fun j hj=>by
      by_cases e:j=i
      ·subst e;rw [Heq.out];exact Hg.out.symm
      ·exact He.out j (by omega))⟩
     case measure=>simp [intOf];omega
    ·have hb:(D i !=((s[i].toNat:Nat):Int))=true:=by rw [bne_iff_ne];exact heq
     by_cases hle:D i<((s[i].toNat:Nat):Int)
     ·have Hle:=hide hle
      have hd:decide (D i<((s[i].toNat:Nat):Int))=true:=by simp [hle]
      clear heq
      go_wp2
      go_quiet (fail)
      go_wp2
      go_quiet (fail)
      go_wp2
      go_ret
      refine Ie _ rfl (by rw [World.drewN_drewN,World.drewN_drewN]) ?_
      exact lex_lt Hok.out HCs.out hnd' hlt He.out (by unfold sb;rw [Hg.out];exact Hle.out)
     ·have Hle:=hide hle
      have Heq:=hide heq
      have hd:decide (D i<((s[i].toNat:Nat):Int))=false:=by simp;omega
      clear heq hle
      go_wp2
      go_quiet (fail)
      go_wp2
      go_quiet (fail)
      go_wp2
      go_ret
      refine IG _ rfl (by rw [World.drewN_drewN,World.drewN_drewN]) ?_
      refine Nat.le_of_lt (lex_lt HCs.out Hok.out hlt hnd' (fun j hj=>(He.out j hj).symm) ?_)
      unfold sb;rw [Hg.out]
      have h1:=Hle.out
      have h2:=Heq.out
      omega
   ·go_wp2
    go_ret
    have hin:i=nd:=by omega
    subst hin
    exact Ie n rfl rfl (Lg HCs.out hlt He.out Hl.out)
  ·go_wp2
   go_ret
   have hin:i=s.size:=by omega
   refine IG n rfl rfl (MZ (by omega) (fun j hj=>He.out j (by omega)))
end Go.Proofs.YtjibjahfbblieaaGreatDoor.F
