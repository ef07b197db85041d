import Derived.Test.YtjibjahfbblieaaGreatDoorKBO
namespace Go.Proofs.YtjibjahfbblieaaGreatDoor
open Go Go.RowKit
set_option linter.unusedVariables false
def ME (o a b c l:Int):Prop:=(inI o 0 255=true/\inI a 0 255=true/\inI b (-2147483648) 2147483647=true/\inI c (-2147483648) 2147483647=true)/\inI l 0 2147483647=true
def zZ (p:PV):Prop:=inI p.params 0 255=true/\inI p.regs 0 255=true/\inI p.line 0 2147483647=true/\p.nu<=255/\p.nc<=65535/\p.ni<=65535/\p.nl=p.ni
def MG (p:PV) (m:Nat):Prop:=∀ k,k<m->inI (p.u1 k) 0 255=true
def GR (p:PV) (m:Nat):Prop:=∀ k,k<m->bI (p.c0 k) (p.c1 k) (p.c2 k) (p.c3 k)
def codeOk (p:PV) (m:Nat):Prop:=∀ k,k<m->ME (p.i0 k) (p.i1 k) (p.i2 k) (p.i3 k) (p.l0 k)
def fU (p:PV):Prop:=zZ p/\MG p p.nu/\GR p p.nc/\codeOk p p.ni
def PV.bitsOk (p:PV):Prop:=∀ k,k<p.nc->0<=p.c2 k/\p.c2 k<18446744073709551616
set_option maxHeartbeats 1600000 in
set_option maxRecDepth 100000 in
theorem vD (p:PV) (s4 s5 s6 s7:Value) (w:World) (hf:p.fits 1048576) (hbit:p.bitsOk) (h:PVA w p s4 s5 s6 s7):
 Calls Tryz.prog 27 #[p.agg s4 s5 s6 s7] w fun e w'=>jk (fU p) w e w':=by
 obtain ⟨hs1,hs2,hs3,hs4,hs5⟩:=hf
 obtain ⟨a4,k4,e4⟩:=h.u.val
 obtain ⟨a5,k5,e5⟩:=h.c.val
 obtain ⟨a6,k6,e6⟩:=h.i.val
 obtain ⟨a7,k7,e7⟩:=h.l.val
 have HA:=hide h
 have HS:=hide hs5
 have HBit:=hide hbit
 have HE4:=hide e4
 clear h hs5 hbit
 unfold PV.agg
 by_cases hh:¬ zZ p
 ·have HN:=hide hh
  clear hh
  subst e4 e5 e6 e7
  by_cases hnl:p.nl=p.ni
  ·go_enter Tryz.func27,Tryz.ntmps27
   go_wp2_with (go_at_call 37;refine (bC _ _ _ _).mono ?_;rintro e w' ⟨rfl,rfl⟩)
   all_goals first |(go_ret;exact ⟨_,rfl,.inr ⟨rfl,fun h=>HN.out h.1⟩,b_1 _ _⟩)|(exfalso;apply HN.out;refine ⟨?_,?_,?_,?_,?_,?_,?_⟩<;>first |assumption|omega)
  ·have hni:((p.nl:Int) !=(p.ni:Int))=true:=by simp;omega
   go_enter Tryz.func27,Tryz.ntmps27
   go_wp2_with (go_at_call 37;refine (bC _ _ _ _).mono ?_;rintro e w' ⟨rfl,rfl⟩)
   all_goals first |(go_ret;exact ⟨_,rfl,.inr ⟨rfl,fun h=>HN.out h.1⟩,b_1 _ _⟩)|(exfalso;omega)
 ·replace hh:=Classical.not_not.1 hh
  have HH:=hide hh
  obtain ⟨h1,h2,h3,h4,h5,h6,h7⟩:=hh
  have i4:¬ ((255:Int)<(p.nu:Int)):=by omega
  have i5:¬ ((65535:Int)<(p.nc:Int)):=by omega
  have i6:¬ ((65535:Int)<(p.ni:Int)):=by omega
  have HP1:=hide (PC.mk w 43 p s4 s5 s6 s7)
  have HB1:=hide (b_1 w (.cells #[.int .i64 p.params,.int .i64 p.regs,.int .i64 p.line,.bool p.dots,s4,s5,s6,s7] 43))
  subst e4 e5 e6 e7
  go_enter Tryz.func27,Tryz.ntmps27
  go_wp2_with (go_at_call 37;refine (bC _ _ _ _).mono ?_;rintro e w' ⟨rfl,rfl⟩)
  rename_i hcond K1 a1
  clear hcond
  have HK:=hide a1
  clear a1
  rw [h7] at HP1 HB1
  generalize w.alloc (.cells #[.int .i64 p.params,.int .i64 p.regs,.int .i64 p.line,.bool p.dots,.slice a4 p.nu k4,.slice a5 p.nc k5,.slice a6 p.ni k6,.slice a7 p.ni k7] 43)=w1 at HP1 HB1 ⊢
  go_loopw [55] (fun iv wr=>∃ i:Nat,i<=p.nu/\iv=.int .i64 i/\Hid (MG p i)/\Hid (Below w1.heap.size w1 wr)) (fun iv _=>match iv with | .int _ x=>p.nu-x.toNat|_=>0)
  case atStart=>exact ⟨0,by omega,rfl,hide (fun k hk=>by omega),hide (Below.refl _ _)⟩
  case round=>
   obtain ⟨i,hi9,rfl,HU,HBw⟩:=hrel
   by_cases hin:i<p.nu
   ·rcases HA.out.u with ⟨h9,_⟩|⟨b,o,cap,e,hb,hcap,hc⟩
    ·omega
    ·cases e
     have hbb:=HB1.out.trans (HBw.out.mono HB1.out.size)
     have c0:=(hbb.cell (p:=⟨b,o+i*2,none⟩) hb).trans (hc i hin).1
     have c1:=(hbb.cell (p:=⟨b,o+i*2+1,none⟩) hb).trans (hc i hin).2
     clear hbb hc
     rcases hx:inI (p.u1 i) 0 255 with _|_
     ·go_wp2_with (go_at_call 37;refine (bC _ _ _ _).mono ?_;rintro e w' ⟨rfl,rfl⟩)
      go_ret
      exact ⟨_,rfl,.inr ⟨rfl,fun h=>by have:=h.2.1 i hin;rw [hx] at this;cases this⟩,HB1.out.trans ((HBw.out.alloc HBw.out.size _).mono HB1.out.size)⟩
     ·go_wp2_with (go_at_call 37;refine (bC _ _ _ _).mono ?_;rintro e w' ⟨rfl,rfl⟩)
      go_roundw
      case rel=>exact ⟨i+1,by omega,by simp,hide (fun k hk=>by
       by_cases e:k=i
       ·subst e;exact hx
       ·exact HU.out k (by omega)),hide (HBw.out.alloc HBw.out.size _)⟩
      case measure=>simp;omega
   ·obtain rfl:i=p.nu:=by omega
    go_wp2
    refine HK.out _ _ ?_
    clear HK
    have HB2:=hide (HB1.out.trans (HBw.out.mono HB1.out.size))
    have HP2:=hide (HP1.out.low HBw.out HP1.out.1)
    clear HB1 HP1 HBw
    obtain ⟨-,-,-,-,-,d4,d5,d6,d7⟩:=HP2.out
    go_wp2_with fail
    rename_i K2 a2
    have HK:=hide a2
    clear a2 d4 d5 d6 d7
    go_loopw [67] (fun iv wq=>∃ i:Nat,i<=p.nc/\iv=.int .i64 i/\Hid (GR p i)/\Hid (Below wr.heap.size wr wq)) (fun iv _=>match iv with | .int _ x=>p.nc-x.toNat|_=>0)
    case atStart=>exact ⟨0,by omega,rfl,hide (fun k hk=>by omega),hide (Below.refl _ _)⟩
    case round=>
     obtain ⟨i,hi9,rfl,HC,HBw⟩:=hrel
     by_cases hin:i<p.nc
     ·rcases HA.out.c with ⟨h9,_⟩|⟨b,o,cap,e,hb,hcap,hc⟩
      ·omega
      ·cases e
       have hbb:=HB2.out.trans (HBw.out.mono HB2.out.size)
       have c0:=(hbb.cell (p:=⟨b,o+i*4,none⟩) hb).trans (hc i hin).1
       have c1:=(hbb.cell (p:=⟨b,o+i*4+1,none⟩) hb).trans (hc i hin).2.1
       have c2:=(hbb.cell (p:=⟨b,o+i*4+2,none⟩) hb).trans (hc i hin).2.2.1
       have c3:=(hbb.cell (p:=⟨b,o+i*4+3,none⟩) hb).trans (hc i hin).2.2.2
       clear hbb hc
       go_wp2_with fail
       refine (vo (p.c0 i) (p.c1 i) (p.c2 i) (p.c3 i) _ (HBit.out i hin).1 (HBit.out i hin).2 (HS.out i hin)).mono ?_
       rintro e w3 ⟨r,rfl,hr,hb3⟩
       have HB4:=hide ((HBw.out.alloc HBw.out.size _).trans (hb3.mono (HBw.out.alloc HBw.out.size _).size))
       clear c0 c1 c2 c3 hb3
       rcases hr with ⟨rfl,hr⟩|⟨rfl,hr⟩
       ·have HR:=hide hr
        clear hr
        go_wp2
        go_roundw
        case rel=>exact ⟨i+1,by omega,by simp,hide (fun k hk=>by
         by_cases e:k=i
         ·subst e;exact HR.out
         ·exact HC.out k (by omega)),HB4⟩
        case measure=>simp;omega
       ·have HR:=hide hr
        clear hr
        go_wp2
        go_ret
        exact ⟨_,rfl,.inr ⟨rfl,fun h=>HR.out (h.2.2.1 i hin)⟩,HB2.out.trans (HB4.out.mono HB2.out.size)⟩
     ·obtain rfl:i=p.nc:=by omega
      go_wp2
      refine HK.out _ _ ?_
      clear HK
      have HB3:=hide (HB2.out.trans (HBw.out.mono HB2.out.size))
      have HP3:=hide (HP2.out.low HBw.out HP2.out.1)
      clear HB2 HP2 HBw
      obtain ⟨-,-,-,-,-,d4,d5,d6,d7⟩:=HP3.out
      go_wp2_with fail
      rename_i K3 a3
      have HK:=hide a3
      clear a3 d4 d5 d6 d7
      go_loopw [78] (fun iv wq=>∃ i:Nat,i<=p.ni/\iv=.int .i64 i/\Hid (codeOk p i)/\Hid (Below wr.heap.size wr wq)) (fun iv _=>match iv with | .int _ x=>p.ni-x.toNat|_=>0)
      case atStart=>exact ⟨0,by omega,rfl,hide (fun k hk=>by omega),hide (Below.refl _ _)⟩
      case round=>
       obtain ⟨i,hi9,rfl,HI,HBw⟩:=hrel
       by_cases hin:i<p.ni
       ·rcases HA.out.i with ⟨h9,_⟩|⟨b,o,cap,e,hb,hcap,hc⟩
        ·omega
        rcases HA.out.l with ⟨h9,_⟩|⟨b',o',cap',e',hb',hcap',hc'⟩
        ·omega
        cases e
        cases e'
        have hbb:=HB3.out.trans (HBw.out.mono HB3.out.size)
        have c0:=(hbb.cell (p:=⟨b,o+i*4,none⟩) hb).trans (hc i hin).1
        have c1:=(hbb.cell (p:=⟨b,o+i*4+1,none⟩) hb).trans (hc i hin).2.1
        have c2:=(hbb.cell (p:=⟨b,o+i*4+2,none⟩) hb).trans (hc i hin).2.2.1
        have c3:=(hbb.cell (p:=⟨b,o+i*4+3,none⟩) hb).trans (hc i hin).2.2.2
        have c4:=(hbb.cell (p:=⟨b',o'+i,none⟩) hb').trans (hc' i (by omega))
        obtain ⟨hpl,-,-,-,-,-,-,-,d7⟩:=HP3.out.low HBw.out HP3.out.1
        have hA:=b_1 wr (.cells #[.int .i64 (p.i0 i),.int .i64 (p.i1 i),.int .i64 (p.i2 i),.int .i64 (p.i3 i)] 45)
        have c4':=(hA.cell (p:=⟨b',o'+i,none⟩) (Nat.lt_of_lt_of_le hb' hbb.size)).trans c4
        have d7':=(hA.cell (p:=⟨w.heap.size,7,none⟩) hpl).trans d7
        have HB4:=hide (HBw.out.alloc HBw.out.size (.cells #[.int .i64 (p.i0 i),.int .i64 (p.i1 i),.int .i64 (p.i2 i),.int .i64 (p.i3 i)] 45))
        clear hbb hc hc' hA c4 d7
        by_cases hok:¬ ME (p.i0 i) (p.i1 i) (p.i2 i) (p.i3 i) (p.l0 i)
        ·have HN:=hide hok
         clear hok
         rcases hl:inI (p.l0 i) 0 2147483647 with _|_<;>
         go_wp2_with (go_at_call 37;refine (bC _ _ _ _).mono ?_;rintro e w' ⟨rfl,rfl⟩)
         all_goals first |(go_ret;exact ⟨_,rfl,.inr ⟨rfl,fun h=>HN.out (h.2.2.2 i hin)⟩,HB3.out.trans (HB4.out.mono HB3.out.size)⟩)|(exfalso;apply HN.out;refine ⟨⟨?_,?_,?_,?_⟩,?_⟩<;>assumption)
        ·replace hok:=Classical.not_not.1 hok
         obtain ⟨⟨j1,j2,j3,j4⟩,j5⟩:=hok
         go_wp2_with (go_at_call 37;refine (bC _ _ _ _).mono ?_;rintro e w' ⟨rfl,rfl⟩)
         go_roundw
         case rel=>exact ⟨i+1,by omega,by simp,hide (fun k hk=>by
          by_cases e:k=i
          ·subst e;exact ⟨⟨j1,j2,j3,j4⟩,j5⟩
          ·exact HI.out k (by omega)),HB4⟩
         case measure=>simp;omega
       ·obtain rfl:i=p.ni:=by omega
        go_wp2
        refine HK.out _ _ ?_
        clear HK
        go_wp2
        go_ret
        exact ⟨_,rfl,.inl ⟨rfl,HH.out,HU.out,HC.out,HI.out⟩,HB3.out.trans (HBw.out.mono HB3.out.size)⟩
end Go.Proofs.YtjibjahfbblieaaGreatDoor
