import Derived.Test.YtedpifhlffcmkaaGreatDoorKHSK
import Derived.Test.YtedpifhlffcmkaaGreatDoorKIO0
namespace Go.Proofs.YtedpifhlffcmkaaGreatDoor
open Go Go.RowKit
set_option maxHeartbeats 6400000
set_option maxRecDepth 100000
set_option linter.unusedVariables false
section
variable {S:Nat->Prop} {base:Nat} {h:Hp} {w:World}
theorem ny (hs:h.state=2):h.advance=(h.Ec,1):=by unfold Hp.advance;rw [if_pos hs]
theorem nD (hs:h.state=1) (hg:h.grey=[]):h.advance=(h.atomic,1):=by unfold Hp.advance;rw [if_neg (by omega),if_pos hg]
theorem nL (hs:h.state=1) (hg:h.grey≠[]):h.advance=h.take:=by unfold Hp.advance;rw [if_neg (by omega),if_neg hg]
theorem uh (h:Hp) (s:Sm h):h.take.2<=6000:=by
 unfold Hp.take
 split
 ·unfold Hp.scan
  split
  ·rename_i o ho
   have:=s.es _ o ho
   simp only
   omega
  ·simp
 ·simp
theorem iC {L:SM} (a:JU base S h L w) (g:Gd h) (u:Int) (hu: -10000<=u/\u<=1073741824):
 Calls Tryz.prog 46 #[.pointer (some ⟨L.H,0,none⟩),.int .i64 u] w fun e w'=>e=.returned (.tuple #[])/\∃ L',L'.H=L.H/\JU base S (Hp.step u h) L' w'/\Keeps w w' S:=by
 have c5:w.cell? ⟨L.H,5,none⟩=some (.int .i64 (h.state:Int)):=a.hp.cell (j:=5) (by omega)
 have key:∀ (v:Int) (q:Hp) (L1:SM) (w1:World),-20000<=v->v<=1073741824->L1.H=L.H->JU base S q L1 w1->Gd q->Keeps w w1 S->Hp.step u h=Hp.work v q->Hq (∃ L',L'.H=L.H/\JU base S q L' w1/\Gd q/\Keeps w w1 S/\Hp.step u h=Hp.work v q):=fun v q L1 w1 _ _ h1 h2 h3 h4 h5=>⟨L1,h1,h2,h3,h4,h5⟩
 have HKEY:=ah key
 have HA:=ah a
 have HG:=ah g
 have HB:=ah (mQ a g.s g.i.zero (fun n hn=>by obtain ⟨o,e⟩:=Hp.ES (g.i.ls n (.inl hn));exact Hp.Es e) (fun n hn=>by obtain ⟨o,e⟩:=Hp.ES (g.i.ls n (.inr (.inl hn)));exact Hp.Es e))
 clear a g key
 go_enter Tryz.func46,Tryz.ntmps46
 go_upto_if 9 with (fail)
 go_cut [1] (fun uv wc=>∃ (v:Int) (q:Hp),uv=.int .i64 v/\ -20000<=v/\v<=1073741824/\Hq (∃ L',L'.H=L.H/\JU base S q L' wc/\Gd q/\Keeps w wc S/\Hp.step u h=Hp.work v q))
 case first=>
  by_cases hs:h.state=0
  ·have hse:((h.state:Int)==0)=true:=by simp [hs]
   have HST:Hq (Hp.step u h=Hp.work (u-1) h.begin):=ah (by unfold Hp.step;rw [if_pos hs])
   have HGB:=ah (HG.o.begin hs)
   clear hs
   go_wp2_with fail
   refine HB.o.mono ?_
   rintro e9 w1 ⟨rfl,L1,hl1,ha1,hk1⟩
   have H1:=ah (And.intro hl1 (And.intro ha1 hk1))
   clear hl1 ha1 hk1
   go_wp2_with fail
   go_meet
   exact ⟨u-1,h.begin,rfl,by omega,by omega,L1,H1.o.1,H1.o.2.1,HGB.o,H1.o.2.2,HST.o⟩
  ·have hse:((h.state:Int)==0)=false:=by simp;omega
   have HST:Hq (Hp.step u h=Hp.work u h):=ah (by unfold Hp.step;rw [if_neg hs])
   clear hs
   go_wp2_with fail
   go_meet
   exact ⟨u,h,rfl,by omega,by omega,L,rfl,HA.o,HG.o,Keeps.refl _ _,HST.o⟩
 case rest=>
 obtain ⟨v,q,rfl,hv1,hv2,HQ⟩:=hcut
 rename World=>w1
 clear HA HG HB HKEY c5
 go_wp2
 go_loopg [1,4] (v+20000).toNat (fun m uv xv wr=>∃ (v':Int) (q':Hp),uv=.int .i64 v'/\ -20000<=v'/\v'<=1073741824/\m=(v'+20000).toNat/\Hq (∃ L',L'.H=L.H/\JU base S q' L' wr/\Gd q'/\Keeps w wr S/\Hp.step u h=Hp.work v' q'))
 case atStart=>exact ⟨v,q,rfl,hv1,hv2,rfl,HQ.o⟩
 case round=>
  clear HQ
  obtain ⟨v',q',rfl,hw1,hw2,hm,HI⟩:=hrel
  obtain ⟨L1,hL1,hat,hgd,hkp,hst⟩:=HI.out
  obtain ⟨H1,oS1,ob1,es1,li1,rS1⟩:=L1
  obtain rfl:H1=L.H:=hL1
  have c5:wr.cell? ⟨L.H,5,none⟩=some (.int .i64 (q'.state:Int)):=hat.hp.cell (j:=5) (by omega)
  by_cases hpos:0<v'
  ·by_cases hs0:q'.state=0
   ·have hne:((q'.state:Int) !=0)=false:=by simp [hs0]
    have HW:=ah (Hp.Fh v' q' (fun x=>x.2 hs0))
    have HT:=ah (And.intro hat (And.intro hkp hst))
    clear hat hgd hkp hst HI hs0
    go_wp2
    go_end0
    exact ⟨rfl,⟨L.H,oS1,ob1,es1,li1,rS1⟩,rfl,by rw [HT.o.2.2,HW.o];exact HT.o.1,HT.o.2.1⟩
   ·have hne:((q'.state:Int) !=0)=true:=by simp;omega
    have HW:=ah (Hp.F6 v' q' ⟨hpos,hs0⟩)
    have HGA:=ah (hgd.advance hs0)
    by_cases hs2:q'.state=2
    ·have hq2:((q'.state:Int)==2)=true:=by simp [hs2]
     have HAD:=ah (ny hs2)
     have HSW:=ah (og hat hgd.s hgd.n hgd.i.ps (hgd.i.s2 hs2).2.2.1 hgd.i.w1)
     have HT:=ah (And.intro hkp hst)
     clear hat hgd hkp hst HI hs0 hs2
     go_wp2_with fail
     refine HSW.o.mono ?_
     rintro e9 w2 ⟨rfl,L2,hl2,ha2,hk2⟩
     have H2:=ah (And.intro hl2 (And.intro ha2 hk2))
     clear hl2 ha2 hk2 HSW
     go_wp2
     go_roundg (v'-1+20000).toNat
     case rel=>
      refine ⟨v'-1,q'.Ec,rfl,by omega,by omega,rfl,L2,H2.o.1,H2.o.2.1,?_,HT.o.1.trans H2.o.2.2,?_⟩
      ·have:=HGA.o;rw [HAD.o] at this;exact this
      ·rw [HT.o.2,HW.o,HAD.o];rfl
     case measure=>omega
    ·have hq2:((q'.state:Int)==2)=false:=by simp;omega
     have hs1:q'.state=1:=by have:=hgd.i.st;omega
     by_cases hgr:q'.grey=[]
     ·have HAD:=ah (nD hs1 hgr)
      have HAT:=ah (sW hat (hgd.Jc hs1))
      have ha:=hat.li 7 (by simp [cB])
      rw [show eX q' 7=[] from hgr] at ha
      obtain ⟨x7,cap7,hv7⟩:=aF ha
      have c7:wr.cell? ⟨L.H,7,none⟩=some (.slice x7 0 cap7):=by
       have:=hat.hp.cell (j:=7) (by omega)
       rw [this]
       exact congrArg some hv7
      have HT:=ah (And.intro hkp hst)
      clear hat hgd hkp hst HI hs0 hs2 hs1 hgr ha hv7
      go_wp2_with fail
      refine HAT.o.mono ?_
      rintro e9 w2 ⟨rfl,L2,hl2,ha2,hk2⟩
      have H2:=ah (And.intro hl2 (And.intro ha2 hk2))
      clear hl2 ha2 hk2 HAT
      go_wp2
      go_roundg (v'-1+20000).toNat
      case rel=>
       refine ⟨v'-1,q'.atomic,rfl,by omega,by omega,rfl,L2,H2.o.1,H2.o.2.1,?_,HT.o.1.trans H2.o.2.2,?_⟩
       ·have:=HGA.o;rw [HAD.o] at this;exact this
       ·rw [HT.o.2,HW.o,HAD.o];rfl
      case measure=>omega
     ·have HAD:=ah (nL hs1 hgr)
      have htl:=uh q' hgd.s
      have htp:=q'.Gz hgr
      obtain ⟨gs,n,hgs⟩:∃ gs n,q'.grey=gs++[n]:=⟨_,_,(List.dropLast_concat_getLast hgr).symm⟩
      obtain ⟨g7,cap7,hv7,hcap7,hcn7,-,-⟩:=hat.pop hgs
      have c7:wr.cell? ⟨L.H,7,none⟩=some (.slice (some ⟨g7,0,none⟩) (gs.length+1) cap7):=by
       have:=hat.hp.cell (j:=7) (by omega)
       rw [this]
       exact congrArg some hv7
      have hgl:gs.length<=20000:=by
       have:=hgd.s.nu
       simp only [Hp.nu,Hp.mu,hgs,List.length_append,List.length_singleton] at this
       omega
      have hne0:(((gs.length:Int)+1)==0)=false:=by simp;omega
      have HGS:=ah hgs
      have HWK:=ah (hgd.Jc hs1).k
      have HAT:=ah hat
      have HT:=ah (And.intro hkp hst)
      clear hat hgd hkp hst HI hs0 hs2 hs1 hgr hv7 hgs
      go_wp2_with fail
      go_quiet (fail)
      go_wp2_with fail
      have HB2:=ah (ay (Below.refl wr.heap.size wr) nq)
      generalize wr.drewN nq=w2 at *
      have HI2:=ah (HAT.o.low HB2.o)
      obtain ⟨g2,cap2,hv2',hcap2,-,hpat2,hpk2⟩:=HI2.o.pop HGS.o
      have d7:w2.cell? ⟨L.H,7,none⟩=some (.slice (some ⟨g2,0,none⟩) (gs.length+1) cap2):=by
       have:=HI2.o.hp.cell (j:=7) (by omega)
       rw [this]
       exact congrArg some hv2'
      have y7:=HI2.o.hp.Jv 7
      have HPT2:=ah (And.intro hpat2 hpk2)
      have hgl2:(gs.length:Int)<=cap2:=by omega
      clear hv2' hpat2 hpk2 c7 hcn7
      go_region
      have HB3:=ah (ay (Below.refl (w2.setCell ⟨L.H,7,none⟩ (.slice (some ⟨g2,0,none⟩) gs.length cap2)).heap.size (w2.setCell ⟨L.H,7,none⟩ (.slice (some ⟨g2,0,none⟩) gs.length cap2))) 1)
      have HP3:=ah (HPT2.o.1.low HB3.o)
      have HK3:=ah (((HT.o.1.trans (Keeps.of HB2.o (Nat.le_refl _) S)).trans HPT2.o.2).trans (Keeps.of HB3.o (Nat.le_refl _) S))
      have HSC:=ah (qQ HP3.o (HWK.o.pop HGS.o).1 (HWK.o.pop HGS.o).2.1 n (HWK.o.pop HGS.o).2.2)
      rw [<-Hp.F3 HGS.o] at HSC
      have hdr:∀ x:World,x.drew=x.drewN 1:=fun x=>rfl
      rw [hdr]
      clear hdr
      generalize (w2.setCell ⟨L.H,7,none⟩ (.slice (some ⟨g2,0,none⟩) gs.length cap2)).drewN 1=w4 at *
      clear HPT2 HB3 HI2 d7 y7
      go_wp2_with fail
      refine HSC.o.mono ?_
      rintro e9 w5 ⟨rfl,L5,hl5,ha5,hk5⟩
      have H5:=ah (And.intro hl5 (And.intro ha5 hk5))
      clear hl5 ha5 hk5 HSC
      go_wp2
      go_roundg (v'-(q'.take.2:Int)+20000).toNat
      case rel=>
       refine ⟨v'-(q'.take.2:Int),q'.take.1,rfl,by omega,by omega,rfl,L5,H5.o.1.H,H5.o.2.1,?_,HK3.o.trans H5.o.2.2,?_⟩
       ·have:=HGA.o;rw [HAD.o] at this;exact this
       ·rw [HT.o.2,HW.o,HAD.o]
      case measure=>omega
  ·have HW:=ah (Hp.Fh v' q' (fun x=>hpos x.1))
   have HT:=ah (And.intro hat (And.intro hkp hst))
   clear hat hgd hkp hst HI
   go_wp2
   go_end0
   exact ⟨rfl,⟨L.H,oS1,ob1,es1,li1,rS1⟩,rfl,by rw [HT.o.2.2,HW.o];exact HT.o.1,HT.o.2.1⟩
end
section
variable {S:Nat->Prop} {base:Nat} {h:Hp} {w:World}
theorem wB (u:Int) (h:Hp):Inv h->(Hp.work u h).phi<=h.phi:=by
 refine Hp.EP (P:=fun _ h g=>Inv h->g.phi<=h.phi) (fun u h _ _=>Nat.le_refl _) (fun u h g _ hs x i=>?_) u h
 have h1:=x (i.advance hs)
 have h2:=Hp.EH i hs
 omega
theorem qL (i:Inv h) (hs:h.state≠0):(Hp.step 1073741824 h).phi<h.phi/\(Hp.step 1073741824 h).finish=h.finish:=by
 have e:Hp.step 1073741824 h=Hp.work 1073741824 h:=by unfold Hp.step;rw [if_neg hs]
 rw [e]
 refine ⟨?_,Hp.Gt _ _ i⟩
 rw [Hp.F6 _ h ⟨by decide,hs⟩]
 have h1:=wB (1073741824-(h.advance.2:Int)) h.advance.1 (i.advance hs)
 have h2:=Hp.EH i hs
 omega
theorem wu {L:SM} (a:JU base S h L w) (g:Gd h):
 Calls Tryz.prog 47 #[.pointer (some ⟨L.H,0,none⟩)] w fun e w'=>e=.returned (.tuple #[])/\∃ L',L'.H=L.H/\JU base S h.full L' w'/\Keeps w w' S:=by
 have HA:=ah a
 have HG:=ah g
 clear a g
 go_enter Tryz.func47,Tryz.ntmps47
 go_wp2
 go_loopg [] h.phi (fun m wr=>∃ q:Hp,Hq (m=q.phi/\q.finish=h.finish/\Gd q/\(∃ L',L'.H=L.H/\JU base S q L' wr)/\Keeps w wr S))
 case atStart=>exact ⟨h,rfl,rfl,HG.o,⟨L,rfl,HA.o⟩,Keeps.refl _ _⟩
 case round=>
  clear HA
  obtain ⟨q,HI⟩:=hrel
  obtain ⟨L1,hL1,hat⟩:=HI.out.2.2.2.1
  obtain ⟨H1,oS1,ob1,es1,li1,rS1⟩:=L1
  obtain rfl:H1=L.H:=hL1
  have c5:wr.cell? ⟨L.H,5,none⟩=some (.int .i64 (q.state:Int)):=hat.hp.cell (j:=5) (by omega)
  by_cases hs0:q.state=0
  ·have hne:((q.state:Int) !=0)=false:=by simp [hs0]
   have hq:q=h.finish:=by rw [<-HI.out.2.1,Hp.EZ q hs0]
   have hg2:=HI.out.2.2.1
   have HB:=ah (mQ hat hg2.s hg2.i.zero (fun n hn=>by obtain ⟨o,e⟩:=Hp.ES (hg2.i.ls n (.inl hn));exact Hp.Es e) (fun n hn=>by obtain ⟨o,e⟩:=Hp.ES (hg2.i.ls n (.inr (.inl hn)));exact Hp.Es e))
   have HGB:=ah (hg2.begin hs0)
   have HFU:Hq (h.full=q.begin.finish):=ah (by unfold Hp.full;rw [hq])
   have HK1:=ah HI.out.2.2.2.2
   clear hat hs0 hq hg2 HI
   go_wp2_with fail
   refine HB.o.mono ?_
   rintro e9 w2 ⟨rfl,L2,hl2,ha2,hk2⟩
   have H2:=ah (And.intro hl2 (And.intro ha2 (HK1.o.trans hk2)))
   clear hl2 ha2 hk2 HB
   go_wp2
   go_loopg [] q.begin.phi (fun m wr=>∃ p:Hp,Hq (m=p.phi/\p.finish=q.begin.finish/\Gd p/\(∃ L',L'.H=L.H/\JU base S p L' wr)/\Keeps w wr S))
   case atStart=>exact ⟨q.begin,rfl,rfl,HGB.o,⟨L2,H2.o.1,H2.o.2.1⟩,H2.o.2.2⟩
   case round=>
    obtain ⟨p,HJ⟩:=hrel
    obtain ⟨L3,hL3,hat3⟩:=HJ.o.2.2.2.1
    obtain ⟨H3,oS3,ob3,es3,li3,rS3⟩:=L3
    obtain rfl:H3=L.H:=hL3
    have d5:wr.cell? ⟨L.H,5,none⟩=some (.int .i64 (p.state:Int)):=hat3.hp.cell (j:=5) (by omega)
    by_cases sJ:p.state=0
    ·have hne2:((p.state:Int) !=0)=false:=by simp [sJ]
     have HPF:Hq (h.full=p):=ah (by rw [HFU.o,<-HJ.o.2.1,Hp.EZ p sJ])
     have HT:=ah hat3
     clear hat3 sJ
     go_wp2
     go_end0
     exact ⟨rfl,⟨L.H,oS3,ob3,es3,li3,rS3⟩,rfl,by rw [HPF.o];exact HT.o,HJ.o.2.2.2.2⟩
    ·have hne2:((p.state:Int) !=0)=true:=by simp;omega
     have HSP:=ah (qL HJ.o.2.2.1.i sJ)
     have HST:=ah (iC hat3 HJ.o.2.2.1 1073741824 (by omega))
     clear hat3 sJ
     go_wp2_with fail
     refine HST.o.mono ?_
     rintro e9 w5 ⟨rfl,L5,hl5,ha5,hk5⟩
     have H5:=ah (And.intro hl5 (And.intro ha5 hk5))
     clear hl5 ha5 hk5 HST
     go_wp2
     go_roundg (Hp.step 1073741824 p).phi
     case rel=>exact ⟨Hp.step 1073741824 p,rfl,HSP.o.2.trans HJ.o.2.1,HJ.o.2.2.1.step,⟨L5,H5.o.1,H5.o.2.1⟩,HJ.o.2.2.2.2.trans H5.o.2.2⟩
     case measure=>
      have:=HJ.o.1
      have:=HSP.o.1
      omega
  ·have hne:((q.state:Int) !=0)=true:=by simp;omega
   have HSP:=ah (qL HI.out.2.2.1.i hs0)
   have HST:=ah (iC hat HI.out.2.2.1 1073741824 (by omega))
   clear hat hs0
   go_wp2_with fail
   refine HST.o.mono ?_
   rintro e9 w5 ⟨rfl,L5,hl5,ha5,hk5⟩
   have H5:=ah (And.intro hl5 (And.intro ha5 hk5))
   clear hl5 ha5 hk5 HST
   go_wp2
   go_roundg (Hp.step 1073741824 q).phi
   case rel=>exact ⟨Hp.step 1073741824 q,rfl,HSP.o.2.trans HI.out.2.1,HI.out.2.2.1.step,⟨L5,H5.o.1,H5.o.2.1⟩,HI.out.2.2.2.2.trans H5.o.2.2⟩
   case measure=>
    have:=HI.out.1
    have:=HSP.o.1
    omega
theorem yL {L:SM} (a:JU base S h L w) (g:Gd h):
 Calls Tryz.prog 43 #[.pointer (some ⟨L.H,0,none⟩)] w fun e w'=>e=.returned (.tuple #[])/\∃ L',L'.H=L.H/\JU base S h.Fe L' w'/\Keeps w w' S:=by
 have c16:w.cell? ⟨L.H,16,none⟩=some (.bool false):=a.hp.cell (j:=16) (by omega)
 have c5:w.cell? ⟨L.H,5,none⟩=some (.int .i64 (h.state:Int)):=a.hp.cell (j:=5) (by omega)
 by_cases hs:h.state=0
 ·have hse:((h.state:Int)==0)=true:=by simp [hs]
  have c1:w.cell? ⟨L.H,1,none⟩=some (.int .i64 (h.bytes:Int)):=a.hp.cell (j:=1) (by omega)
  have c3:w.cell? ⟨L.H,3,none⟩=some (.int .i64 (h.limit:Int)):=a.hp.cell (j:=3) (by omega)
  by_cases hb:h.bytes<h.limit
  ·have hdec:(h.bytes:Int)<(h.limit:Int):=by omega
   have HP:Hq (h.Fe=h):=ah (by unfold Hp.Fe;rw [if_pos hs,if_pos hb])
   have HA:=ah a
   clear a g hs hb
   go_enter Tryz.func43,Tryz.ntmps43
   go_wp2_with fail
   go_quiet (fail)
   have HB:=ah (ay (Below.refl w.heap.size w) nq)
   go_wp2
   ((try simp only [Exit.inBlock,Exit.then]);refine bodyPost_ret (results_none rfl _ _ _) rfl ?_)
   exact ⟨rfl,L,rfl,by rw [HP.o];exact HA.o.low HB.o,Keeps.of HB.o (Nat.le_refl _) S⟩
  ·have hdec:¬ (h.bytes:Int)<(h.limit:Int):=by omega
   have HP:Hq (h.Fe=Hp.step 64 { h with D6:=0 }):=ah (by unfold Hp.Fe;rw [if_pos hs,if_neg hb])
   have HA:=ah a
   have HG:=ah (g.F9 0 (by omega))
   clear a g hs hb
   go_enter Tryz.func43,Tryz.ntmps43
   go_wp2_with fail
   go_quiet (fail)
   have HB:=ah (ay (Below.refl w.heap.size w) nq)
   have HA2:=ah (HA.o.low HB.o)
   have HK2:=ah (Keeps.of HB.o (Nat.le_refl _) S)
   generalize w.drewN nq=w2 at *
   clear c16 c5 c1 c3 HB
   have c4:=HA2.o.hp.cell (j:=4) (by omega)
   have z4:=HA2.o.hp.Jv 4
   have HA3:=ah (HA2.o.num (h':={ h with D6:=0 }) 4 (.int .i64 0) (by decide) rfl ⟨rfl,rfl,rfl,rfl,rfl,rfl,rfl⟩ rfl (bg _ rfl rfl rfl rfl rfl rfl rfl rfl rfl rfl rfl rfl rfl rfl rfl rfl rfl rfl))
   go_upto_region 4 with (fail)
   generalize w2.setCell ⟨L.H,4,none⟩ (.int .i64 0)=w3 at *
   have c17:w3.cell? ⟨L.H,17,none⟩=some (.int .i64 64):=HA3.o.1.hp.cell (j:=17) (by omega)
   have HST:=ah (iC HA3.o.1 HG.o 64 (by omega))
   clear c4 z4
   go_wp2_with fail
   refine HST.o.mono ?_
   rintro e9 w5 ⟨rfl,L5,hl5,ha5,hk5⟩
   have H5:=ah (And.intro hl5 (And.intro ha5 hk5))
   clear hl5 ha5 hk5 HST
   go_wp2
   ((try simp only [Exit.inBlock,Exit.then]);refine bodyPost_ret (results_none rfl _ _ _) rfl ?_)
   exact ⟨rfl,L5,H5.o.1,by rw [HP.o];exact H5.o.2.1,(HK2.o.trans HA3.o.2).trans H5.o.2.2⟩
 ·have hse:((h.state:Int)==0)=false:=by simp;omega
  have HP:Hq (h.Fe=h.ED):=ah (by unfold Hp.Fe;rw [if_neg hs])
  have HA:=ah a
  have HG:=ah g
  clear a g hs
  go_enter Tryz.func43,Tryz.ntmps43
  go_wp2
  go_loopg [] h.D6 (fun m wr=>∃ q:Hp,Hq (m=q.D6/\q.ED=h.ED/\Gd q/\(∃ L',L'.H=L.H/\JU base S q L' wr)/\Keeps w wr S))
  case atStart=>exact ⟨h,rfl,rfl,HG.o,⟨L,rfl,HA.o⟩,Keeps.refl _ _⟩
  case round=>
   clear HA c16 c5
   obtain ⟨q,HI⟩:=hrel
   obtain ⟨L1,hL1,hat⟩:=HI.out.2.2.2.1
   obtain ⟨H1,oS1,ob1,es1,li1,rS1⟩:=L1
   obtain rfl:H1=L.H:=hL1
   have c5:wr.cell? ⟨L.H,5,none⟩=some (.int .i64 (q.state:Int)):=hat.hp.cell (j:=5) (by omega)
   have c4:wr.cell? ⟨L.H,4,none⟩=some (.int .i64 (q.D6:Int)):=hat.hp.cell (j:=4) (by omega)
   have z4:=hat.hp.Jv 4
   have hcr:=HI.out.2.2.1.s.cr
   by_cases hc:256<=q.D6
   ·have hci:(q.D6:Int) ≥ 256:=by omega
    by_cases hs0:q.state=0
    ·have hne:((q.state:Int) !=0)=false:=by simp [hs0]
     have HPE:=ah (Hp.ET q (fun x=>x.2 hs0))
     have HT:=ah hat
     clear hat hs0
     go_wp2
     go_end0
     exact ⟨rfl,⟨L.H,oS1,ob1,es1,li1,rS1⟩,rfl,by rw [HP.o,<-HI.out.2.1,HPE.o];exact HT.o,HI.out.2.2.2.2⟩
    ·have hne:((q.state:Int) !=0)=true:=by simp;omega
     have HPO:=ah (Hp.FY q hc hs0)
     have HA3:=ah (hat.num (h':={ q with D6:=q.D6-256 }) 4 (.int .i64 ((q.D6:Int)-256)) (by decide) rfl ⟨rfl,rfl,rfl,rfl,rfl,rfl,rfl⟩ rfl (bg _ rfl rfl rfl rfl (congrArg (Value.int .i64) (by show (q.D6:Int)-256=((q.D6-256:Nat):Int);omega)) rfl rfl rfl rfl rfl rfl rfl rfl rfl rfl rfl rfl rfl))
     have HGC:=ah (HI.out.2.2.1.F9 (q.D6-256) (by omega))
     clear hat hs0
     go_upto_region 7 with (fail)
     generalize wr.setCell ⟨L.H,4,none⟩ (.int .i64 ((q.D6:Int)-256))=w3 at *
     have c17:w3.cell? ⟨L.H,17,none⟩=some (.int .i64 64):=HA3.o.1.hp.cell (j:=17) (by omega)
     have HST:=ah (iC HA3.o.1 HGC.o 64 (by omega))
     clear c4 z4 c5
     go_wp2_with fail
     refine HST.o.mono ?_
     rintro e9 w5 ⟨rfl,L5,hl5,ha5,hk5⟩
     have H5:=ah (And.intro hl5 (And.intro ha5 hk5))
     clear hl5 ha5 hk5 HST
     go_wp2
     go_roundg (Hp.step 64 { q with D6:=q.D6-256 }).D6
     case rel=>exact ⟨Hp.step 64 { q with D6:=q.D6-256 },rfl,HPO.o.symm.trans HI.out.2.1,HGC.o.step,⟨L5,H5.o.1,H5.o.2.1⟩,(HI.out.2.2.2.2.trans HA3.o.2).trans H5.o.2.2⟩
     case measure=>
      have h1:=HI.out.1
      have h2:=Hp.Fq 64 { q with D6:=q.D6-256 }
      simp only at h2
      omega
   ·have hci:¬ (q.D6:Int) ≥ 256:=by omega
    have HPE:=ah (Hp.ET q (fun x=>hc x.1))
    have HT:=ah hat
    clear hat
    go_wp2
    go_end0
    exact ⟨rfl,⟨L.H,oS1,ob1,es1,li1,rS1⟩,rfl,by rw [HP.o,<-HI.out.2.1,HPE.o];exact HT.o,HI.out.2.2.2.2⟩
end
section
variable {S:Nat->Prop} {base n:Nat} {h:Hp} {o:Ob} {w:World}
theorem qI {L:SM} (a:JU base S h L w) (n:Nat) (hn:n<=1000) (h1:h.bytes<=300000) (h2:h.D6<=300000):
 Calls Tryz.prog 57 #[.pointer (some ⟨L.H,0,none⟩),.int .i64 (n:Int)] w fun e w'=>e=.returned (.tuple #[])/\JU base S { h with bytes:=h.bytes+n,D6:=h.D6+n } L w'/\Keeps w w' S:=by
 have c1:w.cell? ⟨L.H,1,none⟩=some (.int .i64 (h.bytes:Int)):=a.hp.cell (j:=1) (by omega)
 have z1:=a.hp.Jv 1
 have HA1:=ah (a.num (h':={ h with bytes:=h.bytes+n }) 1 (.int .i64 ((h.bytes:Int)+(n:Int))) (by decide) rfl ⟨rfl,rfl,rfl,rfl,rfl,rfl,rfl⟩ rfl (bg _ rfl rfl rfl rfl rfl rfl rfl rfl rfl rfl rfl rfl rfl rfl rfl rfl rfl rfl))
 clear a
 go_enter Tryz.func57,Tryz.ntmps57
 go_upto_region 1 with (fail)
 generalize w.setCell ⟨L.H,1,none⟩ (.int .i64 ((h.bytes:Int)+(n:Int)))=w1 at *
 clear c1 z1
 have c4:w1.cell? ⟨L.H,4,none⟩=some (.int .i64 (h.D6:Int)):=HA1.o.1.hp.cell (j:=4) (by omega)
 have z4:=HA1.o.1.hp.Jv 4
 have HA2:=ah (HA1.o.1.num (h':={ h with bytes:=h.bytes+n,D6:=h.D6+n }) 4 (.int .i64 ((h.D6:Int)+(n:Int))) (by decide) rfl ⟨rfl,rfl,rfl,rfl,rfl,rfl,rfl⟩ rfl (bg _ rfl rfl rfl rfl rfl rfl rfl rfl rfl rfl rfl rfl rfl rfl rfl rfl rfl rfl))
 go_wp2
 go_end0
 exact ⟨rfl,HA2.o.1,HA1.o.2.trans HA2.o.2⟩
theorem qN {L:SM} (a:JU base S h L w) (hp:1<=h.objs.length) (hl9:h.objs.length<=5001) (hag:h.again.length<=20000) (ho:h.ob n=some o):
 Calls Tryz.prog 62 #[.pointer (some ⟨L.H,0,none⟩),.int .i64 (n:Int)] w fun e w'=>e=.returned (.tuple #[])/\∃ L',Ln 8 L L'/\JU base S (h.back n) L' w'/\Keeps w w' S:=by
 have hn:=Hp.Es ho
 obtain ⟨go,capo,hoS,hcapo,hcell⟩:=a.slot hp
 have hcn:=hcell n hn
 have c0:w.cell? ⟨L.H,0,none⟩=some (.slice (some ⟨go,0,none⟩) h.objs.length capo):=by rw [<-hoS];exact a.hp.cell (j:=0) (by omega)
 obtain ⟨r0,hr0⟩:=a.ob n o ho
 have c1:w.cell? ⟨L.ob n,1,none⟩=some (.int .i64 (o.col:Int)):=hr0.cell (j:=1) (by omega)
 have z1:=hr0.Jv 1
 have c5:w.cell? ⟨L.H,5,none⟩=some (.int .i64 (h.state:Int)):=a.hp.cell (j:=5) (by omega)
 have hni:(n:Int)<(h.objs.length:Int):=by omega
 have HA:=ah a
 have HO:=ah ho
 by_cases hc:o.col=3
 ·have hce:((o.col:Int)==3)=true:=by simp [hc]
  by_cases hs:h.state=1
  ·have hse:((h.state:Int)==1)=true:=by simp [hs]
   have HBK:Hq (h.back n=bL (h.upd n fun o=>{ o with col:=2 }) 8 (eX (h.upd n fun o=>{ o with col:=2 }) 8++[n])):=ah (by unfold Hp.back;rw [ho];simp only;rw [if_pos ⟨hc,hs⟩];rfl)
   have HB:=ah (a.JE n 1 (.int .i64 2) (fun o=>{ o with col:=2 }) (by decide) ho ⟨rfl,rfl⟩ (fun r i=>by
    unfold jw
    by_cases x:i=1
    ·subst x;simp
    ·simp [x]))
   have hgl:(eX (h.upd n fun o=>{ o with col:=2 }) 8).length<=1000000:=by
    show h.again.length<=_
    omega
   clear a ho hr0 hcell hoS hc hs
   go_enter Tryz.func62,Tryz.ntmps62
   go_upto_region 3 with (fail)
   generalize w.setCell ⟨L.ob n,1,none⟩ (.int .i64 2)=w5 at *
   obtain ⟨ag,cg,hgv⟩:=aF (HB.o.1.li 8 (by simp [cB]))
   have c8:w5.cell? ⟨L.H,8,none⟩=some (.slice ag h.again.length cg):=by
    have:=HB.o.1.hp.cell (j:=8) (by omega)
    rw [this]
    exact congrArg some hgv
   have HG:=ah hgv
   clear hgv c0 c1 z1 c5 hcn
   go_wp2_with (first
    |(at_builtin;refine HB.o.1.app 8 (by simp [cB]) n rfl _ _ rfl HG.o.symm rfl hgl ?_;intro gq cq w1 hrow1 hat1 hk1;have cR:=hrow1.cell (j:=8) (by omega);have zR:=hrow1.Jv 8;have H1:=ah hat1;have K1:=ah hk1;clear hrow1 hat1 hk1)
    |go_in)
   go_end0
   have h9:=H1.o
   refine ⟨rfl,_,?_,by rw [HBK.o];exact h9,HB.o.2.trans K1.o⟩
   exact ⟨rfl,rfl,rfl,rfl,rfl,fun j hj=>by simp [hj]⟩
  ·have hse:((h.state:Int)==1)=false:=by simp;omega
   have HBK:Hq (h.back n=h):=ah (by unfold Hp.back;rw [ho];simp only;rw [if_neg (fun x=>hs x.2)])
   clear a ho hr0 hcell hoS hc hs
   go_enter Tryz.func62,Tryz.ntmps62
   go_wp2
   go_end0
   exact ⟨rfl,L,⟨rfl,rfl,rfl,rfl,rfl,fun _ _=>rfl⟩,by rw [HBK.o];exact HA.o,Keeps.refl _ _⟩
 ·have hce:((o.col:Int)==3)=false:=by simp;omega
  have HBK:Hq (h.back n=h):=ah (by unfold Hp.back;rw [ho];simp only;rw [if_neg (fun x=>hc x.1)])
  clear a ho hr0 hcell hoS hc
  go_enter Tryz.func62,Tryz.ntmps62
  go_wp2
  go_end0
  exact ⟨rfl,L,⟨rfl,rfl,rfl,rfl,rfl,fun _ _=>rfl⟩,by rw [HBK.o];exact HA.o,Keeps.refl _ _⟩
end
section
variable {S:Nat->Prop} {base j n:Nat} {e:En} {es:List En} {h:Hp} {o:Ob} {w:World}
def fD (es:List En) (k:HV):Int:=match jJ es k with
 |some i=>(i:Int)
 |none=> -1
theorem oz (wr:World) (v:HV):aD (wr.alloc (.cells #[.int .i64 (vk v),.int .i64 (vi v),.int .u64 0,.string ByteArray.empty,.int .i64 (vr v)] 95)) 95 wr.heap.size 5 (fun j=>(uL v).getD j (.bool false)):=by
 have h:=aD.mk' wr 95 #[.int .i64 (vk v),.int .i64 (vi v),.int .u64 0,.string ByteArray.empty,.int .i64 (vr v)]
 refine aD.congr (show aD _ _ _ 5 _ from h) (fun j hj=>?_)
 have:j=0∨j=1∨j=2∨j=3∨j=4:=by omega
 rcases this with rfl|rfl|rfl|rfl|rfl<;>rfl
theorem gH (a b:HV):(a==b)=decide (a=b):=by
 cases a with
 |none=>cases b<;>rfl
 |some x=>cases b with
  |none=>cases x<;>rfl
  |some y=>
   cases x with
   |inl m=>cases y with
    |inl n=>show (m==n)=_;rw [Bool.eq_iff_iff];simp
    |inr n=>show false=_;simp
   |inr m=>cases y with
    |inl n=>show false=_;simp
    |inr n=>show (m==n)=_;rw [Bool.eq_iff_iff];simp
theorem f_ {k:HV} (he:es[j]?=some e) (h:∀ x∈es.take j,x.1≠k) (hk:¬ e.1=k):∀ x∈es.take (j+1),x.1≠k:=by
 intro x hx
 rw [List.take_add_one,he] at hx
 simp only [Option.toList_some,List.mem_append,List.mem_singleton] at hx
 rcases hx with hx|rfl
 ·exact h x hx
 ·exact hk
theorem iP {k:HV} (he:es[j]?=some e) (hk:e.1=k) (h:∀ x∈es.take j,x.1≠k):fD es k=(j:Int):=by
 have:jJ es k=some j:=by
  unfold jJ
  rw [List.findIdx?_eq_some_iff_getElem]
  obtain ⟨hj,rfl⟩:=List.getElem?_eq_some_iff.mp he
  refine ⟨hj,by rw [gH];simpa using hk,fun i hi=>?_⟩
  have:=h es[i] (List.mem_take_iff_getElem.mpr ⟨i,by omega,rfl⟩)
  simpa [gH] using this
 unfold fD
 rw [this]
theorem jC {k:HV} (h:∀ x∈es,x.1≠k):fD es k= -1:=by
 have:jJ es k=none:=by
  unfold jJ
  rw [List.findIdx?_eq_none_iff]
  intro x hx
  simpa [gH] using h x hx
 unfold fD
 rw [this]
theorem lX {a b:HV} (h1:vk a=vk b) (h2:vi a=vi b) (h3:(vr a:Int)=(vr b:Int)):a=b:=by
 cases a with
 |none=>cases b with
  |none=>rfl
  |some y=>cases y<;>simp [vk] at h1
 |some x=>cases b with
  |none=>cases x<;>simp [vk] at h1
  |some y=>cases x<;>cases y<;>simp_all [vk,vi,vr]<;>omega
theorem xC {L:SM} (a:JU base S h L w) (ho:h.ob n=some o) (he9:o.es.length<=5000) (k:HV) (hk:vk k≠2):
 Calls Tryz.prog 60 #[.pointer (some ⟨L.ob n,0,none⟩),.agg #[.int .i64 (vk k),.int .i64 (vi k),.int .u64 0,.string ByteArray.empty,.int .i64 (vr k)]] w fun e w'=>e=.returned (.int .i64 (fD o.es k))/\Below w.heap.size w w':=by
 obtain ⟨A,cap,hev,hcap,hent⟩:=a.ents ho
 obtain ⟨r0,hr0⟩:=a.ob n o ho
 have c5:w.cell? ⟨L.ob n,5,none⟩=some (.slice A o.es.length cap):=by rw [<-hev];exact hr0.cell (j:=5) (by omega)
 have hb1:=aJ w (.cells #[.int .i64 (vk k),.int .i64 (vi k),.int .u64 0,.string ByteArray.empty,.int .i64 (vr k)] 95)
 have hO:=hr0.lt
 have d5:=(hb1.cell (p:=⟨L.ob n,5,none⟩) hO).trans c5
 have HX:=ah (oz w k)
 have hk2:(vk k==2)=false:=by simpa using hk
 have HA:=ah a
 have HO:=ah ho
 have HEV:=ah hev
 have HB1:=ah hb1
 clear a ho hev hent hr0 hb1 c5
 go_enter Tryz.func60,Tryz.ntmps60
 go_upto_region 1 with (fail)
 generalize w.alloc (.cells #[.int .i64 (vk k),.int .i64 (vi k),.int .u64 0,.string ByteArray.empty,.int .i64 (vr k)] 95)=w3 at *
 generalize hX:w.heap.size=X at *
 have x0:w3.cell? ⟨X,0,none⟩=some (.int .i64 (vk k)):=HX.o.cell (j:=0) (by omega)
 go_wp2_with fail
 go_quiet (fail)
 have HB2:=ah (ay (Below.refl w3.heap.size w3) nq)
 have HXR:=ah (HX.o.keep (Keeps.of HB2.o (Nat.le_refl _) (fun _=>False)) (fun x=>x))
 have d5':=(HB2.o.cell (p:=⟨L.ob n,5,none⟩) (Nat.lt_of_lt_of_le hO (hX ▸ HB1.o.size))).trans d5
 generalize w3.drewN nq=w4 at *
 have HW:=ah (show Below w.heap.size w w4 from hX ▸ (HB1.o.trans (HB2.o.mono (hX ▸ HB1.o.size))))
 have HA4:=ah ((HA.o.low (hX ▸ HB1.o)).low HB2.o)
 clear HA HX HB1 HB2 d5 x0
 go_wp2
 go_loopw [47,5,6] (fun jv _ _ ws=>∃ j:Nat,j<=o.es.length/\jv=.int .i64 j/\Hq ((∀ e∈o.es.take j,e.1≠k)/\Below w4.heap.size w4 ws)) (fun jv _ _ _=>o.es.length-aU jv)
 case atStart=>exact ⟨0,by omega,rfl,by simp,Below.refl _ _⟩
 case round=>
  obtain ⟨j,hj9,rfl,HJ⟩:=hrel
  by_cases hjn:j<o.es.length
  ·obtain ⟨e,he⟩:∃ e,o.es[j]?=some e:=⟨_,List.getElem?_eq_getElem hjn⟩
   have HAR:=ah (HA4.o.low HJ.o.2)
   obtain ⟨A3,cap3,hev2,hcap2,hent2⟩:=HAR.o.ents HO.o
   have:A3=A/\cap3=cap:=by
    have h9:=hev2.symm.trans HEV.o
    simp only [Value.slice.injEq] at h9
    exact ⟨h9.1,h9.2.2⟩
   obtain ⟨rfl,rfl⟩:=this
   obtain ⟨g2,rfl,hg2,hcells⟩:=hent2 j e he
   have d0:=hcells 0 _ rfl
   have d1:=hcells 1 _ rfl
   have d2:=hcells 2 _ rfl
   have d3:=hcells 3 _ rfl
   have d4:=hcells 4 _ rfl
   have d5:=hcells 5 _ rfl
   have d6:=hcells 6 _ rfl
   have d7:=hcells 7 _ rfl
   have d8:=hcells 8 _ rfl
   have d9:=hcells 9 _ rfl
   simp only [Nat.add_zero] at d0
   have HXW:=ah (HXR.o.keep (Keeps.of HJ.o.2 (Nat.le_refl _) (fun _=>False)) (fun x=>x))
   have HKW:=ah (HXW.o.keep (Keeps.of (aJ wr (.cells #[.int .i64 (vk e.1),.int .i64 (vi e.1),.int .u64 0,.string ByteArray.empty,.int .i64 (vr e.1),.int .i64 (vk e.2),.int .i64 (vi e.2),.int .u64 0,.string ByteArray.empty,.int .i64 (vr e.2)] 122)) (Nat.le_refl _) (fun _=>False)) (fun x=>x))
   have HB5:=ah (HJ.o.2.trans ((aJ wr (.cells #[.int .i64 (vk e.1),.int .i64 (vi e.1),.int .u64 0,.string ByteArray.empty,.int .i64 (vr e.1),.int .i64 (vk e.2),.int .i64 (vi e.2),.int .u64 0,.string ByteArray.empty,.int .i64 (vr e.2)] 122)).mono HJ.o.2.size))
   have HX:=ah (jR wr e)
   have HEE:=ah he
   clear hev2 hent2 hcells he
   go_upto_region 6 with (fail)
   generalize wr.alloc (.cells #[.int .i64 (vk e.1),.int .i64 (vi e.1),.int .u64 0,.string ByteArray.empty,.int .i64 (vr e.1),.int .i64 (vk e.2),.int .i64 (vi e.2),.int .u64 0,.string ByteArray.empty,.int .i64 (vr e.2)] 122)=w5 at *
   generalize wr.heap.size=Y at *
   have x0:w5.cell? ⟨Y,0,none⟩=some (.int .i64 (vk e.1)):=HX.o.cell (j:=0) (by omega)
   have x1:w5.cell? ⟨Y,1,none⟩=some (.int .i64 (vi e.1)):=HX.o.cell (j:=1) (by omega)
   have x2:w5.cell? ⟨Y,2,none⟩=some (.int .u64 0):=HX.o.cell (j:=2) (by omega)
   have x3:w5.cell? ⟨Y,3,none⟩=some (.string ByteArray.empty):=HX.o.cell (j:=3) (by omega)
   have x4:w5.cell? ⟨Y,4,none⟩=some (.int .i64 (vr e.1)):=HX.o.cell (j:=4) (by omega)
   have y0:w5.cell? ⟨X,0,none⟩=some (.int .i64 (vk k)):=HKW.o.cell (j:=0) (by omega)
   have y1:w5.cell? ⟨X,1,none⟩=some (.int .i64 (vi k)):=HKW.o.cell (j:=1) (by omega)
   have y2:w5.cell? ⟨X,2,none⟩=some (.int .u64 0):=HKW.o.cell (j:=2) (by omega)
   have y3:w5.cell? ⟨X,3,none⟩=some (.string ByteArray.empty):=HKW.o.cell (j:=3) (by omega)
   have y4:w5.cell? ⟨X,4,none⟩=some (.int .i64 (vr k)):=HKW.o.cell (j:=4) (by omega)
   clear d0 d1 d2 d3 d4 d5 d6 d7 d8 d9
   by_cases hke:e.1=k
   ·rw [hke] at x0 x1 x4
    have HKE:=ah hke
    clear hke
    go_wp2
    go_ret
    have hf:fD o.es k=(j:Int):=iP HEE.o HKE.o HJ.o.1
    exact ⟨by rw [hf];rfl,HW.o.trans (HB5.o.mono HW.o.size)⟩
   ·have HKE:=ah hke
    clear hke
    go_wp2
    any_goals go_ret;exact absurd (lX (by simp_all) (by simp_all) (by simp_all)) HKE.o
    all_goals
     refine ⟨⟨j+1,by omega,by simp,?_,HB5.o⟩,by simp [aU];omega⟩
     exact f_ HEE.o HJ.o.1 HKE.o
  ·clear HXR HA4
   have hje:j=o.es.length:=by omega
   subst hje
   go_wp2
   go_ret
   have hf:fD o.es k= -1:=jC (fun e he=>HJ.o.1 e (by rw [List.take_length];exact he))
   exact ⟨by rw [hf];rfl,HW.o.trans (HJ.o.2.mono HW.o.size)⟩
end
end Go.Proofs.YtedpifhlffcmkaaGreatDoor
