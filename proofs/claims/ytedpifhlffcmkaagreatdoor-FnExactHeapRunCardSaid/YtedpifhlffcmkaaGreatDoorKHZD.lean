import Derived.Test.YtedpifhlffcmkaaGreatDoorKHYY
import Derived.Test.YtedpifhlffcmkaaGreatDoorKHSP
namespace Go.Proofs.YtedpifhlffcmkaaGreatDoor
open Go Go.RowKit
set_option maxHeartbeats 6400000
set_option maxRecDepth 100000
set_option linter.unusedVariables false
section
variable {G:Gh} {L:PM} {S:Nat->Prop} {base:Nat} {h:Hp} {w:World}
structure PR (h:Hp) (x y:List Nat) (G:Gh):Prop where
 s1:h.state=1->x=h.weak/\y=h.D8/\G.ag=h.again
 s2:h.state=2->Jm G h h.D7
 s0:h.state≠2->JO G h
 ol:G.Jt.length<=h.objs.length
def PS (base:Nat) (S:Nat->Prop) (h:Hp) (L:PM) (w:World):Prop:=∃ x y G,JR base S (h.wk x y) G L w/\PR h x y G
theorem PS.low {base:Nat} {S:Nat->Prop} {h:Hp} {L:PM} {w w':World} (p:PS base S h L w) (k:Below w.heap.size w w'):PS base S h L w':=by
 obtain ⟨x,y,G,a,r⟩:=p
 exact ⟨x,y,G,a.low k,r⟩
theorem PS.out {base:Nat} {S:Nat->Prop} {h:Hp} {L:PM} {w w':World} (p:PS base S h L w) (k:Keeps w w' (fun b=>¬ S b)):PS base S h L w':=by
 obtain ⟨x,y,G,a,r⟩:=p
 exact ⟨x,y,G,a.out k,r⟩
theorem PS.cells (p:PS base S h L w):w.cell? ⟨L.H,0,none⟩=some (.int .i64 (h.state:Int))/\w.cell? ⟨L.H,2,none⟩=some (.int .i64 ((h.objs.length:Int)-1))/\w.cell? ⟨L.H,3,none⟩=some (.int .i64 (h.live:Int))/\w.cell? ⟨L.H,4,none⟩=some (.int .i64 (h.bytes:Int))/\w.cell? ⟨L.H,5,none⟩=some (.int .i64 (h.D6:Int))/\w.cell? ⟨L.H,6,none⟩=some (.int .i64 (h.limit:Int))/\(∀ j,w.frozen? ⟨L.H,j,none⟩=false)/\L.H<w.heap.size:=by
 obtain ⟨x,y,G,a,r⟩:=p
 exact ⟨a.hp.cell (j:=0) (by omega),a.hp.cell (j:=2) (by omega),a.hp.cell (j:=3) (by omega),a.hp.cell (j:=4) (by omega),a.hp.cell (j:=5) (by omega),a.hp.cell (j:=6) (by omega),fun j=>a.hp.Jv j,a.hp.lt⟩
theorem PS.F9 (p:PS base S h L w) (c:Nat):PS base S { h with D6:=c } L (w.setCell ⟨L.H,5,none⟩ (.int .i64 (c:Int)))/\Keeps w (w.setCell ⟨L.H,5,none⟩ (.int .i64 (c:Int))) S:=by
 obtain ⟨x,y,G,a,r⟩:=p
 have:=a.num (h':=Hp.wk { h with D6:=c } x y) (G':=G) 5 (.int .i64 (c:Int)) (by decide) (fun _=>rfl) ⟨rfl,rfl,rfl,rfl,rfl,rfl,rfl⟩ ⟨rfl,rfl⟩ (aS _ rfl rfl rfl rfl rfl rfl rfl rfl rfl rfl rfl rfl rfl rfl rfl rfl rfl rfl rfl)
 exact ⟨⟨x,y,G,this.1,r.s1,fun e=>⟨(r.s2 e).ks,(r.s2 e).sl,(r.s2 e).ku,(r.s2 e).kl,(r.s2 e).du,(r.s2 e).dl⟩,fun e=>(r.s0 e).of (fun _=>Iff.rfl),r.ol⟩,this.2⟩
theorem PS.JY (p:PS base S h L w) (hs:h.state=1):∃ G,JR base S h G L w/\JO G h/\G.ag=h.again/\G.Jt.length<=h.objs.length:=by
 obtain ⟨x,y,G,a,r⟩:=p
 obtain ⟨rfl,rfl,e⟩:=r.s1 hs
 exact ⟨G,a,r.s0 (by omega),e,r.ol⟩
theorem PS.mk1 (a:JR base S h G L w) (hs:h.state=1) (g:JO G h) (e:G.ag=h.again) (ol:G.Jt.length<=h.objs.length):PS base S h L w:=
 ⟨h.weak,h.D8,G,a,fun _=>⟨rfl,rfl,e⟩,fun c=>by omega,fun _=>g,ol⟩
theorem m_ (h:Hp) (n:Nat):h.atomic.Lv n↔h.Lv n:=
 (show h.atomic.Lv n↔h.JY.at2.at3.at4.Jp.Lv n from Iff.rfl).trans (((J2.Jp _).lv n).trans (((J2.at4 _).lv n).trans (((JM.at3 _).lv n).trans ((mg h.JY n).trans ((iW.JY h).lv n)))))
theorem sI (h:Hp):h.atomic.objs.length=h.objs.length:=by
 show h.JY.at2.at3.at4.Jp.objs.length=_
 rw [(J2.Jp _).len,(J2.at4 _).len,(JM.at3 _).len,(dA h.JY).2.2.2.2.2.2.2]
 exact (iW.JY h).len
theorem pI (p:PS base S h L w) (gd:Gd h) (hs:h.state≠0):
 Calls Tryz.prog 112 #[.pointer (some ⟨L.H,0,none⟩)] w fun e w'=>e=.returned (.int .i64 (h.advance.2:Int))/\∃ L',JD L L'/\PS base S h.advance.1 L' w'/\Keeps w w' S:=by
 have c0:=p.cells.1
 by_cases h2:h.state=2
 ·obtain ⟨x,y,G,a,r⟩:=p
  have HSW:=ah (Ag a gd h2 (r.s2 h2) (by have:=r.ol;have:=gd.s.len;omega))
  have HAD:=ah (ny h2)
  have HLN:Hq (h.Ec.objs.length=h.objs.length/\G.Jt.length<=h.objs.length):=ah ⟨(gd.He h2).len,r.ol⟩
  have hse:((h.state:Int)==2)=true:=by simp [h2]
  clear a r gd h2 hs
  go_enter Tryz.func112,Tryz.ntmps112
  go_wp2_with fail
  refine HSW.o.mono ?_
  rintro e1 w1 ⟨rfl,L1,hl1,hg1,hk1⟩
  have H1:=ah (And.intro hl1 (And.intro hg1 hk1))
  clear hl1 hg1 hk1
  go_wp2
  go_ret
  rw [HAD.o]
  obtain ⟨hl1,⟨G1,b1,b2,b3,b4,b5,b6⟩,hk1⟩:=H1.o
  refine ⟨rfl,L1,hl1,⟨x,y,G1,b1,fun c=>?_,b2,fun c=>?_,?_⟩,hk1⟩
  ·exfalso
   have c':h.Ec.state=1:=c
   rcases b4 with d|d<;>omega
  ·rcases b4 with d|d
   ·exact absurd d c
   ·exact b3 d
  ·have:=HLN.o
   show G1.Jt.length<=h.Ec.objs.length
   omega
 ·have h1:h.state=1:=by have:=gd.i.st;omega
  obtain ⟨G,a,gl,hag,hol⟩:=p.JY h1
  have hse:((h.state:Int)==2)=false:=by simp;omega
  by_cases hg:h.grey=[]
  ·obtain ⟨A,cap,hv,-⟩:=a.EM (k:=11) (by simp [b_])
   rw [show dh h G 11=[] from hg] at hv
   have c11:w.cell? ⟨L.H,11,none⟩=some (.slice A 0 cap):=by
    have:=a.hp.cell (j:=11) (by omega)
    rw [this]
    exact congrArg some hv
   have HE:=ah (dF w L.H 11 A 0 cap c11)
   rw [show (((0:Nat):Int)==0)=true from rfl] at HE
   have HEN:=ah (wz a (gd.Jc h1) gl (by have:=gd.s.len;omega) hag)
   have HAD:=ah (nD h1 hg)
   have HSC:Hq (Jm { G with kept:=0,Ee:=0 } h.atomic h.atomic.D7/\G.Jt.length<=h.objs.length):=ah ⟨by
    refine ⟨Nat.le_refl _,Nat.zero_le _,by simp,fun n=>?_,by simpa using gl.up,fun n=>?_⟩
    ·show n∈G.Jt.take 0↔h.atomic.Lv n/\n<1
     rw [m_]
     constructor
     ·intro c;simp at c
     ·rintro ⟨⟨o,ho⟩,c⟩
      rw [show n=0 by omega,gd.i.zero] at ho
      cases ho
    ·show n∈G.Jt.drop 0↔h.atomic.Lv n/\1<=n
     rw [m_,List.drop_zero,gl.lv]
     refine ⟨fun c=>⟨c,?_⟩,fun c=>c.1⟩
     rcases Nat.eq_zero_or_pos n with d|d
     ·subst d
      obtain ⟨o,ho⟩:=c
      rw [gd.i.zero] at ho
      cases ho
     ·exact d,hol⟩
   clear a gl hag hol hv hg gd p h2
   go_enter Tryz.func112,Tryz.ntmps112
   go_wp2_with fail
   refine HE.o.mono ?_
   rintro e2 w2 ⟨rfl,rfl⟩
   go_wp2_with fail
   refine HEN.o.mono ?_
   rintro e3 w3 ⟨rfl,L1,hl1,hg1,hk1⟩
   have H1:=ah (And.intro hl1 (And.intro hg1 hk1))
   clear hl1 hg1 hk1
   go_wp2
   go_ret
   rw [HAD.o]
   obtain ⟨hl1,⟨x,y,b1⟩,hk1⟩:=H1.o
   refine ⟨rfl,L1,hl1,⟨x,y,{ G with kept:=0,Ee:=0 },b1,fun c=>?_,fun _=>HSC.o.1,fun c=>?_,?_⟩,hk1⟩
   ·exact absurd (show (2:Nat)=1 from c) (by decide)
   ·exact absurd rfl c
   ·show G.Jt.length<=h.atomic.objs.length
    rw [sI]
    exact HSC.o.2
  ·obtain ⟨gs,n,hgs⟩:∃ gs n,h.grey=gs++[n]:=⟨_,_,(List.dropLast_concat_getLast hg).symm⟩
   obtain ⟨g,cap,hv,hcap,hcn,hpat,hpk⟩:=a.pop (k:=11) (by simp [iZ]) hgs
   have c11:w.cell? ⟨L.H,11,none⟩=some (.slice (some ⟨g,0,none⟩) (gs.length+1) cap):=by
    have:=a.hp.cell (j:=11) (by omega)
    rw [this]
    exact congrArg some hv
   have kw:=(gd.Jc h1).k
   have hgl:gs.length<=20000:=by
    have:=kw.s.nu
    simp only [Hp.nu,Hp.mu,hgs,List.length_append,List.length_singleton] at this
    omega
   have HE:=ah (dF w L.H 11 (some ⟨g,0,none⟩) (gs.length+1) cap c11)
   rw [show (((gs.length+1:Nat):Int)==0)=false by simp;omega] at HE
   have HT:=ah (iR w L.H 11 g gs.length cap (L.tb n) c11 (a.hp.Jv 11) hcn (by omega) hcap)
   have HSC:=ah (nP hpat (kw.pop hgs).1 (kw.pop hgs).2.1 n (kw.pop hgs).2.2)
   rw [show fM h 11 gs={ h with grey:=gs } from rfl,<-Hp.F3 hgs] at HSC
   have HAD:=ah (nL h1 hg)
   have hmk:=JM.take h
   have HPR:Hq (h.take.1.state=1/\JO G h.take.1/\G.ag=h.take.1.again/\G.Jt.length<=h.take.1.objs.length):=ah ⟨hmk.state.trans h1,gl.of (fun m=>hmk.lv m),hag.trans hmk.again.symm,by rw [hmk.len];exact hol⟩
   have HPK:=ah hpk
   clear a gl hag hol hv hg gd p h2 hgs hpat hpk hcn kw hmk
   go_enter Tryz.func112,Tryz.ntmps112
   go_wp2_with fail
   refine HE.o.mono ?_
   rintro e2 w2 ⟨rfl,rfl⟩
   go_wp2_with fail
   refine HT.o.mono ?_
   rintro e3 w3 ⟨rfl,rfl⟩
   generalize w2.setCell ⟨L.H,11,none⟩ (.slice (some ⟨g,0,none⟩) gs.length cap)=w4 at *
   go_wp2_with fail
   refine HSC.o.mono ?_
   rintro e9 w5 ⟨rfl,L5,hl5,ha5,hk5⟩
   have H5:=ah (And.intro hl5 (And.intro ha5 hk5))
   clear hl5 ha5 hk5 HSC
   go_wp2
   go_ret
   rw [HAD.o]
   exact ⟨rfl,L5,⟨H5.o.1.H,H5.o.1.tb,H5.o.1.es,H5.o.1.mp⟩,PS.mk1 H5.o.2.1 HPR.o.1 HPR.o.2.1 HPR.o.2.2.1 HPR.o.2.2.2,HPK.o.trans H5.o.2.2⟩
end
section
variable {L:PM} {S:Nat->Prop} {base:Nat} {h:Hp} {w:World}
theorem BG (g:Gd h) (hs:h.state≠0):h.advance.2<=6000:=by
 unfold Hp.advance
 split
 ·exact (by decide:1<=6000)
 ·split
  ·exact (by decide:1<=6000)
  ·exact uh h g.s
theorem yI (h:Hp) (n:Nat):h.begin.Lv n↔h.Lv n:=(JM.lv (JM.alive h.Ev) n)
theorem uK (p:PS base S h L w) (gd:Gd h) (hs:h.state=0):
 Calls Tryz.prog 83 #[.pointer (some ⟨L.H,0,none⟩)] w fun e w'=>e=.returned (.tuple #[])/\∃ L',JD L L'/\PS base S h.begin L' w'/\Keeps w w' S:=by
 obtain ⟨x,y,G,a,r⟩:=p
 refine (sZ a gd.s (fun n hn=>Hp.ES (gd.i.ls n (by rcases hn with c|c;exact .inl c;exact .inr (.inl c))))).mono ?_
 rintro e w' ⟨rfl,L',hl,ha,hk⟩
 have hm:=JM.alive h.Ev
 exact ⟨rfl,L',hl,PS.mk1 ha (show h.begin.state=1 from hm.state) ⟨(r.s0 (by omega)).up,fun n=>((r.s0 (by omega)).lv n).trans (yI h n).symm⟩ (show []=h.begin.again from hm.again.symm) (by show G.Jt.length<=h.begin.objs.length;rw [show h.begin.objs.length=h.objs.length from hm.len];exact r.ol),hk⟩
theorem j4 (p:PS base S h L w) (g:Gd h) (u:Int) (hu: -10000<=u/\u<=1073741824):
 Calls Tryz.prog 81 #[.pointer (some ⟨L.H,0,none⟩),.int .i64 u] w fun e w'=>e=.returned (.tuple #[])/\∃ L',JD L L'/\PS base S (Hp.step u h) L' w'/\Keeps w w' S:=by
 have c0:=p.cells.1
 have HA:=ah p
 have HG:=ah g
 have HB:=ah (fun hs=>uK p g hs)
 clear p g
 go_enter Tryz.func81,Tryz.ntmps81
 go_upto_if 8 with (fail)
 go_cut [1] (fun uv wc=>∃ (v:Int) (q:Hp),uv=.int .i64 v/\ -20000<=v/\v<=1073741824/\Hq (∃ L',JD L L'/\PS base S q L' wc/\Gd q/\Keeps w wc S/\Hp.step u h=Hp.work v q))
 case first=>
  by_cases hs:h.state=0
  ·have hse:((h.state:Int)==0)=true:=by simp [hs]
   have HST:Hq (Hp.step u h=Hp.work (u-1) h.begin):=ah (by unfold Hp.step;rw [if_pos hs])
   have HGB:=ah (HG.o.begin hs)
   have HBB:=ah (HB.o hs)
   clear hs
   go_wp2_with fail
   refine HBB.o.mono ?_
   rintro e9 w1 ⟨rfl,L1,hl1,ha1,hk1⟩
   have H1:=ah (And.intro hl1 (And.intro ha1 hk1))
   clear hl1 ha1 hk1
   go_wp2_with fail
   go_meet
   exact ⟨u-1,h.begin,rfl,by omega,by omega,L1,H1.o.1,H1.o.2.1,HGB.o,H1.o.2.2,HST.o⟩
  ·have hse:((h.state:Int)==0)=false:=by simp;omega
   have HST:Hq (Hp.step u h=Hp.work u h):=ah (by unfold Hp.step;rw [if_neg hs])
   clear hs
   go_wp2_with fail
   go_meet
   exact ⟨u,h,rfl,by omega,by omega,L,JD.refl L,HA.o,HG.o,Keeps.refl _ _,HST.o⟩
 case rest=>
 obtain ⟨v,q,rfl,hv1,hv2,HQ⟩:=hcut
 rename World=>w1
 clear HA HG HB c0
 go_wp2
 go_loopg [1] (v+20000).toNat (fun m uv wr=>∃ (v':Int) (q':Hp),uv=.int .i64 v'/\ -20000<=v'/\v'<=1073741824/\m=(v'+20000).toNat/\Hq (∃ L',JD L L'/\PS base S q' L' wr/\Gd q'/\Keeps w wr S/\Hp.step u h=Hp.work v' q'))
 case atStart=>exact ⟨v,q,rfl,hv1,hv2,rfl,HQ.o⟩
 case round=>
  clear HQ
  obtain ⟨v',q',rfl,hw1,hw2,hm,HI⟩:=hrel
  obtain ⟨L1,hL1,hat,hgd,hkp,hst⟩:=HI.out
  obtain ⟨H1,tb1,es1,mp1,li1⟩:=L1
  obtain rfl:H1=L.H:=hL1.H
  have c0:=hat.cells.1
  by_cases hpos:0<v'
  ·by_cases hs0:q'.state=0
   ·have hne:((q'.state:Int) !=0)=false:=by simp [hs0]
    have HW:=ah (Hp.Fh v' q' (fun x=>x.2 hs0))
    have HT:=ah (And.intro hat (And.intro hkp (And.intro hst hL1)))
    clear hat hgd hkp hst HI hs0 hL1
    go_wp2
    go_end0
    exact ⟨rfl,_,HT.o.2.2.2,by rw [HT.o.2.2.1,HW.o];exact HT.o.1,HT.o.2.1⟩
   ·have hne:((q'.state:Int) !=0)=true:=by simp;omega
    have HW:=ah (Hp.F6 v' q' ⟨hpos,hs0⟩)
    have HGA:=ah (hgd.advance hs0)
    have hal:=BG hgd hs0
    have hap:=q'.Fb
    have HAV:=ah (pI hat hgd hs0)
    have HT:=ah (And.intro hkp (And.intro hst hL1))
    clear hat hgd hkp hst HI hs0 hL1
    go_wp2_with fail
    refine HAV.o.mono ?_
    rintro e9 w2 ⟨rfl,L2,hl2,ha2,hk2⟩
    have H2:=ah (And.intro hl2 (And.intro ha2 hk2))
    clear hl2 ha2 hk2 HAV
    go_wp2
    go_roundg (v'-(q'.advance.2:Int)+20000).toNat
    case rel=>exact ⟨v'-(q'.advance.2:Int),q'.advance.1,rfl,by omega,by omega,rfl,L2,HT.o.2.2.trans H2.o.1,H2.o.2.1,HGA.o,HT.o.1.trans H2.o.2.2,by rw [HT.o.2.1,HW.o]⟩
    case measure=>omega
  ·have HW:=ah (Hp.Fh v' q' (fun x=>hpos x.1))
   have HT:=ah (And.intro hat (And.intro hkp (And.intro hst hL1)))
   clear hat hgd hkp hst HI hL1
   go_wp2
   go_end0
   exact ⟨rfl,_,HT.o.2.2.2,by rw [HT.o.2.2.1,HW.o];exact HT.o.1,HT.o.2.1⟩
theorem qH (p:PS base S h L w) (g:Gd h):
 Calls Tryz.prog 82 #[.pointer (some ⟨L.H,0,none⟩)] w fun e w'=>e=.returned (.tuple #[])/\∃ L',JD L L'/\PS base S h.finish L' w'/\Keeps w w' S:=by
 have HA:=ah p
 have HG:=ah g
 clear p g
 go_enter Tryz.func82,Tryz.ntmps82
 go_wp2
 go_loopg [] h.phi (fun m wr=>∃ q:Hp,Hq (m=q.phi/\q.finish=h.finish/\Gd q/\(∃ L',JD L L'/\PS base S q L' wr)/\Keeps w wr S))
 case atStart=>exact ⟨h,rfl,rfl,HG.o,⟨L,JD.refl L,HA.o⟩,Keeps.refl _ _⟩
 case round=>
  clear HA
  obtain ⟨q,HI⟩:=hrel
  obtain ⟨L1,hL1,hat⟩:=HI.out.2.2.2.1
  obtain ⟨H1,tb1,es1,mp1,li1⟩:=L1
  obtain rfl:H1=L.H:=hL1.H
  have c0:=hat.cells.1
  by_cases hs0:q.state=0
  ·have hne:((q.state:Int) !=0)=false:=by simp [hs0]
   have HQ:Hq (h.finish=q):=ah (by rw [<-HI.out.2.1,Hp.EZ q hs0])
   have HT:=ah (And.intro hL1 hat)
   clear hat hs0 hL1
   go_wp2
   go_end0
   exact ⟨rfl,_,HT.o.1,by rw [HQ.o];exact HT.o.2,HI.out.2.2.2.2⟩
  ·have hne:((q.state:Int) !=0)=true:=by simp;omega
   have HAV:=ah (pI hat HI.out.2.2.1 hs0)
   have HP:=ah (And.intro (Hp.EH HI.out.2.2.1.i hs0) (And.intro (Hp.FN HI.out.2.2.1.i hs0) (HI.out.2.2.1.advance hs0)))
   have HT:=ah hL1
   clear hat hs0 hL1
   go_wp2_with fail
   refine HAV.o.mono ?_
   rintro e9 w2 ⟨rfl,L2,hl2,ha2,hk2⟩
   have H2:=ah (And.intro hl2 (And.intro ha2 hk2))
   clear hl2 ha2 hk2 HAV
   go_wp2
   go_roundg q.advance.1.phi
   case rel=>exact ⟨q.advance.1,rfl,by rw [<-HP.o.2.1];exact HI.out.2.1,HP.o.2.2,⟨L2,HT.o.trans H2.o.1,H2.o.2.1⟩,HI.out.2.2.2.2.trans H2.o.2.2⟩
   case measure=>
    have h1:=HI.out.1
    have h2:=HP.o.1
    omega
theorem uN (p:PS base S h L w) (g:Gd h):
 Calls Tryz.prog 54 #[.pointer (some ⟨L.H,0,none⟩)] w fun e w'=>e=.returned (.tuple #[])/\∃ L',JD L L'/\PS base S h.full L' w'/\Keeps w w' S:=by
 have C1:=ah (qH p g)
 have HG:=ah g
 clear p g
 go_enter Tryz.func54,Tryz.ntmps54
 go_wp2_with fail
 refine C1.o.mono ?_
 rintro e1 w1 ⟨rfl,⟨H1,tb1,es1,mp1,li1⟩,hl,ha,hk⟩
 obtain rfl:H1=L.H:=hl.H
 have P1:=ah (And.intro hl (And.intro ha hk))
 clear hl ha hk
 have C2:=ah (uK P1.o.2.1 HG.o.finish HG.o.i.finish.2)
 go_wp2_with fail
 refine C2.o.mono ?_
 rintro e2 w2 ⟨rfl,⟨H2,tb2,es2,mp2,li2⟩,hl,ha,hk⟩
 obtain rfl:H2=L.H:=hl.H
 have P2:=ah (And.intro (P1.o.1.trans hl) (And.intro ha (P1.o.2.2.trans hk)))
 clear hl ha hk
 have C3:=ah (qH P2.o.2.1 (HG.o.finish.begin HG.o.i.finish.2))
 go_wp2_with fail
 refine C3.o.mono ?_
 rintro e3 w3 ⟨rfl,L3,hl,ha,hk⟩
 have P3:=ah (And.intro (P2.o.1.trans hl) (And.intro ha (P2.o.2.2.trans hk)))
 clear hl ha hk
 go_wp2
 go_end0
 exact ⟨rfl,L3,P3.o.1,P3.o.2.1,P3.o.2.2⟩
theorem vU (p:PS base S h L w):
 Calls Tryz.prog 100 #[.pointer (some ⟨L.H,0,none⟩)] w fun e w'=>e=.returned (.bool (decide (h.state=0)&&decide (h.bytes<h.limit)))/\Below w.heap.size w w':=by
 have c0:=p.cells.1
 have c4:=p.cells.2.2.2.1
 have c6:=p.cells.2.2.2.2.2.1
 clear p
 by_cases hs:h.state=0
 ·have hse:((h.state:Int)==0)=true:=by simp [hs]
  have HD:Hq ((decide (h.state=0)&&decide (h.bytes<h.limit))=decide (h.bytes<h.limit)):=ah (by rw [hs];simp)
  clear hs
  go_enter Tryz.func100,Tryz.ntmps100
  go_wp2_with fail
  go_quiet (fail)
  go_wp2
  go_ret
  rw [HD.o]
  exact ⟨rfl,ay (Below.refl _ _) _⟩
 ·have hse:((h.state:Int)==0)=false:=by simp;omega
  have HD:Hq ((decide (h.state=0)&&decide (h.bytes<h.limit))=false):=ah (by simp [hs])
  clear hs
  go_enter Tryz.func100,Tryz.ntmps100
  go_wp2_with fail
  go_quiet (fail)
  go_wp2
  go_ret
  rw [HD.o]
  exact ⟨rfl,ay (Below.refl _ _) _⟩
theorem vN (p:PS base S h L w) (g:Gd h):
 Calls Tryz.prog 69 #[.pointer (some ⟨L.H,0,none⟩),.int .i64 64] w fun e w'=>e=.returned (.tuple #[])/\∃ L',JD L L'/\PS base S h.Fe L' w'/\Keeps w w' S:=by
 have HI:=ah (vU p)
 have HA:=ah p
 have HG:=ah g
 by_cases hs:h.state=0
 ·by_cases hb:h.bytes<h.limit
  ·rw [show (decide (h.state=0)&&decide (h.bytes<h.limit))=true by simp [hs,hb]] at HI
   have HP:Hq (h.Fe=h):=ah (by unfold Hp.Fe;rw [if_pos hs,if_pos hb])
   clear p g hs hb
   go_enter Tryz.func69,Tryz.ntmps69
   go_wp2_with fail
   refine HI.out.mono ?_
   rintro e1 w1 ⟨rfl,hb1⟩
   have HB1:=ah hb1
   clear hb1
   go_wp2
   ((try simp only [Exit.inBlock,Exit.then]);refine bodyPost_ret (results_none rfl _ _ _) rfl ?_)
   exact ⟨rfl,L,JD.refl L,by rw [HP.o];exact HA.o.low HB1.o,Keeps.of HB1.o (Nat.le_refl _) S⟩
  ·rw [show (decide (h.state=0)&&decide (h.bytes<h.limit))=false by simp [hb]] at HI
   have HP:Hq (h.Fe=Hp.step 64 { h with D6:=0 }):=ah (by unfold Hp.Fe;rw [if_pos hs,if_neg hb])
   have hse:((h.state:Int)==0)=true:=by simp [hs]
   clear p g hs hb
   go_enter Tryz.func69,Tryz.ntmps69
   go_wp2_with fail
   refine HI.out.mono ?_
   rintro e1 w1 ⟨rfl,hb1⟩
   have HB1:=ah hb1
   have HA1:=ah (HA.o.low hb1)
   have c0:=HA1.o.cells.1
   have c5:=HA1.o.cells.2.2.2.2.1
   have z5:=HA1.o.cells.2.2.2.2.2.2.1 5
   have Q1:=ah (HA1.o.F9 0)
   have HST:=ah (j4 Q1.o.1 (HG.o.F9 0 (by omega)) 64 (by omega))
   rw [show ((0:Nat):Int)=0 from rfl] at Q1 HST
   clear hb1
   go_upto_region 3 with (fail)
   generalize w1.setCell ⟨L.H,5,none⟩ (.int .i64 0)=w2 at *
   clear c0 c5 z5
   go_wp2_with fail
   refine HST.o.mono ?_
   rintro e2 w3 ⟨rfl,L3,hl,ha,hk⟩
   have P3:=ah (And.intro hl (And.intro ha hk))
   clear hl ha hk
   go_wp2
   ((try simp only [Exit.inBlock,Exit.then]);refine bodyPost_ret (results_none rfl _ _ _) rfl ?_)
   exact ⟨rfl,L3,P3.o.1,by rw [HP.o];exact P3.o.2.1,((Keeps.of HB1.o (Nat.le_refl _) S).trans Q1.o.2).trans P3.o.2.2⟩
 ·rw [show (decide (h.state=0)&&decide (h.bytes<h.limit))=false by simp [hs]] at HI
  have HP:Hq (h.Fe=h.ED):=ah (by unfold Hp.Fe;rw [if_neg hs])
  have hse:((h.state:Int)==0)=false:=by simp;omega
  clear p g hs
  go_enter Tryz.func69,Tryz.ntmps69
  go_wp2_with fail
  refine HI.out.mono ?_
  rintro e1 w1 ⟨rfl,hb1⟩
  have HB1:=ah hb1
  have HA1:=ah (HA.o.low hb1)
  have c0:=HA1.o.cells.1
  clear hb1
  go_wp2
  go_loopg [] h.D6 (fun m wr=>∃ q:Hp,Hq (m=q.D6/\q.ED=h.ED/\Gd q/\(∃ L',JD L L'/\PS base S q L' wr)/\Keeps w wr S))
  case atStart=>exact ⟨h,rfl,rfl,HG.o,⟨L,JD.refl L,HA1.o⟩,Keeps.of HB1.o (Nat.le_refl _) S⟩
  case round=>
   clear HA HA1 c0 hse HI HB1
   obtain ⟨q,HI⟩:=hrel
   obtain ⟨L1,hL1,hat⟩:=HI.out.2.2.2.1
   obtain ⟨H1,tb1,es1,mp1,li1⟩:=L1
   obtain rfl:H1=L.H:=hL1.H
   have c0:=hat.cells.1
   have c5:=hat.cells.2.2.2.2.1
   have z5:=hat.cells.2.2.2.2.2.2.1 5
   have HT:=ah (And.intro hL1 hat)
   by_cases hc:256<=q.D6
   ·by_cases hs0:q.state=0
    ·have hci:((q.D6:Int) ≥ 256):=by omega
     have hne:((q.state:Int) !=0)=false:=by simp [hs0]
     have HQ:Hq (h.ED=q):=ah (by rw [<-HI.out.2.1,Hp.ET q (fun x=>x.2 hs0)])
     clear hat hs0 hL1 hc
     go_wp2
     go_end0
     exact ⟨rfl,_,HT.o.1,by rw [HP.o,HQ.o];exact HT.o.2,HI.out.2.2.2.2⟩
    ·have hci:((q.D6:Int) ≥ 256):=by omega
     have hne:((q.state:Int) !=0)=true:=by simp;omega
     have hcr:=HI.out.2.2.1.s.cr
     have Q1:=ah (hat.F9 (q.D6-256))
     have HGC:=HI.out.2.2.1.F9 (q.D6-256) (by omega)
     have HST:=ah (j4 Q1.o.1 HGC 64 (by omega))
     have HPH:Hq (q.ED=Hp.ED (Hp.step 64 { q with D6:=q.D6-256 })/\(Hp.step 64 { q with D6:=q.D6-256 }).D6<q.D6/\Gd (Hp.step 64 { q with D6:=q.D6-256 })):=ah ⟨Hp.FY q hc hs0,by
      have:=Hp.Fq 64 { q with D6:=q.D6-256 }
      simp only at this
      omega,HGC.step⟩
     rw [show ((q.D6-256:Nat):Int)=(q.D6:Int)-256 by omega] at Q1 HST
     clear hat hs0 hL1 hc HGC
     go_upto_region 6 with (fail)
     generalize wr.setCell ⟨L.H,5,none⟩ (.int .i64 ((q.D6:Int)-256))=w2 at *
     clear c0 c5 z5
     go_wp2_with fail
     refine HST.o.mono ?_
     rintro e2 w3 ⟨rfl,L3,hl,ha,hk⟩
     have P3:=ah (And.intro hl (And.intro ha hk))
     clear hl ha hk
     go_wp2
     go_roundg (Hp.step 64 { q with D6:=q.D6-256 }).D6
     case rel=>exact ⟨_,rfl,by rw [<-HPH.o.1];exact HI.out.2.1,HPH.o.2.2,⟨L3,HT.o.1.trans ⟨P3.o.1.H,P3.o.1.tb,P3.o.1.es,P3.o.1.mp⟩,P3.o.2.1⟩,(HI.out.2.2.2.2.trans Q1.o.2).trans P3.o.2.2⟩
     case measure=>
      have h1:=HI.out.1
      have h2:=HPH.o.2.1
      omega
   ·have hci:¬ ((q.D6:Int) ≥ 256):=by omega
    have HQ:Hq (h.ED=q):=ah (by rw [<-HI.out.2.1,Hp.ET q (fun x=>hc x.1)])
    clear hat hL1 hc
    go_wp2
    go_end0
    exact ⟨rfl,_,HT.o.1,by rw [HP.o,HQ.o];exact HT.o.2,HI.out.2.2.2.2⟩
end
end Go.Proofs.YtedpifhlffcmkaaGreatDoor
namespace Go.Proofs.YtedpifhlffcmkaaGreatDoor
open Go Go.RowKit Go.WideMaps
open Go.ChangeMaps (setBlock)
set_option linter.unusedVariables false
section
variable {S:Nat->Prop} {b j q:Nat} {es:List En} {w w':World}
structure Je (ents:List MapEntry) (R:HV->Nat->Prop):Prop where
 tt:∀ m∈ents,∃ k i,R k i/\k.isSome=true/\m.key=iE k/\m.val=.int .i64 (i:Nat)
 Js:∀ k i,R k i->k.isSome=true->∃ m∈ents,m.key=iE k
 nd:ents.Pairwise (fun a b=>a.key≠b.key)
 kk:∀ k i,R k i->mD k
 fn:∀ k i j,R k i->R k j->k.isSome=true->i=j
def kK (es:List En) (k:HV) (i:Nat):Prop:=∃ e,es[i]?=some e/\e.1=k
theorem JV.p {ents:List MapEntry} (c:JV ents es):Je ents (kK es):=by
 refine ⟨fun m hm=>?_,fun k i hr hs=>?_,c.nd,fun k i hr=>?_,fun k i j h1 h2 hs=>?_⟩
 ·obtain ⟨i,e,a1,a2,a3,a4⟩:=c.tt m hm
  exact ⟨e.1,i,⟨e,a1,rfl⟩,a2,a3,a4⟩
 ·obtain ⟨e,h1,rfl⟩:=hr
  exact c.Js i e h1 hs
 ·obtain ⟨e,h1,rfl⟩:=hr
  exact c.kk e (List.mem_of_getElem? h1)
 ·obtain ⟨e,a1,rfl⟩:=h1
  obtain ⟨e',b1,b2⟩:=h2
  exact c.kd i j e e' a1 b1 hs b2.symm
theorem Je.c {ents:List MapEntry} (p:Je ents (kK es)):JV ents es:=by
 refine ⟨fun m hm=>?_,fun i e he hs=>p.Js e.1 i ⟨e,he,rfl⟩ hs,p.nd,fun e he=>?_,fun i j x y hx hy hs hxy=>p.fn x.1 i j ⟨x,hx,rfl⟩ ⟨y,hy,hxy.symm⟩ hs⟩
 ·obtain ⟨k,i,⟨e,h1,rfl⟩,a2,a3,a4⟩:=p.tt m hm
  exact ⟨i,e,h1,a2,a3,a4⟩
 ·obtain ⟨i,hi⟩:=List.mem_iff_getElem?.1 he
  exact p.kk e.1 i ⟨e,hi,rfl⟩
theorem Je.congr {ents:List MapEntry} {R R':HV->Nat->Prop} (p:Je ents R) (h1:∀ k i,k.isSome=true->(R' k i↔R k i)):Je ents R':=by
 refine ⟨fun m hm=>?_,fun k i hr hs=>p.Js k i ((h1 k i hs).1 hr) hs,p.nd,fun k i hr=>?_,fun k i j a b hs=>p.fn k i j ((h1 k i hs).1 a) ((h1 k j hs).1 b) hs⟩
 ·obtain ⟨k,i,a1,a2,a3⟩:=p.tt m hm
  exact ⟨k,i,(h1 k i a2).2 a1,a2,a3⟩
 ·cases hk:k with
  |none=>trivial
  |some x=>rw [<-hk];exact p.kk k i ((h1 k i (by rw [hk];rfl)).1 hr)
theorem Je.find {ents:List MapEntry} {R:HV->Nat->Prop} (c:Je ents R) (w:World) {k:HV} (hk:mD k):
 ((Instr.findKey 194 (iE k) ents).run Tryz.prog w=.ok none w/\(k.isSome=true->∀ i,¬ R k i)/\∀ m∈ents,m.key≠iE k)∨∃ j m i,(Instr.findKey 194 (iE k) ents).run Tryz.prog w=.ok (some (j,m.val)) w/\ents[j]?=some m/\m.key=iE k/\m.val=.int .i64 (i:Nat)/\R k i/\k.isSome=true:=by
 obtain ⟨l,hl⟩:=Bn hk
 have hall:∀ m∈ents,∃ l,keyOf Tryz.prog 194 m.key=some l:=by
  intro m hm
  obtain ⟨k',i,h1,_,h3,_⟩:=c.tt m hm
  rw [h3]
  exact Bn (c.kk k' i h1)
 rcases oC.find w hl ents hall with ⟨h1,h2⟩|⟨j,m,h1,h2,h3⟩
 ·refine .inl ⟨h1,fun hs i hr=>?_,h2⟩
  obtain ⟨m,hm,hmk⟩:=c.Js k i hr hs
  exact h2 m hm hmk
 ·obtain ⟨k',i,a1,a2,a3,a4⟩:=c.tt m (List.mem_of_getElem? h2)
  have hek:k'=k:=jA (a3.symm.trans h3)
  subst hek
  exact .inr ⟨j,m,i,h1,h2,h3,a4,a1,a2⟩
def jr (w:World) (b:Nat) (R:HV->Nat->Prop):Prop:=∃ ents clk,w.heap[b]?=some (.map ents clk)/\Je ents.toList R
theorem jr.lt {R:HV->Nat->Prop} (h:jr w b R):b<w.heap.size:=by
 obtain ⟨ents,clk,h1,_⟩:=h
 rcases Nat.lt_or_ge b w.heap.size with c|c
 ·exact c
 ·rw [Array.getElem?_eq_none c] at h1;cases h1
theorem jr.keep {R:HV->Nat->Prop} (h:jr w b R) (k:Keeps w w' S) (hn:¬ S b):jr w' b R:=by
 have hl:=h.lt
 obtain ⟨ents,clk,h1,h2⟩:=h
 exact ⟨ents,clk,(k.block b hl hn).trans h1,h2⟩
theorem jr.congr {w:World} {b:Nat} {R R':HV->Nat->Prop} (h:jr w b R) (h1:∀ k i,k.isSome=true->(R' k i↔R k i)):jr w b R':=by
 obtain ⟨ents,clk,h2,h3⟩:=h
 exact ⟨ents,clk,h2,h3.congr h1⟩
theorem jr.a (h:jr w b (kK es)):kR w (.map (some b)) es:=by
 obtain ⟨ents,clk,h2,h3⟩:=h
 exact .inr ⟨b,ents,clk,rfl,h2,h3.c⟩
theorem Bb {ents:List MapEntry} (nd:ents.Pairwise (fun a b=>a.key≠b.key)) {m m':MapEntry} (hj:ents[j]?=some m) (hq:ents[q]?=some m') (hn:q≠j):m'.key≠m.key:=by
 intro hkk
 have hql:=(List.getElem?_eq_some_iff.1 hq).1
 have hjl:=(List.getElem?_eq_some_iff.1 hj).1
 have e1:=(List.getElem?_eq_some_iff.1 hq).2
 have e2:=(List.getElem?_eq_some_iff.1 hj).2
 have hp:=List.pairwise_iff_getElem.1 nd
 rcases Nat.lt_or_ge q j with c|c
 ·exact hp q j hql hjl c (by rw [e1,e2];exact hkk)
 ·exact hp j q hjl hql (by omega) (by rw [e1,e2];exact hkk.symm)
theorem zG {R:HV->Nat->Prop} (h:jr w b R) {k:HV} (hk:mD k) (ty:TypeId):∃ w1,(Builtin.delete_ #[132,194] ty #[.map (some b),iE k]).run Tryz.prog w=.ok (.tuple #[]) w1/\jr w1 b (fun k' i=>R k' i/\k'≠k)/\Keeps w w1 (fun c=>c=b)/\w1.heap.size=w.heap.size:=by
 obtain ⟨ents,clk,hb,hc⟩:=h
 obtain ⟨l,hl⟩:=Bn hk
 have hck:=oC.check w ents.isEmpty hl
 rcases hc.find w hk with ⟨h1,h2,h3⟩|⟨j,m,i,h1,h2,h3,h4,h5,h6⟩
 ·refine ⟨setBlock w b (.map ents clk),?_,⟨ents,clk,dN hb,hc.congr (fun k' i hs=>⟨fun e=>e.1,fun e=>⟨e,fun c=>?_⟩⟩)⟩,bW w b _,by simp [setBlock]⟩
  ·simp [Builtin.delete_,run_underlying Tryz.underlying132,MapKept.run_getObj_map hb,hck,h1,MapKept.run_setObj_map _ hb,Result.andThen,setBlock]
  ·subst c
   exact h2 hs i e
 ·have hjl:=(List.getElem?_eq_some_iff.1 h2).1
  refine ⟨setBlock w b (.map (ents.eraseIdxIfInBounds j) clk),?_,⟨_,clk,dN hb,?_⟩,bW w b _,by simp [setBlock]⟩
  ·simp [Builtin.delete_,run_underlying Tryz.underlying132,MapKept.run_getObj_map hb,hck,h1,MapKept.run_setObj_map _ hb,Result.andThen,setBlock]
  ·have htl:(ents.eraseIdxIfInBounds j).toList=ents.toList.eraseIdx j:=by
    have hjl':j<ents.size:=by simpa using hjl
    rw [Array.eraseIdxIfInBounds,dif_pos hjl',Array.toList_eraseIdx]
   rw [htl]
   refine ⟨fun m' hm'=>?_,fun k' i' hr hs=>?_,hc.nd.sublist (List.eraseIdx_sublist _ _),fun k' i' hr=>hc.kk k' i' hr.1,fun k' i' j' a b hs=>hc.fn k' i' j' a.1 b.1 hs⟩
   ·obtain ⟨q,hq1,hq2⟩:=List.mem_eraseIdx_iff_getElem?.1 hm'
    obtain ⟨k2,i2,a1,a2,a3,a4⟩:=hc.tt m' (List.mem_of_getElem? hq2)
    refine ⟨k2,i2,⟨a1,fun c=>?_⟩,a2,a3,a4⟩
    subst c
    exact Bb hc.nd h2 hq2 hq1 (a3.trans h3.symm)
   ·obtain ⟨m',b1,b2⟩:=hc.Js k' i' hr.1 hs
    refine ⟨m',?_,b2⟩
    obtain ⟨q',hq',rfl⟩:=List.getElem_of_mem b1
    refine List.mem_eraseIdx_iff_getElem?.2 ⟨q',?_,List.getElem?_eq_getElem hq'⟩
    intro c2
    subst c2
    rw [List.getElem?_eq_getElem hq'] at h2
    cases h2
    exact hr.2 (jA (b2.symm.trans h3))
theorem wI {R:HV->Nat->Prop} (h:jr w b R) {k:HV} (hk:mD k) (hs:k.isSome=true) (v:Nat):∃ w1,(Instr.mapUpdate 132 (.map (some b)) (iE k) (.int .i64 (v:Int))).run Tryz.prog w=.ok () w1/\jr w1 b (fun k' i=>(k'=k/\i=v)∨(k'≠k/\R k' i))/\Keeps w w1 (fun c=>c=b)/\w1.heap.size=w.heap.size:=by
 obtain ⟨ents,clk,hb,hc⟩:=h
 obtain ⟨l,hl⟩:=Bn hk
 have hck:=oC.check w false hl
 rcases hc.find w hk with ⟨h1,h2,h3⟩|⟨j,m,i,h1,h2,h3,h4,h5,h6⟩
 ·refine ⟨setBlock w b (.map (ents.push ⟨iE k,.int .i64 (v:Int),clk⟩) (clk+1)),?_,⟨_,_,dN hb,?_⟩,bW w b _,by simp [setBlock]⟩
  ·simp [Instr.mapUpdate,run_underlying Tryz.underlying132,MapKept.run_getObj_map hb,hck,h1,MapKept.run_setObj_map _ hb,Result.andThen,setBlock]
  ·rw [Array.toList_push]
   refine ⟨fun m' hm'=>?_,fun k' i' hr hs'=>?_,?_,fun k' i' hr=>?_,fun k' i' j' a b hs'=>?_⟩
   ·rcases List.mem_append.1 hm' with c|c
    ·obtain ⟨k2,i2,a1,a2,a3,a4⟩:=hc.tt m' c
     exact ⟨k2,i2,.inr ⟨fun d=>h3 m' c (by rw [a3,d]),a1⟩,a2,a3,a4⟩
    ·simp at c
     subst c
     exact ⟨k,v,.inl ⟨rfl,rfl⟩,hs,rfl,rfl⟩
   ·rcases hr with ⟨rfl,rfl⟩|⟨_,d⟩
    ·exact ⟨_,List.mem_append_right _ (List.mem_singleton.2 rfl),rfl⟩
    ·obtain ⟨m',b1,b2⟩:=hc.Js k' i' d hs'
     exact ⟨m',List.mem_append_left _ b1,b2⟩
   ·rw [List.pairwise_append]
    refine ⟨hc.nd,List.pairwise_singleton _ _,fun a ha b' hb'=>?_⟩
    simp at hb'
    subst hb'
    exact h3 a ha
   ·rcases hr with ⟨rfl,rfl⟩|⟨_,d⟩
    ·exact hk
    ·exact hc.kk k' i' d
   ·rcases a with ⟨rfl,rfl⟩|⟨c,d⟩<;>rcases b with ⟨e1,e2⟩|⟨e1,e2⟩
    ·exact e2.symm
    ·exact absurd rfl e1
    ·exact absurd e1 c
    ·exact hc.fn k' i' j' d e2 hs'
 ·have hj:ents[j]?=some m:=by simpa using h2
  have hst:=oC.stays w hl
  have hlist:(ents.modify j (fun e'=>{ e' with key:=iE k,val:=.int .i64 (v:Int) })).toList=ents.toList.set j { m with key:=iE k,val:=.int .i64 (v:Int) }:=by
   rw [Array.toList_modify]
   refine List.ext_getElem? (fun q=>?_)
   rw [List.getElem?_modify,List.getElem?_set]
   by_cases c:j=q
   ·subst c
    have hjl:=(List.getElem?_eq_some_iff.1 h2).1
    rw [h2,if_pos rfl,if_pos hjl]
    simp
   ·simp [c]
  have hjl:=(List.getElem?_eq_some_iff.1 h2).1
  refine ⟨setBlock w b (.map (ents.modify j (fun e'=>{ e' with key:=iE k,val:=.int .i64 (v:Int) })) clk),?_,⟨_,_,dN hb,?_⟩,bW w b _,by simp [setBlock]⟩
  ·simp [Instr.mapUpdate,run_underlying Tryz.underlying132,MapKept.run_getObj_map hb,hck,h1,hj,h3,hst,MapKept.run_setObj_map _ hb,Result.andThen,setBlock]
  ·rw [hlist]
   refine ⟨fun m' hm'=>?_,fun k' i' hr hs'=>?_,?_,fun k' i' hr=>?_,fun k' i' j' a b hs'=>?_⟩
   ·obtain ⟨q,hq⟩:=List.mem_iff_getElem?.1 hm'
    rw [List.getElem?_set] at hq
    split at hq
    ·simp at hq
     obtain ⟨_,rfl⟩:=hq
     exact ⟨k,v,.inl ⟨rfl,rfl⟩,hs,rfl,rfl⟩
    ·rename_i c
     obtain ⟨k2,i2,a1,a2,a3,a4⟩:=hc.tt m' (List.mem_of_getElem? hq)
     exact ⟨k2,i2,.inr ⟨fun d=>Bb hc.nd h2 hq (fun x=>c x.symm) (by rw [a3,h3,d]),a1⟩,a2,a3,a4⟩
   ·rcases hr with ⟨rfl,rfl⟩|⟨e,d⟩
    ·exact ⟨_,List.mem_iff_getElem?.2 ⟨j,List.getElem?_set_self hjl⟩,rfl⟩
    ·obtain ⟨m',b1,b2⟩:=hc.Js k' i' d hs'
     obtain ⟨q,hq⟩:=List.mem_iff_getElem?.1 b1
     refine ⟨m',List.mem_iff_getElem?.2 ⟨q,?_⟩,b2⟩
     rw [List.getElem?_set,if_neg ?_]
     ·exact hq
     ·intro c
      subst c
      rw [h2] at hq
      cases hq
      exact e (jA (b2.symm.trans h3))
   ·rw [List.pairwise_iff_getElem]
    intro p q hp hq hpq
    have hp':p<ents.toList.length:=by simpa using hp
    have hq':q<ents.toList.length:=by simpa using hq
    have key:∀ x (hx:x<(ents.toList.set j { m with key:=iE k,val:=.int .i64 (v:Int) }).length) (hx':x<ents.toList.length),(ents.toList.set j { m with key:=iE k,val:=.int .i64 (v:Int) })[x].key=ents.toList[x].key:=by
     intro x hx hx'
     rw [List.getElem_set]
     split
     ·rename_i c
      subst c
      have:=(List.getElem?_eq_some_iff.1 h2).2
      rw [this,h3]
     ·rfl
    rw [key p hp hp',key q hq hq']
    exact List.pairwise_iff_getElem.1 hc.nd p q hp' hq' hpq
   ·rcases hr with ⟨rfl,rfl⟩|⟨_,d⟩
    ·exact hk
    ·exact hc.kk k' i' d
   ·rcases a with ⟨rfl,rfl⟩|⟨c,d⟩<;>rcases b with ⟨e1,e2⟩|⟨e1,e2⟩
    ·exact e2.symm
    ·exact absurd rfl e1
    ·exact absurd e1 c
    ·exact hc.fn k' i' j' d e2 hs'
end
end Go.Proofs.YtedpifhlffcmkaaGreatDoor
namespace Go.Proofs.YtedpifhlffcmkaaGreatDoor
open Go Go.RowKit
set_option maxHeartbeats 6400000
set_option maxRecDepth 100000
set_option linter.unusedVariables false
section
variable {K:Act->World->Prop} {Q:Exit->Act->World->Prop} {a:Act} {b base cap g i t:Nat} {f:Nat->Value} {ms:List En} {tb:Nat->Nat} {v:Value} {w w':World}
attribute [local go_sem] bD
def ql (o:Ob) (n:Nat) (sz:Int) (es:List En) (ev mv:Value) (k:Nat):Value:=if k=2 then .int .i64 sz else if k=9 then .int .i64 (aK es) else lT o n ev mv k
structure JL (base:Nat) (tb:Nat->Nat) (t n:Nat) (o:Ob) (sz:Int) (es:List En) (ev mv:Value) (w:World):Prop where
 r:aD w 136 t 13 (ql o n sz es ev mv)
 e:w.ownsRow base 167 10 ev es.length (fP tb es)
 m:kR w mv es
def Hd (tb:Nat->Nat) (w:World) (v:HV):Prop:=∀ m,v=some (.inr m)->∃ f,aD w 136 (tb m) 13 f/\f 1=.int .i64 (m:Int)
theorem Hd.c {v:HV} (h:Hd tb w v):∀ m,v=some (.inr m)->w.cell? ⟨tb m,1,none⟩=some (.int .i64 (m:Int)):=by
 intro m hm
 obtain ⟨f,h1,h2⟩:=h m hm
 rw [h1.cell (j:=1) (by omega),h2]
theorem Hd.keep {tb:Nat->Nat} {w w':World} {v:HV} {S:Nat->Prop} (h:Hd tb w v) (k:Keeps w w' S) (hS:∀ b f,aD w 136 b 13 f->¬ S b):Hd tb w' v:=by
 intro m hm
 obtain ⟨f,h1,h2⟩:=h m hm
 exact ⟨f,h1.keep k (hS _ _ h1),h2⟩
theorem Hd.low {v:HV} (h:Hd tb w v) (k:Below w.heap.size w w'):Hd tb w' v:=h.keep (Keeps.of k (Nat.le_refl _) (fun _=>False)) (fun _ _ _ e=>e)
theorem fB (he:w.ownsRow base 167 10 v ms.length (fP tb ms)):∃ A cap,v=.slice A ms.length cap/\ms.length<=cap/\∀ i e,ms[i]?=some e->∃ g,A=some ⟨g,0,none⟩/\g<w.heap.size/\∀ j u,(gZ tb e)[j]?=some u->w.cell? ⟨g,i*10+j,none⟩=some u:=by
 obtain ⟨A,cap,hv⟩:=aF he
 refine ⟨A,cap,hv,?_,fun i e hi=>?_⟩
 ·rcases he.2 with ⟨h1,h2⟩|⟨g,cap',cur,hv',_,_,hc,_⟩
  ·omega
  ·rw [hv] at hv'
   simp only [Value.slice.injEq] at hv'
   omega
 ·have hil:=(List.getElem?_eq_some_iff.1 hi).1
  rcases he.2 with ⟨h1,h2⟩|⟨g,cap',cur,hv',_,_,hc,_⟩
  ·omega
  ·rw [hv] at hv'
   simp only [Value.slice.injEq] at hv'
   have hr:=au he (g:=g) (by rw [hv,hv'.1];simp [Value.ownBlock])
   refine ⟨g,hv'.1,hr.lt,fun j u hu=>?_⟩
   have hj:j<10:=(List.getElem?_eq_some_iff.1 hu).1
   rw [hr.cell (j:=i*10+j) (by omega),List.getD_eq_getElem?_getD]
   unfold fP
   rw [dw (gZ tb) 10 (fun _=>rfl) ms i j e hi hj,hu]
   rfl
theorem uX {o:Oper} (m x:Operand)
 (ho:o.op=.call { callee:=.builtin .delete,args:=#[m,x],argTypes:=#[132,194] }) (b:Nat) (R:HV->Nat->Prop) (k:HV) (hm:a.eval m=.map (some b)) (hx:a.eval x=iE k) (hmp:jr w b R) (hk:mD k)
 (h:∀ w',jr w' b (fun k' i=>R k' i/\k'≠k)->Keeps w w' (fun c=>c=b)->w'.heap.size=w.heap.size->K (a.put o.dst (.tuple #[])) w'):Oper.wp Tryz.prog o a w K Q:=by
 obtain ⟨w1,h1,h2,h3,h4⟩:=zG hmp hk o.type
 unfold Oper.wp execOp
 simp only [ho,resolve,invoke,builtin,Sem.run_bind,Sem.run_pure,Result.andThen_ok,List.map_toArray,List.map_cons,List.map_nil,hm,hx,h1]
 exact h w1 h2 h3 h4
theorem yu {e:En} (h:w.ownsRow base 167 10 (.slice (some ⟨g,0,none⟩) ms.length cap) ms.length (fP tb ms)) (hi:ms[i]?=some e):
 World.ownsRow (((((w.setCell ⟨g,i*10,none⟩ (.int .i64 0)).setCell ⟨g,i*10+1,none⟩ (.int .i64 0)).setCell ⟨g,i*10+2,none⟩ (.int .u64 0)).setCell ⟨g,i*10+3,none⟩ (.string ByteArray.empty)).setCell ⟨g,i*10+4,none⟩ .nilIface) base 167 10 (.slice (some ⟨g,0,none⟩) ms.length cap) ms.length (fP tb (ms.set i (none,e.2)))/\
 Keeps w (((((w.setCell ⟨g,i*10,none⟩ (.int .i64 0)).setCell ⟨g,i*10+1,none⟩ (.int .i64 0)).setCell ⟨g,i*10+2,none⟩ (.int .u64 0)).setCell ⟨g,i*10+3,none⟩ (.string ByteArray.empty)).setCell ⟨g,i*10+4,none⟩ .nilIface) (fun b=>b=g):=by
 have hil:=(List.getElem?_eq_some_iff.1 hi).1
 have h1:=aH (aH (aH (aH (aH h (show i*10<ms.length*10 by omega) (.int .i64 0)) (show i*10+1<ms.length*10 by omega) (.int .i64 0)) (show i*10+2<ms.length*10 by omega) (.int .u64 0)) (show i*10+3<ms.length*10 by omega) (.string ByteArray.empty)) (show i*10+4<ms.length*10 by omega) .nilIface
 rw [qU tb hi] at h1
 exact ⟨h1,Keeps.setCell (S:=fun b=>b=g) (Keeps.setCell (S:=fun b=>b=g) (Keeps.setCell (S:=fun b=>b=g) (Keeps.setCell (S:=fun b=>b=g) (Keeps.setCell (S:=fun b=>b=g) (Keeps.refl w (fun b=>b=g)) rfl (.int .i64 0)) rfl (.int .i64 0)) rfl (.int .u64 0)) rfl (.string ByteArray.empty)) rfl .nilIface⟩
theorem wK {R:HV->Nat->Prop} (hr:aD w 136 t 13 f) (f7:f 7=.slice (some ⟨g,0,none⟩) ms.length cap) (f8:f 8=.map (some b)) (hE:w.ownsRow base 167 10 (.slice (some ⟨g,0,none⟩) ms.length cap) ms.length (fP tb ms)) (hM:jr w b R) {e:En} (hi:ms[i]?=some e) (hk:mD e.1) (hd:Hd tb w e.1) (hlen:ms.length<=5000):
 Calls Tryz.prog 137 #[.pointer (some ⟨t,0,none⟩),.int .i64 (i:Int)] w fun e' w'=>e'=.returned (.tuple #[])/\w'.ownsRow base 167 10 (.slice (some ⟨g,0,none⟩) ms.length cap) ms.length (fP tb (ms.set i (none,e.2)))/\jr w' b (fun k' j=>R k' j/\k'≠e.1)/\Keeps w w' (fun c=>c=g∨c=b):=by
 have hil:i<ms.length:=(List.getElem?_eq_some_iff.1 hi).1
 have hili:(i:Int)<(ms.length:Int):=by omega
 obtain ⟨A',cap',hev,hcap,hent⟩:=fB hE
 obtain ⟨g',hgg,hglt,hcells⟩:=hent i e hi
 simp only [Value.slice.injEq,true_and] at hev
 obtain ⟨hA,hc⟩:=hev
 subst hc
 rw [hgg] at hA
 simp only [Option.some.injEq,Addr.mk.injEq,and_true] at hA
 subst hA
 have htl:=hr.lt
 have hrg:=au hE (g:=g) (by simp [Value.ownBlock])
 have hbl:=hM.lt
 have hbg:b≠g:=fun c=>by
  obtain ⟨en,ck,h1,_⟩:=hM
  obtain ⟨cur,h2,_⟩:=hrg
  rw [c] at h1
  rw [h2] at h1
  cases h1
 have hbt:b≠t:=fun c=>by
  obtain ⟨en,ck,h1,_⟩:=hM
  obtain ⟨cur,h2,_⟩:=hr
  rw [c] at h1
  rw [h2] at h1
  cases h1
 have HT:=ah (fun (w':World) (hb:Below w.heap.size w w')=>(hd.low hb).c)
 have HM:=ah (fun (w':World) (hb:Below w.heap.size w w')=>hM.keep (Keeps.of hb (Nat.le_refl _) (fun _=>False)) (fun e=>e))
 have c7:w.cell? ⟨t,7,none⟩=some (.slice (some ⟨g,0,none⟩) ms.length cap):=by rw [hr.cell (j:=7) (by omega),f7]
 have c8:w.cell? ⟨t,8,none⟩=some (.map (some b)):=by rw [hr.cell (j:=8) (by omega),f8]
 have d0:=hcells 0 _ rfl
 have d1:=hcells 1 _ rfl
 have d2:=hcells 2 _ rfl
 have d3:=hcells 3 _ rfl
 have d4:=hcells 4 _ rfl
 simp only [Nat.add_zero] at d0
 have HK:=ah hk
 have HE:=ah hE
 have HI:=ah hi
 have HRG:=ah hrg
 clear hr f7 f8 hE hM hi hk hd hent hcells hgg hrg
 go_enter Tryz.func137,Tryz.ntmps137
 go_wp2_with fail
 go_region_held3 (fun w'=>w'.cell? ⟨t,7,none⟩=some (.slice (some ⟨g,0,none⟩) ms.length cap)/\w'.cell? ⟨t,8,none⟩=some (.map (some b))/\w'.cell? ⟨g,i*10,none⟩=some (.int .i64 (vk e.1))/\w'.cell? ⟨g,i*10+1,none⟩=some (.int .i64 (vi e.1))/\w'.cell? ⟨g,i*10+2,none⟩=some (.int .u64 0)/\w'.cell? ⟨g,i*10+3,none⟩=some (.string ByteArray.empty)/\w'.cell? ⟨g,i*10+4,none⟩=some (aG tb e.1)) (go_keep)
  (first
    |(refine fG (.tmp 15) rfl tb e.1 rfl (HT.o _ (ay (Below.refl _ _) _)) ?_
      intro w9 hb9x
      have hb9:Below w.heap.size w w9:=(ay (Below.refl w.heap.size w) _).trans hb9x
      have HB9:=ah hb9
      have t0:=(hb9.cell (p:=⟨t,7,none⟩) htl).trans c7
      have t1:=(hb9.cell (p:=⟨t,8,none⟩) htl).trans c8
      have t2:=(hb9.cell (p:=⟨g,i*10,none⟩) hglt).trans d0
      have t3:=(hb9.cell (p:=⟨g,i*10+1,none⟩) hglt).trans d1
      have t4:=(hb9.cell (p:=⟨g,i*10+2,none⟩) hglt).trans d2
      have t5:=(hb9.cell (p:=⟨g,i*10+3,none⟩) hglt).trans d3
      have t6:=(hb9.cell (p:=⟨g,i*10+4,none⟩) hglt).trans d4
      clear hb9 hb9x)
    |(refine uX (.tmp 7) (.tmp 16) rfl b R e.1 rfl rfl (HM.o _ HB9.o) HK.o ?_
      intro w8 hm8 hk8 hs8
      have u0:=(World.cell?_of_block (a:=⟨t,7,none⟩) (hk8.block _ (Nat.lt_of_lt_of_le htl HB9.o.size) hbt.symm)).trans t0
      have u1:=(World.cell?_of_block (a:=⟨t,8,none⟩) (hk8.block _ (Nat.lt_of_lt_of_le htl HB9.o.size) hbt.symm)).trans t1
      have u2:=(World.cell?_of_block (a:=⟨g,i*10,none⟩) (hk8.block _ (Nat.lt_of_lt_of_le hglt HB9.o.size) hbg.symm)).trans t2
      have u3:=(World.cell?_of_block (a:=⟨g,i*10+1,none⟩) (hk8.block _ (Nat.lt_of_lt_of_le hglt HB9.o.size) hbg.symm)).trans t3
      have u4:=(World.cell?_of_block (a:=⟨g,i*10+2,none⟩) (hk8.block _ (Nat.lt_of_lt_of_le hglt HB9.o.size) hbg.symm)).trans t4
      have u5:=(World.cell?_of_block (a:=⟨g,i*10+3,none⟩) (hk8.block _ (Nat.lt_of_lt_of_le hglt HB9.o.size) hbg.symm)).trans t5
      have u6:=(World.cell?_of_block (a:=⟨g,i*10+4,none⟩) (hk8.block _ (Nat.lt_of_lt_of_le hglt HB9.o.size) hbg.symm)).trans t6
      have H8:=ah (show jr w8 b (fun k' j=>R k' j/\k'≠e.1)/\Keeps w w8 (fun c=>c=b) from ⟨hm8,(Keeps.of HB9.o (Nat.le_refl _) _).trans hk8⟩)
      clear hm8 hk8 hs8))
 have zz:∀ j,w8.frozen? ⟨g,j,none⟩=false:=fun j=>(HRG.o.keep H8.o.2 hbg.symm).Jv j
 have HK5:=ah (yu (aj HE.o H8.o.2 (fun q hq c=>by
  simp [Value.ownBlock] at hq
  exact hbg (c.symm.trans hq.symm))) HI.out)
 clear c7 c8 d0 d1 d2 d3 d4
 go_wp2
 go_end0
 exact ⟨rfl,HK5.o.1,H8.o.1.keep HK5.o.2 hbg,(H8.o.2.mono (fun c e=>.inr e)).trans (HK5.o.2.mono (fun c e=>.inl e))⟩
end
section
variable {b base cap g i j n q:Nat} {es ms:List En} {ev mv:Value} {f:Nat->Value} {o:Ob} {sz:Int} {tb:Nat->Nat} {w w' w4 w5 w6 w8 wr:World}
attribute [local go_sem] bD
def kp (es:List En) (i:Nat):List En:=(es.take i).filter fun e=>e.2.isSome
theorem yZ (es:List En):kp es 0=[]:=rfl
theorem tO {e:En} (h:es[i]?=some e):kp es (i+1)=kp es i++(if e.2.isSome then [e] else []):=by
 unfold kp
 rw [List.take_add_one,h,Option.toList_some,List.filter_append]
 congr 1
 cases h1:e.2.isSome<;>simp [h1]
theorem nQ {e:En} (h:es[i]?=some e) (hb:e.2.isNone=true):kp es (i+1)=kp es i:=by
 rw [tO h]
 cases h1:e.2 with
 |none=>simp
 |some x=>rw [h1] at hb;cases hb
theorem oV {e:En} (h:es[i]?=some e) (hb:e.2.isNone=false):kp es (i+1)=kp es i++[e]:=by
 rw [tO h]
 cases h1:e.2 with
 |none=>rw [h1] at hb;cases hb
 |some x=>simp
theorem wH (es:List En) (i:Nat):(kp es i).length<=i:=by
 unfold kp
 have h1:=List.length_filter_le (fun e:En=>e.2.isSome) (es.take i)
 have h2:=List.length_take_le i es
 omega
theorem oH (es:List En):kp es es.length=es.filter fun e=>e.2.isSome:=by unfold kp;rw [List.take_length]
theorem AU {k:HV} (h:kK (kp es i) k j):∃ p,p<i/\kK es k p:=by
 obtain ⟨e,h1,h2⟩:=h
 have hm:=(List.mem_filter.1 (List.mem_of_getElem? h1)).1
 obtain ⟨p,hp⟩:=List.mem_iff_getElem?.1 hm
 rw [List.getElem?_take] at hp
 split at hp
 ·rename_i c;exact ⟨p,c,e,hp,h2⟩
 ·cases hp
def Rt (es:List En) (i:Nat) (k:HV) (j:Nat):Prop:=kK (kp es i) k j∨(i<=j/\kK es k j)
theorem zT (es:List En) (k:HV) (j:Nat):Rt es 0 k j↔kK es k j:=by
 unfold Rt
 rw [yZ]
 constructor
 ·rintro (⟨e,h1,_⟩|h)
  ·simp at h1
  ·exact h.2
 ·exact fun h=>.inr ⟨Nat.zero_le _,h⟩
theorem Cm (es:List En) (k:HV) (j:Nat):kK (es.filter fun e=>e.2.isSome) k j↔Rt es es.length k j:=by
 unfold Rt
 rw [oH]
 constructor
 ·exact fun h=>.inl h
 ·rintro (h|⟨h1,e,h2,_⟩)
  ·exact h
  ·have:=(List.getElem?_eq_some_iff.1 h2).1
   omega
theorem Bj (kd:Kd es) {e:En} {k:HV} (h:es[i]?=some e) (hs:k.isSome=true) (hr:kK (kp es i) k j∨(i+1<=j/\kK es k j)):k≠e.1:=by
 intro c
 rcases hr with hr|⟨hj,x,h1,h2⟩
 ·obtain ⟨p,hp,x,h1,h2⟩:=AU hr
  have:=kd p i x e h1 h (by rw [h2];exact hs) (h2.trans c)
  omega
 ·have:=kd j i x e h1 h (by rw [h2];exact hs) (h2.trans c)
  omega
theorem AO (kd:Kd es) {e:En} (h:es[i]?=some e) (hb:e.2.isNone=true) (k:HV) (j:Nat) (hs:k.isSome=true):Rt es (i+1) k j↔(Rt es i k j/\k≠e.1):=by
 unfold Rt
 rw [nQ h hb]
 constructor
 ·intro hr
  refine ⟨?_,Bj kd h hs hr⟩
  rcases hr with hr|⟨h1,h2⟩
  ·exact .inl hr
  ·exact .inr ⟨by omega,h2⟩
 ·rintro ⟨hr|⟨h1,x,h2,h3⟩,hn⟩
  ·exact .inl hr
  ·refine .inr ⟨?_,x,h2,h3⟩
   rcases Nat.eq_or_lt_of_le h1 with c|c
   ·subst c
    rw [h] at h2
    cases h2
    exact absurd h3.symm hn
   ·exact c
theorem Aj (kd:Kd es) {e:En} (h:es[i]?=some e) (hb:e.2.isNone=false) (k:HV) (j:Nat) (hs:k.isSome=true):Rt es (i+1) k j↔((k=e.1/\j=(kp es i).length)∨(k≠e.1/\Rt es i k j)):=by
 have hne:=Bj kd (j:=j) h hs
 unfold Rt
 rw [oV h hb]
 have ha:kK (kp es i++[e]) k j↔kK (kp es i) k j∨(j=(kp es i).length/\e.1=k):=by
  unfold kK
  constructor
  ·rintro ⟨x,h1,h2⟩
   rw [List.getElem?_append] at h1
   split at h1
   ·exact .inl ⟨x,h1,h2⟩
   ·rename_i c
    rw [List.getElem?_singleton] at h1
    split at h1
    ·simp at h1
     exact .inr ⟨by omega,by rw [h1];exact h2⟩
    ·cases h1
  ·rintro (⟨x,h1,h2⟩|⟨h1,h2⟩)
   ·exact ⟨x,by rw [List.getElem?_append_left (List.getElem?_eq_some_iff.1 h1).1];exact h1,h2⟩
   ·exact ⟨e,by rw [h1,List.getElem?_append_right (Nat.le_refl _)];simp,h2⟩
 rw [ha]
 constructor
 ·rintro ((hr|⟨h1,h2⟩)|hr)
  ·exact .inr ⟨hne (.inl hr),.inl hr⟩
  ·exact .inl ⟨h2.symm,h1⟩
  ·exact .inr ⟨hne (.inr hr),.inr ⟨by omega,hr.2⟩⟩
 ·rintro (⟨h1,h2⟩|⟨h1,hr|⟨h2,x,h3,h4⟩⟩)
  ·exact .inl (.inr ⟨h2,h1.symm⟩)
  ·exact .inl (.inl hr)
  ·refine .inr ⟨?_,x,h3,h4⟩
   rcases Nat.eq_or_lt_of_le h2 with c|c
   ·subst c
    rw [h] at h3
    cases h3
    exact absurd h4.symm h1
   ·exact c
structure Ms (es ms:List En) (i:Nat):Prop where
 l:ms.length=es.length
 t:ms.take (kp es i).length=kp es i
 d:ms.drop i=es.drop i
theorem Ms.at_ (m:Ms es ms i) {e:En} (h:es[i]?=some e):ms[i]?=some e:=by
 have h1:(ms.drop i)[0]?=(es.drop i)[0]?:=by rw [m.d]
 simpa [h] using h1
theorem qG (x:En) (h:q<i):(ms.set q x).drop i=ms.drop i:=by
 refine List.ext_getElem? (fun p=>?_)
 rw [List.getElem?_drop,List.getElem?_drop,List.getElem?_set,if_neg (by omega)]
theorem Ms.bare (m:Ms es ms i) {e:En} (h:es[i]?=some e) (hb:e.2.isNone=true) (x:En):Ms es (ms.set i x) (i+1):=by
 refine ⟨by rw [List.length_set];exact m.l,?_,?_⟩
 ·rw [nQ h hb,List.take_set_of_le (wH es i)]
  exact m.t
 ·rw [qG x (by omega),<-List.drop_drop,m.d,List.drop_drop]
theorem Ms.keep (m:Ms es ms i) {e:En} (h:es[i]?=some e) (hb:e.2.isNone=false):Ms es (ms.set (kp es i).length e) (i+1):=by
 have hk:=wH es i
 have hi:=(List.getElem?_eq_some_iff.1 h).1
 have hl:=m.l
 refine ⟨by rw [List.length_set];exact m.l,?_,?_⟩
 ·rw [oV h hb,List.length_append,List.length_singleton,List.take_add_one,List.take_set_of_le (Nat.le_refl _),m.t,List.getElem?_set_self (by omega)]
  rfl
 ·rw [qG e (by omega),<-List.drop_drop,m.d,List.drop_drop]
theorem uO (es:List En):(es.filter fun e=>e.2.isSome).length+aK es=es.length:=by
 unfold aK
 induction es with
 |nil=>rfl
 |cons e l ih=>
  rw [List.filter_cons,List.filter_cons,List.length_cons]
  cases h:e.2<;>simp<;>omega
theorem vG (es:List En):aK (es.filter fun e=>e.2.isSome)=0:=by
 unfold aK
 rw [List.length_eq_zero_iff,List.filter_eq_nil_iff]
 intro e he
 have:=(List.mem_filter.1 he).2
 cases h:e.2 with
 |none=>rw [h] at this;cases this
 |some x=>simp
theorem uS (tb:Nat->Nat) (e:En) (h:j<es.length):(((((((((((fP tb es).set (j*10) (.int .i64 (vk e.1))).set (j*10+1) (.int .i64 (vi e.1))).set (j*10+2) (.int .u64 0)).set (j*10+3) (.string ByteArray.empty)).set (j*10+4) (aG tb e.1)).set (j*10+5) (.int .i64 (vk e.2))).set (j*10+6) (.int .i64 (vi e.2))).set (j*10+7) (.int .u64 0)).set (j*10+8) (.string ByteArray.empty)).set (j*10+9) (aG tb e.2))=fP tb (es.set j e):=by
 obtain ⟨h1,h2⟩:=jo (gZ tb) (List.getElem?_eq_getElem h) e
 have hl:=oJ tb es h
 unfold fP
 rw [h1,h2,show j*10=j*10+0 from rfl,aT _ _ _ _ _ _ _ hl (by simp [gZ,iV]),show j*10+0+1=j*10+1 from rfl,show j*10+0+2=j*10+2 from rfl,show j*10+0+3=j*10+3 from rfl,show j*10+0+4=j*10+4 from rfl,show j*10+0+5=j*10+5 from rfl,show j*10+0+6=j*10+6 from rfl,show j*10+0+7=j*10+7 from rfl,show j*10+0+8=j*10+8 from rfl,show j*10+0+9=j*10+9 from rfl,aT _ _ _ _ _ _ _ hl (by simp [gZ,iV]),aT _ _ _ _ _ _ _ hl (by simp [gZ,iV]),aT _ _ _ _ _ _ _ hl (by simp [gZ,iV]),aT _ _ _ _ _ _ _ hl (by simp [gZ,iV]),aT _ _ _ _ _ _ _ hl (by simp [gZ,iV]),aT _ _ _ _ _ _ _ hl (by simp [gZ,iV]),aT _ _ _ _ _ _ _ hl (by simp [gZ,iV]),aT _ _ _ _ _ _ _ hl (by simp [gZ,iV]),aT _ _ _ _ _ _ _ hl (by simp [gZ,iV])]
 rfl
theorem uZ (e:En) (h:w.ownsRow base 167 10 (.slice (some ⟨g,0,none⟩) ms.length cap) ms.length (fP tb ms)) (hq:q<ms.length):
 World.ownsRow ((((((((((w.setCell ⟨g,q*10,none⟩ (.int .i64 (vk e.1))).setCell ⟨g,q*10+1,none⟩ (.int .i64 (vi e.1))).setCell ⟨g,q*10+2,none⟩ (.int .u64 0)).setCell ⟨g,q*10+3,none⟩ (.string ByteArray.empty)).setCell ⟨g,q*10+4,none⟩ (aG tb e.1)).setCell ⟨g,q*10+5,none⟩ (.int .i64 (vk e.2))).setCell ⟨g,q*10+6,none⟩ (.int .i64 (vi e.2))).setCell ⟨g,q*10+7,none⟩ (.int .u64 0)).setCell ⟨g,q*10+8,none⟩ (.string ByteArray.empty)).setCell ⟨g,q*10+9,none⟩ (aG tb e.2)) base 167 10 (.slice (some ⟨g,0,none⟩) ms.length cap) ms.length (fP tb (ms.set q e))/\
 Keeps w ((((((((((w.setCell ⟨g,q*10,none⟩ (.int .i64 (vk e.1))).setCell ⟨g,q*10+1,none⟩ (.int .i64 (vi e.1))).setCell ⟨g,q*10+2,none⟩ (.int .u64 0)).setCell ⟨g,q*10+3,none⟩ (.string ByteArray.empty)).setCell ⟨g,q*10+4,none⟩ (aG tb e.1)).setCell ⟨g,q*10+5,none⟩ (.int .i64 (vk e.2))).setCell ⟨g,q*10+6,none⟩ (.int .i64 (vi e.2))).setCell ⟨g,q*10+7,none⟩ (.int .u64 0)).setCell ⟨g,q*10+8,none⟩ (.string ByteArray.empty)).setCell ⟨g,q*10+9,none⟩ (aG tb e.2)) (fun b=>b=g):=by
 have h1:=aH (aH (aH (aH (aH (aH (aH (aH (aH (aH (h) (show q*10<ms.length*10 by omega) (.int .i64 (vk e.1))) (show q*10+1<ms.length*10 by omega) (.int .i64 (vi e.1))) (show q*10+2<ms.length*10 by omega) (.int .u64 0)) (show q*10+3<ms.length*10 by omega) (.string ByteArray.empty)) (show q*10+4<ms.length*10 by omega) (aG tb e.1)) (show q*10+5<ms.length*10 by omega) (.int .i64 (vk e.2))) (show q*10+6<ms.length*10 by omega) (.int .i64 (vi e.2))) (show q*10+7<ms.length*10 by omega) (.int .u64 0)) (show q*10+8<ms.length*10 by omega) (.string ByteArray.empty)) (show q*10+9<ms.length*10 by omega) (aG tb e.2)
 rw [uS tb e hq] at h1
 exact ⟨h1,Keeps.setCell (S:=fun b=>b=g) (Keeps.setCell (S:=fun b=>b=g) (Keeps.setCell (S:=fun b=>b=g) (Keeps.setCell (S:=fun b=>b=g) (Keeps.setCell (S:=fun b=>b=g) (Keeps.setCell (S:=fun b=>b=g) (Keeps.setCell (S:=fun b=>b=g) (Keeps.setCell (S:=fun b=>b=g) (Keeps.setCell (S:=fun b=>b=g) (Keeps.setCell (S:=fun b=>b=g) (Keeps.refl w (fun b=>b=g)) rfl (.int .i64 (vk e.1))) rfl (.int .i64 (vi e.1))) rfl (.int .u64 0)) rfl (.string ByteArray.empty)) rfl (aG tb e.1)) rfl (.int .i64 (vk e.2))) rfl (.int .i64 (vi e.2))) rfl (.int .u64 0)) rfl (.string ByteArray.empty)) rfl (aG tb e.2)⟩
structure JZ (base:Nat) (tb:Nat->Nat) (t b g cap:Nat) (f:Nat->Value) (es:List En) (w:World) (i:Nat) (ms:List En) (wr:World):Prop where
 m:Ms es ms i
 r:aD wr 136 t 13 f
 e:wr.ownsRow base 167 10 (.slice (some ⟨g,0,none⟩) ms.length cap) ms.length (fP tb ms)
 p:jr wr b (Rt es i)
 k:Keeps w wr (fun c=>c=g∨c=b)
theorem JZ.low {t:Nat} (x:JZ base tb t b g cap f es w i ms wr) (hb:Below wr.heap.size wr w'):JZ base tb t b g cap f es w i ms w':=
 have k:=fun S=>Keeps.of hb (Nat.le_refl _) S
 ⟨x.m,x.r.keep (k fun _=>False) id,aj x.e (k fun _=>False) (fun _ _ e=>e),x.p.keep (k fun _=>False) id,x.k.trans (k _)⟩
theorem JZ.bare {base:Nat} {tb:Nat->Nat} {t b g cap:Nat} {f:Nat->Value} {es:List En} {w:World} {i:Nat} {ms:List En} {w4 w5:World} (x:JZ base tb t b g cap f es w i ms w4) {e:En} (he:es[i]?=some e) (hb:e.2.isNone=true) (hgt:g≠t) (hbt:b≠t)
 (hE:w5.ownsRow base 167 10 (.slice (some ⟨g,0,none⟩) ms.length cap) ms.length (fP tb (ms.set i (none,e.2)))) (hM:jr w5 b (fun k' j=>Rt es i k' j/\k'≠e.1)) (hk:Keeps w4 w5 (fun c=>c=g∨c=b)) (kd:Kd es):JZ base tb t b g cap f es w (i+1) (ms.set i (none,e.2)) w5:=by
 refine ⟨x.m.bare he hb _,x.r.keep hk (fun c=>?_),by rw [List.length_set];exact hE,hM.congr (fun k j hs=>AO kd he hb k j hs),x.k.trans hk⟩
 rcases c with c|c
 ·exact hgt c.symm
 ·exact hbt c.symm
theorem JZ.Ig {t:Nat} (x:JZ base tb t b g cap f es w i ms w4) {e:En} (he:es[i]?=some e) (hb:e.2.isNone=false) (hgt:g≠t) (hbg:b≠g) (hq:(kp es i).length=q) (hr:aD w8 136 t 13 f)
 (hE:w5.ownsRow base 167 10 (.slice (some ⟨g,0,none⟩) ms.length cap) ms.length (fP tb (ms.set q e))) (hM:jr w8 b (fun k' j=>(k'=e.1/\j=q)∨(k'≠e.1/\Rt es i k' j))) (hk:Keeps w4 w8 (fun c=>c=b)) (hk5:Keeps w8 w5 (fun c=>c=g)) (hb6:Below w5.heap.size w5 w6) (kd:Kd es):JZ base tb t b g cap f es w (i+1) (ms.set q e) w6:=by
 subst hq
 have h5:JZ base tb t b g cap f es w (i+1) (ms.set (kp es i).length e) w5:=
  ⟨x.m.keep he hb,hr.keep hk5 (fun c=>hgt c.symm),by rw [List.length_set];exact hE,(hM.congr (fun k j hs=>Aj kd he hb k j hs)).keep hk5 hbg,(x.k.trans (hk.mono (fun c e=>.inr e))).trans (hk5.mono (fun c e=>.inl e))⟩
 exact h5.low hb6
theorem wO (w:World):(zeroValue 167).run Tryz.prog w=.ok (.agg #[.int .i64 0,.int .i64 0,.int .u64 0,.string ByteArray.empty,.nilIface,.int .i64 0,.int .i64 0,.int .u64 0,.string ByteArray.empty,.nilIface]) w:=by kernel_rfl
theorem zo {t:Nat} (x:JL base tb t n o sz es ev mv w) (hlen:es.length<=5000) (hbare:1<=aK es) (hd:∀ e∈es,Hd tb w e.1) (hkn:∀ e∈es,e.2.isSome=true->e.1.isSome=true):
 Calls Tryz.prog 125 #[.pointer (some ⟨t,0,none⟩)] w fun e' w'=>e'=.returned (.tuple #[])/\∃ ev',JL base tb t n o sz (es.filter fun e=>e.2.isSome) ev' mv w'/\Keeps w w' (fun c=>c=t∨ev.ownBlock=some c∨bJ mv=some c)/\ev'.ownBlock=ev.ownBlock:=by
 have hbk:=uO es
 obtain ⟨A,cap,hev,hcap,hent⟩:=fB x.e
 obtain ⟨g,rfl⟩:∃ g,A=some ⟨g,0,none⟩:=by
  have h1:0<es.length:=by omega
  obtain ⟨g,hg,_⟩:=hent 0 _ (List.getElem?_eq_getElem h1)
  exact ⟨g,hg⟩
 subst hev
 obtain ⟨b,hb,hmw,hkk,hkd⟩:∃ b,mv=.map (some b)/\jr w b (kK es)/\(∀ e∈es,mD e.1)/\Kd es:=by
  rcases x.m with ⟨_,h⟩|⟨b,ents,clk,h1,h2,h3⟩
  ·rw [h] at hbare;simp [aK] at hbare
  ·exact ⟨b,h1,⟨ents,clk,h2,h3.p⟩,h3.kk,h3.kd⟩
 subst hb
 have hbg:b≠g:=fun c=>(x.m).apart (au x.e (g:=g) (by simp [Value.ownBlock])) (by rw [c];rfl)
 have hbt:b≠t:=fun c=>(x.m).apart x.r (by rw [c];rfl)
 have hgt:g≠t:=fun c=>(au x.e (g:=g) (by simp [Value.ownBlock])).apart x.r (by decide) c
 have c7:w.cell? ⟨t,7,none⟩=some (.slice (some ⟨g,0,none⟩) es.length cap):=x.r.cell (j:=7) (by omega)
 have HI0:Hq (JZ base tb t b g cap (ql o n sz es (.slice (some ⟨g,0,none⟩) es.length cap) (.map (some b))) es w 0 es w):=ah ⟨⟨rfl,rfl,rfl⟩,x.r,x.e,hmw.congr (fun k i _=>zT es k i),Keeps.refl _ _⟩
 have HAP:=ah (fun (b':Nat) (f':Nat->Value) (hr:aD w 136 b' 13 f')=>show ¬ (b'=g∨b'=b) from fun c=>by
  rcases c with c|c
  ·exact (au x.e (g:=g) (by simp [Value.ownBlock])).apart hr (by decide) c.symm
  ·exact x.m.apart hr (by rw [c];rfl))
 have HD:=ah hd
 have HKN:=ah hkn
 have HKK:=ah hkk
 have HKD:=ah hkd
 have HBK:=ah hbk
 have htl:=x.r.lt
 clear x hd hkn hkk hkd hbk hmw hent
 go_enter Tryz.func125,Tryz.ntmps125
 go_wp2
 go_loopw [2,10] (fun kv iv wr=>∃ i:Nat,i<=es.length/\kv=.int .i64 ((kp es i).length:Nat)/\iv=.int .i64 i/\Hq (∃ ms,JZ base tb t b g cap (ql o n sz es (.slice (some ⟨g,0,none⟩) es.length cap) (.map (some b))) es w i ms wr)) (fun _ iv _=>es.length-aU iv)
 case atStart=>exact ⟨0,by omega,rfl,rfl,es,HI0.o⟩
 case round=>
  obtain ⟨i,hi9,rfl,rfl,HJ⟩:=hrel
  obtain ⟨ms,hI⟩:=HJ.o
  clear HJ HI0
  by_cases hin:i<es.length
  ·obtain ⟨e,he⟩:∃ e,es[i]?=some e:=⟨_,List.getElem?_eq_getElem hin⟩
   have hme:=hI.m.at_ he
   obtain ⟨A1,cap1,hev1,hcap1,hent1⟩:=fB hI.e
   simp only [Value.slice.injEq,true_and] at hev1
   obtain ⟨hA1,hc1⟩:=hev1
   subst hA1 hc1
   obtain ⟨g1,hg1,hglt,hcells⟩:=hent1 i e hme
   simp only [Option.some.injEq,Addr.mk.injEq,and_true] at hg1
   subst hg1
   have hini:(i:Int)<(es.length:Int):=by omega
   have d0:=hcells 0 _ rfl
   have d1:=hcells 1 _ rfl
   have d2:=hcells 2 _ rfl
   have d3:=hcells 3 _ rfl
   have d4:=hcells 4 _ rfl
   have d5:=hcells 5 _ rfl
   have d6:=hcells 6 _ rfl
   have d7:=hcells 7 _ rfl
   have d8:=hcells 8 _ rfl
   have d9:=hcells 9 _ rfl
   simp only [Nat.add_zero] at d0
   have hem:=List.mem_of_getElem? he
   have hdk:Hd tb wr e.1:=(HD.o e hem).keep hI.k HAP.o
   have HDK:=ah hdk
   have HKE:=ah (HKK.o e hem)
   have hkl:=wH es i
   have HE9:=ah he
   have hml:=hI.m.l
   have hkm:(kp es i).length<ms.length:=by omega
   have HX:=ah (kF wr tb e)
   have HB:=ah (aJ wr (.cells #[.int .i64 (vk e.1),.int .i64 (vi e.1),.int .u64 0,.string ByteArray.empty,aG tb e.1,.int .i64 (vk e.2),.int .i64 (vi e.2),.int .u64 0,.string ByteArray.empty,aG tb e.2] 167))
   have HI3:=ah (hI.low (aJ wr (.cells #[.int .i64 (vk e.1),.int .i64 (vi e.1),.int .u64 0,.string ByteArray.empty,aG tb e.1,.int .i64 (vk e.2),.int .i64 (vi e.2),.int .u64 0,.string ByteArray.empty,aG tb e.2] 167)))
   have HD3:=ah (hdk.low (aJ wr (.cells #[.int .i64 (vk e.1),.int .i64 (vi e.1),.int .u64 0,.string ByteArray.empty,aG tb e.1,.int .i64 (vk e.2),.int .i64 (vi e.2),.int .u64 0,.string ByteArray.empty,aG tb e.2] 167)))
   have hXg:wr.heap.size≠g:=by omega
   have hXb:wr.heap.size≠b:=by have:=hI.p.lt;omega
   clear hdk he hme hent1 hcells hem hI
   go_upto_region 4 with (fail)
   generalize wr.alloc (.cells #[.int .i64 (vk e.1),.int .i64 (vi e.1),.int .u64 0,.string ByteArray.empty,aG tb e.1,.int .i64 (vk e.2),.int .i64 (vi e.2),.int .u64 0,.string ByteArray.empty,aG tb e.2] 167)=w3 at *
   generalize wr.heap.size=X at *
   clear d0 d1 d2 d3 d4 d5 d6 d7 d8 d9
   have y5:w3.cell? ⟨X,5,none⟩=some (.int .i64 (vk e.2)):=HX.o.cell (j:=5) (by omega)
   have y6:w3.cell? ⟨X,6,none⟩=some (.int .i64 (vi e.2)):=HX.o.cell (j:=6) (by omega)
   have y7:w3.cell? ⟨X,7,none⟩=some (.int .u64 0):=HX.o.cell (j:=7) (by omega)
   have y8:w3.cell? ⟨X,8,none⟩=some (.string ByteArray.empty):=HX.o.cell (j:=8) (by omega)
   have y9:w3.cell? ⟨X,9,none⟩=some (aG tb e.2):=HX.o.cell (j:=9) (by omega)
   have HN:=ah (aZ w3 tb e.2)
   obtain ⟨q,hq⟩:∃ q,(kp es i).length=q:=⟨_,rfl⟩
   rw [hq]
   rw [hq] at hkm hkl
   have HQ:=ah hq
   clear hq
   cases hb:e.2.isNone with
   |true=>
    rw [hb] at HN
    have HBE:=ah hb
    clear hb
    go_wp2_with fail
    refine HN.o.mono ?_
    rintro e9 w4 ⟨rfl,hb4⟩
    have HI4:=ah (HI3.o.low hb4)
    have HD4:=ah (HD3.o.low hb4)
    have HLK:=ah (wK HI4.o.r (show _=Value.slice (some ⟨g,0,none⟩) ms.length cap by rw [hml];rfl) rfl HI4.o.e HI4.o.p (HI4.o.m.at_ HE9.o) HKE.o HD4.o (by omega))
    clear hb4 y5 y6 y7 y8 y9
    go_wp2_with fail
    refine HLK.o.mono ?_
    rintro e5 w5 ⟨rfl,hE5,hM5,hK5⟩
    have H5:Hq (JZ base tb t b g cap (ql o n sz es (.slice (some ⟨g,0,none⟩) es.length cap) (.map (some b))) es w (i+1) (ms.set i (none,e.2)) w5):=ah (HI4.o.bare HE9.o HBE.o hgt hbt hE5 hM5 hK5 HKD.o)
    have HKQ:=ah ((congrArg List.length (nQ HE9.o HBE.o)).trans HQ.o)
    clear hE5 hM5 hK5
    go_wp2
    go_roundw
    case rel=>exact ⟨i+1,by omega,by rw [HKQ.o],by simp,_,H5.o⟩
    case measure=>simp [aU];omega
   |false=>
    rw [hb] at HN
    have HBE:=ah hb
    clear hb
    go_wp2_with fail
    refine HN.o.mono ?_
    rintro e9 w4 ⟨rfl,hb4⟩
    have HI4:=ah (HI3.o.low hb4)
    have HD4:=ah (HD3.o.low hb4)
    have HX4:=ah (HX.o.keep (Keeps.of hb4 (Nat.le_refl _) (fun _=>False)) (fun x=>x))
    clear hb4 y5 y6 y7 y8 y9 HX HN HI3 HD3
    have HT:=ah (fun (w':World) (hb:Below w4.heap.size w4 w')=>(HD4.o.low hb).c)
    have HM:=ah (fun (w':World) (hb:Below w4.heap.size w4 w')=>HI4.o.p.keep (Keeps.of hb (Nat.le_refl _) (fun _=>False)) (fun e=>e))
    have hes:e.1.isSome=true:=HKN.o e (List.mem_of_getElem? HE9.o) (by cases h9:e.2 with
     |none=>have:=HBE.o;rw [h9] at this;cases this
     |some _=>rfl)
    have HES:=ah hes
    clear hes
    have htl4:=HI4.o.r.lt
    have hXl4:=HX4.o.lt
    have c8:w4.cell? ⟨t,8,none⟩=some (.map (some b)):=HI4.o.r.cell (j:=8) (by omega)
    have x0:w4.cell? ⟨X,0,none⟩=some (.int .i64 (vk e.1)):=HX4.o.cell (j:=0) (by omega)
    have x1:w4.cell? ⟨X,1,none⟩=some (.int .i64 (vi e.1)):=HX4.o.cell (j:=1) (by omega)
    have x2:w4.cell? ⟨X,2,none⟩=some (.int .u64 0):=HX4.o.cell (j:=2) (by omega)
    have x3:w4.cell? ⟨X,3,none⟩=some (.string ByteArray.empty):=HX4.o.cell (j:=3) (by omega)
    have x4:w4.cell? ⟨X,4,none⟩=some (aG tb e.1):=HX4.o.cell (j:=4) (by omega)
    go_wp2_with fail
    go_region_held3 (fun w'=>w'.cell? ⟨t,8,none⟩=some (.map (some b))/\w'.cell? ⟨X,0,none⟩=some (.int .i64 (vk e.1))/\w'.cell? ⟨X,1,none⟩=some (.int .i64 (vi e.1))/\w'.cell? ⟨X,2,none⟩=some (.int .u64 0)/\w'.cell? ⟨X,3,none⟩=some (.string ByteArray.empty)/\w'.cell? ⟨X,4,none⟩=some (aG tb e.1)) (go_keep)
     (first
       |(refine fG (.tmp 26) rfl tb e.1 rfl (HT.o _ (ay (Below.refl _ _) _)) ?_
         intro w9 hb9x
         have hb9:Below w4.heap.size w4 w9:=(ay (Below.refl w4.heap.size w4) _).trans hb9x
         have HB9:=ah hb9
         have t1:=(hb9.cell (p:=⟨t,8,none⟩) htl4).trans c8
         have t2:=(hb9.cell (p:=⟨X,0,none⟩) hXl4).trans x0
         have t3:=(hb9.cell (p:=⟨X,1,none⟩) hXl4).trans x1
         have t4:=(hb9.cell (p:=⟨X,2,none⟩) hXl4).trans x2
         have t5:=(hb9.cell (p:=⟨X,3,none⟩) hXl4).trans x3
         have t6:=(hb9.cell (p:=⟨X,4,none⟩) hXl4).trans x4
         clear hb9 hb9x
         obtain ⟨w8,hup,hm8,hk8,hs8⟩:=wI (HM.o _ HB9.o) HKE.o HES.o q
         have u1:=(World.cell?_of_block (a:=⟨t,8,none⟩) (hk8.block _ (Nat.lt_of_lt_of_le htl4 HB9.o.size) hbt.symm)).trans t1
         have u2:=(World.cell?_of_block (a:=⟨X,0,none⟩) (hk8.block _ (Nat.lt_of_lt_of_le hXl4 HB9.o.size) hXb)).trans t2
         have u3:=(World.cell?_of_block (a:=⟨X,1,none⟩) (hk8.block _ (Nat.lt_of_lt_of_le hXl4 HB9.o.size) hXb)).trans t3
         have u4:=(World.cell?_of_block (a:=⟨X,2,none⟩) (hk8.block _ (Nat.lt_of_lt_of_le hXl4 HB9.o.size) hXb)).trans t4
         have u5:=(World.cell?_of_block (a:=⟨X,3,none⟩) (hk8.block _ (Nat.lt_of_lt_of_le hXl4 HB9.o.size) hXb)).trans t5
         have u6:=(World.cell?_of_block (a:=⟨X,4,none⟩) (hk8.block _ (Nat.lt_of_lt_of_le hXl4 HB9.o.size) hXb)).trans t6
         have H8:=ah (show jr w8 b (fun k' j=>(k'=e.1/\j=q)∨(k'≠e.1/\Rt es i k' j))/\Keeps w4 w8 (fun c=>c=b) from ⟨hm8,(Keeps.of HB9.o (Nat.le_refl _) _).trans hk8⟩)
         clear hm8 hk8 hs8))
    clear hup c8 x0 x1 x2 x3 x4 t1 t2 t3 t4 t5 t6 u1 u2 u3 u4 u5 u6
    have HX8:=ah (HX4.o.keep H8.o.2 hXb)
    have HE8:=ah (aj HI4.o.e H8.o.2 (fun p hp c=>by
     simp [Value.ownBlock] at hp
     exact hbg (c.symm.trans hp.symm)))
    have hr8:=HI4.o.r.keep H8.o.2 (fun c=>hbt c.symm)
    have c7:w8.cell? ⟨t,7,none⟩=some (.slice (some ⟨g,0,none⟩) es.length cap):=hr8.cell (j:=7) (by omega)
    obtain ⟨A2,cap2,hev2,hcap2,hent2⟩:=fB HE8.o
    simp only [Value.slice.injEq,true_and] at hev2
    obtain ⟨hA2,hc2⟩:=hev2
    subst hA2 hc2
    obtain ⟨g2,hg2,hglt2,hcells2⟩:=hent2 q _ (List.getElem?_eq_getElem hkm)
    simp only [Option.some.injEq,Addr.mk.injEq,and_true] at hg2
    subst hg2
    have z:∀ j,w8.frozen? ⟨g,j,none⟩=false:=fun j=>(au HE8.o (g:=g) (by simp [Value.ownBlock])).Jv j
    have v0:w8.cell? ⟨X,0,none⟩=some (.int .i64 (vk e.1)):=HX8.o.cell (j:=0) (by omega)
    have v1:w8.cell? ⟨X,1,none⟩=some (.int .i64 (vi e.1)):=HX8.o.cell (j:=1) (by omega)
    have v2:w8.cell? ⟨X,2,none⟩=some (.int .u64 0):=HX8.o.cell (j:=2) (by omega)
    have v3:w8.cell? ⟨X,3,none⟩=some (.string ByteArray.empty):=HX8.o.cell (j:=3) (by omega)
    have v4:w8.cell? ⟨X,4,none⟩=some (aG tb e.1):=HX8.o.cell (j:=4) (by omega)
    have v5:w8.cell? ⟨X,5,none⟩=some (.int .i64 (vk e.2)):=HX8.o.cell (j:=5) (by omega)
    have v6:w8.cell? ⟨X,6,none⟩=some (.int .i64 (vi e.2)):=HX8.o.cell (j:=6) (by omega)
    have v7:w8.cell? ⟨X,7,none⟩=some (.int .u64 0):=HX8.o.cell (j:=7) (by omega)
    have v8:w8.cell? ⟨X,8,none⟩=some (.string ByteArray.empty):=HX8.o.cell (j:=8) (by omega)
    have v9:w8.cell? ⟨X,9,none⟩=some (aG tb e.2):=HX8.o.cell (j:=9) (by omega)
    have s0:=hcells2 0 _ rfl
    have s1:=hcells2 1 _ rfl
    have s2:=hcells2 2 _ rfl
    have s3:=hcells2 3 _ rfl
    have s4:=hcells2 4 _ rfl
    have s5:=hcells2 5 _ rfl
    have s6:=hcells2 6 _ rfl
    have s7:=hcells2 7 _ rfl
    have s8:=hcells2 8 _ rfl
    have s9:=hcells2 9 _ rfl
    simp only [Nat.add_zero] at s0
    have hqi:(q:Int)<(es.length:Int):=by omega
    have HS:=ah (uZ e HE8.o hkm)
    have HR8:=ah hr8
    clear hr8 hent2 hcells2
    go_wp2_with fail
    go_cut [] (fun wc=>wc=((((((((((w8.setCell ⟨g,q*10,none⟩ (.int .i64 (vk e.1))).setCell ⟨g,q*10+1,none⟩ (.int .i64 (vi e.1))).setCell ⟨g,q*10+2,none⟩ (.int .u64 0)).setCell ⟨g,q*10+3,none⟩ (.string ByteArray.empty)).setCell ⟨g,q*10+4,none⟩ (aG tb e.1)).setCell ⟨g,q*10+5,none⟩ (.int .i64 (vk e.2))).setCell ⟨g,q*10+6,none⟩ (.int .i64 (vi e.2))).setCell ⟨g,q*10+7,none⟩ (.int .u64 0)).setCell ⟨g,q*10+8,none⟩ (.string ByteArray.empty)).setCell ⟨g,q*10+9,none⟩ (aG tb e.2)).drewN 1)
    case first=>
     go_region
     all_goals
      go_wp2_with fail
      go_meet
      rfl
    case rest=>
    obtain rfl:=hcut
    have HB6:=ah (ay (Below.refl (((((((((((w8.setCell ⟨g,q*10,none⟩ (.int .i64 (vk e.1))).setCell ⟨g,q*10+1,none⟩ (.int .i64 (vi e.1))).setCell ⟨g,q*10+2,none⟩ (.int .u64 0)).setCell ⟨g,q*10+3,none⟩ (.string ByteArray.empty)).setCell ⟨g,q*10+4,none⟩ (aG tb e.1)).setCell ⟨g,q*10+5,none⟩ (.int .i64 (vk e.2))).setCell ⟨g,q*10+6,none⟩ (.int .i64 (vi e.2))).setCell ⟨g,q*10+7,none⟩ (.int .u64 0)).setCell ⟨g,q*10+8,none⟩ (.string ByteArray.empty)).setCell ⟨g,q*10+9,none⟩ (aG tb e.2))).heap.size (((((((((((w8.setCell ⟨g,q*10,none⟩ (.int .i64 (vk e.1))).setCell ⟨g,q*10+1,none⟩ (.int .i64 (vi e.1))).setCell ⟨g,q*10+2,none⟩ (.int .u64 0)).setCell ⟨g,q*10+3,none⟩ (.string ByteArray.empty)).setCell ⟨g,q*10+4,none⟩ (aG tb e.1)).setCell ⟨g,q*10+5,none⟩ (.int .i64 (vk e.2))).setCell ⟨g,q*10+6,none⟩ (.int .i64 (vi e.2))).setCell ⟨g,q*10+7,none⟩ (.int .u64 0)).setCell ⟨g,q*10+8,none⟩ (.string ByteArray.empty)).setCell ⟨g,q*10+9,none⟩ (aG tb e.2)))) 1)
    have H6:Hq (JZ base tb t b g cap (ql o n sz es (.slice (some ⟨g,0,none⟩) es.length cap) (.map (some b))) es w (i+1) (ms.set q e) (((((((((((w8.setCell ⟨g,q*10,none⟩ (.int .i64 (vk e.1))).setCell ⟨g,q*10+1,none⟩ (.int .i64 (vi e.1))).setCell ⟨g,q*10+2,none⟩ (.int .u64 0)).setCell ⟨g,q*10+3,none⟩ (.string ByteArray.empty)).setCell ⟨g,q*10+4,none⟩ (aG tb e.1)).setCell ⟨g,q*10+5,none⟩ (.int .i64 (vk e.2))).setCell ⟨g,q*10+6,none⟩ (.int .i64 (vi e.2))).setCell ⟨g,q*10+7,none⟩ (.int .u64 0)).setCell ⟨g,q*10+8,none⟩ (.string ByteArray.empty)).setCell ⟨g,q*10+9,none⟩ (aG tb e.2)).drewN 1)):=ah (HI4.o.Ig HE9.o HBE.o hgt hbg HQ.o HR8.o HS.o.1 H8.o.1 H8.o.2 HS.o.2 HB6.o HKD.o)
    generalize ((((((((((w8.setCell ⟨g,q*10,none⟩ (.int .i64 (vk e.1))).setCell ⟨g,q*10+1,none⟩ (.int .i64 (vi e.1))).setCell ⟨g,q*10+2,none⟩ (.int .u64 0)).setCell ⟨g,q*10+3,none⟩ (.string ByteArray.empty)).setCell ⟨g,q*10+4,none⟩ (aG tb e.1)).setCell ⟨g,q*10+5,none⟩ (.int .i64 (vk e.2))).setCell ⟨g,q*10+6,none⟩ (.int .i64 (vi e.2))).setCell ⟨g,q*10+7,none⟩ (.int .u64 0)).setCell ⟨g,q*10+8,none⟩ (.string ByteArray.empty)).setCell ⟨g,q*10+9,none⟩ (aG tb e.2)).drewN 1=w6 at *
    have HKQ:Hq ((kp es (i+1)).length=q+1):=ah (by rw [oV HE9.o HBE.o,List.length_append,HQ.o];rfl)
    clear c7 z v0 v1 v2 v3 v4 v5 v6 v7 v8 v9 s0 s1 s2 s3 s4 s5 s6 s7 s8 s9
    go_wp2
    go_roundw
    case rel=>exact ⟨i+1,by omega,by rw [HKQ.o];simp,by simp,_,H6.o⟩
    case measure=>simp [aU];omega
  ·have hie:i=es.length:=by omega
   subst hie
   have hqb:=HBK.o
   rw [<-oH] at hqb
   have HIZ:=ah hI
   have hml:=hI.m.l
   obtain ⟨q,hq⟩:∃ q,(kp es es.length).length=q:=⟨_,rfl⟩
   rw [hq]
   rw [hq] at hqb
   have HQ:=ah hq
   have hE9:wr.ownsRow base 167 10 (.slice (some ⟨g,0,none⟩) es.length cap) es.length (fP tb ms):=by rw [<-hml];exact hI.e
   obtain ⟨w1,hcl,ho1,hk1',hs1⟩:=jU (w:=wr) (c:=cap-q) Tryz.underlying131 wO (s:=10) rfl (fun u hu=>by simp [Value.cells] at hu;rcases hu with rfl|rfl|rfl|rfl|rfl|rfl|rfl|rfl|rfl|rfl<;>rfl) hE9 (show q<es.length by omega) 0
   have c7r:wr.cell? ⟨t,7,none⟩=some (.slice (some ⟨g,0,none⟩) es.length cap):=hI.r.cell (j:=7) (by omega)
   have hr1:=hI.r.keep hk1' (fun c=>hgt c.symm)
   have hp1:=hI.p.keep hk1' hbg
   have d7:w1.cell? ⟨t,7,none⟩=some (.slice (some ⟨g,0,none⟩) es.length cap):=hr1.cell (j:=7) (by omega)
   have d9:w1.cell? ⟨t,9,none⟩=some (.int .i64 (aK es:Int)):=hr1.cell (j:=9) (by omega)
   have z7:=hr1.Jv 7
   have z9:=hr1.Jv 9
   have HR1:=ah hr1
   have HP1:=ah hp1
   have HO1:Hq (w1.ownsRow base 167 10 (.slice (some ⟨g,0,none⟩) q cap) (es.filter fun e=>e.2.isSome).length (fP tb (es.filter fun e=>e.2.isSome))/\(es.filter fun e=>e.2.isSome).length=q):=ah (by
    have h2:=hI.m.t
    rw [hq,oH] at h2
    have h3:(es.filter fun e=>e.2.isSome).length=q:=by rw [<-oH];exact hq
    have h4:(fP tb ms).take (q*10)=fP tb (es.filter fun e=>e.2.isSome):=by
     rw [<-h2]
     conv=>lhs;rw [<-List.take_append_drop q ms]
     unfold fP
     rw [List.flatMap_append,List.take_append_of_le_length (by rw [show (ms.take q).flatMap (gZ tb)=fP tb (ms.take q) from rfl,oU,List.length_take];omega)]
     refine List.take_of_length_le ?_
     rw [show (ms.take q).flatMap (gZ tb)=fP tb (ms.take q) from rfl,oU,List.length_take]
     omega
    rw [h4] at ho1
    refine ⟨?_,h3⟩
    rw [h3]
    exact ho1)
   have HK1:=ah ((hI.k.mono (fun c e=>e.imp id id)).trans (hk1'.mono (fun c e=>Or.inl e)))
   have hq1:(q:Int)<=(es.length:Int):=by omega
   have hq2:(q:Int)<=(cap:Int):=by omega
   have hq3:(q:Int)<(es.length:Int):=by omega
   clear hI hq hE9 ho1 hk1' hs1 hr1 hp1 HD HKN HKK HKD
   go_wp2
   go_end0
   have k2:Keeps w1 ((w1.setCell ⟨t,7,none⟩ (.slice (some ⟨g,0,none⟩) q cap)).setCell ⟨t,9,none⟩ (.int .i64 0)) (fun c=>c=t):=Keeps.setCell (S:=fun c=>c=t) (Keeps.setCell (S:=fun c=>c=t) (Keeps.refl w1 _) rfl _) rfl _
   refine ⟨rfl,.slice (some ⟨g,0,none⟩) q cap,⟨?_,?_,?_⟩,?_,rfl⟩
   ·refine ((HR1.o.set (j:=7) (by omega) (.slice (some ⟨g,0,none⟩) q cap)).set (j:=9) (by omega) (.int .i64 0)).congr (fun k hk=>?_)
    refine bK (fun k=>(if k=9 then (.int .i64 0:Value) else if k=7 then .slice (some ⟨g,0,none⟩) q cap else ql o n sz es (.slice (some ⟨g,0,none⟩) es.length cap) (.map (some b)) k)=ql o n sz (es.filter fun e=>e.2.isSome) (.slice (some ⟨g,0,none⟩) q cap) (.map (some b)) k) rfl rfl rfl rfl rfl rfl rfl rfl rfl ?_ rfl rfl rfl k hk
    simp [ql,vG]
   ·exact aj HO1.o.1 k2 (fun p hp c=>by
     simp [Value.ownBlock] at hp
     exact hgt (hp.trans c))
   ·exact ((HP1.o.congr (fun k j _=>Cm es k j)).keep k2 hbt).a
   ·exact (HK1.o.mono (fun c e=>by
     rcases e with e|e
     ·exact .inr (.inl (by rw [e];simp [Value.ownBlock]))
     ·exact .inr (.inr (by rw [e];rfl)))).trans (k2.mono (fun c e=>.inl e))
end
end Go.Proofs.YtedpifhlffcmkaaGreatDoor
