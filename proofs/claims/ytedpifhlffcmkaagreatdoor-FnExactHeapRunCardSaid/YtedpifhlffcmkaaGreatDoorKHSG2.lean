import Derived.Test.YtedpifhlffcmkaaGreatDoorKHSD
namespace Go.Proofs.YtedpifhlffcmkaaGreatDoor
open Go Go.RowKit
set_option maxHeartbeats 6400000
set_option maxRecDepth 100000
set_option linter.unusedVariables false
section
variable {S:Nat->Prop} {base n:Nat} {o:Ob} {w:World}
theorem o8 {q:Hp} {L:SM} (a:JU base S q L w) (hl9:q.objs.length<=5001) (hp9:1<=q.objs.length) (ho:q.ob n=some o) (he9:o.es.length<=5000) (hrg:uo q o.es):
 Calls Tryz.prog 96 #[.pointer (some ⟨L.H,0,none⟩),.pointer (some ⟨L.ob n,0,none⟩)] w fun e w'=>e=.returned (.tuple #[])/\JU base S (q.ents n (o.es.map (bP q))) L w'/\Keeps w w' S:=by
 obtain ⟨E,cape,hev,hcape,-⟩:=a.ents ho
 obtain ⟨r0,hr0⟩:=a.ob n o ho
 have c5:w.cell? ⟨L.ob n,5,none⟩=some (.slice E o.es.length cape):=by rw [<-hev];exact hr0.cell (j:=5) (by omega)
 have HA:=ah a
 have HO:=ah ho
 have HRG:=ah hrg
 have HEV:=ah hev
 clear ho hrg hr0 hev a
 go_enter Tryz.func96,Tryz.ntmps96
 go_wp2
 go_loopw [11,5,4] (fun jv e6 e5 ws=>∃ j:Nat,j<=o.es.length/\jv=.int .i64 j/\Hq (JU base S (q.ents n (aL (bP q) j o.es)) L ws/\Keeps w ws S)) (fun jv _ _ _=>o.es.length-aU jv)
 case atStart=>
  refine ⟨0,by omega,rfl,?_,Keeps.refl _ _⟩
  rw [dV,Hp.EA HO.o]
  exact HA.o
 case round=>
  obtain ⟨j,hj9,rfl,HJ⟩:=hrel
  by_cases hjn:j<o.es.length
  ·obtain ⟨e,he⟩:∃ e,o.es[j]?=some e:=⟨_,List.getElem?_eq_getElem hjn⟩
   have hoq:=Hp.Eu HO.o (aL (bP q) j o.es)
   obtain ⟨A3,cap3,hev2,hcap2,hent2⟩:=HJ.o.1.ents hoq
   simp only [bF] at hev2 hcap2
   have:A3=E/\cap3=cape:=by
    have h9:=hev2.symm.trans HEV.o
    simp only [Value.slice.injEq] at h9
    exact ⟨h9.1,h9.2.2⟩
   obtain ⟨rfl,rfl⟩:=this
   obtain ⟨g2,rfl,hg2,hcells⟩:=hent2 j e (bN _ he)
   have d0:=hcells 0 _ rfl
   have d1:=hcells 1 _ rfl
   have d2:=hcells 2 _ rfl
   have d3:=hcells 3 _ rfl
   have d4:=hcells 4 _ rfl
   have d5:=hcells 5 _ rfl
   have d6:=hcells 6 _ rfl
   have d7:=hcells 7 _ rfl
   have d8:=hcells 8 _ rfl
   have d9:=hcells 9 _ rfl
   simp only [Nat.add_zero] at d0
   have hrk:=HRG.o e (List.mem_of_getElem? he)
   have HAT:=ah (HJ.o.1.alloc (.cells #[.int .i64 (vk e.1),.int .i64 (vi e.1),.int .u64 0,.string ByteArray.empty,.int .i64 (vr e.1),.int .i64 (vk e.2),.int .i64 (vi e.2),.int .u64 0,.string ByteArray.empty,.int .i64 (vr e.2)] 122))
   have HKP:=ah (HJ.o.2.trans (Keeps.of (aJ wr (.cells #[.int .i64 (vk e.1),.int .i64 (vi e.1),.int .u64 0,.string ByteArray.empty,.int .i64 (vr e.1),.int .i64 (vk e.2),.int .i64 (vi e.2),.int .u64 0,.string ByteArray.empty,.int .i64 (vr e.2)] 122)) (Nat.le_refl _) S))
   have HRK:=ah (show Rg (q.ents n (aL (bP q) j o.es)) e.1 from hrk.1.mono (q.Ep n _))
   have HX:=ah (jR wr e)
   have HEE:=ah he
   clear hoq hev2 hent2 hcells hrk he
   go_upto_region 3 with (fail)
   generalize wr.alloc (.cells #[.int .i64 (vk e.1),.int .i64 (vi e.1),.int .u64 0,.string ByteArray.empty,.int .i64 (vr e.1),.int .i64 (vk e.2),.int .i64 (vi e.2),.int .u64 0,.string ByteArray.empty,.int .i64 (vr e.2)] 122)=w3 at *
   generalize wr.heap.size=X at *
   have hlt3:=HX.o.lt
   have x0:w3.cell? ⟨X,0,none⟩=some (.int .i64 (vk e.1)):=HX.o.cell (j:=0) (by omega)
   have x1:w3.cell? ⟨X,1,none⟩=some (.int .i64 (vi e.1)):=HX.o.cell (j:=1) (by omega)
   have x2:w3.cell? ⟨X,2,none⟩=some (.int .u64 0):=HX.o.cell (j:=2) (by omega)
   have x3:w3.cell? ⟨X,3,none⟩=some (.string ByteArray.empty):=HX.o.cell (j:=3) (by omega)
   have x4:w3.cell? ⟨X,4,none⟩=some (.int .i64 (vr e.1)):=HX.o.cell (j:=4) (by omega)
   have x5:w3.cell? ⟨X,5,none⟩=some (.int .i64 (vk e.2)):=HX.o.cell (j:=5) (by omega)
   clear d0 d1 d2 d3 d4 d5 d6 d7 d8 d9
   cases hs:e.2.isSome with
   |true=>
    have hvk:(vk e.2==0)=false:=by
     have:=dB e.2
     rw [hs] at this
     simpa using this
    have HF2:=ah (dK (bP q) HEE.o (by unfold bP;cases h9:e.2 with |none=>rw [h9] at hs;cases hs|some y=>rfl))
    clear hs
    go_wp2
    go_roundw
    case rel=>
     refine ⟨j+1,by omega,by simp,?_⟩
     exact ⟨by rw [HF2.o];exact HAT.o,HKP.o⟩
    case measure=>simp [aU];omega
   |false=>
    have hvk:(vk e.2==0)=true:=by
     have:=dB e.2
     rw [hs] at this
     simpa using this
    have HNN:Hq (e.2.isNone=true):=ah (by cases h9:e.2 with |none=>rfl|some y=>rw [h9] at hs;cases hs)
    clear hs
    have HWV:=ah (dO HAT.o e.1 HRK.o (by rw [Hp.Ep];exact hl9) (by rw [Hp.Ep];exact hp9))
    rw [Hp.E5] at HWV
    go_wp2_with fail
    refine HWV.o.mono ?_
    rintro e9 w4 ⟨rfl,hb4⟩
    have HB4:=ah hb4
    clear hb4 HWV
    cases hb:q.JG e.1 with
    |false=>
     have HF2:=ah (dK (bP q) HEE.o (by unfold bP;rw [hb];simp))
     clear hb
     go_wp2
     go_roundw
     case rel=>
      refine ⟨j+1,by omega,by simp,?_⟩
      exact ⟨by rw [HF2.o];exact HAT.o.low HB4.o,HKP.o.trans (Keeps.of HB4.o (Nat.le_refl _) S)⟩
     case measure=>simp [aU];omega
    |true=>
     have HF2:=ah (dJ (bP q) HEE.o)
     have HCV:Hq (bP q e=(none,none)):=ah (by unfold bP;rw [hb,HNN.o];rfl)
     clear hb
     have HA4:=ah (HAT.o.low HB4.o)
     obtain ⟨r4,hr4⟩:=HA4.o.ob n _ (Hp.Eu HO.o (aL (bP q) j o.es))
     have f5:w4.cell? ⟨L.ob n,5,none⟩=some (.slice (some ⟨g2,0,none⟩) o.es.length cap3):=by rw [<-HEV.o];exact hr4.cell (j:=5) (by omega)
     have hrow:=au (HA4.o.en n _ (Hp.Eu HO.o (aL (bP q) j o.es))) (g:=g2) (by rw [HEV.o];simp [Value.ownBlock])
     have hcap3:(o.es.length:Int)<=cap3:=by omega
     have hji:(j:Int)<(o.es.length:Int):=by omega
     have hm2:(aL (bP q) j o.es).length=o.es.length:=bF _ _ _
     have z0:=hrow.Jv (j*10)
     have z1:=hrow.Jv (j*10+1)
     have z2:=hrow.Jv (j*10+2)
     have z3:=hrow.Jv (j*10+3)
     have z4:=hrow.Jv (j*10+4)
     have z5:=hrow.Jv (j*10+5)
     have z6:=hrow.Jv (j*10+6)
     have z7:=hrow.Jv (j*10+7)
     have z8:=hrow.Jv (j*10+8)
     have z9:=hrow.Jv (j*10+9)
     have g0:=hrow.cell (j:=j*10) (by simp only [hm2];omega)
     have gg1:=hrow.cell (j:=j*10+1) (by simp only [hm2];omega)
     have gg2:=hrow.cell (j:=j*10+2) (by simp only [hm2];omega)
     have gg3:=hrow.cell (j:=j*10+3) (by simp only [hm2];omega)
     have gg4:=hrow.cell (j:=j*10+4) (by simp only [hm2];omega)
     have gg5:=hrow.cell (j:=j*10+5) (by simp only [hm2];omega)
     have gg6:=hrow.cell (j:=j*10+6) (by simp only [hm2];omega)
     have gg7:=hrow.cell (j:=j*10+7) (by simp only [hm2];omega)
     have gg8:=hrow.cell (j:=j*10+8) (by simp only [hm2];omega)
     have gg9:=hrow.cell (j:=j*10+9) (by simp only [hm2];omega)
     clear hr4 hrow hm2
     have HC5:=ah (HA4.o.Ip (Hp.Eu HO.o (aL (bP q) j o.es)) (by rw [bF];exact HEV.o) (bN (bP q) HEE.o))
     rw [Hp.EI] at HC5
     go_upto_region 5 with (fail)
     generalize ((((((((((w4.setCell ⟨g2,j*10,none⟩ (.int .i64 0)).setCell ⟨g2,j*10+1,none⟩ (.int .i64 0)).setCell ⟨g2,j*10+2,none⟩ (.int .u64 0)).setCell ⟨g2,j*10+3,none⟩ (.string { data:=#[] })).setCell ⟨g2,j*10+4,none⟩ (.int .i64 0)).setCell ⟨g2,j*10+5,none⟩ (.int .i64 0)).setCell ⟨g2,j*10+6,none⟩ (.int .i64 0)).setCell ⟨g2,j*10+7,none⟩ (.int .u64 0)).setCell ⟨g2,j*10+8,none⟩ (.string { data:=#[] })).setCell ⟨g2,j*10+9,none⟩ (.int .i64 0))=w5 at *
     clear g0 gg1 gg2 gg3 gg4 gg5 gg6 gg7 gg8 gg9 z0 z1 z2 z3 z4 z5 z6 z7 z8 z9 f5
     go_wp2
     go_roundw
     case rel=>
      refine ⟨j+1,by omega,by simp,?_⟩
      exact ⟨by rw [HF2.o,HCV.o];exact HC5.o.1,(HKP.o.trans (Keeps.of HB4.o (Nat.le_refl _) S)).trans HC5.o.2⟩
     case measure=>simp [aU];omega
  ·obtain rfl:j=o.es.length:=by omega
   have HT1:=HJ.o
   rw [fu] at HT1
   have HT2:=ah HT1
   clear HT1 HJ
   go_wp2
   go_end0
   exact ⟨rfl,HT2.o⟩
end
section
variable {S:Nat->Prop} {base:Nat} {w:World}
theorem JU.IC {h:Hp} {L:SM} (a:JU base S h L w):∃ A cap,L.rS=.slice A h.roots.length cap/\h.roots.length<=cap/\∀ i n,h.roots[i]?=some n->∃ g,A=some ⟨g,0,none⟩/\∀ j u,(uL (some (.inr n)))[j]?=some u->w.cell? ⟨g,i*5+j,none⟩=some u:=by
 have he:=a.ro
 rcases he.2 with ⟨h1,h2⟩|⟨g,cap,cur,hv,_,_,hc,_⟩
 ·refine ⟨none,0,by rw [h1,h2],by omega,fun i e hi=>?_⟩
  have:=(List.getElem?_eq_some_iff.1 hi).1
  omega
 ·refine ⟨_,cap,hv,hc,fun i e hi=>⟨g,rfl,fun j u hj=>?_⟩⟩
  have hr:=au he (g:=g) (by rw [hv];simp [Value.ownBlock])
  have hil:=(List.getElem?_eq_some_iff.1 hi).1
  have hjl:j<5:=(List.getElem?_eq_some_iff.1 hj).1
  rw [hr.cell (j:=i*5+j) (by omega),List.getD_eq_getElem?_getD,show (Bh h.roots)[i*5+j]?=(uL (some (.inr e)))[j]? from dw _ 5 (fun _=>rfl) h.roots i j e hi hjl,hj]
  rfl
theorem JU.nil {h:Hp} {L:SM} (a:JU base S h L w) (k:Nat) (hk:cB k):JU base S (bL h k []) { L with li:=fun j=>if j=k then .slice none 0 0 else L.li j } (w.setCell ⟨L.H,k,none⟩ (.slice none 0 0))/\Keeps w (w.setCell ⟨L.H,k,none⟩ (.slice none 0 0)) S:=
 (a.Gm (w1:=w) k hk (Keeps.refl w _) (.slice none 0 0) [] ⟨rfl,.inl ⟨rfl,rfl⟩⟩ (fun g e=>by simp [Value.ownBlock] at e)).2
structure Ln (k:Nat) (L L':SM):Prop where
 H:L'.H=L.H
 oS:L'.oS=L.oS
 ob:L'.ob=L.ob
 es:L'.es=L.es
 rS:L'.rS=L.rS
 li:∀ j,j≠k->L'.li j=L.li j
theorem JU.Hw {h:Hp} {L:SM} (a:JU base S h L w) (k:Nat) (hk:cB k):∃ L',Ln k L L'/\JU base S (bL h k []) L' (w.setCell ⟨L.H,k,none⟩ (.slice none 0 0))/\Keeps w (w.setCell ⟨L.H,k,none⟩ (.slice none 0 0)) S:=by
 obtain ⟨h1,h2⟩:=a.nil k hk
 exact ⟨{ L with li:=fun j=>if j=k then .slice none 0 0 else L.li j },⟨rfl,rfl,rfl,rfl,rfl,fun j hj=>by simp [hj]⟩,h1,h2⟩
theorem JU.num {h h':Hp} {L:SM} (a:JU base S h L w) (k:Nat) (x:Value) (hk:k<18) (hob:h'.objs=h.objs) (hl:h'.grey=h.grey/\h'.again=h.again/\h'.weak=h.weak/\h'.D8=h.D8/\h'.finals=h.finals/\h'.pending=h.pending/\h'.freed=h.freed) (hr:h'.roots=h.roots) (hc:∀ i,i<18->(if i=k then x else qZ h L i)=qZ h' L i):
 JU base S h' L (w.setCell ⟨L.H,k,none⟩ x)/\Keeps w (w.setCell ⟨L.H,k,none⟩ x) S:=by
 refine a.hdr k x hk hob (fun j hj=>?_) hr hc
 obtain ⟨a1,a2,a3,a4,a5,a6,a7⟩:=hl
 rcases hj with rfl|rfl|rfl|rfl|rfl|rfl|rfl
 ·exact a1
 ·exact a2
 ·exact a3
 ·exact a4
 ·exact a5
 ·exact a6
 ·exact a7
theorem bg (P:Nat->Prop) (h0:P 0) (h1:P 1) (h2:P 2) (h3:P 3) (h4:P 4) (h5:P 5) (h6:P 6) (h7:P 7) (h8:P 8) (h9:P 9) (h10:P 10) (h11:P 11) (h12:P 12) (h13:P 13) (h14:P 14) (h15:P 15) (h16:P 16) (h17:P 17):∀ i,i<18->P i:=by
 intro i hi
 have:i=0∨i=1∨i=2∨i=3∨i=4∨i=5∨i=6∨i=7∨i=8∨i=9∨i=10∨i=11∨i=12∨i=13∨i=14∨i=15∨i=16∨i=17:=by omega
 rcases this with rfl|rfl|rfl|rfl|rfl|rfl|rfl|rfl|rfl|rfl|rfl|rfl|rfl|rfl|rfl|rfl|rfl|rfl<;>assumption
theorem sG (h:Hp):h.wn<=h.objs.length:=List.countP_le_length
def Hp.Ev (h:Hp):Hp:={ h with state:=1,grey:=[],again:=[],weak:=[],D8:=[] }
theorem Sm.Ev {h:Hp} (s:Sm h):Sm h.Ev:=by
 refine ⟨s.len,?_,s.fp,s.fr,s.JQ,s.cr,s.lim,s.rt,s.es⟩
 have:=sG h
 have:=s.len
 show h.wn+0+0+0+0<=20000
 omega
theorem mQ {h:Hp} {L:SM} (a:JU base S h L w) (s:Sm h) (hz:h.ob 0=none) (hr:∀ n∈h.roots,n<h.objs.length) (hp:∀ n∈h.pending,n<h.objs.length):
 Calls Tryz.prog 63 #[.pointer (some ⟨L.H,0,none⟩)] w fun e w'=>e=.returned (.tuple #[])/\∃ L',L'.H=L.H/\JU base S h.begin L' w'/\Keeps w w' S:=by
 have HA:=ah a
 have HSM:=ah s.Ev
 have HZ:=ah (show h.Ev.ob 0=none from hz)
 have HR:=ah (show ∀ n∈h.Ev.roots,n<h.Ev.objs.length from hr)
 have HP:=ah (show ∀ n∈h.Ev.pending,n<h.Ev.objs.length from hp)
 have hrl:=s.rt
 have hpl:=s.fp
 have z5:=a.hp.Jv 5
 have c5:=a.hp.cell (j:=5) (by omega)
 have s1:=a.num (h':={ h with state:=1 }) 5 (.int .i64 1) (by decide) rfl ⟨rfl,rfl,rfl,rfl,rfl,rfl,rfl⟩ rfl (bg _ rfl rfl rfl rfl rfl rfl rfl rfl rfl rfl rfl rfl rfl rfl rfl rfl rfl rfl)
 have H1:=ah s1
 clear a s hz hr hp s1
 go_enter Tryz.func63,Tryz.ntmps63
 go_upto_region 1 with (fail)
 generalize w.setCell ⟨L.H,5,none⟩ (.int .i64 1)=w1 at *
 have HK1:=ah H1.o.2
 have HA1:=ah (And.intro (Lm.refl L).H H1.o.1)
 clear H1 z5 c5
 obtain ⟨L2,hL2,ha2,hk2⟩:=HA1.o.2.Hw 7 (by simp [cB])
 have z7:=HA1.o.2.hp.Jv 7
 have c7:=HA1.o.2.hp.cell (j:=7) (by omega)
 have HA2:=ah (And.intro (hL2.H.trans HA1.o.1) ha2)
 have HK2:=ah (HK1.o.trans hk2)
 clear hL2 ha2 hk2
 go_upto_region 2 with (fail)
 generalize w1.setCell ⟨L.H,7,none⟩ (.slice none 0 0)=w2 at *
 clear z7 c7 HA1 HK1
 obtain ⟨L3,hL3,ha3,hk3⟩:=HA2.o.2.Hw 8 (by simp [cB])
 have z8:=HA2.o.2.hp.Jv 8
 have c8:=HA2.o.2.hp.cell (j:=8) (by omega)
 rw [HA2.o.1] at z8 c8 ha3 hk3
 have HA3:=ah (And.intro (hL3.H.trans HA2.o.1) ha3)
 have HK3:=ah (HK2.o.trans hk3)
 clear hL3 ha3 hk3
 go_upto_region 3 with (fail)
 generalize w2.setCell ⟨L.H,8,none⟩ (.slice none 0 0)=w3 at *
 clear z8 c8 HA2 HK2
 obtain ⟨L4,hL4,ha4,hk4⟩:=HA3.o.2.Hw 9 (by simp [cB])
 have z9:=HA3.o.2.hp.Jv 9
 have c9:=HA3.o.2.hp.cell (j:=9) (by omega)
 rw [HA3.o.1] at z9 c9 ha4 hk4
 have HA4:=ah (And.intro (hL4.H.trans HA3.o.1) ha4)
 have HK4:=ah (HK3.o.trans hk4)
 clear hL4 ha4 hk4
 go_upto_region 4 with (fail)
 generalize w3.setCell ⟨L.H,9,none⟩ (.slice none 0 0)=w4 at *
 clear z9 c9 HA3 HK3
 obtain ⟨L5,hL5,ha5,hk5⟩:=HA4.o.2.Hw 10 (by simp [cB])
 have z10:=HA4.o.2.hp.Jv 10
 have c10:=HA4.o.2.hp.cell (j:=10) (by omega)
 rw [HA4.o.1] at z10 c10 ha5 hk5
 have HA5:=ah (And.intro (hL5.H.trans HA4.o.1) ha5)
 have HK5:=ah (HK4.o.trans hk5)
 clear hL5 ha5 hk5
 go_upto_region 5 with (fail)
 generalize w4.setCell ⟨L.H,10,none⟩ (.slice none 0 0)=w5 at *
 clear z10 c10 HA4 HK4
 have HB:=ah (show JU base S h.Ev L5 w5 from HA5.o.2)
 have HLH:=ah HA5.o.1
 clear HA5
 obtain ⟨AR,capR,hvR,hcapR,-⟩:=HB.o.IC
 have c13:w5.cell? ⟨L.H,13,none⟩=some (.slice AR h.Ev.roots.length capR):=by
  rw [<-HLH.o,<-hvR]
  exact HB.o.hp.cell (j:=13) (by omega)
 have HRS:=ah hvR
 have HPR:=ah (And.intro HB.o (And.intro HSM.o (And.intro HZ.o (And.intro HR.o HP.o))))
 have HBG:Hq (h.begin=(h.Ev.Eh h.Ev.roots).Eh h.Ev.pending):=ah rfl
 have hrl':h.Ev.roots.length<=5001:=hrl
 have hpl':h.Ev.pending.length<=5000:=by
  show h.pending.length<=_
  omega
 clear HA HSM HZ HR HP HB hvR hrl hpl
 generalize h.Ev=q0 at *
 obtain ⟨H5,oS5,ob5,es5,li5,rS5⟩:=L5
 obtain rfl:H5=L.H:=HLH.o
 go_wp2
 go_loopw [26,3] (fun iv vv wr=>∃ i:Nat,i<=q0.roots.length/\iv=.int .i64 i/\Hq (∃ L',Lm (⟨L.H,oS5,ob5,es5,li5,rS5⟩:SM) L'/\JU base S ((q0.roots.take i).foldl Hp.mark q0) L' wr/\Keeps w5 wr S)) (fun iv _ _=>q0.roots.length-aU iv)
 case atStart=>exact ⟨0,by omega,rfl,(⟨L.H,oS5,ob5,es5,li5,rS5⟩:SM),Lm.refl _,HPR.o.1,Keeps.refl _ _⟩
 case round=>
  obtain ⟨i,hi9,rfl,HI⟩:=hrel
  by_cases hin:i<q0.roots.length
  ·have hts:q0.roots.take (i+1)=q0.roots.take i++[q0.roots[i]]:=aO (List.getElem?_eq_getElem hin)
   have HF:Hq ((q0.roots.take (i+1)).foldl Hp.mark q0=Hp.mark ((q0.roots.take i).foldl Hp.mark q0) q0.roots[i]):=ah (by rw [hts,aN])
   have hnl:=HPR.o.2.2.2.1 _ (List.getElem_mem hin)
   have hmk:=JM.fold Hp.mark JM.mark (q0.roots.take i) q0
   have hsm:=HPR.o.2.1.foldM Hp.mark (fun h x s=>s.mark x) (q0.roots.take i) q0 HPR.o.2.1
   obtain ⟨L1,hLm,hat,hkp⟩:=HI.out
   obtain ⟨q,hq⟩:∃ q,(q0.roots.take i).foldl Hp.mark q0=q:=⟨_,rfl⟩
   rw [hq] at hmk hsm hat HF
   clear hts
   have hrg:=hat.IC
   obtain ⟨A1,cap1,hv1,hcap1,hget1⟩:=hrg
   have hq1:q.roots=q0.roots:=hmk.roots
   rw [hq1] at hv1
   have:A1=AR/\cap1=capR:=by
    have h9:=hv1.symm.trans (hLm.rS.trans HRS.o)
    simp only [Value.slice.injEq] at h9
    exact ⟨h9.1,h9.2.2⟩
   obtain ⟨rfl,rfl⟩:=this
   obtain ⟨g,rfl,hcells⟩:=hget1 i q0.roots[i] (by rw [hq1];exact List.getElem?_eq_getElem hin)
   generalize q0.roots[i]=n at *
   have d0:=hcells 0 _ rfl
   have d1:=hcells 1 _ rfl
   have d2:=hcells 2 _ rfl
   have d3:=hcells 3 _ rfl
   have d4:=hcells 4 _ rfl
   simp only [Nat.add_zero] at d0
   obtain ⟨H1,oS1,ob1,es1,li1,rS1⟩:=L1
   obtain rfl:H1=(⟨L.H,oS5,ob5,es5,li5,rS5⟩:SM).H:=hLm.H
   have HMV:=ah (dD (hat.alloc (.cells #[.int .i64 (vk (some (Sum.inr n):HV)),.int .i64 (vi (some (Sum.inr n):HV)),.int .u64 0,.string ByteArray.empty,.int .i64 (vr (some (Sum.inr n):HV))] 95)) hsm (hmk.zero HPR.o.2.2.1) (some (.inr n)) (by rw [hmk.len];exact hnl))
   have HT:=ah (And.intro hLm (hkp.trans (Keeps.of (aJ wr (.cells #[.int .i64 (vk (some (Sum.inr n):HV)),.int .i64 (vi (some (Sum.inr n):HV)),.int .u64 0,.string ByteArray.empty,.int .i64 (vr (some (Sum.inr n):HV))] 95)) (Nat.le_refl _) S)))
   clear hLm hat hkp hmk hsm hv1 hget1 hq hcells HI hq1 hnl
   go_wp2_with fail
   refine HMV.o.mono ?_
   rintro e9 w4 ⟨rfl,L4,hl4,ha4,hk4⟩
   have H4:=ah (And.intro hl4 (And.intro ha4 hk4))
   clear hl4 ha4 hk4 HMV
   go_wp2
   go_roundw
   case rel=>
    refine ⟨i+1,by omega,by simp,?_⟩
    exact ⟨L4,HT.o.1.trans H4.o.1,by rw [HF.o];exact H4.o.2.1,HT.o.2.trans H4.o.2.2⟩
   case measure=>simp [aU];omega
  ·obtain rfl:i=q0.roots.length:=by omega
   have HI2:=HI.out
   rw [List.take_length] at HI2
   obtain ⟨L6,hLm,hat,hkp⟩:=HI2
   have HL6:Hq (Lm (⟨L.H,oS5,ob5,es5,li5,rS5⟩:SM) L6/\JU base S (q0.Eh q0.roots) L6 wr/\Keeps w5 wr S):=ah ⟨hLm,hat,hkp⟩
   clear hLm hat hkp HI
   obtain ⟨AP,capP,hvP,hcapP,-⟩:=HL6.o.2.1.EM (k:=12) (by simp [cB])
   have hmr:=JM.Eh q0 q0.roots
   have hq12:eX (q0.Eh q0.roots) 12=q0.pending:=hmr.pending
   rw [hq12] at hvP hcapP
   have c12:wr.cell? ⟨L.H,12,none⟩=some (.slice AP q0.pending.length capP):=by
    have:=HL6.o.2.1.hp.cell (j:=12) (by omega)
    rw [HL6.o.1.H] at this
    rw [this]
    exact congrArg some hvP
   have HPS:=ah hvP
   have HPP:=ah (And.intro HL6.o.2.1 (And.intro (HPR.o.2.1.Eh q0.roots) (And.intro (hmr.zero HPR.o.2.2.1) (show ∀ n∈q0.pending,n<(q0.Eh q0.roots).objs.length from by rw [hmr.len];exact HPR.o.2.2.2.2))))
   have HK6:=ah (HK5.o.trans HL6.o.2.2)
   have HQP:=ah (show (q0.Eh q0.roots).pending=q0.pending from hmr.pending)
   clear hmr hq12 hvP HRS
   obtain ⟨H6,oS6,ob6,es6,li6,rS6⟩:=L6
   obtain rfl:H6=L.H:=HL6.o.1.H
   clear HL6 HPR
   generalize q0.Eh q0.roots=q1 at *
   generalize q0.pending=pd at *
   rename World=>w6
   go_wp2
   go_loopw [39] (fun iv wr=>∃ i:Nat,i<=pd.length/\iv=.int .i64 i/\Hq (∃ L',Lm (⟨L.H,oS6,ob6,es6,li6,rS6⟩:SM) L'/\JU base S ((pd.take i).foldl Hp.mark q1) L' wr/\Keeps w6 wr S)) (fun iv _=>pd.length-aU iv)
   case atStart=>exact ⟨0,by omega,rfl,(⟨L.H,oS6,ob6,es6,li6,rS6⟩:SM),Lm.refl _,HPP.o.1,Keeps.refl _ _⟩
   case round=>
    obtain ⟨i,hi9,rfl,HI⟩:=hrel
    by_cases hin:i<pd.length
    ·have hts:pd.take (i+1)=pd.take i++[pd[i]]:=aO (List.getElem?_eq_getElem hin)
     have HF:Hq ((pd.take (i+1)).foldl Hp.mark q1=Hp.mark ((pd.take i).foldl Hp.mark q1) pd[i]):=ah (by rw [hts,aN])
     have hnl:=HPP.o.2.2.2 _ (List.getElem_mem hin)
     have hmk:=JM.fold Hp.mark JM.mark (pd.take i) q1
     have hsm:=HPP.o.2.1.foldM Hp.mark (fun h x s=>s.mark x) (pd.take i) q1 HPP.o.2.1
     obtain ⟨L1,hLm,hat,hkp⟩:=HI.out
     obtain ⟨q,hq⟩:∃ q,(pd.take i).foldl Hp.mark q1=q:=⟨_,rfl⟩
     rw [hq] at hmk hsm hat HF
     clear hts
     obtain ⟨A1,cap1,hv1,hcap1,hget1⟩:=hat.EM (k:=12) (by simp [cB])
     have hq1:eX q 12=pd:=hmk.pending.trans HQP.o
     rw [hq1] at hv1
     have:A1=AP/\cap1=capP:=by
      have h9:=hv1.symm.trans ((hLm.li 12 (by decide) (by decide) (by decide)).trans HPS.o)
      simp only [Value.slice.injEq] at h9
      exact ⟨h9.1,h9.2.2⟩
     obtain ⟨rfl,rfl⟩:=this
     obtain ⟨g,rfl,hgc⟩:=hget1 i (by rw [hq1];exact hin)
     have hgc':wr.cell? ⟨g,i,none⟩=some (.int .i64 ((pd[i]:Nat):Int)):=by
      rw [hgc]
      congr 3
      simp only [hq1]
     generalize pd[i]=n at *
     obtain ⟨H1,oS1,ob1,es1,li1,rS1⟩:=L1
     obtain rfl:H1=(⟨L.H,oS6,ob6,es6,li6,rS6⟩:SM).H:=hLm.H
     have HMV:=ah (h_ hat hsm (hmk.zero HPP.o.2.2.1) n (by rw [hmk.len];exact hnl))
     have HT:=ah (And.intro hLm hkp)
     clear hLm hat hkp hmk hsm hv1 hget1 hq HI hq1 hnl hgc
     go_wp2_with fail
     refine HMV.o.mono ?_
     rintro e9 w4 ⟨rfl,L4,hl4,ha4,hk4⟩
     have H4:=ah (And.intro hl4 (And.intro ha4 hk4))
     clear hl4 ha4 hk4 HMV
     go_wp2
     go_roundw
     case rel=>
      refine ⟨i+1,by omega,by simp,?_⟩
      exact ⟨L4,HT.o.1.trans H4.o.1,by rw [HF.o];exact H4.o.2.1,HT.o.2.trans H4.o.2.2⟩
     case measure=>simp [aU];omega
    ·obtain rfl:i=pd.length:=by omega
     have HI2:=HI.out
     rw [List.take_length] at HI2
     obtain ⟨L7,hLm,hat,hkp⟩:=HI2
     have HL7:Hq (Lm (⟨L.H,oS6,ob6,es6,li6,rS6⟩:SM) L7/\JU base S (q1.Eh pd) L7 wr/\Keeps w6 wr S):=ah ⟨hLm,hat,hkp⟩
     clear hLm hat hkp HI
     go_wp2
     go_end0
     exact ⟨rfl,L7,HL7.o.1.H,by rw [HBG.o];exact HL7.o.2.1,HK6.o.trans HL7.o.2.2⟩
end
section
variable {S S':Nat->Prop} {base g:Nat} {h:Hp} {w:World}
structure Free (h:Hp) (L:SM) (g:Nat):Prop where
 H:L.H≠g
 ob:∀ n,n<h.objs.length->L.ob n≠g
 oS:L.oS.ownBlock≠some g
 es:∀ n o,h.ob n=some o->(L.es n).ownBlock≠some g
 li:∀ k,cB k->(L.li k).ownBlock≠some g
 rS:L.rS.ownBlock≠some g
theorem JU.less {L:SM} (a:JU base S h L w) (v:Value) (hv:∀ g,v.ownBlock=some g->Free h L g/\g<w.heap.size):JU base (fun b=>S b/\v.ownBlock≠some b) h L w:=by
 refine ⟨a.hp,a.oo,a.ob,a.dd,a.en,a.li,a.ro,a.ij,a.ei,a.lj,a.bH,a.bo,a.bs,⟨a.sH,fun e=>(hv _ e).1.H rfl⟩,fun n hn=>⟨a.so n hn,fun e=>(hv _ e).1.ob n hn rfl⟩,fun g hg=>⟨a.sO g hg,fun e=>(hv _ e).1.oS hg⟩,fun n o g hn hg=>⟨a.se n o g hn hg,fun e=>(hv _ e).1.es n o hn hg⟩,fun k g hk hg=>⟨a.sl k g hk hg,fun e=>(hv _ e).1.li k hk hg⟩,fun g hg=>⟨a.sr g hg,fun e=>(hv _ e).1.rS hg⟩,fun b hb=>⟨a.up b hb,fun e=>?_⟩⟩
 have:=(hv b e).2
 omega
theorem JU.free {L:SM} (a:JU base S h L w) (hg:¬ S g):Free h L g:=
 ⟨fun e=>hg (e ▸ a.sH),fun n hn e=>hg (e ▸ a.so n hn),fun e=>hg (a.sO g e),fun n o hn e=>hg (a.se n o g hn e),fun k hk e=>hg (a.sl k g hk e),fun e=>hg (a.sr g e)⟩
theorem JU.past {L:SM} (a:JU base S h L w) (hg:w.heap.size<=g):Free h L g:=by
 have hob:∀ n,n<h.objs.length->L.ob n<w.heap.size:=by
  intro n hn
  cases e:h.ob n with
  |none=>obtain ⟨r,c,_,hr⟩:=a.dd n hn e;exact hr.lt
  |some o=>obtain ⟨r,hr⟩:=a.ob n o e;exact hr.lt
 refine ⟨fun e=>?_,fun n hn e=>?_,fun e=>?_,fun n o hn e=>?_,fun k hk e=>?_,fun e=>?_⟩
 ·have:=a.hp.lt;omega
 ·have:=hob n hn;omega
 ·have:=(au a.oo e).lt;omega
 ·have:=(au (a.en n o hn) e).lt;omega
 ·have:=(au (a.li k hk) e).lt;omega
 ·have:=(au a.ro e).lt;omega
theorem JU.I8 {L:SM} (a:JU base S h L w) (k:Nat) (hk:cB k):∃ L',Ln k L L'/\JU base (fun b=>S b/\(L.li k).ownBlock≠some b) (bL h k []) L' (w.setCell ⟨L.H,k,none⟩ (.slice none 0 0))/\Keeps w (w.setCell ⟨L.H,k,none⟩ (.slice none 0 0)) (fun b=>S b/\(L.li k).ownBlock≠some b):=by
 obtain ⟨L',hL,ha,hk'⟩:=a.Hw k hk
 have kk:Keeps w (w.setCell ⟨L.H,k,none⟩ (.slice none 0 0)) (fun b=>b=L.H):=Keeps.setCell (S:=fun b=>b=L.H) (Keeps.refl w _) rfl _
 refine ⟨L',hL,ha.less (L.li k) (fun g e=>⟨?_,?_⟩),kk.mono (fun b e=>⟨e ▸ a.sH,fun x=>ak (a.li k hk) a.hp (by decide) (e ▸ x)⟩)⟩
 ·have hr:=au (a.li k hk) e
  have hob:∀ n,(bL h k []).ob n=h.ob n:=fun n=>by unfold Hp.ob;rw [(fJ h k []).1]
  refine ⟨fun x=>?_,fun n hn x=>?_,fun x=>?_,fun n o hn x=>?_,fun j hj x=>?_,fun x=>?_⟩
  ·rw [hL.H] at x
   exact ak (a.li k hk) a.hp (by decide) (x ▸ e)
  ·rw [hL.ob] at x
   rw [(fJ h k []).1] at hn
   cases c:h.ob n with
   |none=>obtain ⟨r,c',_,hr'⟩:=a.dd n hn c;exact hr'.apart hr (by decide) x
   |some o=>obtain ⟨r,hr'⟩:=a.ob n o c;exact hr'.apart hr (by decide) x
  ·rw [hL.oS] at x
   exact aV a.oo (a.li k hk) (by decide) e x
  ·rw [hL.es] at x
   rw [hob] at hn
   exact aV (a.en n o hn) (a.li k hk) (by decide) e x
  ·by_cases c:j=k
   ·subst c
    have h9:=ha.li j hj
    rw [oD h hk hj,if_pos rfl] at h9
    have hrw:=au h9 x
    have hlt:=hrw.lt
    obtain ⟨cur,q1,q2,q3⟩:=hr
    have hz:=ha.lj
    have hnil:L'.li j=.slice none 0 0:=by
     have hc:=ha.hp.cell (j:=j) (by rcases hj with rfl|rfl|rfl|rfl|rfl|rfl|rfl<;>decide)
     have hc2:=(a.hp.set (j:=j) (by rcases hj with rfl|rfl|rfl|rfl|rfl|rfl|rfl<;>decide) (.slice none 0 0)).cell (j:=j) (by rcases hj with rfl|rfl|rfl|rfl|rfl|rfl|rfl<;>decide)
     rw [hL.H] at hc
     rw [hc] at hc2
     simp only [if_true,Option.some.injEq] at hc2
     rw [<-hc2]
     rcases hj with rfl|rfl|rfl|rfl|rfl|rfl|rfl<;>rfl
    rw [hnil] at x
    simp [Value.ownBlock] at x
   ·rw [hL.li j c] at x
    exact c (a.lj j k g hj hk x e)
  ·rw [hL.rS] at x
   exact aV a.ro (a.li k hk) (by decide) e x
 ·exact Nat.lt_of_lt_of_le (au (a.li k hk) e).lt hk'.size
theorem JU.IG {L:SM} (a:JU base S h L w) (k:Nat) (hk:cB k) (v':Value) (l':List Nat) (hown:w.ownsRow base 3 1 v' l'.length (bU l')) (hf:∀ g,v'.ownBlock=some g->Free h L g) (hS:∀ b,S b->S' b) (hg:∀ g,v'.ownBlock=some g->S' g):
 ∃ L',Ln k L L'/\JU base S' (bL h k l') L' (w.setCell ⟨L.H,k,none⟩ v')/\Keeps w (w.setCell ⟨L.H,k,none⟩ v') S:=by
 have hk18:k<18:=by rcases hk with rfl|rfl|rfl|rfl|rfl|rfl|rfl<;>decide
 obtain ⟨ho,hro⟩:=fJ h k l'
 have hob:∀ n,(bL h k l').ob n=h.ob n:=fun n=>by unfold Hp.ob;rw [ho]
 have k2:Keeps w (w.setCell ⟨L.H,k,none⟩ v') (fun b=>b=L.H):=Keeps.setCell (S:=fun b=>b=L.H) (Keeps.refl w _) rfl v'
 have hT:∀ {B T s n:Nat} {v:Value} {xs:List Value},w.ownsRow B T s v n xs->T≠105->∀ g,v.ownBlock=some g->¬ g=L.H:=fun h1 h2 g h4 h5=>ak h1 a.hp h2 (h5 ▸ h4)
 refine ⟨{ L with li:=fun j=>if j=k then v' else L.li j },⟨rfl,rfl,rfl,rfl,rfl,fun j hj=>by simp [hj]⟩,⟨(a.hp.set hk18 v').congr (ug h L hk v' l'),?_,fun n o e=>?_,fun n hn e=>?_,fun n o e=>?_,fun j hj=>?_,?_,?_,?_,?_,a.bH,?_,Nat.le_trans a.bs k2.size,hS _ a.sH,?_,fun g e=>hS _ (a.sO g e),?_,?_,fun g e=>hS _ (a.sr g e),fun b hb=>hS _ (a.up b (Nat.le_trans k2.size hb))⟩,k2.mono (fun b e=>e ▸ a.sH)⟩
 ·rw [ho];exact aj a.oo k2 (hT a.oo (by decide))
 ·rw [hob] at e
  obtain ⟨r,hr⟩:=a.ob n o e
  exact ⟨r,hr.keep k2 (fun e=>hr.apart a.hp (by decide) e)⟩
 ·rw [hob] at e
  rw [ho] at hn
  obtain ⟨r,c,hc,hr⟩:=a.dd n hn e
  exact ⟨r,c,hc,hr.keep k2 (fun e=>hr.apart a.hp (by decide) e)⟩
 ·rw [hob] at e;exact aj (a.en n o e) k2 (hT (a.en n o e) (by decide))
 ·rw [oD h hk hj]
  by_cases c:j=k
  ·simp only [c,if_true]
   exact aj hown k2 (hT hown (by decide))
  ·simp only [c,if_false]
   exact aj (a.li j hj) k2 (hT (a.li j hj) (by decide))
 ·rw [hro];exact aj a.ro k2 (hT a.ro (by decide))
 ·rw [ho];exact a.ij
 ·intro n m o o' g;rw [hob,hob];exact a.ei n m o o' g
 ·intro j j' g hj hj' e e'
  by_cases c:j=k<;>by_cases c':j'=k
  ·rw [c,c']
  ·simp only [c,c',if_true,if_false] at e e'
   exact absurd e' ((hf g e).li j' hj')
  ·simp only [c,c',if_true,if_false] at e e'
   exact absurd e ((hf g e').li j hj)
  ·simp only [c,c',if_false] at e e'
   exact a.lj j j' g hj hj' e e'
 ·rw [ho];exact a.bo
 ·rw [ho];exact fun n hn=>hS _ (a.so n hn)
 ·intro n o g;rw [hob];exact fun h1 h2=>hS _ (a.se n o g h1 h2)
 ·intro j g hj e
  by_cases c:j=k
  ·simp only [c,if_true] at e
   exact hg g e
  ·simp only [c,if_false] at e
   exact hS _ (a.sl j g hj e)
theorem zl (l:List Nat) (x:List Nat):∀ h:Hp,l.foldl Hp.Ef { h with again:=x }={ l.foldl Hp.Ef h with again:=x }:=by
 induction l with
 |nil=>intro h;rfl
 |cons a l ih=>intro h;exact ih (h.Ef a)
theorem ni (e:h.again=[]):{ h with again:=[] }=h:=by
 cases h
 simp only at e
 subst e
 rfl
end
section
variable {h:Hp} {i:Nat} {o:Ob}
def aM (i:Nat) (q:Hp):Hp:={ q with objs:=(q.objs.take i).map (Option.map q.drop1)++q.objs.drop i }
theorem kG (q:Hp):aM 0 q=q:=by simp [aM]
theorem kY (q:Hp):aM q.objs.length q=q.EB:=by simp [aM,Hp.EB]
theorem bT (i:Nat) (q:Hp):(aM i q).objs.length=q.objs.length:=by
 simp [aM]
 omega
theorem dX (i:Nat) (q:Hp) (n:Nat):(aM i q).ob n=if n<i then (q.ob n).map q.drop1 else q.ob n:=by
 unfold Hp.ob aM
 simp only
 by_cases c:n<i
 ·rw [if_pos c]
  by_cases d:n<q.objs.length
  ·rw [List.getElem?_append_left (by simp;omega),List.getElem?_map,List.getElem?_take_of_lt c,List.getElem?_eq_getElem d]
   cases q.objs[n]<;>rfl
  ·rw [List.getElem?_eq_none (by simp;omega),List.getElem?_eq_none (by omega)]
   rfl
 ·rw [if_neg c]
  by_cases d:n<q.objs.length
  ·rw [List.getElem?_append_right (by simp;omega)]
   simp only [List.length_map,List.length_take,List.getElem?_drop]
   rw [Nat.min_eq_left (by omega),show i+(n-i)=n by omega]
  ·rw [List.getElem?_eq_none (by simp;omega),List.getElem?_eq_none (by omega)]
theorem gW (i:Nat) (q:Hp):J2 q (aM i q):=by
 refine ⟨bT i q,fun n=>?_,rfl,rfl,rfl,rfl,rfl,rfl,rfl,rfl,rfl,rfl,rfl,rfl,rfl,rfl,rfl⟩
 rw [dX]
 by_cases c:n<i
 ·rw [if_pos c]
  cases hb:q.ob n with
  |none=>exact .inl ⟨rfl,rfl⟩
  |some o=>
   refine .inr ⟨o,_,rfl,rfl,?_⟩
   unfold Hp.drop1
   split
   ·exact ⟨rfl,rfl,rfl,id,fun e=>jq.refl e,by simp⟩
   ·exact ⟨rfl,rfl,rfl,_,lS q,rfl⟩
 ·rw [if_neg c]
  cases hb:q.ob n with
  |none=>exact .inl ⟨rfl,rfl⟩
  |some o=>exact .inr ⟨o,o,rfl,rfl,rfl,rfl,rfl,id,fun e=>jq.refl e,by simp⟩
theorem qD {g:Hp} (hl:g.objs.length=h.objs.length) (ho:∀ n,g.ob n=h.ob n):g.objs=h.objs:=by
 refine List.ext_getElem? (fun n=>?_)
 by_cases c:n<h.objs.length
 ·have e1:g.objs[n]?=some (g.ob n):=by
   rw [List.getElem?_eq_getElem (by omega)]
   simp [Hp.ob,show n<g.objs.length by omega]
  have e2:h.objs[n]?=some (h.ob n):=by
   rw [List.getElem?_eq_getElem c]
   simp [Hp.ob,c]
  rw [e1,e2,ho]
 ·rw [List.getElem?_eq_none (by omega),List.getElem?_eq_none (by omega)]
theorem nG {q g:Hp} (hg:g={ q with objs:=g.objs }) (hl:g.objs.length=q.objs.length) (ho:∀ n,g.ob n=(aM i q).ob n):g=aM i q:=by
 rw [hg]
 unfold aM
 congr 1
 exact qD (h:=aM i q) (hl.trans (bT i q).symm) ho
theorem fI {q:Hp} (h:∀ o,q.ob i=some o->q.drop1 o=o):aM (i+1) q=aM i q:=by
 refine (nG (g:=aM i q) rfl (bT i q) (fun n=>?_)).symm
 rw [dX,dX]
 by_cases c:n<i
 ·rw [if_pos c,if_pos (by omega)]
 ·rw [if_neg c]
  by_cases d:n=i
  ·subst d
   rw [if_pos (by omega)]
   cases e:q.ob n with
   |none=>rfl
   |some o=>simp [h o e]
  ·rw [if_neg (by omega)]
theorem nH {q:Hp} (ho:q.ob i=some o) (hw:eP o.col=false):aM (i+1) q=(aM i q).ents i (o.es.map (bP (aM i q))):=by
 have hd:bP (aM i q)=bP q:=by funext x;unfold bP;rw [(gW i q).JG]
 rw [hd]
 refine (nG (i:=i+1) (q:=q) (g:=(aM i q).ents i (o.es.map (bP q))) rfl ?_ (fun n=>?_)).symm
 ·rw [Hp.Ep,bT]
 ·unfold Hp.ents
  rw [Hp.Ed,dX,dX]
  by_cases d:i=n
  ·subst d
   rw [if_pos rfl,if_neg (by omega),if_pos (by omega),ho]
   simp [Hp.drop1,hw]
  ·rw [if_neg d]
   by_cases c:n<i
   ·rw [if_pos c,if_pos (by omega)]
   ·rw [if_neg c,if_neg (by omega)]
theorem lI (p:Nat->Bool):∀ l:List Nat,(l.filter (fun n=>!p n)).length+(l.filter p).length=l.length
 | []=>rfl
 |a::l=>by
  have:=lI p l
  cases h:p a<;>simp [h]<;>omega
theorem kQ {g:Hp} (hl:g.objs.length=h.objs.length) (hw:∀ n,(g.ob n).map Ob.col=(h.ob n).map Ob.col):g.wn=h.wn:=by
 have key:g.objs.map oP=h.objs.map oP:=by
  refine List.ext_getElem? (fun n=>?_)
  rw [List.getElem?_map,List.getElem?_map]
  by_cases c:n<h.objs.length
  ·have e1:g.objs[n]?=some (g.ob n):=by
    rw [List.getElem?_eq_getElem (by omega)]
    simp [Hp.ob,show n<g.objs.length by omega]
   have e2:h.objs[n]?=some (h.ob n):=by
    rw [List.getElem?_eq_getElem c]
    simp [Hp.ob,c]
   rw [e1,e2]
   have:=hw n
   cases x1:g.ob n<;>cases x2:h.ob n<;>simp [x1,x2] at this ⊢
   simp [oP,this]
  ·rw [List.getElem?_eq_none (by omega),List.getElem?_eq_none (by omega)]
 unfold Hp.wn
 have h1:∀ l:List (Option Ob),l.countP oP=(l.map oP).countP id:=fun l=>by rw [List.countP_map];rfl
 rw [h1,h1,key]
theorem Sm.Ei {h:Hp} (s:Sm h):Sm h.Ei:=by
 obtain ⟨_,_,_,h4,_,h6⟩:=bY h.finals (h,[])
 obtain ⟨a1,a2,a3,a4,a5,a6,a7,a8,a9,a10⟩:=Hp.EW h
 obtain ⟨b1,b2,b3,b4,b5,b6⟩:=Hp.FL h
 have hob:∀ n,(h.Ei.ob n).map (fun o=>(o.col,o.mode,o.es))=(h.ob n).map (fun o=>(o.col,o.mode,o.es)):=h4
 have hwn:h.Ei.wn=h.wn:=kQ a8 (fun n=>by
  have:=hob n
  cases x1:h.Ei.ob n<;>cases x2:h.ob n<;>simp [x1,x2] at this ⊢
  exact this.1)
 refine ⟨by rw [a8];exact s.len,?_,?_,by rw [b1,b3];exact s.fr,by rw [b2];exact s.JQ,by rw [b5];exact s.cr,by rw [b4];exact s.lim,by rw [a3];exact s.rt,fun n o e=>?_⟩
 ·have:=s.nu
  simp only [Hp.nu,Hp.mu] at this ⊢
  rw [hwn,a4,a5,a9,a10]
  exact this
 ·rw [a1,a2,List.length_append]
  have:=lI h.JK h.finals
  have:=s.fp
  omega
 ·have:=hob n
  rw [e] at this
  cases e2:h.ob n with
  |none=>rw [e2] at this;simp at this
  |some o'=>rw [e2] at this;simp at this;rw [this.2.2];exact s.es n o' e2
end
end Go.Proofs.YtedpifhlffcmkaaGreatDoor
