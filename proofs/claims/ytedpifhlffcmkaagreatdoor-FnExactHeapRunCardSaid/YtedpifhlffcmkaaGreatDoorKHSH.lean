import Derived.Test.YtedpifhlffcmkaaGreatDoorKHSG2
namespace Go.Proofs.YtedpifhlffcmkaaGreatDoor
open Go Go.RowKit
set_option maxHeartbeats 6400000
set_option maxRecDepth 100000
set_option linter.unusedVariables false
variable {S:Nat->Prop} {base:Nat} {h:Hp}
theorem Wk.of (s:Sm h) (t:Jl h No) (z:h.ob 0=none) (p:1<=h.objs.length) (m:∀ n o,h.ob n=some o->o.mode<=3):Wk h:=⟨s,z,p,t.cl,m,t.ll⟩
theorem Wk.alive {h:Hp} (k:Wk h):Wk h.alive:=k.JN (I_.alive h) (by
 show ((h.Eh h.roots).Eh h.pending).nu<=h.nu
 rw [show ((h.Eh h.roots).Eh h.pending).nu=(h.Eh h.roots).nu from bQ Hp.mark Hp.EC _ _,show (h.Eh h.roots).nu=h.nu from bQ Hp.mark Hp.EC _ _]
 exact Nat.le_refl _)
theorem Wk.look (k:Wk h) (t:Jl h No):Wk h.D_:=by
 have x:=iW.D_ h
 exact Wk.of k.s.D_ t.D_ (JM.zero x k.z) (by rw [show h.D_.objs.length=h.objs.length from x.len];exact k.p) (JM.md x k.m)
theorem Wk.settle {h:Hp} (k:Wk h) (t:Jl h No):Wk h.settle:=k.JF (JM.settle h) h.Gq t.settle.ll
theorem J2.closed {g:Hp} (x:J2 h g) (c:h.Closed):g.Closed:=by
 intro m o' e en he r hr
 rcases x.ob m with ⟨y,_⟩|⟨o1,o2,y1,y2,_,_,_,f,y3,y4⟩
 ·rw [e] at y;cases y
 ·rw [e] at y1;cases y1
  rw [y4] at he
  obtain ⟨e0,he0,rfl⟩:=List.mem_map.1 he
  exact (x.lv r).2 (c m o1 y2 e0 he0 r ((y3 e0).refs r hr))
theorem J2.zero {g:Hp} (x:J2 h g) (z:h.ob 0=none):g.ob 0=none:=by
 rcases x.ob 0 with ⟨y,_⟩|⟨_,_,_,y,_⟩
 ·exact y
 ·rw [z] at y;cases y
theorem J2.wn {h g:Hp} (x:J2 h g):g.wn=h.wn:=kQ x.len (fun n=>by
 rcases x.ob n with ⟨y,y'⟩|⟨o1,o2,y1,y2,y3,_⟩
 ·rw [y,y']
 ·rw [y1,y2];simp [y3])
theorem Sm.cnt {g:Hp} (s:Sm h) (x:J2 h g):Sm g:=by
 refine ⟨by rw [x.len];exact s.len,?_,by rw [x.finals,x.pending];exact s.fp,by rw [x.freed,x.live];exact s.fr,by rw [x.bytes];exact s.JQ,by rw [x.D6];exact s.cr,by rw [x.limit];exact s.lim,by rw [x.roots];exact s.rt,fun n o e=>?_⟩
 ·have:=s.nu
  simp only [Hp.nu,Hp.mu] at this ⊢
  rw [x.wn,x.grey,x.D8,x.weak,x.again]
  exact this
 ·rcases x.ob n with ⟨y,_⟩|⟨o1,o2,y1,y2,_,_,_,f,_,y4⟩
  ·rw [e] at y;cases y
  ·rw [e] at y1;cases y1
   rw [y4,List.length_map]
   exact s.es n o1 y2
theorem Wk.cnt {h g:Hp} (k:Wk h) (x:J2 h g):Wk g:=
 ⟨k.s.cnt x,x.zero k.z,by rw [x.len];exact k.p,x.closed k.c,x.md k.m,fun n hn=>(x.lv n).2 (k.l n (by rw [x.grey,x.again,x.weak,x.D8] at hn;exact hn))⟩
theorem Wk.at2 {h:Hp} (k:Wk h) (t:Jl h No):Wk h.at2:=by
 have c:=J2.fold bq bI h.weak h
 refine Wk.of (show Sm (h.weak.foldl Hp.Jk h).Ei from (k.s.cnt c).Ei) t.at2 ?_ (by rw [(dA h).2.2.2.2.2.2.2];exact k.p) (Hp.Gj (c.md k.m))
 cases e:h.at2.ob 0 with
 |none=>rfl
 |some o=>
  obtain ⟨o',e'⟩:=(mg h 0).1 ⟨o,e⟩
  rw [k.z] at e';cases e'
structure Jy (h:Hp):Prop where
 k:Wk h
 t:Jl h No
 l:∀ n,n∈h.roots∨n∈h.pending∨n∈h.finals->h.Lv n
 w:h.white<=1
theorem sW {L:SM} {w:World} (a:JU base S h L w) (x:Jy h):
 Calls Tryz.prog 65 #[.pointer (some ⟨L.H,0,none⟩)] w fun e w'=>e=.returned (.tuple #[])/\∃ L',L'.H=L.H/\JU base S h.atomic L' w'/\Keeps w w' S:=by
 have hrl:=x.k.s.rt
 have hpl:=x.k.s.fp
 obtain ⟨AR,capR,hvR,hcapR,-⟩:=a.IC
 have c13:w.cell? ⟨L.H,13,none⟩=some (.slice AR h.roots.length capR):=by
  rw [<-hvR]
  exact a.hp.cell (j:=13) (by omega)
 have HRS:=ah hvR
 have HX:=ah x
 have HPR:=ah (And.intro a (And.intro x.k.s (And.intro x.k.z (And.intro (show ∀ n∈h.roots,n<h.objs.length from fun n hn=>by obtain ⟨o,e⟩:=x.l n (.inl hn);exact Hp.Es e) (show ∀ n∈h.pending,n<h.objs.length from fun n hn=>by obtain ⟨o,e⟩:=x.l n (.inr (.inl hn));exact Hp.Es e)))))
 clear a hvR x
 go_enter Tryz.func65,Tryz.ntmps65
 go_wp2
 go_loopw [21,3] (fun iv vv wr=>∃ i:Nat,i<=h.roots.length/\iv=.int .i64 i/\Hq (∃ L',Lm L L'/\JU base S ((h.roots.take i).foldl Hp.mark h) L' wr/\Keeps w wr S)) (fun iv _ _=>h.roots.length-aU iv)
 case atStart=>exact ⟨0,by omega,rfl,L,Lm.refl _,HPR.o.1,Keeps.refl _ _⟩
 case round=>
  obtain ⟨i,hi9,rfl,HI⟩:=hrel
  by_cases hin:i<h.roots.length
  ·have hts:h.roots.take (i+1)=h.roots.take i++[h.roots[i]]:=aO (List.getElem?_eq_getElem hin)
   have HF:Hq ((h.roots.take (i+1)).foldl Hp.mark h=Hp.mark ((h.roots.take i).foldl Hp.mark h) h.roots[i]):=ah (by rw [hts,aN])
   have hnl:=HPR.o.2.2.2.1 _ (List.getElem_mem hin)
   have hmk:=JM.fold Hp.mark JM.mark (h.roots.take i) h
   have hsm:=HPR.o.2.1.foldM Hp.mark (fun h x s=>s.mark x) (h.roots.take i) h HPR.o.2.1
   obtain ⟨L1,hLm,hat,hkp⟩:=HI.out
   obtain ⟨q,hq⟩:∃ q,(h.roots.take i).foldl Hp.mark h=q:=⟨_,rfl⟩
   rw [hq] at hmk hsm hat HF
   clear hts
   have hrg:=hat.IC
   obtain ⟨A1,cap1,hv1,hcap1,hget1⟩:=hrg
   have hq1:q.roots=h.roots:=hmk.roots
   rw [hq1] at hv1
   have:A1=AR/\cap1=capR:=by
    have h9:=hv1.symm.trans (hLm.rS.trans HRS.o)
    simp only [Value.slice.injEq] at h9
    exact ⟨h9.1,h9.2.2⟩
   obtain ⟨rfl,rfl⟩:=this
   obtain ⟨g,rfl,hcells⟩:=hget1 i h.roots[i] (by rw [hq1];exact List.getElem?_eq_getElem hin)
   generalize h.roots[i]=n at *
   have d0:=hcells 0 _ rfl
   have d1:=hcells 1 _ rfl
   have d2:=hcells 2 _ rfl
   have d3:=hcells 3 _ rfl
   have d4:=hcells 4 _ rfl
   simp only [Nat.add_zero] at d0
   obtain ⟨H1,oS1,ob1,es1,li1,rS1⟩:=L1
   obtain rfl:H1=L.H:=hLm.H
   have HMV:=ah (dD (hat.alloc (.cells #[.int .i64 (vk (some (Sum.inr n):HV)),.int .i64 (vi (some (Sum.inr n):HV)),.int .u64 0,.string ByteArray.empty,.int .i64 (vr (some (Sum.inr n):HV))] 95)) hsm (hmk.zero HPR.o.2.2.1) (some (.inr n)) (by rw [hmk.len];exact hnl))
   have HT:=ah (And.intro hLm (hkp.trans (Keeps.of (aJ wr (.cells #[.int .i64 (vk (some (Sum.inr n):HV)),.int .i64 (vi (some (Sum.inr n):HV)),.int .u64 0,.string ByteArray.empty,.int .i64 (vr (some (Sum.inr n):HV))] 95)) (Nat.le_refl _) S)))
   clear hLm hat hkp hmk hsm hv1 hget1 hq hcells HI hq1 hnl
   go_wp2_with fail
   refine HMV.o.mono ?_
   rintro e9 w4 ⟨rfl,L4,hl4,ha4,hk4⟩
   have H4:=ah (And.intro hl4 (And.intro ha4 hk4))
   clear hl4 ha4 hk4 HMV
   go_wp2
   go_roundw
   case rel=>
    refine ⟨i+1,by omega,by simp,?_⟩
    exact ⟨L4,HT.o.1.trans H4.o.1,by rw [HF.o];exact H4.o.2.1,HT.o.2.trans H4.o.2.2⟩
   case measure=>simp [aU];omega
  ·obtain rfl:i=h.roots.length:=by omega
   have HI2:=HI.out
   rw [List.take_length] at HI2
   obtain ⟨L6,hLm,hat,hkp⟩:=HI2
   have HL6:Hq (Lm L L6/\JU base S (h.Eh h.roots) L6 wr/\Keeps w wr S):=ah ⟨hLm,hat,hkp⟩
   clear hLm hat hkp HI
   obtain ⟨AP,capP,hvP,hcapP,-⟩:=HL6.o.2.1.EM (k:=12) (by simp [cB])
   have hmr:=JM.Eh h h.roots
   have hq12:eX (h.Eh h.roots) 12=h.pending:=hmr.pending
   rw [hq12] at hvP hcapP
   have c12:wr.cell? ⟨L.H,12,none⟩=some (.slice AP h.pending.length capP):=by
    have:=HL6.o.2.1.hp.cell (j:=12) (by omega)
    rw [HL6.o.1.H] at this
    rw [this]
    exact congrArg some hvP
   have HPS:=ah hvP
   have HPP:=ah (And.intro HL6.o.2.1 (And.intro (HPR.o.2.1.Eh h.roots) (And.intro (hmr.zero HPR.o.2.2.1) (show ∀ n∈h.pending,n<(h.Eh h.roots).objs.length from by rw [hmr.len];exact HPR.o.2.2.2.2))))
   have HK6:=ah HL6.o.2.2
   have HQP:=ah (show (h.Eh h.roots).pending=h.pending from hmr.pending)
   have HAL:Hq (h.alive=(h.Eh h.roots).Eh h.pending):=ah rfl
   have hpl2:h.pending.length<=5000:=by omega
   clear hmr hq12 hvP HRS
   obtain ⟨H6,oS6,ob6,es6,li6,rS6⟩:=L6
   obtain rfl:H6=L.H:=HL6.o.1.H
   clear HL6 HPR
   generalize h.Eh h.roots=q1 at *
   generalize h.pending=pd at *
   rename World=>w6
   go_wp2
   go_loopw [34] (fun iv wr=>∃ i:Nat,i<=pd.length/\iv=.int .i64 i/\Hq (∃ L',Lm (⟨L.H,oS6,ob6,es6,li6,rS6⟩:SM) L'/\JU base S ((pd.take i).foldl Hp.mark q1) L' wr/\Keeps w6 wr S)) (fun iv _=>pd.length-aU iv)
   case atStart=>exact ⟨0,by omega,rfl,(⟨L.H,oS6,ob6,es6,li6,rS6⟩:SM),Lm.refl _,HPP.o.1,Keeps.refl _ _⟩
   case round=>
    obtain ⟨i,hi9,rfl,HI⟩:=hrel
    by_cases hin:i<pd.length
    ·have hts:pd.take (i+1)=pd.take i++[pd[i]]:=aO (List.getElem?_eq_getElem hin)
     have HF:Hq ((pd.take (i+1)).foldl Hp.mark q1=Hp.mark ((pd.take i).foldl Hp.mark q1) pd[i]):=ah (by rw [hts,aN])
     have hnl:=HPP.o.2.2.2 _ (List.getElem_mem hin)
     have hmk:=JM.fold Hp.mark JM.mark (pd.take i) q1
     have hsm:=HPP.o.2.1.foldM Hp.mark (fun h x s=>s.mark x) (pd.take i) q1 HPP.o.2.1
     obtain ⟨L1,hLm,hat,hkp⟩:=HI.out
     obtain ⟨q,hq⟩:∃ q,(pd.take i).foldl Hp.mark q1=q:=⟨_,rfl⟩
     rw [hq] at hmk hsm hat HF
     clear hts
     obtain ⟨A1,cap1,hv1,hcap1,hget1⟩:=hat.EM (k:=12) (by simp [cB])
     have hq1:eX q 12=pd:=hmk.pending.trans HQP.o
     rw [hq1] at hv1
     have:A1=AP/\cap1=capP:=by
      have h9:=hv1.symm.trans ((hLm.li 12 (by decide) (by decide) (by decide)).trans HPS.o)
      simp only [Value.slice.injEq] at h9
      exact ⟨h9.1,h9.2.2⟩
     obtain ⟨rfl,rfl⟩:=this
     obtain ⟨g,rfl,hgc⟩:=hget1 i (by rw [hq1];exact hin)
     have hgc':wr.cell? ⟨g,i,none⟩=some (.int .i64 ((pd[i]:Nat):Int)):=by
      rw [hgc]
      congr 3
      simp only [hq1]
     generalize pd[i]=n at *
     obtain ⟨H1,oS1,ob1,es1,li1,rS1⟩:=L1
     obtain rfl:H1=(⟨L.H,oS6,ob6,es6,li6,rS6⟩:SM).H:=hLm.H
     have HMV:=ah (h_ hat hsm (hmk.zero HPP.o.2.2.1) n (by rw [hmk.len];exact hnl))
     have HT:=ah (And.intro hLm hkp)
     clear hLm hat hkp hmk hsm hv1 hget1 hq HI hq1 hnl hgc
     go_wp2_with fail
     refine HMV.o.mono ?_
     rintro e9 w4 ⟨rfl,L4,hl4,ha4,hk4⟩
     have H4:=ah (And.intro hl4 (And.intro ha4 hk4))
     clear hl4 ha4 hk4 HMV
     go_wp2
     go_roundw
     case rel=>
      refine ⟨i+1,by omega,by simp,?_⟩
      exact ⟨L4,HT.o.1.trans H4.o.1,by rw [HF.o];exact H4.o.2.1,HT.o.2.trans H4.o.2.2⟩
     case measure=>simp [aU];omega
    ·obtain rfl:i=pd.length:=by omega
     have HI2:=HI.out
     rw [List.take_length] at HI2
     obtain ⟨L7,hLm,hat,hkp⟩:=HI2
     have HL7:Hq (Lm (⟨L.H,oS6,ob6,es6,li6,rS6⟩:SM) L7/\JU base S (q1.Eh pd) L7 wr/\Keeps w6 wr S):=ah ⟨hLm,hat,hkp⟩
     clear hLm hat hkp HI
     rename World=>w7
     obtain ⟨H7,oS7,ob7,es7,li7,rS7⟩:=L7
     obtain rfl:H7=L.H:=HL7.o.1.H
     have HA7:Hq (JU base S h.alive ⟨L.H,oS7,ob7,es7,li7,rS7⟩ w7):=ah (by rw [HAL.o];exact HL7.o.2.1)
     have HK7:=ah (HK6.o.trans HL7.o.2.2)
     clear HL7 HPP HPS HQP HAL HK6 hpl2 hcapP c12
     have HD:=ah (j6 HA7.o HX.o.k.alive (HX.o.t.JN (I_.alive h)))
     go_wp2_with fail
     refine HD.o.mono ?_
     rintro e9 w8 ⟨⟨z8,rfl⟩,L8,hl8,ha8,hk8⟩
     obtain ⟨H8,oS8,ob8,es8,li8,rS8⟩:=L8
     obtain rfl:H8=L.H:=hl8.H
     have HA8:=ah ha8
     have HK8:=ah (HK7.o.trans hk8)
     clear hl8 ha8 hk8 HD HA7 HK7
     have HW3:=ah (And.intro (HX.o.k.alive.drain (HX.o.t.JN (I_.alive h))) (HX.o.t.JN (I_.alive h)).drain)
     obtain ⟨AG,capG,hvG,hcapG,-⟩:=HA8.o.EM (k:=8) (by simp [cB])
     have c8:w8.cell? ⟨L.H,8,none⟩=some (.slice AG h.alive.drain.again.length capG):=by
      have:=HA8.o.hp.cell (j:=8) (by omega)
      rw [this]
      exact congrArg some hvG
     have z8':=HA8.o.hp.Jv 8
     have hagl:h.alive.drain.again.length<=20000:=by
      have:=HW3.o.1.s.nu
      omega
     have HOG:Hq (w8.ownsRow base 3 1 (.slice AG h.alive.drain.again.length capG) h.alive.drain.again.length (bU h.alive.drain.again)):=ah (by
      have:=HA8.o.li 8 (by simp [cB])
      rw [hvG] at this
      exact this)
     obtain ⟨L9,hL9,ha9,hk9⟩:=HA8.o.I8 8 (by simp [cB])
     obtain ⟨H9,oS9,ob9,es9,li9,rS9⟩:=L9
     obtain rfl:H9=L.H:=hL9.H
     have hvG':li8 8=.slice AG h.alive.drain.again.length capG:=hvG
     simp only [hvG'] at ha9 hk9
     have HA9:=ah ha9
     have HK9:=ah hk9
     have HAT1:Hq (h.JY=h.alive.drain.D_.settle):=ah rfl
     have HLA:Hq (∀ q:Hp,q=h.alive.drain->q.D_=q.again.foldl Hp.Ef (bL q 8 [])):=ah (fun q _=>(zl q.again [] q).symm)
     have HLB:=ah (HLA.o _ rfl)
     clear hL9 ha9 hk9 hvG hvG' HLA
     generalize h.alive.drain=q3 at *
     go_upto_region 13 with (fail)
     generalize w8.setCell ⟨L.H,8,none⟩ (.slice none 0 0)=w9 at *
     have HO9:=ah (aj HOG.o HK9.o (fun g hg x=>x.2 hg))
     generalize hT:(fun b=>S b/\(Value.slice AG q3.again.length capG).ownBlock≠some b)=T at *
     have HT:=ah hT
     generalize hag:q3.again=ag at *
     have HAG:=ah hag
     have HLV:Hq (∀ n∈ag,q3.Lv n):=ah (fun n hn=>HW3.o.2.ll n (.inr (.inl (HAG.o ▸ hn))))
     have hob8:∀ n,(bL q3 8 []).ob n=q3.ob n:=fun n=>rfl
     have HS9:Hq (Sm (bL q3 8 [])):=ah (by
      refine ⟨HW3.o.1.s.len,?_,HW3.o.1.s.fp,HW3.o.1.s.fr,HW3.o.1.s.JQ,HW3.o.1.s.cr,HW3.o.1.s.lim,HW3.o.1.s.rt,HW3.o.1.s.es⟩
      have:=HW3.o.1.s.nu
      show q3.nu+0<=20000
      omega)
     have HNU:Hq (q3.nu+ag.length<=20000):=ah (by have:=HW3.o.1.s.nu;rw [HAG.o] at this;exact this)
     have HOB:=ah hob8
     have hp3:1<=q3.objs.length:=HW3.o.1.p
     have hl3:q3.objs.length<=5001:=HW3.o.1.s.len
     clear hT hag c8 z8' hob8
     generalize hq4:bL q3 8 []=q4 at *
     have HQ4:Hq (q4.nu=q3.nu/\q4.objs.length=q3.objs.length/\q4.grey=q3.grey):=ah (by rw [<-hq4];exact ⟨rfl,rfl,rfl⟩)
     clear hq4
     go_wp2
     go_loopw [53] (fun iv wr=>∃ i:Nat,i<=ag.length/\iv=.int .i64 i/\Hq (∃ L',L'.H=L.H/\JU base T ((ag.take i).foldl Hp.Ef q4) L' wr/\Keeps w9 wr T)) (fun iv _=>ag.length-aU iv)
     case atStart=>exact ⟨0,by omega,rfl,⟨L.H,oS9,ob9,es9,li9,rS9⟩,rfl,HA9.o,Keeps.refl _ _⟩
     case round=>
      obtain ⟨i,hi9,rfl,HI⟩:=hrel
      by_cases hin:i<ag.length
      ·have hts:ag.take (i+1)=ag.take i++[ag[i]]:=aO (List.getElem?_eq_getElem hin)
       have HF:Hq ((ag.take (i+1)).foldl Hp.Ef q4=Hp.Ef ((ag.take i).foldl Hp.Ef q4) ag[i]):=ah (by rw [hts,aN])
       have hlv:=HLV.o _ (List.getElem_mem hin)
       have hmk:=JM.fold Hp.Ef JM.Ef (ag.take i) q4
       have hnu:=kW (ag.take i) q4
       obtain ⟨L1,hLH,hat,hkp⟩:=HI.out
       obtain ⟨H1,oS1,ob1,es1,li1,rS1⟩:=L1
       obtain rfl:H1=L.H:=hLH
       have hown:=aj HO9.o hkp (fun g hg x=>by rw [<-HT.o] at x;exact x.2 hg)
       obtain ⟨g,rfl,hgc⟩:=(lV (n:=0) hown).2 i hin
       generalize ag[i]=n at *
       generalize hqq:(ag.take i).foldl Hp.Ef q4=q at *
       obtain ⟨o,ho⟩:q.Lv n:=(hmk.lv n).2 (by obtain ⟨o,e⟩:=hlv;exact ⟨o,by rw [HOB.o];exact e⟩)
       have hnl:=Hp.Es ho
       have hql:q.objs.length=q3.objs.length:=hmk.len.trans HQ4.o.2.1
       have hgl:(eX (q.upd n fun o=>{ o with col:=2 }) 7).length<=1000000:=by
        show q.grey.length<=_
        have h1:=HNU.o
        have h2:=HQ4.o.1
        have h3:(ag.take i).length<=ag.length:=by rw [List.length_take];omega
        simp only [Hp.nu,Hp.mu] at hnu h1 h2
        omega
       obtain ⟨go,capo,hoS,hcapo,hcell⟩:=hat.slot (by omega)
       have hcn:=hcell n hnl
       have c0:wr.cell? ⟨L.H,0,none⟩=some (.slice (some ⟨go,0,none⟩) q.objs.length capo):=by
        have:=hat.hp.cell (j:=0) (by omega)
        rw [this]
        exact congrArg some hoS
       obtain ⟨r1,hr1⟩:=hat.ob n o ho
       have c1:wr.cell? ⟨ob1 n,1,none⟩=some (.int .i64 o.col):=hr1.cell (j:=1) (by omega)
       have z1:=hr1.Jv 1
       have hni:(n:Int)<(q.objs.length:Int):=by omega
       have HB:=ah (hat.JE n 1 (.int .i64 2) (fun o=>{ o with col:=2 }) (by decide) ho ⟨rfl,rfl⟩ (fun r i=>by
        unfold jw
        by_cases x:i=1
        ·subst x;simp
        ·simp [x]))
       have HKP:=ah hkp
       clear hts hlv hmk hnu hat hkp hown hqq ho hcell hoS hr1 HI
       go_upto_region 17 with (fail)
       generalize wr.setCell ⟨ob1 n,1,none⟩ (.int .i64 2)=w5 at *
       obtain ⟨ag7,cg7,hgv⟩:=aF (HB.o.1.li 7 (by simp [cB]))
       have c7:w5.cell? ⟨L.H,7,none⟩=some (.slice ag7 q.grey.length cg7):=by
        have:=HB.o.1.hp.cell (j:=7) (by omega)
        rw [this]
        exact congrArg some hgv
       have HG:=ah hgv
       clear hgv c0 c1 z1 hcn hgc
       go_wp2_with (first
        |(at_builtin;refine HB.o.1.app 7 (by simp [cB]) n rfl _ _ rfl HG.o.symm rfl hgl ?_;intro gq cq w1 hrow1 hat1 hk1;have cR:=hrow1.cell (j:=7) (by omega);have zR:=hrow1.Jv 7;have H1:=ah hat1;have K1:=ah hk1;clear hrow1 hat1 hk1)
        |go_in)
       go_roundw
       case rel=>
        refine ⟨i+1,by omega,by simp,?_⟩
        have h9:=H1.o
        refine ⟨_,?_,by rw [HF.o];exact h9,(HKP.o.trans HB.o.2).trans K1.o⟩
        exact rfl
       case measure=>simp [aU];omega
      ·obtain rfl:i=ag.length:=by omega
       have HI2:=HI.out
       rw [List.take_length,<-HLB.o] at HI2
       obtain ⟨L10,hLH,hat,hkp⟩:=HI2
       obtain ⟨H10,oS10,ob10,es10,li10,rS10⟩:=L10
       obtain rfl:H10=L.H:=hLH
       have HA10:Hq (JU base S q3.D_ ⟨L.H,oS10,ob10,es10,li10,rS10⟩ wr):=ah (hat.mono (fun b z=>by rw [<-HT.o] at z;exact z.1))
       have HK10:=ah ((HK8.o.trans (HK9.o.mono (fun b z=>by rw [<-HT.o] at z;exact z.1))).trans (hkp.mono (fun b z=>by rw [<-HT.o] at z;exact z.1)))
       have HW5:=ah (And.intro (HW3.o.1.look HW3.o.2) HW3.o.2.D_)
       clear hat hkp HI HLB HA9 HK9 HT HO9 HOG HA8 HK8 HLV HOB HNU HQ4 HS9 HAG hagl hcapG HW3
       generalize q3.D_=q5 at *
       rename World=>w10
       have HCV:=ah (jE HA10.o HW5.o.1 HW5.o.2)
       go_wp2_with fail
       refine HCV.o.mono ?_
       rintro e9 w11 ⟨rfl,L11,hl11,ha11,hk11⟩
       obtain ⟨H11,oS11,ob11,es11,li11,rS11⟩:=L11
       obtain rfl:H11=L.H:=hl11.H
       rw [<-HAT1.o] at ha11
       have HA11:=ah ha11
       have HK11:=ah (HK10.o.trans hk11)
       have HW6:Hq (Wk h.JY):=ah (by rw [HAT1.o];exact HW5.o.1.settle HW5.o.2)
       clear hl11 ha11 hk11 HCV HA10 HK10 HW5 HAT1
       have hou:=oO HX.o.t (fun n hn=>HX.o.l n (hn.elim .inl (fun x=>.inr (.inl x))))
       have HAT:Hq (h.atomic=h.JY.at2.at3.at4.Jp.Jz):=ah rfl
       have HFL:Hq (∀ n∈h.JY.finals,h.JY.Lv n):=ah (fun n hn=>by
        have a1:=iW.JY h
        have e:h.JY.finals=h.finals:=a1.finals
        rw [e] at hn
        exact (a1.lv n).2 (HX.o.l n (.inr (.inr hn))))
       have HPL:Hq (∀ n∈h.JY.pending,h.JY.Lv n):=ah (fun n hn=>by
        have a1:=iW.JY h
        have e:h.JY.pending=h.pending:=a1.pending
        rw [e] at hn
        exact (a1.lv n).2 (HX.o.l n (.inr (.inl hn))))
       have HTR:=ah HX.o.t.JY
       have HWA:Hq (h.JY.white<=1):=ah (by rw [show h.JY.white=h.white from (iW.JY h).white];exact HX.o.w)
       have HW8:Hq (Wk h.JY.at2):=ah (HW6.o.at2 HTR.o)
       have HT8:=ah HTR.o.at2
       have HP8:Hq (∀ n∈h.JY.at2.pending,n<h.JY.at2.objs.length):=ah (fun n hn=>by
        rw [(dA h.JY).2.1] at hn
        have hl:h.JY.Lv n:=by
         rcases List.mem_append.1 hn with y|y
         ·exact HPL.o n y
         ·exact HFL.o n (List.mem_filter.1 y).1
        obtain ⟨o,e⟩:=(mg h.JY n).2 hl
        exact Hp.Es e)
       obtain ⟨L12,hL12,ha12,hk12⟩:=HA11.o.Hw 8 (by simp [cB])
       obtain ⟨H12,oS12,ob12,es12,li12,rS12⟩:=L12
       obtain rfl:H12=L.H:=hL12.H
       have c8:w11.cell? ⟨L.H,8,none⟩=some (li11 8):=HA11.o.hp.cell (j:=8) (by omega)
       have z8:=HA11.o.hp.Jv 8
       have ha12':JU base S h.JY ⟨L.H,oS12,ob12,es12,li12,rS12⟩ (w11.setCell ⟨L.H,8,none⟩ (.slice none 0 0)):=by
        have e:bL h.JY 8 []=h.JY:=ni hou.2.1
        rw [e] at ha12
        exact ha12
       have HA12:=ah ha12'
       have HK12:=ah (HK11.o.trans hk12)
       have HAGN:=ah hou.2.1
       have HGRN:=ah hou.1
       clear hL12 ha12 hk12 ha12' HA11 HK11 hou HX hrl hpl hcapR
       go_upto_region 21 with (fail)
       generalize w11.setCell ⟨L.H,8,none⟩ (.slice none 0 0)=w12 at *
       clear c8 z8
       generalize h.JY=q6 at *
       have HCL:=ah (iX HA12.o HW6.o)
       go_wp2_with fail
       refine HCL.o.mono ?_
       rintro e9 w13 ⟨rfl,ha13,hk13⟩
       have HA13:=ah ha13
       have HK13:=ah (HK12.o.trans hk13)
       have hcn:=J2.fold bq bI q6.weak q6
       have HCN:Hq (J2 q6 (q6.weak.foldl Hp.Jk q6)):=ah hcn
       have HW7:Hq (Wk (q6.weak.foldl Hp.Jk q6)):=ah (HW6.o.cnt hcn)
       have HA2:Hq (q6.at2=(q6.weak.foldl Hp.Jk q6).Ei):=ah rfl
       have HFL7:Hq (∀ n∈(q6.weak.foldl Hp.Jk q6).finals,(q6.weak.foldl Hp.Jk q6).Lv n):=ah (fun n hn=>(hcn.lv n).2 (HFL.o n (by rw [<-hcn.finals];exact hn)))
       clear ha13 hk13 HCL HA12 HK12 hcn HFL
       generalize q6.weak.foldl Hp.Jk q6=q7 at *
       obtain ⟨AF,capF,hvF,hcapF,-⟩:=HA13.o.EM (k:=11) (by simp [cB])
       have hfl:q7.finals.length<=5000:=by have:=HW7.o.s.fp;omega
       have hpl:q7.pending.length+q7.finals.length<=5000:=by have:=HW7.o.s.fp;omega
       have hF1:=aJ w13 (.cells #[] 3)
       have HA14:=ah (HA13.o.low hF1)
       have HK14:=ah (HK13.o.trans (Keeps.of hF1 (Nat.le_refl _) S))
       have c11:(w13.alloc (.cells #[] 3)).cell? ⟨L.H,11,none⟩=some (.slice AF q7.finals.length capF):=by
        have:=HA14.o.hp.cell (j:=11) (by omega)
        rw [this]
        exact congrArg some hvF
       have HOL:Hq (World.ownsRow (w13.alloc (.cells #[] 3)) base 3 1 (.slice (some ⟨w13.heap.size,0,none⟩) 0 0) ([]:List Nat).length (bU [])):=ah ⟨rfl,.inr ⟨w13.heap.size,0,#[],rfl,HA13.o.bs,heap_alloc_new w13 _,by decide,by decide,rfl,rfl⟩⟩
       have HSL:Hq (JU base (fun b=>S b/\(Value.slice (some ⟨w13.heap.size,0,none⟩) 0 0).ownBlock≠some b) q7 ⟨L.H,oS12,ob12,es12,li12,rS12⟩ (w13.alloc (.cells #[] 3))):=ah (HA14.o.less _ (fun g e=>by
        have e':w13.heap.size=g:=by simpa [Value.ownBlock] using e
        subst e'
        exact ⟨HA13.o.past (Nat.le_refl _),by simp⟩))
       have HSX:Hq (∀ g,(Value.slice (some ⟨w13.heap.size,0,none⟩) 0 0).ownBlock=some g->S g):=ah (fun g e=>by
        have e':w13.heap.size=g:=by simpa [Value.ownBlock] using e
        subst e'
        exact HA13.o.up _ (Nat.le_refl _))
       have HVF:=ah hvF
       clear hF1 hvF HA13 HK13 HA14
       go_upto_region 23 with (fail)
       generalize w13.alloc (.cells #[] 3)=w14 at *
       generalize w13.heap.size=X14 at *
       go_wp2
       go_loopw [90,9] (fun iv lv wr=>∃ (i:Nat) (A9:Option Addr) (c9:Nat) (left:List Nat),i<=q7.finals.length/\iv=.int .i64 i/\lv=.slice A9 left.length c9/\Hq (∃ L',L'.H=L.H/\L'.li 11=li12 11/\((q7.finals.take i).foldl Hp.Ej (q7,[])).2=left/\wr.ownsRow base 3 1 (.slice A9 left.length c9) left.length (bU left)/\JU base (fun b=>S b/\(Value.slice A9 left.length c9).ownBlock≠some b) ((q7.finals.take i).foldl Hp.Ej (q7,[])).1 L' wr/\Keeps w14 wr S/\∀ g,(Value.slice A9 left.length c9).ownBlock=some g->S g)) (fun iv _ _=>q7.finals.length-aU iv)
       case atStart=>exact ⟨0,_,_,[],by omega,rfl,rfl,⟨L.H,oS12,ob12,es12,li12,rS12⟩,rfl,rfl,rfl,HOL.o,HSL.o,Keeps.refl _ _,HSX.o⟩
       case round=>
        obtain ⟨i,A9,cp9,left,hi9,rfl,rfl,HI⟩:=hrel
        by_cases hin:i<q7.finals.length
        ·have hts:q7.finals.take (i+1)=q7.finals.take i++[q7.finals[i]]:=aO (List.getElem?_eq_getElem hin)
         have HF:Hq ((q7.finals.take (i+1)).foldl Hp.Ej (q7,[])=Hp.Ej ((q7.finals.take i).foldl Hp.Ej (q7,[])) q7.finals[i]):=ah (by rw [hts,aN])
         have hlv:=HFL7.o _ (List.getElem_mem hin)
         have hwf:=bY (q7.finals.take i) (q7,[])
         obtain ⟨L1,hLH,hL11,hleft,hown,hat,hkp,hsx⟩:=HI.out
         obtain ⟨H1,oS1,ob1,es1,li1,rS1⟩:=L1
         obtain rfl:H1=L.H:=hLH
         have hfin:((q7.finals.take i).foldl Hp.Ej (q7,[])).1.finals=q7.finals:=by rw [hwf.2.2.2.2.1]
         have hplen:((q7.finals.take i).foldl Hp.Ej (q7,[])).1.pending.length<=5000:=by
          rw [hwf.2.2.1]
          have h1:=List.length_filter_le q7.JK (q7.finals.take i)
          have h2:(q7.finals.take i).length<=q7.finals.length:=by rw [List.length_take];omega
          simp only [List.length_append]
          omega
         have hllen:left.length<=5000:=by
          rw [<-hleft,hwf.2.1]
          have h1:=List.length_filter_le (fun n=>!q7.JK n) (q7.finals.take i)
          have h2:(q7.finals.take i).length<=q7.finals.length:=by rw [List.length_take];omega
          simp only [List.nil_append]
          omega
         have hobn:=hwf.2.2.2.1 q7.finals[i]
         have hwn:=hwf.1 q7.finals[i]
         have hlen:=hwf.2.2.2.2.2
         simp only at hobn hwn hlen
         clear hwf hts
         obtain ⟨AF1,capF1,hvF1,hcapF1,hgetF⟩:=hat.EM (k:=11) (by simp [cB])
         generalize hqq:(q7.finals.take i).foldl Hp.Ej (q7,[])=qp at *
         obtain ⟨q,lf⟩:=qp
         simp only at hfin hplen hleft hat hobn hwn hlen hvF1 hcapF1 hgetF HF
         have hl11:eX q 11=q7.finals:=hfin
         rw [hl11] at hvF1
         have:AF1=AF/\capF1=capF:=by
          have h9:=hvF1.symm.trans (hL11.trans HVF.o)
          simp only [Value.slice.injEq] at h9
          exact ⟨h9.1,h9.2.2⟩
         obtain ⟨rfl,rfl⟩:=this
         obtain ⟨g,rfl,hgc⟩:=hgetF i (by rw [hl11];exact hin)
         have hgc':wr.cell? ⟨g,i,none⟩=some (.int .i64 ((q7.finals[i]:Nat):Int)):=by
          rw [hgc]
          congr 3
          simp only [hl11]
         generalize q7.finals[i]=n at *
         obtain ⟨o,ho⟩:q.Lv n:=by
          obtain ⟨o7,e7⟩:=hlv
          rw [e7] at hobn
          cases e9:q.ob n with
          |none=>rw [e9] at hobn;simp at hobn
          |some o=>exact ⟨o,e9⟩
         have hnl:=Hp.Es ho
         have hql:q.objs.length<=5001:=by rw [hlen];exact HW7.o.s.len
         obtain ⟨go,capo,hoS,hcapo,hcell⟩:=hat.slot (by omega)
         have hcn:=hcell n hnl
         have c0:wr.cell? ⟨L.H,0,none⟩=some (.slice (some ⟨go,0,none⟩) q.objs.length capo):=by
          have:=hat.hp.cell (j:=0) (by omega)
          rw [this]
          exact congrArg some hoS
         obtain ⟨r1,hr1⟩:=hat.ob n o ho
         have c1:wr.cell? ⟨ob1 n,1,none⟩=some (.int .i64 o.col):=hr1.cell (j:=1) (by omega)
         have hni:(n:Int)<(q.objs.length:Int):=by omega
         have HIW:=ah (eF wr (ob1 n) o.col c1)
         have HWN:=ah (show eP o.col=q.JK n from (Hp.FU ho).symm)
         have HT:=ah (And.intro hL11 (And.intro hleft (And.intro hown (And.intro hat (And.intro hkp hsx)))))
         have HO:=ah ho
         clear hat hkp hsx hown hleft hL11 hr1 hcell hoS hqq ho hobn hwn hvF1 hgetF hgc HI hl11 hlv hfin
         go_wp2_with fail
         refine HIW.o.mono ?_
         rintro e9 w5 ⟨rfl,hw5⟩
         obtain rfl:=hw5.symm
         cases hb:eP o.col with
         |true=>
          have HB:=ah hb
          clear hb HIW
          obtain ⟨ap,cp,hpv⟩:=aF (HT.o.2.2.2.1.li 12 (by simp [cB]))
          have c12:wr.cell? ⟨L.H,12,none⟩=some (.slice ap q.pending.length cp):=by
           have:=HT.o.2.2.2.1.hp.cell (j:=12) (by omega)
           rw [this]
           exact congrArg some hpv
          have HG:=ah hpv
          have hgl:(eX q 12).length<=1000000:=by
           show q.pending.length<=_
           omega
          clear hpv
          go_upto_region 28 with (first
           |(at_builtin;refine HT.o.2.2.2.1.app 12 (by simp [cB]) n rfl _ _ rfl HG.o.symm rfl hgl ?_;intro gq cq w1 hrow1 hat1 hk1;have cR:=hrow1.cell (j:=12) (by omega);have zR:=hrow1.Jv 12;have H1:=ah hat1;have K1:=ah hk1;clear hrow1 hat1 hk1)
           |go_in)
          generalize w1.setCell ⟨L.H,12,none⟩ (.slice (some ⟨gq,0,none⟩) ((eX q 12).length+1) cq)=w7 at *
          have ho2:(bL q 12 (eX q 12++[n])).ob n=some o:=HO.o
          obtain ⟨go2,capo2,hoS2,hcapo2,hcell2⟩:=H1.o.slot (show 1<=q.objs.length by omega)
          have hcn2:=hcell2 n hnl
          have d0:w7.cell? ⟨L.H,0,none⟩=some (.slice (some ⟨go2,0,none⟩) q.objs.length capo2):=by
           have:=H1.o.hp.cell (j:=0) (by omega)
           rw [this]
           exact congrArg some hoS2
          obtain ⟨r2,hr2⟩:=H1.o.ob n o ho2
          have d22:w7.cell? ⟨ob1 n,22,none⟩=some (.bool o.fin):=hr2.cell (j:=22) (by omega)
          have z22:=hr2.Jv 22
          have HB2:=ah (H1.o.JE n 22 (.bool false) (fun o=>{ o with fin:=false }) (by decide) ho2 ⟨rfl,rfl⟩ (fun r i=>by
           unfold jw
           by_cases x:i=22
           ·subst x;simp
           ·simp [x]))
          have HOW:=ah (aj HT.o.2.2.1 K1.o (fun g hg x=>x.2 hg))
          clear ho2 hcell2 hoS2 hr2 c0 c1 hcn c12 cR zR hgc'
          go_upto_region 30 with (fail)
          generalize w7.setCell ⟨ob1 n,22,none⟩ (.bool false)=w8 at *
          clear d0 d22 z22 hcn2
          go_wp2
          go_roundw
          case rel=>
           have h9:=HB2.o.1
           refine ⟨i+1,A9,cp9,left,by omega,by simp,rfl,_,?_,?_,?_,aj HOW.o HB2.o.2 (fun g hg x=>x.2 hg),by rw [HF.o,show Hp.Ej (q,lf) n=(q.GR n,lf) from by unfold Hp.Ej;rw [if_pos (by rw [<-HWN.o];exact HB.o)]];exact h9,(HT.o.2.2.2.2.1.trans (K1.o.mono (fun b z=>z.1))).trans (HB2.o.2.mono (fun b z=>z.1)),HT.o.2.2.2.2.2⟩
           ·exact rfl
           ·exact HT.o.1
           ·rw [HF.o,show Hp.Ej (q,lf) n=(q.GR n,lf) from by unfold Hp.Ej;rw [if_pos (by rw [<-HWN.o];exact HB.o)]]
            exact HT.o.2.1
          case measure=>simp [aU];omega
         |false=>
          have HB:=ah hb
          clear hb HIW c0 c1 hcn hgc'
          go_wp2_with (first
           |(at_builtin
             refine iF rfl _ _ 30 3 1 8 (.int .i64 0) rfl Tryz.underlying30 iK rfl (by decide) base (.slice A9 left.length cp9) left.length (bU left) [.int .i64 (n:Int)] HT.o.2.2.1 rfl rfl rfl (fun u hu=>by simp at hu;subst hu;rfl) (by omega) (by decide) HT.o.2.2.2.1.bs ?_
             intro v' w1 hw1 hw2 hw3 hw4
             obtain ⟨A1,k1,rfl⟩:=aF hw1
             have H1:=ah (And.intro hw1 (And.intro (hw2 base wr (Below.refl _ _) (Nat.le_refl _)) (And.intro hw3 hw4)))
             clear hw1 hw2 hw3 hw4)
           |go_in)
          go_roundw
          case rel=>
           have hw:=HF.o
           rw [show Hp.Ej (q,lf) n=(q,lf++[n]) from by unfold Hp.Ej;rw [if_neg (by rw [<-HWN.o,HB.o];decide)]] at hw
           obtain ⟨hw1,hw2,hw3,hw4⟩:=H1.o
           have kk:Keeps wr w1 (fun b=>(Value.slice A9 left.length cp9).ownBlock=some b):=⟨hw2.os,hw2.tape,hw2.output,hw2.size,fun b hb hn=>hw3 b hb hn⟩
           have hat:=HT.o.2.2.2.1
           have hat1:=hat.out (kk.mono (fun b e x=>x.2 e))
           have hown1:w1.ownsRow base 3 1 (.slice A1 (left++[n]).length k1) (left++[n]).length (bU (left++[n])):=by simpa [bU] using hw1
           refine ⟨i+1,A1,k1,left++[n],by omega,by simp,by simp,⟨L.H,oS1,ob1,es1,li1,rS1⟩,rfl,?_,?_,hown1,?_,HT.o.2.2.2.2.1.trans (kk.mono (fun b e=>HT.o.2.2.2.2.2 b e)),fun g e=>?_⟩
           ·exact HT.o.1
           ·rw [hw,<-HT.o.2.1]
           ·rw [hw]
            refine (hat1.mono (S':=S) (fun b z=>z.1)).less _ (fun g e=>⟨?_,(au hown1 e).lt⟩)
            by_cases c:(Value.slice A9 left.length cp9).ownBlock=some g
            ·exact hat.free (fun z=>z.2 c)
            ·have hge:wr.heap.size<=g:=by
              rcases Nat.lt_or_ge g wr.heap.size with d|d
              ·exact absurd (by simpa [Value.ownBlock] using e) (hw4 g d c)
              ·exact d
             exact hat.past hge
           ·by_cases c:(Value.slice A9 left.length cp9).ownBlock=some g
            ·exact HT.o.2.2.2.2.2 g c
            ·rcases Nat.lt_or_ge g wr.heap.size with d|d
             ·exact absurd (by simpa [Value.ownBlock] using e) (hw4 g d c)
             ·exact (hat.up g d).1
          case measure=>simp [aU];omega
        ·obtain rfl:i=q7.finals.length:=by omega
         have HI2:=HI.out
         rw [List.take_length] at HI2
         obtain ⟨L15,hLH,-,hleft,hown,hat,hkp,hsx⟩:=HI2
         obtain ⟨H15,oS15,ob15,es15,li15,rS15⟩:=L15
         obtain rfl:H15=L.H:=hLH
         obtain ⟨L16,hL16,ha16,hk16⟩:=hat.IG 11 (by simp [cB]) (.slice A9 left.length cp9) left hown (fun g e=>hat.free (fun z=>z.2 e)) (S':=S) (fun b z=>z.1) hsx
         obtain ⟨H16,oS16,ob16,es16,li16,rS16⟩:=L16
         obtain rfl:H16=L.H:=hL16.H
         have c11':wr.cell? ⟨L.H,11,none⟩=some (li15 11):=hat.hp.cell (j:=11) (by omega)
         have z11:=hat.hp.Jv 11
         have ha16':JU base S q6.at2 ⟨L.H,oS16,ob16,es16,li16,rS16⟩ (wr.setCell ⟨L.H,11,none⟩ (.slice A9 left.length cp9)):=by
          rw [HA2.o]
          have e:q7.Ei=bL (q7.finals.foldl Hp.Ej (q7,[])).1 11 left:=by
           unfold Hp.Ei
           rw [hleft]
           rfl
          rw [e]
          exact ha16
         have HA16:=ah ha16'
         have HK16:=ah ((HK14.o.trans hkp).trans (hk16.mono (fun b z=>z.1)))
         clear hleft hown hat hkp hsx hL16 ha16 hk16 ha16' HI HVF HSX HSL HOL HK14 HFL7 HW7 HA2 HCN hfl hpl hcapF
         go_upto_region 32 with (fail)
         generalize wr.setCell ⟨L.H,11,none⟩ (.slice A9 left.length cp9)=w16 at *
         clear c11' z11 c11
         have HW0:Hq (q6.at2.white<=1):=ah (by rw [(dA q6).2.2.2.2.2.2.1];exact HWA.o)
         have HAG8:Hq (q6.at2.again=[]):=ah ((dA q6).2.2.2.2.1.trans HAGN.o)
         clear HAGN HGRN HW6 HTR HPL
         generalize q6.at2=q8 at *
         obtain ⟨AP,capP,hvP,hcapP,-⟩:=HA16.o.EM (k:=12) (by simp [cB])
         have c12:w16.cell? ⟨L.H,12,none⟩=some (.slice AP q8.pending.length capP):=by
          have:=HA16.o.hp.cell (j:=12) (by omega)
          rw [this]
          exact congrArg some hvP
         have HPS:=ah (show li16 12=.slice AP q8.pending.length capP from hvP)
         have HPP:=ah (And.intro HA16.o (And.intro HW8.o.s (And.intro HW8.o.z HP8.o)))
         have hpl8:q8.pending.length<=5000:=by have:=HW8.o.s.fp;omega
         have HQP8:Hq (∀ pd,q8.pending=pd->q8.Eh q8.pending=q8.Eh pd):=ah (fun pd e=>by rw [e])
         clear hvP HA16
         generalize hpd8:q8.pending=pd8 at *
         have HQP:=ah hpd8
         clear hpd8
         go_wp2
         go_loopw [135] (fun iv wr=>∃ i:Nat,i<=pd8.length/\iv=.int .i64 i/\Hq (∃ L',Lm (⟨L.H,oS16,ob16,es16,li16,rS16⟩:SM) L'/\JU base S ((pd8.take i).foldl Hp.mark q8) L' wr/\Keeps w16 wr S)) (fun iv _=>pd8.length-aU iv)
         case atStart=>exact ⟨0,by omega,rfl,(⟨L.H,oS16,ob16,es16,li16,rS16⟩:SM),Lm.refl _,HPP.o.1,Keeps.refl _ _⟩
         case round=>
          obtain ⟨i,hi9,rfl,HI⟩:=hrel
          by_cases hin:i<pd8.length
          ·have hts:pd8.take (i+1)=pd8.take i++[pd8[i]]:=aO (List.getElem?_eq_getElem hin)
           have HF:Hq ((pd8.take (i+1)).foldl Hp.mark q8=Hp.mark ((pd8.take i).foldl Hp.mark q8) pd8[i]):=ah (by rw [hts,aN])
           have hnl:=HPP.o.2.2.2 _ (List.getElem_mem hin)
           have hmk:=JM.fold Hp.mark JM.mark (pd8.take i) q8
           have hsm:=HPP.o.2.1.foldM Hp.mark (fun h x s=>s.mark x) (pd8.take i) q8 HPP.o.2.1
           obtain ⟨L1,hLm,hat,hkp⟩:=HI.out
           obtain ⟨q,hq⟩:∃ q,(pd8.take i).foldl Hp.mark q8=q:=⟨_,rfl⟩
           rw [hq] at hmk hsm hat HF
           clear hts
           obtain ⟨A1,cap1,hv1,hcap1,hget1⟩:=hat.EM (k:=12) (by simp [cB])
           have hq1:eX q 12=pd8:=hmk.pending.trans HQP.o
           rw [hq1] at hv1
           have:A1=AP/\cap1=capP:=by
            have h9:=hv1.symm.trans ((hLm.li 12 (by decide) (by decide) (by decide)).trans HPS.o)
            simp only [Value.slice.injEq] at h9
            exact ⟨h9.1,h9.2.2⟩
           obtain ⟨rfl,rfl⟩:=this
           obtain ⟨g,rfl,hgc⟩:=hget1 i (by rw [hq1];exact hin)
           have hgc':wr.cell? ⟨g,i,none⟩=some (.int .i64 ((pd8[i]:Nat):Int)):=by
            rw [hgc]
            congr 3
            simp only [hq1]
           generalize pd8[i]=n at *
           obtain ⟨H1,oS1,ob1,es1,li1,rS1⟩:=L1
           obtain rfl:H1=(⟨L.H,oS16,ob16,es16,li16,rS16⟩:SM).H:=hLm.H
           have HMV:=ah (h_ hat hsm (hmk.zero HPP.o.2.2.1) n (by rw [hmk.len];exact hnl))
           have HT:=ah (And.intro hLm hkp)
           clear hLm hat hkp hmk hsm hv1 hget1 hq HI hq1 hnl hgc
           go_wp2_with fail
           refine HMV.o.mono ?_
           rintro e9 w4 ⟨rfl,L4,hl4,ha4,hk4⟩
           have H4:=ah (And.intro hl4 (And.intro ha4 hk4))
           clear hl4 ha4 hk4 HMV
           go_wp2
           go_roundw
           case rel=>
            refine ⟨i+1,by omega,by simp,?_⟩
            exact ⟨L4,HT.o.1.trans H4.o.1,by rw [HF.o];exact H4.o.2.1,HT.o.2.trans H4.o.2.2⟩
           case measure=>simp [aU];omega
          ·obtain rfl:i=pd8.length:=by omega
           have HI2:=HI.out
           rw [List.take_length] at HI2
           obtain ⟨L17,hLm,hat,hkp⟩:=HI2
           have HL17:Hq (Lm (⟨L.H,oS16,ob16,es16,li16,rS16⟩:SM) L17/\JU base S (q8.Eh pd8) L17 wr/\Keeps w16 wr S):=ah ⟨hLm,hat,hkp⟩
           clear hLm hat hkp HI
           rename World=>w17
           obtain ⟨H17,oS17,ob17,es17,li17,rS17⟩:=L17
           obtain rfl:H17=L.H:=HL17.o.1.H
           have HA17:Hq (JU base S (q8.Eh q8.pending) ⟨L.H,oS17,ob17,es17,li17,rS17⟩ w17):=ah (by rw [HQP.o];exact HL17.o.2.1)
           have HK17:=ah (HK16.o.trans HL17.o.2.2)
           have HMS:=ah (I_.Eh q8 q8.pending)
           have HNU:Hq ((q8.Eh q8.pending).nu<=q8.nu):=ah (Nat.le_of_eq (bQ Hp.mark Hp.EC _ _))
           have HW9:Hq (Wk q8.at3):=ah ((HW8.o.JN HMS.o HNU.o).settle (HT8.o.JN HMS.o))
           have HAG9:Hq (q8.at3.again=[]):=ah ((JM.at3 q8).again.trans HAG8.o)
           have HCV:=ah (jE HA17.o (HW8.o.JN HMS.o HNU.o) (HT8.o.JN HMS.o))
           clear HL17 HPP HPS HQP HQP8 HK16 hpl8 hcapP c12 HA17 HMS HNU HW8 HT8 HP8 HAG8
           go_wp2_with fail
           refine HCV.o.mono ?_
           rintro e9 w18 ⟨rfl,L18,hl18,ha18,hk18⟩
           obtain ⟨H18,oS18,ob18,es18,li18,rS18⟩:=L18
           obtain rfl:H18=L.H:=hl18.H
           have HW1:Hq (q8.at3.white<=1):=ah (by rw [(JM.at3 q8).white];exact HW0.o)
           replace ha18:JU base S q8.at3 ⟨L.H,oS18,ob18,es18,li18,rS18⟩ w18:=ha18
           generalize q8.at3=q9 at *
           obtain ⟨L19,hL19,ha19,hk19⟩:=ha18.Hw 8 (by simp [cB])
           obtain ⟨H19,oS19,ob19,es19,li19,rS19⟩:=L19
           obtain rfl:H19=L.H:=hL19.H
           have c8:w18.cell? ⟨L.H,8,none⟩=some (li18 8):=ha18.hp.cell (j:=8) (by omega)
           have z8:=ha18.hp.Jv 8
           have ha19':JU base S q9 ⟨L.H,oS19,ob19,es19,li19,rS19⟩ (w18.setCell ⟨L.H,8,none⟩ (.slice none 0 0)):=by
            have e:bL q9 8 []=q9:=ni HAG9.o
            rw [e] at ha19
            exact ha19
           have HA19:=ah ha19'
           have HK19:=ah ((HK17.o.trans hk18).trans hk19)
           clear hl18 ha18 hk18 hL19 ha19 hk19 ha19' HCV HK17 HAG9
           go_upto_region 39 with (fail)
           generalize w18.setCell ⟨L.H,8,none⟩ (.slice none 0 0)=w19 at *
           clear c8 z8
           have HCK:=ah (mH HA19.o HW9.o)
           go_wp2_with fail
           refine HCK.o.mono ?_
           rintro e9 w20 ⟨rfl,ha20,hk20⟩
           have HA20:=ah ha20
           have HK20:=ah (HK19.o.trans hk20)
           have HW10:Hq (Wk q9.at4):=ah (HW9.o.cnt (J2.at4 q9))
           have HWQ:Hq (q9.at4.white<=1):=ah (by rw [(J2.at4 q9).white];exact HW1.o)
           clear ha20 hk20 HCK HA19 HK19 HW9 HW1
           generalize q9.at4=q10 at *
           have HCL:=ah (iX HA20.o HW10.o)
           go_wp2_with fail
           refine HCL.o.mono ?_
           rintro e9 w21 ⟨rfl,ha21,hk21⟩
           have HA21:=ah ha21
           have HK21:=ah (HK20.o.trans hk21)
           have HW11:Hq (Wk (q10.weak.foldl Hp.Jk q10)):=ah (HW10.o.cnt (J2.fold bq bI q10.weak q10))
           have HA5:Hq (q10.Jp=(q10.weak.foldl Hp.Jk q10).EB):=ah rfl
           clear ha21 hk21 HCL HA20 HK20 HW10
           generalize q10.weak.foldl Hp.Jk q10=q11 at *
           obtain ⟨go,capo,hoS,hcapo,-⟩:=HA21.o.slot HW11.o.p
           have hol:q11.objs.length<=5001:=HW11.o.s.len
           have c0:w21.cell? ⟨L.H,0,none⟩=some (.slice (some ⟨go,0,none⟩) q11.objs.length capo):=by
            have:=HA21.o.hp.cell (j:=0) (by omega)
            rw [this]
            exact congrArg some hoS
           have HOS:=ah (show oS19=.slice (some ⟨go,0,none⟩) q11.objs.length capo from hoS)
           clear hoS
           go_wp2
           go_loopw [157] (fun iv wr=>∃ i:Nat,i<=q11.objs.length/\iv=.int .i64 i/\Hq (JU base S (aM i q11) ⟨L.H,oS19,ob19,es19,li19,rS19⟩ wr/\Keeps w21 wr S)) (fun iv _=>q11.objs.length-aU iv)
           case atStart=>exact ⟨0,by omega,rfl,by rw [kG];exact HA21.o,Keeps.refl _ _⟩
           case round=>
            obtain ⟨i,hi9,rfl,HI⟩:=hrel
            by_cases hin:i<q11.objs.length
            ·have hat:=HI.out.1
             obtain ⟨go1,capo1,hoS1,hcapo1,hcell⟩:=hat.slot (by rw [bT];exact HW11.o.p)
             rw [bT] at hoS1 hcell
             have:go1=go:=by
              have h9:=(show oS19=.slice (some ⟨go1,0,none⟩) q11.objs.length capo1 from hoS1).symm.trans HOS.o
              simp only [Value.slice.injEq,Option.some.injEq,Addr.mk.injEq] at h9
              exact h9.1.1
             subst this
             have hci:=hcell i hin
             obtain ⟨r1,kd,c1,md,ev,fn,hrow,hcw,hsome⟩:=hat.any (n:=i) (by rw [bT];exact hin)
             have d0:wr.cell? ⟨ob19 i,0,none⟩=some (.int .i64 (kd:Int)):=hrow.cell (j:=0) (by omega)
             have d1:wr.cell? ⟨ob19 i,1,none⟩=some (.int .i64 (c1:Int)):=hrow.cell (j:=1) (by omega)
             have hobi:(aM i q11).ob i=q11.ob i:=by rw [dX,if_neg (by omega)]
             rw [hobi] at hsome
             cases ho:q11.ob i with
             |none=>
              have hk0:kd=0:=by
               obtain ⟨r9,c9,_,hr9⟩:=hat.dd i (by rw [bT];exact hin) (hobi.trans ho)
               have:=hr9.cell (j:=0) (by omega)
               rw [d0] at this
               simpa [jw] using this
              subst hk0
              have HSK:=ah (fI (i:=i) (q:=q11) (fun o e=>by rw [ho] at e;cases e))
              have HT:=ah HI.out
              clear hat hcell hrow hcw hsome hoS1 hobi ho HI
              go_wp2
              go_roundw
              case rel=>exact ⟨i+1,by omega,by simp,by rw [HSK.o];exact HT.o.1,HT.o.2⟩
              case measure=>simp [aU];omega
             |some o=>
              obtain ⟨rfl,rfl,rfl,-,-⟩:=hsome o ho
              have HIW:=ah (eF wr (ob19 i) o.col d1)
              have HO:=ah ho
              have HOI:=ah (hobi.trans ho)
              have HT:=ah HI.out
              clear hat hcell hrow hcw hsome hoS1 hobi ho HI
              go_wp2_with fail
              refine HIW.o.mono ?_
              rintro e9 w5 ⟨rfl,hw5⟩
              obtain rfl:=hw5.symm
              clear HIW
              cases hb:eP o.col with
              |true=>
               have HSK:=ah (fI (i:=i) (q:=q11) (fun o' e=>by rw [HO.o] at e;cases e;unfold Hp.drop1;rw [if_pos hb]))
               clear hb
               go_wp2
               go_roundw
               case rel=>exact ⟨i+1,by omega,by simp,by rw [HSK.o];exact HT.o.1,HT.o.2⟩
               case measure=>simp [aU];omega
              |false=>
               have HSK:=ah (nH HO.o hb)
               clear hb
               have HDD:=ah (o8 HT.o.1 (by rw [bT];exact hol) (by rw [bT];exact HW11.o.p) HOI.o (HW11.o.s.es i o HO.o) (uo.of ((gW i q11).zero HW11.o.z) ((gW i q11).closed HW11.o.c) HOI.o))
               go_wp2_with fail
               refine HDD.o.mono ?_
               rintro e9 w6' ⟨rfl,ha6,hk6⟩
               have H6:=ah (And.intro ha6 hk6)
               clear ha6 hk6 HDD
               go_wp2
               go_roundw
               case rel=>exact ⟨i+1,by omega,by simp,by rw [HSK.o];exact H6.o.1,HT.o.2.trans H6.o.2⟩
               case measure=>simp [aU];omega
            ·obtain rfl:i=q11.objs.length:=by omega
             have HI2:=HI.out
             rw [kY,<-HA5.o] at HI2
             have HA22:=ah HI2.1
             have HK22:=ah (HK21.o.trans HI2.2)
             clear HI2 HI HA21 HK21 HOS c0 hcapo HA5 HW11
             rename World=>w22
             have HWH:Hq (q10.Jp.white<=1):=ah (by rw [(J2.Jp q10).white];exact HWQ.o)
             generalize q10.Jp=q12 at *
             obtain ⟨L23,hL23,ha23,hk23⟩:=HA22.o.Hw 9 (by simp [cB])
             obtain ⟨H23,oS23,ob23,es23,li23,rS23⟩:=L23
             obtain rfl:H23=L.H:=hL23.H
             have c9:=HA22.o.hp.cell (j:=9) (by omega)
             have z9:=HA22.o.hp.Jv 9
             have HA23:=ah ha23
             have HK23:=ah (HK22.o.trans hk23)
             clear hL23 ha23 hk23 HA22 HK22
             go_upto_region 48 with (fail)
             generalize w22.setCell ⟨L.H,9,none⟩ (.slice none 0 0)=w23 at *
             clear c9 z9
             obtain ⟨L24,hL24,ha24,hk24⟩:=HA23.o.Hw 10 (by simp [cB])
             obtain ⟨H24,oS24,ob24,es24,li24,rS24⟩:=L24
             obtain rfl:H24=L.H:=hL24.H
             have c10:=HA23.o.hp.cell (j:=10) (by omega)
             have z10:=HA23.o.hp.Jv 10
             have HA24:=ah ha24
             have HK24:=ah (HK23.o.trans hk24)
             clear hL24 ha24 hk24 HA23 HK23
             go_upto_region 49 with (fail)
             generalize w23.setCell ⟨L.H,10,none⟩ (.slice none 0 0)=w24 at *
             clear c10 z10
             have hst:=HA24.o.num (h':={ q12 with weak:=[],D8:=[],white:=1-q12.white }) 6 (.int .i64 ((1-q12.white:Nat):Int)) (by decide) rfl ⟨rfl,rfl,rfl,rfl,rfl,rfl,rfl⟩ rfl (bg _ rfl rfl rfl rfl rfl rfl rfl rfl rfl rfl rfl rfl rfl rfl rfl rfl rfl rfl)
             have hw1:=HWH.o
             have hwi:(1:Int)-(q12.white:Int)=((1-q12.white:Nat):Int):=by omega
             have c6:w24.cell? ⟨L.H,6,none⟩=some (.int .i64 (q12.white:Int)):=HA24.o.hp.cell (j:=6) (by omega)
             have z6:=HA24.o.hp.Jv 6
             have HA25:=ah hst.1
             have HK25:=ah (HK24.o.trans hst.2)
             clear hst
             go_upto_region 50 with (fail)
             clear hwi
             generalize w24.setCell ⟨L.H,6,none⟩ (.int .i64 ((1-q12.white:Nat):Int))=w25 at *
             clear c6 z6 HA24 HK24
             have hst:=HA25.o.num (h':={ q12 with weak:=[],D8:=[],white:=1-q12.white,state:=2 }) 5 (.int .i64 2) (by decide) rfl ⟨rfl,rfl,rfl,rfl,rfl,rfl,rfl⟩ rfl (bg _ rfl rfl rfl rfl rfl rfl rfl rfl rfl rfl rfl rfl rfl rfl rfl rfl rfl rfl)
             have c5:=HA25.o.hp.cell (j:=5) (by omega)
             have z5:=HA25.o.hp.Jv 5
             have HA26:=ah hst.1
             have HK26:=ah (HK25.o.trans hst.2)
             clear hst
             go_upto_region 51 with (fail)
             generalize w25.setCell ⟨L.H,5,none⟩ (.int .i64 2)=w26 at *
             clear c5 z5 HA25 HK25
             have hst:=HA26.o.num (h':=q12.Jz) 14 (.int .i64 1) (by decide) rfl ⟨rfl,rfl,rfl,rfl,rfl,rfl,rfl⟩ rfl (bg _ rfl rfl rfl rfl rfl rfl rfl rfl rfl rfl rfl rfl rfl rfl rfl rfl rfl rfl)
             have c14:=HA26.o.hp.cell (j:=14) (by omega)
             have z14:=HA26.o.hp.Jv 14
             have HAZ:=ah hst.1
             have HKZ:=ah (HK26.o.trans hst.2)
             clear hst HA26 HK26
             go_wp2
             go_end0
             exact ⟨rfl,⟨L.H,oS24,ob24,es24,li24,rS24⟩,rfl,by rw [HAT.o];exact HAZ.o,HKZ.o⟩
end Go.Proofs.YtedpifhlffcmkaaGreatDoor
