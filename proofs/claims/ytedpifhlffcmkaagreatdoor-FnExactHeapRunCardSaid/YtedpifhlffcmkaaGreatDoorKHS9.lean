import Derived.Test.YtedpifhlffcmkaaGreatDoorKHS6
import Derived.Deep.LoopGhost
namespace Go.Proofs.YtedpifhlffcmkaaGreatDoor
open Go Go.RowKit
set_option maxHeartbeats 6400000
set_option maxRecDepth 100000
set_option linter.unusedVariables false
section
variable {S:Nat->Prop} {base:Nat} {h:Hp} {w:World}
theorem Sm.Jo {h:Hp} (s:Sm h) (k:Nat) (hk:k=7∨k=9∨k=10):(Go.Proofs.YtedpifhlffcmkaaGreatDoor.eX h k).length<=1000000:=by
 have:=s.nu
 simp only [Hp.nu,Hp.mu] at this
 rcases hk with rfl|rfl|rfl
 ·show h.grey.length<=_
  omega
 ·show h.weak.length<=_
  omega
 ·show h.D8.length<=_
  omega
theorem pO {L:SM} (a:JU base S h L w) (s:Sm h) (hn9:h.nu+h.again.length+1<=20000) (hz:h.ob 0=none) (hp:1<=h.objs.length) (n:Nat) (o:Ob) (ho:h.ob n=some o) (hrg:uo h o.es) (hm:o.mode=1):
 Calls Tryz.prog 97 #[.pointer (some ⟨L.H,0,none⟩),.int .i64 n,.pointer (some ⟨L.ob n,0,none⟩)] w fun e w'=>e=.returned (.tuple #[])/\∃ L',Lm L L'/\JU base S (h.Ey n o) L' w'/\Keeps w w' S:=by
 obtain ⟨A,cap,hev,hcap,hent⟩:=a.ents ho
 obtain ⟨r0,hr0⟩:=a.ob n o ho
 have c4:w.cell? ⟨L.ob n,4,none⟩=some (.int .i64 o.mode):=hr0.cell (j:=4) (by omega)
 have c5:w.cell? ⟨L.ob n,5,none⟩=some (.slice A o.es.length cap):=by rw [<-hev];exact hr0.cell (j:=5) (by omega)
 rw [hm] at c4
 have hl9:=s.len
 have he9:=s.es n o ho
 have HA:=ah a
 have HS:=ah s
 have HR:=ah hrg
 have HO:=ah ho
 have HE:=ah hev
 have HMo:=ah hm
 clear a s hrg ho hev hent hr0 hm
 have hgl:=HS.o.Jo 10 (.inr (.inr rfl))
 obtain ⟨ag,ng,cg,hgv⟩:∃ ag ng cg,L.li 10=.slice ag ng cg:=by
  obtain ⟨x,y,z⟩:=aF (HA.o.li 10 (by simp [cB]))
  exact ⟨x,_,y,z⟩
 have c10:w.cell? ⟨L.H,10,none⟩=some (.slice ag ng cg):=by rw [<-hgv];exact HA.o.hp.cell (j:=10) (by omega)
 have HG:=ah hgv
 clear hgv
 go_enter Tryz.func97,Tryz.ntmps97
 go_upto_region 11 with (first
  |(at_builtin;refine HA.o.app 10 (by simp [cB]) n rfl _ _ rfl HG.o.symm rfl hgl ?_;intro gq cq w1 hrow1 hat1 hk1;have cR:=hrow1.cell (j:=10) (by omega);have zR:=hrow1.Jv 10;have H1:=ah hat1;have K1:=ah hk1;clear hrow1 hat1 hk1)
  |go_in)
 generalize w1.setCell ⟨L.H,10,none⟩ (.slice (some ⟨gq,0,none⟩) ((eX h 10).length+1) cq)=w5 at *
 have HSP:=ah (l9 H1.o (HS.o.Jb n hn9) hz hp n o HO.o HR.o)
 go_wp2_with (first
  |(refine HSP.o.mono ?_
    rintro e9 w6 ⟨rfl,L6,hl6,ha6,hk6⟩
    have H6:=ah (And.intro hl6 (And.intro ha6 hk6))
    clear hl6 ha6 hk6)
  |fail)
 go_end0
 exact ⟨rfl,L6,(Lm.set L 10 (.inr (.inr rfl)) _).trans H6.o.1,by rw [z_ HMo.o];exact H6.o.2.1,K1.o.trans H6.o.2.2⟩
theorem qX {L:SM} (a:JU base S h L w) (s:Sm h) (hn9:h.nu+h.again.length+1<=20000) (hz:h.ob 0=none) (hp:1<=h.objs.length) (n:Nat) (o:Ob) (ho:h.ob n=some o) (hrg:uo h o.es) (hm:o.mode=2):
 Calls Tryz.prog 97 #[.pointer (some ⟨L.H,0,none⟩),.int .i64 n,.pointer (some ⟨L.ob n,0,none⟩)] w fun e w'=>e=.returned (.tuple #[])/\∃ L',Lm L L'/\JU base S (h.Ey n o) L' w'/\Keeps w w' S:=by
 obtain ⟨A,cap,hev,hcap,hent⟩:=a.ents ho
 obtain ⟨r0,hr0⟩:=a.ob n o ho
 have c4:w.cell? ⟨L.ob n,4,none⟩=some (.int .i64 o.mode):=hr0.cell (j:=4) (by omega)
 have c5:w.cell? ⟨L.ob n,5,none⟩=some (.slice A o.es.length cap):=by rw [<-hev];exact hr0.cell (j:=5) (by omega)
 rw [hm] at c4
 have hl9:=s.len
 have he9:=s.es n o ho
 have HA:=ah a
 have HS:=ah s
 have HR:=ah hrg
 have HO:=ah ho
 have HE:=ah hev
 have HMo:=ah hm
 clear a s hrg ho hev hent hr0 hm
 go_enter Tryz.func97,Tryz.ntmps97
 go_wp2
 go_loopw [60,9] (fun iv ev wr=>∃ i:Nat,i<=o.es.length/\iv=.int .i64 i/\Hq (∃ L',Lm L L'/\JU base S ((o.es.take i).foldl Hp.key1 h) L' wr/\Keeps w wr S)) (fun iv _ _=>o.es.length-aU iv)
 case atStart=>exact ⟨0,by omega,rfl,L,Lm.refl L,HA.o,Keeps.refl _ _⟩
 case round=>
  obtain ⟨i,hi9,rfl,HI⟩:=hrel
  by_cases hin:i<o.es.length
  ·obtain ⟨e,he⟩:∃ e,o.es[i]?=some e:=⟨_,List.getElem?_eq_getElem hin⟩
   obtain ⟨L1,hLm,hat,hkp⟩:=HI.out
   have hmk:=JM.fold Hp.key1 JM.key1 (o.es.take i) h
   have hnu:((o.es.take i).foldl Hp.key1 h).nu=h.nu:=bQ Hp.key1 Hp.Hl (o.es.take i) h
   have HF:Hq ((o.es.take (i+1)).foldl Hp.key1 h=Hp.key1 ((o.es.take i).foldl Hp.key1 h) e):=ah (by rw [aO he,aN])
   generalize (o.es.take i).foldl Hp.key1 h=q at *
   obtain ⟨o1,ho1,_,hes1,_⟩:=hmk.Jg HO.o
   obtain ⟨A1,cap1,hev1,hcap1,hent1⟩:=hat.ents ho1
   rw [hes1] at hev1 hent1
   have:A1=A/\cap1=cap:=by
    have h9:=hev1.symm.trans ((congrFun hLm.es n).trans HE.o)
    simp at h9
    exact h9
   obtain ⟨rfl,rfl⟩:=this
   obtain ⟨g,rfl,hglt,hcells⟩:=hent1 i e he
   have d0:=hcells 0 _ rfl
   have d1:=hcells 1 _ rfl
   have d2:=hcells 2 _ rfl
   have d3:=hcells 3 _ rfl
   have d4:=hcells 4 _ rfl
   have d5:=hcells 5 _ rfl
   have d6:=hcells 6 _ rfl
   have d7:=hcells 7 _ rfl
   have d8:=hcells 8 _ rfl
   have d9:=hcells 9 _ rfl
   simp only [Nat.add_zero] at d0
   have hrk:=HR.o e (List.mem_of_getElem? he)
   have HL1:=ah hLm
   have HAT:=ah (hat.hole (.cells #[.int .i64 (vk e.1),.int .i64 (vi e.1),.int .u64 0,.string ByteArray.empty,.int .i64 (vr e.1),.int .i64 (vk e.2),.int .i64 (vi e.2),.int .u64 0,.string ByteArray.empty,.int .i64 (vr e.2)] 122))
   have HUP:=ah hat.up
   have HKP:=ah (hkp.trans (Keeps.of (aJ wr (.cells #[.int .i64 (vk e.1),.int .i64 (vi e.1),.int .u64 0,.string ByteArray.empty,.int .i64 (vr e.1),.int .i64 (vk e.2),.int .i64 (vi e.2),.int .u64 0,.string ByteArray.empty,.int .i64 (vr e.2)] 122)) (Nat.le_refl _) S))
   have HRK:=ah (show Rg q e.1/\Rg q e.2 from ⟨hrk.1.mono hmk.len,hrk.2.mono hmk.len⟩)
   have HSQ:=ah (HS.o.JF hmk (Nat.le_of_eq hnu))
   have HOQ:=ah (show q.objs.length<=5001/\1<=q.objs.length/\q.ob 0=none from by rw [hmk.len];exact ⟨hl9,hp,hmk.zero hz⟩)
   have HH1:=ah hLm.H
   have HX:=ah (jR wr e)
   clear hmk hLm hat hkp hrk ho1 hes1 hev1 hent1 hcells HI hnu he
   go_upto_region 16 with (fail)
   generalize wr.alloc (.cells #[.int .i64 (vk e.1),.int .i64 (vi e.1),.int .u64 0,.string ByteArray.empty,.int .i64 (vr e.1),.int .i64 (vk e.2),.int .i64 (vi e.2),.int .u64 0,.string ByteArray.empty,.int .i64 (vr e.2)] 122)=w3 at *
   generalize wr.heap.size=X at *
   have hlt3:=HX.o.lt
   have x0:w3.cell? ⟨X,0,none⟩=some (.int .i64 (vk e.1)):=HX.o.cell (j:=0) (by omega)
   have x1:w3.cell? ⟨X,1,none⟩=some (.int .i64 (vi e.1)):=HX.o.cell (j:=1) (by omega)
   have x2:w3.cell? ⟨X,2,none⟩=some (.int .u64 0):=HX.o.cell (j:=2) (by omega)
   have x3:w3.cell? ⟨X,3,none⟩=some (.string ByteArray.empty):=HX.o.cell (j:=3) (by omega)
   have x4:w3.cell? ⟨X,4,none⟩=some (.int .i64 (vr e.1)):=HX.o.cell (j:=4) (by omega)
   have x5:w3.cell? ⟨X,5,none⟩=some (.int .i64 (vk e.2)):=HX.o.cell (j:=5) (by omega)
   have x6:w3.cell? ⟨X,6,none⟩=some (.int .i64 (vi e.2)):=HX.o.cell (j:=6) (by omega)
   have x7:w3.cell? ⟨X,7,none⟩=some (.int .u64 0):=HX.o.cell (j:=7) (by omega)
   have x8:w3.cell? ⟨X,8,none⟩=some (.string ByteArray.empty):=HX.o.cell (j:=8) (by omega)
   have x9:w3.cell? ⟨X,9,none⟩=some (.int .i64 (vr e.2)):=HX.o.cell (j:=9) (by omega)
   clear d0 d1 d2 d3 d4 d5 d6 d7 d8 d9
   cases hs:e.2.isSome with
   |false=>
    have hvk:(vk e.2 !=0)=false:=by rw [dB,hs]
    have HSO:=ah hs
    clear hs
    go_wp2
    go_roundw
    case rel=>
     refine ⟨i+1,by omega,by simp,?_⟩
     have hF:=HF.o
     rw [uw HSO.o] at hF
     exact ⟨L1,HL1.o,by rw [hF];exact HAT.o.mono (fun b z=>z.1),HKP.o⟩
    case measure=>simp [aU];omega
   |true=>
    have hvk:(vk e.2 !=0)=true:=by rw [dB,hs]
    have HK:=ah (dD HAT.o HSQ.o HOQ.o.2.2 e.1 (HRK.o.1.vr HOQ.o.2.1))
    rw [HH1.o] at HK
    have HSO:=ah hs
    clear hs
    go_wp2_with (first
     |(refine HK.o.mono ?_
       rintro e9 w4 ⟨rfl,L4,hl4,ha4,hk4⟩
       have H4:=ah (And.intro hl4 (And.intro ha4 hk4))
       clear hl4 ha4 hk4)
     |fail)
    go_roundw
    case rel=>
     refine ⟨i+1,by omega,by simp,?_⟩
     have hF:=HF.o
     rw [pW HSO.o] at hF
     exact ⟨L4,HL1.o.trans H4.o.1,by rw [hF];exact H4.o.2.1.mono (fun b z=>z.1),HKP.o.trans (H4.o.2.2.mono (fun b z=>z.1))⟩
    case measure=>simp [aU];omega
  ·obtain rfl:i=o.es.length:=by omega
   have HT:=HI.out
   rw [List.take_length] at HT
   obtain ⟨L1,hLm,hat,hkp⟩:=HT
   obtain ⟨H1,oS1,ob1,es1,li1,rS1⟩:=L1
   obtain rfl:H1=L.H:=hLm.H
   have hmk:=JM.fold Hp.key1 JM.key1 o.es h
   have hgl:=(HS.o.JF hmk (Nat.le_of_eq (bQ Hp.key1 Hp.Hl o.es h))).Jo 9 (.inr (.inl rfl))
   have HFR:=ah (show ∀ g:Hp,g=o.es.foldl Hp.key1 h->h.Ey n o={ g with weak:=g.weak++[n] } from fun g e=>by rw [e];exact Ah HMo.o)
   generalize hq:o.es.foldl Hp.key1 h=q at *
   have HFQ:=ah (HFR.o q rfl)
   clear hmk hq HFR
   obtain ⟨ag,ng,cg,hgv⟩:∃ ag ng cg,li1 9=.slice ag ng cg:=by
    obtain ⟨x,y,z⟩:=aF (hat.li 9 (by simp [cB]))
    exact ⟨x,_,y,z⟩
   have c9:wr.cell? ⟨L.H,9,none⟩=some (.slice ag ng cg):=by rw [<-hgv];exact hat.hp.cell (j:=9) (by omega)
   have HG:=ah hgv
   have H9:=ah (And.intro hLm (And.intro hat hkp))
   clear hgv hLm hat hkp HI
   go_wp2_with (first
    |(at_builtin;refine H9.o.2.1.app 9 (by simp [cB]) n rfl _ _ rfl HG.o.symm rfl hgl ?_;intro gq cq w1 hrow1 hat1 hk1;have cR:=hrow1.cell (j:=9) (by omega);have zR:=hrow1.Jv 9;have H1:=ah hat1;have K1:=ah hk1;clear hrow1 hat1 hk1)
    |go_in)
   go_end0
   exact ⟨rfl,_,H9.o.1.trans (Lm.set _ 9 (.inr (.inl rfl)) _),by rw [HFQ.o];exact H1.o,H9.o.2.2.trans K1.o⟩
theorem pQ {L:SM} (a:JU base S h L w) (s:Sm h) (hn9:h.nu+h.again.length+1<=20000) (hz:h.ob 0=none) (hp:1<=h.objs.length) (n:Nat) (o:Ob) (ho:h.ob n=some o) (hrg:uo h o.es) (hm:o.mode=3):
 Calls Tryz.prog 97 #[.pointer (some ⟨L.H,0,none⟩),.int .i64 n,.pointer (some ⟨L.ob n,0,none⟩)] w fun e w'=>e=.returned (.tuple #[])/\∃ L',Lm L L'/\JU base S (h.Ey n o) L' w'/\Keeps w w' S:=by
 obtain ⟨A,cap,hev,hcap,hent⟩:=a.ents ho
 obtain ⟨r0,hr0⟩:=a.ob n o ho
 have c4:w.cell? ⟨L.ob n,4,none⟩=some (.int .i64 o.mode):=hr0.cell (j:=4) (by omega)
 have c5:w.cell? ⟨L.ob n,5,none⟩=some (.slice A o.es.length cap):=by rw [<-hev];exact hr0.cell (j:=5) (by omega)
 rw [hm] at c4
 have hl9:=s.len
 have he9:=s.es n o ho
 have HA:=ah a
 have HS:=ah s
 have HR:=ah hrg
 have HO:=ah ho
 have HE:=ah hev
 have HMo:=ah hm
 clear a s hrg ho hev hent hr0 hm
 have hgl:=HS.o.Jo 9 (.inr (.inl rfl))
 obtain ⟨ag,ng,cg,hgv⟩:∃ ag ng cg,L.li 9=.slice ag ng cg:=by
  obtain ⟨x,y,z⟩:=aF (HA.o.li 9 (by simp [cB]))
  exact ⟨x,_,y,z⟩
 have c9:w.cell? ⟨L.H,9,none⟩=some (.slice ag ng cg):=by rw [<-hgv];exact HA.o.hp.cell (j:=9) (by omega)
 have HG:=ah hgv
 clear hgv
 go_enter Tryz.func97,Tryz.ntmps97
 go_wp2_with (first
  |(at_builtin;refine HA.o.app 9 (by simp [cB]) n rfl _ _ rfl HG.o.symm rfl hgl ?_;intro gq cq w1 hrow1 hat1 hk1;have cR:=hrow1.cell (j:=9) (by omega);have zR:=hrow1.Jv 9;have H1:=ah hat1;have K1:=ah hk1;clear hrow1 hat1 hk1)
  |go_in)
 go_end0
 exact ⟨rfl,_,Lm.set L 9 (.inr (.inl rfl)) _,by rw [AB HMo.o];exact H1.o,K1.o⟩
theorem mK {L:SM} (a:JU base S h L w) (s:Sm h) (hn9:h.nu+h.again.length+1<=20000) (hz:h.ob 0=none) (hp:1<=h.objs.length) (n:Nat) (o:Ob) (ho:h.ob n=some o) (hrg:uo h o.es) (hm:o.mode<=3):
 Calls Tryz.prog 97 #[.pointer (some ⟨L.H,0,none⟩),.int .i64 n,.pointer (some ⟨L.ob n,0,none⟩)] w fun e w'=>e=.returned (.tuple #[])/\∃ L',Lm L L'/\JU base S (h.Ey n o) L' w'/\Keeps w w' S:=by
 rcases (by omega:o.mode=0∨o.mode=1∨o.mode=2∨o.mode=3) with c|c|c|c
 ·exact qK a s hn9 hz hp n o ho hrg c
 ·exact pO a s hn9 hz hp n o ho hrg c
 ·exact qX a s hn9 hz hp n o ho hrg c
 ·exact pQ a s hn9 hz hp n o ho hrg c
structure Wk (h:Hp):Prop where
 s:Sm h
 z:h.ob 0=none
 p:1<=h.objs.length
 c:h.Closed
 m:∀ n o,h.ob n=some o->o.mode<=3
 l:∀ n,n∈h.grey∨n∈h.again∨n∈h.weak∨n∈h.D8->h.Lv n
theorem Wk.JF {h g:Hp} (k:Wk h) (x:JM h g) (hn:g.nu<=h.nu) (hl:∀ n,n∈g.grey∨n∈g.again∨n∈g.weak∨n∈g.D8->g.Lv n):Wk g:=
 ⟨k.s.JF x hn,x.zero k.z,by rw [x.len];exact k.p,x.closed k.c,x.md k.m,hl⟩
theorem Wk.JN {g:Hp} (k:Wk h) (x:I_ h g) (hn:g.nu<=h.nu):Wk g:=by
 refine k.JF x.md hn (fun n hn=>(x.md.lv n).2 ?_)
 rcases hn with h1|h1|h1|h1
 ·rcases x.lv n h1 with h2|h2
  ·exact k.l n (.inl h2)
  ·exact h2
 ·exact k.l n (.inr (.inl (by rw [<-x.md.again];exact h1)))
 ·exact k.l n (.inr (.inr (.inl (by rw [<-x.wk];exact h1))))
 ·exact k.l n (.inr (.inr (.inr (by rw [<-x.ep];exact h1))))
end
section
variable {S:Nat->Prop} {base:Nat} {h:Hp} {w:World}
theorem nZ (h:Hp) (n:Nat):(h.upd n fun o=>{ o with col:=3 }).nu<=h.nu:=by
 have:=h.Gw n 3 rfl
 show (h.upd n fun o=>{ o with col:=3 }).wn+h.grey.length+h.D8.length+h.weak.length<=h.wn+h.grey.length+h.D8.length+h.weak.length
 omega
theorem qQ {L:SM} (a:JU base S h L w) (k:Wk h) (hn9:h.nu+h.again.length+1<=20000) (n:Nat) (hl:h.Lv n):
 Calls Tryz.prog 66 #[.pointer (some ⟨L.H,0,none⟩),.int .i64 (n:Int)] w fun e w'=>e=.returned (.int .i64 ((h.scan n).2:Int))/\∃ L',Lm L L'/\JU base S (h.scan n).1 L' w'/\Keeps w w' S:=by
 obtain ⟨o,ho⟩:=hl
 have hn:=Hp.Es ho
 have hl9:=k.s.len
 have he9:=k.s.es n o ho
 obtain ⟨g,cap,hoS,hcap,hcell⟩:=a.slot k.p
 have hcn:=hcell n hn
 have c0:w.cell? ⟨L.H,0,none⟩=some (.slice (some ⟨g,0,none⟩) h.objs.length cap):=by rw [<-hoS];exact a.hp.cell (j:=0) (by omega)
 obtain ⟨r0,hr0⟩:=a.ob n o ho
 have c1:w.cell? ⟨L.ob n,1,none⟩=some (.int .i64 o.col):=hr0.cell (j:=1) (by omega)
 have z1:=hr0.Jv 1
 have HB:=ah (a.JE n 1 (.int .i64 3) (fun o=>{ o with col:=3 }) (by decide) ho ⟨rfl,rfl⟩ (fun r i=>by
  unfold jw
  by_cases x:i=1
  ·subst x;simp
  ·simp [x]))
 have hmk:=JM.col h n 3 rfl
 have HO:Hq ((h.upd n fun o=>{ o with col:=3 }).ob n=some { o with col:=3 }):=ah (by rw [Hp.Ed,if_pos rfl,ho];rfl)
 have HSC:Hq (h.scan n=((h.upd n fun o=>{ o with col:=3 }).Ey n { o with col:=3 },1+o.es.length)):=ah (by unfold Hp.scan;rw [ho];rfl)
 have HK:=ah (k.s.JF hmk (nZ h n))
 have HN:Hq ((h.upd n fun o=>{ o with col:=3 }).nu+(h.upd n fun o=>{ o with col:=3 }).again.length+1<=20000):=ah (by
  have:=nZ h n
  rw [show (h.upd n fun o=>{ o with col:=3 }).again=h.again from rfl]
  omega)
 have HZ:=ah (hmk.zero k.z)
 have HP:Hq (1<=(h.upd n fun o=>{ o with col:=3 }).objs.length):=ah (by rw [hmk.len];exact k.p)
 have HR:=ah (uo.of (hmk.zero k.z) (hmk.closed k.c) HO.o)
 have HM:=ah (k.m n o ho)
 have HEV:=ah (a.ents ho)
 have HA:=ah a
 clear hcell hmk ho hr0 a
 go_enter Tryz.func66,Tryz.ntmps66
 go_upto_region 3 with (fail)
 generalize w.setCell ⟨L.ob n,1,none⟩ (.int .i64 3)=w5 at *
 generalize hq:(h.upd n fun o=>{ o with col:=3 })=q at *
 have HQ:=ah hq
 clear hq
 have a5:=HB.o.1
 obtain ⟨r5,hr5⟩:=a5.ob n _ HO.o
 have e3:w5.cell? ⟨L.ob n,3,none⟩=some (.int .i64 0):=hr5.cell (j:=3) (by omega)
 have HMK:=ah (h_ a5 HK.o HZ.o 0 HP.o)
 have hm0:q.mark 0=q:=by unfold Hp.mark;rw [HZ.o]
 rw [hm0,show ((0:Nat):Int)=(0:Int) from rfl] at HMK
 clear hr5 a5 hm0 c0 c1 hcn z1
 go_wp2_with fail
 refine HMK.o.mono ?_
 rintro e9 w6 ⟨rfl,L6,hl6,ha6,hk6⟩
 have H6:=ah (And.intro hl6 (And.intro ha6 hk6))
 clear hl6 ha6 hk6 HMK
 obtain ⟨H1,oS1,ob1,es1,li1,rS1⟩:=L6
 obtain rfl:H1=L.H:=H6.o.1.H
 obtain rfl:ob1=L.ob:=H6.o.1.ob
 obtain rfl:es1=L.es:=H6.o.1.es
 obtain ⟨A,cap2,hev,hcap2,-⟩:=HEV.o
 obtain ⟨r6,hr6⟩:=H6.o.2.1.ob n _ HO.o
 have f0:w6.cell? ⟨L.ob n,0,none⟩=some (.int .i64 5):=hr6.cell (j:=0) (by omega)
 have f5:w6.cell? ⟨L.ob n,5,none⟩=some (.slice A o.es.length cap2):=by rw [<-hev];exact hr6.cell (j:=5) (by omega)
 have HST:=ah (mK H6.o.2.1 HK.o HN.o HZ.o HP.o n _ HO.o HR.o HM.o)
 clear hr6 hev e3
 go_wp2_with fail
 refine HST.o.mono ?_
 rintro e9 w7 ⟨rfl,L7,hl7,ha7,hk7⟩
 have H7:=ah (And.intro hl7 (And.intro ha7 hk7))
 clear hl7 ha7 hk7 HST
 go_wp2
 go_ret
 refine ⟨by rw [HSC.o];simp,L7,H6.o.1.trans H7.o.1,by rw [HSC.o];exact H7.o.2.1,(HB.o.2.trans H6.o.2.2).trans H7.o.2.2⟩
end
section
variable {S:Nat->Prop} {base cap m n size:Nat} {gs:List Nat} {w:World} {xs:List Value}
theorem jB {e:Nat} {a:Option Addr} (h:w.ownsRow base e size (.slice a n cap) n xs) (hm:m<=n):w.ownsRow base e size (.slice a m cap) m (xs.take (m*size)):=by
 obtain ⟨h1,h2|⟨g,cap',cur,hv,hBg,hh,hnc,hcm,hcs,ht⟩⟩:=h
 ·obtain ⟨hv,rfl⟩:=h2
  obtain rfl:m=0:=by omega
  refine ⟨by simp,.inl ⟨?_,rfl⟩⟩
  exact hv
 ·have hms:m*size<=n*size:=Nat.mul_le_mul_right _ hm
  refine ⟨by rw [List.length_take,h1];omega,.inr ⟨g,cap',cur,?_,hBg,hh,Nat.le_trans hm hnc,hcm,hcs,?_⟩⟩
  ·simp at hv
   simp [hv]
  ·rw [<-ht,List.take_take,Nat.min_eq_left hms]
theorem Wk.take {h:Hp} (k:Wk h) (t:Jl h No) (hg:h.grey≠[]):Wk h.take.1:=k.JF (JM.take h) (h.F8 hg) t.take.ll
theorem Hp.F3 {h:Hp} (hg:h.grey=gs++[n]):h.take=Hp.scan { h with grey:=gs } n:=by
 unfold Hp.take
 rw [hg,List.getLast?_concat,List.dropLast_concat]
theorem Ci (h:Hp) (hg:h.grey=gs++[n]):Hp.nu { h with grey:=gs }+1=h.nu:=by
 show h.wn+gs.length+h.D8.length+h.weak.length+1=h.wn+h.grey.length+h.D8.length+h.weak.length
 rw [hg]
 simp
 omega
theorem JU.pop {h:Hp} {L:SM} (a:JU base S h L w) (hg:h.grey=gs++[n]):∃ g cap,L.li 7=.slice (some ⟨g,0,none⟩) (gs.length+1) cap/\gs.length+1<=cap/\w.cell? ⟨g,gs.length,none⟩=some (.int .i64 (n:Int))/\
 JU base S { h with grey:=gs } { L with li:=fun j=>if j=7 then .slice (some ⟨g,0,none⟩) gs.length cap else L.li j } (w.setCell ⟨L.H,7,none⟩ (.slice (some ⟨g,0,none⟩) gs.length cap))/\Keeps w (w.setCell ⟨L.H,7,none⟩ (.slice (some ⟨g,0,none⟩) gs.length cap)) S:=by
 have ha:=a.li 7 (by simp [cB])
 have hl7:eX h 7=gs++[n]:=hg
 rw [hl7] at ha
 obtain ⟨x,cap,hv⟩:=aF ha
 have hlen:(gs++[n]).length=gs.length+1:=by simp
 rw [hlen] at ha hv
 rw [hv] at ha
 rcases ha.2 with ⟨_,h9⟩|⟨g,cap',cur,hv2,hb,hh,hnc,hr⟩
 ·omega
 ·simp at hv2
  obtain ⟨rfl,rfl⟩:=hv2
  have hrow:=au ha (g:=g) (by simp [Value.ownBlock])
  have hpre:=jB ha (m:=gs.length) (by omega)
  have hpre':w.ownsRow base 3 1 (.slice (some ⟨g,0,none⟩) gs.length cap) gs.length (bU gs):=by
   have:(bU (gs++[n])).take (gs.length*1)=bU gs:=by
    unfold bU
    rw [List.map_append,Nat.mul_one]
    rw [List.take_append_of_le_length (by simp),List.take_of_length_le (by simp)]
   rw [this] at hpre
   exact hpre
  obtain ⟨p1,p2,p3⟩:=a.Gm (w1:=w) 7 (by simp [cB]) (Keeps.refl w _) _ gs hpre' (fun g' e=>.inl (by rw [hv];simpa [Value.ownBlock] using e))
  refine ⟨g,cap,hv,hnc,?_,p2,p3⟩
  rw [hrow.cell (j:=gs.length) (by omega)]
  simp [bU,List.getD_eq_getElem?_getD]
theorem Wk.pop {h:Hp} (k:Wk h) (hg:h.grey=gs++[n]):Wk { h with grey:=gs }/\Hp.nu { h with grey:=gs }+(Hp.again { h with grey:=gs }).length+1<=20000/\Hp.Lv { h with grey:=gs } n:=by
 have hn:=Ci h hg
 have hs:=k.s.nu
 refine ⟨⟨⟨k.s.len,?_,k.s.fp,k.s.fr,k.s.JQ,k.s.cr,k.s.lim,k.s.rt,k.s.es⟩,k.z,k.p,k.c,k.m,fun m hm=>?_⟩,?_,?_⟩
 ·show Hp.nu { h with grey:=gs }+h.again.length<=20000
  omega
 ·refine k.l m ?_
  rcases hm with x|x|x|x
  ·exact .inl (by rw [hg];exact List.mem_append_left _ x)
  ·exact .inr (.inl x)
  ·exact .inr (.inr (.inl x))
  ·exact .inr (.inr (.inr x))
 ·show Hp.nu { h with grey:=gs }+h.again.length+1<=20000
  omega
 ·exact k.l n (.inl (by rw [hg];simp))
theorem j6 {h:Hp} {L:SM} (a:JU base S h L w) (k:Wk h) (t:Jl h No):
 Calls Tryz.prog 92 #[.pointer (some ⟨L.H,0,none⟩)] w fun e w'=>(∃ z,e=.returned (.int .i64 z))/\∃ L',Lm L L'/\JU base S h.drain L' w'/\Keeps w w' S:=by
 have HI0:Hq (Wk h/\Jl h No/\Lm L L/\JU base S h L w/\Keeps w w S):=ah ⟨k,t,Lm.refl L,a,Keeps.refl _ _⟩
 clear a k t
 go_enter Tryz.func92,Tryz.ntmps92
 go_wp2
 go_loopg [3] h.mu (fun m zv wr=>∃ (z:Int) (q:Hp) (L':SM),zv=.int .i64 z/\Hq (q.mu=m/\q.drain=h.drain/\Wk q/\Jl q No/\Lm L L'/\JU base S q L' wr/\Keeps w wr S))
 case atStart=>exact ⟨0,h,L,rfl,rfl,rfl,HI0.o⟩
 case round=>
  obtain ⟨z,q,L1,rfl,HI⟩:=hrel
  clear HI0
  obtain ⟨H1,oS1,ob1,es1,li1,rS1⟩:=L1
  obtain rfl:H1=L.H:=HI.out.2.2.2.2.1.H
  by_cases hg:q.grey=[]
  ·have hat:=HI.out.2.2.2.2.2.1
   have ha:=hat.li 7 (by simp [cB])
   rw [show eX q 7=[] from hg] at ha
   obtain ⟨x,cap,hv⟩:=aF ha
   have c7:wr.cell? ⟨L.H,7,none⟩=some (.slice x 0 cap):=by
    have:=hat.hp.cell (j:=7) (by omega)
    rw [this]
    exact congrArg some hv
   have HD:=ah (q.Gr hg)
   clear hat ha hv hg
   go_wp2
   go_ret
   exact ⟨⟨z,rfl⟩,_,HI.out.2.2.2.2.1,by rw [<-HI.out.2.1,HD.o];exact HI.out.2.2.2.2.2.1,HI.out.2.2.2.2.2.2⟩
  ·obtain ⟨gs,n,hgs⟩:∃ gs n,q.grey=gs++[n]:=⟨_,_,(List.dropLast_concat_getLast hg).symm⟩
   obtain ⟨g,cap,hv,hcap,hcn,hpat,hpk⟩:=HI.out.2.2.2.2.2.1.pop hgs
   have c7:wr.cell? ⟨L.H,7,none⟩=some (.slice (some ⟨g,0,none⟩) (gs.length+1) cap):=by
    have:=HI.out.2.2.2.2.2.1.hp.cell (j:=7) (by omega)
    rw [this]
    exact congrArg some hv
   have z7:=HI.out.2.2.2.2.2.1.hp.Jv 7
   have hgl:gs.length<=20000:=by
    have:=HI.out.2.2.1.s.nu
    simp only [Hp.nu,Hp.mu,hgs,List.length_append,List.length_singleton] at this
    omega
   have HPT:=ah (And.intro hpat hpk)
   have HG:=ah hg
   have HGS:=ah hgs
   clear hv hpat hpk hg hgs
   go_wp2_with fail
   go_quiet (fail)
   go_wp2_with fail
   have HB2:=ah (ay (Below.refl wr.heap.size wr) nq)
   generalize wr.drewN nq=w2 at *
   have HI2:=ah (HI.out.2.2.2.2.2.1.low HB2.o)
   obtain ⟨g2,cap2,hv2,hcap2,-,hpat2,hpk2⟩:=HI2.o.pop HGS.o
   have d7:w2.cell? ⟨L.H,7,none⟩=some (.slice (some ⟨g2,0,none⟩) (gs.length+1) cap2):=by
    have:=HI2.o.hp.cell (j:=7) (by omega)
    rw [this]
    exact congrArg some hv2
   have y7:=HI2.o.hp.Jv 7
   have HPT2:=ah (And.intro hpat2 hpk2)
   have hgl2:(gs.length:Int)<=cap2:=by omega
   clear hv2 hpat2 hpk2 c7 z7 hcn HPT
   go_region
   have HB3:=ah (ay (Below.refl (w2.setCell ⟨L.H,7,none⟩ (.slice (some ⟨g2,0,none⟩) gs.length cap2)).heap.size (w2.setCell ⟨L.H,7,none⟩ (.slice (some ⟨g2,0,none⟩) gs.length cap2))) 1)
   have HP3:=ah (HPT2.o.1.low HB3.o)
   have HK3:=ah (((Keeps.of HB2.o (Nat.le_refl _) S).trans HPT2.o.2).trans (Keeps.of HB3.o (Nat.le_refl _) S))
   have HSC:=ah (qQ HP3.o (HI.out.2.2.1.pop HGS.o).1 (HI.out.2.2.1.pop HGS.o).2.1 n (HI.out.2.2.1.pop HGS.o).2.2)
   rw [<-Hp.F3 HGS.o] at HSC
   have hdr:∀ x:World,x.drew=x.drewN 1:=fun x=>rfl
   rw [hdr]
   clear hdr
   generalize (w2.setCell ⟨L.H,7,none⟩ (.slice (some ⟨g2,0,none⟩) gs.length cap2)).drewN 1=w4 at *
   clear HPT2 HB3 HI2 d7 y7
   go_wp2_with fail
   refine HSC.o.mono ?_
   rintro e9 w5 ⟨rfl,L5,hl5,ha5,hk5⟩
   have H5:=ah (And.intro hl5 (And.intro ha5 hk5))
   clear hl5 ha5 hk5 HSC
   go_wp2
   go_roundg q.take.1.mu
   case rel=>
    refine ⟨_,q.take.1,L5,rfl,rfl,?_,HI.out.2.2.1.take HI.out.2.2.2.1 HG.o,HI.out.2.2.2.1.take,?_,H5.o.2.1,?_⟩
    ·rw [<-q.Fy HG.o];exact HI.out.2.1
    ·exact HI.out.2.2.2.2.1.trans ((Lm.set _ 7 (.inl rfl) _).trans H5.o.1)
    ·exact (HI.out.2.2.2.2.2.2.trans HK3.o).trans H5.o.2.2
   case measure=>
    have:=q.ER HG.o
    have:=HI.out.1
    omega
end
end Go.Proofs.YtedpifhlffcmkaaGreatDoor
