import Derived.Test.YtedpifhlffcmkaaGreatDoorKHYS
namespace Go.Proofs.YtedpifhlffcmkaaGreatDoor
open Go Go.RowKit
set_option maxHeartbeats 6400000
set_option maxRecDepth 100000
set_option linter.unusedVariables false
variable {G:Gh} {L:PM} {S S':Nat->Prop} {base:Nat} {h h':Hp} {v:Value} {w w2:World}
theorem JR.IU (a:JR base S h G L w) (k:Keeps w w2 (fun b=>¬ S b)) (hv:∀ g,v.ownBlock=some g->¬ S g∨w.heap.size<=g) (hlt:∀ g,v.ownBlock=some g->g<w2.heap.size):JR base (fun b=>S b/\v.ownBlock≠some b) h G L w2:=by
 have y:=a.out k
 have hne:∀ b,S b->b<w.heap.size->v.ownBlock≠some b:=by
  intro b hb hlt' hc
  rcases hv b hc with x|x
  ·exact x hb
  ·omega
 refine ⟨y.hp,y.ob,y.en,y.mp,y.li,y.ij,y.ei,y.mi,y.lj,y.bH,y.bt,y.bm,y.bs,⟨a.sH,hne _ a.sH a.hp.lt⟩,fun n o e=>⟨a.st n o e,hne _ (a.st n o e) (a.ob n o e).lt⟩,fun n o g e hg=>⟨a.se n o g e hg,hne _ (a.se n o g e hg) (au (a.en n o e) hg).lt⟩,fun n o g e hg=>⟨a.sm n o g e hg,hne _ (a.sm n o g e hg) ((a.mp n o e).lt hg)⟩,fun k g hk hg=>⟨a.sl k g hk hg,hne _ (a.sl k g hk hg) (au (a.li k hk) hg).lt⟩,fun b hb=>⟨y.up b hb,fun c=>by have:=hlt b c;omega⟩⟩
theorem JR.IG (a:JR base S h G L w) (k:Nat) (hk:b_ k) (v':Value) (hown:w.ownsRow base (uV k) 1 v' (dh h' G k).length ((dh h' G k).map (cO L.tb k))) (hf:∀ g,v'.ownBlock=some g->¬ S g) (hS:∀ b,S b->S' b) (hv:∀ g,v'.ownBlock=some g->S' g)
 (hob:∀ n,h'.ob n=h.ob n) (hls:∀ j,b_ j->j≠k->dh h' G j=dh h G j) (hc:∀ i,i<19->(if i=k then v' else iY h G L i)=iY h' G { L with li:=fun j=>if j=k then v' else L.li j } i):
 JR base S' h' G { L with li:=fun j=>if j=k then v' else L.li j } (w.setCell ⟨L.H,k,none⟩ v')/\Keeps w (w.setCell ⟨L.H,k,none⟩ v') S':=by
 have hk19:k<19:=by rcases hk with rfl|rfl|rfl|rfl|rfl|rfl|rfl|rfl|rfl<;>decide
 have k1:Keeps w (w.setCell ⟨L.H,k,none⟩ v') (fun b=>b=L.H):=Keeps.setCell (S:=fun b=>b=L.H) (Keeps.refl w _) rfl v'
 have hO:∀ {T s n:Nat} {v:Value} {xs:List Value},w.ownsRow base T s v n xs->T≠77->∀ g,v.ownBlock=some g->¬ g=L.H:=fun h1 h2 g h3 h4=>ak h1 a.hp h2 (h4 ▸ h3)
 refine ⟨⟨(a.hp.set hk19 v').congr hc,fun n o e=>?_,fun n o e=>?_,fun n o e=>?_,fun j hj=>?_,?_,?_,?_,?_,a.bH,?_,?_,Nat.le_trans a.bs k1.size,hS _ a.sH,?_,?_,?_,?_,fun b hb=>hS _ (a.up b (Nat.le_trans k1.size hb))⟩,k1.mono (fun b e=>e ▸ hS _ a.sH)⟩
 ·rw [hob] at e;exact (a.ob n o e).keep k1 (fun y=>(a.ob n o e).apart a.hp (by decide) y)
 ·rw [hob] at e;exact aj (a.en n o e) k1 (hO (a.en n o e) (by decide))
 ·rw [hob] at e;exact (a.mp n o e).keep k1 (fun b hb y=>(a.mp n o e).apart a.hp (y ▸ hb))
 ·by_cases c:j=k
  ·subst c
   simp only [if_true]
   exact aj hown k1 (hO hown (fE hj).1)
  ·simp only [c,if_false]
   rw [hls j hj c]
   exact aj (a.li j hj) k1 (hO (a.li j hj) (fE hj).1)
 ·intro n m o o';rw [hob,hob];exact a.ij n m o o'
 ·intro n m o o' g;rw [hob,hob];exact a.ei n m o o' g
 ·intro n m o o' g;rw [hob,hob];exact a.mi n m o o' g
 ·intro j j' g hj hj' e e'
  by_cases c:j=k<;>by_cases c':j'=k
  ·rw [c,c']
  ·simp only [c,c',if_true,if_false] at e e'
   exact absurd (a.sl j' g hj' e') (hf g e)
  ·simp only [c,c',if_true,if_false] at e e'
   exact absurd (a.sl j g hj e) (hf g e')
  ·simp only [c,c',if_false] at e e'
   exact a.lj j j' g hj hj' e e'
 ·intro n o;rw [hob];exact a.bt n o
 ·intro n o g;rw [hob];exact a.bm n o g
 ·intro n o;rw [hob];exact fun e=>hS _ (a.st n o e)
 ·intro n o g;rw [hob];exact fun e x=>hS _ (a.se n o g e x)
 ·intro n o g;rw [hob];exact fun e x=>hS _ (a.sm n o g e x)
 ·intro j g hj e
  by_cases c:j=k
  ·simp only [c,if_true] at e
   exact hv g e
  ·simp only [c,if_false] at e
   exact hS _ (a.sl j g hj e)
theorem uq:∀ (l:List Nat) (p:Hp × List Nat) (n:Nat),(l.foldl Hp.Ej p).1.Lv n↔p.1.Lv n
 | [],p,n=>Iff.rfl
 |a::l,p,n=>by
  rw [List.foldl_cons,uq l]
  unfold Hp.Ej
  split
  ·show (∃ o,(p.1.upd a _).ob n=some o)↔_
   unfold Hp.Lv
   rw [Hp.Ed]
   split
   ·cases p.1.ob n<;>simp
   ·rfl
  ·rfl
theorem qd:∀ (l:List Nat) (p:Hp × List Nat),(l.foldl Hp.Ej p).1.finals=p.1.finals/\(l.foldl Hp.Ej p).1.pending.length+(l.foldl Hp.Ej p).2.length=p.1.pending.length+p.2.length+l.length
 | [],p=>⟨rfl,rfl⟩
 |a::l,p=>by
  rw [List.foldl_cons]
  obtain ⟨h1,h2⟩:=qd l (Hp.Ej p a)
  rw [h1,h2]
  unfold Hp.Ej
  split
  ·refine ⟨rfl,?_⟩
   show (p.1.pending++[a]).length+p.2.length+l.length=p.1.pending.length+p.2.length+(a::l).length
   simp
   omega
  ·refine ⟨rfl,?_⟩
   show p.1.pending.length+(p.2++[a]).length+l.length=p.1.pending.length+p.2.length+(a::l).length
   simp
   omega
theorem AA (a:JR base S h G L w) (hl:∀ n∈h.finals,h.Lv n) (hfp:h.finals.length+h.pending.length<=5000):
 Calls Tryz.prog 145 #[.pointer (some ⟨L.H,0,none⟩)] w fun e w'=>e=.returned (.tuple #[])/\∃ L',JD L L'/\JR base S h.Ei G L' w'/\Keeps w w' S:=by
 obtain ⟨A,cap,hv,hcap,-⟩:=a.EM (k:=15) (by simp [b_])
 have HX0:=ah (aD.mk' w 72 #[.slice none 0 0])
 have HA1:=ah (a.hole (.cells #[.slice none 0 0] 72))
 have HB:=ah (aJ w (.cells #[.slice none 0 0] 72))
 have HSX:=ah (show S w.heap.size from a.up _ (Nat.le_refl _))
 have HUP:=ah a.up
 have HBS:=ah a.bs
 have HL:=ah hl
 have HV:Hq (L.li 15=.slice A h.finals.length cap):=ah hv
 have hfl:h.finals.length<=5000:=by omega
 clear a hl hv
 go_enter Tryz.func145,Tryz.ntmps145
 go_upto_region 1 with (fail)
 generalize w.alloc (.cells #[.slice none 0 0] 72)=w1 at *
 have ck:w1.cell? ⟨L.H,15,none⟩=some (.slice A h.finals.length cap):=by
  have:=HA1.o.hp.cell (j:=15) (by omega)
  rw [this]
  exact congrArg some HV.out
 generalize hX:w.heap.size=X at *
 have HXE:=ah hX
 clear hX
 go_wp2
 go_loopw [11] (fun iv wr=>∃ i:Nat,i<=h.finals.length/\iv=.int .i64 i/\Hq (∃ lv li',JR base (fun b=>(S b/\b≠X)/\lv.ownBlock≠some b) ((h.finals.take i).foldl Hp.Ej (h,[])).1 G ⟨L.H,L.tb,L.es,L.mp,li'⟩ wr/\(∀ j,j≠16->li' j=L.li j)/\aD wr 72 X 1 (fun _=>lv)/\wr.ownsRow base 67 1 lv ((h.finals.take i).foldl Hp.Ej (h,[])).2.length (((h.finals.take i).foldl Hp.Ej (h,[])).2.map (cO L.tb 15))/\(∀ g,lv.ownBlock=some g->X<=g)/\Keeps w wr S)) (fun iv _=>h.finals.length-aU iv)
 case atStart=>
  refine ⟨0,by omega,rfl,.slice none 0 0,L.li,HA1.o.mono (fun b hb=>⟨hb,by simp [Value.ownBlock]⟩),fun _ _=>rfl,?_,⟨rfl,.inl ⟨rfl,rfl⟩⟩,fun g e=>by simp [Value.ownBlock] at e,Keeps.of HB.o (Nat.le_of_eq HXE.o) S⟩
  refine aD.congr (show aD _ _ _ 1 _ from HX0.o) (fun j hj=>?_)
  have:j=0:=by omega
  subst this
  rfl
 case round=>
  obtain ⟨i,hi9,rfl,HI⟩:=hrel
  obtain ⟨lv,li1,hat,hli,hrx,hown,hlo,hkp⟩:=HI.out
  by_cases hin:i<h.finals.length
  ·obtain ⟨n,he⟩:∃ n,h.finals[i]?=some n:=⟨_,List.getElem?_eq_getElem hin⟩
   have hts:=aO he
   have hlv:=uq (h.finals.take i) (h,[]) n
   have hfi:=qd (h.finals.take i) (h,[])
   have HF0:Hq ((h.finals.take (i+1)).foldl Hp.Ej (h,[])=Hp.Ej ((h.finals.take i).foldl Hp.Ej (h,[])) n):=ah (by rw [hts,aN])
   obtain ⟨p,hp⟩:∃ p,(h.finals.take i).foldl Hp.Ej (h,[])=p:=⟨_,rfl⟩
   rw [hp] at hat hown hlv hfi HF0
   obtain ⟨A1,cap1,hv1,hcap1,hget⟩:=hat.EM (k:=15) (by simp [b_])
   have hv2:li1 15=.slice A h.finals.length cap:=(hli 15 (by decide)).trans HV.out
   have hpf:dh p.1 G 15=h.finals:=hfi.1
   rw [hpf] at hv1 hget
   obtain ⟨rfl,rfl⟩:A1=A/\cap1=cap:=by
    have h9:=hv1.symm.trans hv2
    simp at h9
    exact h9
   obtain ⟨g,rfl,hglt,hgc⟩:=hget i n he
   have hgc':wr.cell? ⟨g,i,none⟩=some (.iface 127 (.pointer (some ⟨L.tb n,0,none⟩))):=hgc
   obtain ⟨o,ho⟩:=hlv.2 (HL.o n (List.mem_of_getElem? he))
   have t0:wr.cell? ⟨L.tb n,0,none⟩=some (.int .i64 (o.col:Int)):=(hat.ob n o ho).cell (j:=0) (by omega)
   have t4:wr.cell? ⟨L.tb n,4,none⟩=some (.bool o.fin):=(hat.ob n o ho).cell (j:=4) (by omega)
   have z4:=(hat.ob n o ho).Jv 4
   have hm1:=n_ (L.tb n)
   have hm2:=fK (L.tb n)
   have HHD:=ah (fun w9=>d_ w9 (L.tb n))
   have HW:=ah (jy wr (L.tb n) o.col t0)
   have HWI:Hq (p.1.JK n=eP o.col):=ah (by unfold Hp.JK;rw [ho])
   have hpl:p.1.pending.length+p.2.length<=5000:=by
    have h9:=hfi.2
    simp only [List.length_take,List.length_nil] at h9
    omega
   have HAT:=ah (And.intro hat (And.intro hrx (And.intro hown (And.intro hlo hkp))))
   have HLI:=ah hli
   have HOO:=ah ho
   clear hat hrx hown hlo hkp hli ho hlv hfi hts hget hgc hv1 hv2 hpf HI he hp t0
   cases hw:eP o.col with
   |true=>
    rw [hw] at HW HWI
    have HF:Hq (Hp.Ej p n=(p.1.GR n,p.2)):=ah (by unfold Hp.Ej;rw [HWI.o];rfl)
    clear hw
    have HCL:=ah (HAT.o.1.JE n 4 (.bool false) (fun o=>{ o with fin:=false }) (by decide) HOO.o ⟨rfl,rfl⟩ (bK _ rfl rfl rfl rfl rfl rfl rfl rfl rfl rfl rfl rfl rfl))
    go_wp2_with fail
    refine HW.o.mono ?_
    rintro e1 w2 ⟨rfl,rfl⟩
    go_wp2_with fail
    refine (HHD.o _).mono ?_
    rintro e2 w3 ⟨rfl,rfl⟩
    go_upto_region 6 with (fail)
    generalize w3.setCell ⟨L.tb n,4,none⟩ (.bool false)=w4 at *
    have hl16:=HCL.o.1.li 16 (by simp [b_])
    have hlen:((dh (p.1.upd n fun o=>{ o with fin:=false }) G 16).map (cO L.tb 16)).length=(dh (p.1.upd n fun o=>{ o with fin:=false }) G 16).length:=by simp
    have HAD:=ah (fF w4 base L.H 16 (li1 16) ((dh (p.1.upd n fun o=>{ o with fin:=false }) G 16).map (cO L.tb 16)) (L.tb n) (HCL.o.1.hp.cell (j:=16) (by omega)) (HCL.o.1.hp.Jv 16) (by rw [hlen];exact hl16) (fun e=>ak hl16 HCL.o.1.hp (by decide) e) (by rw [hlen];show p.1.pending.length<=1000000;omega) HCL.o.1.bs)
    clear hl16 hlen t4 z4 hm1 hm2
    go_wp2_with fail
    refine HAD.o.mono ?_
    intro e4 w5 hr4
    obtain ⟨rfl,⟨H6,tb6,es6,mp6,li6⟩,hl6,ha6,hk6⟩:=HCL.o.1.add (k:=16) (by simp [iZ]) (n:=n) hr4
    obtain rfl:H6=L.H:=hl6.H
    obtain rfl:tb6=L.tb:=hl6.tb
    obtain rfl:es6=L.es:=hl6.es
    obtain rfl:mp6=L.mp:=hl6.mp
    have H6:=ah (And.intro hl6.li (And.intro ha6 (HCL.o.2.trans hk6)))
    clear hr4 hl6 ha6 hk6
    go_wp2
    go_roundw
    case rel=>
     refine ⟨i+1,by omega,by simp,lv,li6,?_,fun j hj=>(H6.o.1 j hj).trans (HLI.o j hj),HAT.o.2.1.keep H6.o.2.2 (fun c=>c.1.2 rfl),?_,HAT.o.2.2.2.1,HAT.o.2.2.2.2.trans (H6.o.2.2.mono (fun b c=>c.1.1))⟩
     ·rw [HF0.o,HF.o];exact H6.o.2.1
     ·rw [HF0.o,HF.o];exact aj HAT.o.2.2.1 H6.o.2.2 (fun g hg c=>c.2 hg)
    case measure=>simp [aU];omega
   |false=>
    rw [hw] at HW HWI
    have HF:Hq (Hp.Ej p n=(p.1,p.2++[n])):=ah (by unfold Hp.Ej;rw [HWI.o];rfl)
    clear hw
    have hown:=HAT.o.2.2.1
    have hlen:(p.2.map (cO L.tb 15)).length=p.2.length:=by simp
    have HAD:=ah (fF wr base X 0 lv (p.2.map (cO L.tb 15)) (L.tb n) (HAT.o.2.1.cell (j:=0) (by omega)) (HAT.o.2.1.Jv 0) (by rw [hlen];exact hown) (fun e=>ak hown HAT.o.2.1 (by decide) e) (by rw [hlen];omega) HAT.o.1.bs)
    clear hown hlen
    go_wp2_with fail
    refine HW.o.mono ?_
    rintro e1 w2 ⟨rfl,rfl⟩
    go_wp2_with fail
    refine HAD.o.mono ?_
    rintro e4 w5 ⟨rfl,a2,k2,w4,rfl,h1,h2,h3⟩
    have hXl:=HAT.o.2.1.lt
    have hrx4:=HAT.o.2.1.keep h2 (fun c=>ak HAT.o.2.2.1 HAT.o.2.1 (by decide) c)
    have hne:∀ g,(Value.slice a2 ((p.2.map (cO L.tb 15)).length+1) k2).ownBlock=some g->g≠X:=fun g hg c=>ak h1 hrx4 (by decide) (c ▸ hg)
    have kX:Keeps w4 (w4.setCell ⟨X,0,none⟩ (.slice a2 ((p.2.map (cO L.tb 15)).length+1) k2)) (fun b=>b=X):=Keeps.setCell (S:=fun b=>b=X) (Keeps.refl w4 _) rfl _
    have k5:Keeps w2 (w4.setCell ⟨X,0,none⟩ (.slice a2 ((p.2.map (cO L.tb 15)).length+1) k2)) (fun b=>¬ ((S b/\b≠X)/\lv.ownBlock≠some b)):=(h2.mono (fun b c d=>d.2 c)).trans (kX.mono (fun b c d=>d.1.2 c))
    have h15:∀ g,(Value.slice a2 ((p.2.map (cO L.tb 15)).length+1) k2).ownBlock=some g->g<(w4.setCell ⟨X,0,none⟩ (.slice a2 ((p.2.map (cO L.tb 15)).length+1) k2)).heap.size:=fun g hg=>Nat.lt_of_lt_of_le (au h1 hg).lt kX.size
    have H5:=ah (HAT.o.1.IU k5 (v:=.slice a2 ((p.2.map (cO L.tb 15)).length+1) k2) (fun g hg=>by
     rcases h3 g hg with c|c
     ·exact .inl (fun d=>d.2 c)
     ·exact .inr c) h15)
    have H5R:=ah (show aD (w4.setCell ⟨X,0,none⟩ (.slice a2 ((p.2.map (cO L.tb 15)).length+1) k2)) 72 X 1 (fun _=>.slice a2 ((p.2.map (cO L.tb 15)).length+1) k2) from (hrx4.set (j:=0) (by omega) _).congr (fun j hj=>by rw [if_pos (by omega)]))
    have H5O:=ah (aj h1 kX (fun g hg=>hne g hg))
    have H5G:=ah (show ∀ g,(Value.slice a2 ((p.2.map (cO L.tb 15)).length+1) k2).ownBlock=some g->X<=g from fun g hg=>by
     rcases h3 g hg with c|c
     ·exact HAT.o.2.2.2.1 g c
     ·omega)
    have H5K:=ah (show Keeps w (w4.setCell ⟨X,0,none⟩ (.slice a2 ((p.2.map (cO L.tb 15)).length+1) k2)) S from HAT.o.2.2.2.2.trans ((h2.mono (fun b c=>HUP.o b (by have:=HAT.o.2.2.2.1 b c;have:=HXE.o;omega))).trans (kX.mono (fun b c=>by rw [c];exact HUP.o _ (Nat.le_refl _)))))
    generalize w4.setCell ⟨X,0,none⟩ (.slice a2 ((p.2.map (cO L.tb 15)).length+1) k2)=w6 at *
    clear h1 h2 h3 hXl hrx4 hne kX k5 h15 t4 z4 hm1 hm2
    go_wp2
    go_roundw
    case rel=>
     refine ⟨i+1,by omega,by simp,.slice a2 ((p.2.map (cO L.tb 15)).length+1) k2,li1,?_,HLI.o,H5R.o,?_,H5G.o,H5K.o⟩
     ·rw [HF0.o,HF.o];exact H5.o.mono (fun b c=>⟨c.1.1,c.2⟩)
     ·rw [HF0.o,HF.o]
      have h9:=H5O.o
      simp only [List.length_map] at h9
      simp only [List.length_append,List.length_singleton,List.map_append,List.map_cons,List.map_nil,List.length_map]
      exact h9
    case measure=>simp [aU];omega
  ·have hie:i=h.finals.length:=by omega
   subst hie
   rw [List.take_length] at hat hown
   have c0:wr.cell? ⟨X,0,none⟩=some lv:=hrx.cell (j:=0) (by omega)
   obtain ⟨al,kl,hlv⟩:=aF hown
   have c1:wr.cell? ⟨X,0,none⟩=some (.slice al (h.finals.foldl Hp.Ej (h,[])).2.length kl):=by rw [<-hlv];exact c0
   have e15:wr.cell? ⟨L.H,15,none⟩=some (li1 15):=hat.hp.cell (j:=15) (by omega)
   have z15:=hat.hp.Jv 15
   have HLP:=ah (hat.IG (S':=S) (h':={ (h.finals.foldl Hp.Ej (h,[])).1 with finals:=(h.finals.foldl Hp.Ej (h,[])).2 }) 15 (by simp [b_]) lv hown (fun g hg c=>c.2 hg) (fun b c=>c.1.1) (fun g hg=>HUP.o g (by have:=hlo g hg;have:=HXE.o;omega)) (fun n=>rfl) (fun j hj hn=>by rcases hj with rfl|rfl|rfl|rfl|rfl|rfl|rfl|rfl|rfl<;>first |rfl|exact absurd rfl hn) (aS _ rfl rfl rfl rfl rfl rfl rfl rfl rfl rfl rfl rfl rfl rfl rfl rfl rfl rfl rfl))
   have HKP:=ah hkp
   rw [hlv] at HLP
   clear hat hown hrx hlo hkp hli HI c0 hlv
   go_wp2
   go_end0
   refine ⟨rfl,_,?_,HLP.o.1,HKP.o.trans HLP.o.2⟩
   exact ⟨rfl,rfl,rfl,rfl⟩
end Go.Proofs.YtedpifhlffcmkaaGreatDoor
