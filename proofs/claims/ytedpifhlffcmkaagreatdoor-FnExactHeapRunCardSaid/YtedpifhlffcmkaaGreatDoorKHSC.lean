import Derived.Test.YtedpifhlffcmkaaGreatDoorKHS9
namespace Go.Proofs.YtedpifhlffcmkaaGreatDoor
open Go Go.RowKit
set_option maxHeartbeats 6400000
set_option maxRecDepth 100000
set_option linter.unusedVariables false
section
variable {S:Nat->Prop} {base k n:Nat} {o:Ob} {w:World}
theorem Wk.spread {h:Hp} (k:Wk h) (es:List En):Wk (h.spread es).1:=k.JN (I_.spread h es) (Nat.le_of_eq (h.EO es))
theorem Wk.drain {h:Hp} (k:Wk h) (t:Jl h No):Wk h.drain:=k.JF (JM.drain h) h.FJ t.drain.ll
theorem Wk.over {p:Hp × Bool} {j:Nat} (k:Wk p.1) (t:Jl p.1 No):Wk (Hp.over j p).1:=k.JF (JM.over j p) (Hp.FX j p) t.over.ll
theorem Hp.Gf {h:Hp} (e:h.ob n=some o):h.Fw n=o.es:=by unfold Hp.Fw;rw [e];rfl
theorem JU.EM {h:Hp} {L:SM} (a:JU base S h L w) (hk:cB k):∃ A cap,L.li k=.slice A (eX h k).length cap/\(eX h k).length<=cap/\∀ i (hi:i<(eX h k).length),∃ g,A=some ⟨g,0,none⟩/\w.cell? ⟨g,i,none⟩=some (.int .i64 (((eX h k)[i]:Nat):Int)):=by
 have ha:=a.li k hk
 rcases ha.2 with ⟨h1,h2⟩|⟨g,cap,cur,hv,_,_,hc,_⟩
 ·exact ⟨none,0,by rw [h1,h2],by omega,fun i hi=>by omega⟩
 ·refine ⟨_,cap,hv,hc,fun i hi=>⟨g,rfl,?_⟩⟩
  have hr:=au ha (g:=g) (by rw [hv];simp [Value.ownBlock])
  rw [hr.cell (j:=i) (by omega)]
  simp [bU,List.getD_eq_getElem?_getD,hi]
def D5 (b:Bool) (m:Nat) (q T:Hp):Prop:=(b=true->m=q.mu+1/\q.turns=T)/\(b=false->q=T)
theorem jE {h:Hp} {L:SM} (a:JU base S h L w) (k:Wk h) (t:Jl h No):
 Calls Tryz.prog 93 #[.pointer (some ⟨L.H,0,none⟩)] w fun e w'=>e=.returned (.tuple #[])/\∃ L',Lm L L'/\JU base S h.settle L' w'/\Keeps w w' S:=by
 have HD:=ah (j6 a k t)
 have HKT:=ah (And.intro (k.drain t) t.drain)
 clear a k t
 go_enter Tryz.func93,Tryz.ntmps93
 go_wp2_with fail
 refine HD.o.mono ?_
 rintro e9 w1 ⟨⟨z,rfl⟩,L1,hl1,ha1,hk1⟩
 have H1:=ah (And.intro hl1 (And.intro ha1 hk1))
 clear hl1 ha1 hk1 HD
 go_wp2
 go_loopg [2] (h.drain.mu+1) (fun m bv wr=>∃ (b:Bool) (q:Hp) (L':SM),bv=.bool b/\Hq (D5 b m q h.settle/\Wk q/\Jl q No/\Lm L L'/\JU base S q L' wr/\Keeps w wr S))
 case atStart=>exact ⟨true,h.drain,L1,rfl,⟨fun _=>⟨rfl,rfl⟩,fun c=>by cases c⟩,HKT.o.1,HKT.o.2,H1.o⟩
 case round=>
  obtain ⟨b,q,L2,rfl,HI⟩:=hrel
  clear HKT H1
  cases b with
  |false=>
   go_wp2
   go_end0
   exact ⟨rfl,L2,HI.out.2.2.2.1,by rw [<-HI.out.1.2 rfl];exact HI.out.2.2.2.2.1,HI.out.2.2.2.2.2⟩
  |true=>
   go_wp2
   go_loopg [2,3] (q.mu+q.D8.length) (fun m bv jv wr=>∃ (j:Nat) (b':Bool) (q':Hp) (L':SM),jv=.int .i64 (j:Int)/\bv=.bool b'/\Hq (m=q'.mu+q'.D8.length-j/\Hp.over j (q',b')=Hp.over 0 (q,false)/\Wk q'/\Jl q' No/\Lm L L'/\JU base S q' L' wr/\Keeps w wr S/\j<=100000))
   case atStart=>exact ⟨0,false,q,L2,rfl,rfl,by omega,rfl,HI.out.2.1,HI.out.2.2.1,HI.out.2.2.2.1,HI.out.2.2.2.2.1,HI.out.2.2.2.2.2,by omega⟩
   case round=>
    obtain ⟨j,b',q',L3,rfl,rfl,HJ⟩:=hrel
    obtain ⟨H3,oS3,ob3,es3,li3,rS3⟩:=L3
    obtain rfl:H3=L.H:=HJ.o.2.2.2.2.1.H
    have hat:=HJ.o.2.2.2.2.2.1
    obtain ⟨A,cap,hv,hcap,hget⟩:=hat.EM (k:=10) (by simp [cB])
    have hel:q'.D8.length<=20000:=by
     have:=HJ.o.2.2.1.s.nu
     simp only [Hp.nu] at this
     omega
    have hj9:=HJ.o.2.2.2.2.2.2.2
    have c10:wr.cell? ⟨L.H,10,none⟩=some (.slice A q'.D8.length cap):=by
     have:=hat.hp.cell (j:=10) (by omega)
     rw [this]
     exact congrArg some hv
    by_cases hj:j<q'.D8.length
    ·obtain ⟨g,rfl,hgc⟩:=hget j hj
     have hlv:=HJ.o.2.2.2.1.ll _ (.inr (.inr (.inr (List.getElem_mem hj))))
     have HOY:=ah (Hp.FZ j (q',b') hj)
     have HON:=ah (Hp.Gv j (q',b') hj)
     have hgc':wr.cell? ⟨g,j,none⟩=some (.int .i64 ((q'.D8[j]:Nat):Int)):=hgc
     generalize q'.D8[j]=n at *
     obtain ⟨o,ho⟩:=hlv
     have hnl:=Hp.Es ho
     obtain ⟨go,capo,hoS,hcapo,hcell⟩:=hat.slot HJ.o.2.2.1.p
     have hcn:=hcell n hnl
     have c0:wr.cell? ⟨L.H,0,none⟩=some (.slice (some ⟨go,0,none⟩) q'.objs.length capo):=by
      have:=hat.hp.cell (j:=0) (by omega)
      rw [this]
      exact congrArg some hoS
     have hes:=Hp.Gf ho
     have hbd:Below wr.heap.size wr wr.drew:=(Below.refl _ _).drew
     have HBD:=ah hbd
     have HSP:=ah (l9 (hat.low hbd) HJ.o.2.2.1.s HJ.o.2.2.1.z HJ.o.2.2.1.p n o ho (uo.of HJ.o.2.2.1.z HJ.o.2.2.1.c ho))
     simp only [hes] at HOY HON
     have hl9:=HJ.o.2.2.1.s.len
     have hji:(j:Int)<(q'.D8.length:Int):=by omega
     have hni:(n:Int)<(q'.objs.length:Int):=by omega
     have HSD:=ah (And.intro (HJ.o.2.2.1.spread o.es) (HJ.o.2.2.2.1.JN (I_.spread q' o.es)))
     have HMU:Hq ((q'.spread o.es).1.mu=q'.mu/\(q'.spread o.es).1.D8=q'.D8):=ah ⟨Hp.Ez q' o.es,(Hp.Et q' o.es).1⟩
     clear hat hget hgc hcell ho hes hoS hv hbd
     go_wp2_with fail
     go_cut [30] (fun sv wc=>∃ L4,sv=.bool (q'.spread o.es).2/\Hq (Lm ⟨L.H,oS3,ob3,es3,li3,rS3⟩ L4/\JU base S (q'.spread o.es).1 L4 wc/\Keeps wr.drew wc S))
     case first=>
      go_region_with (go_at_call 118;refine HSP.o.mono ?_;rintro e9 w4 ⟨rfl,L4,hl4,ha4,hk4⟩;have H4:=ah (And.intro hl4 (And.intro ha4 hk4));clear hl4 ha4 hk4)
      all_goals
       go_wp2_with fail
       go_meet
       exact ⟨L4,rfl,H4.o⟩
     case rest=>
     obtain ⟨L4,rfl,H4⟩:=hcut
     rename_i w4
     cases hs2:(q'.spread o.es).2 with
     |false=>
      have HO2:=ah (HON.o hs2)
      clear hs2 HON HOY
      go_wp2
      go_roundg (q'.mu+q'.D8.length-(j+1))
      case rel=>
       refine ⟨j+1,b',(q'.spread o.es).1,L4,by simp,rfl,?_,HO2.o.symm.trans HJ.o.2.1,HSD.o.1,HSD.o.2,HJ.o.2.2.2.2.1.trans H4.o.1,H4.o.2.1,(HJ.o.2.2.2.2.2.2.1.trans (Keeps.of HBD.o (Nat.le_refl _) S)).trans H4.o.2.2,by omega⟩
       rw [HMU.o.1,HMU.o.2]
      case measure=>
       have:=HJ.o.1
       omega
     |true=>
      have HO2:=ah (HOY.o hs2)
      clear hs2 HON HOY
      obtain ⟨H5,oS5,ob5,es5,li5,rS5⟩:=L4
      obtain rfl:H5=L.H:=H4.o.1.H
      have HDR:=ah (j6 H4.o.2.1 HSD.o.1 HSD.o.2)
      go_wp2_with fail
      refine HDR.o.mono ?_
      rintro e9 w6 ⟨⟨z6,rfl⟩,L6,hl6,ha6,hk6⟩
      have H6:=ah (And.intro hl6 (And.intro ha6 hk6))
      clear hl6 ha6 hk6 HDR
      go_wp2
      go_roundg ((q'.spread o.es).1.drain.mu+(q'.spread o.es).1.drain.D8.length-(j+1))
      case rel=>
       exact ⟨j+1,true,(q'.spread o.es).1.drain,L6,by simp,rfl,rfl,HO2.o.symm.trans HJ.o.2.1,HSD.o.1.drain HSD.o.2,HSD.o.2.drain,HJ.o.2.2.2.2.1.trans (H4.o.1.trans H6.o.1),H6.o.2.1,((HJ.o.2.2.2.2.2.2.1.trans (Keeps.of HBD.o (Nat.le_refl _) S)).trans H4.o.2.2).trans H6.o.2.2,by omega⟩
      case measure=>
       have h1:=HJ.o.1
       have h2:=Hp.Fg (q'.spread o.es).1
       rw [HMU.o.1,HMU.o.2] at h2
       omega
    ·have HOE:=ah ((Hp.FW j (q',b') hj).symm.trans HJ.o.2.1)
     have HAT:=ah hat
     clear hat hget hv
     go_wp2
     cases b' with
     |false=>
      go_wp2
      go_roundg 0
      case rel=>
       refine ⟨false,q',_,rfl,⟨fun c=>(by cases c),fun _=>?_⟩,HJ.o.2.2.1,HJ.o.2.2.2.1,HJ.o.2.2.2.2.1,HAT.o,HJ.o.2.2.2.2.2.2.1⟩
       rw [<-(HI.out.1.1 rfl).2,Hp.GD q (by rw [<-HOE.o]),<-HOE.o]
      case measure=>
       have:=(HI.out.1.1 rfl).1
       omega
     |true=>
      go_wp2
      go_roundg (q'.mu+1)
      case rel=>
       refine ⟨true,q',_,rfl,⟨fun _=>⟨rfl,?_⟩,fun c=>by cases c⟩,HJ.o.2.2.1,HJ.o.2.2.2.1,HJ.o.2.2.2.2.1,HAT.o,HJ.o.2.2.2.2.2.2.1⟩
       rw [<-(HI.out.1.1 rfl).2,Hp.FQ HI.out.2.2.1 (by rw [<-HOE.o]),<-HOE.o]
      case measure=>
       have h1:=(HI.out.1.1 rfl).1
       have h2:=Hp.FM HI.out.2.2.1 (by rw [<-HOE.o])
       rw [<-HOE.o] at h2
       simp only at h2
       omega
end
section
variable {S:Nat->Prop} {T base cap g i j n s:Nat} {e:En} {es es':List En} {o:Ob} {w w':World} {xs:List Value}
def aL (f:En->En) (j:Nat) (es:List En):List En:=(es.take j).map f++es.drop j
theorem bF (f:En->En) (j:Nat) (es:List En):(aL f j es).length=es.length:=by
 unfold aL
 simp
 omega
theorem dV (f:En->En) (es:List En):aL f 0 es=es:=by simp [aL]
theorem fu (f:En->En) (es:List En):aL f es.length es=es.map f:=by simp [aL]
theorem bN (f:En->En) (h:es[j]?=some e):(aL f j es)[j]?=some e:=by
 have hj:=(List.getElem?_eq_some_iff.1 h).1
 unfold aL
 rw [List.getElem?_append_right (by simp;omega)]
 simp only [List.length_map,List.length_take]
 rw [Nat.min_eq_left (by omega),Nat.sub_self,List.getElem?_drop]
 simpa using h
theorem dJ (f:En->En) (h:es[j]?=some e):aL f (j+1) es=(aL f j es).set j (f e):=by
 have hj:=(List.getElem?_eq_some_iff.1 h).1
 refine List.ext_getElem? (fun i=>?_)
 rw [List.getElem?_set]
 unfold aL
 by_cases c:j=i
 ·subst c
  rw [if_pos rfl,if_pos (by simp;omega),List.getElem?_append_left (by simp;omega)]
  simp [h]
 ·rw [if_neg c]
  by_cases d:i<j
  ·rw [List.getElem?_append_left (by simp;omega),List.getElem?_append_left (by simp;omega)]
   simp [d,show i<j+1 by omega]
  ·rw [List.getElem?_append_right (by simp;omega),List.getElem?_append_right (by simp;omega)]
   simp only [List.length_map,List.length_take,List.getElem?_drop]
   rw [Nat.min_eq_left (by omega),Nat.min_eq_left (by omega)]
   congr 1
   omega
theorem dK (f:En->En) (h:es[j]?=some e) (hf:f e=e):aL f (j+1) es=aL f j es:=by
 rw [dJ f h,hf]
 refine List.ext_getElem? (fun i=>?_)
 rw [List.getElem?_set]
 split
 ·rename_i c
  subst c
  rw [bN f h]
  have:=(List.getElem?_eq_some_iff.1 h).1
  rw [if_pos (by rw [bF];exact this)]
 ·rfl
def Hp.ents (h:Hp) (n:Nat) (es:List En):Hp:=h.upd n fun o=>{ o with es:=es }
theorem Hp.Eu {h:Hp} (ho:h.ob n=some o) (es:List En):(h.ents n es).ob n=some { o with es:=es }:=by
 unfold Hp.ents
 rw [Hp.Ed,if_pos rfl,ho]
 rfl
theorem Hp.Ho (h:Hp) (n:Nat) (es:List En) (m:Nat):(h.ents n es).JK m=h.JK m:=by
 unfold Hp.JK Hp.ents
 rw [Hp.Ed]
 by_cases c:n=m
 ·rw [if_pos c]
  cases h.ob m<;>rfl
 ·rw [if_neg c]
theorem Hp.E5 (h:Hp) (n:Nat) (es:List En) (v:HV):(h.ents n es).JG v=h.JG v:=by
 unfold Hp.JG
 split
 ·exact h.Ho n es _
 ·rfl
theorem Hp.Ep (h:Hp) (n:Nat) (es:List En):(h.ents n es).objs.length=h.objs.length:=h.El n _
theorem Hp.EA {h:Hp} (ho:h.ob n=some o):h.ents n o.es=h:=by
 have hx:=Hp.E_ ho
 have:h.objs.modify n (Option.map fun o':Ob=>{ o' with es:=o.es })=h.objs:=by
  refine List.ext_getElem? (fun i=>?_)
  rw [List.getElem?_modify]
  by_cases c:n=i
  ·subst c
   rw [hx]
   simp
  ·simp [c]
 unfold Hp.ents Hp.upd
 rw [this]
theorem Hp.EI (h:Hp) (n:Nat) (es es':List En):(h.ents n es).ents n es'=h.ents n es':=by
 unfold Hp.ents Hp.upd
 simp only
 congr 1
 refine List.ext_getElem? (fun i=>?_)
 simp only [List.getElem?_modify]
 by_cases c:n=i
 ·cases hx:h.objs[i]? with
  |none=>simp
  |some x=>cases x<;>simp [c]
 ·simp [c]
theorem JU.IE {h:Hp} {L:SM} (a:JU base S h L w) (ho:h.ob n=some o) (hk:Keeps w w' (fun b=>(L.es n).ownBlock=some b)) (hown:w'.ownsRow base 122 10 (L.es n) es'.length (iO es')):
 JU base S (h.ents n es') L w'/\Keeps w w' S:=by
 have hl:(h.ents n es').objs.length=h.objs.length:=h.El n _
 have hn:=Hp.Es ho
 have he:=a.en n o ho
 have hH:∀ {T s n':Nat} {v:Value} {xs:List Value},w.ownsRow base T s v n' xs->T≠122->∀ g,v.ownBlock=some g->¬ (L.es n).ownBlock=some g:=fun h1 h2 g h3 h4=>aV h1 he h2 h4 h3
 have hR:∀ {T g N:Nat} {f:Nat->Value},aD w T g N f->T≠122->¬ (L.es n).ownBlock=some g:=fun h1 h2 h3=>ak he h1 (Ne.symm h2) h3
 have get:∀ m o',(h.ents n es').ob m=some o'->∃ o2,h.ob m=some o2/\o'.col=o2.col/\o'.mode=o2.mode/\o'.fin=o2.fin/\(m=n->o'.es=es')/\(m≠n->o'.es=o2.es):=by
  intro m o' e
  unfold Hp.ents at e
  rw [Hp.Ed] at e
  split at e
  ·rename_i c
   subst c
   rw [ho] at e
   simp at e
   subst e
   exact ⟨o,ho,rfl,rfl,rfl,fun _=>rfl,fun c=>absurd rfl c⟩
  ·rename_i c
   exact ⟨o',e,rfl,rfl,rfl,fun d=>absurd d.symm c,fun _=>rfl⟩
 refine ⟨⟨a.hp.keep hk (hR a.hp (by decide)),?_,fun m o' e=>?_,fun m hm e=>?_,fun m o' e=>?_,fun j hj=>aj (a.li j hj) hk (hH (a.li j hj) (by decide)),aj a.ro hk (hH a.ro (by decide)),?_,?_,a.lj,a.bH,?_,Nat.le_trans a.bs hk.size,a.sH,?_,a.sO,?_,a.sl,a.sr,fun b hb=>a.up b (Nat.le_trans hk.size hb)⟩,hk.mono (fun b e=>a.se n o b ho e)⟩
 ·rw [hl];exact aj a.oo hk (hH a.oo (by decide))
 ·obtain ⟨o2,e2,h3,h4,h5,_⟩:=get m o' e
  obtain ⟨r,hr⟩:=a.ob m o2 e2
  refine ⟨r,?_⟩
  rw [h3,h4,h5]
  exact hr.keep hk (hR hr (by decide))
 ·rw [hl] at hm
  unfold Hp.ents at e
  rw [Hp.Ed] at e
  have e2:h.ob m=none:=by
   split at e
   ·cases hb:h.ob m with
    |none=>rfl
    |some x=>rw [hb] at e;simp at e
   ·exact e
  obtain ⟨r,c,hcw,hr⟩:=a.dd m hm e2
  exact ⟨r,c,hcw,hr.keep hk (hR hr (by decide))⟩
 ·obtain ⟨o2,e2,_,_,_,h6,h7⟩:=get m o' e
  by_cases c:m=n
  ·rw [h6 c,c];exact hown
  ·rw [h7 c]
   refine aj (a.en m o2 e2) hk (fun g hg hg'=>c (a.ei m n o2 o g e2 ho hg hg'))
 ·rw [hl];exact a.ij
 ·intro m m' o1 o2 g e1 e2
  obtain ⟨p1,q1,_⟩:=get m o1 e1
  obtain ⟨p2,q2,_⟩:=get m' o2 e2
  exact a.ei m m' p1 p2 g q1 q2
 ·rw [hl];exact a.bo
 ·rw [hl];exact a.so
 ·intro m o' g e
  obtain ⟨p1,q1,_⟩:=get m o' e
  exact a.se m p1 g q1
theorem aH (h:w.ownsRow base T s (.slice (some ⟨g,0,none⟩) n cap) n xs) (hi:i<n*s) (x:Value):(w.setCell ⟨g,i,none⟩ x).ownsRow base T s (.slice (some ⟨g,0,none⟩) n cap) n (xs.set i x):=by
 obtain ⟨h1,⟨h2,_⟩|⟨g',cap',cur,hv,hBg,hh,hnc,hcm,hcs,ht⟩⟩:=h
 ·simp at h2
 ·simp at hv
  obtain ⟨rfl,rfl⟩:=hv
  refine ⟨by simpa using h1,.inr ⟨g,cap,_,rfl,hBg,heap_setCell_same w g i _ _ x hh,hnc,hcm,by simpa using hcs,?_⟩⟩
  have hc:i<cur.size:=by
   rw [hcs]
   exact Nat.lt_of_lt_of_le hi (Nat.mul_le_mul_right _ hnc)
  rw [<-ht]
  simp [List.take_set]
theorem iQ (es:List En) (p:Nat):(iO es)[p]?=(es[p/10]?).bind (fun e=>(gD e)[p%10]?):=by
 cases h:es[p/10]? with
 |none=>
  have:=List.getElem?_eq_none_iff.1 h
  rw [List.getElem?_eq_none (by rw [kT];omega)]
  rfl
 |some e=>
  have:=dw gD 10 (fun _=>rfl) es (p/10) (p%10) e h (Nat.mod_lt _ (by decide))
  rw [show p/10*10+p%10=p by omega] at this
  exact this
theorem wT (h:es[j]?=some e):(((((iO es).set (j*10+5) (.int .i64 0)).set (j*10+5+1) (.int .i64 0)).set (j*10+5+2) (.int .u64 0)).set (j*10+5+3) (.string { data:=#[] })).set (j*10+5+4) (.int .i64 0)=iO (es.set j (e.1,none)):=by
 have hj:=(List.getElem?_eq_some_iff.1 h).1
 have hl:=kT es
 refine List.ext_getElem? (fun p=>?_)
 by_cases c:p/10=j
 ·have hg:∀ r,r<10->(iO es)[j*10+r]?=(gD e)[r]?:=fun r hr=>dw gD 10 (fun _=>rfl) es j r e h hr
  have hq:∀ r,r<10->(iO (es.set j (e.1,none)))[j*10+r]?=(gD (e.1,none))[r]?:=fun r hr=>dw gD 10 (fun _=>rfl) _ j r _ (List.getElem?_set_self (by omega)) hr
  obtain ⟨r,hr,rfl⟩:∃ r,r<10/\p=j*10+r:=⟨p%10,Nat.mod_lt _ (by decide),by omega⟩
  rw [hq r hr]
  have hrr:r=0∨r=1∨r=2∨r=3∨r=4∨r=5∨r=6∨r=7∨r=8∨r=9:=by omega
  rcases hrr with rfl|rfl|rfl|rfl|rfl|rfl|rfl|rfl|rfl|rfl
  ·rw [List.getElem?_set_ne (by omega)];rw [List.getElem?_set_ne (by omega)];rw [List.getElem?_set_ne (by omega)];rw [List.getElem?_set_ne (by omega)];rw [List.getElem?_set_ne (by omega)];rw [hg 0 (by decide)];rfl
  ·rw [List.getElem?_set_ne (by omega)];rw [List.getElem?_set_ne (by omega)];rw [List.getElem?_set_ne (by omega)];rw [List.getElem?_set_ne (by omega)];rw [List.getElem?_set_ne (by omega)];rw [hg 1 (by decide)];rfl
  ·rw [List.getElem?_set_ne (by omega)];rw [List.getElem?_set_ne (by omega)];rw [List.getElem?_set_ne (by omega)];rw [List.getElem?_set_ne (by omega)];rw [List.getElem?_set_ne (by omega)];rw [hg 2 (by decide)];rfl
  ·rw [List.getElem?_set_ne (by omega)];rw [List.getElem?_set_ne (by omega)];rw [List.getElem?_set_ne (by omega)];rw [List.getElem?_set_ne (by omega)];rw [List.getElem?_set_ne (by omega)];rw [hg 3 (by decide)];rfl
  ·rw [List.getElem?_set_ne (by omega)];rw [List.getElem?_set_ne (by omega)];rw [List.getElem?_set_ne (by omega)];rw [List.getElem?_set_ne (by omega)];rw [List.getElem?_set_ne (by omega)];rw [hg 4 (by decide)];rfl
  ·rw [List.getElem?_set_ne (by omega)];rw [List.getElem?_set_ne (by omega)];rw [List.getElem?_set_ne (by omega)];rw [List.getElem?_set_ne (by omega)];rw [show j*10+5=j*10+5 by omega];rw [List.getElem?_set_self (Nat.lt_of_lt_of_eq (show _<es.length*10 by omega) (by simp [hl]))];rfl
  ·rw [List.getElem?_set_ne (by omega)];rw [List.getElem?_set_ne (by omega)];rw [List.getElem?_set_ne (by omega)];rw [show j*10+6=j*10+5+1 by omega];rw [List.getElem?_set_self (Nat.lt_of_lt_of_eq (show _<es.length*10 by omega) (by simp [hl]))];rfl
  ·rw [List.getElem?_set_ne (by omega)];rw [List.getElem?_set_ne (by omega)];rw [show j*10+7=j*10+5+2 by omega];rw [List.getElem?_set_self (Nat.lt_of_lt_of_eq (show _<es.length*10 by omega) (by simp [hl]))];rfl
  ·rw [List.getElem?_set_ne (by omega)];rw [show j*10+8=j*10+5+3 by omega];rw [List.getElem?_set_self (Nat.lt_of_lt_of_eq (show _<es.length*10 by omega) (by simp [hl]))];rfl
  ·rw [show j*10+9=j*10+5+4 by omega];rw [List.getElem?_set_self (Nat.lt_of_lt_of_eq (show _<es.length*10 by omega) (by simp [hl]))];rfl
 ·rw [show (iO (es.set j (e.1,none)))[p]?=(iO es)[p]? by rw [iQ,iQ,List.getElem?_set_ne (by omega)]]
  rw [List.getElem?_set_ne (by omega)]
  rw [List.getElem?_set_ne (by omega)]
  rw [List.getElem?_set_ne (by omega)]
  rw [List.getElem?_set_ne (by omega)]
  rw [List.getElem?_set_ne (by omega)]
theorem vo (h:es[j]?=some e):((((((((((iO es).set (j*10) (.int .i64 0)).set (j*10+1) (.int .i64 0)).set (j*10+2) (.int .u64 0)).set (j*10+3) (.string { data:=#[] })).set (j*10+4) (.int .i64 0)).set (j*10+5) (.int .i64 0)).set (j*10+6) (.int .i64 0)).set (j*10+7) (.int .u64 0)).set (j*10+8) (.string { data:=#[] })).set (j*10+9) (.int .i64 0)=iO (es.set j (none,none)):=by
 have hj:=(List.getElem?_eq_some_iff.1 h).1
 have hl:=kT es
 refine List.ext_getElem? (fun p=>?_)
 by_cases c:p/10=j
 ·have hg:∀ r,r<10->(iO es)[j*10+r]?=(gD e)[r]?:=fun r hr=>dw gD 10 (fun _=>rfl) es j r e h hr
  have hq:∀ r,r<10->(iO (es.set j (none,none)))[j*10+r]?=(gD (none,none))[r]?:=fun r hr=>dw gD 10 (fun _=>rfl) _ j r _ (List.getElem?_set_self (by omega)) hr
  obtain ⟨r,hr,rfl⟩:∃ r,r<10/\p=j*10+r:=⟨p%10,Nat.mod_lt _ (by decide),by omega⟩
  rw [hq r hr]
  have hrr:r=0∨r=1∨r=2∨r=3∨r=4∨r=5∨r=6∨r=7∨r=8∨r=9:=by omega
  rcases hrr with rfl|rfl|rfl|rfl|rfl|rfl|rfl|rfl|rfl|rfl
  ·rw [List.getElem?_set_ne (by omega)];rw [List.getElem?_set_ne (by omega)];rw [List.getElem?_set_ne (by omega)];rw [List.getElem?_set_ne (by omega)];rw [List.getElem?_set_ne (by omega)];rw [List.getElem?_set_ne (by omega)];rw [List.getElem?_set_ne (by omega)];rw [List.getElem?_set_ne (by omega)];rw [List.getElem?_set_ne (by omega)];rw [show j*10+0=j*10 by omega];rw [List.getElem?_set_self (Nat.lt_of_lt_of_eq (show _<es.length*10 by omega) (by simp [hl]))];rfl
  ·rw [List.getElem?_set_ne (by omega)];rw [List.getElem?_set_ne (by omega)];rw [List.getElem?_set_ne (by omega)];rw [List.getElem?_set_ne (by omega)];rw [List.getElem?_set_ne (by omega)];rw [List.getElem?_set_ne (by omega)];rw [List.getElem?_set_ne (by omega)];rw [List.getElem?_set_ne (by omega)];rw [show j*10+1=j*10+1 by omega];rw [List.getElem?_set_self (Nat.lt_of_lt_of_eq (show _<es.length*10 by omega) (by simp [hl]))];rfl
  ·rw [List.getElem?_set_ne (by omega)];rw [List.getElem?_set_ne (by omega)];rw [List.getElem?_set_ne (by omega)];rw [List.getElem?_set_ne (by omega)];rw [List.getElem?_set_ne (by omega)];rw [List.getElem?_set_ne (by omega)];rw [List.getElem?_set_ne (by omega)];rw [show j*10+2=j*10+2 by omega];rw [List.getElem?_set_self (Nat.lt_of_lt_of_eq (show _<es.length*10 by omega) (by simp [hl]))];rfl
  ·rw [List.getElem?_set_ne (by omega)];rw [List.getElem?_set_ne (by omega)];rw [List.getElem?_set_ne (by omega)];rw [List.getElem?_set_ne (by omega)];rw [List.getElem?_set_ne (by omega)];rw [List.getElem?_set_ne (by omega)];rw [show j*10+3=j*10+3 by omega];rw [List.getElem?_set_self (Nat.lt_of_lt_of_eq (show _<es.length*10 by omega) (by simp [hl]))];rfl
  ·rw [List.getElem?_set_ne (by omega)];rw [List.getElem?_set_ne (by omega)];rw [List.getElem?_set_ne (by omega)];rw [List.getElem?_set_ne (by omega)];rw [List.getElem?_set_ne (by omega)];rw [show j*10+4=j*10+4 by omega];rw [List.getElem?_set_self (Nat.lt_of_lt_of_eq (show _<es.length*10 by omega) (by simp [hl]))];rfl
  ·rw [List.getElem?_set_ne (by omega)];rw [List.getElem?_set_ne (by omega)];rw [List.getElem?_set_ne (by omega)];rw [List.getElem?_set_ne (by omega)];rw [show j*10+5=j*10+5 by omega];rw [List.getElem?_set_self (Nat.lt_of_lt_of_eq (show _<es.length*10 by omega) (by simp [hl]))];rfl
  ·rw [List.getElem?_set_ne (by omega)];rw [List.getElem?_set_ne (by omega)];rw [List.getElem?_set_ne (by omega)];rw [show j*10+6=j*10+6 by omega];rw [List.getElem?_set_self (Nat.lt_of_lt_of_eq (show _<es.length*10 by omega) (by simp [hl]))];rfl
  ·rw [List.getElem?_set_ne (by omega)];rw [List.getElem?_set_ne (by omega)];rw [show j*10+7=j*10+7 by omega];rw [List.getElem?_set_self (Nat.lt_of_lt_of_eq (show _<es.length*10 by omega) (by simp [hl]))];rfl
  ·rw [List.getElem?_set_ne (by omega)];rw [show j*10+8=j*10+8 by omega];rw [List.getElem?_set_self (Nat.lt_of_lt_of_eq (show _<es.length*10 by omega) (by simp [hl]))];rfl
  ·rw [show j*10+9=j*10+9 by omega];rw [List.getElem?_set_self (Nat.lt_of_lt_of_eq (show _<es.length*10 by omega) (by simp [hl]))];rfl
 ·rw [show (iO (es.set j (none,none)))[p]?=(iO es)[p]? by rw [iQ,iQ,List.getElem?_set_ne (by omega)]]
  rw [List.getElem?_set_ne (by omega)]
  rw [List.getElem?_set_ne (by omega)]
  rw [List.getElem?_set_ne (by omega)]
  rw [List.getElem?_set_ne (by omega)]
  rw [List.getElem?_set_ne (by omega)]
  rw [List.getElem?_set_ne (by omega)]
  rw [List.getElem?_set_ne (by omega)]
  rw [List.getElem?_set_ne (by omega)]
  rw [List.getElem?_set_ne (by omega)]
  rw [List.getElem?_set_ne (by omega)]
theorem JU.IY {h:Hp} {L:SM} (a:JU base S h L w) {o:Ob} (ho:h.ob n=some { o with es:=es }) (hv:L.es n=.slice (some ⟨g,0,none⟩) es.length cap) (hj:es[j]?=some e):
 JU base S (h.ents n (es.set j (e.1,none))) L (((((w.setCell ⟨g,j*10+5,none⟩ (.int .i64 0)).setCell ⟨g,j*10+5+1,none⟩ (.int .i64 0)).setCell ⟨g,j*10+5+2,none⟩ (.int .u64 0)).setCell ⟨g,j*10+5+3,none⟩ (.string { data:=#[] })).setCell ⟨g,j*10+5+4,none⟩ (.int .i64 0))/\Keeps w (((((w.setCell ⟨g,j*10+5,none⟩ (.int .i64 0)).setCell ⟨g,j*10+5+1,none⟩ (.int .i64 0)).setCell ⟨g,j*10+5+2,none⟩ (.int .u64 0)).setCell ⟨g,j*10+5+3,none⟩ (.string { data:=#[] })).setCell ⟨g,j*10+5+4,none⟩ (.int .i64 0)) S:=by
 have hjl:=(List.getElem?_eq_some_iff.1 hj).1
 have he:=a.en n _ ho
 simp only at he
 rw [hv] at he
 have h1:=(aH (aH (aH (aH (aH he (show j*10+5<es.length*10 by omega) (.int .i64 0)) (show j*10+5+1<es.length*10 by omega) (.int .i64 0)) (show j*10+5+2<es.length*10 by omega) (.int .u64 0)) (show j*10+5+3<es.length*10 by omega) (.string { data:=#[] })) (show j*10+5+4<es.length*10 by omega) (.int .i64 0))
 rw [wT hj] at h1
 refine a.IE ho (Keeps.mono (S:=fun b=>b=g) (Keeps.setCell (S:=fun b=>b=g) (Keeps.setCell (S:=fun b=>b=g) (Keeps.setCell (S:=fun b=>b=g) (Keeps.setCell (S:=fun b=>b=g) (Keeps.setCell (S:=fun b=>b=g) (Keeps.refl w (fun b=>b=g)) rfl (.int .i64 0)) rfl (.int .i64 0)) rfl (.int .u64 0)) rfl (.string { data:=#[] })) rfl (.int .i64 0)) (fun b e=>?_)) ?_
 ·rw [hv,e];simp [Value.ownBlock]
 ·rw [hv,List.length_set];exact h1
theorem JU.Ip {h:Hp} {L:SM} (a:JU base S h L w) {o:Ob} (ho:h.ob n=some { o with es:=es }) (hv:L.es n=.slice (some ⟨g,0,none⟩) es.length cap) (hj:es[j]?=some e):
 JU base S (h.ents n (es.set j (none,none))) L ((((((((((w.setCell ⟨g,j*10,none⟩ (.int .i64 0)).setCell ⟨g,j*10+1,none⟩ (.int .i64 0)).setCell ⟨g,j*10+2,none⟩ (.int .u64 0)).setCell ⟨g,j*10+3,none⟩ (.string { data:=#[] })).setCell ⟨g,j*10+4,none⟩ (.int .i64 0)).setCell ⟨g,j*10+5,none⟩ (.int .i64 0)).setCell ⟨g,j*10+6,none⟩ (.int .i64 0)).setCell ⟨g,j*10+7,none⟩ (.int .u64 0)).setCell ⟨g,j*10+8,none⟩ (.string { data:=#[] })).setCell ⟨g,j*10+9,none⟩ (.int .i64 0))/\Keeps w ((((((((((w.setCell ⟨g,j*10,none⟩ (.int .i64 0)).setCell ⟨g,j*10+1,none⟩ (.int .i64 0)).setCell ⟨g,j*10+2,none⟩ (.int .u64 0)).setCell ⟨g,j*10+3,none⟩ (.string { data:=#[] })).setCell ⟨g,j*10+4,none⟩ (.int .i64 0)).setCell ⟨g,j*10+5,none⟩ (.int .i64 0)).setCell ⟨g,j*10+6,none⟩ (.int .i64 0)).setCell ⟨g,j*10+7,none⟩ (.int .u64 0)).setCell ⟨g,j*10+8,none⟩ (.string { data:=#[] })).setCell ⟨g,j*10+9,none⟩ (.int .i64 0)) S:=by
 have hjl:=(List.getElem?_eq_some_iff.1 hj).1
 have he:=a.en n _ ho
 simp only at he
 rw [hv] at he
 have h1:=(aH (aH (aH (aH (aH (aH (aH (aH (aH (aH he (show j*10<es.length*10 by omega) (.int .i64 0)) (show j*10+1<es.length*10 by omega) (.int .i64 0)) (show j*10+2<es.length*10 by omega) (.int .u64 0)) (show j*10+3<es.length*10 by omega) (.string { data:=#[] })) (show j*10+4<es.length*10 by omega) (.int .i64 0)) (show j*10+5<es.length*10 by omega) (.int .i64 0)) (show j*10+6<es.length*10 by omega) (.int .i64 0)) (show j*10+7<es.length*10 by omega) (.int .u64 0)) (show j*10+8<es.length*10 by omega) (.string { data:=#[] })) (show j*10+9<es.length*10 by omega) (.int .i64 0))
 rw [vo hj] at h1
 refine a.IE ho (Keeps.mono (S:=fun b=>b=g) (Keeps.setCell (S:=fun b=>b=g) (Keeps.setCell (S:=fun b=>b=g) (Keeps.setCell (S:=fun b=>b=g) (Keeps.setCell (S:=fun b=>b=g) (Keeps.setCell (S:=fun b=>b=g) (Keeps.setCell (S:=fun b=>b=g) (Keeps.setCell (S:=fun b=>b=g) (Keeps.setCell (S:=fun b=>b=g) (Keeps.setCell (S:=fun b=>b=g) (Keeps.setCell (S:=fun b=>b=g) (Keeps.refl w (fun b=>b=g)) rfl (.int .i64 0)) rfl (.int .i64 0)) rfl (.int .u64 0)) rfl (.string { data:=#[] })) rfl (.int .i64 0)) rfl (.int .i64 0)) rfl (.int .i64 0)) rfl (.int .u64 0)) rfl (.string { data:=#[] })) rfl (.int .i64 0)) (fun b e=>?_)) ?_
 ·rw [hv,e];simp [Value.ownBlock]
 ·rw [hv,List.length_set];exact h1
end
section
variable {S:Nat->Prop} {base n:Nat} {h:Hp} {o:Ob} {w:World}
theorem iB (c:Hp->En->En) {q:Hp} (ho:q.ob n=some o):Hp.J3 c q n=q.ents n (o.es.map (c q)):=by
 have hx:=Hp.E_ ho
 unfold Hp.J3 Hp.ents Hp.upd
 congr 1
 refine List.ext_getElem? (fun i=>?_)
 simp only [List.getElem?_modify]
 by_cases e:n=i
 ·subst e
  rw [hx]
  simp
 ·simp [e]
theorem iX {L:SM} (a:JU base S h L w) (k:Wk h):
 Calls Tryz.prog 94 #[.pointer (some ⟨L.H,0,none⟩)] w fun e w'=>e=.returned (.tuple #[])/\JU base S (h.weak.foldl Hp.Jk h) L w'/\Keeps w w' S:=by
 obtain ⟨A,cap,hv,hcap,-⟩:=a.EM (k:=9) (by simp [cB])
 have c9:w.cell? ⟨L.H,9,none⟩=some (.slice A h.weak.length cap):=by
  have:=a.hp.cell (j:=9) (by omega)
  rw [this]
  exact congrArg some hv
 have hwl:h.weak.length<=20000:=by
  have:=k.s.nu
  simp only [Hp.nu] at this
  omega
 have HA:=ah a
 have HK:=ah k
 have HV:=ah hv
 clear a k hv
 go_enter Tryz.func94,Tryz.ntmps94
 go_wp2
 go_loopw [12] (fun iv wr=>∃ i:Nat,i<=h.weak.length/\iv=.int .i64 i/\Hq (JU base S ((h.weak.take i).foldl Hp.Jk h) L wr/\Keeps w wr S)) (fun iv _=>h.weak.length-aU iv)
 case atStart=>exact ⟨0,by omega,rfl,HA.o,Keeps.refl _ _⟩
 case round=>
  obtain ⟨i,hi9,rfl,HI⟩:=hrel
  by_cases hin:i<h.weak.length
  ·have hts:h.weak.take (i+1)=h.weak.take i++[h.weak[i]]:=aO (List.getElem?_eq_getElem hin)
   have hcn:=J2.fold bq bI (h.weak.take i) h
   have HF:Hq ((h.weak.take (i+1)).foldl Hp.Jk h=Hp.Jk ((h.weak.take i).foldl Hp.Jk h) h.weak[i]):=ah (by rw [hts,aN])
   have hlv:=HK.o.l _ (.inr (.inr (.inl (List.getElem_mem hin))))
   have hcn':J2 h ((h.weak.take i).foldl Hp.Jk h):=hcn
   obtain ⟨q,hq⟩:∃ q,(h.weak.take i).foldl Hp.Jk h=q:=⟨_,rfl⟩
   rw [hq] at hcn' HF HI
   clear hcn hts
   obtain ⟨A1,cap1,hv1,-,hget1⟩:=HI.out.1.EM (k:=9) (by simp [cB])
   have hw1:eX q 9=h.weak:=hcn'.weak
   rw [hw1] at hv1
   have:A1=A/\cap1=cap:=by
    have h9:=hv1.symm.trans HV.out
    simp only [Value.slice.injEq] at h9
    exact ⟨h9.1,h9.2.2⟩
   obtain ⟨rfl,rfl⟩:=this
   obtain ⟨g,rfl,hgc⟩:=hget1 i (by rw [hw1];exact hin)
   have hgc':wr.cell? ⟨g,i,none⟩=some (.int .i64 ((h.weak[i]:Nat):Int)):=by
    rw [hgc]
    congr 3
    simp only [hw1]
   generalize h.weak[i]=n at *
   obtain ⟨o,ho⟩:=(hcn'.lv n).2 hlv
   have hnl:=Hp.Es ho
   have hzq:q.ob 0=none:=by
    rcases hcn'.ob 0 with ⟨x,_⟩|⟨_,_,_,x,_⟩
    ·exact x
    ·rw [HK.o.z] at x;cases x
   have hcl:q.Closed:=by
    intro m o' e en he r hr
    rcases hcn'.ob m with ⟨x,_⟩|⟨o1,o2,x1,x2,_,_,_,c,x3,x4⟩
    ·rw [e] at x;cases x
    ·rw [e] at x1;cases x1
     rw [x4] at he
     obtain ⟨e0,he0,rfl⟩:=List.mem_map.1 he
     exact (hcn'.lv r).2 (HK.o.c m o1 x2 e0 he0 r ((x3 e0).refs r hr))
   have hl9:q.objs.length<=5001:=by rw [hcn'.len];exact HK.o.s.len
   have hp9:1<=q.objs.length:=by rw [hcn'.len];exact HK.o.p
   have he9:o.es.length<=5000:=by
    rcases hcn'.ob n with ⟨x,_⟩|⟨o1,o2,x1,x2,_,_,_,c,x3,x4⟩
    ·rw [ho] at x;cases x
    ·rw [ho] at x1;cases x1
     rw [x4,List.length_map]
     exact HK.o.s.es n o1 x2
   obtain ⟨go,capo,hoS,hcapo,hcell⟩:=HI.out.1.slot hp9
   have hcn9:=hcell n hnl
   have c0:wr.cell? ⟨L.H,0,none⟩=some (.slice (some ⟨go,0,none⟩) q.objs.length capo):=by
    have:=HI.out.1.hp.cell (j:=0) (by omega)
    rw [this]
    exact congrArg some hoS
   obtain ⟨E,cape,hev,hcape,-⟩:=HI.out.1.ents ho
   obtain ⟨r0,hr0⟩:=HI.out.1.ob n o ho
   have c5:wr.cell? ⟨L.ob n,5,none⟩=some (.slice E o.es.length cape):=by rw [<-hev];exact hr0.cell (j:=5) (by omega)
   have HQ:=ah hcn'
   have HO:=ah ho
   have HRG:=ah (uo.of hzq hcl ho)
   have HEV:=ah hev
   have hni:(n:Int)<(q.objs.length:Int):=by omega
   clear hcn' ho hcl hzq hlv hcell hr0 hev hw1 hv1 hget1 hgc hq hoS
   go_wp2
   go_loopw [28,6,5] (fun jv e6 e5 ws=>∃ j:Nat,j<=o.es.length/\jv=.int .i64 j/\Hq (JU base S (q.ents n (aL (bq q) j o.es)) L ws/\Keeps w ws S)) (fun jv _ _ _=>o.es.length-aU jv)
   case atStart=>
    refine ⟨0,by omega,rfl,?_,HI.out.2⟩
    rw [dV]
    rw [Hp.EA HO.o]
    exact HI.out.1
   case round=>
    obtain ⟨j,hj9,rfl,HJ⟩:=hrel
    by_cases hjn:j<o.es.length
    ·obtain ⟨e,he⟩:∃ e,o.es[j]?=some e:=⟨_,List.getElem?_eq_getElem hjn⟩
     have hoq:=Hp.Eu HO.o (aL (bq q) j o.es)
     obtain ⟨A2,cap2,hev2,hcap2,hent2⟩:=HJ.o.1.ents hoq
     simp only [bF] at hev2 hcap2
     have:A2=E/\cap2=cape:=by
      have h9:=hev2.symm.trans HEV.o
      simp only [Value.slice.injEq] at h9
      exact ⟨h9.1,h9.2.2⟩
     obtain ⟨rfl,rfl⟩:=this
     obtain ⟨g2,rfl,hg2,hcells⟩:=hent2 j e (bN _ he)
     have d0:=hcells 0 _ rfl
     have d1:=hcells 1 _ rfl
     have d2:=hcells 2 _ rfl
     have d3:=hcells 3 _ rfl
     have d4:=hcells 4 _ rfl
     have d5:=hcells 5 _ rfl
     have d6:=hcells 6 _ rfl
     have d7:=hcells 7 _ rfl
     have d8:=hcells 8 _ rfl
     have d9:=hcells 9 _ rfl
     simp only [Nat.add_zero] at d0
     have hrk:=HRG.o e (List.mem_of_getElem? he)
     have HAT:=ah (HJ.o.1.alloc (.cells #[.int .i64 (vk e.1),.int .i64 (vi e.1),.int .u64 0,.string ByteArray.empty,.int .i64 (vr e.1),.int .i64 (vk e.2),.int .i64 (vi e.2),.int .u64 0,.string ByteArray.empty,.int .i64 (vr e.2)] 122))
     have HKP:=ah (HJ.o.2.trans (Keeps.of (aJ wr (.cells #[.int .i64 (vk e.1),.int .i64 (vi e.1),.int .u64 0,.string ByteArray.empty,.int .i64 (vr e.1),.int .i64 (vk e.2),.int .i64 (vi e.2),.int .u64 0,.string ByteArray.empty,.int .i64 (vr e.2)] 122)) (Nat.le_refl _) S))
     have HRK:=ah (show Rg (q.ents n (aL (bq q) j o.es)) e.1/\Rg (q.ents n (aL (bq q) j o.es)) e.2 from ⟨hrk.1.mono (q.Ep n _),hrk.2.mono (q.Ep n _)⟩)
     have HX:=ah (jR wr e)
     have HEE:=ah he
     clear hoq hev2 hent2 hcells hrk he
     go_upto_region 7 with (fail)
     generalize wr.alloc (.cells #[.int .i64 (vk e.1),.int .i64 (vi e.1),.int .u64 0,.string ByteArray.empty,.int .i64 (vr e.1),.int .i64 (vk e.2),.int .i64 (vi e.2),.int .u64 0,.string ByteArray.empty,.int .i64 (vr e.2)] 122)=w3 at *
     generalize wr.heap.size=X at *
     have hlt3:=HX.o.lt
     have x5:w3.cell? ⟨X,5,none⟩=some (.int .i64 (vk e.2)):=HX.o.cell (j:=5) (by omega)
     have x6:w3.cell? ⟨X,6,none⟩=some (.int .i64 (vi e.2)):=HX.o.cell (j:=6) (by omega)
     have x7:w3.cell? ⟨X,7,none⟩=some (.int .u64 0):=HX.o.cell (j:=7) (by omega)
     have x8:w3.cell? ⟨X,8,none⟩=some (.string ByteArray.empty):=HX.o.cell (j:=8) (by omega)
     have x9:w3.cell? ⟨X,9,none⟩=some (.int .i64 (vr e.2)):=HX.o.cell (j:=9) (by omega)
     clear d0 d1 d2 d3 d4 d5 d6 d7 d8 d9
     have HWV:=ah (dO HAT.o e.2 HRK.o.2 (by rw [Hp.Ep];exact hl9) (by rw [Hp.Ep];exact hp9))
     rw [Hp.E5] at HWV
     go_wp2_with fail
     refine HWV.o.mono ?_
     rintro e9 w4 ⟨rfl,hb4⟩
     have HB4:=ah hb4
     clear hb4 HWV
     cases hb:q.JG e.2 with
     |false=>
      have HF2:=ah (dK (bq q) HEE.o (by unfold bq;rw [hb];rfl))
      clear hb
      go_wp2
      go_roundw
      case rel=>
       refine ⟨j+1,by omega,by simp,?_⟩
       exact ⟨by rw [HF2.o];exact HAT.o.low HB4.o,HKP.o.trans (Keeps.of HB4.o (Nat.le_refl _) S)⟩
      case measure=>simp [aU];omega
     |true=>
      have HF2:=ah (dJ (bq q) HEE.o)
      have HCV:Hq (bq q e=(e.1,none)):=ah (by unfold bq;rw [hb];rfl)
      clear hb
      have HA4:=ah (HAT.o.low HB4.o)
      obtain ⟨r4,hr4⟩:=HA4.o.ob n _ (Hp.Eu HO.o (aL (bq q) j o.es))
      have f5:w4.cell? ⟨L.ob n,5,none⟩=some (.slice (some ⟨g2,0,none⟩) o.es.length cap2):=by rw [<-HEV.o];exact hr4.cell (j:=5) (by omega)
      have hrow:=au (HA4.o.en n _ (Hp.Eu HO.o (aL (bq q) j o.es))) (g:=g2) (by rw [HEV.o];simp [Value.ownBlock])
      have hcap3:(o.es.length:Int)<=cap2:=by omega
      have hji:(j:Int)<(o.es.length:Int):=by omega
      have hm2:(aL (bq q) j o.es).length=o.es.length:=bF _ _ _
      have zf:=hrow.Jv (j*10+5)
      have zg:=hrow.Jv (j*10+6)
      have zh:=hrow.Jv (j*10+7)
      have zi:=hrow.Jv (j*10+8)
      have zj:=hrow.Jv (j*10+9)
      have g5:=hrow.cell (j:=j*10+5) (by simp only [hm2];omega)
      have g6:=hrow.cell (j:=j*10+6) (by simp only [hm2];omega)
      have g7:=hrow.cell (j:=j*10+7) (by simp only [hm2];omega)
      have g8:=hrow.cell (j:=j*10+8) (by simp only [hm2];omega)
      have g9:=hrow.cell (j:=j*10+9) (by simp only [hm2];omega)
      clear hr4 hrow hm2
      have HC5:=ah (HA4.o.IY (Hp.Eu HO.o (aL (bq q) j o.es)) (by rw [bF];exact HEV.o) (bN (bq q) HEE.o))
      rw [Hp.EI] at HC5
      go_upto_region 9 with (fail)
      generalize (((((w4.setCell ⟨g2,j*10+5,none⟩ (.int .i64 0)).setCell ⟨g2,j*10+5+1,none⟩ (.int .i64 0)).setCell ⟨g2,j*10+5+2,none⟩ (.int .u64 0)).setCell ⟨g2,j*10+5+3,none⟩ (.string { data:=#[] })).setCell ⟨g2,j*10+5+4,none⟩ (.int .i64 0))=w5 at *
      clear g5 g6 g7 g8 g9 zf zg zh zi zj f5
      go_wp2
      go_roundw
      case rel=>
       refine ⟨j+1,by omega,by simp,?_⟩
       exact ⟨by rw [HF2.o,HCV.o];exact HC5.o.1,(HKP.o.trans (Keeps.of HB4.o (Nat.le_refl _) S)).trans HC5.o.2⟩
      case measure=>simp [aU];omega
    ·obtain rfl:j=o.es.length:=by omega
     have HT:=HJ.o
     rw [fu] at HT
     have HT2:=ah HT
     clear HT HJ
     go_wp2
     go_roundw
     case rel=>
      refine ⟨i+1,by omega,by simp,?_⟩
      refine ⟨?_,HT2.o.2⟩
      rw [HF.o]
      have:q.Jk n=q.ents n (o.es.map (bq q)):=iB bq HO.o
      rw [this]
      exact HT2.o.1
     case measure=>simp [aU];omega
  ·obtain rfl:i=h.weak.length:=by omega
   have HT:=HI.out
   rw [List.take_length] at HT
   have HT2:=ah HT
   clear HT HI
   go_wp2
   go_end0
   exact ⟨rfl,HT2.o⟩
end
end Go.Proofs.YtedpifhlffcmkaaGreatDoor
