import Derived.Test.YtedpifhlffcmkaaGreatDoorKHSP2
namespace Go.Proofs.YtedpifhlffcmkaaGreatDoor
open Go Go.RowKit
set_option linter.unusedVariables false
section
variable {S:Nat->Prop} {base n:Nat} {es':List En} {h:Hp} {o:Ob} {v':Value} {w w1:World}
def SM.Ju (L:SM) (n:Nat) (v:Value):SM:={ L with es:=fun m=>if m=n then v else L.es m }
theorem JU.IL {L:SM} (a:JU base S h L w) (ho:h.ob n=some o) (kk:Keeps w w1 (fun b=>(L.es n).ownBlock=some b))
 (hown:w1.ownsRow base 122 10 v' es'.length (iO es')) (hv:∀ g,v'.ownBlock=some g->(L.es n).ownBlock=some g∨w.heap.size<=g):
 JU base S (h.ents n es') (L.Ju n v') (w1.setCell ⟨L.ob n,5,none⟩ v')/\Keeps w (w1.setCell ⟨L.ob n,5,none⟩ v') S:=by
 have k1:Keeps w1 (w1.setCell ⟨L.ob n,5,none⟩ v') (fun b=>b=L.ob n):=Keeps.setCell (S:=fun b=>b=L.ob n) (Keeps.refl w1 _) rfl v'
 have k2:Keeps w (w1.setCell ⟨L.ob n,5,none⟩ v') (fun b=>(L.es n).ownBlock=some b∨b=L.ob n):=(kk.mono (fun b e=>Or.inl e)).trans (k1.mono (fun b e=>Or.inr e))
 have hl:(h.ents n es').objs.length=h.objs.length:=h.El n _
 have hn:=Hp.Es ho
 have he:=a.en n o ho
 obtain ⟨r0,hr0⟩:=a.ob n o ho
 have hr1:=hr0.keep kk (fun e=>ak he hr0 (by decide) e)
 have hH:∀ {T s n':Nat} {v:Value} {xs:List Value},w.ownsRow base T s v n' xs->T≠122->T≠101->∀ g,v.ownBlock=some g->¬ ((L.es n).ownBlock=some g∨g=L.ob n):=by
  intro T s n' v xs h1 h2 h3 g h4 h5
  rcases h5 with h5|h5
  ·exact aV h1 he h2 h5 h4
  ·exact ak h1 hr0 h3 (h5 ▸ h4)
 have hR:∀ {g N:Nat} {f:Nat->Value},aD w 101 g N f->g≠L.ob n->¬ ((L.es n).ownBlock=some g∨g=L.ob n):=by
  intro g N f h1 h2 h3
  rcases h3 with h3|h3
  ·exact ak he h1 (by decide) h3
  ·exact h2 h3
 have get:∀ m o',(h.ents n es').ob m=some o'->∃ o2,h.ob m=some o2/\o'.col=o2.col/\o'.mode=o2.mode/\o'.fin=o2.fin/\(m=n->o'.es=es')/\(m≠n->o'.es=o2.es):=by
  intro m o' e
  unfold Hp.ents at e
  rw [Hp.Ed] at e
  split at e
  ·rename_i c
   subst c
   rw [ho] at e
   simp at e
   subst e
   exact ⟨o,ho,rfl,rfl,rfl,fun _=>rfl,fun c=>absurd rfl c⟩
  ·rename_i c
   exact ⟨o',e,rfl,rfl,rfl,fun d=>absurd d.symm c,fun _=>rfl⟩
 refine ⟨⟨a.hp.keep k2 ?_,?_,fun m o' e=>?_,fun m hm e=>?_,fun m o' e=>?_,fun j hj=>aj (a.li j hj) k2 (hH (a.li j hj) (by decide) (by decide)),aj a.ro k2 (hH a.ro (by decide) (by decide)),?_,?_,a.lj,a.bH,?_,Nat.le_trans a.bs k2.size,a.sH,?_,a.sO,?_,a.sl,a.sr,fun b hb=>a.up b (Nat.le_trans k2.size hb)⟩,k2.mono (fun b e=>?_)⟩
 ·rintro (e|e)
  ·exact ak he a.hp (by decide) e
  ·exact a.hp.apart hr0 (by decide) e
 ·rw [hl];exact aj a.oo k2 (hH a.oo (by decide) (by decide))
 ·obtain ⟨o2,e2,h3,h4,h5,_⟩:=get m o' e
  by_cases c:m=n
  ·subst c
   rw [ho] at e2
   cases e2
   refine ⟨r0,?_⟩
   rw [h3,h4,h5]
   refine (hr1.set (j:=5) (by omega) v').congr (fun i _=>?_)
   simp only [SM.Ju,if_pos]
   by_cases c5:i=5
   ·subst c5;rfl
   ·rw [if_neg c5];simp only [jw,if_neg c5]
  ·obtain ⟨r,hr⟩:=a.ob m o2 e2
   refine ⟨r,?_⟩
   rw [h3,h4,h5]
   have:=hr.keep k2 (hR hr (fun x=>c (a.ij m n (Hp.Es e2) hn x)))
   simpa only [SM.Ju,if_neg c] using this
 ·rw [hl] at hm
  unfold Hp.ents at e
  rw [Hp.Ed] at e
  have e2:h.ob m=none/\m≠n:=by
   split at e
   ·rename_i c
    subst c
    rw [ho] at e
    simp at e
   ·rename_i c;exact ⟨e,fun d=>c d.symm⟩
  obtain ⟨r,c,hcw,hr⟩:=a.dd m hm e2.1
  exact ⟨r,c,hcw,hr.keep k2 (hR hr (fun x=>e2.2 (a.ij m n hm hn x)))⟩
 ·obtain ⟨o2,e2,_,_,_,h6,h7⟩:=get m o' e
  by_cases c:m=n
  ·rw [h6 c]
   simp only [SM.Ju,if_pos c]
   exact aj hown k1 (fun g hg x=>ak hown hr1 (by decide) (x ▸ hg))
  ·rw [h7 c]
   simp only [SM.Ju,if_neg c]
   refine aj (a.en m o2 e2) k2 (fun g hg hg'=>?_)
   rcases hg' with hg'|hg'
   ·exact c (a.ei m n o2 o g e2 ho hg hg')
   ·exact ak (a.en m o2 e2) hr0 (by decide) (hg' ▸ hg)
 ·rw [hl];exact a.ij
 ·intro m m' o1 o2 g e1 e2 g1 g2
  obtain ⟨p1,q1,_⟩:=get m o1 e1
  obtain ⟨p2,q2,_⟩:=get m' o2 e2
  have cross:∀ m p,h.ob m=some p->m≠n->(L.es m).ownBlock=some g->v'.ownBlock=some g->False:=by
   intro m p q c e3 e4
   rcases hv g e4 with e5|e5
   ·exact c (a.ei m n p o g q ho e3 e5)
   ·have:=(au (a.en m p q) e3).lt
    omega
  simp only [SM.Ju] at g1 g2
  by_cases c1:m=n
  ·by_cases c2:m'=n
   ·rw [c1,c2]
   ·rw [if_pos c1] at g1
    rw [if_neg c2] at g2
    exact (cross m' p2 q2 c2 g2 g1).elim
  ·by_cases c2:m'=n
   ·rw [if_neg c1] at g1
    rw [if_pos c2] at g2
    exact (cross m p1 q1 c1 g1 g2).elim
   ·rw [if_neg c1] at g1
    rw [if_neg c2] at g2
    exact a.ei m m' p1 p2 g q1 q2 g1 g2
 ·rw [hl];exact a.bo
 ·rw [hl];exact a.so
 ·intro m o' g e g1
  obtain ⟨p1,q1,_⟩:=get m o' e
  simp only [SM.Ju] at g1
  by_cases c1:m=n
  ·rw [if_pos c1] at g1
   rcases hv g g1 with e5|e5
   ·exact a.se n o g ho e5
   ·exact a.up g e5
  ·rw [if_neg c1] at g1
   exact a.se m p1 g q1 g1
 ·rcases e with e|e
  ·exact a.se n o b ho e
  ·exact e ▸ a.so n hn
end
set_option maxHeartbeats 6400000
set_option maxRecDepth 100000
section
variable {S:Nat->Prop} {base j n:Nat} {e:En} {es:List En} {h:Hp} {o:Ob} {w:World}
theorem dP (es:List En):aK es<=es.length:=by unfold aK;exact List.length_filter_le _ _
theorem rW (he:es[j]?=some e):aK (es.take (j+1))=aK (es.take j)+(if e.2.isNone then 1 else 0):=by
 unfold aK
 rw [List.take_add_one,he,List.filter_append,List.length_append]
 cases h9:e.2.isNone<;>simp [List.filter,h9]
theorem vE (he:es[j]?=some e):((es.take (j+1)).filter fun e=>e.2.isSome)=((es.take j).filter fun e=>e.2.isSome)++(if e.2.isSome then [e] else []):=by
 rw [List.take_add_one,he,List.filter_append]
 cases h9:e.2.isSome<;>simp [List.filter,h9]
theorem uQ (es:List En):aK es+(es.filter fun e=>e.2.isSome).length=es.length:=by
 unfold aK
 induction es with
 |nil=>rfl
 |cons e es ih=>cases h:e.2<;>simp [List.filter,h]<;>omega
theorem t_ (e:En):∀ u∈gD e,u.oneCell'=true:=by
 intro u hu
 simp only [gD,uL,List.cons_append,List.nil_append,List.mem_cons,List.not_mem_nil,or_false] at hu
 rcases hu with rfl|rfl|rfl|rfl|rfl|rfl|rfl|rfl|rfl|rfl<;>rfl
theorem qb:(Tryz.prog.info? 122).map (fun i=>(i.zero,i.size,i.bytes))=some (some (.agg #[.int .i64 0,.int .i64 0,.int .u64 0,.string ByteArray.empty,.int .i64 0,.int .i64 0,.int .i64 0,.int .u64 0,.string ByteArray.empty,.int .i64 0]),10,96):=by kernel_rfl
theorem mP {L:SM} (ht:aI o.es=o.es) (ho:h.ob n=some o) (a:JU base S h L w):JU base S { h.ents n (aI o.es) with bytes:=h.bytes-40*(o.es.length-(aI o.es).length) } L w:=by
 rw [ht,Hp.EA ho,show h.bytes-40*(o.es.length-o.es.length)=h.bytes by omega]
 exact a
theorem xX {L:SM} (a:JU base S h L w) (ho:h.ob n=some o) (he9:o.es.length<=5000) (hby:40*o.es.length<=h.bytes) (hby2:h.bytes<=1000000000000):
 Calls Tryz.prog 61 #[.pointer (some ⟨L.H,0,none⟩),.pointer (some ⟨L.ob n,0,none⟩)] w fun e w'=>e=.returned (.tuple #[])/\Keeps w w' S/\∃ L',L'.H=L.H/\L'.ob=L.ob/\JU base S { h.ents n (aI o.es) with bytes:=h.bytes-40*(o.es.length-(aI o.es).length) } L' w':=by
 obtain ⟨A,cap,hev,hcap,-⟩:=a.ents ho
 obtain ⟨r0,hr0⟩:=a.ob n o ho
 have c5:w.cell? ⟨L.ob n,5,none⟩=some (.slice A o.es.length cap):=by rw [<-hev];exact hr0.cell (j:=5) (by omega)
 have hO:=hr0.lt
 have HA:=ah a
 have HO:=ah ho
 have HEV:=ah hev
 clear a ho hev hr0
 go_enter Tryz.func61,Tryz.ntmps61
 go_wp2
 go_loopw [15,4,6] (fun jv ev _ ws=>∃ j:Nat,j<=o.es.length/\jv=.int .i64 j/\ev=.int .i64 (aK (o.es.take j):Nat)/\Hq (Below w.heap.size w ws)) (fun jv _ _ _=>o.es.length-aU jv)
 case atStart=>exact ⟨0,by omega,rfl,by simp [aK],Below.refl _ _⟩
 case round=>
  obtain ⟨j,hj9,rfl,rfl,HJ⟩:=hrel
  have HAR:=ah (HA.o.low HJ.o)
  clear c5
  by_cases hjn:j<o.es.length
  ·obtain ⟨e,he⟩:∃ e,o.es[j]?=some e:=⟨_,List.getElem?_eq_getElem hjn⟩
   obtain ⟨A3,cap3,hev2,hcap2,hent2⟩:=HAR.o.ents HO.o
   have:A3=A/\cap3=cap:=by
    have h9:=hev2.symm.trans HEV.o
    simp only [Value.slice.injEq] at h9
    exact ⟨h9.1,h9.2.2⟩
   obtain ⟨rfl,rfl⟩:=this
   obtain ⟨g2,rfl,hg2,hcells⟩:=hent2 j e he
   have d0:=hcells 0 _ rfl
   have d1:=hcells 1 _ rfl
   have d2:=hcells 2 _ rfl
   have d3:=hcells 3 _ rfl
   have d4:=hcells 4 _ rfl
   have d5:=hcells 5 _ rfl
   have d6:=hcells 6 _ rfl
   have d7:=hcells 7 _ rfl
   have d8:=hcells 8 _ rfl
   have d9:=hcells 9 _ rfl
   simp only [Nat.add_zero] at d0
   have HB5:=ah (HJ.o.trans ((aJ wr (.cells #[.int .i64 (vk e.1),.int .i64 (vi e.1),.int .u64 0,.string ByteArray.empty,.int .i64 (vr e.1),.int .i64 (vk e.2),.int .i64 (vi e.2),.int .u64 0,.string ByteArray.empty,.int .i64 (vr e.2)] 122)).mono HJ.o.size))
   have HX:=ah (jR wr e)
   have HBT:=ah (rW he)
   have hbl:=dP (o.es.take j)
   rw [List.length_take] at hbl
   clear hev2 hent2 hcells he
   go_upto_region 4 with (fail)
   generalize wr.alloc (.cells #[.int .i64 (vk e.1),.int .i64 (vi e.1),.int .u64 0,.string ByteArray.empty,.int .i64 (vr e.1),.int .i64 (vk e.2),.int .i64 (vi e.2),.int .u64 0,.string ByteArray.empty,.int .i64 (vr e.2)] 122)=w5 at *
   generalize wr.heap.size=Y at *
   have x5:w5.cell? ⟨Y,5,none⟩=some (.int .i64 (vk e.2)):=HX.o.cell (j:=5) (by omega)
   clear d0 d1 d2 d3 d4 d5 d6 d7 d8 d9 HX HAR
   cases hs:e.2.isSome with
   |true=>
    have hvk:(vk e.2==0)=false:=by
     have:=dB e.2
     rw [hs] at this
     simpa using this
    have HN:=ah (show e.2.isNone=false by cases h9:e.2 with |none=>rw [h9] at hs;cases hs|some y=>rfl)
    clear hs
    go_wp2
    go_roundw
    case rel=>exact ⟨j+1,by omega,by simp,by rw [HBT.o,HN.o];simp,HB5.o⟩
    case measure=>simp [aU];omega
   |false=>
    have hvk:(vk e.2==0)=true:=by
     have:=dB e.2
     rw [hs] at this
     simpa using this
    have HN:=ah (show e.2.isNone=true by cases h9:e.2 with |none=>rfl|some y=>rw [h9] at hs;cases hs)
    clear hs
    go_wp2
    go_roundw
    case rel=>exact ⟨j+1,by omega,by simp,by rw [HBT.o,HN.o];simp,HB5.o⟩
    case measure=>simp [aU];omega
  ·have hje:j=o.es.length:=by omega
   subst hje
   clear hjn hj9
   rw [List.take_length]
   have hbl:=dP o.es
   obtain ⟨r1,hr1⟩:=HAR.o.ob n o HO.o
   have c5:wr.cell? ⟨L.ob n,5,none⟩=some (.slice A o.es.length cap):=by rw [<-HEV.o];exact hr1.cell (j:=5) (by omega)
   clear hr1
   have HKW:=ah (Keeps.of HJ.o (Nat.le_refl _) S)
   by_cases hc:o.es.length<16∨2*aK o.es<=o.es.length
   ·have HT:=ah (show aI o.es=o.es by unfold aI;rw [if_pos hc])
    by_cases h16:o.es.length<16
    ·have h17:decide ((o.es.length:Int)<16)=true:=by simp;omega
     go_wp2
     ((try simp only [Exit.inBlock,Exit.then]);refine bodyPost_ret (results_none rfl _ _ _) rfl ?_)
     exact ⟨rfl,HKW.o,L,rfl,rfl,mP HT.o HO.o HAR.o⟩
    ·have h17:decide ((o.es.length:Int)<16)=false:=by simp;omega
     have h18:decide (2*(aK o.es:Int)<=(o.es.length:Int))=true:=by simp;omega
     go_wp2
     ((try simp only [Exit.inBlock,Exit.then]);refine bodyPost_ret (results_none rfl _ _ _) rfl ?_)
     exact ⟨rfl,HKW.o,L,rfl,rfl,mP HT.o HO.o HAR.o⟩
   ·have HT:=ah (show aI o.es=o.es.filter fun e=>e.2.isSome by unfold aI;rw [if_neg hc])
    have h17:decide ((o.es.length:Int)<16)=false:=by simp;omega
    have h18:decide (2*(aK o.es:Int)<=(o.es.length:Int))=false:=by simp;omega
    clear hc
    rename World=>w0
    have hb1:=aJ w0 (.cells #[] 122)
    have hO1:L.ob n<w0.heap.size:=Nat.lt_of_lt_of_le hO HJ.o.size
    have c6:=(hb1.cell (p:=⟨L.ob n,5,none⟩) hO1).trans c5
    have HOL:Hq (World.ownsRow (w0.alloc (.cells #[] 122)) base 122 10 (.slice (some ⟨w0.heap.size,0,none⟩) 0 0) 0 (iO [])):=ah ⟨rfl,.inr ⟨w0.heap.size,0,#[],rfl,HAR.o.bs,heap_alloc_new w0 _,by decide,by decide,rfl,rfl⟩⟩
    have HBL:=ah hb1
    clear hb1
    go_upto_region 9 with (fail)
    clear c5
    generalize w0.alloc (.cells #[] 122)=wl at *
    go_wp2
    go_loopw [48,7,9] (fun jv lv _ ws=>∃ (j:Nat) (A9:Option Addr) (c9:Nat),j<=o.es.length/\jv=.int .i64 j/\lv=.slice A9 ((o.es.take j).filter fun e=>e.2.isSome).length c9/\Hq (ws.ownsRow base 122 10 lv ((o.es.take j).filter fun e=>e.2.isSome).length (iO ((o.es.take j).filter fun e=>e.2.isSome))/\(∀ g,lv.ownBlock=some g->w0.heap.size<=g)/\Below w0.heap.size w0 ws)) (fun jv _ _ _=>o.es.length-aU jv)
    case atStart=>exact ⟨0,_,_,by omega,rfl,rfl,HOL.o,by intro g hg;simp [Value.ownBlock] at hg;omega,HBL.o⟩
    case round=>
     obtain ⟨j,A9,c9,hj9,rfl,rfl,HT2⟩:=hrel
     have HAW:=ah (HAR.o.low HT2.o.2.2)
     clear c6
     generalize hfl:((o.es.take j).filter fun e=>e.2.isSome)=fl at *
     have HFL:=ah hfl
     have hfn:fl.length<=j:=by rw [<-hfl];exact Nat.le_trans (List.length_filter_le _ _) (by rw [List.length_take];omega)
     clear hfl
     by_cases hjn:j<o.es.length
     ·obtain ⟨e,he⟩:∃ e,o.es[j]?=some e:=⟨_,List.getElem?_eq_getElem hjn⟩
      obtain ⟨A3,cap3,hev2,hcap2,hent2⟩:=HAW.o.ents HO.o
      have:A3=A/\cap3=cap:=by
       have h9:=hev2.symm.trans HEV.o
       simp only [Value.slice.injEq] at h9
       exact ⟨h9.1,h9.2.2⟩
      obtain ⟨rfl,rfl⟩:=this
      obtain ⟨g2,rfl,hg2,hcells⟩:=hent2 j e he
      have d0:=hcells 0 _ rfl
      have d1:=hcells 1 _ rfl
      have d2:=hcells 2 _ rfl
      have d3:=hcells 3 _ rfl
      have d4:=hcells 4 _ rfl
      have d5:=hcells 5 _ rfl
      have d6:=hcells 6 _ rfl
      have d7:=hcells 7 _ rfl
      have d8:=hcells 8 _ rfl
      have d9:=hcells 9 _ rfl
      simp only [Nat.add_zero] at d0
      have HB5:=ah (HT2.o.2.2.trans ((aJ wr (.cells #[.int .i64 (vk e.1),.int .i64 (vi e.1),.int .u64 0,.string ByteArray.empty,.int .i64 (vr e.1),.int .i64 (vk e.2),.int .i64 (vi e.2),.int .u64 0,.string ByteArray.empty,.int .i64 (vr e.2)] 122)).mono HT2.o.2.2.size))
      have HO5:=ah (aj HT2.o.1 (Keeps.of (aJ wr (.cells #[.int .i64 (vk e.1),.int .i64 (vi e.1),.int .u64 0,.string ByteArray.empty,.int .i64 (vr e.1),.int .i64 (vk e.2),.int .i64 (vi e.2),.int .u64 0,.string ByteArray.empty,.int .i64 (vr e.2)] 122)) (Nat.le_refl _) (fun _=>False)) (fun _ _ x=>x))
      have HX:=ah (jR wr e)
      have HFT:=ah (vE he)
      rw [HFL.o] at HFT
      have HGW:=ah HT2.o.2.1
      clear hev2 hent2 hcells he
      go_upto_region 12 with (fail)
      generalize wr.alloc (.cells #[.int .i64 (vk e.1),.int .i64 (vi e.1),.int .u64 0,.string ByteArray.empty,.int .i64 (vr e.1),.int .i64 (vk e.2),.int .i64 (vi e.2),.int .u64 0,.string ByteArray.empty,.int .i64 (vr e.2)] 122)=w5 at *
      generalize wr.heap.size=Y at *
      have x0:w5.cell? ⟨Y,0,none⟩=some (.int .i64 (vk e.1)):=HX.o.cell (j:=0) (by omega)
      have x1:w5.cell? ⟨Y,1,none⟩=some (.int .i64 (vi e.1)):=HX.o.cell (j:=1) (by omega)
      have x2:w5.cell? ⟨Y,2,none⟩=some (.int .u64 0):=HX.o.cell (j:=2) (by omega)
      have x3:w5.cell? ⟨Y,3,none⟩=some (.string ByteArray.empty):=HX.o.cell (j:=3) (by omega)
      have x4:w5.cell? ⟨Y,4,none⟩=some (.int .i64 (vr e.1)):=HX.o.cell (j:=4) (by omega)
      have x5:w5.cell? ⟨Y,5,none⟩=some (.int .i64 (vk e.2)):=HX.o.cell (j:=5) (by omega)
      have x6:w5.cell? ⟨Y,6,none⟩=some (.int .i64 (vi e.2)):=HX.o.cell (j:=6) (by omega)
      have x7:w5.cell? ⟨Y,7,none⟩=some (.int .u64 0):=HX.o.cell (j:=7) (by omega)
      have x8:w5.cell? ⟨Y,8,none⟩=some (.string ByteArray.empty):=HX.o.cell (j:=8) (by omega)
      have x9:w5.cell? ⟨Y,9,none⟩=some (.int .i64 (vr e.2)):=HX.o.cell (j:=9) (by omega)
      clear d0 d1 d2 d3 d4 d5 d6 d7 d8 d9 HX HAW
      cases hs:e.2.isSome with
      |false=>
       have hvk:(vk e.2 !=0)=false:=by rw [dB,hs]
       have HN:=ah hs
       clear hs
       go_wp2
       go_roundw
       case rel=>
        have hf:=HFT.o
        rw [HN.o] at hf
        simp only [Bool.false_eq_true,if_false,List.append_nil] at hf
        exact ⟨j+1,A9,c9,by omega,by simp,by rw [hf],by rw [hf];exact HO5.o,HGW.o,HB5.o⟩
       case measure=>simp [aU];omega
      |true=>
       have hvk:(vk e.2 !=0)=true:=by rw [dB,hs]
       have HN:=ah hs
       have HBS:=ah (Nat.le_trans HAR.o.bs HB5.o.size)
       clear hs
       go_wp2_with (first
        |(at_builtin
          refine iF rfl _ _ 91 122 10 96 (.agg #[.int .i64 0,.int .i64 0,.int .u64 0,.string ByteArray.empty,.int .i64 0,.int .i64 0,.int .i64 0,.int .u64 0,.string ByteArray.empty,.int .i64 0]) rfl Tryz.underlying91 qb rfl (by decide) base (.slice A9 fl.length c9) fl.length (iO fl) (gD e) HO5.o rfl rfl rfl (t_ e) (by omega) (by decide) HBS.o ?_
          intro v' w1 hw1 hw2 hw3 hw4
          obtain ⟨A1,k1,rfl⟩:=aF hw1
          have H1:=ah (And.intro hw1 (And.intro (hw2 base w5 (Below.refl _ _) (Nat.le_refl _)) (And.intro hw3 hw4)))
          clear hw1 hw2 hw3 hw4)
        |go_in)
       go_roundw
       case rel=>
        have hf:=HFT.o
        rw [HN.o] at hf
        simp only [if_true] at hf
        obtain ⟨hw1,hw2,hw3,hw4⟩:=H1.o
        refine ⟨j+1,A1,k1,by omega,by simp,by rw [hf];simp,?_,fun g hg=>?_,?_⟩
        ·rw [hf]
         simpa [iO] using hw1
        ·by_cases c:(Value.slice A9 fl.length c9).ownBlock=some g
         ·exact HGW.o g c
         ·rcases Nat.lt_or_ge g w5.heap.size with d|d
          ·exact absurd (by simpa [Value.ownBlock] using hg) (hw4 g d c)
          ·exact Nat.le_trans HB5.o.size d
        ·refine ⟨hw2.os.trans HB5.o.os,hw2.tape.trans HB5.o.tape,hw2.output.trans HB5.o.output,Nat.le_trans HB5.o.size hw2.size,fun b hb=>(hw3 b (Nat.lt_of_lt_of_le hb HB5.o.size) (fun c=>?_)).trans (HB5.o.block b hb)⟩
         exact absurd (HGW.o b c) (Nat.not_le_of_lt hb)
       case measure=>simp [aU];omega
     ·have hje:j=o.es.length:=by omega
      subst hje
      clear hjn hj9
      have hfl:=HFL.o
      rw [List.take_length] at hfl
      have hbs:=uQ o.es
      rw [hfl] at hbs
      have HE:=ah (HAR.o.IL HO.o (w1:=wr) (v':=.slice A9 fl.length c9) (es':=fl) (Keeps.of HT2.o.2.2 (Nat.le_refl _) _) HT2.o.1 (fun g hg=>Or.inr (HT2.o.2.1 g hg)))
      have HN1:=ah (HE.o.1.num (h':={ h.ents n fl with bytes:=h.bytes-40*aK o.es }) 1 (.int .i64 ((h.bytes:Int)-40*(aK o.es:Int))) (by decide) rfl ⟨rfl,rfl,rfl,rfl,rfl,rfl,rfl⟩ rfl (bg _ rfl (congrArg (Value.int .i64) (show ((h.bytes:Int)-40*(aK o.es:Int))=((h.bytes-40*aK o.es:Nat):Int) by omega)) rfl rfl rfl rfl rfl rfl rfl rfl rfl rfl rfl rfl rfl rfl rfl rfl))
      obtain ⟨r2,hr2⟩:=HAW.o.ob n o HO.o
      have y5:wr.cell? ⟨L.ob n,5,none⟩=some (L.es n):=hr2.cell (j:=5) (by omega)
      have z5:=hr2.Jv 5
      have y1:(wr.setCell ⟨L.ob n,5,none⟩ (.slice A9 fl.length c9)).cell? ⟨L.H,1,none⟩=some (.int .i64 (h.bytes:Int)):=HE.o.1.hp.cell (j:=1) (by omega)
      have z1:(wr.setCell ⟨L.ob n,5,none⟩ (.slice A9 fl.length c9)).frozen? ⟨L.H,1,none⟩=false:=HE.o.1.hp.Jv 1
      have HFS:=ah hfl
      clear hr2 HAW hfl
      go_upto_region 16 with (fail)
      generalize wr.setCell ⟨L.ob n,5,none⟩ (.slice A9 fl.length c9)=w7 at *
      clear y5 z5
      go_wp2
      go_end0
      refine ⟨rfl,(HKW.o.trans HE.o.2).trans HN1.o.2,L.Ju n (.slice A9 fl.length c9),rfl,rfl,?_⟩
      rw [HT.o,HFS.o,show o.es.length-fl.length=aK o.es by omega]
      exact HN1.o.1
end
theorem Ad (w:World) (v:HV):Calls Tryz.prog 59 #[.agg #[.int .i64 (vk v),.int .i64 (vi v),.int .u64 0,.string ByteArray.empty,.int .i64 (vr v)]] w fun e w'=>e=.returned (.agg #[.int .i64 (vk v),.int .i64 (vi v),.int .u64 0,.string ByteArray.empty,.int .i64 (vr v)])/\Below w.heap.size w w':=by
 have hk3:(vk v==3)=false:=by cases v with |none=>rfl|some x=>cases x<;>rfl
 have HZ:=ah (oz (w.alloc (.cells #[.int .i64 (vk v),.int .i64 (vi v),.int .u64 0,.string ByteArray.empty,.int .i64 (vr v)] 95)) none)
 have HX:=ah ((oz w v).keep (Keeps.of (aJ (w.alloc (.cells #[.int .i64 (vk v),.int .i64 (vi v),.int .u64 0,.string ByteArray.empty,.int .i64 (vr v)] 95)) (.cells #[.int .i64 (vk none),.int .i64 (vi none),.int .u64 0,.string ByteArray.empty,.int .i64 (vr none)] 95)) (Nat.le_refl _) (fun _=>False)) (fun x=>x))
 have HB:=ah ((aJ w (.cells #[.int .i64 (vk v),.int .i64 (vi v),.int .u64 0,.string ByteArray.empty,.int .i64 (vr v)] 95)).trans ((aJ (w.alloc (.cells #[.int .i64 (vk v),.int .i64 (vi v),.int .u64 0,.string ByteArray.empty,.int .i64 (vr v)] 95)) (.cells #[.int .i64 (vk none),.int .i64 (vi none),.int .u64 0,.string ByteArray.empty,.int .i64 (vr none)] 95)).mono (aJ w (.cells #[.int .i64 (vk v),.int .i64 (vi v),.int .u64 0,.string ByteArray.empty,.int .i64 (vr v)] 95)).size))
 have hZ:(w.alloc (.cells #[.int .i64 (vk v),.int .i64 (vi v),.int .u64 0,.string ByteArray.empty,.int .i64 (vr v)] 95)).heap.size=w.heap.size+1:=Array.size_push _
 rw [hZ] at HZ
 clear hZ
 go_enter Tryz.func59,Tryz.ntmps59
 go_upto_region 1 with (fail)
 change Code.wp _ _ _ _ ((w.alloc (.cells #[.int .i64 (vk v),.int .i64 (vi v),.int .u64 0,.string ByteArray.empty,.int .i64 (vr v)] 95)).alloc (.cells #[.int .i64 (vk none),.int .i64 (vi none),.int .u64 0,.string ByteArray.empty,.int .i64 (vr none)] 95))
 generalize (w.alloc (.cells #[.int .i64 (vk v),.int .i64 (vi v),.int .u64 0,.string ByteArray.empty,.int .i64 (vr v)] 95)).alloc (.cells #[.int .i64 (vk none),.int .i64 (vi none),.int .u64 0,.string ByteArray.empty,.int .i64 (vr none)] 95)=w3 at *
 generalize hX:w.heap.size=X at *
 have x0:w3.cell? ⟨X,0,none⟩=some (.int .i64 (vk v)):=HX.o.cell (j:=0) (by omega)
 have x1:w3.cell? ⟨X,1,none⟩=some (.int .i64 (vi v)):=HX.o.cell (j:=1) (by omega)
 have x2:w3.cell? ⟨X,2,none⟩=some (.int .u64 0):=HX.o.cell (j:=2) (by omega)
 have x3:w3.cell? ⟨X,3,none⟩=some (.string ByteArray.empty):=HX.o.cell (j:=3) (by omega)
 have x4:w3.cell? ⟨X,4,none⟩=some (.int .i64 (vr v)):=HX.o.cell (j:=4) (by omega)
 have y0:=HZ.o.cell (j:=0) (by omega)
 have y1:=HZ.o.cell (j:=1) (by omega)
 have y2:=HZ.o.cell (j:=2) (by omega)
 have y3:=HZ.o.cell (j:=3) (by omega)
 have y4:=HZ.o.cell (j:=4) (by omega)
 have z0:=HZ.o.Jv 0
 have z1:=HZ.o.Jv 1
 have z2:=HZ.o.Jv 2
 have z3:=HZ.o.Jv 3
 have z4:=HZ.o.Jv 4
 go_wp2
 have HR:=ah (((((HZ.o.set (j:=0) (by omega) (.int .i64 (vk v))).set (j:=1) (by omega) (.int .i64 (vi v))).set (j:=2) (by omega) (.int .u64 0)).set (j:=3) (by omega) (.string ByteArray.empty)).set (j:=4) (by omega) (.int .i64 (vr v)))
 have HK:=ah (show Below X w _ from HB.o.trans ((((((Keeps.setCell (S:=fun b=>b=X+1) (Keeps.refl w3 _) (g:=X+1) (j:=0) rfl (.int .i64 (vk v))).setCell (g:=X+1) (j:=1) rfl (.int .i64 (vi v))).setCell (g:=X+1) (j:=2) rfl (.int .u64 0)).setCell (g:=X+1) (j:=3) rfl (.string ByteArray.empty)).setCell (g:=X+1) (j:=4) rfl (.int .i64 (vr v))).below (B:=X) (Nat.le_of_lt HX.o.lt) (fun b e=>by omega)))
 generalize ((((w3.setCell ⟨X+1,0,none⟩ (.int .i64 (vk v))).setCell ⟨X+1,1,none⟩ (.int .i64 (vi v))).setCell ⟨X+1,2,none⟩ (.int .u64 0)).setCell ⟨X+1,3,none⟩ (.string ByteArray.empty)).setCell ⟨X+1,4,none⟩ (.int .i64 (vr v))=w7 at *
 have q0:w7.cell? ⟨X+1,0,none⟩=some (.int .i64 (vk v)):=HR.o.cell (j:=0) (by omega)
 have q1:w7.cell? ⟨X+1,1,none⟩=some (.int .i64 (vi v)):=HR.o.cell (j:=1) (by omega)
 have q2:w7.cell? ⟨X+1,2,none⟩=some (.int .u64 0):=HR.o.cell (j:=2) (by omega)
 have q3:w7.cell? ⟨X+1,3,none⟩=some (.string ByteArray.empty):=HR.o.cell (j:=3) (by omega)
 have q4:w7.cell? ⟨X+1,4,none⟩=some (.int .i64 (vr v)):=HR.o.cell (j:=4) (by omega)
 refine bodyPost_ret (v:=.agg #[.int .i64 (vk v),.int .i64 (vi v),.int .u64 0,.string ByteArray.empty,.int .i64 (vr v)]) ?_ rfl ⟨rfl,by rw [hX];exact HK.o⟩
 simp [results,Tryz.results59,go_sem,q0,q1,q2,q3,q4]
section
variable {S:Nat->Prop} {base cap g i j n:Nat} {e:En} {es:List En} {h:Hp} {o:Ob} {w:World}
theorem wU (v:HV) (h:es[j]?=some e):(((((iO es).set (j*10+5) (.int .i64 (vk v))).set (j*10+5+1) (.int .i64 (vi v))).set (j*10+5+2) (.int .u64 0)).set (j*10+5+3) (.string ByteArray.empty)).set (j*10+5+4) (.int .i64 (vr v))=iO (es.set j (e.1,v)):=by
 have hj:=(List.getElem?_eq_some_iff.1 h).1
 have hl:=kT es
 refine List.ext_getElem? (fun p=>?_)
 by_cases c:p/10=j
 ·have hg:∀ r,r<10->(iO es)[j*10+r]?=(gD e)[r]?:=fun r hr=>dw gD 10 (fun _=>rfl) es j r e h hr
  have hq:∀ r,r<10->(iO (es.set j (e.1,v)))[j*10+r]?=(gD (e.1,v))[r]?:=fun r hr=>dw gD 10 (fun _=>rfl) _ j r _ (List.getElem?_set_self (by omega)) hr
  obtain ⟨r,hr,rfl⟩:∃ r,r<10/\p=j*10+r:=⟨p%10,Nat.mod_lt _ (by decide),by omega⟩
  rw [hq r hr]
  have hrr:r=0∨r=1∨r=2∨r=3∨r=4∨r=5∨r=6∨r=7∨r=8∨r=9:=by omega
  rcases hrr with rfl|rfl|rfl|rfl|rfl|rfl|rfl|rfl|rfl|rfl
  ·rw [List.getElem?_set_ne (by omega)];rw [List.getElem?_set_ne (by omega)];rw [List.getElem?_set_ne (by omega)];rw [List.getElem?_set_ne (by omega)];rw [List.getElem?_set_ne (by omega)];rw [hg 0 (by decide)];rfl
  ·rw [List.getElem?_set_ne (by omega)];rw [List.getElem?_set_ne (by omega)];rw [List.getElem?_set_ne (by omega)];rw [List.getElem?_set_ne (by omega)];rw [List.getElem?_set_ne (by omega)];rw [hg 1 (by decide)];rfl
  ·rw [List.getElem?_set_ne (by omega)];rw [List.getElem?_set_ne (by omega)];rw [List.getElem?_set_ne (by omega)];rw [List.getElem?_set_ne (by omega)];rw [List.getElem?_set_ne (by omega)];rw [hg 2 (by decide)];rfl
  ·rw [List.getElem?_set_ne (by omega)];rw [List.getElem?_set_ne (by omega)];rw [List.getElem?_set_ne (by omega)];rw [List.getElem?_set_ne (by omega)];rw [List.getElem?_set_ne (by omega)];rw [hg 3 (by decide)];rfl
  ·rw [List.getElem?_set_ne (by omega)];rw [List.getElem?_set_ne (by omega)];rw [List.getElem?_set_ne (by omega)];rw [List.getElem?_set_ne (by omega)];rw [List.getElem?_set_ne (by omega)];rw [hg 4 (by decide)];rfl
  ·rw [List.getElem?_set_ne (by omega)];rw [List.getElem?_set_ne (by omega)];rw [List.getElem?_set_ne (by omega)];rw [List.getElem?_set_ne (by omega)];rw [show j*10+5=j*10+5 by omega];rw [List.getElem?_set_self (Nat.lt_of_lt_of_eq (show _<es.length*10 by omega) (by simp [hl]))];rfl
  ·rw [List.getElem?_set_ne (by omega)];rw [List.getElem?_set_ne (by omega)];rw [List.getElem?_set_ne (by omega)];rw [show j*10+6=j*10+5+1 by omega];rw [List.getElem?_set_self (Nat.lt_of_lt_of_eq (show _<es.length*10 by omega) (by simp [hl]))];rfl
  ·rw [List.getElem?_set_ne (by omega)];rw [List.getElem?_set_ne (by omega)];rw [show j*10+7=j*10+5+2 by omega];rw [List.getElem?_set_self (Nat.lt_of_lt_of_eq (show _<es.length*10 by omega) (by simp [hl]))];rfl
  ·rw [List.getElem?_set_ne (by omega)];rw [show j*10+8=j*10+5+3 by omega];rw [List.getElem?_set_self (Nat.lt_of_lt_of_eq (show _<es.length*10 by omega) (by simp [hl]))];rfl
  ·rw [show j*10+9=j*10+5+4 by omega];rw [List.getElem?_set_self (Nat.lt_of_lt_of_eq (show _<es.length*10 by omega) (by simp [hl]))];rfl
 ·rw [show (iO (es.set j (e.1,v)))[p]?=(iO es)[p]? by rw [iQ,iQ,List.getElem?_set_ne (by omega)]]
  rw [List.getElem?_set_ne (by omega)]
  rw [List.getElem?_set_ne (by omega)]
  rw [List.getElem?_set_ne (by omega)]
  rw [List.getElem?_set_ne (by omega)]
  rw [List.getElem?_set_ne (by omega)]
theorem JU.I5 {L:SM} (a:JU base S h L w) (v:HV) {o:Ob} (ho:h.ob n=some { o with es:=es }) (hv:L.es n=.slice (some ⟨g,0,none⟩) es.length cap) (hj:es[j]?=some e):
 JU base S (h.ents n (es.set j (e.1,v))) L (((((w.setCell ⟨g,j*10+5,none⟩ (.int .i64 (vk v))).setCell ⟨g,j*10+5+1,none⟩ (.int .i64 (vi v))).setCell ⟨g,j*10+5+2,none⟩ (.int .u64 0)).setCell ⟨g,j*10+5+3,none⟩ (.string ByteArray.empty)).setCell ⟨g,j*10+5+4,none⟩ (.int .i64 (vr v)))/\Keeps w (((((w.setCell ⟨g,j*10+5,none⟩ (.int .i64 (vk v))).setCell ⟨g,j*10+5+1,none⟩ (.int .i64 (vi v))).setCell ⟨g,j*10+5+2,none⟩ (.int .u64 0)).setCell ⟨g,j*10+5+3,none⟩ (.string ByteArray.empty)).setCell ⟨g,j*10+5+4,none⟩ (.int .i64 (vr v))) S:=by
 have hjl:=(List.getElem?_eq_some_iff.1 hj).1
 have he:=a.en n _ ho
 simp only at he
 rw [hv] at he
 have h1:=(aH (aH (aH (aH (aH he (show j*10+5<es.length*10 by omega) (.int .i64 (vk v))) (show j*10+5+1<es.length*10 by omega) (.int .i64 (vi v))) (show j*10+5+2<es.length*10 by omega) (.int .u64 0)) (show j*10+5+3<es.length*10 by omega) (.string ByteArray.empty)) (show j*10+5+4<es.length*10 by omega) (.int .i64 (vr v)))
 rw [wU v hj] at h1
 refine a.IE ho (Keeps.mono (S:=fun b=>b=g) (Keeps.setCell (S:=fun b=>b=g) (Keeps.setCell (S:=fun b=>b=g) (Keeps.setCell (S:=fun b=>b=g) (Keeps.setCell (S:=fun b=>b=g) (Keeps.setCell (S:=fun b=>b=g) (Keeps.refl w (fun b=>b=g)) rfl (.int .i64 (vk v))) rfl (.int .i64 (vi v))) rfl (.int .u64 0)) rfl (.string ByteArray.empty)) rfl (.int .i64 (vr v))) (fun b e=>?_)) ?_
 ·rw [hv,e];simp [Value.ownBlock]
 ·rw [hv,List.length_set];exact h1
theorem qm {v:HV} (ho:h.ob n=some o) (he:o.es[i]?=some e):h.putAt n i v=(h.ents n (o.es.set i (e.1,v))).back n:=by
 unfold Hp.putAt Hp.ents Hp.upd
 have hx:=Hp.E_ ho
 have hm:o.es.modify i (fun e=>(e.1,v))=o.es.set i (e.1,v):=by
  refine List.ext_getElem? (fun j=>?_)
  rw [List.getElem?_modify]
  by_cases c:i=j
  ·subst c
   rw [he,List.getElem?_set_self (List.getElem?_eq_some_iff.1 he).1]
   simp
  ·rw [List.getElem?_set_ne c]
   simp [c]
 have:h.objs.modify n (Option.map fun o':Ob=>{ o' with es:=o'.es.modify i fun e=>(e.1,v) })=h.objs.modify n (Option.map fun o':Ob=>{ o' with es:=o.es.set i (e.1,v) }):=by
  refine List.ext_getElem? (fun j=>?_)
  simp only [List.getElem?_modify]
  by_cases c:n=j
  ·subst c
   rw [hx]
   simp [hm]
  ·simp [c]
 rw [this]
end
end Go.Proofs.YtedpifhlffcmkaaGreatDoor
