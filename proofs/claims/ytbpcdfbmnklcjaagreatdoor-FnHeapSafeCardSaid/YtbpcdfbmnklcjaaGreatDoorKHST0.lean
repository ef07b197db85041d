import Derived.Test.YtbpcdfbmnklcjaaGreatDoorKHSP2
namespace Go.Proofs.YtbpcdfbmnklcjaaGreatDoor
open Go Go.RowKit
set_option linter.unusedVariables false
section
variable {S:Nat->Prop} {base n:Nat} {es':List En} {h:Hp} {o:Ob} {v':Value} {w w1:World}
def SM.MW (L:SM) (n:Nat) (v:Value):SM:={ L with es:=fun m=>if m=n then v else L.es m }
theorem MV.LB {L:SM} (a:MV base S h L w) (ho:h.ob n=some o) (kk:Keeps w w1 (fun b=>(L.es n).ownBlock=some b))
 (hown:w1.ownsRow base 122 10 v' es'.length (kr es')) (hv:∀ g,v'.ownBlock=some g->(L.es n).ownBlock=some g∨w.heap.size<=g):
 MV base S (h.ents n es') (L.MW n v') (w1.setCell ⟨L.ob n,5,none⟩ v')/\Keeps w (w1.setCell ⟨L.ob n,5,none⟩ v') S:=by
 have k1:Keeps w1 (w1.setCell ⟨L.ob n,5,none⟩ v') (fun b=>b=L.ob n):=Keeps.setCell (S:=fun b=>b=L.ob n) (Keeps.refl w1 _) rfl v';have B:Keeps w (w1.setCell ⟨L.ob n,5,none⟩ v') (fun b=>(L.es n).ownBlock=some b∨b=L.ob n):=(kk.mono (fun b e=>Or.inl e)).trans (k1.mono (fun b e=>Or.inr e));have M:(h.ents n es').objs.length=h.objs.length:=h.Hz n _;have U:=Hp.Ia ho;have Q:=a.en n o ho;obtain ⟨r0,u⟩:=a.ob n o ho;have K:=u.keep kk (fun e=>ak Q u (by decide) e);have hH:∀ {T s n':Nat} {v:Value} {Y:List Value},w.ownsRow base T s v n' Y->T≠122->T≠101->∀ g,v.ownBlock=some g->¬ ((L.es n).ownBlock=some g∨g=L.ob n):=by
  intro T s n' v Y R W C g P D;rcases D with D|D
  ·exact aV R Q W D P
  ·exact ak R u C (D ▸ P)
 have hR:∀ {g N:Nat} {f:Nat->Value},aD w 101 g N f->g≠L.ob n->¬ ((L.es n).ownBlock=some g∨g=L.ob n):=by
  intro g N f R W C;rcases C with C|C
  ·exact ak Q R (by decide) C
  ·exact W C
 have z:∀ m k,(h.ents n es').ob m=some k->∃ o2,h.ob m=some o2/\k.col=o2.col/\k.mode=o2.mode/\k.fin=o2.fin/\(m=n->k.es=es')/\(m≠n->k.es=o2.es):=by
  intro m k e;unfold Hp.ents at e;rw [Hp.Ho] at e;split at e
  ·rename_i c
   subst c;rw [ho] at e;simp at e;subst e;exact ⟨o,ho,rfl,rfl,rfl,fun _=>rfl,fun c=>absurd rfl c⟩
  ·rename_i c
   exact ⟨k,e,rfl,rfl,rfl,fun d=>absurd d.symm c,fun _=>rfl⟩
 refine ⟨⟨a.hp.keep B ?_,?_,fun m k e=>?_,fun m hm e=>?_,fun m k e=>?_,fun j hj=>aj (a.li j hj) B (hH (a.li j hj) (by decide) (by decide)),aj a.ro B (hH a.ro (by decide) (by decide)),?_,?_,a.lj,a.bH,?_,aI a.bs B.size,a.sH,?_,a.sO,?_,a.sl,a.sr,fun b hb=>a.up b (aI B.size hb)⟩,B.mono (fun b e=>?_)⟩
 ·rintro (e|e)
  ·exact ak Q a.hp (by decide) e
  ·exact a.hp.apart u (by decide) e
 ·rw [M];exact aj a.oo B (hH a.oo (by decide) (by decide))
 ·obtain ⟨o2,t,C,P,D,_⟩:=z m k e
  by_cases c:m=n
  ·subst c
   rw [ho] at t;cases t;refine ⟨r0,?_⟩;rw [C,P,D];refine (K.set (j:=5) (by omega) v').congr (fun i _=>?_);simp only [SM.MW,if_pos];by_cases X:i=5
   ·subst X;rfl
   ·rw [if_neg X];simp only [kY,if_neg X]
  ·obtain ⟨r,hr⟩:=a.ob m o2 t
   refine ⟨r,?_⟩;rw [C,P,D];have:=hr.keep B (hR hr (fun x=>c (a.ij m n (Hp.Ia t) U x)))
   simpa only [SM.MW,if_neg c] using this
 ·rw [M] at hm
  unfold Hp.ents at e;rw [Hp.Ho] at e;have t:h.ob m=none/\m≠n:=by
   split at e
   ·rename_i c
    subst c;rw [ho] at e;simp at e
   ·rename_i c;exact ⟨e,fun d=>c d.symm⟩
  obtain ⟨r,c,V,hr⟩:=a.dd m hm t.1;exact ⟨r,c,V,hr.keep B (hR hr (fun x=>t.2 (a.ij m n hm U x)))⟩
 ·obtain ⟨o2,t,_,_,_,h6,h7⟩:=z m k e
  by_cases c:m=n
  ·rw [h6 c]
   simp only [SM.MW,if_pos c];exact aj hown k1 (fun g hg x=>ak hown K (by decide) (x ▸ hg))
  ·rw [h7 c]
   simp only [SM.MW,if_neg c];refine aj (a.en m o2 t) B (fun g hg y=>?_);rcases y with y|y
   ·exact c (a.ei m n o2 o g t ho hg y)
   ·exact ak (a.en m o2 t) u (by decide) (y ▸ hg)
 ·rw [M];exact a.ij
 ·intro m J o1 o2 g e1 t l F
  obtain ⟨p1,q1,_⟩:=z m o1 e1;obtain ⟨p2,Z,_⟩:=z J o2 t;have A:∀ m p,h.ob m=some p->m≠n->(L.es m).ownBlock=some g->v'.ownBlock=some g->False:=by
   intro m p q c e3 e4;rcases hv g e4 with G|G
   ·exact c (a.ei m n p o g q ho e3 G)
   ·have:=(ay (a.en m p q) e3).lt
    omega
  simp only [SM.MW] at l F;by_cases E:m=n
  ·by_cases H:J=n
   ·rw [E,H]
   ·rw [if_pos E] at l
    rw [if_neg H] at F;exact (A J p2 Z H F l).elim
  ·by_cases H:J=n
   ·rw [if_neg E] at l
    rw [if_pos H] at F;exact (A m p1 q1 E l F).elim
   ·rw [if_neg E] at l
    rw [if_neg H] at F;exact a.ei m J p1 p2 g q1 Z l F
 ·rw [M];exact a.bo
 ·rw [M];exact a.so
 ·intro m k g e l
  obtain ⟨p1,q1,_⟩:=z m k e;simp only [SM.MW] at l;by_cases E:m=n
  ·rw [if_pos E] at l
   rcases hv g l with G|G
   ·exact a.se n o g ho G
   ·exact a.up g G
  ·rw [if_neg E] at l
   exact a.se m p1 g q1 l
 ·rcases e with e|e
  ·exact a.se n o b ho e
  ·exact e ▸ a.so n U
end
set_option maxHeartbeats 6400000
set_option maxRecDepth 100000
section
variable {S:Nat->Prop} {base j n:Nat} {e:En} {es:List En} {h:Hp} {o:Ob} {w:World}
theorem fZ (es:List En):aZ es<=es.length:=by unfold aZ;exact List.length_filter_le _ _
theorem vD (a:es[j]?=some e):aZ (es.take (j+1))=aZ (es.take j)+(if e.2.isNone then 1 else 0):=by
 unfold aZ;rw [List.take_add_one,a,List.filter_append,aT];cases h9:e.2.isNone<;>simp [List.filter,h9]
theorem yD (a:es[j]?=some e):((es.take (j+1)).filter fun e=>e.2.isSome)=((es.take j).filter fun e=>e.2.isSome)++(if e.2.isSome then [e] else []):=by
 rw [List.take_add_one,a,List.filter_append];cases h9:e.2.isSome<;>simp [List.filter,h9]
theorem yu (es:List En):aZ es+(es.filter fun e=>e.2.isSome).length=es.length:=by
 unfold aZ
 induction es with
 |nil=>rfl
 |cons e es ih=>cases h:e.2<;>simp [List.filter,h]<;>omega
theorem wz (e:En):∀ u∈iX e,u.oneCell'=true:=by
 intro u a;simp only [iX,wX,List.cons_append,List.nil_append,eT,List.not_mem_nil,or_false] at a;rcases a with rfl|rfl|rfl|rfl|rfl|rfl|rfl|rfl|rfl|rfl<;>rfl
theorem sK:(Tryz.prog.info? 122).map (fun i=>(i.zero,i.size,i.bytes))=some (some (.agg #[.int .i64 0,.int .i64 0,.int .u64 0,.string ByteArray.empty,.int .i64 0,.int .i64 0,.int .i64 0,.int .u64 0,.string ByteArray.empty,.int .i64 0]),10,96):=by kernel_rfl
theorem qC {L:SM} (b:aS o.es=o.es) (ho:h.ob n=some o) (a:MV base S h L w):MV base S { h.ents n (aS o.es) with bytes:=h.bytes-40*(o.es.length-(aS o.es).length) } L w:=by
 rw [b,Hp.Io ho,show h.bytes-40*(o.es.length-o.es.length)=h.bytes by omega];exact a
theorem zK {L:SM} (a:MV base S h L w) (ho:h.ob n=some o) (c2:o.es.length<=5000) (c3:40*o.es.length<=h.bytes) (c0:h.bytes<=1000000000000):
 Calls Tryz.prog 61 #[.pointer (some ⟨L.H,0,none⟩),.pointer (some ⟨L.ob n,0,none⟩)] w fun e w'=>e=.returned (.tuple #[])/\Keeps w w' S/\∃ L',L'.H=L.H/\L'.ob=L.ob/\MV base S { h.ents n (aS o.es) with bytes:=h.bytes-40*(o.es.length-(aS o.es).length) } L' w':=by
 obtain ⟨A,K,U,b9,-⟩:=a.ents ho;obtain ⟨r0,Q⟩:=a.ob n o ho;have c5:w.cell? ⟨L.ob n,5,none⟩=some (.slice A o.es.length K):=by rw [<-U];exact Q.c 5
 have hO:=Q.lt;have HA:=ah a;have Z:=ah ho;have a3:=ah U;clear a ho U Q;go_enter Tryz.func61,Tryz.ntmps61;go_wp2;go_loopw [15,4,6] (fun jv ev _ ws=>∃ j:Nat,j<=o.es.length/\jv=.int .i64 j/\ev=.int .i64 (aZ (o.es.take j):Nat)/\Hq (Below w.heap.size w ws)) (fun jv _ _ _=>o.es.length-bF jv)
 case atStart=>exact ⟨0,by omega,rfl,by simp [aZ],aG _ _⟩
 case round=>
  obtain ⟨j,T,rfl,rfl,HJ⟩:=hrel;have l:=ah (HA.o.low HJ.o);clear c5;by_cases v:j<o.es.length
  ·obtain ⟨e,V⟩:∃ e,o.es[j]?=some e:=⟨_,aN v⟩
   obtain ⟨A3,B,q,W,k⟩:=l.o.ents Z.o;have:A3=A/\B=K:=by
    have z:=q.symm.trans a3.o;simp only [Value.slice.injEq] at z;exact ⟨z.1,z.2.2⟩
   obtain ⟨rfl,rfl⟩:=this;obtain ⟨g2,rfl,b1,f⟩:=k j e V;have d0:=f 0 _ rfl;have d1:=f 1 _ rfl;have d2:=f 2 _ rfl;have d3:=f 3 _ rfl;have d4:=f 4 _ rfl;have d5:=f 5 _ rfl;have d6:=f 6 _ rfl;have d7:=f 7 _ rfl;have d8:=f 8 _ rfl;have d9:=f 9 _ rfl;simp only [Nat.add_zero] at d0;have i:=ah (HJ.o.trans ((aU wr (.cells #[.int .i64 (vk e.1),.int .i64 (vi e.1),.int .u64 0,.string ByteArray.empty,.int .i64 (vr e.1),.int .i64 (vk e.2),.int .i64 (vi e.2),.int .u64 0,.string ByteArray.empty,.int .i64 (vr e.2)] 122)).mono HJ.o.size));have t:=ah (lV wr e);have b0:=ah (vD V);have a5:=fZ (o.es.take j);rw [bY] at a5;clear q k f V;go_upto_region 4 with (fail)
   generalize wr.alloc (.cells #[.int .i64 (vk e.1),.int .i64 (vi e.1),.int .u64 0,.string ByteArray.empty,.int .i64 (vr e.1),.int .i64 (vk e.2),.int .i64 (vi e.2),.int .u64 0,.string ByteArray.empty,.int .i64 (vr e.2)] 122)=w5 at *;generalize wr.heap.size=Y at *;have x5:w5.cell? ⟨Y,5,none⟩=some (.int .i64 (vk e.2)):=t.o.c 5;clear d0 d1 d2 d3 d4 d5 d6 d7 d8 d9 t l;cases hs:e.2.isSome with
   |true=>
    have N:(vk e.2==0)=false:=by
     have:=fq e.2;rw [hs] at this
     simpa using this
    have HN:=ah (show e.2.isNone=false by cases z:e.2 with |none=>rw [z] at hs;cases hs|some y=>rfl);clear hs;go_wp2;go_roundw
    case rel=>exact ⟨j+1,by omega,by simp,by rw [b0.o,HN.o];simp,i.o⟩
    case measure=>simp [bF];omega
   |false=>
    have N:(vk e.2==0)=true:=by
     have:=fq e.2;rw [hs] at this
     simpa using this
    have HN:=ah (show e.2.isNone=true by cases z:e.2 with |none=>rfl|some y=>rw [z] at hs;cases hs);clear hs;go_wp2;go_roundw
    case rel=>exact ⟨j+1,by omega,by simp,by rw [b0.o,HN.o];simp,i.o⟩
    case measure=>simp [bF];omega
  ·have R:j=o.es.length:=by omega
   subst R;clear v T;rw [bf];have a5:=fZ o.es;obtain ⟨r1,a4⟩:=l.o.ob n o Z.o;have c5:wr.cell? ⟨L.ob n,5,none⟩=some (.slice A o.es.length K):=by rw [<-a3.o];exact a4.c 5
   clear a4;have a0:=ah (Keeps.of HJ.o (au _) S);by_cases hc:o.es.length<16∨2*aZ o.es<=o.es.length
   ·have HT:=ah (show aS o.es=o.es by unfold aS;rw [if_pos hc])
    by_cases c4:o.es.length<16
    ·have a6:decide ((o.es.length:Int)<16)=true:=by simp;omega
     go_wp2
     ((try simp only [Exit.inBlock,Exit.then]);refine bodyPost_ret (results_none rfl _ _ _) rfl ?_)
     exact ⟨rfl,a0.o,L,rfl,rfl,qC HT.o Z.o l.o⟩
    ·have a6:decide ((o.es.length:Int)<16)=false:=by simp;omega
     have b4:decide (2*(aZ o.es:Int)<=(o.es.length:Int))=true:=by simp;omega
     go_wp2
     ((try simp only [Exit.inBlock,Exit.then]);refine bodyPost_ret (results_none rfl _ _ _) rfl ?_)
     exact ⟨rfl,a0.o,L,rfl,rfl,qC HT.o Z.o l.o⟩
   ·have HT:=ah (show aS o.es=o.es.filter fun e=>e.2.isSome by unfold aS;rw [if_neg hc])
    have a6:decide ((o.es.length:Int)<16)=false:=by simp;omega
    have b4:decide (2*(aZ o.es:Int)<=(o.es.length:Int))=false:=by simp;omega
    clear hc;rename World=>C;have X:=aU C (.cells #[] 122);have b3:L.ob n<C.heap.size:=aW hO HJ.o.size;have c6:=(X.cell (p:=⟨L.ob n,5,none⟩) b3).trans c5;have b5:Hq (World.ownsRow (C.alloc (.cells #[] 122)) base 122 10 (.slice (some ⟨C.heap.size,0,none⟩) 0 0) 0 (kr [])):=ah ⟨rfl,.inr ⟨C.heap.size,0,#[],rfl,l.o.bs,heap_alloc_new C _,by decide,by decide,rfl,rfl⟩⟩;have b8:=ah X;clear X;go_upto_region 9 with (fail)
    clear c5;generalize C.alloc (.cells #[] 122)=wl at *;go_wp2;go_loopw [48,7,9] (fun jv lv _ ws=>∃ (j:Nat) (E:Option Addr) (D:Nat),j<=o.es.length/\jv=.int .i64 j/\lv=.slice E ((o.es.take j).filter fun e=>e.2.isSome).length D/\Hq (ws.ownsRow base 122 10 lv ((o.es.take j).filter fun e=>e.2.isSome).length (kr ((o.es.take j).filter fun e=>e.2.isSome))/\(∀ g,lv.ownBlock=some g->C.heap.size<=g)/\Below C.heap.size C ws)) (fun jv _ _ _=>o.es.length-bF jv)
    case atStart=>exact ⟨0,_,_,by omega,rfl,rfl,b5.o,by intro g hg;simp [Value.ownBlock] at hg;omega,b8.o⟩
    case round=>
     obtain ⟨j,E,D,T,rfl,rfl,r⟩:=hrel;have M:=ah (l.o.low r.o.2.2);clear c6;generalize m:((o.es.take j).filter fun e=>e.2.isSome)=fl at *;have a9:=ah m;have c1:fl.length<=j:=by rw [<-m];exact aI (List.length_filter_le _ _) (by rw [bY];omega)
     clear m;by_cases v:j<o.es.length
     ·obtain ⟨e,V⟩:∃ e,o.es[j]?=some e:=⟨_,aN v⟩
      obtain ⟨A3,B,q,W,k⟩:=M.o.ents Z.o;have:A3=A/\B=K:=by
       have z:=q.symm.trans a3.o;simp only [Value.slice.injEq] at z;exact ⟨z.1,z.2.2⟩
      obtain ⟨rfl,rfl⟩:=this;obtain ⟨g2,rfl,b1,f⟩:=k j e V;have d0:=f 0 _ rfl;have d1:=f 1 _ rfl;have d2:=f 2 _ rfl;have d3:=f 3 _ rfl;have d4:=f 4 _ rfl;have d5:=f 5 _ rfl;have d6:=f 6 _ rfl;have d7:=f 7 _ rfl;have d8:=f 8 _ rfl;have d9:=f 9 _ rfl;simp only [Nat.add_zero] at d0;have i:=ah (r.o.2.2.trans ((aU wr (.cells #[.int .i64 (vk e.1),.int .i64 (vi e.1),.int .u64 0,.string ByteArray.empty,.int .i64 (vr e.1),.int .i64 (vk e.2),.int .i64 (vi e.2),.int .u64 0,.string ByteArray.empty,.int .i64 (vr e.2)] 122)).mono r.o.2.2.size));have a7:=ah (aj r.o.1 (Keeps.of (aU wr (.cells #[.int .i64 (vk e.1),.int .i64 (vi e.1),.int .u64 0,.string ByteArray.empty,.int .i64 (vr e.1),.int .i64 (vk e.2),.int .i64 (vi e.2),.int .u64 0,.string ByteArray.empty,.int .i64 (vr e.2)] 122)) (au _) (fun _=>False)) (fun _ _ x=>x));have t:=ah (lV wr e);have a2:=ah (yD V);rw [a9.o] at a2;have a1:=ah r.o.2.1;clear q k f V;go_upto_region 12 with (fail)
      generalize wr.alloc (.cells #[.int .i64 (vk e.1),.int .i64 (vi e.1),.int .u64 0,.string ByteArray.empty,.int .i64 (vr e.1),.int .i64 (vk e.2),.int .i64 (vi e.2),.int .u64 0,.string ByteArray.empty,.int .i64 (vr e.2)] 122)=w5 at *;generalize wr.heap.size=Y at *;have x0:w5.cell? ⟨Y,0,none⟩=some (.int .i64 (vk e.1)):=t.o.c 0;have x1:w5.cell? ⟨Y,1,none⟩=some (.int .i64 (vi e.1)):=t.o.c 1;have x2:w5.cell? ⟨Y,2,none⟩=some (.int .u64 0):=t.o.c 2;have x3:w5.cell? ⟨Y,3,none⟩=some (.string ByteArray.empty):=t.o.c 3;have x4:w5.cell? ⟨Y,4,none⟩=some (.int .i64 (vr e.1)):=t.o.c 4;have x5:w5.cell? ⟨Y,5,none⟩=some (.int .i64 (vk e.2)):=t.o.c 5;have x6:w5.cell? ⟨Y,6,none⟩=some (.int .i64 (vi e.2)):=t.o.c 6;have x7:w5.cell? ⟨Y,7,none⟩=some (.int .u64 0):=t.o.c 7;have x8:w5.cell? ⟨Y,8,none⟩=some (.string ByteArray.empty):=t.o.c 8;have x9:w5.cell? ⟨Y,9,none⟩=some (.int .i64 (vr e.2)):=t.o.c 9;clear d0 d1 d2 d3 d4 d5 d6 d7 d8 d9 t M;cases hs:e.2.isSome with
      |false=>
       have N:(vk e.2 !=0)=false:=by rw [fq,hs]
       have HN:=ah hs;clear hs;go_wp2;go_roundw
       case rel=>
        have J:=a2.o;rw [HN.o] at J;simp only [Bool.false_eq_true,if_false,List.append_nil] at J;exact ⟨j+1,E,D,by omega,by simp,by rw [J],by rw [J];exact a7.o,a1.o,i.o⟩
       case measure=>simp [bF];omega
      |true=>
       have N:(vk e.2 !=0)=true:=by rw [fq,hs]
       have HN:=ah hs;have b7:=ah (aI l.o.bs i.o.size);clear hs;go_wp2_with (first
        |(at_builtin
          refine fE rfl _ _ 91 122 10 96 (.agg #[.int .i64 0,.int .i64 0,.int .u64 0,.string ByteArray.empty,.int .i64 0,.int .i64 0,.int .i64 0,.int .u64 0,.string ByteArray.empty,.int .i64 0]) rfl Tryz.underlying91 sK rfl (by decide) base (.slice E fl.length D) fl.length (kr fl) (iX e) a7.o rfl rfl rfl (wz e) (by omega) (by decide) b7.o ?_;intro v' w1 u s G F;obtain ⟨A1,k1,rfl⟩:=aF u;have H1:=ah (And.intro u (And.intro (s base w5 (aG _ _) (au _)) (And.intro G F)));clear u s G F)
        |go_in)
       go_roundw
       case rel=>
        have J:=a2.o;rw [HN.o] at J;simp only [if_true] at J;obtain ⟨u,s,G,F⟩:=H1.o;refine ⟨j+1,A1,k1,by omega,by simp,by rw [J];simp,?_,fun g hg=>?_,?_⟩
        ·rw [J]
         simpa [kr] using u
        ·by_cases c:(Value.slice E fl.length D).ownBlock=some g
         ·exact a1.o g c
         ·rcases Nat.lt_or_ge g w5.heap.size with d|d
          ·exact absurd (by simpa [Value.ownBlock] using hg) (F g d c)
          ·exact aI i.o.size d
        ·refine ⟨s.os.trans i.o.os,s.tape.trans i.o.tape,s.output.trans i.o.output,aI i.o.size s.size,fun b hb=>(G b (aW hb i.o.size) (fun c=>?_)).trans (i.o.block b hb)⟩
         exact absurd (a1.o b c) (Nat.not_le_of_lt hb)
       case measure=>simp [bF];omega
     ·have R:j=o.es.length:=by omega
      subst R;clear v T;have m:=a9.o;rw [bf] at m;have b2:=yu o.es;rw [m] at b2;have HE:=ah (l.o.LB Z.o (w1:=wr) (v':=.slice E fl.length D) (es':=fl) (Keeps.of r.o.2.2 (au _) _) r.o.1 (fun g hg=>Or.inr (r.o.2.1 g hg)));have a8:=ah (HE.o.1.num (h':={ h.ents n fl with bytes:=h.bytes-40*aZ o.es }) 1 (.int .i64 ((h.bytes:Int)-40*(aZ o.es:Int))) (by decide) rfl ⟨rfl,rfl,rfl,rfl,rfl,rfl,rfl⟩ rfl (bV _ rfl (congrArg (Value.int .i64) (show ((h.bytes:Int)-40*(aZ o.es:Int))=((h.bytes-40*aZ o.es:Nat):Int) by omega)) rfl rfl rfl rfl rfl rfl rfl rfl rfl rfl rfl rfl rfl rfl rfl rfl));obtain ⟨r2,P⟩:=M.o.ob n o Z.o;have y5:wr.cell? ⟨L.ob n,5,none⟩=some (L.es n):=P.c 5;have z5:=P.ME 5;have y1:(wr.setCell ⟨L.ob n,5,none⟩ (.slice E fl.length D)).cell? ⟨L.H,1,none⟩=some (.int .i64 (h.bytes:Int)):=HE.o.1.hp.c 1;have z1:(wr.setCell ⟨L.ob n,5,none⟩ (.slice E fl.length D)).frozen? ⟨L.H,1,none⟩=false:=HE.o.1.hp.ME 1;have b6:=ah m;clear P M m;go_upto_region 16 with (fail)
      generalize wr.setCell ⟨L.ob n,5,none⟩ (.slice E fl.length D)=w7 at *;clear y5 z5;go_wp2;go_end0;refine ⟨rfl,(a0.o.trans HE.o.2).trans a8.o.2,L.MW n (.slice E fl.length D),rfl,rfl,?_⟩;rw [HT.o,b6.o,show o.es.length-fl.length=aZ o.es by omega];exact a8.o.1
end
theorem CW (w:World) (v:HV):Calls Tryz.prog 59 #[.agg #[.int .i64 (vk v),.int .i64 (vi v),.int .u64 0,.string ByteArray.empty,.int .i64 (vr v)]] w fun e w'=>e=.returned (.agg #[.int .i64 (vk v),.int .i64 (vi v),.int .u64 0,.string ByteArray.empty,.int .i64 (vr v)])/\Below w.heap.size w w':=by
 have n:(vk v==3)=false:=by cases v with |none=>rfl|some x=>cases x<;>rfl
 have a:=ah (rA (w.alloc (.cells #[.int .i64 (vk v),.int .i64 (vi v),.int .u64 0,.string ByteArray.empty,.int .i64 (vr v)] 95)) none);have d:=ah ((rA w v).keep (Keeps.of (aU (w.alloc (.cells #[.int .i64 (vk v),.int .i64 (vi v),.int .u64 0,.string ByteArray.empty,.int .i64 (vr v)] 95)) (.cells #[.int .i64 (vk none),.int .i64 (vi none),.int .u64 0,.string ByteArray.empty,.int .i64 (vr none)] 95)) (au _) (fun _=>False)) (fun x=>x));have r:=ah ((aU w (.cells #[.int .i64 (vk v),.int .i64 (vi v),.int .u64 0,.string ByteArray.empty,.int .i64 (vr v)] 95)).trans ((aU (w.alloc (.cells #[.int .i64 (vk v),.int .i64 (vi v),.int .u64 0,.string ByteArray.empty,.int .i64 (vr v)] 95)) (.cells #[.int .i64 (vk none),.int .i64 (vi none),.int .u64 0,.string ByteArray.empty,.int .i64 (vr none)] 95)).mono (aU w (.cells #[.int .i64 (vk v),.int .i64 (vi v),.int .u64 0,.string ByteArray.empty,.int .i64 (vr v)] 95)).size));have h:(w.alloc (.cells #[.int .i64 (vk v),.int .i64 (vi v),.int .u64 0,.string ByteArray.empty,.int .i64 (vr v)] 95)).heap.size=w.heap.size+1:=bM _;rw [h] at a;clear h;go_enter Tryz.func59,Tryz.ntmps59;go_upto_region 1 with (fail)
 change Code.wp _ _ _ _ ((w.alloc (.cells #[.int .i64 (vk v),.int .i64 (vi v),.int .u64 0,.string ByteArray.empty,.int .i64 (vr v)] 95)).alloc (.cells #[.int .i64 (vk none),.int .i64 (vi none),.int .u64 0,.string ByteArray.empty,.int .i64 (vr none)] 95));generalize (w.alloc (.cells #[.int .i64 (vk v),.int .i64 (vi v),.int .u64 0,.string ByteArray.empty,.int .i64 (vr v)] 95)).alloc (.cells #[.int .i64 (vk none),.int .i64 (vi none),.int .u64 0,.string ByteArray.empty,.int .i64 (vr none)] 95)=w3 at *;generalize p:w.heap.size=X at *;have x0:w3.cell? ⟨X,0,none⟩=some (.int .i64 (vk v)):=d.o.c 0;have x1:w3.cell? ⟨X,1,none⟩=some (.int .i64 (vi v)):=d.o.c 1;have J:w3.cell? ⟨X,2,none⟩=some (.int .u64 0):=d.o.c 2;have H:w3.cell? ⟨X,3,none⟩=some (.string ByteArray.empty):=d.o.c 3;have G:w3.cell? ⟨X,4,none⟩=some (.int .i64 (vr v)):=d.o.c 4;have F:=a.o.c 0;have E:=a.o.c 1;have D:=a.o.c 2;have C:=a.o.c 3;have A:=a.o.c 4;have z:=a.o.ME 0;have y:=a.o.ME 1;have u:=a.o.ME 2;have t:=a.o.ME 3;have s:=a.o.ME 4;go_wp2;have f:=ah (((((a.o.set (j:=0) (by omega) (.int .i64 (vk v))).set (j:=1) (by omega) (.int .i64 (vi v))).set (j:=2) (by omega) (.int .u64 0)).set (j:=3) (by omega) (.string ByteArray.empty)).set (j:=4) (by omega) (.int .i64 (vr v)));have q:=ah (show Below X w _ from r.o.trans ((((((Keeps.setCell (S:=fun b=>b=X+1) (Keeps.refl w3 _) (g:=X+1) (j:=0) rfl (.int .i64 (vk v))).setCell (g:=X+1) (j:=1) rfl (.int .i64 (vi v))).setCell (g:=X+1) (j:=2) rfl (.int .u64 0)).setCell (g:=X+1) (j:=3) rfl (.string ByteArray.empty)).setCell (g:=X+1) (j:=4) rfl (.int .i64 (vr v))).below (B:=X) (dh d.o.lt) (fun b e=>by omega)));generalize ((((w3.setCell ⟨X+1,0,none⟩ (.int .i64 (vk v))).setCell ⟨X+1,1,none⟩ (.int .i64 (vi v))).setCell ⟨X+1,2,none⟩ (.int .u64 0)).setCell ⟨X+1,3,none⟩ (.string ByteArray.empty)).setCell ⟨X+1,4,none⟩ (.int .i64 (vr v))=w7 at *;have m:w7.cell? ⟨X+1,0,none⟩=some (.int .i64 (vk v)):=f.o.c 0;have q1:w7.cell? ⟨X+1,1,none⟩=some (.int .i64 (vi v)):=f.o.c 1;have l:w7.cell? ⟨X+1,2,none⟩=some (.int .u64 0):=f.o.c 2;have k:w7.cell? ⟨X+1,3,none⟩=some (.string ByteArray.empty):=f.o.c 3;have i:w7.cell? ⟨X+1,4,none⟩=some (.int .i64 (vr v)):=f.o.c 4;refine bodyPost_ret (v:=.agg #[.int .i64 (vk v),.int .i64 (vi v),.int .u64 0,.string ByteArray.empty,.int .i64 (vr v)]) ?_ rfl ⟨rfl,by rw [p];exact q.o⟩;simp [results,Tryz.results59,go_sem,m,q1,l,k,i]
section
variable {S:Nat->Prop} {base cap i j n:Nat} {e:En} {es:List En} {h:Hp} {o:Ob} {w:World}
theorem Aj (v:HV) (h:es[j]?=some e):(((((kr es).set (j*10+5) (.int .i64 (vk v))).set (j*10+5+1) (.int .i64 (vi v))).set (j*10+5+2) (.int .u64 0)).set (j*10+5+3) (.string ByteArray.empty)).set (j*10+5+4) (.int .i64 (vr v))=kr (es.set j (e.1,v)):=by
 have g:=(aJ.1 h).1;have a:=m_ es;refine List.ext_getElem? (fun p=>?_);by_cases c:p/10=j
 ·have b:∀ r,r<10->(kr es)[j*10+r]?=(iX e)[r]?:=fun r hr=>eX iX 10 (fun _=>rfl) es j r e h hr
  have f:∀ r,r<10->(kr (es.set j (e.1,v)))[j*10+r]?=(iX (e.1,v))[r]?:=fun r hr=>eX iX 10 (fun _=>rfl) _ j r _ (dY (by omega)) hr;obtain ⟨r,hr,rfl⟩:∃ r,r<10/\p=j*10+r:=⟨p%10,Nat.mod_lt _ (by decide),by omega⟩
  rw [f r hr];have d:r=0∨r=1∨r=2∨r=3∨r=4∨r=5∨r=6∨r=7∨r=8∨r=9:=by omega
  rcases d with rfl|rfl|rfl|rfl|rfl|rfl|rfl|rfl|rfl|rfl
  ·rw [aH (by omega)];rw [aH (by omega)];rw [aH (by omega)];rw [aH (by omega)];rw [aH (by omega)];rw [b 0 (by decide)];rfl
  ·rw [aH (by omega)];rw [aH (by omega)];rw [aH (by omega)];rw [aH (by omega)];rw [aH (by omega)];rw [b 1 (by decide)];rfl
  ·rw [aH (by omega)];rw [aH (by omega)];rw [aH (by omega)];rw [aH (by omega)];rw [aH (by omega)];rw [b 2 (by decide)];rfl
  ·rw [aH (by omega)];rw [aH (by omega)];rw [aH (by omega)];rw [aH (by omega)];rw [aH (by omega)];rw [b 3 (by decide)];rfl
  ·rw [aH (by omega)];rw [aH (by omega)];rw [aH (by omega)];rw [aH (by omega)];rw [aH (by omega)];rw [b 4 (by decide)];rfl
  ·rw [aH (by omega)];rw [aH (by omega)];rw [aH (by omega)];rw [aH (by omega)];rw [show j*10+5=j*10+5 by omega];rw [dY (Nat.lt_of_lt_of_eq (show _<es.length*10 by omega) (by simp [a]))];rfl
  ·rw [aH (by omega)];rw [aH (by omega)];rw [aH (by omega)];rw [show j*10+6=j*10+5+1 by omega];rw [dY (Nat.lt_of_lt_of_eq (show _<es.length*10 by omega) (by simp [a]))];rfl
  ·rw [aH (by omega)];rw [aH (by omega)];rw [show j*10+7=j*10+5+2 by omega];rw [dY (Nat.lt_of_lt_of_eq (show _<es.length*10 by omega) (by simp [a]))];rfl
  ·rw [aH (by omega)];rw [show j*10+8=j*10+5+3 by omega];rw [dY (Nat.lt_of_lt_of_eq (show _<es.length*10 by omega) (by simp [a]))];rfl
  ·rw [show j*10+9=j*10+5+4 by omega];rw [dY (Nat.lt_of_lt_of_eq (show _<es.length*10 by omega) (by simp [a]))];rfl
 ·rw [show (kr (es.set j (e.1,v)))[p]?=(kr es)[p]? by rw [jY,jY,aH (by omega)]]
  rw [aH (by omega)];rw [aH (by omega)];rw [aH (by omega)];rw [aH (by omega)];rw [aH (by omega)]
theorem MV.Mc {L:SM} (a:MV base S h L w) (v:HV) {o:Ob} (ho:h.ob n=some { o with es:=es }) {g:Nat} (c:L.es n=.slice (some ⟨g,0,none⟩) es.length cap) (f:es[j]?=some e):
 MV base S (h.ents n (es.set j (e.1,v))) L (((((w.setCell ⟨g,j*10+5,none⟩ (.int .i64 (vk v))).setCell ⟨g,j*10+5+1,none⟩ (.int .i64 (vi v))).setCell ⟨g,j*10+5+2,none⟩ (.int .u64 0)).setCell ⟨g,j*10+5+3,none⟩ (.string ByteArray.empty)).setCell ⟨g,j*10+5+4,none⟩ (.int .i64 (vr v)))/\Keeps w (((((w.setCell ⟨g,j*10+5,none⟩ (.int .i64 (vk v))).setCell ⟨g,j*10+5+1,none⟩ (.int .i64 (vi v))).setCell ⟨g,j*10+5+2,none⟩ (.int .u64 0)).setCell ⟨g,j*10+5+3,none⟩ (.string ByteArray.empty)).setCell ⟨g,j*10+5+4,none⟩ (.int .i64 (vr v))) S:=by
 have l:=(aJ.1 f).1;have d:=a.en n _ ho;simp only at d;rw [c] at d;have k:=(aL (aL (aL (aL (aL d (show j*10+5<es.length*10 by omega) (.int .i64 (vk v))) (show j*10+5+1<es.length*10 by omega) (.int .i64 (vi v))) (show j*10+5+2<es.length*10 by omega) (.int .u64 0)) (show j*10+5+3<es.length*10 by omega) (.string ByteArray.empty)) (show j*10+5+4<es.length*10 by omega) (.int .i64 (vr v)))
 rw [Aj v f] at k;refine a.Ll ho (Keeps.mono (S:=fun b=>b=g) (Keeps.setCell (S:=fun b=>b=g) (Keeps.setCell (S:=fun b=>b=g) (Keeps.setCell (S:=fun b=>b=g) (Keeps.setCell (S:=fun b=>b=g) (Keeps.setCell (S:=fun b=>b=g) (Keeps.refl w (fun b=>b=g)) rfl (.int .i64 (vk v))) rfl (.int .i64 (vi v))) rfl (.int .u64 0)) rfl (.string ByteArray.empty)) rfl (.int .i64 (vr v))) (fun b e=>?_)) ?_
 ·rw [c,e];simp [Value.ownBlock]
 ·rw [c,bN];exact k
theorem sW {v:HV} (ho:h.ob n=some o) (a:o.es[i]?=some e):h.putAt n i v=(h.ents n (o.es.set i (e.1,v))).back n:=by
 unfold Hp.putAt Hp.ents Hp.upd;have hx:=Hp.I_ ho;have hm:o.es.modify i (fun e=>(e.1,v))=o.es.set i (e.1,v):=by
  refine List.ext_getElem? (fun j=>?_);rw [List.getElem?_modify];by_cases c:i=j
  ·subst c
   rw [a,dY (aJ.1 a).1];simp
  ·rw [aH c]
   simp [c]
 have:h.objs.modify n (Option.map fun o':Ob=>{ o' with es:=o'.es.modify i fun e=>(e.1,v) })=h.objs.modify n (Option.map fun o':Ob=>{ o' with es:=o.es.set i (e.1,v) }):=by
  refine List.ext_getElem? (fun j=>?_);simp only [List.getElem?_modify];by_cases c:n=j
  ·subst c
   rw [hx];simp [hm]
  ·simp [c]
 rw [this]
end
end Go.Proofs.YtbpcdfbmnklcjaaGreatDoor
