import Derived.Test.YtedpifhlffcmkaaGreatDoorKHYE
import Derived.Test.YtedpifhlffcmkaaGreatDoorKHST
import Derived.Test.YtedpifhlffcmkaaGreatDoorKHUE
import Derived.Test.YtedpifhlffcmkaaGreatDoorKHUC
import Derived.Deep.RegionLaw
namespace Go.Proofs.YtedpifhlffcmkaaGreatDoor
open Go Go.RowKit
set_option maxHeartbeats 6400000
set_option maxRecDepth 100000
set_option linter.unusedVariables false
section
variable {S:Nat->Prop} {X base m n:Nat} {h:Hp} {v':Value} {w w1:World}
def cu (n:Nat):HV:=if n=0 then none else some (.inr n)
theorem iJ (h:n≠0):cu n=some (.inr n):=by unfold cu;rw [if_neg h]
theorem kN (w:World) (n:Nat) (v:HV) (hv:cu n=v):Calls Tryz.prog 45 #[.int .i64 (n:Int)] w fun e w'=>e=.returned (.agg #[.int .i64 (vk v),.int .i64 (vi v),.int .u64 0,.string ByteArray.empty,.int .i64 (vr v)])/\Below w.heap.size w w':=by
 have HZ:=ah (oz w none)
 have HB:=ah (aJ w (.cells #[.int .i64 (vk none),.int .i64 (vi none),.int .u64 0,.string ByteArray.empty,.int .i64 (vr none)] 95))
 have HV:=ah hv
 by_cases hn:n=0
 ·have hni:((n:Int)==0)=true:=by simp [hn]
  have hvn:v=none:=by rw [<-hv,hn];rfl
  subst hvn
  clear hv
  go_enter Tryz.func45,Tryz.ntmps45
  go_upto_region 1 with (fail)
  change Code.wp _ _ _ _ (w.alloc (.cells #[.int .i64 (vk none),.int .i64 (vi none),.int .u64 0,.string ByteArray.empty,.int .i64 (vr none)] 95))
  generalize w.alloc (.cells #[.int .i64 (vk none),.int .i64 (vi none),.int .u64 0,.string ByteArray.empty,.int .i64 (vr none)] 95)=w3 at *
  generalize hX:w.heap.size=X at *
  have y0:=HZ.o.cell (j:=0) (by omega)
  have y1:=HZ.o.cell (j:=1) (by omega)
  have y2:=HZ.o.cell (j:=2) (by omega)
  have y3:=HZ.o.cell (j:=3) (by omega)
  have y4:=HZ.o.cell (j:=4) (by omega)
  have z0:=HZ.o.Jv 0
  have z1:=HZ.o.Jv 1
  have z2:=HZ.o.Jv 2
  have z3:=HZ.o.Jv 3
  have z4:=HZ.o.Jv 4
  go_wp2
  have HR:=ah (((((HZ.o.set (j:=0) (by omega) (.int .i64 0)).set (j:=1) (by omega) (.int .i64 0)).set (j:=2) (by omega) (.int .u64 0)).set (j:=3) (by omega) (.string (ByteArray.mk #[]))).set (j:=4) (by omega) (.int .i64 0))
  have HK:=ah (show Below X w _ from HB.o.trans ((((((Keeps.setCell (S:=fun b=>b=X) (Keeps.refl w3 _) (g:=X) (j:=0) rfl (.int .i64 0)).setCell (g:=X) (j:=1) rfl (.int .i64 0)).setCell (g:=X) (j:=2) rfl (.int .u64 0)).setCell (g:=X) (j:=3) rfl (.string (ByteArray.mk #[]))).setCell (g:=X) (j:=4) rfl (.int .i64 0)).below (B:=X) (Nat.le_of_lt HZ.o.lt) (fun b e=>by omega)))
  generalize ((((w3.setCell ⟨X,0,none⟩ (.int .i64 0)).setCell ⟨X,1,none⟩ (.int .i64 0)).setCell ⟨X,2,none⟩ (.int .u64 0)).setCell ⟨X,3,none⟩ (.string (ByteArray.mk #[]))).setCell ⟨X,4,none⟩ (.int .i64 0)=w7 at *
  have q0:w7.cell? ⟨X,0,none⟩=some (.int .i64 0):=HR.o.cell (j:=0) (by omega)
  have q1:w7.cell? ⟨X,1,none⟩=some (.int .i64 0):=HR.o.cell (j:=1) (by omega)
  have q2:w7.cell? ⟨X,2,none⟩=some (.int .u64 0):=HR.o.cell (j:=2) (by omega)
  have q3:w7.cell? ⟨X,3,none⟩=some (.string (ByteArray.mk #[])):=HR.o.cell (j:=3) (by omega)
  have q4:w7.cell? ⟨X,4,none⟩=some (.int .i64 0):=HR.o.cell (j:=4) (by omega)
  refine bodyPost_ret (v:=.agg #[.int .i64 0,.int .i64 0,.int .u64 0,.string (ByteArray.mk #[]),.int .i64 0]) ?_ rfl ⟨rfl,by rw [hX];exact HK.o⟩
  simp [results,Tryz.results45,go_sem,q0,q1,q2,q3,q4]
 ·have hni:((n:Int)==0)=false:=by simp;omega
  have hvn:v=some (.inr n):=by rw [<-hv];exact iJ hn
  subst hvn
  clear hv
  go_enter Tryz.func45,Tryz.ntmps45
  go_upto_region 1 with (fail)
  change Code.wp _ _ _ _ (w.alloc (.cells #[.int .i64 (vk none),.int .i64 (vi none),.int .u64 0,.string ByteArray.empty,.int .i64 (vr none)] 95))
  generalize w.alloc (.cells #[.int .i64 (vk none),.int .i64 (vi none),.int .u64 0,.string ByteArray.empty,.int .i64 (vr none)] 95)=w3 at *
  generalize hX:w.heap.size=X at *
  have y0:=HZ.o.cell (j:=0) (by omega)
  have y1:=HZ.o.cell (j:=1) (by omega)
  have y2:=HZ.o.cell (j:=2) (by omega)
  have y3:=HZ.o.cell (j:=3) (by omega)
  have y4:=HZ.o.cell (j:=4) (by omega)
  have z0:=HZ.o.Jv 0
  have z1:=HZ.o.Jv 1
  have z2:=HZ.o.Jv 2
  have z3:=HZ.o.Jv 3
  have z4:=HZ.o.Jv 4
  go_wp2
  have HR:=ah (((((HZ.o.set (j:=0) (by omega) (.int .i64 5)).set (j:=1) (by omega) (.int .i64 0)).set (j:=2) (by omega) (.int .u64 0)).set (j:=3) (by omega) (.string (ByteArray.mk #[]))).set (j:=4) (by omega) (.int .i64 (n:Int)))
  have HK:=ah (show Below X w _ from HB.o.trans ((((((Keeps.setCell (S:=fun b=>b=X) (Keeps.refl w3 _) (g:=X) (j:=0) rfl (.int .i64 5)).setCell (g:=X) (j:=1) rfl (.int .i64 0)).setCell (g:=X) (j:=2) rfl (.int .u64 0)).setCell (g:=X) (j:=3) rfl (.string (ByteArray.mk #[]))).setCell (g:=X) (j:=4) rfl (.int .i64 (n:Int))).below (B:=X) (Nat.le_of_lt HZ.o.lt) (fun b e=>by omega)))
  generalize ((((w3.setCell ⟨X,0,none⟩ (.int .i64 5)).setCell ⟨X,1,none⟩ (.int .i64 0)).setCell ⟨X,2,none⟩ (.int .u64 0)).setCell ⟨X,3,none⟩ (.string (ByteArray.mk #[]))).setCell ⟨X,4,none⟩ (.int .i64 (n:Int))=w7 at *
  have q0:w7.cell? ⟨X,0,none⟩=some (.int .i64 5):=HR.o.cell (j:=0) (by omega)
  have q1:w7.cell? ⟨X,1,none⟩=some (.int .i64 0):=HR.o.cell (j:=1) (by omega)
  have q2:w7.cell? ⟨X,2,none⟩=some (.int .u64 0):=HR.o.cell (j:=2) (by omega)
  have q3:w7.cell? ⟨X,3,none⟩=some (.string (ByteArray.mk #[])):=HR.o.cell (j:=3) (by omega)
  have q4:w7.cell? ⟨X,4,none⟩=some (.int .i64 (n:Int)):=HR.o.cell (j:=4) (by omega)
  refine bodyPost_ret (v:=.agg #[.int .i64 5,.int .i64 0,.int .u64 0,.string (ByteArray.mk #[]),.int .i64 (n:Int)]) ?_ rfl ⟨rfl,by rw [hX];exact HK.o⟩
  simp [results,Tryz.results45,go_sem,q0,q1,q2,q3,q4]
def SM.JW (L:SM) (n X:Nat) (v:Value):SM:={ L with oS:=v,ob:=fun k=>if k=n then X else L.ob k,es:=fun k=>if k=n then .slice none 0 0 else L.es k }
theorem oM (h:Hp) (m:Nat) (k:Nat):Hp.ob { h with objs:=h.objs++[some ⟨h.white,m,[],false⟩] } k=if k=h.objs.length then some ⟨h.white,m,[],false⟩ else h.ob k:=h.Fu _ k
theorem vF (L:SM) (n X:Nat) (v:Value):((List.range (n+1)).map fun k=>Value.pointer (some ⟨(L.JW n X v).ob k,0,none⟩))=((List.range n).map fun k=>Value.pointer (some ⟨L.ob k,0,none⟩))++[Value.pointer (some ⟨X,0,none⟩)]:=by
 rw [List.range_succ,List.map_append]
 congr 1
 ·refine List.map_congr_left (fun k hk=>?_)
  have:k≠n:=by have:=List.mem_range.1 hk;omega
  simp [SM.JW,this]
 ·simp [SM.JW]
theorem JU.push {L:SM} (a:JU base S h L w) {r:Nat->Value} (kk:Keeps w w1 (fun b=>b=X∨L.oS.ownBlock=some b)) (hX0:∃ f,aD w 101 X 25 f) (hX:aD w1 101 X 25 (jw r 5 h.white false m (.slice none 0 0) false)) (hF:Free h L X) (hS:S X) (hB:base<=X)
 (hown:w1.ownsRow base 90 1 v' (h.objs.length+1) (((List.range h.objs.length).map fun k=>Value.pointer (some ⟨L.ob k,0,none⟩))++[Value.pointer (some ⟨X,0,none⟩)])) (hv:∀ g,v'.ownBlock=some g->L.oS.ownBlock=some g∨w.heap.size<=g):
 JU base S { h with objs:=h.objs++[some ⟨h.white,m,[],false⟩] } (L.JW h.objs.length X v') (w1.setCell ⟨L.H,0,none⟩ v')/\Keeps w (w1.setCell ⟨L.H,0,none⟩ v') S:=by
 obtain ⟨f0,hX0⟩:=hX0
 have k1:Keeps w1 (w1.setCell ⟨L.H,0,none⟩ v') (fun b=>b=L.H):=Keeps.setCell (S:=fun b=>b=L.H) (Keeps.refl w1 _) rfl v'
 have k2:Keeps w (w1.setCell ⟨L.H,0,none⟩ v') (fun b=>(b=X∨L.oS.ownBlock=some b)∨b=L.H):=(kk.mono (fun b e=>Or.inl e)).trans (k1.mono (fun b e=>Or.inr e))
 have hlen:(h.objs++[some (⟨h.white,m,[],false⟩:Ob)]).length=h.objs.length+1:=by simp
 have hr1:aD w1 105 L.H 18 (qZ h L):=a.hp.keep kk (fun e=>by
  rcases e with e|e
  ·exact hF.H e
  ·exact ak a.oo a.hp (by decide) e)
 have hT:∀ {T s n':Nat} {v:Value} {xs:List Value},w.ownsRow base T s v n' xs->T≠101->T≠105->T≠90->∀ g,v.ownBlock=some g->¬ ((g=X∨L.oS.ownBlock=some g)∨g=L.H):=by
  intro T s n' v xs h1 h2 h3 h4 g h5 h6
  rcases h6 with (h6|h6)|h6
  ·exact ak h1 hX0 h2 (h6 ▸ h5)
  ·exact aV h1 a.oo h4 h6 h5
  ·exact ak h1 a.hp h3 (h6 ▸ h5)
 have hR:∀ {n N:Nat} {f:Nat->Value},n<h.objs.length->aD w 101 (L.ob n) N f->¬ ((L.ob n=X∨L.oS.ownBlock=some (L.ob n))∨L.ob n=L.H):=by
  intro n N f hn h1 h2
  rcases h2 with (h2|h2)|h2
  ·exact hF.ob n hn h2
  ·exact ak a.oo h1 (by decide) h2
  ·exact h1.apart a.hp (by decide) h2
 have get:∀ n o,Hp.ob { h with objs:=h.objs++[some ⟨h.white,m,[],false⟩] } n=some o->(n=h.objs.length/\o=⟨h.white,m,[],false⟩)∨(n≠h.objs.length/\n<h.objs.length/\h.ob n=some o):=by
  intro n o e
  rw [oM] at e
  split at e
  ·rename_i c;simp at e;exact .inl ⟨c,e.symm⟩
  ·rename_i c;exact .inr ⟨c,Hp.Es e,e⟩
 have pob:∀ n,n≠h.objs.length->(L.JW h.objs.length X v').ob n=L.ob n:=fun n hn=>by simp [SM.JW,hn]
 have pes:∀ n,n≠h.objs.length->(L.JW h.objs.length X v').es n=L.es n:=fun n hn=>by simp [SM.JW,hn]
 have pob':(L.JW h.objs.length X v').ob h.objs.length=X:=by simp [SM.JW]
 have pes':(L.JW h.objs.length X v').es h.objs.length=.slice none 0 0:=by simp [SM.JW]
 have hX2:aD (w1.setCell ⟨L.H,0,none⟩ v') 101 X 25 (jw r 5 h.white false m (.slice none 0 0) false):=hX.keep k1 (fun e=>hF.H e.symm)
 refine ⟨⟨(hr1.set (j:=0) (by decide) v').congr (bg _ rfl rfl rfl rfl rfl rfl rfl rfl rfl rfl rfl rfl rfl rfl rfl rfl rfl rfl),?_,fun n o e=>?_,fun n hn e=>?_,fun n o e=>?_,fun j hj=>aj (a.li j hj) k2 (hT (a.li j hj) (by decide) (by decide) (by decide)),aj a.ro k2 (hT a.ro (by decide) (by decide) (by decide)),?_,?_,a.lj,a.bH,?_,Nat.le_trans a.bs k2.size,a.sH,?_,?_,?_,a.sl,a.sr,fun b hb=>a.up b (Nat.le_trans k2.size hb)⟩,k2.mono (fun b e=>?_)⟩
 ·rw [hlen,vF]
  exact aj hown k1 (fun g hg e=>ak hown hr1 (by decide) (e ▸ hg))
 ·rcases get n o e with ⟨rfl,rfl⟩|⟨c,hn,e2⟩
  ·rw [pob',pes'];exact ⟨r,hX2⟩
  ·obtain ⟨r',hr'⟩:=a.ob n o e2
   rw [pob n c,pes n c]
   exact ⟨r',hr'.keep k2 (hR hn hr')⟩
 ·rw [oM] at e
  split at e
  ·cases e
  ·rename_i c
   have hn':n<h.objs.length:=by
    have:n<(h.objs++[some (⟨h.white,m,[],false⟩:Ob)]).length:=hn
    rw [hlen] at this
    omega
   obtain ⟨r',c',hc',hr'⟩:=a.dd n hn' e
   rw [pob n c]
   exact ⟨r',c',hc',hr'.keep k2 (hR hn' hr')⟩
 ·rcases get n o e with ⟨rfl,rfl⟩|⟨c,hn,e2⟩
  ·rw [pes'];exact ⟨rfl,.inl ⟨rfl,rfl⟩⟩
  ·rw [pes n c];exact aj (a.en n o e2) k2 (hT (a.en n o e2) (by decide) (by decide) (by decide))
 ·intro n k hn hk e
  have hn2:n<h.objs.length+1:=by
   have:n<(h.objs++[some (⟨h.white,m,[],false⟩:Ob)]).length:=hn
   rwa [hlen] at this
  have hk2:k<h.objs.length+1:=by
   have:k<(h.objs++[some (⟨h.white,m,[],false⟩:Ob)]).length:=hk
   rwa [hlen] at this
  by_cases c:n=h.objs.length<;>by_cases c':k=h.objs.length
  ·omega
  ·rw [c,pob',pob k c'] at e
   exact absurd e.symm (hF.ob k (by omega))
  ·rw [c',pob',pob n c] at e
   exact absurd e (hF.ob n (by omega))
  ·rw [pob n c,pob k c'] at e
   exact a.ij n k (by omega) (by omega) e
 ·intro n k o o' g e1 e2 h1 h2
  rcases get n o e1 with ⟨rfl,rfl⟩|⟨c,hn,e3⟩
  ·rw [pes'] at h1;simp [Value.ownBlock] at h1
  ·rcases get k o' e2 with ⟨rfl,rfl⟩|⟨c',hn',e4⟩
   ·rw [pes'] at h2;simp [Value.ownBlock] at h2
   ·rw [pes n c] at h1
    rw [pes k c'] at h2
    exact a.ei n k o o' g e3 e4 h1 h2
 ·intro n hn
  have hn2:n<h.objs.length+1:=by
   have:n<(h.objs++[some (⟨h.white,m,[],false⟩:Ob)]).length:=hn
   rwa [hlen] at this
  by_cases c:n=h.objs.length
  ·rw [c,pob'];exact hB
  ·rw [pob n c];exact a.bo n (by omega)
 ·intro n hn
  have hn2:n<h.objs.length+1:=by
   have:n<(h.objs++[some (⟨h.white,m,[],false⟩:Ob)]).length:=hn
   rwa [hlen] at this
  by_cases c:n=h.objs.length
  ·rw [c,pob'];exact hS
  ·rw [pob n c];exact a.so n (by omega)
 ·intro g hg
  rcases hv g hg with x|x
  ·exact a.sO g x
  ·exact a.up g x
 ·intro n o g e hg
  rcases get n o e with ⟨rfl,rfl⟩|⟨c,hn,e3⟩
  ·rw [pes'] at hg;simp [Value.ownBlock] at hg
  ·rw [pes n c] at hg;exact a.se n o g e3 hg
 ·rcases e with (e|e)|e
  ·exact e ▸ hS
  ·exact a.sO b e
  ·exact e ▸ a.sH
theorem wZ:(Tryz.prog.info? 90).map (fun i=>(i.zero,i.size,i.bytes))=some (some (.pointer none),1,8):=by kernel_rfl
theorem xU {L:SM} (a:JU base S h L w) (hl9:h.objs.length<=5001) (hby:h.bytes<=300000) (hcr:h.D6<=300000) (hlv:h.live<=10000) {r:Nat->Value} (hX:aD w 101 X 25 (jw r 5 0 false m (.slice none 0 0) false)) (hF:Free h L X) (hS:S X) (hB:base<=X):
 Calls Tryz.prog 41 #[.pointer (some ⟨L.H,0,none⟩),.pointer (some ⟨X,0,none⟩)] w fun e w'=>e=.returned (.int .i64 (h.objs.length:Int))/\Keeps w w' S/\∃ L',L'.H=L.H/\JU base S (h.make m) L' w':=by
 have c6:w.cell? ⟨L.H,6,none⟩=some (.int .i64 (h.white:Int)):=a.hp.cell (j:=6) (by omega)
 have x1:w.cell? ⟨X,1,none⟩=some (.int .i64 0):=hX.cell (j:=1) (by omega)
 have z1:=hX.Jv 1
 have HA:=ah a
 have HX:=ah hX
 have HX1:=ah ((hX.set (j:=1) (by omega) (.int .i64 (h.white:Int))).congr (f':=jw r 5 h.white false m (.slice none 0 0) false) (fun i _=>by
  by_cases c:i=1
  ·subst c;rfl
  ·rw [if_neg c];simp only [jw,if_neg c]))
 have HK1:=ah (Keeps.setCell (S:=fun b=>b=X) (Keeps.refl w _) (g:=X) (j:=1) rfl (.int .i64 (h.white:Int)))
 have HF:=ah hF
 clear a hX hF
 go_enter Tryz.func41,Tryz.ntmps41
 go_upto_region 2 with (fail)
 generalize w.setCell ⟨X,1,none⟩ (.int .i64 (h.white:Int))=w1 at *
 clear c6 x1 z1
 have HH1:=ah (HA.o.hp.keep HK1.o (fun e=>HF.o.H e))
 have HO1:=ah (aj HA.o.oo HK1.o (fun g hg e=>HF.o.oS (e ▸ hg)))
 obtain ⟨ao,co,hov⟩:=aF HA.o.oo
 have c0:w1.cell? ⟨L.H,0,none⟩=some (.slice ao h.objs.length co):=by
  have:=HH1.o.cell (j:=0) (by omega)
  rw [this]
  exact congrArg some hov
 have HOV:=ah hov
 clear hov
 go_upto_region 3 with (first
  |(at_builtin
    refine iF rfl (.tmp 16) (.tmp 18) 102 90 1 8 (.pointer none) rfl Tryz.underlying102 wZ rfl (by decide) base L.oS h.objs.length _ [.pointer (some ⟨X,0,none⟩)] HO1.o HOV.o.symm rfl rfl (fun u hu=>by simp at hu;subst hu;rfl) (by omega) (by decide) (Nat.le_trans HA.o.bs HK1.o.size) ?_
    intro v' w2 g1 g2 g3 g4
    obtain ⟨gv,cv,hvf⟩:∃ gv cv,v'=.slice (some ⟨gv,0,none⟩) (h.objs.length+1) cv:=by
     rcases g1.2 with ⟨_,h9⟩|⟨g,cap,cur,hv,_⟩
     ·omega
     ·exact ⟨g,cap,hv⟩
    subst hvf
    have hb2:=g2 base w1 (Below.refl _ _) (Nat.le_refl _)
    have k12:Keeps w1 w2 (fun b=>L.oS.ownBlock=some b):=⟨hb2.os,hb2.tape,hb2.output,hb2.size,fun b hb hn=>g3 b hb hn⟩
    have HP:=ah (HA.o.push (w1:=w2) (X:=X) (m:=m) (r:=r) ((HK1.o.mono (fun b e=>Or.inl e)).trans (k12.mono (fun b e=>Or.inr e))) ⟨_,HX.o⟩ (HX1.o.keep k12 (fun e=>HF.o.oS e)) HF.o hS hB g1 (fun g e=>by
     by_cases c:L.oS.ownBlock=some g
     ·exact .inl c
     ·right
      rcases Nat.lt_or_ge g w1.heap.size with d|d
      ·exact absurd e (g4 g d c)
      ·exact Nat.le_trans HK1.o.size d))
    have hH2:=HH1.o.keep k12 (fun e=>ak HA.o.oo HA.o.hp (by decide) e)
    have p0:=hH2.cell (j:=0) (by omega)
    have q0:=hH2.Jv 0
    clear g1 g2 g3 g4 hb2 k12 hH2)
  |go_in)
 generalize w2.setCell ⟨L.H,0,none⟩ (.slice (some ⟨gv,0,none⟩) (h.objs.length+1) cv)=w3 at *
 clear p0 q0 c0 HO1 HH1 HK1 HX1 HX HOV
 obtain ⟨oS1,ob1,es1,ho1,he1,HQ⟩:∃ oS1 ob1 es1,ob1 h.objs.length=X/\es1 h.objs.length=.slice none 0 0/\Hq (JU base S { h with objs:=h.objs++[some ⟨h.white,m,[],false⟩] } ⟨L.H,oS1,ob1,es1,L.li,L.rS⟩ w3/\Keeps w w3 S):=
  ⟨.slice (some ⟨gv,0,none⟩) (h.objs.length+1) cv,fun k=>if k=h.objs.length then X else L.ob k,fun k=>if k=h.objs.length then .slice none 0 0 else L.es k,by simp,by simp,HP⟩
 clear HP
 have HN:=ah (show JU base S { h with objs:=h.objs++[some ⟨h.white,m,[],false⟩],live:=h.live+1 } ⟨L.H,oS1,ob1,es1,L.li,L.rS⟩ (w3.setCell ⟨L.H,2,none⟩ (.int .i64 ((h.live:Int)+1)))/\Keeps w3 (w3.setCell ⟨L.H,2,none⟩ (.int .i64 ((h.live:Int)+1))) S from HQ.o.1.num (h':={ h with objs:=h.objs++[some ⟨h.white,m,[],false⟩],live:=h.live+1 }) 2 (.int .i64 ((h.live:Int)+1)) (by decide) rfl ⟨rfl,rfl,rfl,rfl,rfl,rfl,rfl⟩ rfl (bg _ rfl rfl rfl rfl rfl rfl rfl rfl rfl rfl rfl rfl rfl rfl rfl rfl rfl rfl))
 have c2:w3.cell? ⟨L.H,2,none⟩=some (.int .i64 (h.live:Int)):=HQ.o.1.hp.cell (j:=2) (by omega)
 have z2:w3.frozen? ⟨L.H,2,none⟩=false:=HQ.o.1.hp.Jv 2
 go_upto_region 4 with (fail)
 generalize w3.setCell ⟨L.H,2,none⟩ (.int .i64 ((h.live:Int)+1))=w4 at *
 clear c2 z2
 have HOB:=ah (show Hp.ob { h with objs:=h.objs++[some ⟨h.white,m,[],false⟩],live:=h.live+1 } h.objs.length=some ⟨h.white,m,[],false⟩ from by
  have:=oM h m h.objs.length
  rw [if_pos rfl] at this
  exact this)
 obtain ⟨r5,hr5⟩:=HN.o.1.ob h.objs.length _ HOB.o
 simp only [ho1,he1] at hr5
 have x0:w4.cell? ⟨X,0,none⟩=some (.int .i64 5):=hr5.cell (j:=0) (by omega)
 have x5:w4.cell? ⟨X,5,none⟩=some (.slice none 0 0):=hr5.cell (j:=5) (by omega)
 have HSZ:=ah (pF w4 X none 0 0 (by omega) x0 x5)
 have HG:=ah (qI HN.o.1 40 (by omega) hby hcr)
 obtain ⟨gq,cq,hoq,-⟩:=HN.o.1.slot (by simp)
 have HSL:=ah hoq
 clear x0 x5 hr5 ho1 he1 hoq
 go_wp2_with (first
  |(go_at_call 58;refine HSZ.o.mono ?_;rintro e5 w5 ⟨rfl,rfl⟩)
  |(go_at_call 57;refine HG.o.mono ?_;rintro e6 w6 ⟨rfl,h6,k6⟩;have H6:=ah h6;have K6:=ah k6;clear h6 k6;have c6:w6.cell? ⟨L.H,0,none⟩=some (.slice (some ⟨gq,0,none⟩) (h.objs++[some (⟨h.white,m,[],false⟩:Ob)]).length cq):=(H6.o.hp.cell (j:=0) (by omega)).trans (congrArg some HSL.o);rw [List.length_append,List.length_singleton] at c6)
  |go_in)
 go_ret
 refine ⟨rfl,HQ.o.2.trans (HN.o.2.trans K6.o),⟨L.H,oS1,ob1,es1,L.li,L.rS⟩,rfl,H6.o⟩
end
end Go.Proofs.YtedpifhlffcmkaaGreatDoor
namespace Go.Proofs.YtedpifhlffcmkaaGreatDoor
set_option linter.unusedVariables false
section
variable {n:Nat}
theorem jK (g:Hp) (n m:Nat):((g.back n).ob m).map Ob.es=(g.ob m).map Ob.es:=by
 unfold Hp.back
 split
 ·split
  ·show ((g.upd n fun o=>{ o with col:=2 }).ob m).map _=_
   rw [Hp.Ed]
   split
   ·cases g.ob m<;>rfl
   ·rfl
  ·rfl
 ·rfl
theorem tF (g:Hp) (n:Nat):(g.back n).nu+(g.back n).again.length<=g.nu+g.again.length+1:=by
 unfold Hp.back
 split
 ·split
  ·have h1:=g.Gw n 2 rfl
   have h2:Hp.nu { g.upd n (fun o=>{ o with col:=2 }) with again:=g.again++[n] }=(g.upd n fun o=>{ o with col:=2 }).wn+g.grey.length+g.D8.length+g.weak.length:=rfl
   have h3:g.nu=g.wn+g.grey.length+g.D8.length+g.weak.length:=rfl
   rw [h2,h3]
   simp
   omega
  ·omega
 ·omega
theorem A_ (h:Hp) (n:Nat) (f:List En->List En):(h.upd n fun o=>{ o with es:=f o.es }).wn=h.wn:=by
 refine kQ (h.El n _) (fun m=>?_)
 rw [Hp.Ed]
 split
 ·cases h.ob m<;>rfl
 ·rfl
theorem xP {g:Hp} (h:g.state≠1->g.grey=[]/\g.again=[]/\g.weak=[]/\g.D8=[]):(g.back n).state≠1->(g.back n).grey=[]/\(g.back n).again=[]/\(g.back n).weak=[]/\(g.back n).D8=[]:=by
 obtain ⟨k1,k2,k3,k4,k5,k6,_⟩:=Hp.Ew g n
 intro hs
 rw [k6] at hs
 obtain ⟨a,b,c,d⟩:=h hs
 refine ⟨k2.trans a,?_,k3.trans c,k4.trans d⟩
 unfold Hp.back
 split
 ·rw [if_neg (fun x=>hs x.2)];exact b
 ·exact b
theorem mU (g:Hp) (n:Nat):bG (g.back n)=bG g:=by
 refine gP (Hp.Ew g n).1 (fun m=>?_)
 have:=jK g n m
 cases e1:(g.back n).ob m<;>cases e2:g.ob m<;>simp [e1,e2] at this ⊢
 rw [this]
theorem Gd.putAt {k:Nat} {h:Hp} (g:Gd h) (b:Bd k h) (hk:k+1<=5000) (hf:h.freed=[]) {n j:Nat} {o:Ob} {v:HV} (ho:h.ob n=some o) (hok:h.Ok n) (hv:∀ r∈bn v,h.Ok r):Gd (h.putAt n j v)/\Bd (k+1) (h.putAt n j v):=by
 obtain ⟨k1,k2,k3,k4,k5,k6,k7,k8,k9,k10,k11,k12,k13,k14,k15⟩:=Hp.Ew (h.upd n fun o=>{ o with es:=o.es.modify j fun e=>(e.1,v) }) n
 have hi:=g.i.putAt (j:=j) ho hok hv
 have hl:bG (h.putAt n j v)=bG h:=by
  refine (mU _ n).trans (gP (h.El n _) (fun m=>?_))
  rw [Hp.Ed]
  split
  ·cases h.ob m<;>simp
  ·rfl
 have hn:jY (h.putAt n j v):=g.n.of hl k11 k13
 have hna:=tF (h.upd n fun o=>{ o with es:=o.es.modify j fun e=>(e.1,v) }) n
 have hw:=A_ h n (fun es=>es.modify j fun e=>(e.1,v))
 have hb:Bd (k+1) (h.putAt n j v):=by
  refine ⟨?_,?_,?_,?_,?_,?_,fun m o' e=>?_⟩
  ·rw [show (h.putAt n j v).objs.length=_ from k1,h.El];have:=b.len;omega
  ·have h2:(h.upd n fun o=>{ o with es:=o.es.modify j fun e=>(e.1,v) }).nu=h.nu:=by
    show (h.upd n fun o=>{ o with es:=o.es.modify j fun e=>(e.1,v) }).wn+h.grey.length+h.D8.length+h.weak.length=h.wn+h.grey.length+h.D8.length+h.weak.length
    rw [hw]
   rw [h2] at hna
   have:=b.na
   have:(h.putAt n j v).nu+(h.putAt n j v).again.length<=h.nu+h.again.length+1:=hna
   omega
  ·rw [show (h.putAt n j v).finals=_ from k10,show (h.putAt n j v).pending=_ from k9];have:=b.fp;show h.finals.length+h.pending.length<=_;omega
  ·rw [show (h.putAt n j v).bytes=_ from k11];have:=b.JQ;show h.bytes<=_;omega
  ·rw [show (h.putAt n j v).D6=_ from k12];have:=b.cr;show h.D6<=_;omega
  ·rw [show (h.putAt n j v).roots=_ from k8];have:=b.rt;show h.roots.length<=_;omega
  ·have h1:=jK (h.upd n fun o=>{ o with es:=o.es.modify j fun e=>(e.1,v) }) n m
   rw [show ((h.upd n fun o=>{ o with es:=o.es.modify j fun e=>(e.1,v) }).back n).ob m=_ from e,Hp.Ed] at h1
   split at h1
   ·rename_i c
    subst c
    rw [ho] at h1
    simp at h1
    rw [h1]
    exact (b.kd n o ho).mod j v
   ·cases e2:h.ob m with
    |none=>rw [e2] at h1;simp at h1
    |some o2=>rw [e2] at h1;simp at h1;rw [h1];exact b.kd m o2 e2
 have hfr:(h.putAt n j v).freed=[]:=k15.trans hf
 have hlm:(h.putAt n j v).limit<=404096:=by rw [show (h.putAt n j v).limit=_ from k14];exact g.s.lim
 exact ⟨⟨hi,Sm.of hi hn hb hk hfr hlm,hn,xP g.e⟩,hb⟩
theorem Gd.Er {k:Nat} {h:Hp} (g:Gd h) (b:Bd k h) (hk:k+1<=5000) (hf:h.freed=[]) {n:Nat} {o:Ob} {q v:HV} (ho:h.ob n=some o) (hok:h.Ok n) (hq:∀ r∈bn q,h.Ok r) (hv:∀ r∈bn v,h.Ok r) (hnf:jJ o.es q=none):Gd (h.Er n o q v)/\Bd (k+1) (h.Er n o q v):=by
 obtain ⟨k1,k2,k3,k4,k5,k6,k7,k8,k9,k10,k11,k12,k13,k14,k15⟩:=Hp.Ew { h.upd n (fun o=>{ o with es:=aI o.es++[(q,v)] }) with bytes:=h.bytes-40*(o.es.length-(aI o.es).length)+40,D6:=h.D6+40 } n
 have hi:=g.i.Er ho hok hq hv
 have hln:=Hp.Es ho
 have htl:=jH o.es
 have hfree:=g.n.free ho
 have hob:∀ m,Hp.ob { h.upd n (fun o=>{ o with es:=aI o.es++[(q,v)] }) with bytes:=h.bytes-40*(o.es.length-(aI o.es).length)+40,D6:=h.D6+40 } m=if n=m then some { o with es:=aI o.es++[(q,v)] } else h.ob m:=by
  intro m
  show (h.upd n fun o=>{ o with es:=aI o.es++[(q,v)] }).ob m=_
  rw [Hp.Ed]
  by_cases x:n=m
  ·subst x;rw [if_pos rfl,if_pos rfl,ho];rfl
  ·rw [if_neg x,if_neg x]
 have hl:bG (h.Er n o q v)=(bG h).set n (some ((aI o.es).length+1)):=by
  refine (mU _ n).trans (List.ext_getElem? (fun m=>?_))
  rw [fC,hob,List.getElem?_set,fC]
  have hlen:(Hp.objs { h.upd n (fun o=>{ o with es:=aI o.es++[(q,v)] }) with bytes:=h.bytes-40*(o.es.length-(aI o.es).length)+40,D6:=h.D6+40 }).length=h.objs.length:=h.El n _
  rw [hlen]
  by_cases c:n=m
  ·subst c
   rw [if_pos rfl,if_pos hln,if_pos rfl,if_pos (by rw [show (bG h).length=h.objs.length by simp [bG]];exact hln)]
   simp
  ·rw [if_neg c,if_neg c]
 have hg:(bG h)[n]?=some (some o.es.length):=by rw [fC,if_pos hln,ho];rfl
 have s1:=iD wt (bG h) n (some ((aI o.es).length+1)) _ hg
 have s2:=iD on (bG h) n (some ((aI o.es).length+1)) _ hg
 have hn:jY (h.Er n o q v):=by
  unfold jY
  rw [hl,show (h.Er n o q v).bytes=_ from k11,show (h.Er n o q v).live=_ from k13]
  have n1:=g.n.1
  have n2:=g.n.2
  simp only [wt,on] at s1 s2
  constructor
  ·show h.bytes-40*(o.es.length-(aI o.es).length)+40=_
   have:=hfree.2.2.1
   rw [n1] at this ⊢
   omega
  ·show h.live=_
   rw [n2]
   omega
 have hna:=tF { h.upd n (fun o=>{ o with es:=aI o.es++[(q,v)] }) with bytes:=h.bytes-40*(o.es.length-(aI o.es).length)+40,D6:=h.D6+40 } n
 have hw:=A_ h n (fun es=>aI es++[(q,v)])
 have hb:Bd (k+1) (h.Er n o q v):=by
  refine ⟨?_,?_,?_,?_,?_,?_,fun m o' e=>?_⟩
  ·rw [show (h.Er n o q v).objs.length=_ from k1]
   show (h.upd n _).objs.length<=_
   rw [h.El];have:=b.len;omega
  ·have h2:Hp.nu { h.upd n (fun o=>{ o with es:=aI o.es++[(q,v)] }) with bytes:=h.bytes-40*(o.es.length-(aI o.es).length)+40,D6:=h.D6+40 }=h.nu:=by
    show (h.upd n fun o=>{ o with es:=aI o.es++[(q,v)] }).wn+h.grey.length+h.D8.length+h.weak.length=h.wn+h.grey.length+h.D8.length+h.weak.length
    rw [hw]
   rw [h2] at hna
   have:=b.na
   have:(h.Er n o q v).nu+(h.Er n o q v).again.length<=h.nu+h.again.length+1:=hna
   omega
  ·rw [show (h.Er n o q v).finals=_ from k10,show (h.Er n o q v).pending=_ from k9];have:=b.fp;show h.finals.length+h.pending.length<=_;omega
  ·rw [show (h.Er n o q v).bytes=_ from k11];have:=b.JQ;show h.bytes-40*(o.es.length-(aI o.es).length)+40<=_;omega
  ·rw [show (h.Er n o q v).D6=_ from k12];have:=b.cr;show h.D6+40<=_;omega
  ·rw [show (h.Er n o q v).roots=_ from k8];have:=b.rt;show h.roots.length<=_;omega
  ·have h1:=jK { h.upd n (fun o=>{ o with es:=aI o.es++[(q,v)] }) with bytes:=h.bytes-40*(o.es.length-(aI o.es).length)+40,D6:=h.D6+40 } n m
   rw [show (Hp.back { h.upd n (fun o=>{ o with es:=aI o.es++[(q,v)] }) with bytes:=h.bytes-40*(o.es.length-(aI o.es).length)+40,D6:=h.D6+40 } n).ob m=_ from e,hob] at h1
   split at h1
   ·simp at h1
    rw [h1]
    refine (b.kd n o ho).tidy.snoc (fun e he=>?_)
    unfold jJ at hnf
    rw [List.findIdx?_eq_none_iff] at hnf
    have:=hnf e (jI he)
    simpa [gH] using this
   ·cases e2:h.ob m with
    |none=>rw [e2] at h1;simp at h1
    |some o2=>rw [e2] at h1;simp at h1;rw [h1];exact b.kd m o2 e2
 have hfr:(h.Er n o q v).freed=[]:=k15.trans hf
 have hlm:(h.Er n o q v).limit<=404096:=by rw [show (h.Er n o q v).limit=_ from k14];exact g.s.lim
 exact ⟨⟨hi,Sm.of hi hn hb hk hfr hlm,hn,xP g.e⟩,hb⟩
theorem Gd.put {k:Nat} {h:Hp} (g:Gd h) (b:Bd k h) (hk:k+1<=5000) (hf:h.freed=[]) {n:Nat} {q v:HV} (hok:h.Ok n) (hq:∀ r∈bn q,h.Ok r) (hv:∀ r∈bn v,h.Ok r):Gd (h.put n q v)/\Bd (k+1) (h.put n q v):=by
 obtain ⟨o,ho,-⟩:=id hok
 unfold Hp.put
 rw [ho]
 simp only
 cases hfn:jJ o.es q with
 |some i=>exact g.putAt b hk hf ho hok hv
 |none=>
  simp only
  split
  ·exact ⟨g,b.up⟩
  ·exact g.Er b hk hf ho hok hq hv hfn
theorem gF (h:Hp) (n:Nat) (q v:HV):(h.put n q v).objs.length=h.objs.length/\(h.put n q v).roots=h.roots:=by
 unfold Hp.put
 split
 ·exact ⟨rfl,rfl⟩
 ·split
  ·exact ⟨(Hp.Ew _ n).1.trans (h.El n _),(Hp.Ew _ n).2.2.2.2.2.2.2.1⟩
  ·split
   ·exact ⟨rfl,rfl⟩
   ·exact ⟨(Hp.Ew _ n).1.trans (h.El n _),(Hp.Ew _ n).2.2.2.2.2.2.2.1⟩
theorem Gd.of {k:Nat} {h g:Hp} (x:Gd h) (b:Bd k h) (hk:k<=5000) (hf:g.freed=[]) (hi:Inv g) (hob:∀ n,(g.ob n).map (fun o=>(o.col,o.es))=(h.ob n).map (fun o=>(o.col,o.es))) (hl:g.objs.length=h.objs.length) (h1:g.grey=h.grey) (h2:g.again=h.again) (h3:g.weak=h.weak) (h4:g.D8=h.D8) (h5:g.bytes=h.bytes) (h6:g.live=h.live) (h7:g.D6=h.D6) (h8:g.limit=h.limit) (h9:g.state=h.state) (hfp:g.finals.length+g.pending.length<=k) (hrt:g.roots.length<=k+1):Gd g/\Bd k g:=by
 have hln:bG g=bG h:=by
  refine gP hl (fun n=>?_)
  have:=hob n
  cases e1:g.ob n<;>cases e2:h.ob n<;>simp [e1,e2] at this ⊢
  rw [this.2]
 have hn:jY g:=x.n.of hln h5 h6
 have hw:g.wn=h.wn:=kQ hl (fun n=>by
  have:=hob n
  cases e1:g.ob n<;>cases e2:h.ob n<;>simp [e1,e2] at this ⊢
  exact this.1)
 have hnu:g.nu=h.nu:=by
  show g.wn+g.grey.length+g.D8.length+g.weak.length=h.wn+h.grey.length+h.D8.length+h.weak.length
  rw [hw,h1,h3,h4]
 have hb:Bd k g:=by
  refine ⟨by rw [hl];exact b.len,by rw [hnu,h2];exact b.na,hfp,by rw [h5];exact b.JQ,by rw [h7];exact b.cr,hrt,fun n o e=>?_⟩
  have:=hob n
  rw [e] at this
  cases e2:h.ob n with
  |none=>rw [e2] at this;simp at this
  |some o2=>rw [e2] at this;simp at this;rw [this.2];exact b.kd n o2 e2
 refine ⟨⟨hi,Sm.of hi hn hb hk hf (by rw [h8];exact x.s.lim),hn,fun hs=>?_⟩,hb⟩
 rw [h9] at hs
 rw [h1,h2,h3,h4]
 exact x.e hs
theorem Gd.forget {k:Nat} {h:Hp} (g:Gd h) (b:Bd k h) (hk:k<=5000):Gd h.forget/\Bd k h.forget:=g.of b hk rfl g.i.forget (fun _=>rfl) rfl rfl rfl rfl rfl rfl rfl rfl rfl rfl b.fp b.rt
theorem Gd.Eb {k:Nat} {h:Hp} (g:Gd h) (b:Bd k h) (hk:k<=5000) (hf:h.freed=[]) {l:List Nat} (hl:∀ n∈l,h.Ok n) (hll:l.length<=k+1):Gd (h.Eb l)/\Bd k (h.Eb l):=g.of b hk hf (g.i.Eb hl) (fun _=>rfl) rfl rfl rfl rfl rfl rfl rfl rfl rfl rfl b.fp hll
theorem Gd.pop {k:Nat} {h:Hp} (g:Gd h) (b:Bd k h) (hk:k<=5000) (hf:h.freed=[]):Gd h.pop/\Bd k h.pop:=g.of b hk hf g.i.pop (fun _=>rfl) rfl rfl rfl rfl rfl rfl rfl rfl rfl rfl (by
 have:=b.fp
 show h.finals.length+h.pending.dropLast.length<=k
 rw [List.length_dropLast]
 omega) b.rt
theorem Gd.EK {k:Nat} {h:Hp} (g:Gd h) (b:Bd k h) (hk:k+1<=5000) (hf:h.freed=[]) {n:Nat} (hok:h.Ok n):Gd (h.EK n)/\Bd (k+1) (h.EK n):=g.of b.up hk hf (g.i.EK hok) (fun m=>by
 show ((h.upd n fun o=>{ o with fin:=true }).ob m).map _=_
 rw [Hp.Ed]
 split
 ·cases h.ob m<;>rfl
 ·rfl) (h.El n _) rfl rfl rfl rfl rfl rfl rfl rfl rfl (by
 have:=b.fp
 show (h.finals++[n]).length+h.pending.length<=k+1
 simp
 omega) (by have:=b.rt;show h.roots.length<=_;omega)
theorem Gd.make {k:Nat} {h:Hp} (g:Gd h) (b:Bd k h) (hk:k+1<=5000) (hf:h.freed=[]) {m:Nat} (hm:m<=3):Gd (h.make m)/\Bd (k+1) (h.make m):=by
 have hi:=(g.i.make hm).1
 have hob:∀ n,(h.make m).ob n=if n=h.objs.length then some ⟨h.white,m,[],false⟩ else h.ob n:=fun n=>h.Fu _ n
 have hl:bG (h.make m)=bG h++[some 0]:=by unfold bG Hp.make;simp
 have hn:jY (h.make m):=by
  unfold jY
  rw [hl,pV,pV]
  exact ⟨by show h.bytes+40=_;rw [g.n.1];rfl,by show h.live+1=_;rw [g.n.2];rfl⟩
 have hw:(h.make m).wn=h.wn+1:=by
  have:=g.i.w1
  unfold Hp.wn Hp.make
  simp only [List.countP_append]
  have h9:List.countP oP [some (⟨h.white,m,[],false⟩:Ob)]=1:=by
   rcases (by omega:h.white=0∨h.white=1) with z|z<;>rw [z]<;>rfl
  rw [h9]
 have hnu:(h.make m).nu=h.nu+1:=by
  show (h.make m).wn+h.grey.length+h.D8.length+h.weak.length=h.wn+h.grey.length+h.D8.length+h.weak.length+1
  rw [hw];omega
 have hb:Bd (k+1) (h.make m):=by
  have b1:=b.len
  have b2:=b.na
  have b3:=b.fp
  have b4:=b.JQ
  have b5:=b.cr
  have b6:=b.rt
  refine ⟨?_,?_,?_,?_,?_,?_,fun n o e=>?_⟩
  ·show (h.objs++[_]).length<=_
   simp;omega
  ·rw [hnu];show h.nu+1+h.again.length<=_;omega
  ·show h.finals.length+h.pending.length<=_;omega
  ·show h.bytes+40<=_;omega
  ·show h.D6+40<=_;omega
  ·show h.roots.length<=_;omega
  ·rw [hob] at e
   split at e
   ·simp at e;rw [<-e];intro i j x y hx;simp at hx
   ·exact b.kd n o e
 refine ⟨⟨hi,Sm.of hi hn hb hk hf g.s.lim,hn,fun hs=>g.e hs⟩,hb⟩
end
end Go.Proofs.YtedpifhlffcmkaaGreatDoor
namespace Go.Proofs.YtedpifhlffcmkaaGreatDoor
open Go Go.RowKit
set_option maxHeartbeats 6400000
set_option maxRecDepth 100000
set_option linter.unusedVariables false
section
variable {R base hand:Nat} {S S1:Nat->Prop} {code id:Int} {h h':Hp} {root:List Bool} {rv:Value} {w w' w1:World}
structure RW (base:Nat) (S:Nat->Prop) (h:Hp) (L:SM) (R hand:Nat) (rv:Value) (root:List Bool) (w:World):Prop where
 x:Ji base S h L R hand rv root w
 nR:¬ S R
 nb:∀ g,rv.ownBlock=some g->¬ S g
 r0:root[0]?=some false
def Zs (S:Nat->Prop) (R:Nat) (rv:Value) (b:Nat):Prop:=S b∨b=R∨rv.ownBlock=some b
theorem RW.low {base:Nat} {S:Nat->Prop} {h:Hp} {L:SM} {R hand:Nat} {rv:Value} {root:List Bool} {w w':World} (x:RW base S h L R hand rv root w) (b:Below w.heap.size w w'):RW base S h L R hand rv root w':=⟨x.x.low b,x.nR,x.nb,x.r0⟩
theorem RW.heap {L L':SM} (x:RW base S h L R hand rv root w) (a':JU base S h' L' w') (hH:L'.H=L.H) (kk:Keeps w w' S) (hl:h'.objs.length=h.objs.length) (hr:h'.roots=h.roots):RW base S h' L' R hand rv root w':=
 ⟨⟨a',by rw [hH];exact x.x.r.keep kk x.nR,aj x.x.v kk x.nb,x.x.l.trans hl.symm,hr.trans x.x.o⟩,x.nR,x.nb,x.r0⟩
theorem RW.hole {base:Nat} {S:Nat->Prop} {h:Hp} {L:SM} {R hand:Nat} {rv:Value} {root:List Bool} {w:World} (x:RW base S h L R hand rv root w) (o:Obj):RW base (fun b=>S b/\b≠w.heap.size) h L R hand rv root (w.alloc o):=by
 have y:=x.x.low (aJ w o)
 exact ⟨⟨x.x.a.hole o,y.r,y.v,y.l,y.o⟩,fun e=>x.nR e.1,fun g hg e=>x.nb g hg e.1,x.r0⟩
def dS (base:Nat) (S:Nat->Prop) (R hand:Nat) (rv:Value) (w:World) (code id:Int) (h':Hp) (root':List Bool) (e:Ending) (w':World):Prop:=
 e=.returned (.tuple #[.int .i64 code,.int .i64 id])/\Keeps w w' (Zs S R rv)/\∃ S' L' rv',RW base S' h' L' R hand rv' root' w'/\(∀ b,S' b->S b)/\(∀ g,rv'.ownBlock=some g->rv.ownBlock=some g∨S g)
theorem dS.mk' {L':SM} (hb:Below w.heap.size w w1) (hS:∀ b,S1 b->S b) (kk:Keeps w1 w' S1) (x:RW base S1 h' L' R hand rv root w'):dS base S R hand rv w code id h' root (.returned (.tuple #[.int .i64 code,.int .i64 id])) w':=
 ⟨rfl,(Keeps.of hb (Nat.le_refl _) _).trans (kk.mono (fun b e=>Or.inl (hS b e))),S1,L',rv,x,hS,fun g e=>.inl e⟩
theorem Bt {L:SM} (x:RW base S h L R hand rv root w) (kd A B C:Int) (hk:kd<1∨9<kd):
 Calls Tryz.prog 34 #[.pointer (some ⟨R,0,none⟩),.agg #[.int .i64 kd,.int .i64 A,.int .i64 B,.int .i64 C]] w (dS base S R hand rv w 1 0 h root):=by
 have HX:=ah (eT w kd A B C)
 have HB:=ah (aJ w (.cells #[.int .i64 kd,.int .i64 A,.int .i64 B,.int .i64 C] 39))
 have HR:=ah (x.hole (.cells #[.int .i64 kd,.int .i64 A,.int .i64 B,.int .i64 C] 39))
 clear x
 go_enter Tryz.func34,Tryz.ntmps34
 go_upto_region 1 with (fail)
 generalize w.alloc (.cells #[.int .i64 kd,.int .i64 A,.int .i64 B,.int .i64 C] 39)=w1 at *
 generalize hX:w.heap.size=X at *
 have x0:w1.cell? ⟨X,0,none⟩=some (.int .i64 kd):=HX.o.cell (j:=0) (by omega)
 have r0:w1.cell? ⟨R,0,none⟩=some (.pointer (some ⟨L.H,0,none⟩)):=HR.o.x.r.cell (j:=0) (by omega)
 have k1:(kd==1)=false:=by simp;omega
 have k2:(kd==2)=false:=by simp;omega
 have k3:(kd==3)=false:=by simp;omega
 have k4:(kd==4)=false:=by simp;omega
 have k5:(kd==5)=false:=by simp;omega
 have k6:(kd==6)=false:=by simp;omega
 have k7:(kd==7)=false:=by simp;omega
 have k8:(kd==8)=false:=by simp;omega
 have k9:(kd==9)=false:=by simp;omega
 go_wp2
 ((try simp only [Exit.inBlock,Exit.then]);refine bodyPost_ret (results_tmp2 rfl _ _ _) rfl ?_)
 exact dS.mk' (by rw [hX];exact HB.o) (fun b e=>e.1) (Keeps.refl _ _) HR.o
theorem Dl {L:SM} (x:RW base S h L R hand rv root w) (A B C:Int):
 Calls Tryz.prog 34 #[.pointer (some ⟨R,0,none⟩),.agg #[.int .i64 9,.int .i64 A,.int .i64 B,.int .i64 C]] w (dS base S R hand rv w 0 0 h root):=by
 have HX:=ah (eT w 9 A B C)
 have HB:=ah (aJ w (.cells #[.int .i64 9,.int .i64 A,.int .i64 B,.int .i64 C] 39))
 have HR:=ah (x.hole (.cells #[.int .i64 9,.int .i64 A,.int .i64 B,.int .i64 C] 39))
 clear x
 go_enter Tryz.func34,Tryz.ntmps34
 go_upto_region 1 with (fail)
 generalize w.alloc (.cells #[.int .i64 9,.int .i64 A,.int .i64 B,.int .i64 C] 39)=w1 at *
 generalize hX:w.heap.size=X at *
 have x0:w1.cell? ⟨X,0,none⟩=some (.int .i64 9):=HX.o.cell (j:=0) (by omega)
 have r0:w1.cell? ⟨R,0,none⟩=some (.pointer (some ⟨L.H,0,none⟩)):=HR.o.x.r.cell (j:=0) (by omega)
 go_wp2
 ((try simp only [Exit.inBlock,Exit.then]);refine bodyPost_ret (results_tmp2 rfl _ _ _) rfl ?_)
 exact dS.mk' (by rw [hX];exact HB.o) (fun b e=>e.1) (Keeps.refl _ _) HR.o
theorem Da {L:SM} (x:RW base S h L R hand rv root w) (g:Gd h) (A B C:Int):
 Calls Tryz.prog 34 #[.pointer (some ⟨R,0,none⟩),.agg #[.int .i64 7,.int .i64 A,.int .i64 B,.int .i64 C]] w (dS base S R hand rv w 0 0 h.full root):=by
 have HX:=ah (eT w 7 A B C)
 have HB:=ah (aJ w (.cells #[.int .i64 7,.int .i64 A,.int .i64 B,.int .i64 C] 39))
 have HR:=ah (x.hole (.cells #[.int .i64 7,.int .i64 A,.int .i64 B,.int .i64 C] 39))
 clear x
 have HF:=ah (wu HR.o.x.a g)
 have HCL:=ah g.G6
 go_enter Tryz.func34,Tryz.ntmps34
 go_upto_region 1 with (fail)
 generalize w.alloc (.cells #[.int .i64 7,.int .i64 A,.int .i64 B,.int .i64 C] 39)=w1 at *
 generalize hX:w.heap.size=X at *
 have x0:w1.cell? ⟨X,0,none⟩=some (.int .i64 7):=HX.o.cell (j:=0) (by omega)
 have r0:w1.cell? ⟨R,0,none⟩=some (.pointer (some ⟨L.H,0,none⟩)):=HR.o.x.r.cell (j:=0) (by omega)
 go_wp2_with fail
 refine HF.o.mono ?_
 rintro e2 w2 ⟨rfl,L2,hH2,ha2,hk2⟩
 have H2:=ah (HR.o.heap ha2 hH2 hk2 HCL.o.len HCL.o.rt)
 have K2:=ah hk2
 clear ha2 hk2 hH2
 go_wp2
 ((try simp only [Exit.inBlock,Exit.then]);refine bodyPost_ret (results_tmp2 rfl _ _ _) rfl ?_)
 exact dS.mk' (by rw [hX];exact HB.o) (fun b e=>e.1) K2.o H2.o
theorem Dm {L:SM} (x:RW base S h L R hand rv root w) (g:Gd h) (A B C:Int):
 Calls Tryz.prog 34 #[.pointer (some ⟨R,0,none⟩),.agg #[.int .i64 6,.int .i64 A,.int .i64 B,.int .i64 C]] w (dS base S R hand rv w (if A<1∨1000000<A then 2 else 0) 0 (if A<1∨1000000<A then h else Hp.step A h) root):=by
 have HX:=ah (eT w 6 A B C)
 have HB:=ah (aJ w (.cells #[.int .i64 6,.int .i64 A,.int .i64 B,.int .i64 C] 39))
 have HR:=ah (x.hole (.cells #[.int .i64 6,.int .i64 A,.int .i64 B,.int .i64 C] 39))
 clear x
 have HCL:=ah (g.Ga (u:=A))
 by_cases hA:A<1∨1000000<A
 ·rw [if_pos hA,if_pos hA]
  go_enter Tryz.func34,Tryz.ntmps34
  go_upto_region 1 with (fail)
  generalize w.alloc (.cells #[.int .i64 6,.int .i64 A,.int .i64 B,.int .i64 C] 39)=w1 at *
  generalize hX:w.heap.size=X at *
  have x0:w1.cell? ⟨X,0,none⟩=some (.int .i64 6):=HX.o.cell (j:=0) (by omega)
  have x1:w1.cell? ⟨X,1,none⟩=some (.int .i64 A):=HX.o.cell (j:=1) (by omega)
  have r0:w1.cell? ⟨R,0,none⟩=some (.pointer (some ⟨L.H,0,none⟩)):=HR.o.x.r.cell (j:=0) (by omega)
  by_cases h1:A<1
  ·have h1d:decide (A<1)=true:=by simpa using h1
   clear hA h1
   go_wp2
   ((try simp only [Exit.inBlock,Exit.then]);refine bodyPost_ret (results_tmp2 rfl _ _ _) rfl ?_)
   exact dS.mk' (by rw [hX];exact HB.o) (fun b e=>e.1) (Keeps.refl _ _) HR.o
  ·have h1d:decide (A<1)=false:=by simpa using h1
   have h2d:decide (A > 1000000)=true:=by simp;omega
   clear hA h1
   go_wp2
   ((try simp only [Exit.inBlock,Exit.then]);refine bodyPost_ret (results_tmp2 rfl _ _ _) rfl ?_)
   exact dS.mk' (by rw [hX];exact HB.o) (fun b e=>e.1) (Keeps.refl _ _) HR.o
 ·rw [if_neg hA,if_neg hA]
  have HF:=ah (iC HR.o.x.a g A (by omega))
  go_enter Tryz.func34,Tryz.ntmps34
  go_upto_region 1 with (fail)
  generalize w.alloc (.cells #[.int .i64 6,.int .i64 A,.int .i64 B,.int .i64 C] 39)=w1 at *
  generalize hX:w.heap.size=X at *
  have x0:w1.cell? ⟨X,0,none⟩=some (.int .i64 6):=HX.o.cell (j:=0) (by omega)
  have x1:w1.cell? ⟨X,1,none⟩=some (.int .i64 A):=HX.o.cell (j:=1) (by omega)
  have r0:w1.cell? ⟨R,0,none⟩=some (.pointer (some ⟨L.H,0,none⟩)):=HR.o.x.r.cell (j:=0) (by omega)
  have h1d:decide (A<1)=false:=by simp;omega
  have h2d:decide (A > 1000000)=false:=by simp;omega
  clear hA
  go_wp2_with fail
  refine HF.o.mono ?_
  rintro e2 w2 ⟨rfl,L2,hH2,ha2,hk2⟩
  have H2:=ah (HR.o.heap ha2 hH2 hk2 HCL.o.len HCL.o.rt)
  have K2:=ah hk2
  clear ha2 hk2 hH2
  go_wp2
  ((try simp only [Exit.inBlock,Exit.then]);refine bodyPost_ret (results_tmp2 rfl _ _ _) rfl ?_)
  exact dS.mk' (by rw [hX];exact HB.o) (fun b e=>e.1) K2.o H2.o
end
section
variable {K:Act->World->Prop} {Q:Exit->Act->World->Prop} {S:Nat->Prop} {a:Act} {base:Nat} {h:Hp} {w w1 wr:World}
theorem yP {w:World} {o:Oper} {K:Act->World->Prop} {Q:Exit->Act->World->Prop} (x:Operand)
 (ho:o.op=.call { callee:=.value (.func 45),args:=#[x],argTypes:=#[3] }) (k:Nat) (hx:a.eval x=.int .i64 (k:Int)) (v:HV) (hv:cu k=v)
 (h:∀ w',Below w.heap.size w w'->K (a.put o.dst (.agg #[.int .i64 (vk v),.int .i64 (vi v),.int .u64 0,.string ByteArray.empty,.int .i64 (vr v)])) w'):Oper.wp Tryz.prog o a w K Q:=by
 unfold Oper.wp
 have hf:a.eval (.func 45)=.func (.func 45) #[] #[]:=rfl
 generalize a.eval=ev at hx hf ⊢
 simp [execOp,ho,resolve,invoke,hx,hf,go_sem]
 refine (kN w k v hv).mono ?_
 rintro e w' ⟨rfl,hb⟩
 exact h w' hb
theorem xD:(Tryz.prog.info? 95).map (fun i=>(i.zero,i.size,i.bytes))=some (some (.agg #[.int .i64 0,.int .i64 0,.int .u64 0,.string ByteArray.empty,.int .i64 0]),5,48):=by kernel_rfl
theorem zH (v:HV):∀ u∈uL v,u.oneCell'=true:=by
 intro u hu
 simp [uL] at hu
 rcases hu with rfl|rfl|rfl|rfl|rfl<;>rfl
theorem sS {o:Oper} (s x:Operand)
 (ho:o.op=.call { callee:=.builtin .append,args:=#[s,x],argTypes:=#[103,103] })
 (base:Nat) (v:Value) (l:List Nat) (n:Nat) (hown:wr.ownsRow base 95 5 v l.length (Bh l)) (hs:a.eval s=v) (g:Nat) (hx:a.eval x=.slice (some ⟨g,0,none⟩) 1 1) (hrow:aD wr 95 g 5 (fun j=>(uL (some (.inr n))).getD j (.bool false))) (hlen:l.length<=10000) (hbase:base<=wr.heap.size)
 (h:∀ v' w',w'.ownsRow base 95 5 v' (l++[n]).length (Bh (l++[n]))->Keeps wr w' (fun b=>v.ownBlock=some b)->(∀ g,v'.ownBlock=some g->v.ownBlock=some g∨wr.heap.size<=g)->K (a.put o.dst v') w'):
 Oper.wp Tryz.prog o a wr K Q:=by
 obtain ⟨i0,hi,hz0,hz1,hz2⟩:=info_parts xD
 have hnews:∀ j u,(uL (some (.inr n)))[j]?=some u->wr.cell? ((⟨g,0,none⟩:Addr).add j)=some u:=by
  intro j u hj
  have hj0:j<5:=(List.getElem?_eq_some_iff.1 hj).1
  rw [aY]
  have:=hrow.cell (j:=j) hj0
  rw [show (⟨g,0+j,none⟩:Addr)=⟨g,j,none⟩ by rw [Nat.zero_add],this]
  simp only [List.getD_eq_getElem?_getD,hj]
  rfl
 have h1:=zH (some (.inr n))
 obtain ⟨v',w',hr,h2,h3,h4⟩:=run_append_own (P:=Tryz.prog) wr base 103 o.type 95 i0 (.agg #[.int .i64 0,.int .i64 0,.int .u64 0,.string ByteArray.empty,.int .i64 0]) 5 48 Tryz.underlying103 hi hz0 hz1 hz2 rfl (by decide) v l.length (Bh l) hown ⟨g,0,none⟩ 1 1 (uL (some (.inr n))) rfl hnews h1 (by unfold maxLen;omega) (by omega) hbase
 have h5:=dG wr base 103 o.type 95 i0 (.agg #[.int .i64 0,.int .i64 0,.int .u64 0,.string ByteArray.empty,.int .i64 0]) 5 48 Tryz.underlying103 hi hz0 hz1 hz2 rfl (by decide) v l.length (Bh l) hown ⟨g,0,none⟩ 1 1 (uL (some (.inr n))) rfl hnews h1 (by unfold maxLen;omega) (by omega) (by decide) hr
 unfold Oper.wp execOp
 simp only [ho,resolve,invoke,builtin,Sem.run_bind,Sem.run_pure,Result.andThen_ok,List.map_toArray,List.map_cons,List.map_nil,hs,hx,hr]
 refine h v' w' (by simpa [Bh] using h2) ⟨h3.os,h3.tape,h3.output,h3.size,fun b hb hn=>h3.block b hb (fun e=>hn e.symm)⟩ h5
theorem JU.IK {L:SM} (a:JU base S h L w) (kk:Keeps w w1 (fun b=>L.rS.ownBlock=some b)) (v':Value) (l':List Nat) (hown:w1.ownsRow base 95 5 v' l'.length (Bh l')) (hv:∀ g,v'.ownBlock=some g->L.rS.ownBlock=some g∨w.heap.size<=g):
 aD w1 105 L.H 18 (qZ h L)/\JU base S (h.Eb l') { L with rS:=v' } (w1.setCell ⟨L.H,13,none⟩ v')/\Keeps w (w1.setCell ⟨L.H,13,none⟩ v') S:=by
 have hr1:aD w1 105 L.H 18 (qZ h L):=a.hp.keep kk (fun e=>ak a.ro a.hp (by decide) e)
 have k1:Keeps w1 (w1.setCell ⟨L.H,13,none⟩ v') (fun b=>b=L.H):=Keeps.setCell (S:=fun b=>b=L.H) (Keeps.refl w1 _) rfl v'
 have k2:Keeps w (w1.setCell ⟨L.H,13,none⟩ v') (fun b=>L.rS.ownBlock=some b∨b=L.H):=(kk.mono (fun b e=>Or.inl e)).trans (k1.mono (fun b e=>Or.inr e))
 have hT:∀ {T s n:Nat} {v:Value} {xs:List Value},w.ownsRow base T s v n xs->T≠105->T≠95->∀ g,v.ownBlock=some g->¬ (L.rS.ownBlock=some g∨g=L.H):=by
  intro T s n v xs h1 h2 h3 g h4 h5
  rcases h5 with h5|h5
  ·exact aV h1 a.ro h3 h5 h4
  ·exact ak h1 a.hp h2 (h5 ▸ h4)
 have hR:∀ {T g N:Nat} {f:Nat->Value},aD w T g N f->T≠105->T≠95->¬ (L.rS.ownBlock=some g∨g=L.H):=by
  intro T g N f h1 h2 h3 h5
  rcases h5 with h5|h5
  ·exact ak a.ro h1 (Ne.symm h3) h5
  ·exact h1.apart a.hp h2 h5
 refine ⟨hr1,⟨(hr1.set (j:=13) (by decide) v').congr (bg _ rfl rfl rfl rfl rfl rfl rfl rfl rfl rfl rfl rfl rfl rfl rfl rfl rfl rfl),aj a.oo k2 (hT a.oo (by decide) (by decide)),fun n o e=>?_,fun n hn e=>?_,fun n o e=>aj (a.en n o e) k2 (hT (a.en n o e) (by decide) (by decide)),fun j hj=>?_,?_,a.ij,a.ei,a.lj,a.bH,a.bo,Nat.le_trans a.bs k2.size,a.sH,a.so,a.sO,a.se,a.sl,?_,fun b hb=>a.up b (Nat.le_trans k2.size hb)⟩,?_⟩
 ·obtain ⟨r,hr⟩:=a.ob n o e
  exact ⟨r,hr.keep k2 (hR hr (by decide) (by decide))⟩
 ·obtain ⟨r,c,hc,hr⟩:=a.dd n hn e
  exact ⟨r,c,hc,hr.keep k2 (hR hr (by decide) (by decide))⟩
 ·exact aj (a.li j hj) k2 (hT (a.li j hj) (by decide) (by decide))
 ·exact aj hown k1 (fun g hg e=>ak hown hr1 (by decide) (e ▸ hg))
 ·intro g e
  rcases hv g e with x|x
  ·exact a.sr g x
  ·exact a.up g x
 ·refine k2.mono (fun b e=>?_)
  rcases e with e|e
  ·exact a.sr b e
  ·exact e ▸ a.sH
end
end Go.Proofs.YtedpifhlffcmkaaGreatDoor
