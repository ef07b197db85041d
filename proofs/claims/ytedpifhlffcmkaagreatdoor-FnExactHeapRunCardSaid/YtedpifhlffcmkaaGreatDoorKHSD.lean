import Derived.Test.YtedpifhlffcmkaaGreatDoorKHSC
import Derived.Laws.AppendOwnNone
import Derived.Deep.RegionLaw
namespace Go.Proofs.YtedpifhlffcmkaaGreatDoor
open Go Go.RowKit
set_option maxHeartbeats 6400000
set_option maxRecDepth 100000
set_option linter.unusedVariables false
variable {K:Act->World->Prop} {Q:Exit->Act->World->Prop} {S:Nat->Prop} {T base cap g n s:Nat} {a:Act} {h:Hp} {v:Value} {w w2 wr:World} {xs:List Value}
theorem gM {o:Oper} (s x:Operand) (ho:o.op=.call { callee:=.builtin .append,args:=#[s,x],argTypes:=#[30,30] })
 (base base':Nat) (v u:Value) (l l2:List Nat) (hs:a.eval s=v) (hx:a.eval x=u) (hown:wr.ownsRow base 3 1 v l.length (bU l)) (hsrc:wr.ownsRow base' 3 1 u l2.length (bU l2)) (hlen:l.length+l2.length<=1000000) (hbase:base<=wr.heap.size)
 (h:∀ v' w',w'.ownsRow base 3 1 v' (l++l2).length (bU (l++l2))->Below base wr w'->K (a.put o.dst v') w'):Oper.wp Tryz.prog o a wr K Q:=by
 obtain ⟨i0,hi,hz0,hz1,hz2⟩:=info_parts iK
 rcases hsrc.2 with ⟨hu,h0⟩|⟨g,cap,cur,hu,_,hg,hnc,_⟩
 ·have hl2:l2=[]:=by simpa using h0
  subst hl2
  have hrun:=run_append_owned_none (P:=Tryz.prog) (w:=wr) base 30 o.type 3 i0 1 Tryz.underlying30 hi v l.length (bU l) hown
  unfold Oper.wp
  rw [hu] at hx
  simp [execOp,ho,resolve,invoke,builtin,hs,hx,hrun,Result.andThen]
  exact h v wr (by simpa using hown) (Below.refl _ _)
 ·rw [hu] at hx
  have hr:=au hsrc (g:=g) (by rw [hu];simp [Value.ownBlock])
  refine wp_append_own _ s x 30 ho base 3 i0 (.int .i64 0) 1 8 Tryz.underlying30 hi hz0 hz1 hz2 rfl (by decide) v l.length (bU l) hs hown ⟨g,0,none⟩ l2.length cap (bU l2) hx (by simp [bU])
   (fun j y hj=>?_) (fun y hy=>?_) (by unfold maxLen;omega) (by omega) hbase ?_
  ·have hjl:j<l2.length:=by
    have:=(List.getElem?_eq_some_iff.1 hj).1
    simpa [bU] using this
   rw [aY,Nat.zero_add,hr.cell (j:=j) (by omega),List.getD_eq_getElem?_getD,hj]
   rfl
  ·simp [bU] at hy
   obtain ⟨z,_,rfl⟩:=hy
   rfl
  ·intro v' w' h1 h2 h3
   refine h v' w' (by simpa [bU] using h1) ?_
   refine (Below.refl base wr).grown h2 hbase (fun q hq=>(hown.lt q hq).1)
theorem JU.cut {L:SM} (a:JU base S h L w) (hb:Below w.heap.size w w2) (hg:w.heap.size<=g) (hg2:g<w2.heap.size):JU base (fun b=>S b/\b≠g) h L w2:=by
 have b:=a.low hb
 have hob:∀ n,n<h.objs.length->L.ob n<w.heap.size:=by
  intro n hn
  cases e:h.ob n with
  |none=>obtain ⟨r,c,_,hr⟩:=a.dd n hn e;exact hr.lt
  |some o=>obtain ⟨r,hr⟩:=a.ob n o e;exact hr.lt
 refine ⟨b.hp,b.oo,b.ob,b.dd,b.en,b.li,b.ro,b.ij,b.ei,b.lj,b.bH,b.bo,b.bs,⟨a.sH,?_⟩,fun n hn=>⟨a.so n hn,?_⟩,fun g' hg'=>⟨a.sO g' hg',?_⟩,fun n o g' hn hg'=>⟨a.se n o g' hn hg',?_⟩,fun k g' hk hg'=>⟨a.sl k g' hk hg',?_⟩,fun g' hg'=>⟨a.sr g' hg',?_⟩,fun c hc=>⟨b.up c hc,?_⟩⟩
 ·have:=a.hp.lt;omega
 ·have:=hob n hn;omega
 ·have:=(au a.oo hg').lt;omega
 ·have:=(au (a.en n o hn) hg').lt;omega
 ·have:=(au (a.li k hk) hg').lt;omega
 ·have:=(au a.ro hg').lt;omega
 ·omega
theorem JU.IV {L:SM} (a:JU base S h L w) (hb:Below w.heap.size w w2) (ho:w2.ownsRow w.heap.size T s v n xs):JU base (fun b=>S b/\v.ownBlock≠some b) h L w2:=by
 rcases hv:v.ownBlock with _|g
 ·exact (a.low hb).mono (fun b hs=>⟨hs,by simp⟩)
 ·have h1:=(ho.lt g hv).1
  have h2:=(au ho hv).lt
  exact (a.cut hb h1 h2).mono (fun b hs=>⟨hs.1,fun e=>hs.2 (by simpa using e.symm)⟩)
theorem lV {n:Nat} {A:Option Addr} {l:List Nat} (ha:w.ownsRow base 3 1 (.slice A l.length cap) l.length (bU l)):l.length<=cap/\∀ i (hi:i<l.length),∃ g,A=some ⟨g,0,none⟩/\w.cell? ⟨g,i,none⟩=some (.int .i64 ((l[i]:Nat):Int)):=by
 rcases ha.2 with ⟨h1,h2⟩|⟨g,cap',cur,hv,_,_,hc,_⟩
 ·exact ⟨by omega,fun i hi=>by omega⟩
 ·simp only [Value.slice.injEq,true_and] at hv
  obtain ⟨rfl,rfl⟩:=hv
  refine ⟨hc,fun i hi=>⟨g,rfl,?_⟩⟩
  have hr:=au ha (g:=g) (by simp [Value.ownBlock])
  rw [hr.cell (j:=i) (by omega)]
  simp [bU,List.getD_eq_getElem?_getD,hi]
theorem mH {L:SM} (a:JU base S h L w) (k:Wk h):
 Calls Tryz.prog 95 #[.pointer (some ⟨L.H,0,none⟩)] w fun e w'=>e=.returned (.tuple #[])/\JU base S h.at4 L w'/\Keeps w w' S:=by
 obtain ⟨A,cap,hv,hcap,-⟩:=a.EM (k:=9) (by simp [cB])
 have c9:w.cell? ⟨L.H,9,none⟩=some (.slice A h.weak.length cap):=by
  have:=a.hp.cell (j:=9) (by omega)
  rw [this]
  exact congrArg some hv
 obtain ⟨B,capb,hvb,hcapb,-⟩:=a.EM (k:=10) (by simp [cB])
 have c10:w.cell? ⟨L.H,10,none⟩=some (.slice B h.D8.length capb):=by
  have:=a.hp.cell (j:=10) (by omega)
  rw [this]
  exact congrArg some hvb
 have hH:=a.hp.lt
 have hwl:h.D8.length+h.weak.length<=20000:=by
  have:=k.s.nu
  simp only [Hp.nu] at this
  omega
 have HLW:=ah (fun (w':World) (hb:Below w.heap.size w w')=>(show w'.ownsRow base 3 1 (.slice A h.weak.length cap) h.weak.length (bU h.weak) from by have:=(a.low hb).li 9 (by simp [cB]);rw [hv] at this;exact this))
 have HLE:=ah (fun (w':World) (hb:Below w.heap.size w w')=>(show w'.ownsRow base 3 1 (.slice B h.D8.length capb) h.D8.length (bU h.D8) from by have:=(a.low hb).li 10 (by simp [cB]);rw [hvb] at this;exact this))
 have HB0:=ah (((Below.refl w.heap.size w).alloc (Nat.le_refl _) (.cells #[] 3)).drew)
 have HE0:Hq (World.ownsRow (w.alloc (.cells #[] 3)).drew w.heap.size 3 1 (.slice (some ⟨w.heap.size,0,none⟩) 0 0) ([]:List Nat).length (bU [])):=ah ⟨rfl,.inr ⟨w.heap.size,0,#[],rfl,Nat.le_refl _,heap_alloc_new w _,by decide,by decide,rfl,rfl⟩⟩
 have HA:=ah a
 have HK:=ah k
 have HV:=ah hv
 have HVB:=ah hvb
 clear a k hv hvb
 go_enter Tryz.func95,Tryz.ntmps95
 obtain ⟨l,hl⟩:∃ l,h.D8++h.weak=l:=⟨_,rfl⟩
 have hll:l.length<=20000:=by rw [<-hl];simp;omega
 have HL:=ah hl
 clear hl
 go_wp2_with fail
 go_cut [17,18,19] (fun v nv zv wc=>∃ A2 cap2,v=.slice A2 l.length cap2/\nv=.int .i64 (l.length:Int)/\zv=.int .i64 0/\Hq (wc.ownsRow w.heap.size 3 1 (.slice A2 l.length cap2) l.length (bU l)/\Below w.heap.size w wc))
 case first=>
  go_region_law (first
   |(have _z:=H1
     refine gM _ _ rfl w.heap.size base _ _ h.D8 h.weak rfl rfl H1.o.1 (HLW.o _ H1.o.2) (by omega) H1.o.2.size ?_
     clear _z
     intro v2 w2 ho2 hb2
     rw [HL.o] at ho2
     obtain ⟨A2,cap2,rfl⟩:=aF ho2
     have H2:=ah (And.intro ho2 (H1.o.2.trans hb2))
     clear ho2 hb2)
   |(refine gM _ _ rfl w.heap.size base _ _ [] h.D8 rfl rfl HE0.o (HLE.o _ HB0.o) (by simp;omega) HB0.o.size ?_
     intro v1 w1 ho1 hb1
     have H1:=ah (And.intro (show w1.ownsRow w.heap.size 3 1 v1 h.D8.length (bU h.D8) from ho1) (HB0.o.trans hb1))
     have c9':=(H1.o.2.cell (p:=⟨L.H,9,none⟩) hH).trans c9
     clear ho1 hb1))
  all_goals
   go_wp2_with fail
   go_meet
   exact ⟨A2,cap2,rfl,rfl,rfl,H2.o⟩
 case rest=>
 obtain ⟨A2,cap2,rfl,rfl,rfl,H2⟩:=hcut
 have hcapl:=(lV (base:=w.heap.size) (n:=0) H2.o.1).1
 have HSX:Hq (JU base (fun b=>S b/\(Value.slice A2 l.length cap2).ownBlock≠some b) h L wc):=ah (HA.o.IV H2.o.2 H2.o.1)
 have HKL:Hq (∀ n∈l,h.Lv n):=ah (fun n hn=>by
  rw [<-HL.o] at hn
  rcases List.mem_append.1 hn with x|x
  ·exact HK.o.l n (.inr (.inr (.inr x)))
  ·exact HK.o.l n (.inr (.inr (.inl x))))
 clear c9 c10 hcap hcapb HLW HLE HB0 HE0 HV HVB hwl
 generalize hT:(fun b=>S b/\(Value.slice A2 l.length cap2).ownBlock≠some b)=T at *
 have HT:=ah hT
 clear hT
 go_wp2
 go_loopw [19] (fun iv wr=>∃ i:Nat,i<=l.length/\iv=.int .i64 i/\Hq (JU base T ((l.take i).foldl Hp.JJ h) L wr/\Keeps wc wr T)) (fun iv _=>l.length-aU iv)
 case atStart=>exact ⟨0,by omega,rfl,HSX.o,Keeps.refl _ _⟩
 case round=>
  obtain ⟨i,hi9,rfl,HI⟩:=hrel
  by_cases hin:i<l.length
  ·have hts:l.take (i+1)=l.take i++[l[i]]:=aO (List.getElem?_eq_getElem hin)
   have hcn':J2 h ((l.take i).foldl Hp.JJ h):=J2.fold bE dR (l.take i) h
   have HF:Hq ((l.take (i+1)).foldl Hp.JJ h=Hp.JJ ((l.take i).foldl Hp.JJ h) l[i]):=ah (by rw [hts,aN])
   have hlv:=HKL.o _ (List.getElem_mem hin)
   obtain ⟨q,hq⟩:∃ q,(l.take i).foldl Hp.JJ h=q:=⟨_,rfl⟩
   rw [hq] at hcn' HF HI
   clear hts
   have hown:=aj H2.o.1 HI.out.2 (fun g hg x=>by rw [<-HT.o] at x;exact x.2 hg)
   obtain ⟨g,rfl,hgc⟩:=(lV (n:=0) hown).2 i hin
   generalize l[i]=n at *
   obtain ⟨o,ho⟩:=(hcn'.lv n).2 hlv
   have hnl:=Hp.Es ho
   have hzq:q.ob 0=none:=by
    rcases hcn'.ob 0 with ⟨x,_⟩|⟨_,_,_,x,_⟩
    ·exact x
    ·rw [HK.o.z] at x;cases x
   have hcl:q.Closed:=by
    intro m o' e en he r hr
    rcases hcn'.ob m with ⟨x,_⟩|⟨o1,o2,x1,x2,_,_,_,c,x3,x4⟩
    ·rw [e] at x;cases x
    ·rw [e] at x1;cases x1
     rw [x4] at he
     obtain ⟨e0,he0,rfl⟩:=List.mem_map.1 he
     exact (hcn'.lv r).2 (HK.o.c m o1 x2 e0 he0 r ((x3 e0).refs r hr))
   have hl9:q.objs.length<=5001:=by rw [hcn'.len];exact HK.o.s.len
   have hp9:1<=q.objs.length:=by rw [hcn'.len];exact HK.o.p
   have he9:o.es.length<=5000:=by
    rcases hcn'.ob n with ⟨x,_⟩|⟨o1,o2,x1,x2,_,_,_,c,x3,x4⟩
    ·rw [ho] at x;cases x
    ·rw [ho] at x1;cases x1
     rw [x4,List.length_map]
     exact HK.o.s.es n o1 x2
   obtain ⟨go,capo,hoS,hcapo,hcell⟩:=HI.out.1.slot hp9
   have hcn9:=hcell n hnl
   have c0:wr.cell? ⟨L.H,0,none⟩=some (.slice (some ⟨go,0,none⟩) q.objs.length capo):=by
    have:=HI.out.1.hp.cell (j:=0) (by omega)
    rw [this]
    exact congrArg some hoS
   obtain ⟨E,cape,hev,hcape,-⟩:=HI.out.1.ents ho
   obtain ⟨r0,hr0⟩:=HI.out.1.ob n o ho
   have c5:wr.cell? ⟨L.ob n,5,none⟩=some (.slice E o.es.length cape):=by rw [<-hev];exact hr0.cell (j:=5) (by omega)
   have HQ:=ah hcn'
   have HO:=ah ho
   have HRG:=ah (uo.of hzq hcl ho)
   have HEV:=ah hev
   have hni:(n:Int)<(q.objs.length:Int):=by omega
   clear hcn' ho hcl hzq hlv hcell hr0 hev hq hoS hown
   go_wp2
   go_loopw [35,6,5] (fun jv e6 e5 ws=>∃ j:Nat,j<=o.es.length/\jv=.int .i64 j/\Hq (JU base T (q.ents n (aL (bE q) j o.es)) L ws/\Keeps wc ws T)) (fun jv _ _ _=>o.es.length-aU jv)
   case atStart=>
    refine ⟨0,by omega,rfl,?_,HI.out.2⟩
    rw [dV,Hp.EA HO.o]
    exact HI.out.1
   case round=>
    obtain ⟨j,hj9,rfl,HJ⟩:=hrel
    by_cases hjn:j<o.es.length
    ·obtain ⟨e,he⟩:∃ e,o.es[j]?=some e:=⟨_,List.getElem?_eq_getElem hjn⟩
     have hoq:=Hp.Eu HO.o (aL (bE q) j o.es)
     obtain ⟨A3,cap3,hev2,hcap2,hent2⟩:=HJ.o.1.ents hoq
     simp only [bF] at hev2 hcap2
     have:A3=E/\cap3=cape:=by
      have h9:=hev2.symm.trans HEV.o
      simp only [Value.slice.injEq] at h9
      exact ⟨h9.1,h9.2.2⟩
     obtain ⟨rfl,rfl⟩:=this
     obtain ⟨g2,rfl,hg2,hcells⟩:=hent2 j e (bN _ he)
     have d0:=hcells 0 _ rfl
     have d1:=hcells 1 _ rfl
     have d2:=hcells 2 _ rfl
     have d3:=hcells 3 _ rfl
     have d4:=hcells 4 _ rfl
     have d5:=hcells 5 _ rfl
     have d6:=hcells 6 _ rfl
     have d7:=hcells 7 _ rfl
     have d8:=hcells 8 _ rfl
     have d9:=hcells 9 _ rfl
     simp only [Nat.add_zero] at d0
     have hrk:=HRG.o e (List.mem_of_getElem? he)
     have HAT:=ah (HJ.o.1.alloc (.cells #[.int .i64 (vk e.1),.int .i64 (vi e.1),.int .u64 0,.string ByteArray.empty,.int .i64 (vr e.1),.int .i64 (vk e.2),.int .i64 (vi e.2),.int .u64 0,.string ByteArray.empty,.int .i64 (vr e.2)] 122))
     have HKP:=ah (HJ.o.2.trans (Keeps.of (aJ wr (.cells #[.int .i64 (vk e.1),.int .i64 (vi e.1),.int .u64 0,.string ByteArray.empty,.int .i64 (vr e.1),.int .i64 (vk e.2),.int .i64 (vi e.2),.int .u64 0,.string ByteArray.empty,.int .i64 (vr e.2)] 122)) (Nat.le_refl _) T))
     have HRK:=ah (show Rg (q.ents n (aL (bE q) j o.es)) e.1 from hrk.1.mono (q.Ep n _))
     have HX:=ah (jR wr e)
     have HEE:=ah he
     clear hoq hev2 hent2 hcells hrk he
     go_upto_region 7 with (fail)
     generalize wr.alloc (.cells #[.int .i64 (vk e.1),.int .i64 (vi e.1),.int .u64 0,.string ByteArray.empty,.int .i64 (vr e.1),.int .i64 (vk e.2),.int .i64 (vi e.2),.int .u64 0,.string ByteArray.empty,.int .i64 (vr e.2)] 122)=w3 at *
     generalize wr.heap.size=X at *
     have hlt3:=HX.o.lt
     have x0:w3.cell? ⟨X,0,none⟩=some (.int .i64 (vk e.1)):=HX.o.cell (j:=0) (by omega)
     have x1:w3.cell? ⟨X,1,none⟩=some (.int .i64 (vi e.1)):=HX.o.cell (j:=1) (by omega)
     have x2:w3.cell? ⟨X,2,none⟩=some (.int .u64 0):=HX.o.cell (j:=2) (by omega)
     have x3:w3.cell? ⟨X,3,none⟩=some (.string ByteArray.empty):=HX.o.cell (j:=3) (by omega)
     have x4:w3.cell? ⟨X,4,none⟩=some (.int .i64 (vr e.1)):=HX.o.cell (j:=4) (by omega)
     clear d0 d1 d2 d3 d4 d5 d6 d7 d8 d9
     have HWV:=ah (dO HAT.o e.1 HRK.o (by rw [Hp.Ep];exact hl9) (by rw [Hp.Ep];exact hp9))
     rw [Hp.E5] at HWV
     go_wp2_with fail
     refine HWV.o.mono ?_
     rintro e9 w4 ⟨rfl,hb4⟩
     have HB4:=ah hb4
     clear hb4 HWV
     cases hb:q.JG e.1 with
     |false=>
      have HF2:=ah (dK (bE q) HEE.o (by unfold bE;rw [hb];rfl))
      clear hb
      go_wp2
      go_roundw
      case rel=>
       refine ⟨j+1,by omega,by simp,?_⟩
       exact ⟨by rw [HF2.o];exact HAT.o.low HB4.o,HKP.o.trans (Keeps.of HB4.o (Nat.le_refl _) T)⟩
      case measure=>simp [aU];omega
     |true=>
      have HF2:=ah (dJ (bE q) HEE.o)
      have HCV:Hq (bE q e=(none,none)):=ah (by unfold bE;rw [hb];rfl)
      clear hb
      have HA4:=ah (HAT.o.low HB4.o)
      obtain ⟨r4,hr4⟩:=HA4.o.ob n _ (Hp.Eu HO.o (aL (bE q) j o.es))
      have f5:w4.cell? ⟨L.ob n,5,none⟩=some (.slice (some ⟨g2,0,none⟩) o.es.length cap3):=by rw [<-HEV.o];exact hr4.cell (j:=5) (by omega)
      have hrow:=au (HA4.o.en n _ (Hp.Eu HO.o (aL (bE q) j o.es))) (g:=g2) (by rw [HEV.o];simp [Value.ownBlock])
      have hcap3:(o.es.length:Int)<=cap3:=by omega
      have hji:(j:Int)<(o.es.length:Int):=by omega
      have hm2:(aL (bE q) j o.es).length=o.es.length:=bF _ _ _
      have z0:=hrow.Jv (j*10)
      have z1:=hrow.Jv (j*10+1)
      have z2:=hrow.Jv (j*10+2)
      have z3:=hrow.Jv (j*10+3)
      have z4:=hrow.Jv (j*10+4)
      have z5:=hrow.Jv (j*10+5)
      have z6:=hrow.Jv (j*10+6)
      have z7:=hrow.Jv (j*10+7)
      have z8:=hrow.Jv (j*10+8)
      have z9:=hrow.Jv (j*10+9)
      have g0:=hrow.cell (j:=j*10) (by simp only [hm2];omega)
      have gg1:=hrow.cell (j:=j*10+1) (by simp only [hm2];omega)
      have gg2:=hrow.cell (j:=j*10+2) (by simp only [hm2];omega)
      have gg3:=hrow.cell (j:=j*10+3) (by simp only [hm2];omega)
      have gg4:=hrow.cell (j:=j*10+4) (by simp only [hm2];omega)
      have gg5:=hrow.cell (j:=j*10+5) (by simp only [hm2];omega)
      have gg6:=hrow.cell (j:=j*10+6) (by simp only [hm2];omega)
      have gg7:=hrow.cell (j:=j*10+7) (by simp only [hm2];omega)
      have gg8:=hrow.cell (j:=j*10+8) (by simp only [hm2];omega)
      have gg9:=hrow.cell (j:=j*10+9) (by simp only [hm2];omega)
      clear hr4 hrow hm2
      have HC5:=ah (HA4.o.Ip (Hp.Eu HO.o (aL (bE q) j o.es)) (by rw [bF];exact HEV.o) (bN (bE q) HEE.o))
      rw [Hp.EI] at HC5
      go_upto_region 9 with (fail)
      generalize ((((((((((w4.setCell ⟨g2,j*10,none⟩ (.int .i64 0)).setCell ⟨g2,j*10+1,none⟩ (.int .i64 0)).setCell ⟨g2,j*10+2,none⟩ (.int .u64 0)).setCell ⟨g2,j*10+3,none⟩ (.string { data:=#[] })).setCell ⟨g2,j*10+4,none⟩ (.int .i64 0)).setCell ⟨g2,j*10+5,none⟩ (.int .i64 0)).setCell ⟨g2,j*10+6,none⟩ (.int .i64 0)).setCell ⟨g2,j*10+7,none⟩ (.int .u64 0)).setCell ⟨g2,j*10+8,none⟩ (.string { data:=#[] })).setCell ⟨g2,j*10+9,none⟩ (.int .i64 0))=w5 at *
      clear g0 gg1 gg2 gg3 gg4 gg5 gg6 gg7 gg8 gg9 z0 z1 z2 z3 z4 z5 z6 z7 z8 z9 f5
      go_wp2
      go_roundw
      case rel=>
       refine ⟨j+1,by omega,by simp,?_⟩
       exact ⟨by rw [HF2.o,HCV.o];exact HC5.o.1,(HKP.o.trans (Keeps.of HB4.o (Nat.le_refl _) T)).trans HC5.o.2⟩
      case measure=>simp [aU];omega
    ·obtain rfl:j=o.es.length:=by omega
     have HT1:=HJ.o
     rw [fu] at HT1
     have HT2:=ah HT1
     clear HT1 HJ
     go_wp2
     go_roundw
     case rel=>
      refine ⟨i+1,by omega,by simp,?_⟩
      refine ⟨?_,HT2.o.2⟩
      rw [HF.o]
      have:q.JJ n=q.ents n (o.es.map (bE q)):=iB bE HO.o
      rw [this]
      exact HT2.o.1
     case measure=>simp [aU];omega
  ·obtain rfl:i=l.length:=by omega
   have HT1:=HI.out
   rw [List.take_length,<-HL.o] at HT1
   have HT2:=ah HT1
   clear HT1 HI
   go_wp2
   go_end0
   exact ⟨rfl,HT2.o.1.mono (fun b hb=>by rw [<-HT.o] at hb;exact hb.1),(Keeps.of H2.o.2 (Nat.le_refl _) S).trans (HT2.o.2.mono (fun b hb=>by rw [<-HT.o] at hb;exact hb.1))⟩
end Go.Proofs.YtedpifhlffcmkaaGreatDoor
