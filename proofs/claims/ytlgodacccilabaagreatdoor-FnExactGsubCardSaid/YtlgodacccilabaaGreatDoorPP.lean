import Derived.Test.YtlgodacccilabaaGreatDoorPP0
import Derived.Deep.RegionLaw
namespace Go.Proofs.YtlgodacccilabaaGreatDoor
open Go Go.RowKit
set_option linter.unusedVariables false
theorem MB.rb {w:World} {M RB:Nat} {s:ByteArray} {t:Pt} {us:List (It × Value)} {vi vp:Value} {n:Nat} {f:Nat→Value} (h:MB w M s t us vi vp n) (hz:RowF w 32 RB 3 f) (a b c:Value):
 MB (((w.setCell ⟨RB,0,none⟩ a).setCell ⟨RB,1,none⟩ b).setCell ⟨RB,2,none⟩ c) M s t us vi vp n:=by
 have k:Keeps w (((w.setCell ⟨RB,0,none⟩ a).setCell ⟨RB,1,none⟩ b).setCell ⟨RB,2,none⟩ c) (fun b=>b=RB):=(((Keeps.refl w (fun b=>b=RB)).setCell (S:=fun b=>b=RB) (j:=0) rfl a).setCell (S:=fun b=>b=RB) (j:=1) rfl b).setCell (S:=fun b=>b=RB) (j:=2) rfl c
 obtain ⟨a1,n1,c1,a2,n2,c2,hm⟩:=h.m
 refine ⟨⟨_,_,_,_,_,_,hm.keep k (fun e=>RowF.apart hm hz (by decide) e)⟩,h.i.pastG k hz (by decide),h.p.pastG k hz (by decide),fun u hu=>(h.s u hu).keep k ?_⟩
 rintro g hg rfl
 exact RowF.apart hg hz (by decide) rfl
theorem RowF.keepM {w w':World} {M T g N:Nat} {s:ByteArray} {t:Pt} {us:List (It × Value)} {vi vp vf vt:Value} {σ:Ms} {f:Nat→Value} (h:RowF w T g N f) (hm:MS w M s t us vi vp vf vt σ) (k:Keeps w w' (MW M vf vt)) (h1:T≠39) (h2:T≠3):RowF w' T g N f:=by
 refine RowF.keep h k ?_
 rintro (rfl|hv|hv)
 ·exact RowF.apart h hm.m h1 rfl
 ·exact RowF.apart h (hm.f.own hv) h2 rfl
 ·exact RowF.apart h (hm.t.own hv) h2 rfl
theorem MS.other {w w':World} {M T:Nat} {s:ByteArray} {t:Pt} {us:List (It × Value)} {vi vp vf vt:Value} {σ:Ms} {S:Nat→Prop} (h:MS w M s t us vi vp vf vt σ) (k:Keeps w w' S) (hS:∀ b,S b→∃ N f,RowF w T b N f) (h1:39≠T) (h2:91≠T) (h3:4≠T) (h4:3≠T):MS w' M s t us vi vp vf vt σ:=by
 refine ⟨h.m.keep k (fun x=>?_),h.i.keep k (fun b hb x=>?_),h.p.keep k (fun b hb x=>?_),h.f.keep k (fun b hb x=>?_),h.t.keep k (fun b hb x=>?_),h.a,fun u hu=>(h.s u hu).keep k (fun g hg x=>?_)⟩
 ·obtain ⟨N,f,hr⟩:=hS _ x;exact h.m.apart hr h1 rfl
 ·obtain ⟨N,f,hr⟩:=hS _ x;exact (h.i.own hb).apart hr h2 rfl
 ·obtain ⟨N,f,hr⟩:=hS _ x;exact (h.p.own hb).apart hr h3 rfl
 ·obtain ⟨N,f,hr⟩:=hS _ x;exact (h.f.own hb).apart hr h4 rfl
 ·obtain ⟨N,f,hr⟩:=hS _ x;exact (h.t.own hb).apart hr h4 rfl
 ·obtain ⟨N,f,hr⟩:=hS _ x;exact RowF.apart hg hr h3 rfl
theorem Keeps.fresh {w w1 w2:World} {S S2:Nat→Prop} (h:Keeps w w1 S) (k:Keeps w1 w2 S2) (hS:∀ b,S2 b→S b∨w.heap.size≤b):Keeps w w2 S:=
 ⟨k.os.trans h.os,k.tape.trans h.tape,k.output.trans h.output,Nat.le_trans h.size k.size,fun b hb hn=>(k.block b (Nat.lt_of_lt_of_le hb h.size) (fun x=>by rcases hS b x with y|y;exact hn y;omega)).trans (h.block b hb hn)⟩
set_option maxHeartbeats 3200000 in
set_option maxRecDepth 100000 in
theorem search_any (M:Nat) (s:ByteArray) (t:Pt) (us:List (It × Value)) (vi vp:Value) (init n:Nat) (w:World) (hs:s.size≤65536) (ho:ItsOk t us) (hit:us.map Prod.fst=t.items) (hi9:init≤s.size+1) (hn9:n≤200000) (hm:MB w M s t us vi vp n):
 Calls Tryz.prog 17 #[.pointer (some ⟨M,0,none⟩),.int .i64 init] w fun e w'=>SrR M s t us vi vp w (srM s t (s.size+1) init n) e w':=by
 obtain ⟨i0,hi,hz0,hz1,hz2⟩:=info_parts Tryz.info3
 have hc16:=ho.caps
 have hl200:=ho.len
 have hML:M<w.heap.size:=by obtain ⟨_,_,_,_,_,_,h⟩:=hm.m;exact h.lt
 have kb:Keeps w (w.alloc (.cells #[.int .i64 0,.int .i64 0,nilS] 32)) (fun _=>False):=Keeps.of (b_1 w _) (Nat.le_refl _) _
 have HM:=hide (hm.low kb)
 have HZ:=hide (show RowF (w.alloc (.cells #[.int .i64 0,.int .i64 0,nilS] 32)) 32 w.heap.size 3 (fun j=>#[Value.int .i64 0,.int .i64 0,nilS].getD j (.bool false)) from RowF.mk' w 32 #[.int .i64 0,.int .i64 0,nilS])
 have HK:=hide (kb.mono (S':=fun b=>b=M) (fun b hb=>hb.elim))
 have HT:=hide (show CallT M s t us vi vp=CallT M s t us vi vp from rfl)
 have HTry:=hide (fun vf vt=>try_any M s t us vi vp vf vt hs ho us [] rfl)
 have HST:=hide (tryM_st s t.place t.items)
 have HHN:=hide (tryM_hn s t.place t.items)
 have hlen:t.items.length≤200:=by rw [←hit];simpa using hl200
 rw [hit] at HTry
 clear hm kb ho HT hit
 go_enter Tryz.func17,Tryz.ntmps17
 go_wp2_with fail
 generalize w.alloc (.cells #[.int .i64 0,.int .i64 0,nilS] 32)=w0 at *
 have hRB:w.heap.size≤w.heap.size:=Nat.le_refl _
 obtain ⟨RB,hRBe⟩:∃ RB,RB=w.heap.size:=⟨_,rfl⟩
 rw [←hRBe] at HZ ⊢
 have hRB:w.heap.size≤RB:=by omega
 have hRM:RB≠M:=by omega
 clear hRBe
 go_loopw [6] (fun iv wr=>∃ (at_ k n1:Nat),iv=.int .i64 at_∧at_≤s.size+1∧s.size+1+init=k+at_∧n1≤200000∧Hid (MB wr M s t us vi vp n1)∧Hid (RowF wr 32 RB 3 (fun j=>#[Value.int .i64 0,.int .i64 0,nilS].getD j (.bool false)))∧Hid (Keeps w wr (fun b=>b=M))∧Hid (srM s t (s.size+1) init n=srM s t k at_ n1)) (fun iv _=>s.size+2-ivN iv)
 case atStart=>exact ⟨init,s.size+1,n,rfl,hi9,by omega,hn9,HM,HZ,HK,hide rfl⟩
 case round=>
  clear HM HZ HK
  obtain ⟨at_,k0,n1,rfl,ha,hk0,hn1,HM,HZ,HK,HO⟩:=hrel
  obtain ⟨a1,q1,c1,a2,q2,c2,hmm⟩:=HM.out.m
  have HMM:=hide hmm
  have d0:wr.cell? ⟨M,0,none⟩=some (.string s):=hmm.cell (j:=0) (by omega)
  clear hmm
  by_cases hin:at_≤s.size
  ·have hin2:(at_:Int)≤(s.size:Int):=by omega
   obtain ⟨k,rfl⟩:∃ k,k0=k+1:=⟨k0-1,by omega⟩
   go_wp2_with fail
   refine (spent_any M _ n1 wr HMM.out rfl).mono ?_
   rintro e w2 ⟨rfl,hw⟩
   obtain rfl:=hw.symm
   by_cases hsp:50000<n1
   ·have hspb:decide (50000<n1)=true:=decide_eq_true hsp
    have HR:=hide (HO.out.trans (srM_out (by omega)))
    have r0:=HZ.out.cell (j:=0) (by omega)
    have r1:=HZ.out.cell (j:=1) (by omega)
    have r2:=HZ.out.cell (j:=2) (by omega)
    have y0:=HZ.out.frz 0
    have y1:=HZ.out.frz 1
    have y2:=HZ.out.frz 2
    have HKf:=hide (((HK.out.past (g:=RB) (j:=0) hRB (.int .i64 0)).past (g:=RB) (j:=1) hRB (.int .i64 0)).past (g:=RB) (j:=2) hRB nilS)
    have HMf:=hide (HM.out.rb HZ.out (.int .i64 0) (.int .i64 0) nilS)
    go_wp2_with fail
    refine bodyPost_ret (v:=.tuple #[.agg #[.int .i64 0,.int .i64 0,nilS],.bool false]) ?_ rfl ⟨HKf.out,by rw [HR.out];exact HMf.out,by rw [HR.out];omega,.inl ⟨by rw [HR.out],rfl⟩⟩
    simp [results,Tryz.results17,go_sem,r0,r1,r2]
   ·have hspb:decide (50000<n1)=false:=decide_eq_false hsp
    obtain ⟨ap,kp,hvp⟩:=HM.out.p.form
    have d2:wr.cell? ⟨M,2,none⟩=some (.slice ap t.caps kp):=by rw [←hvp];exact HMM.out.cell (j:=2) (by omega)
    have HVP:=hide hvp
    clear hvp
    go_upto_region 5 with (first
     |(at_make
       refine wpList_make_full _ rfl _ _ 37 rfl wr.heap.size 3 i0 (.int .i64 0) 1 Tryz.underlying37 hi hz0 hz1 _ _ _ _ t.caps rfl rfl rfl rfl (by rw [hz2];omega) (by unfold maxLen;omega) (Nat.le_refl _) ?_
       intro w3 hown hgrow
       have hb1:Below wr.heap.size wr w3:=(Below.refl _ _).grown hgrow (Nat.le_refl _) (fun _ h=>by cases h)
       have G1:=hide (made_row rfl hown)
       have KG1:=hide (Keeps.of hb1 (Nat.le_refl _) (fun _=>False))
       clear hown hgrow hb1
       have HM3:=hide (HMM.out.keep KG1.out (fun x=>x))
       have d4:w3.cell? ⟨M,4,none⟩=some (.slice a1 q1 c1):=HM3.out.cell (j:=4) (by omega)
       have z4:w3.frozen? ⟨M,4,none⟩=false:=HM3.out.frz 4))
    have HM4:=hide (HM3.out.set (j:=4) (by omega) (.slice (some ⟨wr.heap.size,0,none⟩) t.caps t.caps))
    have d22:(w3.setCell ⟨M,4,none⟩ (.slice (some ⟨wr.heap.size,0,none⟩) t.caps t.caps)).cell? ⟨M,2,none⟩=some (.slice ap t.caps kp):=by rw [←HVP.out];exact HM4.out.cell (j:=2) (by omega)
    have K4:=hide ((Keeps.refl w3 (fun b=>b=M)).setCell (S:=fun b=>b=M) (j:=4) rfl (.slice (some ⟨wr.heap.size,0,none⟩) t.caps t.caps))
    have hs34:w3.heap.size≤(w3.setCell ⟨M,4,none⟩ (.slice (some ⟨wr.heap.size,0,none⟩) t.caps t.caps)).heap.size:=by simp
    have hsr3:wr.heap.size<w3.heap.size:=G1.out.lt
    clear d4 z4 d2 d0
    obtain ⟨w4,hw4⟩:∃ w4,w4=w3.setCell ⟨M,4,none⟩ (.slice (some ⟨wr.heap.size,0,none⟩) t.caps t.caps):=⟨_,rfl⟩
    rw [←hw4] at HM4 d22 K4 hs34 ⊢
    have HW4:=hide hw4
    clear hw4
    go_wp2_with (first
     |(at_make
       refine wpList_make_full _ rfl _ _ 37 rfl w4.heap.size 3 i0 (.int .i64 0) 1 Tryz.underlying37 hi hz0 hz1 _ _ _ _ t.caps rfl rfl rfl rfl (by rw [hz2];omega) (by unfold maxLen;omega) (Nat.le_refl _) ?_
       intro w5 hown hgrow
       have hb1:Below w4.heap.size w4 w5:=(Below.refl _ _).grown hgrow (Nat.le_refl _) (fun _ h=>by cases h)
       have G2:=hide (made_row rfl hown)
       have KG2:=hide (Keeps.of hb1 (Nat.le_refl _) (fun _=>False))
       clear hown hgrow hb1
       have HM5:=hide (HM4.out.keep KG2.out (fun x=>x))
       have d5:w5.cell? ⟨M,5,none⟩=some (.slice a2 q2 c2):=HM5.out.cell (j:=5) (by omega)
       have z5:w5.frozen? ⟨M,5,none⟩=false:=HM5.out.frz 5))
    have HMS:=hide (HM.out.start KG1.out G1.out (by rw [←HW4.out];exact KG2.out) G2.out (by omega))
    have K6:=hide ((Keeps.refl w5 (fun b=>b=M)).setCell (S:=fun b=>b=M) (j:=5) rfl (.slice (some ⟨w4.heap.size,0,none⟩) t.caps t.caps))
    have HKw:=hide ((((HK.out.fresh KG1.out (fun b hb=>hb.elim)).trans K4.out).fresh KG2.out (fun b hb=>hb.elim)).trans K6.out)
    have HZ6:=hide (RowF.keep (RowF.keep (RowF.keep (RowF.keep HZ.out KG1.out (fun x=>x)) K4.out hRM) KG2.out (fun x=>x)) K6.out hRM)
    have hg1:w.heap.size≤wr.heap.size:=HK.out.size
    have hg2:w.heap.size≤w4.heap.size:=by omega
    clear d5 z5 d22 HM HMM HM3 HM4 HM5 G1 G2 KG1 KG2 K4 K6 HZ HK HW4 hs34
    generalize w5.setCell ⟨M,5,none⟩ (.slice (some ⟨w4.heap.size,0,none⟩) t.caps t.caps)=w6 at *
    generalize w4.heap.size=g2 at *
    generalize wr.heap.size=g1 at *
    refine (HTry.out _ _ at_ _ 0 (s0 n1) w6 rfl (by simp) HMS.out hin (by show n1≤50000;omega) ⟨by simp,by simp⟩).mono ?_
    rintro e w7 ⟨rfl,h1,h2⟩
    have HM7:=hide h2
    have HZ7:=hide (HZ6.out.keepM HMS.out h1 (by decide) (by decide))
    have HK7:=hide (HKw.out.fresh h1 (by
     rintro b (rfl|hv|hv)
     ·exact .inl rfl
     ·simp [Value.ownBlock] at hv;omega
     ·simp [Value.ownBlock] at hv;omega))
    have hst:=HST.out at_ (s0 n1) (by show n1≤50000;omega)
    have hhn:=HHN.out at_ (s0 n1)
    clear h1 h2 HMS HZ6 HKw
    have HZ:=HZ7
    have HK:=HK7
    clear HZ7 HK7
    obtain ⟨r,hr⟩:∃ r,tryM s t.place t.items at_ (s0 n1)=r:=⟨_,rfl⟩
    rw [hr] at HM7 hst hhn ⊢
    have HRR:=hide hr
    clear hr
    obtain ⟨o,σ⟩:=r
    cases o with
    |none=>
     simp only [resI] at *
     have d3:w7.cell? ⟨M,3,none⟩=some (.bool t.start):=RowF.cell HM7.out.m (j:=3) (by omega)
     have HM:=hide HM7.out.mb
     cases hst9:t.start with
     |true=>
      have HR:=hide (HO.out.trans (srM_fix (k:=k) ⟨hin,by omega⟩ HRR.out hst9))
      have r0:=HZ.out.cell (j:=0) (by omega)
      have r1:=HZ.out.cell (j:=1) (by omega)
      have r2:=HZ.out.cell (j:=2) (by omega)
      have y0:=HZ.out.frz 0
      have y1:=HZ.out.frz 1
      have y2:=HZ.out.frz 2
      have HKf:=hide (((HK.out.past (g:=RB) (j:=0) hRB (.int .i64 0)).past (g:=RB) (j:=1) hRB (.int .i64 0)).past (g:=RB) (j:=2) hRB nilS)
      have HMf:=hide (HM.out.rb HZ.out (.int .i64 0) (.int .i64 0) nilS)
      go_wp2_with fail
      refine bodyPost_ret (v:=.tuple #[.agg #[.int .i64 0,.int .i64 0,nilS],.bool false]) ?_ rfl ⟨HKf.out,by rw [HR.out];exact HMf.out,by rw [HR.out];omega,.inl ⟨by rw [HR.out],rfl⟩⟩
      simp [results,Tryz.results17,go_sem,r0,r1,r2]
     |false=>
      have HR:=hide (HO.out.trans (srM_on (k:=k) ⟨hin,by omega⟩ HRR.out hst9))
      go_wp2_with fail
      go_roundw
      case rel=>exact ⟨at_+1,k,σ.steps,by simp,by omega,by omega,by omega,HM,HZ,HK,HR⟩
      case measure=>show s.size+2-ivN (.int .i64 _)<s.size+2-ivN (.int .i64 _);simp [ivN];omega
    |some e=>
     simp only [resI] at *
     have hσ:=hhn e (by show n1≤50000;omega) rfl
     have HR:=hide (HO.out.trans (srM_hit (k:=k) ⟨hin,by omega⟩ HRR.out))
     have he0:(0:Int)≤(e:Int):=by omega
     go_wp2_with fail
     refine (MS.spentC HM7.out).mono ?_
     rintro e2 w8 ⟨rfl,hw⟩
     obtain rfl:=hw.symm
     have hspb2:σ.spent=false:=by unfold Ms.spent;simpa using hσ
     have HM9:=hide (HM7.out.low (Keeps.of (b_1 w7 (.cells #[.int .i64 at_,.int .i64 e,nilS] 32)) (Nat.le_refl _) (fun _=>False)))
     have HF9:=hide (show RowF (w7.alloc (.cells #[.int .i64 at_,.int .i64 e,nilS] 32)) 32 w7.heap.size 3 (fun j=>#[Value.int .i64 at_,.int .i64 e,nilS].getD j (.bool false)) from RowF.mk' w7 32 #[.int .i64 at_,.int .i64 e,nilS])
     have HZ9:=hide (RowF.low HZ.out (b_1 w7 (.cells #[.int .i64 at_,.int .i64 e,nilS] 32)) HZ.out.lt)
     have HK9:=hide (HK.out.fresh (Keeps.of (b_1 w7 (.cells #[.int .i64 at_,.int .i64 e,nilS] 32)) (Nat.le_refl _) (fun _=>False)) (fun b hb=>hb.elim))
     have hFB:w.heap.size≤w7.heap.size:=HK.out.size
     have hFR:RB<w7.heap.size:=HZ.out.lt
     have hFM:M<w7.heap.size:=HM7.out.m.lt
     clear HM7 HZ HK hw
     obtain ⟨ap2,kp2,hvp2⟩:=HM9.out.p.form
     have d2:(w7.alloc (.cells #[.int .i64 at_,.int .i64 e,nilS] 32)).cell? ⟨M,2,none⟩=some (.slice ap2 t.caps kp2):=by rw [←hvp2];exact RowF.cell HM9.out.m (j:=2) (by omega)
     go_wp2_with fail
     clear d2
     generalize w7.alloc (.cells #[.int .i64 at_,.int .i64 e,nilS] 32)=w9 at *
     generalize w7.heap.size=FB at *
     go_loopw [66] (fun iv wr=>∃ (j:Nat) (v:Value),iv=.int .i64 j∧j≤t.caps∧Hid (MS wr M s t us vi vp (.slice (some ⟨g1,0,none⟩) t.caps t.caps) (.slice (some ⟨g2,0,none⟩) t.caps t.caps) σ)∧Hid (RowF wr 32 FB 3 (fun j=>#[Value.int .i64 at_,.int .i64 e,v].getD j (.bool false)))∧Hid (wr.ownsRow (FB+1) 56 3 v j (capC ((List.range j).map (capAt t σ))))∧Hid (RowF wr 32 RB 3 (fun j=>#[Value.int .i64 0,.int .i64 0,nilS].getD j (.bool false)))∧Hid (Keeps w wr (fun b=>b=M))) (fun iv _=>t.caps+1-ivN iv)
     case atStart=>exact ⟨0,nilS,rfl,by omega,HM9,HF9,hide ⟨rfl,.inl ⟨rfl,rfl⟩⟩,HZ9,HK9⟩
     case round=>
      clear HM9 HF9 HZ9 HK9
      obtain ⟨j,v,rfl,hj,HM,HFb,HV,HZ,HK⟩:=hrel
      obtain ⟨av,kv,rfl⟩:=owns_val HV.out
      by_cases hjn:j<t.caps
      ·have hjn2:(j:Int)<(t.caps:Int):=by omega
       obtain ⟨gp,capp,hvp3,hobp,hrowp⟩:=HM.out.p.slot hjn
       have e1:=hvp2.symm.trans hvp3
       simp only [Value.slice.injEq] at e1
       obtain ⟨rfl,_,rfl⟩:=e1
       have p1:=hrowp.cell (j:=j) hjn
       have d4:wr.cell? ⟨M,4,none⟩=some (.slice (some ⟨g1,0,none⟩) t.caps t.caps):=RowF.cell HM.out.m (j:=4) (by omega)
       have d5:wr.cell? ⟨M,5,none⟩=some (.slice (some ⟨g2,0,none⟩) t.caps t.caps):=RowF.cell HM.out.m (j:=5) (by omega)
       have f1:wr.cell? ⟨g1,j,none⟩=some (.int .i64 (σ.fr j)):=(HM.out.f.own rfl).cell (j:=j) (by omega)
       have f2:wr.cell? ⟨g2,j,none⟩=some (.int .i64 (σ.tt j)):=(HM.out.t.own rfl).cell (j:=j) (by omega)
       have hb9:=b_1 wr (.cells #[.bool false,.int .i64 0,.int .i64 0] 56)
       have e4:=(hb9.cell (p:=⟨M,4,none⟩) HM.out.m.lt).trans d4
       have e5:=(hb9.cell (p:=⟨M,5,none⟩) HM.out.m.lt).trans d5
       have e6:=(hb9.cell (p:=⟨g1,j,none⟩) (HM.out.f.own rfl).lt).trans f1
       have e7:=(hb9.cell (p:=⟨g2,j,none⟩) (HM.out.t.own rfl).lt).trans f2
       clear hrowp hb9
       go_wp2_with fail
       go_region
       have kA:Keeps wr (wr.alloc (.cells #[.bool (t.place j),.int .i64 (σ.fr j),.int .i64 (σ.tt j)] 56)).drew (fun _=>False):=(Keeps.of (b_1 wr _) (Nat.le_refl _) _).drw
       have HMa:=hide (HM.out.low kA)
       have HFa:=hide (HFb.out.keep kA (fun x=>x))
       have HVa:=hide (owns_keep HV.out kA (fun b hb=>hb.elim))
       have HZa:=hide (HZ.out.keep kA (fun x=>x))
       have HKa:=hide (HK.out.fresh kA (fun b hb=>hb.elim))
       have HC:=hide (show RowF (wr.alloc (.cells #[.bool (t.place j),.int .i64 (σ.fr j),.int .i64 (σ.tt j)] 56)).drew 56 wr.heap.size 3 (fun i=>#[Value.bool (t.place j),.int .i64 (σ.fr j),.int .i64 (σ.tt j)].getD i (.bool false)) from (RowF.mk' wr 56 #[.bool (t.place j),.int .i64 (σ.fr j),.int .i64 (σ.tt j)]).keep ((Keeps.refl _ (fun _=>False)).drw) (fun x=>x))
       have hCF:FB<wr.heap.size:=HFb.out.lt
       have hCV:∀ g,(Value.slice av j kv).ownBlock=some g→g<wr.heap.size:=fun g hg=>by
        obtain ⟨f9,h9⟩:=SlF.of HV.out
        exact (h9.own hg).lt
       clear kA HM HFb HV HZ HK p1 d4 d5 f1 f2 e4 e5 e6 e7
       generalize (wr.alloc (.cells #[.bool (t.place j),.int .i64 (σ.fr j),.int .i64 (σ.tt j)] 56)).drew=wA at *
       generalize wr.heap.size=C at *
       have HCA:=hide (show capAt t σ j=(t.place j,σ.fr j,if t.place j=true then σ.fr j else σ.tt j) from rfl)
       have hFwB:FB<wA.heap.size:=HFa.out.lt
       cases hp:t.place j with
       |true=>
        have HCA:=hide (show capAt t σ j=(true,σ.fr j,σ.fr j) by rw [capAt,hp];simp)
        rw [hp] at HC
        have u1:wA.cell? ⟨C,1,none⟩=some (.int .i64 (σ.fr j)):=HC.out.cell (j:=1) (by omega)
        have u2:wA.cell? ⟨C,2,none⟩=some (.int .i64 (σ.tt j)):=HC.out.cell (j:=2) (by omega)
        have u3:=HC.out.frz 2
        have kB:Keeps wA (wA.setCell ⟨C,2,none⟩ (.int .i64 (σ.fr j))) (fun b=>b=C):=(Keeps.refl wA (fun b=>b=C)).setCell (S:=fun b=>b=C) (j:=2) rfl _
        have HMb:=hide (HMa.out.other (T:=56) kB (fun b hb=>by subst hb;exact ⟨_,_,HC.out⟩) (by decide) (by decide) (by decide) (by decide))
        have HFb:=hide (HFa.out.keep kB (fun e=>RowF.apart HFa.out HC.out (by decide) e))
        have HZb:=hide (HZa.out.keep kB (fun e=>RowF.apart HZa.out HC.out (by decide) e))
        have HVb:=hide (owns_stay HVa.out (w':=wA.setCell ⟨C,2,none⟩ (.int .i64 (σ.fr j))) (fun g hg=>kB.block g (by have:=hCV g hg;have:=HC.out.lt;omega) (by have:=hCV g hg;omega)))
        have HKb:=hide (HKa.out.fresh kB (fun b hb=>.inr (by omega)))
        have HCb:=hide ((HC.out.set (j:=2) (by omega) (.int .i64 (σ.fr j))).congr (f':=fun i=>#[Value.bool true,.int .i64 (σ.fr j),.int .i64 (σ.fr j)].getD i (.bool false)) fun i hi=>by
         rcases i with _|_|_|i
         all_goals simp
         all_goals omega)
        clear kB HC HMa HFa HZa HVa HKa
        go_upto_region 15 with (fail)
        clear u1 u2 u3
        generalize wA.setCell ⟨C,2,none⟩ (.int .i64 (σ.fr j))=wB at *
        have v0:wB.cell? ⟨C,0,none⟩=some (.bool true):=HCb.out.cell (j:=0) (by omega)
        have v1:wB.cell? ⟨C,1,none⟩=some (.int .i64 (σ.fr j)):=HCb.out.cell (j:=1) (by omega)
        have v2:wB.cell? ⟨C,2,none⟩=some (.int .i64 (σ.fr j)):=HCb.out.cell (j:=2) (by omega)
        have g2c:wB.cell? ⟨FB,2,none⟩=some (.slice av j kv):=HFb.out.cell (j:=2) (by omega)
        go_wp2_with (first
         |(have _z:=HVb
           at_builtin
           clear _z
           refine app_new rfl _ _ 30 56 3 24 _ rfl Tryz.underlying30 Tryz.info56 rfl (by omega) (FB+1) (.slice av j kv) j (capC ((List.range j).map (capAt t σ))) [.bool true,.int .i64 (σ.fr j),.int .i64 (σ.fr j)] HVb.out rfl rfl rfl (one_cap (true,σ.fr j,σ.fr j)) (by omega) (by omega) (by have:=HFb.out.lt;omega) ?_
           intro v' w5 h1 _ h2 h3
           obtain ⟨a9,k9,rfl⟩:=owns_val h1
           have hb5:Below (FB+1) wB w5:=h2 _ _ (Below.refl _ _) (Nat.le_refl _)
           have k5:Keeps wB w5 (fun b=>(Value.slice av j kv).ownBlock=some b):=⟨hb5.os,hb5.tape,hb5.output,hb5.size,h3⟩
           have hSb:∀ b,(Value.slice av j kv).ownBlock=some b→∃ N f,RowF wB 56 b N f:=fun b hb=>by
            obtain ⟨f9,h9⟩:=SlF.of HVb.out
            exact ⟨_,_,h9.own hb⟩
           have HM5:=hide (HMb.out.other k5 hSb (by decide) (by decide) (by decide) (by decide))
           have HF5:=hide (HFb.out.low hb5 (by omega))
           have HZ5:=hide (HZb.out.low hb5 (by omega))
           have HK5:=hide (HKb.out.fresh (S2:=fun b=>FB+1≤b) ⟨hb5.os,hb5.tape,hb5.output,hb5.size,fun b hb hn=>hb5.block b (by omega)⟩ (fun b hb=>.inr (by omega)))
           have HV5:=hide h1
           have c5:w5.cell? ⟨FB,2,none⟩=some (.slice av j kv):=HF5.out.cell (j:=2) (by omega)
           have z5:=HF5.out.frz 2
           clear h1 h2 h3 hb5 k5 hSb HVb HMb HFb HZb HKb)
         |fail)
        have k6:Keeps w5 (w5.setCell ⟨FB,2,none⟩ (.slice a9 (j+1) k9)) (fun b=>b=FB):=(Keeps.refl w5 (fun b=>b=FB)).setCell (S:=fun b=>b=FB) (j:=2) rfl _
        have HM6:=hide (HM5.out.other (T:=32) k6 (fun b hb=>by subst hb;exact ⟨_,_,HF5.out⟩) (by decide) (by decide) (by decide) (by decide))
        have HF6:=hide ((HF5.out.set (j:=2) (by omega) (.slice a9 (j+1) k9)).congr (f':=fun i=>#[Value.int .i64 at_,.int .i64 e,.slice a9 (j+1) k9].getD i (.bool false)) fun i hi=>by
         rcases i with _|_|_|i
         all_goals simp
         all_goals omega)
        have HZ6:=hide (HZ5.out.keep k6 (by omega))
        have HV6:=hide (owns_keep HV5.out k6 (by omega))
        have HK6:=hide (HK5.out.fresh k6 (fun b hb=>.inr (by omega)))
        have HVV:=hide (show capC ((List.range (j+1)).map (capAt t σ))=capC ((List.range j).map (capAt t σ))++[.bool true,.int .i64 (σ.fr j),.int .i64 (σ.fr j)] by rw [range_take_1,HCA.out,capC_1])
        rw [←HVV.out] at HV6
        clear k6 HM5 HF5 HZ5 HV5 HK5 c5 z5
        go_roundw
        case rel=>exact ⟨j+1,.slice a9 (j+1) k9,by simp,by omega,HM6,HF6,HV6,HZ6,HK6⟩
        case measure=>show t.caps+1-ivN (.int .i64 _)<t.caps+1-ivN (.int .i64 _);simp [ivN];omega
       |false=>
        have HCA:=hide (show capAt t σ j=(false,σ.fr j,σ.tt j) by rw [capAt,hp];simp)
        rw [hp] at HC
        have HMb:=HMa
        have HFb:=HFa
        have HZb:=HZa
        have HVb:=HVa
        have HKb:=HKa
        have HCb:=HC
        clear HC HMa HFa HZa HVa HKa
        generalize hwB:wA=wB at *
        clear hwB
        have v0:wB.cell? ⟨C,0,none⟩=some (.bool false):=HCb.out.cell (j:=0) (by omega)
        have v1:wB.cell? ⟨C,1,none⟩=some (.int .i64 (σ.fr j)):=HCb.out.cell (j:=1) (by omega)
        have v2:wB.cell? ⟨C,2,none⟩=some (.int .i64 (σ.tt j)):=HCb.out.cell (j:=2) (by omega)
        have g2c:wB.cell? ⟨FB,2,none⟩=some (.slice av j kv):=HFb.out.cell (j:=2) (by omega)
        go_wp2_with (first
         |(have _z:=HVb
           at_builtin
           clear _z
           refine app_new rfl _ _ 30 56 3 24 _ rfl Tryz.underlying30 Tryz.info56 rfl (by omega) (FB+1) (.slice av j kv) j (capC ((List.range j).map (capAt t σ))) [.bool false,.int .i64 (σ.fr j),.int .i64 (σ.tt j)] HVb.out rfl rfl rfl (one_cap (false,σ.fr j,σ.tt j)) (by omega) (by omega) (by have:=HFb.out.lt;omega) ?_
           intro v' w5 h1 _ h2 h3
           obtain ⟨a9,k9,rfl⟩:=owns_val h1
           have hb5:Below (FB+1) wB w5:=h2 _ _ (Below.refl _ _) (Nat.le_refl _)
           have k5:Keeps wB w5 (fun b=>(Value.slice av j kv).ownBlock=some b):=⟨hb5.os,hb5.tape,hb5.output,hb5.size,h3⟩
           have hSb:∀ b,(Value.slice av j kv).ownBlock=some b→∃ N f,RowF wB 56 b N f:=fun b hb=>by
            obtain ⟨f9,h9⟩:=SlF.of HVb.out
            exact ⟨_,_,h9.own hb⟩
           have HM5:=hide (HMb.out.other k5 hSb (by decide) (by decide) (by decide) (by decide))
           have HF5:=hide (HFb.out.low hb5 (by omega))
           have HZ5:=hide (HZb.out.low hb5 (by omega))
           have HK5:=hide (HKb.out.fresh (S2:=fun b=>FB+1≤b) ⟨hb5.os,hb5.tape,hb5.output,hb5.size,fun b hb hn=>hb5.block b (by omega)⟩ (fun b hb=>.inr (by omega)))
           have HV5:=hide h1
           have c5:w5.cell? ⟨FB,2,none⟩=some (.slice av j kv):=HF5.out.cell (j:=2) (by omega)
           have z5:=HF5.out.frz 2
           clear h1 h2 h3 hb5 k5 hSb HVb HMb HFb HZb HKb)
         |fail)
        have k6:Keeps w5 (w5.setCell ⟨FB,2,none⟩ (.slice a9 (j+1) k9)) (fun b=>b=FB):=(Keeps.refl w5 (fun b=>b=FB)).setCell (S:=fun b=>b=FB) (j:=2) rfl _
        have HM6:=hide (HM5.out.other (T:=32) k6 (fun b hb=>by subst hb;exact ⟨_,_,HF5.out⟩) (by decide) (by decide) (by decide) (by decide))
        have HF6:=hide ((HF5.out.set (j:=2) (by omega) (.slice a9 (j+1) k9)).congr (f':=fun i=>#[Value.int .i64 at_,.int .i64 e,.slice a9 (j+1) k9].getD i (.bool false)) fun i hi=>by
         rcases i with _|_|_|i
         all_goals simp
         all_goals omega)
        have HZ6:=hide (HZ5.out.keep k6 (by omega))
        have HV6:=hide (owns_keep HV5.out k6 (by omega))
        have HK6:=hide (HK5.out.fresh k6 (fun b hb=>.inr (by omega)))
        have HVV:=hide (show capC ((List.range (j+1)).map (capAt t σ))=capC ((List.range j).map (capAt t σ))++[.bool false,.int .i64 (σ.fr j),.int .i64 (σ.tt j)] by rw [range_take_1,HCA.out,capC_1])
        rw [←HVV.out] at HV6
        clear k6 HM5 HF5 HZ5 HV5 HK5 c5 z5
        go_roundw
        case rel=>exact ⟨j+1,.slice a9 (j+1) k9,by simp,by omega,HM6,HF6,HV6,HZ6,HK6⟩
        case measure=>show t.caps+1-ivN (.int .i64 _)<t.caps+1-ivN (.int .i64 _);simp [ivN];omega
      ·obtain rfl:j=t.caps:=by omega
       have hjn2:¬ ((t.caps:Int)<(t.caps:Int)):=by omega
       have g0:wr.cell? ⟨FB,0,none⟩=some (.int .i64 at_):=HFb.out.cell (j:=0) (by omega)
       have g3:wr.cell? ⟨FB,1,none⟩=some (.int .i64 e):=HFb.out.cell (j:=1) (by omega)
       have g4:wr.cell? ⟨FB,2,none⟩=some (.slice av t.caps kv):=HFb.out.cell (j:=2) (by omega)
       have r0:=HZ.out.cell (j:=0) (by omega)
       have r1:=HZ.out.cell (j:=1) (by omega)
       have r2:=HZ.out.cell (j:=2) (by omega)
       have y0:=HZ.out.frz 0
       have y1:=HZ.out.frz 1
       have y2:=HZ.out.frz 2
       have HKf:=hide (((HK.out.past (g:=RB) (j:=0) hRB (.int .i64 at_)).past (g:=RB) (j:=1) hRB (.int .i64 e)).past (g:=RB) (j:=2) hRB (.slice av t.caps kv))
       have HMf:=hide (HM.out.mb.rb HZ.out (.int .i64 at_) (.int .i64 e) (.slice av t.caps kv))
       have HVf:=hide (owns_less (owns_keep HV.out (((((Keeps.refl wr (fun b=>b=RB)).setCell (S:=fun b=>b=RB) (j:=0) rfl (.int .i64 at_)).setCell (S:=fun b=>b=RB) (j:=1) rfl (.int .i64 e)).setCell (S:=fun b=>b=RB) (j:=2) rfl (.slice av t.caps kv))) (by omega)) (show w.heap.size≤FB+1 by omega))
       go_wp2_with fail
       refine bodyPost_ret (v:=.tuple #[.agg #[.int .i64 at_,.int .i64 e,.slice av t.caps kv],.bool true]) ?_ rfl ⟨HKf.out,by rw [HR.out,←hvp2];exact HMf.out,by rw [HR.out];simp only;omega,.inr ⟨⟨at_,e,capsOf t σ⟩,.slice av t.caps kv,by rw [HR.out],rfl,by simp only [capsOf,List.length_map,List.length_range];exact HVf.out⟩⟩
       simp [results,Tryz.results17,go_sem,r0,r1,r2]
  ·have hin2:¬ ((at_:Int)≤(s.size:Int)):=by omega
   have HR:=hide (HO.out.trans (srM_out (by omega)))
   have r0:=HZ.out.cell (j:=0) (by omega)
   have r1:=HZ.out.cell (j:=1) (by omega)
   have r2:=HZ.out.cell (j:=2) (by omega)
   have y0:=HZ.out.frz 0
   have y1:=HZ.out.frz 1
   have y2:=HZ.out.frz 2
   have HKf:=hide (((HK.out.past (g:=RB) (j:=0) hRB (.int .i64 0)).past (g:=RB) (j:=1) hRB (.int .i64 0)).past (g:=RB) (j:=2) hRB nilS)
   have HMf:=hide (HM.out.rb HZ.out (.int .i64 0) (.int .i64 0) nilS)
   go_wp2_with fail
   refine bodyPost_ret (v:=.tuple #[.agg #[.int .i64 0,.int .i64 0,nilS],.bool false]) ?_ rfl ⟨HKf.out,by rw [HR.out];exact HMf.out,by rw [HR.out];omega,.inl ⟨by rw [HR.out],rfl⟩⟩
   simp [results,Tryz.results17,go_sem,r0,r1,r2]
end Go.Proofs.YtlgodacccilabaaGreatDoor
