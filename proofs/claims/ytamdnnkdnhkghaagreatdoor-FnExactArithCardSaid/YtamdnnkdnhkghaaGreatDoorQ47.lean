import Derived.Lib.LaidU8
import Derived.Stop.LaidTwo
import Derived.LaidSub
import Derived.Deep.DeepHandedRow
import Derived.ChangeMaps5
import Derived.Carry
import Derived.ChangeOld
import Derived.Lib.SmallJoins
import Derived.Test.YtamdnnkdnhkghaaGreatDoorCards
import Derived.Lay
import Derived.SevenTiedAt
import Derived.Test.YtamdnnkdnhkghaaGreatDoorQ46
set_option maxHeartbeats 12800000
set_option maxRecDepth 100000
set_option linter.unusedVariables false
namespace Go.Proofs.YtamdnnkdnhkghaaGreatDoor
open Go Go.RowKit
def RdC (w:World) (t:ByteArray) (f:Bool) (i u:Int) (ev:Value):Prop:=∀ w',Below w.heap.size w w'->Rb 39 #[.string t] w' (.tuple #[.agg #[.bool f,.int .i64 i,.int .u64 u],ev])
theorem zrd (op:Int) (t1 t2:ByteArray) (f:Bool) (i u:Int) (b:Addr) (w:World) (h1:RdC w t1 f i u (senV b)):
 Rb 45 #[.int .i64 op,.string t1,.string t2] w (.tuple #[numG false 0 0,senV b]):=by
 have H1:=hide h1
 clear h1
 unfold senV at H1 ⊢
 have hb0:Below w.heap.size w (w.alloc (numC false 0 0)):=(Below.refl _ _).alloc (Nat.le_refl _) _
 go_enter Tryz.func45,Tryz.ntmps45
 go_wp2_with fail
 refine rb (H1.out _ hb0) fun w1 hb1=>?_
 have hb1':=hb1.alloc hb1.size (numC f i u)
 have HB1:=hide hb1'
 obtain ⟨⟨c0,c1,c2⟩,z0,z1,z2⟩:=res_1 hb1'
 clear hb1 hb1'
 go_wp2
 refine bodyPost_ret (v:=.tuple #[numG false 0 0,.iface 228 (.pointer (some b))]) ?_ rfl ⟨rfl,put_1 HB1.out _ _ _⟩
 simp [results,Tryz.results45,go_sem,c0,c1,c2]
theorem ztz {w1 w2:World} {f:Bool} {i u:Int} (h:Below (w1.alloc (numC f i u)).heap.size (w1.alloc (numC f i u)) w2):
 w2.cell? ⟨w1.heap.size,0,none⟩=some (.bool f)/\w2.cell? ⟨w1.heap.size,1,none⟩=some (.int .i64 i)/\w2.cell? ⟨w1.heap.size,2,none⟩=some (.int .u64 u):=by
 have ka:=fun j=>h.cell (p:=⟨w1.heap.size,j,none⟩) (by simp)
 exact ⟨(ka 0).trans (by simp),(ka 1).trans (by simp),(ka 2).trans (by simp)⟩
def OptC (w:World) (op:Int) (f:Bool) (i u:Int) (g:Bool) (j v:Int) (f3:Bool) (i3 u3:Int) (ev:Value):Prop:=
 ∀ w',Below w.heap.size w w'->Rb 91 #[.int .i64 op,.agg #[.bool f,.int .i64 i,.int .u64 u],.agg #[.bool g,.int .i64 j,.int .u64 v]] w' (.tuple #[.agg #[.bool f3,.int .i64 i3,.int .u64 u3],ev])
theorem ztY (op:Int) (hop:op=13∨op=14) (t1 t2:ByteArray) (f:Bool) (i u:Int) (f3:Bool) (i3 u3:Int) (ev:Value) (w:World) (h1:RdC w t1 f i u .nilIface) (hO:OptC w op f i u f i u f3 i3 u3 ev):
 Rb 45 #[.int .i64 op,.string t1,.string t2] w (.tuple #[numG f3 i3 u3,ev]):=by
 have H1:=hide h1
 have HO:=hide hO
 clear h1 hO
 have hb0:Below w.heap.size w (w.alloc (numC false 0 0)):=(Below.refl _ _).alloc (Nat.le_refl _) _
 rcases hop with rfl|rfl
 all_goals (
  go_enter Tryz.func45,Tryz.ntmps45
  go_wp2_with fail
  refine rb (H1.out _ hb0) fun w1 hb1=>?_
  have HB1:=hide (hb1.alloc hb1.size (numC f i u))
  clear hb1
  go_wp2_with fail
  refine rb (HO.out _ (zah HB1.out)) fun w3 hb3=>?_
  have hb3':=bt HB1.out hb3
  have HB3:=hide hb3'
  obtain ⟨⟨c0,c1,c2⟩,z0,z1,z2⟩:=res_1 hb3'
  clear hb3 hb3'
  go_wp2
  refine bodyPost_ret (v:=.tuple #[numG f3 i3 u3,ev]) ?_ rfl ⟨rfl,put_1 HB3.out _ _ _⟩
  simp [results,Tryz.results45,go_sem,c0,c1,c2])
theorem ztG (op:Int) (h13:(op==13)=false) (h14:(op==14)=false) (t1 t2:ByteArray) (f:Bool) (i u:Int) (g:Bool) (j v:Int) (b:Addr) (w:World) (h1:RdC w t1 f i u .nilIface) (h2:RdC w t2 g j v (senV b)):
 Rb 45 #[.int .i64 op,.string t1,.string t2] w (.tuple #[numG false 0 0,senV b]):=by
 have H1:=hide h1
 have H2:=hide h2
 clear h1 h2
 unfold senV at H2 ⊢
 have hb0:Below w.heap.size w (w.alloc (numC false 0 0)):=(Below.refl _ _).alloc (Nat.le_refl _) _
 go_enter Tryz.func45,Tryz.ntmps45
 go_wp2_with fail
 refine rb (H1.out _ hb0) fun w1 hb1=>?_
 have HB1:=hide (hb1.alloc hb1.size (numC f i u))
 clear hb1
 go_wp2_with fail
 refine rb (H2.out _ (zah HB1.out)) fun w2 hb2=>?_
 have hb2':=bt HB1.out hb2
 have hb3':=hb2'.alloc hb2'.size (numC g j v)
 have HB3:=hide hb3'
 obtain ⟨⟨c0,c1,c2⟩,z0,z1,z2⟩:=res_1 hb3'
 clear hb2 hb2' hb3'
 go_wp2
 refine bodyPost_ret (v:=.tuple #[numG false 0 0,.iface 228 (.pointer (some b))]) ?_ rfl ⟨rfl,put_1 HB3.out _ _ _⟩
 simp [results,Tryz.results45,go_sem,c0,c1,c2]
theorem zq2 (op:Int) (h13:(op==13)=false) (h14:(op==14)=false) (t1 t2:ByteArray) (f:Bool) (i u:Int) (g:Bool) (j v:Int) (f3:Bool) (i3 u3:Int) (ev:Value) (w:World) (h1:RdC w t1 f i u .nilIface) (h2:RdC w t2 g j v .nilIface) (hO:OptC w op f i u g j v f3 i3 u3 ev):
 Rb 45 #[.int .i64 op,.string t1,.string t2] w (.tuple #[numG f3 i3 u3,ev]):=by
 have H1:=hide h1
 have H2:=hide h2
 have HO:=hide hO
 clear h1 h2 hO
 have hb0:Below w.heap.size w (w.alloc (numC false 0 0)):=(Below.refl _ _).alloc (Nat.le_refl _) _
 go_enter Tryz.func45,Tryz.ntmps45
 go_wp2_with fail
 refine rb (H1.out _ hb0) fun w1 hb1=>?_
 have HB1:=hide (hb1.alloc hb1.size (numC f i u))
 clear hb1
 go_wp2_with fail
 refine rb (H2.out _ (zah HB1.out)) fun w2 hb2=>?_
 have hz2:w1.heap.size+1<=w2.heap.size:=by have:=hb2.size;simp at this;omega
 have hz3:¬ (w1.heap.size=w2.heap.size):=by omega
 obtain ⟨a0,a1,a2⟩:=ztz (hb2.alloc hb2.size (numC g j v))
 have hb2':=bt HB1.out hb2
 have HB2:=hide (hb2'.alloc hb2'.size (numC g j v))
 clear hb2 hb2'
 go_wp2_with fail
 refine rb (HO.out _ (zah HB2.out)) fun w3 hb3=>?_
 have hb3':=bt HB2.out hb3
 have HB3:=hide hb3'
 obtain ⟨⟨c0,c1,c2⟩,z0,z1,z2⟩:=res_1 hb3'
 clear hb3 hb3'
 go_wp2
 refine bodyPost_ret (v:=.tuple #[numG f3 i3 u3,ev]) ?_ rfl ⟨rfl,put_1 HB3.out _ _ _⟩
 simp [results,Tryz.results45,go_sem,c0,c1,c2]
def AtC (w:World) (op:Int) (t1 t2:ByteArray) (f:Bool) (i u:Int) (ev:Value):Prop:=
 ∀ w',Below w.heap.size w w'->Rb 45 #[.int .i64 op,.string t1,.string t2] w' (.tuple #[.agg #[.bool f,.int .i64 i,.int .u64 u],ev])
theorem zgl (op:Int) (t1 t2:ByteArray) (f:Bool) (i u:Int) (b:Addr) (k:Int) (w:World) (h1:AtC w op t1 t2 f i u (senV b)) (hC:∀ w',Below w.heap.size w w'->Rb 40 #[senV b] w' (.int .i64 k)):
 Rb 19 #[.int .i64 op,.string t1,.string t2] w (txV ⟨#[]⟩ k):=by
 have H1:=hide h1
 have HC:=hide hC
 clear h1 hC
 unfold senV at H1 HC
 go_enter Tryz.func19,Tryz.ntmps19
 go_wp2_with fail
 refine rb (H1.out _ (Below.refl _ _)) fun w1 hb1=>?_
 have HB1:=hide (hb1.alloc hb1.size (numC f i u))
 clear hb1
 go_wp2_with fail
 refine rb (HC.out _ HB1.out) fun w3 hb3=>?_
 have HB3:=hide (bt HB1.out hb3)
 clear hb3
 go_wp2
 all_goals go_ret2
 all_goals exact ⟨rfl,HB3.out⟩
theorem zu9 (op:Int) (t1 t2:ByteArray) (f:Bool) (i u:Int) (T:ByteArray->Prop) (w:World) (h1:AtC w op t1 t2 f i u .nilIface) (hT:∀ w',Below w.heap.size w w'->Calls Tryz.prog 10 #[.agg #[.bool f,.int .i64 i,.int .u64 u]] w' fun e w''=>FNum T w' e w''):
 Calls Tryz.prog 19 #[.int .i64 op,.string t1,.string t2] w fun e w'=>∃ b,e=.returned (txV b 0)/\T b/\Below w.heap.size w w':=by
 have H1:=hide h1
 have HT:=hide hT
 clear h1 hT
 go_enter Tryz.func19,Tryz.ntmps19
 go_wp2_with fail
 refine rb (H1.out _ (Below.refl _ _)) fun w1 hb1=>?_
 have HB1:=hide (hb1.alloc hb1.size (numC f i u))
 clear hb1
 go_wp2_with fail
 refine (HT.out _ HB1.out).mono ?_
 rintro e w3 ⟨b,rfl,hb,hb3⟩
 have HB3:=hide (bt HB1.out hb3)
 have Hb:=hide hb
 clear hb3 hb
 go_wp2
 all_goals go_ret2
 all_goals exact ⟨b,rfl,Hb.out,HB3.out⟩
structure ArR (op:Int) (t1 t2:ByteArray) (R:ByteArray->Int->Prop):Prop where
 one:∀ T c T' c',R T c->R T' c'->T=T'/\c=c'
 doc:∀ w,Calls Tryz.prog 18 #[.int .i64 op,.string t1,.string t2] w fun e w'=>∃ T c,e=.returned (txV T c)/\R T c/\Below w.heap.size w w'
 pro:∀ w a1 a2 a3 a4 a5,Full2 w a1 a2 a3 a4 a5->Calls Tryz.prog 19 #[.int .i64 op,.string t1,.string t2] w fun e w'=>∃ T c,e=.returned (txV T c)/\R T c/\Below w.heap.size w w'
theorem zek {op:Int} {t1 t2:ByteArray} {k:Int} (h1:∀ w,Rb 18 #[.int .i64 op,.string t1,.string t2] w (txV ⟨#[]⟩ k))
 (h2:∀ w a1 a2 a3 a4 a5,Full2 w a1 a2 a3 a4 a5->Rb 19 #[.int .i64 op,.string t1,.string t2] w (txV ⟨#[]⟩ k)):∃ R,ArR op t1 t2 R:=by
 refine ⟨fun T c=>T=⟨#[]⟩/\c=k,fun T c T' c' h h'=>⟨h.1.trans h'.1.symm,h.2.trans h'.2.symm⟩,fun w=>?_,fun w a1 a2 a3 a4 a5 hF=>?_⟩
 ·refine rb (h1 w) fun w' hb=>?_
  exact ⟨_,_,rfl,⟨rfl,rfl⟩,hb⟩
 refine rb (h2 w a1 a2 a3 a4 a5 hF) fun w' hb=>?_
 exact ⟨_,_,rfl,⟨rfl,rfl⟩,hb⟩
theorem zrZ {op:Int} {t1 t2:ByteArray} {f:Bool} {i u:Int} (h1:∀ w,Calls Tryz.prog 18 #[.int .i64 op,.string t1,.string t2] w fun e w'=>∃ b,e=.returned (txV b 0)/\NumT f i u b/\Below w.heap.size w w')
 (h2:∀ w a1 a2 a3 a4 a5,Full2 w a1 a2 a3 a4 a5->Calls Tryz.prog 19 #[.int .i64 op,.string t1,.string t2] w fun e w'=>∃ b,e=.returned (txV b 0)/\NumT f i u b/\Below w.heap.size w w'):∃ R,ArR op t1 t2 R:=by
 refine ⟨fun T c=>NumT f i u T/\c=0,fun T c T' c' h h'=>⟨h.1.unique h'.1,h.2.trans h'.2.symm⟩,fun w=>?_,fun w a1 a2 a3 a4 a5 hF=>?_⟩
 ·refine (h1 w).mono ?_
  rintro e w' ⟨b,rfl,ht,hb⟩
  exact ⟨_,_,rfl,⟨ht,rfl⟩,hb⟩
 refine (h2 w a1 a2 a3 a4 a5 hF).mono ?_
 rintro e w' ⟨b,rfl,ht,hb⟩
 exact ⟨_,_,rfl,⟨ht,rfl⟩,hb⟩
theorem zd4 {t:ByteArray} {o:Option Value} (hO:OpR t o) (hs:t.size<=1048576) {w:World} {a1 a2 a3 a4 a5:Addr} (hF:Full2 w a1 a2 a3 a4 a5) (w':World) (hb:Below w.heap.size w w'):
 Rb 39 #[.string t] w' (rdV (senV a1) o):=zoT hO hs w' _ _ (hF.below hb).full.ready
theorem zfX {w:World} {a1 a2 a3 a4 a5:Addr} (hF:Full2 w a1 a2 a3 a4 a5) (w':World) (hb:Below w.heap.size w w'):
 Rb 40 #[senV a1] w' (.int .i64 1):=zmn a1 w' (hF.below hb).full.sents.g1
theorem zrg {op:Int} {t1 t2:ByteArray} {v1 v2:Value} (hB:ArB op v1 v2)
 (hE:∀ f3 i3 u3 k,ArS op v1 v2 f3 i3 u3 k->(k !=0)=true->∀ w,Rb 18 #[.int .i64 op,.string t1,.string t2] w (txV ⟨#[]⟩ k))
 (hK:∀ f3 i3 u3 (T:ByteArray->Prop),ArS op v1 v2 f3 i3 u3 0->(∀ w,Calls Tryz.prog 20 #[.agg #[.bool f3,.int .i64 i3,.int .u64 u3]] w fun e w'=>FNum T w e w')->∀ w,Calls Tryz.prog 18 #[.int .i64 op,.string t1,.string t2] w fun e w'=>∃ b,e=.returned (txV b 0)/\T b/\Below w.heap.size w w')
 (hA:∀ f3 i3 u3 k,ArP op v1 v2 f3 i3 u3 k->∀ w a1 a2 a3 a4 a5,Full2 w a1 a2 a3 a4 a5->AtC w op t1 t2 f3 i3 u3 (codV a2 a3 a4 a5 k)):∃ R,ArR op t1 t2 R:=by
 obtain ⟨f,i,u,k,hS,hP,hi,hu,hk⟩:=hB
 by_cases h0:k=0
 ·subst h0
  refine zrZ (f:=f) (i:=i) (u:=u) (hK f i u _ hS (fun w=>zoF f i u w hi.1 hi.2 hu.1 hu.2)) (fun w a1 a2 a3 a4 a5 hF=>?_)
  exact zu9 op t1 t2 f i u _ w (hA f i u 0 hP w a1 a2 a3 a4 a5 hF) (fun w' hb=>zoK f i u w' hi.1 hi.2 hu.1 hu.2 (hF.below hb).fe)
 refine zek (hE f i u k hS (by simpa using h0)) (fun w a1 a2 a3 a4 a5 hF=>?_)
 have hk2:k=2∨k=3∨k=4∨k=5:=by omega
 obtain ⟨b,hb,_⟩:=zkr hF hk2
 have h1:=hA f i u k hP w a1 a2 a3 a4 a5 hF
 rw [hb] at h1
 refine zgl op t1 t2 f i u b k w h1 (fun w' hbw=>?_)
 obtain ⟨b',hb',hc⟩:=zkr (hF.below hbw) hk2
 rw [hb] at hb'
 have:b=b':=by
  injection hb' with _ h
  injection h with h
  injection h
 subst this
 exact hc
theorem zcw {t:ByteArray} {o:Option Value} (h:∀ w,Rb 36 #[.string t] w (opV o)) {f:Bool} {i u:Int} {k:Bool} (e:opV o=resG f i u k):OpC t f i u k:=by
 rw [e] at h
 exact h
theorem zob {v:Value} (h:NumN v):∃ f i u,v=numG f i u:=by
 rcases h with ⟨i,rfl,_⟩|⟨s,r,rfl,_⟩
 ·exact ⟨_,_,_,rfl⟩
 exact ⟨_,_,_,rfl⟩
theorem zp7 (op:Int) (t1 t2:ByteArray) (hs1:t1.size<=1048576) (hs2:t2.size<=1048576):∃ R,ArR op t1 t2 R:=by
 obtain ⟨o1,hO1,hS1⟩:=zgm t1 hs1
 obtain ⟨o2,hO2,hS2⟩:=zgm t2 hs2
 by_cases hop:op=13∨op=14
 ·cases o1 with
  |none=>
   refine zek (k:=1) (fun w=>zrx op hop t1 t2 false 0 0 w (zcw hS1 rfl)) (fun w a1 a2 a3 a4 a5 hF=>?_)
   exact zgl op t1 t2 false 0 0 a1 1 w (fun w' hb=>zrd op t1 t2 false 0 0 a1 w' (fun w'' hb'=>zd4 hO1 hs1 (hF.below hb) w'' hb')) (zfX hF)
  |some v=>
   have hN:=hO1.numN
   obtain ⟨f,i,u,rfl⟩:=zob hN
   refine zrg (t1:=t1) (t2:=t2) (ztB hN op hop) (fun f3 i3 u3 k hA hk w=>zp9 op hop t1 t2 f i u f3 i3 u3 k w (zcw hS1 rfl) hA hk) (fun f3 i3 u3 T hA hT w=>zrM op hop t1 t2 f i u f3 i3 u3 T w (zcw hS1 rfl) hA hT) (fun f3 i3 u3 k hP w a1 a2 a3 a4 a5 hF w' hb=>?_)
   exact ztY op hop t1 t2 f i u f3 i3 u3 _ w' (fun w'' hb'=>zd4 hO1 hs1 (hF.below hb) w'' hb') (fun w'' hb'=>hP w'' a1 a2 a3 a4 a5 ((hF.below hb).below hb').full)
 have h13:(op !=13)=true:=by rw [bne_iff_ne];exact fun h=>hop (.inl h)
 have h14:(op !=14)=true:=by rw [bne_iff_ne];exact fun h=>hop (.inr h)
 have e13:(op==13)=false:=by rw [beq_eq_false_iff_ne];exact fun h=>hop (.inl h)
 have e14:(op==14)=false:=by rw [beq_eq_false_iff_ne];exact fun h=>hop (.inr h)
 cases o1 with
 |none=>
  obtain ⟨g,j,v,l,e2,_⟩:=zqN o2 (fun v hv=>zlp (OpR.num (hv ▸ hO2)))
  refine zek (k:=1) (fun w=>zoc op h13 h14 t1 t2 false 0 0 false g j v l w (zcw hS1 rfl) (zcw hS2 e2) rfl) (fun w a1 a2 a3 a4 a5 hF=>?_)
  exact zgl op t1 t2 false 0 0 a1 1 w (fun w' hb=>zrd op t1 t2 false 0 0 a1 w' (fun w'' hb'=>zd4 hO1 hs1 (hF.below hb) w'' hb')) (zfX hF)
 |some v1=>
  have hN1:=hO1.numN
  obtain ⟨f,i,u,rfl⟩:=zob hN1
  cases o2 with
  |none=>
   refine zek (k:=1) (fun w=>zoc op h13 h14 t1 t2 f i u true false 0 0 false w (zcw hS1 rfl) (zcw hS2 rfl) rfl) (fun w a1 a2 a3 a4 a5 hF=>?_)
   exact zgl op t1 t2 false 0 0 a1 1 w (fun w' hb=>ztG op e13 e14 t1 t2 f i u false 0 0 a1 w' (fun w'' hb'=>zd4 hO1 hs1 (hF.below hb) w'' hb') (fun w'' hb'=>zd4 hO2 hs2 (hF.below hb) w'' hb')) (zfX hF)
  |some v2=>
   have hN2:=hO2.numN
   obtain ⟨g,j,v,rfl⟩:=zob hN2
   by_cases hr:op<1∨14<op
   ·refine zek (k:=2) (fun w=>zti op h13 h14 hr t1 t2 f i u g j v w (zcw hS1 rfl) (zcw hS2 rfl)) (fun w a1 a2 a3 a4 a5 hF=>?_)
    refine zgl op t1 t2 false 0 0 a2 2 w (fun w' hb=>?_) (fun w' hb=>zlM a1 a2 a3 a4 a5 w' (hF.below hb))
    exact zq2 op e13 e14 t1 t2 f i u g j v false 0 0 (senV a2) w' (fun w'' hb'=>zd4 hO1 hs1 (hF.below hb) w'' hb') (fun w'' hb'=>zd4 hO2 hs2 (hF.below hb) w'' hb')
     (fun w'' hb'=>zs0 op hr f g i u j v (senV a2) w'' (by have:=((hF.below hb).below hb').full.ready.size;omega) ((hF.below hb).below hb').full.sents.g2)
   have hr1:1<=op/\op<=12:=by omega
   refine zrg (t1:=t1) (t2:=t2) (zun hN1 hN2 op hr1) (fun f3 i3 u3 k hA hk w=>zqI op h13 h14 (by omega) (by omega) t1 t2 f i u g j v f3 i3 u3 k w (zcw hS1 rfl) (zcw hS2 rfl) hA hk) (fun f3 i3 u3 T hA hT w=>zr0 op h13 h14 (by omega) (by omega) t1 t2 f i u g j v f3 i3 u3 T w (zcw hS1 rfl) (zcw hS2 rfl) hA hT) (fun f3 i3 u3 k hP w a1 a2 a3 a4 a5 hF w' hb=>?_)
   exact zq2 op e13 e14 t1 t2 f i u g j v f3 i3 u3 _ w' (fun w'' hb'=>zd4 hO1 hs1 (hF.below hb) w'' hb') (fun w'' hb'=>zd4 hO2 hs2 (hF.below hb) w'' hb') (fun w'' hb'=>hP w'' a1 a2 a3 a4 a5 ((hF.below hb).below hb').full)
theorem ztF (op:Int) (t1 t2:ByteArray) (w:World) (h:1048576<t1.size) (hm:t1.size<=9223372036854775807):
 Rb 7 #[.int .i64 op,.string t1,.string t2] w (.bool true):=by
 go_enter Tryz.func7,Tryz.ntmps7
 go_wp2
 all_goals go_ret
 all_goals exact ⟨rfl,Below.refl _ _⟩
theorem zt5 (op:Int) (t1 t2:ByteArray) (w:World) (h1:t1.size<=1048576) (h:1048576<t2.size) (hm:t2.size<=9223372036854775807):
 Rb 7 #[.int .i64 op,.string t1,.string t2] w (.bool true):=by
 go_enter Tryz.func7,Tryz.ntmps7
 go_wp2
 all_goals go_ret
 all_goals exact ⟨rfl,Below.refl _ _⟩
theorem zut (op:Int) (t1 t2:ByteArray) (R:ByteArray->Int->Prop) (w:World) (hs1:t1.size<=1048576) (hs2:t2.size<=1048576) (one:∀ T c T' c',R T c->R T' c'->T=T'/\c=c')
 (h1:Calls Tryz.prog 18 #[.int .i64 op,.string t1,.string t2] w fun e w'=>∃ T c,e=.returned (txV T c)/\R T c/\Below w.heap.size w w')
 (h2:∀ w',Below w.heap.size w w'->Calls Tryz.prog 19 #[.int .i64 op,.string t1,.string t2] w' fun e w''=>∃ T c,e=.returned (txV T c)/\R T c/\Below w'.heap.size w' w''):
 Rb 7 #[.int .i64 op,.string t1,.string t2] w (.bool true):=by
 have H1:=hide h1
 have H2:=hide h2
 have HO:=hide one
 clear h1 h2 one
 go_enter Tryz.func7,Tryz.ntmps7
 go_wp2_with fail
 refine H1.out.mono ?_
 rintro e w1 ⟨T,c,rfl,hR,hb1⟩
 have HB1:=hide hb1
 have HR:=hide hR
 clear hb1 hR
 go_wp2_with fail
 refine (H2.out _ HB1.out).mono ?_
 rintro e w2 ⟨T',c',rfl,hR',hb2⟩
 have HB3:=hide (bt HB1.out hb2)
 obtain ⟨rfl,rfl⟩:=HO.out T c T' c' HR.out hR'
 clear hb2 hR'
 go_wp2
 all_goals go_ret
 all_goals exact ⟨rfl,HB3.out⟩
theorem zqE (op:Int) (t1 t2:ByteArray) (w:World) (a1 a2 a3 a4 a5:Addr) (hF:Full2 w a1 a2 a3 a4 a5) (hm1:t1.size<=9223372036854775807) (hm2:t2.size<=9223372036854775807):
 Rb 7 #[.int .i64 op,.string t1,.string t2] w (.bool true):=by
 by_cases hl:t1.size<=1048576
 ·by_cases hl2:t2.size<=1048576
  ·obtain ⟨R,h⟩:=zp7 op t1 t2 hl hl2
   exact zut op t1 t2 R w hl hl2 h.one (h.doc w) (fun w' hb=>h.pro w' a1 a2 a3 a4 a5 (hF.below hb))
  exact zt5 op t1 t2 w hl (by omega) hm2
 exact ztF op t1 t2 w (by omega) hm1
end Go.Proofs.YtamdnnkdnhkghaaGreatDoor
namespace Go.Proofs.YtamdnnkdnhkghaaGreatDoor
open Go Go.RowKit Go.Lib
section
variable {H : Type} {enc : TypeId × Value → H} {P : Program} {w : World} {base : Nat} {sp : Nat → Bool} {held : Bool} {fuel : Nat}
theorem zk7 {t:TypeId} {k:FloatKind} {cs:List Value} {x:DataW H × List MemPlace} (ht:P.underlying t=some (.float k)) (h:DataW.trod enc P w base sp held fuel t cs=some x):∃ n,cs=[.float k n]/\x=(.lit (.float k n),[]):=by
 cases fuel with
 |zero=>simp [DataW.trod] at h
 |succ fuel=>
  unfold DataW.trod at h
  rw [ht] at h
  split at h<;>simp_all
theorem zdQ {t e:TypeId} {cs:List Value} {ds:List (DataW H)} {p:List MemPlace} (ht:P.underlying t=some (.slice e)) (hsp:∀ b,sp b=true) (h:DataW.trod enc P w base sp held fuel t cs=some (.slice ds [],p)):
 ∃ (a:Addr) (n:Nat),cs=[.slice (some a) ds.length ds.length]/\∀ i d,ds[i]?=some d->∃ cs' q,w.cells? base (a.add (i*P.cellsOf e)) (P.cellsOf e)=some cs'/\DataW.trod enc P w base sp held n e cs'=some (d,q):=by
 rcases DataW.trod_slice ht h with ⟨_,h2⟩|⟨a,len,cap,elems,rest,n,h1,h2,h3,h4,h5,h6,h7,h8,h9,h10⟩
 ·cases h2
 have e1:elems.map (·.1)=ds:=by have:=congrArg Prod.fst h3;simp at this;exact this.1.symm
 have e2:rest=[]:=by have:=congrArg Prod.fst h3;simp at this;exact this.2
 have e3:=(h9 (hsp _)).1
 rw [e2] at e3
 have hlen:ds.length=len:=by rw [<-e1,List.length_map];exact h7
 have hcap:cap=len:=by simp at e3;omega
 refine ⟨a,n,by rw [h2,hcap,hlen],fun i d hd=>?_⟩
 have hi:i<len:=by
  have:=(List.getElem?_eq_some_iff.1 hd).1
  omega
 have h11:=h8 i hi
 rw [<-e1,List.getElem?_map] at hd
 cases he:elems[i]? with
 |none=>rw [he] at hd;cases hd
 |some y=>
  rw [he] at hd h11
  obtain ⟨cs',hc1,hc2⟩:=Option.bind_eq_some_iff.1 h11
  refine ⟨cs',y.2,hc1,?_⟩
  rw [hc2]
  have:y.1=d:=by simpa using hd
  rw [<-this]
end
theorem zfk {w:World} {base n:Nat} {a:Addr} {cs:List Value} (h:w.cells? base a n=some cs) {i:Nat} (hi:i<n):w.cell? (a.add i)=cs[i]?:=by
 unfold World.cells? at h
 split at h
 ·obtain ⟨b,h1,h2⟩:=mapM_at h i i (by simp [hi])
  rw [h1,h2]
 cases h
theorem zgX {w:World} {b o:Nat} {sp:Option Nat} {v:Value} (h:w.cell? ⟨b,o,sp⟩=some v):b<w.heap.size:=by
 rcases Nat.lt_or_ge b w.heap.size with g|g
 ·exact g
 exfalso
 unfold World.cell? at h
 rw [Array.getElem?_eq_none g] at h
 cases h
theorem zcl (b o k:Nat):(⟨b,o,none⟩:Addr).add k=⟨b,o+k,none⟩:=by
 unfold Addr.add
 split
 ·rename_i h;subst h;rfl
 rfl
theorem zfL {L:List (String × DataW Unit)} {W:World} (h:laidMet Tryz.prog L W) (hm:("internal/strconv.optimize",Rows.laid_internal_strconv_optimize)∈L):W.cell? ⟨12,0,none⟩=some (.bool true):=by
 obtain ⟨g,t,cs,fuel,p,hg,hty,hvar,hd⟩:=laidMet.reads h (n:= "internal/strconv.optimize") (d:=Rows.laid_internal_strconv_optimize) hm
 obtain rfl:=Option.some.inj ((show Tryz.prog.globalNamed "internal/strconv.optimize" =some 12 by kernel_rfl).symm.trans hg)
 obtain rfl:=Option.some.inj ((show (Tryz.prog.globals[12]?).map (·.type)=some 4 by kernel_rfl).symm.trans hty)
 obtain ⟨b,h1,h2⟩:=DataW.trod_bool Tryz.underlying4 hd
 have hb:b=true:=by
  have:=congrArg Prod.fst h2
  unfold Rows.laid_internal_strconv_optimize at this
  simp at this
  exact this
 rw [World.var?_cell hg hvar 0,<-Array.getElem?_toList,h1,hb]
 rfl
theorem zsc {L:List (String × DataW Unit)} {W:World} (h:laidMet Tryz.prog L W) (hm:("internal/strconv.float64info",Rows.laid_internal_strconv_float64info)∈L):W.cell? ⟨14,0,none⟩=some (.int .u64 52)/\W.cell? ⟨14,1,none⟩=some (.int .u64 11)/\W.cell? ⟨14,2,none⟩=some (.int .i64 (-1023)):=by
 obtain ⟨g,t,cs,fuel,p,hg,hty,hvar,hd⟩:=laidMet.reads h (n:= "internal/strconv.float64info") (d:=Rows.laid_internal_strconv_float64info) hm
 obtain rfl:=Option.some.inj ((show Tryz.prog.globalNamed "internal/strconv.float64info" =some 14 by kernel_rfl).symm.trans hg)
 obtain rfl:=Option.some.inj ((show (Tryz.prog.globals[14]?).map (·.type)=some 238 by kernel_rfl).symm.trans hty)
 obtain ⟨xs,n,rfl,hx,hl,hxl,hall⟩:=DataW.trod_struct Tryz.underlying238 hd
 have hxs:xs.map (·.1)=[.lit (.int .u64 52),.lit (.int .u64 11),.lit (.int .i64 (-1023))]:=by
  have:=congrArg Prod.fst hx
  unfold Rows.laid_internal_strconv_float64info at this
  simp at this
  exact this.symm
 have c47:Tryz.prog.cellsOf 84=1:=by kernel_rfl
 have c3:Tryz.prog.cellsOf 3=1:=by kernel_rfl
 have f0:DataW.trod (fun _=>()) Tryz.prog W 0 (fun _=>true) false n 84 ((cs.toList.drop 0).take (Tryz.prog.cellsOf 84))=xs[0]?:=hall 0 _ rfl
 have f1:DataW.trod (fun _=>()) Tryz.prog W 0 (fun _=>true) false n 84 ((cs.toList.drop 1).take (Tryz.prog.cellsOf 84))=xs[1]?:=hall 1 _ rfl
 have f2:DataW.trod (fun _=>()) Tryz.prog W 0 (fun _=>true) false n 3 ((cs.toList.drop 2).take (Tryz.prog.cellsOf 3))=xs[2]?:=hall 2 _ rfl
 rw [c47] at f0 f1
 rw [c3] at f2
 have g0:=congrArg (·[0]?) hxs
 have g1:=congrArg (·[1]?) hxs
 have g2:=congrArg (·[2]?) hxs
 simp only [List.getElem?_map] at g0 g1 g2
 obtain ⟨y0,hy0,e0⟩:=Option.map_eq_some_iff.1 g0
 obtain ⟨y1,hy1,e1⟩:=Option.map_eq_some_iff.1 g1
 obtain ⟨y2,hy2,e2⟩:=Option.map_eq_some_iff.1 g2
 rw [hy0] at f0
 rw [hy1] at f1
 rw [hy2] at f2
 obtain ⟨n0,k0,l0,_⟩:=DataW.trod_int Tryz.underlying84 f0
 obtain ⟨n1,k1,l1,_⟩:=DataW.trod_int Tryz.underlying84 f1
 obtain ⟨n2,k2,l2,_⟩:=DataW.trod_int Tryz.underlying3 f2
 rw [l0] at e0
 rw [l1] at e1
 rw [l2] at e2
 simp at e0 e1 e2
 subst e0 e1 e2
 refine ⟨?_,?_,?_⟩
 ·rw [World.var?_cell hg hvar 0,<-Array.getElem?_toList]
  have:=congrArg (·[0]?) k0
  simpa [List.getElem?_take,List.getElem?_drop] using this
 ·rw [World.var?_cell hg hvar 1,<-Array.getElem?_toList]
  have:=congrArg (·[0]?) k1
  simpa [List.getElem?_take,List.getElem?_drop] using this
 rw [World.var?_cell hg hvar 2,<-Array.getElem?_toList]
 have:=congrArg (·[0]?) k2
 simpa [List.getElem?_take,List.getElem?_drop] using this
theorem zlT {L:List (String × DataW Unit)} {W:World} (h:laidMet Tryz.prog L W) (hm:("internal/strconv.powtab",Rows.laid_internal_strconv_powtab)∈L):∃ P po,W.cell? ⟨18,0,none⟩=some (.slice (some ⟨P,po,none⟩) 9 9)/\P<W.heap.size/\∀ k,k<9->W.cell? ⟨P,po+k,none⟩=some (.int .i64 (powRow.getD k 0:Nat)):=by
 obtain ⟨g,t,cs,fuel,p,hg,hty,hvar,hd⟩:=laidMet.reads h (n:= "internal/strconv.powtab") (d:=Rows.laid_internal_strconv_powtab) hm
 obtain rfl:=Option.some.inj ((show Tryz.prog.globalNamed "internal/strconv.powtab" =some 18 by kernel_rfl).symm.trans hg)
 obtain rfl:=Option.some.inj ((show (Tryz.prog.globals[18]?).map (·.type)=some 121 by kernel_rfl).symm.trans hty)
 have hdat:(Rows.laid_internal_strconv_powtab:DataW Unit)=.slice (powRow.map fun z=>.lit (.int .i64 (z:Nat))) []:=rfl
 rw [hdat] at hd
 obtain ⟨a,n,h1,h2⟩:=zdQ Tryz.underlying121 (fun _=>rfl) hd
 have c3:Tryz.prog.cellsOf 3=1:=by kernel_rfl
 rw [c3] at h2
 have key:∀ k,k<9->W.cell? (a.add (k*1))=some (.int .i64 (powRow.getD k 0:Nat)):=by
  intro k hk
  obtain ⟨cs',q,h3,h4⟩:=h2 k (.lit (.int .i64 (powRow.getD k 0:Nat))) (by
   have:∀ k:Fin 9,(powRow.map fun z=>(DataW.lit (.int .i64 ((z:Nat):Int)):DataW Unit))[k.val]?=some (.lit (.int .i64 (powRow.getD k.val 0:Nat))):=by
    intro k
    have hk:k.val<powRow.length:=k.isLt
    rw [List.getElem?_map,List.getElem?_eq_getElem hk,List.getD_eq_getElem?_getD,List.getElem?_eq_getElem hk]
    rfl
   exact this ⟨k,hk⟩)
  obtain ⟨m,k1,l1,_⟩:=DataW.trod_int Tryz.underlying3 h4
  have:=congrArg Prod.fst l1
  simp at this
  have h5:=zfk h3 (i:=0) (by omega)
  rw [k1,<-this] at h5
  exact h5
 obtain ⟨P,po,sp⟩:=a
 have hsp:sp=none:=cell_spot (key 0 (by omega))
 subst hsp
 refine ⟨P,po,?_,zgX (key 0 (by omega)),fun k hk=>?_⟩
 ·rw [World.var?_cell hg hvar 0,<-Array.getElem?_toList,h1];rfl
 have:=key k hk
 rw [Nat.mul_one,zcl] at this
 exact this
theorem zjd {α β:Type} {l:List α} {f:α->β} {k:Nat} {x:α} (h:k<l.length):(l.map f)[k]?=some (f (l.getD k x)):=by
 rw [List.getElem?_map,List.getElem?_eq_getElem h,List.getD_eq_getElem?_getD,List.getElem?_eq_getElem h]
 rfl
theorem zsO {L:List (String × DataW Unit)} {W:World} (h:laidMet Tryz.prog L W) (hm:("internal/strconv.float64pow10",Rows.laid_internal_strconv_float64pow10)∈L):∃ G o,W.cell? ⟨19,0,none⟩=some (.slice (some ⟨G,o,none⟩) 23 23)/\G<W.heap.size/\∀ k,k<23->W.cell? ⟨G,o+k,none⟩=some (.float .f64 (pow10Words.getD k 0)):=by
 obtain ⟨g,t,cs,fuel,p,hg,hty,hvar,hd⟩:=laidMet.reads h (n:= "internal/strconv.float64pow10") (d:=Rows.laid_internal_strconv_float64pow10) hm
 obtain rfl:=Option.some.inj ((show Tryz.prog.globalNamed "internal/strconv.float64pow10" =some 19 by kernel_rfl).symm.trans hg)
 obtain rfl:=Option.some.inj ((show (Tryz.prog.globals[19]?).map (·.type)=some 267 by kernel_rfl).symm.trans hty)
 have hdat:(Rows.laid_internal_strconv_float64pow10:DataW Unit)=.slice (pow10Words.map fun z=>.lit (.float .f64 z)) []:=rfl
 rw [hdat] at hd
 obtain ⟨a,n,h1,h2⟩:=zdQ Tryz.underlying267 (fun _=>rfl) hd
 have c52:Tryz.prog.cellsOf 45=1:=by kernel_rfl
 have hlen:pow10Words.length=23:=rfl
 rw [c52] at h2
 have key:∀ k,k<23->W.cell? (a.add (k*1))=some (.float .f64 (pow10Words.getD k 0)):=by
  intro k hk
  obtain ⟨cs',q,h3,h4⟩:=h2 k _ (zjd (x:=0) (by rw [hlen];exact hk))
  obtain ⟨m,k1,l1⟩:=zk7 Tryz.underlying45 h4
  have:=congrArg Prod.fst l1
  simp only [DataW.lit.injEq,Lit.float.injEq,true_and] at this
  have h5:=zfk h3 (i:=0) (by omega)
  rw [k1,<-this] at h5
  exact h5
 obtain ⟨P,po,sp⟩:=a
 have hsp:sp=none:=cell_spot (key 0 (by omega))
 subst hsp
 refine ⟨P,po,?_,zgX (key 0 (by omega)),fun k hk=>?_⟩
 ·rw [World.var?_cell hg hvar 0,<-Array.getElem?_toList,h1];rfl
 have:=key k hk
 rw [Nat.mul_one,zcl] at this
 exact this
theorem zo8 {L:List (String × DataW Unit)} {W:World} (h:laidMet Tryz.prog L W) (hm:("strconv.ErrRange",Rows.laid_strconv_ErrRange)∈L):∃ te pe,W.cell? ⟨9,0,none⟩=some (.iface te pe):=by
 obtain ⟨g,t,cs,fuel,p,hg,hty,hvar,hd⟩:=laidMet.reads h (n:= "strconv.ErrRange") (d:=Rows.laid_strconv_ErrRange) hm
 obtain rfl:=Option.some.inj ((show Tryz.prog.globalNamed "strconv.ErrRange" =some 9 by kernel_rfl).symm.trans hg)
 obtain rfl:=Option.some.inj ((show (Tryz.prog.globals[9]?).map (·.type)=some 61 by kernel_rfl).symm.trans hty)
 obtain ⟨f',u,v,h1,_,_⟩:=iface_of_trod Tryz.underlying61 hd
 refine ⟨u,v,?_⟩
 rw [World.var?_cell hg hvar 0,<-Array.getElem?_toList,h1]
 rfl
theorem zh4 {L:List (String × DataW Unit)} {W:World} (h:laidMet Tryz.prog L W) (hm:("internal/strconv.leftcheats",Rows.laid_internal_strconv_leftcheats)∈L):∃ C co,zdG W C co:=by
 obtain ⟨g,t,cs,fuel,p,hg,hty,hvar,hd⟩:=laidMet.reads h (n:= "internal/strconv.leftcheats") (d:=Rows.laid_internal_strconv_leftcheats) hm
 obtain rfl:=Option.some.inj ((show Tryz.prog.globalNamed "internal/strconv.leftcheats" =some 21 by kernel_rfl).symm.trans hg)
 obtain rfl:=Option.some.inj ((show (Tryz.prog.globals[21]?).map (·.type)=some 278 by kernel_rfl).symm.trans hty)
 have hdat:(Rows.laid_internal_strconv_leftcheats:DataW Unit)=.slice (Go.Pinned.cheatRows.map fun x=>.agg [.lit (.int .i64 x.1),.lit (.string x.2)]) []:=rfl
 rw [hdat] at hd
 obtain ⟨a,n,h1,h2⟩:=zdQ Tryz.underlying278 (fun _=>rfl) hd
 have c157:Tryz.prog.cellsOf 277=2:=by kernel_rfl
 have c3:Tryz.prog.cellsOf 3=1:=by kernel_rfl
 have c9:Tryz.prog.cellsOf 9=1:=by kernel_rfl
 have hlen:Go.Pinned.cheatRows.length=61:=by decide
 rw [c157] at h2
 have key:∀ k,k<61->W.cell? ((a.add (k*2)).add 0)=some (.int .i64 (zay k).1)/\∃ s:ByteArray,W.cell? ((a.add (k*2)).add 1)=some (.string s)/\bs s=(zay k).2.map (fun b=>(b.toNat:Int)):=by
  intro k hk
  obtain ⟨cs',q,h3,h4⟩:=h2 k _ (zjd (x:=(0,[])) (by rw [hlen];exact hk))
  obtain ⟨xs,n',rfl,hx,hl,hxl,hall⟩:=DataW.trod_struct Tryz.underlying277 h4
  have hxs:xs.map (·.1)=[.lit (.int .i64 (zay k).1),.lit (.string (zay k).2)]:=by
   have:=congrArg Prod.fst hx
   simp only [DataW.agg.injEq] at this
   exact this.symm
  have f0:DataW.trod (fun _=>()) Tryz.prog W 0 (fun _=>true) false n' 3 ((cs'.drop 0).take (Tryz.prog.cellsOf 3))=xs[0]?:=hall 0 _ rfl
  have f1:DataW.trod (fun _=>()) Tryz.prog W 0 (fun _=>true) false n' 9 ((cs'.drop 1).take (Tryz.prog.cellsOf 9))=xs[1]?:=hall 1 _ rfl
  rw [c3] at f0
  rw [c9] at f1
  have g0:=congrArg (·[0]?) hxs
  have g1:=congrArg (·[1]?) hxs
  simp only [List.getElem?_map] at g0 g1
  obtain ⟨y0,hy0,e0⟩:=Option.map_eq_some_iff.1 g0
  obtain ⟨y1,hy1,e1⟩:=Option.map_eq_some_iff.1 g1
  rw [hy0] at f0
  rw [hy1] at f1
  obtain ⟨n0,k0,l0,_⟩:=DataW.trod_int Tryz.underlying3 f0
  obtain ⟨s,k1,l1,_⟩:=DataW.trod_string Tryz.underlying9 f1
  rw [l0] at e0
  rw [l1] at e1
  simp only [DataW.lit.injEq,Lit.int.injEq,true_and,Lit.string.injEq] at e0 e1
  constructor
  ·rw [zfk h3 (by omega),<-e0]
   have:=congrArg (·[0]?) k0
   simpa [List.getElem?_take,List.getElem?_drop] using this
  refine ⟨s,?_,?_⟩
  ·rw [zfk h3 (by omega)]
   have:=congrArg (·[0]?) k1
   simpa [List.getElem?_take,List.getElem?_drop] using this
  rw [bs_eq,e1];rfl
 have hsp:a.spot=none:=by
  obtain ⟨b,o,sp⟩:=a
  have:=(key 0 (by omega)).1
  exact cell_spot this
 obtain ⟨C,co,sp⟩:=a
 have hsp':sp=none:=hsp
 subst hsp'
 refine ⟨C,co,?_,?_,?_,fun k hk=>?_,fun k hk=>?_⟩
 ·have:W.cell? ⟨21,0,none⟩=some (.slice (some ⟨C,co,none⟩) 61 61):=by rw [World.var?_cell hg hvar 0,<-Array.getElem?_toList,h1];rfl
  exact zgX this
 ·have:=(key 0 (by omega)).1
  rw [zcl,zcl] at this
  exact zgX this
 ·rw [World.var?_cell hg hvar 0,<-Array.getElem?_toList,h1];rfl
 ·have:=(key k hk).1
  rw [zcl,zcl] at this
  exact this
 obtain ⟨s,h5,h6⟩:=(key k hk).2
 rw [zcl,zcl] at h5
 exact ⟨s,h5,h6⟩
theorem zkt {L:List (String × DataW Unit)} {W:World} (h:laidMet Tryz.prog L W) (hm:("internal/strconv.pow10Tab",Rows.laid_internal_strconv_pow10Tab)∈L):∀ i,i<696->W.cell? ⟨20,i*2,none⟩=some (.int .u64 ((Go.Pinned.pow10Rows.getD i (0,0)).1:Nat))/\W.cell? ⟨20,i*2+1,none⟩=some (.int .u64 ((Go.Pinned.pow10Rows.getD i (0,0)).2:Nat)):=by
 intro i hi
 obtain ⟨g,t,cs,fuel,p,hg,hty,hvar,hd⟩:=laidMet.reads h (n:= "internal/strconv.pow10Tab") (d:=Rows.laid_internal_strconv_pow10Tab) hm
 obtain rfl:=Option.some.inj ((show Tryz.prog.globalNamed "internal/strconv.pow10Tab" =some 20 by kernel_rfl).symm.trans hg)
 obtain rfl:=Option.some.inj ((show (Tryz.prog.globals[20]?).map (·.type)=some 274 by kernel_rfl).symm.trans hty)
 have hdat:(Rows.laid_internal_strconv_pow10Tab:DataW Unit)=.agg (Go.Pinned.pow10Rows.map fun x=>.agg [.lit (.int .u64 x.1),.lit (.int .u64 x.2)]):=rfl
 rw [hdat] at hd
 have c147:Tryz.prog.cellsOf 273=2:=by kernel_rfl
 have c22:Tryz.prog.cellsOf 22=1:=by kernel_rfl
 have hlen:Go.Pinned.pow10Rows.length=696:=by decide+kernel
 obtain ⟨f',d,q,hdi,he⟩:=array_elem Tryz.underlying274 hd i hi
 rw [zjd (x:=(0,0)) (by rw [hlen];exact hi)] at hdi
 have hdi':=(Option.some.inj hdi).symm
 subst hdi'
 rw [c147] at he
 have hcs:=ints_of_struct (k:=.u64) (zs:=[((Go.Pinned.pow10Rows.getD i (0,0)).1:Nat),((Go.Pinned.pow10Rows.getD i (0,0)).2:Nat)]) Tryz.underlying273 (fun j f hj=>by
  match j,hj with
  |0,hj=>simp at hj;subst hj;exact ⟨Tryz.underlying22,rfl,c22⟩
  |1,hj=>simp at hj;subst hj;exact ⟨Tryz.underlying22,rfl,c22⟩
  |j+2,hj=>simp at hj) (by rw [c147];rfl) he
 have e0:=congrArg (·[0]?) hcs
 have e1:=congrArg (·[1]?) hcs
 simp only [List.getElem?_take,List.getElem?_drop] at e0 e1
 constructor
 ·rw [World.var?_cell hg hvar (i*2),<-Array.getElem?_toList]
  simpa using e0
 rw [World.var?_cell hg hvar (i*2+1),<-Array.getElem?_toList]
 simpa using e1
structure zmf (L:List (String × DataW Unit)):Prop where
 opt:("internal/strconv.optimize",Rows.laid_internal_strconv_optimize)∈L
 info:("internal/strconv.float64info",Rows.laid_internal_strconv_float64info)∈L
 pow:("internal/strconv.powtab",Rows.laid_internal_strconv_powtab)∈L
 tens:("internal/strconv.float64pow10",Rows.laid_internal_strconv_float64pow10)∈L
 rng:("strconv.ErrRange",Rows.laid_strconv_ErrRange)∈L
 cheats:("internal/strconv.leftcheats",Rows.laid_internal_strconv_leftcheats)∈L
 pow10:("internal/strconv.pow10Tab",Rows.laid_internal_strconv_pow10Tab)∈L
theorem zrm {L:List (String × DataW Unit)} {W:World} (h:laidMet Tryz.prog L W) (hL:zmf L) (hS:W.ShapedOpen Tryz.prog):∃ G o P po C co ev m,Env W G o P po C co ev m:=by
 obtain ⟨m,hm⟩:=Tryz.laysM145.s1_3 W hS
 obtain ⟨G,o,t1,t2,t3⟩:=zsO h hL.tens
 obtain ⟨P,po,p1,p2,p3⟩:=zlT h hL.pow
 obtain ⟨C,co,hC⟩:=zh4 h hL.cheats
 obtain ⟨te,pe,hr⟩:=zo8 h hL.rng
 obtain ⟨i0,i1,i2⟩:=zsc h hL.info
 have h10:=zkt h hL.pow10
 have h12:=hC.size
 exact ⟨G,o,P,po,C,co,.iface te pe,m,⟨⟨⟨by omega,t2,i0,t1,t3,fun i hi=>(h10 i hi).1,fun i hi=>(h10 i hi).2⟩,h12,p2,zfL h hL.opt,i1,i2,p1,p3,hC⟩,hr,.inr ⟨te,pe,rfl⟩,hm⟩⟩
end Go.Proofs.YtamdnnkdnhkghaaGreatDoor
namespace Go.Proofs.YtamdnnkdnhkghaaGreatDoor
open Go.ChangeShapes Go.WideShapes Go.ChangeAt Go Go.RowKit Go.ChangeMaps Go.WideElems
theorem star_es: "*" ++ "errors.errorString" = "*errors.errorString" :=by decide
theorem zuh (u:TypeId) (h:Tryz.prog.typeName? 3 u=some "*errors.errorString"):u=228:=
 typeName_ptr_named (nm:= "errors.errorString") (by rw [star_es];kernel_rfl) (by kernel_rfl) (by decide) u (by rw [star_es];exact h)
theorem zbh {L:List (String × DataW Unit)} {W:World} (h:laidMet Tryz.prog L W) {n0 n1:String} {t0 t1:List UInt8} {g0 g1:Nat}
 (hf:L.filter (fun x=>x.1==n0||x.1==n1)=[(n0,.iface "*errors.errorString" (.ptr (.agg [.lit (.string t0)]))),(n1,.iface "*errors.errorString" (.ptr (.agg [.lit (.string t1)])))])
 (hg0:Tryz.prog.globalNamed n0=some g0) (ht0:(Tryz.prog.globals[g0]?).map (·.type)=some 61) (hg1:Tryz.prog.globalNamed n1=some g1) (ht1:(Tryz.prog.globals[g1]?).map (·.type)=some 61):
 ∃ a b,W.cell? ⟨g0,0,none⟩=some (senV a)/\W.cell? ⟨g1,0,none⟩=some (senV b)/\Apart W b a:=by
 have h2:=laidMet.filter (fun x=>x.1==n0||x.1==n1) h
 rw [hf] at h2
 obtain ⟨a,b,s0,s1,c0,c1,u0,u1,v0,v1,_,_,_,_,_,_,hne,hb0,hb1⟩:=laid_sentinels2 h2 hg0 ht0 hg1 ht1 Tryz.underlying61 zuh Tryz.underlying228 Tryz.underlying230 rfl rfl Tryz.underlying9 (by kernel_rfl) (by kernel_rfl)
 refine ⟨a,b,?_,?_,fun h=>hne h.symm,⟨c1,u1,hb1⟩,⟨c0,u0,hb0⟩⟩
 ·simpa using World.var?_cell hg0 v0 0
 simpa using World.var?_cell hg1 v1 0
theorem zh1 {H:Type} {enc:TypeId × Value->H} {P:Program} (hl:laidOutB P=true) {W W':World} (hb:Below W.heap.size W W'):
 ∀ {ns:List String} {gs:List (DataW H)} {ps:List MemPlace} {sp:Nat->Bool},(∀ n∈ns,∀ g t,P.globalNamed n=some g->(P.globals[g]?).map (·.type)=some t->P.readableRec t=true/\t<P.types.size)->(∀ p∈ps,sp p.block=true)->
   DataW.TrodVars enc P W (fun _=>true) ns gs ps->DataW.TrodVars enc P W' sp ns gs ps
 | [],[],_,_,_,_,h=>h
 | [],_::_,_,_,_,_,h=>h.elim
 |_::_,[],_,_,_,_,h=>h.elim
 |n::ns,d::ds,ps,sp,hv,hp,h=>by
  have hlt:=h.lt
  obtain ⟨g,t,cs,fuel,p,q,h1,h2,h3,h4,hs,e⟩:=h
  obtain ⟨r1,r2⟩:=hv n (List.mem_cons_self) g t h1 h2
  subst e
  have hvar:W'.var? P n=some cs:=by
   unfold World.var? at h3 ⊢
   rw [h1] at h3 ⊢
   simp only [Option.bind_some] at h3 ⊢
   have hg:g<W.heap.size:=by
    cases hh:W.heap[g]? with
    |none=>rw [hh] at h3;cases h3
    |some o=>exact (Array.getElem?_eq_some_iff.1 hh).1
   rw [hb.block g hg]
   exact h3
  have l1:∀ x∈p,x.block<W.heap.size:=fun x hx=>hlt x (by simp [hx])
  refine ⟨g,t,cs,fuel,p,q,h1,h2,hvar,?_,zh1 hl hb (fun m hm=>hv m (List.mem_cons_of_mem _ hm)) (fun x hx=>hp x (by simp [hx])) hs,rfl⟩
  exact DataW.trod_stays (kids_book hl r1) (book_sized r1) (fun h=>by cases h) ⟨r2,book_self t⟩ h4 (fun x hx=>hb.same (l1 x hx)) (fun x hx=>hp x (by simp [hx]))
theorem zj6 {H:Type} {enc:TypeId × Value->H} {P:Program} {W:World} {sp:Nat->Bool}:∀ {ns:List String} {gs:List (DataW H)} {ps:List MemPlace},DataW.TrodVars enc P W sp ns gs ps->gs.length=ns.length
 | [],[],_,_=>rfl
 | [],_::_,_,h=>h.elim
 |_::_,[],_,h=>h.elim
 |_::ns,_::ds,_,h=>by
  obtain ⟨g,t,cs,fuel,p,q,h1,h2,h3,h4,hs,e⟩:=h
  rw [List.length_cons,List.length_cons,zj6 hs]
theorem zqe {H:Type} {enc:TypeId × Value->H} {P:Program} {f:Func} {s:ChangeSpec} {apart fresh handsOn again:Bool} {W W':World} {args:Array Value} {v:Value} {ds gs:List (DataW H)} {before pa pv:List MemPlace}
 (hW:DataW.Whole enc P f.params.toList s.vars apart W args.toList ds gs before)
 (hres:∀ (b:Nat) (sp:Nat->Bool) (hd:Bool),DataW.TrodAll enc P W' b sp hd f.resultTypes.toList (v.resultList f.resultTypes.size) (s.fn H (ds++gs)).results [])
 (hargs:∀ sp:Nat->Bool,(∀ p∈before,sp p.block=true)->DataW.TrodAll enc P W' 0 sp true f.params.toList args.toList (s.fn H (ds++gs)).args pa)
 (hvars:∀ sp:Nat->Bool,(∀ p∈before,sp p.block=true)->DataW.TrodVars enc P W' sp s.vars (s.fn H (ds++gs)).vars pv)
 (hps:before=pa++pv) (hb:Below W.heap.size W W')
 (hok:∀ (j:Nat) (t:TypeId) (r:Value),f.resultTypes[j]?=some t->(v.resultList f.resultTypes.size)[j]?=some r->Value.okWide P W' .any 0 t r):
 s.post enc P f apart fresh handsOn again W args v W':=by
 have hlt:=hW.lt
 have hold:∀ p∈before,(fun b=>decide (b<W.heap.size)) p.block=true:=fun p hp=>by simpa using hlt p hp
 refine ⟨ds,gs,before,[],pa,pv,hW,hres _ _ _,hargs _ hold,hvars _ hold,World.keptBut_mono (fun p hp=>⟨hp,?_⟩) (hb.frame _),fun _=>?_⟩
 ·rw [hps,List.mem_append] at hp
  exact Or.inr hp
 obtain ⟨_,_,_,_,_,hz,hn⟩:=hW
 refine ⟨hok,_,_,([]++pa)++pv,⟨[]++pa,pv,trodAll_append (hargs _ (fun _ _=>rfl)) (hres _ _ _),hvars _ (fun _ _=>rfl),rfl,?_,?_⟩,?_⟩
 ·intro b off hp
  have hp':MemPlace.cell b off∈before:=by rw [hps];simpa using hp
  rw [hb.frozen (p:=⟨b,off,none⟩) (hlt _ hp')]
  exact hz b off hp'
 ·intro ha
  have:=hn ha
  rw [hps] at this
  simpa using this
 intro p hp _
 rw [hps]
 simpa using hp
theorem own:ownKnob Tryz.prog.godebug=none:=by kernel_rfl
theorem rowed:∀ n∈Rows.fnExactToIntegerSpec.vars,∀ g t,Tryz.prog.globalNamed n=some g->(Tryz.prog.globals[g]?).map (·.type)=some t->Tryz.prog.readableRec t=true/\t<Tryz.prog.types.size:=by
 have key:(Rows.fnExactToIntegerSpec.vars.all fun n=>match Tryz.prog.globalNamed n with
  |some g=>(match (Tryz.prog.globals[g]?).map (·.type) with |some t=>Tryz.prog.readableRec t&&decide (t<Tryz.prog.types.size)|none=>true)
  |none=>true)=true:=by kernel_rfl
 intro n hn g t hg ht
 have:=List.all_eq_true.1 key n hn
 rw [hg] at this
 simp only [ht,Bool.and_eq_true,decide_eq_true_eq] at this
 exact this
theorem laidOut:laidOutB Tryz.prog=true:=by kernel_rfl
end Go.Proofs.YtamdnnkdnhkghaaGreatDoor
namespace Go.Proofs.YtamdnnkdnhkghaaGreatDoor
open Go.ChangeShapes Go.WideShapes Go.ChangeAt Go Go.RowKit Go.ChangeMaps Go.WideElems Go.Joins Go.Deep
theorem fe_of {L:List (String × DataW Unit)} {W:World} (h:laidMet Tryz.prog L W) (hL:zmf L) (hf:L.filter (fun x=>x.1== "internal/strconv.uint64pow10")=[("internal/strconv.uint64pow10",Lib.tabData .u64 Lib.pow10Tab)]) (hS:W.ShapedOpen Tryz.prog):FE W:=by
 obtain ⟨G,o,P,po,C,co,ev,m,hE⟩:=zrm h hL hS
 refine ⟨⟨?_,zkt h hL.pow10,zfL h hL.opt,?_⟩,G,o,P,po,C,co,ev,m,hE⟩
 ·obtain ⟨C,co,hC⟩:=zh4 h hL.cheats
  exact hC.size
 have h2:=laidMet.filter (fun x=>x.1== "internal/strconv.uint64pow10") h
 rw [hf] at h2
 exact Lib.tabIs_of_head (g:=6) (t:=183) (n:=20) (by kernel_rfl) (by kernel_rfl) (by kernel_rfl) Tryz.underlying22 (by kernel_rfl) (by kernel_rfl) h2
end Go.Proofs.YtamdnnkdnhkghaaGreatDoor
namespace Go.Proofs.YtamdnnkdnhkghaaGreatDoor
open Go.ChangeShapes Go.WideShapes Go.ChangeAt Go Go.RowKit Go.ChangeMaps Go.WideElems
abbrev laidAR:=Rows.fnExactArithRow.laid
theorem listedAR:zmf laidAR:=by
 constructor
 all_goals (unfold laidAR Rows.fnExactArithRow;simp only [List.mem_cons,true_or,or_true])
theorem zqB {W:World} (h:laidMet Tryz.prog laidAR W) (hS:W.ShapedOpen Tryz.prog):∃ a1 a2 a3 a4 a5,Full2 W a1 a2 a3 a4 a5:=by
 have hfe:FE W:=fe_of h listedAR rfl hS
 have same:∀ {g:Nat} {a b:Addr},W.cell? ⟨g,0,none⟩=some (senV a)->W.cell? ⟨g,0,none⟩=some (senV b)->b=a:=by
  intro g a b ha hb
  have e:=hb.symm.trans ha
  simp at e
  exact e
 obtain ⟨p15,q15,x15,y15,d15⟩:=zbh h (n0:= "loop.example/g00002/impl.errNumText") (n1:= "loop.example/g00002/impl.errNumWhole") rfl (by kernel_rfl) (by kernel_rfl) (by kernel_rfl) (by kernel_rfl)
 obtain ⟨p25,q25,x25,y25,d25⟩:=zbh h (n0:= "loop.example/g00002/impl.errNumOp") (n1:= "loop.example/g00002/impl.errNumWhole") rfl (by kernel_rfl) (by kernel_rfl) (by kernel_rfl) (by kernel_rfl)
 obtain ⟨p35,q35,x35,y35,d35⟩:=zbh h (n0:= "loop.example/g00002/impl.errNumZero") (n1:= "loop.example/g00002/impl.errNumWhole") rfl (by kernel_rfl) (by kernel_rfl) (by kernel_rfl) (by kernel_rfl)
 obtain ⟨p45,q45,x45,y45,d45⟩:=zbh h (n0:= "loop.example/g00002/impl.errNumRange") (n1:= "loop.example/g00002/impl.errNumWhole") rfl (by kernel_rfl) (by kernel_rfl) (by kernel_rfl) (by kernel_rfl)
 obtain ⟨p12,q12,x12,y12,d12⟩:=zbh h (n0:= "loop.example/g00002/impl.errNumText") (n1:= "loop.example/g00002/impl.errNumOp") rfl (by kernel_rfl) (by kernel_rfl) (by kernel_rfl) (by kernel_rfl)
 obtain ⟨p13,q13,x13,y13,d13⟩:=zbh h (n0:= "loop.example/g00002/impl.errNumText") (n1:= "loop.example/g00002/impl.errNumZero") rfl (by kernel_rfl) (by kernel_rfl) (by kernel_rfl) (by kernel_rfl)
 obtain ⟨p23,q23,x23,y23,d23⟩:=zbh h (n0:= "loop.example/g00002/impl.errNumOp") (n1:= "loop.example/g00002/impl.errNumZero") rfl (by kernel_rfl) (by kernel_rfl) (by kernel_rfl) (by kernel_rfl)
 obtain ⟨p14,q14,x14,y14,d14⟩:=zbh h (n0:= "loop.example/g00002/impl.errNumText") (n1:= "loop.example/g00002/impl.errNumRange") rfl (by kernel_rfl) (by kernel_rfl) (by kernel_rfl) (by kernel_rfl)
 obtain ⟨p24,q24,x24,y24,d24⟩:=zbh h (n0:= "loop.example/g00002/impl.errNumOp") (n1:= "loop.example/g00002/impl.errNumRange") rfl (by kernel_rfl) (by kernel_rfl) (by kernel_rfl) (by kernel_rfl)
 obtain ⟨p34,q34,x34,y34,d34⟩:=zbh h (n0:= "loop.example/g00002/impl.errNumZero") (n1:= "loop.example/g00002/impl.errNumRange") rfl (by kernel_rfl) (by kernel_rfl) (by kernel_rfl) (by kernel_rfl)
 have g1:=x15
 have g2:=x25
 have g3:=x35
 have g4:=x45
 have g5:=y15
 rw [same g5 y25] at d25
 rw [same g5 y35] at d35
 rw [same g5 y45] at d45
 rw [same g1 x12,same g2 y12] at d12
 rw [same g1 x13,same g3 y13] at d13
 rw [same g2 x23,same g3 y23] at d23
 rw [same g1 x14,same g4 y14] at d14
 rw [same g2 x24,same g4 y24] at d24
 rw [same g3 x34,same g4 y34] at d34
 refine ⟨_,_,_,_,_,⟨zrm h listedAR hS,⟨g1,g2,g3,g4,g5,d15,d25,d35,d45⟩,hfe.f.tab⟩,hfe,d12,d13,d23,d14,d24,d34⟩
theorem zkT {H:Type} {enc:TypeId × Value->H} {W:World} {sp:Nat->Bool} {gs:List (DataW H)} {ps:List MemPlace} (h:DataW.TrodVars enc Tryz.prog W sp Rows.fnExactArithSpec.vars gs ps):∃ g1 g2 g3 g4 g5,gs=[g1,g2,g3,g4,g5]:=by
 have:=zj6 h
 match gs,this with
 | [g1,g2,g3,g4,g5],_=>exact ⟨g1,g2,g3,g4,g5,rfl⟩
theorem znB (H:Type) (enc:TypeId × Value->H) (W:World) (base:Nat) (args:Array Value) (ds gs:List (DataW H)) (before:List MemPlace)
 (hval:∀ (j:Nat) t v,Tryz.f7.params[j]?=some t->args[j]?=some v->Value.okWide Tryz.prog W .any base t v)
 (hW:DataW.Whole enc Tryz.prog Tryz.f7.params.toList Rows.fnExactArithSpec.vars false W args.toList ds gs before) (hL:laidMetH Tryz.prog Rows.fnExactArithRow.laid W) (hS:W.ShapedOpen Tryz.prog):
 Calls Tryz.prog 7 args W fun e W'=>∃ v,e=.returned v/\Rows.fnExactArithSpec.post enc Tryz.prog Tryz.f7 false true false false W args v W':=by
 have hW':=hW
 obtain ⟨p,q,hA0,hV,rfl,hfz,hnd⟩:=hW
 have hA:DataW.TrodAll enc Tryz.prog W 0 (fun _=>true) true Tryz.f7.params.toList args.toList ds p:=hA0
 rw [Tryz.params7] at hA hval
 obtain ⟨v0,vs0,d0,ds0,p0,q0,hargs,rfl,rfl,h0,r0⟩:=trodAll_cons hA
 obtain ⟨v1,vs1,d1,ds1,p1,q1,hargs1,rfl,rfl,h1,r1⟩:=trodAll_cons r0
 obtain ⟨v2,vs2,d2,ds2,p2,q2,hargs2,rfl,rfl,h2,r2⟩:=trodAll_cons r1
 obtain ⟨rfl,rfl,rfl⟩:=trodAll_nil r2
 subst hargs2
 subst hargs1
 obtain rfl:args=#[v0,v1,v2]:=by cases args;simp_all
 obtain ⟨g1,g2,g3,g4,g5,rfl⟩:=zkT hV
 obtain ⟨n,rfl,rfl,rfl,hn⟩:=open_int Tryz.underlying3 (hval 0 3 v0 rfl rfl) h0
 obtain ⟨s,rfl,rfl,rfl,hs⟩:=open_string Tryz.underlying9 (hval 1 9 v1 rfl rfl) h1
 obtain ⟨t,rfl,rfl,rfl,ht⟩:=open_string Tryz.underlying9 (hval 2 9 v2 rfl rfl) h2
 clear hA0
 have hL':laidMet Tryz.prog laidAR W:=hL
 obtain ⟨a1,a2,a3,a4,a5,hF⟩:=zqB hL' hS
 refine (zqE n s t W a1 a2 a3 a4 a5 hF hs ht).mono fun e W' ⟨he,hb⟩=>?_
 subst he
 refine ⟨_,rfl,zqe hW' (pa:=[]) (pv:=q) (fun _ _ _=>trodAll_cons_mk (shut_bool Tryz.underlying4 _) trodAll_mk0) (fun _ _=>trodAll_cons_mk (shut_int Tryz.underlying3 hn) (trodAll_cons_mk (shut_string Tryz.underlying9 hs) (trodAll_cons_mk (shut_string Tryz.underlying9 ht) trodAll_mk0)))
  (fun sp hsp=>zh1 laidOut hb rowed (fun x hx=>hsp x (by simp [hx])) hV) (by simp) hb (ok_one (by kernel_rfl) rfl (okWide_bool_mk Tryz.underlying4 _))⟩
end Go.Proofs.YtamdnnkdnhkghaaGreatDoor
namespace Go.Proofs.YtamdnnkdnhkghaaGreatDoor
open Go.ChangeShapes Go.WideShapes Go.ChangeAt Go Go.RowKit
theorem aclosed2:Tryz.f7.isInstance Tryz.prog Rows.fnExactArithRow.origin Rows.fnExactArithRow.targs:=of_decide_eq_true (by kernel_rfl)
theorem aclosed3:Tryz.prog.funcNamed Rows.fnExactArithRow.func=some 7:=by kernel_rfl
theorem aclosed4:Tryz.f7.isWrapper Tryz.prog Rows.fnExactArithRow.wrapper Rows.fnExactArithRow.mainSum:=by unfold Func.isWrapper;first |(rw [if_pos (by decide+kernel)];kernel_rfl)|(rw [if_neg (by decide+kernel)];exact ⟨rfl,rfl⟩)
end Go.Proofs.YtamdnnkdnhkghaaGreatDoor
