import Derived.Test.YtamdnnkdnhkghaaGreatDoorQ29
set_option maxHeartbeats 12800000
set_option maxRecDepth 100000
set_option linter.unusedVariables false
namespace Go.Proofs.YtamdnnkdnhkghaaGreatDoor
open Go Go.RowKit
theorem zhI {c:Nat} {L:List Int} (hc:c<256) (h:∀ z∈L,0<=z/\z<256/\z≠c):UInt8.ofNat c ∉ txtB L:=by
 intro hm
 unfold txtB at hm
 rw [List.mem_map] at hm
 obtain ⟨z,hz,e⟩:=hm
 obtain ⟨h1,h2,h3⟩:=h z hz
 have:=congrArg UInt8.toNat e
 simp at this
 omega
theorem zow {d n:Nat} (h:1<=n):∀ z∈mantL d n,z=46∨(48<=z/\z<=57):=by
 intro z hz
 unfold mantL at hz
 rw [List.mem_append] at hz
 rcases hz with hz|hz
 ·simp at hz
  have:=zcf d n 0
  right;omega
 split at hz
 ·simp at hz
 rw [List.mem_cons] at hz
 rcases hz with hz|hz
 ·left;exact hz
 have:=zcd z (List.mem_of_mem_drop hz)
 right;omega
theorem zqC {d n:Nat} {X:Int} (h:1<=n):Lib.cut (eStr d n X).data.toList (ByteArray.mk #[101]).data.toList=(txtB (mantL d n),txtB ((if X<0 then 45 else 43)::expL X.natAbs),true):=by
 have e:(eStr d n X).data.toList=txtB (mantL d n)++UInt8.ofNat 101::txtB ((if X<0 then 45 else 43)::expL X.natAbs):=by
  show txtB (eTxt d n X)=_
  unfold eTxt
  rw [List.append_assoc,zcY]
  rfl
 rw [e]
 exact zsy (zhI (by decide) (fun z hz=>by rcases zow h z hz with g|g<;>omega))
theorem atoi_pos:∀ k,k<401->Lib.atoi (txtB (43::expL k))=some (k:Int):=by decide+kernel
theorem atoi_neg:∀ k,k<401->Lib.atoi (txtB (45::expL k))=some (-(k:Int)):=by decide+kernel
theorem zpf {X:Int} (h1: -400<=X) (h2:X<=400):Lib.atoi (txtB ((if X<0 then 45 else 43)::expL X.natAbs))=some X:=by
 split
 ·rw [atoi_neg _ (by omega)];congr 1;omega
 rw [atoi_pos _ (by omega)];congr 1;omega
theorem zhO {d n:Nat} (h:1<=n):Lib.replace (txtB (mantL d n)) (ByteArray.mk #[46]).data.toList (ByteArray.mk #[]).data.toList 1=txtB (digL d n):=by
 have h0:=zcf d n 0
 by_cases h1:n=1
 ·subst h1
  have e1:mantL d 1=digL d 1:=rfl
  rw [e1]
  exact zkZ (zhI (c:=46) (by decide) (fun z hz=>by have:=zcd z hz;omega))
 rw [zb5 (by omega),List.append_assoc,zcY]
 have e2:digL d n=[dgA d n 0]++(digL d n).drop 1:=by conv=>lhs;rw [zen h]
                                                     rfl
 conv=>rhs;rw [e2,zcY]
 exact zjk (zhI (c:=46) (by decide) (fun z hz=>by simp at hz;omega))
def FT (d n:Nat) (X:Int):List Int:=if X< -5∨X > 16 then eTxt d n X else zdo (digL d n) X
def MagR (r c:Nat) (w:World) (e:Ending) (w':World):Prop:=
 ∃ n d q,e=.returned (.string (strL (FT d n ((n:Int)-1-q))))/\First r c n d q/\ -400<=(n:Int)-1-q/\(n:Int)-1-q<=400/\Below w.heap.size w w'
theorem zg4 {d n:Nat} {X:Int} (h1:1<=n) (h2:n<=17):(eTxt d n X).length<=30:=by
 unfold eTxt
 rw [List.length_append,List.length_append,zgk h1]
 have:=zfn X.natAbs
 simp
 split<;>omega
theorem znd (d n:Nat) (X m:Int) (w:World) (h1:1<=n) (h2:n<=17) (hm:w.cell? ⟨7,0,none⟩=some (.int .i64 m)):
 Rb 55 #[.string (eStr d n X),.string ⟨#[101]⟩] w (.tuple #[.string (strL (mantL d n)),.string (strL ((if X<0 then 45 else 43)::expL X.natAbs)),.bool true]):=by
 have hsz:(eStr d n X).size<=30:=by
  show (strL (eTxt d n X)).size<=30
  rw [zat]
  exact zg4 h1 h2
 refine (Tryz.strings_Cut (eStr d n X) ⟨#[101]⟩ m w (by omega) hm).mono ?_
 rintro e w' ⟨rfl,k,rfl⟩
 rw [zqC h1]
 exact ⟨rfl,zag (Below.refl _ _) _⟩
theorem zjY (X:Int) (w:World) (h1: -400<=X) (h2:X<=400):
 Rb 56 #[.string (strL ((if X<0 then 45 else 43)::expL X.natAbs))] w (.tuple #[.int .i64 X,.nilIface]):=by
 have hsz:(strL ((if X<0 then 45 else 43)::expL X.natAbs)).size<=18:=by
  rw [zat]
  have:=zfn X.natAbs
  simp
  omega
 refine (Tryz.strconv_Atoi _ X hsz (zpf h1 h2) w).mono ?_
 rintro e w' ⟨rfl,t,rfl⟩
 exact ⟨rfl,zdI _ _⟩
theorem zmE (d n:Nat) (m:Int) (w:World) (h1:1<=n) (h2:n<=17) (hm:w.cell? ⟨7,0,none⟩=some (.int .i64 m)):
 Rb 58 #[.string (strL (mantL d n)),.string ⟨#[46]⟩,.string ⟨#[]⟩,.int .i64 1] w (.string (strL (digL d n))):=by
 have hsz:(strL (mantL d n)).size<=18:=by
  rw [zat,zgk h1]
  split<;>omega
 refine rb (Tryz.strings_Replace (strL (mantL d n)) ⟨#[46]⟩ ⟨#[]⟩ 1 m w (by omega) hm (by decide) (by show _+_*0<=_;omega)) fun w' hb=>?_
 refine ⟨?_,hb⟩
 have:=zhO (d:=d) h1
 show Ending.returned (.string ⟨(Lib.replace (txtB (mantL d n)) (ByteArray.mk #[46]).data.toList (ByteArray.mk #[]).data.toList 1).toArray⟩)=_
 rw [this]
 rfl
theorem zte (r c:Nat) (w:World) (hc:c=1074) (h0:0<r) (hr:r<infW) (hF:FE w):
 Calls Tryz.prog 26 #[.float .f64 r] w fun e w'=>MagR r c w e w':=by
 obtain ⟨G,o,P,po,C,co,ev,m,hE⟩:=hF.e
 have Hml:=hide (fun (w1:World) (hb:Below w.heap.size w w1)=>(hE.below hb).ml)
 have HS:=hide (fun (w1:World)=>znk r c w hc h0 hr hF)
 clear hE hc h0 hr hF
 go_enter Tryz.func26,Tryz.ntmps26
 go_wp2_with fail
 refine (HS.out w).mono ?_
 rintro e w1 ⟨n,d,q,rfl,hfirst,hX1,hX2,hb1⟩
 have Hfirst:=hide hfirst
 have hn1:=hfirst.n1
 have hn2:=hfirst.n17
 have Hb1:=hide hb1
 clear hfirst hb1 HS
 have HX:Hid (∀ (X:Int),X=(n:Int)-1-q->∀ w',Below w.heap.size w w'->MagR r c w (.returned (.string (strL (FT d n X)))) w'):=hide (fun X hX w' hb'=>⟨n,d,q,by rw [hX],Hfirst.out,by omega,by omega,hb'⟩)
 obtain ⟨X,hX⟩:∃ X,X=(n:Int)-1-q:=⟨_,rfl⟩
 rw [<-hX] at hX1 hX2 ⊢
 have HX:=hide (HX.out X hX)
 clear hX
 have HC:=hide (znd d n X m w1 hn1 hn2 (Hml.out w1 Hb1.out))
 obtain ⟨T,hT⟩:∃ T,T=eStr d n X:=⟨_,rfl⟩
 rw [<-hT] at HC ⊢
 have HT:=hide hT
 clear hT
 go_wp2_with fail
 refine rb HC.out fun w2 hb2=>?_
 have Hb2:=hide (bt Hb1.out hb2)
 clear hb2 HC
 have HA:=hide (zjY X w2 hX1 hX2)
 obtain ⟨T2,hT2⟩:∃ T,T=strL ((if X<0 then 45 else 43)::expL X.natAbs):=⟨_,rfl⟩
 rw [<-hT2] at HA ⊢
 clear hT2
 go_wp2_with fail
 refine rb HA.out fun w3 hb3=>?_
 have Hb3:=hide (bt Hb2.out hb3)
 clear hb3 HA
 have HR:=hide (fun w' hb'=>zmE d n m w' hn1 hn2 (Hml.out w' hb'))
 have HD:=hide (zaa d n)
 by_cases hw:X< -5∨X > 16
 ·have HFT:Hid (strL (FT d n X)=T):=hide (by unfold FT;rw [if_pos hw,HT.out];rfl)
  rcases hw with hw|hw
  ·go_wp2
   go_ret
   have:=HX.out _ Hb3.out
   rw [HFT.out] at this
   exact this
  go_wp2
  go_ret
  have:=HX.out _ Hb3.out
  rw [HFT.out] at this
  exact this
 have HFT:Hid (FT d n X=zdo (digL d n) X):=hide (by unfold FT;rw [if_neg hw])
 have hw1: -5<=X:=by omega
 have hw2:X<=16:=by omega
 clear hw
 go_wp2_with fail
 refine rb (HR.out _ Hb3.out) fun w4 hb4=>?_
 have Hb4:=hide (bt Hb3.out hb4)
 clear hb4 HR
 go_wp2_with fail
 refine rb (ziM (digL d n) X w4 (by rw [HD.out];exact hn1) (by rw [HD.out];exact hn2) hw1 hw2) fun w5 hb5=>?_
 have Hb5:=hide (bt Hb4.out hb5)
 clear hb5
 go_wp2
 go_ret
 have:=HX.out _ Hb5.out
 rw [HFT.out] at this
 exact this
theorem zk8 (w:World) (hF:FE w):
 Rb 54 #[.float .f64 0] w (.string (eStr 0 1 0)):=by
 have hs:0<w.heap.size:=by
  obtain ⟨G,o,P,po,C,co,ev,m,hE⟩:=hF.e
  have:=hE.vars.h12
  omega
 have HFF:=hide (zr6 w hs)
 have HPF:=hide (fun (w1:World) (hb:Below w.heap.size w w1)=>znq (d:=0) (n:=1) (q:=0) (hF.below hb) (by omega) (by omega) (by decide) (by omega) (by omega))
 have Ho:=hide (zeM (W:=0) (by decide))
 clear hF hs
 go_enter Tryz.func54,Tryz.ntmps54
 go_wp2_with fail
 go_loopw [7] (fun cv wr=>cv=.int .i64 0/\wr=w) (fun cv _=>0)
 case atStart=>exact ⟨rfl,rfl⟩
 obtain ⟨rfl,rfl⟩:=hrel
 go_wp2_with fail
 refine rb HFF.out fun w1 hb1=>?_
 have Hb1:=hide hb1
 clear hb1
 have HP:=HPF.out w1 Hb1.out
 have e0:(((1:Nat):Int)-1-0)=0:=rfl
 rw [e0] at HP
 obtain ⟨T,hT⟩:∃ T,T=eStr 0 1 0:=⟨_,rfl⟩
 rw [<-hT] at HP ⊢
 have HT:=hide hT
 clear hT e0
 have HPt:=hide HP
 clear HP
 go_wp2_with fail
 refine HPt.out.mono ?_
 rintro e w2 ⟨W,hdec,hb2,hcase⟩
 have hW:W=0:=hdec.unique (zdS _)
 subst hW
 have Hb2:=hide (bt Hb1.out hb2)
 clear hdec hb2
 rcases hcase with ⟨hfin,rfl⟩|⟨hinf,B,rfl⟩
 ·have ho:FloatKind.f64.format.order 0 0=some Ordering.eq:=Ho.out
  go_wp2
  go_ret
  exact ⟨by rw [<-HT.out];rfl,Hb2.out⟩
 exact absurd hinf (by decide)
theorem zqr (w:World) (hF:FE w):
 Rb 26 #[.float .f64 0] w (.string (strL [48,46,48])):=by
 obtain ⟨G,o,P,po,C,co,ev,m,hE⟩:=hF.e
 have Hml:=hide (fun (w1:World) (hb:Below w.heap.size w w1)=>(hE.below hb).ml)
 have HS:=hide (zk8 w hF)
 clear hE hF
 go_enter Tryz.func26,Tryz.ntmps26
 go_wp2_with fail
 refine rb HS.out fun w1 hb1=>?_
 have Hb1:=hide hb1
 clear hb1 HS
 have HC:=hide (znd 0 1 0 m w1 (by omega) (by omega) (Hml.out w1 Hb1.out))
 obtain ⟨T,hT⟩:∃ T,T=eStr 0 1 0:=⟨_,rfl⟩
 rw [<-hT] at HC ⊢
 have HT:=hide hT
 clear hT
 go_wp2_with fail
 refine rb HC.out fun w2 hb2=>?_
 have Hb2:=hide (bt Hb1.out hb2)
 clear hb2 HC
 have HA:=hide (zjY 0 w2 (by omega) (by omega))
 obtain ⟨T2,hT2⟩:∃ T,T=strL ((if (0:Int)<0 then 45 else 43)::expL (0:Int).natAbs):=⟨_,rfl⟩
 rw [<-hT2] at HA ⊢
 clear hT2
 go_wp2_with fail
 refine rb HA.out fun w3 hb3=>?_
 have Hb3:=hide (bt Hb2.out hb3)
 clear hb3 HA
 have HR:=hide (fun w' hb'=>zmE 0 1 m w' (by omega) (by omega) (Hml.out w' hb'))
 go_wp2_with fail
 refine rb (HR.out _ Hb3.out) fun w4 hb4=>?_
 have Hb4:=hide (bt Hb3.out hb4)
 clear hb4 HR
 go_wp2_with fail
 refine rb (ziM (digL 0 1) 0 w4 (by decide) (by decide) (by omega) (by omega)) fun w5 hb5=>?_
 have Hb5:=hide (bt Hb4.out hb5)
 clear hb5
 go_wp2
 go_ret
 exact ⟨rfl,Hb5.out⟩
theorem znr {s:Bool} {r:Nat} (h:r<9223372036854775808):Op.negFloat .f64 (wordS s r)=wordS (!s) r:=by
 have e:Op.negFloat .f64 (wordS s r)=wordS s r^^^2^63:=rfl
 have hx:=zhd (x:=r) h
 rw [e]
 cases s with
 |false=>exact hx
 |true=>
  have:wordS true r=r^^^2^63:=hx.symm
  rw [this,Nat.xor_assoc,Nat.xor_self,Nat.xor_zero]
  rfl
theorem zej (s:Bool) (r:Nat) (h:r<9223372036854775808) (w:World):Sem.run Tryz.prog (Op.unary UnOp.neg (Value.float FloatKind.f64 (wordS s r))) w=Result.ok (Value.float FloatKind.f64 (wordS (!s) r)) w:=by
 rw [<-znr h]
 rfl
theorem zlK (A:Nat) (w:World):Rs 24 #[.float .f64 A,.int .i64 1] w (.bool (FloatKind.f64.format.order A 9218868437227405311==some .gt)):=by
 go_enter Tryz.func24,Tryz.ntmps24
 go_wp2
 all_goals go_ret
 all_goals exact ⟨rfl,rfl⟩
theorem zls (A B:Nat) (w:World) (h:∀ w,Sem.run Tryz.prog (Op.unary UnOp.neg (Value.float FloatKind.f64 A)) w=Result.ok (Value.float FloatKind.f64 B) w):Rs 24 #[.float .f64 A,.int .i64 (-1)] w (.bool (FloatKind.f64.format.order B 9218868437227405311==some .gt)):=by
 go_enter Tryz.func24,Tryz.ntmps24
 go_wp2
 all_goals go_ret
 all_goals exact ⟨rfl,rfl⟩
theorem zgj (A:Nat) (s:Bool) (w:World) (h:decide (wrap64 (A:Int)<0)=s):Rs 25 #[.float .f64 A] w (.bool s):=by
 have ht:=zbl A
 go_enter Tryz.func25,Tryz.ntmps25
 go_wp2
 all_goals go_ret
 all_goals exact ⟨by rw [<-h];rfl,rfl⟩
theorem ziv {s:Bool} {r:Nat} (h:r<9223372036854775808):decide (wrap64 ((wordS s r:Nat):Int)<0)=s:=by
 unfold wordS
 cases s<;>simp [wrap64]<;>omega
theorem znc {s:Bool} {r:Nat} (h:r<=infW):(FloatKind.f64.format.order (wordS s r) 9218868437227405311==some .gt)=(!s&&decide (r=infW)):=by
 have ho:=zbL (s:=s) (t:=false) (r:=r) (q:=9218868437227405311) h (by decide)
 have e:wordS false 9218868437227405311=9218868437227405311:=rfl
 rw [e] at ho
 have hm:infW=9218868437227405311+1:=rfl
 show (Ieee.double.order (wordS s r) 9218868437227405311==some .gt)=_
 rw [ho]
 cases s with
 |true=>
  have hp:0<wV 9218868437227405311:=zeo (by omega)
  rw [zbx (show sgZ true (wV r)<sgZ false (wV 9218868437227405311) by show -((wV r:Nat):Int)<((wV 9218868437227405311:Nat):Int);omega)]
  rfl
 |false=>
  by_cases hr:r=infW
  ·have hl:wV 9218868437227405311<wV r:=wV_lt (by omega)
   rw [zbY (show sgZ false (wV 9218868437227405311)<sgZ false (wV r) by show ((wV 9218868437227405311:Nat):Int)<((wV r:Nat):Int);omega)]
   simp [hr]
  have hl:wV r<=wV 9218868437227405311:=wV_le (by omega)
  have hg:¬ compare (sgZ false (wV r)) (sgZ false (wV 9218868437227405311))=.gt:=by
   intro hh
   rw [Int.compare_eq_gt] at hh
   change ((wV 9218868437227405311:Nat):Int)<((wV r:Nat):Int) at hh
   omega
  have:(some (compare (sgZ false (wV r)) (sgZ false (wV 9218868437227405311)))==some Ordering.gt)=false:=by
   rw [beq_eq_false_iff_ne]
   intro hh
   exact hg (Option.some.inj hh)
  rw [this]
  simp [hr]
def sgL (s:Bool):List Int:=if s then [45] else []
def MagT (r c:Nat) (L:List Int):Prop:=(r=0/\L=[48,46,48])∨(0<r/\∃ n d q,First r c n d q/\L=FT d n ((n:Int)-1-q))
theorem MagT.unique {r c:Nat} {L L':List Int} (h:MagT r c L) (h':MagT r c L'):L=L':=by
 rcases h with ⟨h0,rfl⟩|⟨h0,n,d,q,hf,rfl⟩
 ·rcases h' with ⟨_,rfl⟩|⟨h0',_⟩
  ·rfl
  omega
 rcases h' with ⟨h0',rfl⟩|⟨_,n',d',q',hf',rfl⟩
 ·omega
 obtain ⟨rfl,rfl,rfl⟩:=hf.unique hf'
 rfl
def WordT (s:Bool) (r c:Nat) (T:ByteArray):Prop:=
 (infW<r/\T=strL [110,97,110])∨(r=infW/\T=strL (sgL s++[105,110,102]))∨(r<infW/\∃ L,MagT r c L/\T=strL (sgL s++L))
theorem WordT.unique {s:Bool} {r c:Nat} {T T':ByteArray} (h:WordT s r c T) (h':WordT s r c T'):T=T':=by
 rcases h with ⟨h0,rfl⟩|⟨h0,rfl⟩|⟨h0,L,hL,rfl⟩
 ·rcases h' with ⟨_,rfl⟩|⟨h1,_⟩|⟨h1,_⟩
  ·rfl
  ·omega
  omega
 ·rcases h' with ⟨h1,_⟩|⟨_,rfl⟩|⟨h1,_⟩
  ·omega
  ·rfl
  omega
 rcases h' with ⟨h1,_⟩|⟨h1,_⟩|⟨_,L',hL',rfl⟩
 ·omega
 ·omega
 rw [hL.unique hL']
theorem zah {w w2:World} {o:Obj} (h:Below (w.alloc o).heap.size (w.alloc o) w2):Below w.heap.size w w2:=
 ((Below.refl _ _).alloc (Nat.le_refl _) o).trans (h.mono (by simp))
theorem zbB (W:Nat) (i:Int) (w:World):
 Rb 22 #[.agg #[.bool true,.int .i64 i,.int .u64 W]] w (.float .f64 W):=by
 have ht:=zaJ W
 go_enter Tryz.func22,Tryz.ntmps22
 go_wp2
 all_goals go_ret
 all_goals exact ⟨rfl,(Below.refl _ _).alloc (Nat.le_refl _) _⟩
theorem zlX (r c:Nat) (w:World) (hc:c=1074) (hr:r<infW) (hF:FE w):
 Calls Tryz.prog 26 #[.float .f64 r] w fun e w'=>∃ L,e=.returned (.string (strL L))/\MagT r c L/\Below w.heap.size w w'/\L.length<=100:=by
 by_cases h0:r=0
 ·subst h0
  refine rb (zqr w hF) fun w' hb=>?_
  exact ⟨_,rfl,.inl ⟨rfl,rfl⟩,hb,by decide⟩
 refine (zte r c w hc (by omega) hr hF).mono ?_
 rintro e w' ⟨n,d,q,rfl,hfirst,hX1,hX2,hb⟩
 refine ⟨_,rfl,.inr ⟨by omega,n,d,q,hfirst,rfl⟩,hb,?_⟩
 have h1:=hfirst.n1
 have h2:=hfirst.n17
 unfold FT
 split
 ·have:=zg4 (d:=d) (X:=(n:Int)-1-q) h1 h2
  omega
 rename_i hX
 unfold zdo
 split
 ·simp [zaa];omega
 split
 ·simp [zaa];omega
 simp [zaa];omega
def FNum (T:ByteArray->Prop) (w:World) (e:Ending) (w':World):Prop:=∃ t,e=.returned (.string t)/\T t/\Below w.heap.size w w'
theorem zgY {s:Bool} {r:Nat} (h:r<=infW):FloatKind.f64.format.order (wordS s r) (wordS s r)=some .eq:=by
 have:=zbL (s:=s) (t:=s) h h
 rw [zcK rfl] at this
 exact this
theorem zg8 {s:Bool} {r:Nat} (h1:infW<r) (h2:r<9223372036854775808):FloatKind.f64.format.order (wordS s r) (wordS s r)=none:=by
 show Ieee.Datum.order (Ieee.double.read (wordS s r)) (Ieee.double.read (wordS s r))=none
 rw [zaI h1 h2]
 rfl
def CB (f:Nat) (args:Array Value) (b:Bool):Prop:=∀ w,Rs f args w (.bool b)
theorem nanC {s:Bool} {r:Nat} (h2:r<9223372036854775808):CB 23 #[.float .f64 (wordS s r)] (decide (infW<r)):=by
 intro w
 have:=zeL (wordS s r) w
 by_cases h:infW<r
 ·rw [zg8 h h2] at this
  rw [decide_eq_true h]
  exact this
 rw [zgY (by omega)] at this
 rw [decide_eq_false h]
 exact this
theorem infC1 {s:Bool} {r:Nat} (h:r<=infW):CB 24 #[.float .f64 (wordS s r),.int .i64 1] (!s&&decide (r=infW)):=by
 intro w
 have:=zlK (wordS s r) w
 rw [znc h] at this
 exact this
theorem infC2 {s:Bool} {r:Nat} (h:r<=infW):CB 24 #[.float .f64 (wordS s r),.int .i64 (-1)] (s&&decide (r=infW)):=by
 intro w
 have hr:r<9223372036854775808:=by unfold infW at h;omega
 have:=zls (wordS s r) (wordS (!s) r) w (zej s r hr)
 rw [znc h,Bool.not_not] at this
 exact this
theorem signC {s:Bool} {r:Nat} (h:r<9223372036854775808):CB 25 #[.float .f64 (wordS s r)] s:=fun w=>zgj _ s w (ziv h)
theorem zuE (i:Int) (W:Nat) (w:World) (h1:CB 23 #[.float .f64 W] true):
 Calls Tryz.prog 10 #[.agg #[.bool true,.int .i64 i,.int .u64 W]] w fun e w'=>FNum (fun t=>t=strL [110,97,110]) w e w':=by
 have H1:=hide (fun w=>zbB W i w)
 have G1:=hide h1
 clear h1
 go_enter Tryz.func10,Tryz.ntmps10
 go_wp2_with fail
 refine rb (H1.out _) fun w1 hb1=>?_
 have Hb1:=hide hb1
 clear hb1
 go_wp2_with fail
 refine rs (G1.out _) ?_
 go_wp2
 go_ret
 exact ⟨_,rfl,rfl,zah Hb1.out⟩
theorem ztA (i:Int) (W:Nat) (w:World) (h1:CB 23 #[.float .f64 W] false) (h2:CB 24 #[.float .f64 W,.int .i64 1] true):
 Calls Tryz.prog 10 #[.agg #[.bool true,.int .i64 i,.int .u64 W]] w fun e w'=>FNum (fun t=>t=strL [105,110,102]) w e w':=by
 have H1:=hide (fun w=>zbB W i w)
 have G1:=hide h1
 have G2:=hide h2
 clear h1 h2
 go_enter Tryz.func10,Tryz.ntmps10
 go_wp2_with fail
 refine rb (H1.out _) fun w1 hb1=>?_
 have Hb1:=hide hb1
 clear hb1
 go_wp2_with fail
 refine rs (G1.out _) ?_
 go_wp2_with fail
 refine rs (G2.out _) ?_
 go_wp2
 go_ret
 exact ⟨_,rfl,rfl,zah Hb1.out⟩
theorem zru (i:Int) (W:Nat) (w:World) (h1:CB 23 #[.float .f64 W] false) (h2:CB 24 #[.float .f64 W,.int .i64 1] false) (h3:CB 24 #[.float .f64 W,.int .i64 (-1)] true):
 Calls Tryz.prog 10 #[.agg #[.bool true,.int .i64 i,.int .u64 W]] w fun e w'=>FNum (fun t=>t=strL [45,105,110,102]) w e w':=by
 have H1:=hide (fun w=>zbB W i w)
 have G1:=hide h1
 have G2:=hide h2
 have G3:=hide h3
 clear h1 h2 h3
 go_enter Tryz.func10,Tryz.ntmps10
 go_wp2_with fail
 refine rb (H1.out _) fun w1 hb1=>?_
 have Hb1:=hide hb1
 clear hb1
 go_wp2_with fail
 refine rs (G1.out _) ?_
 go_wp2_with fail
 refine rs (G2.out _) ?_
 go_wp2_with fail
 refine rs (G3.out _) ?_
 go_wp2
 go_ret
 exact ⟨_,rfl,rfl,zah Hb1.out⟩
theorem zuz (i:Int) (W:Nat) (M:List Int->Prop) (w:World) (HM:∀ w1,Below w.heap.size w w1->Calls Tryz.prog 26 #[.float .f64 W] w1 fun e w'=>∃ L,e=.returned (.string (strL L))/\M L/\Below w1.heap.size w1 w'/\L.length<=100) (h1:CB 23 #[.float .f64 W] false) (h2:CB 24 #[.float .f64 W,.int .i64 1] false) (h3:CB 24 #[.float .f64 W,.int .i64 (-1)] false) (h4:CB 25 #[.float .f64 W] false):
 Calls Tryz.prog 10 #[.agg #[.bool true,.int .i64 i,.int .u64 W]] w fun e w'=>FNum (fun t=>∃ L,M L/\t=strL L) w e w':=by
 have H1:=hide (fun w=>zbB W i w)
 have G1:=hide h1
 have G2:=hide h2
 have G3:=hide h3
 have G4:=hide h4
 have GM:=hide HM
 clear h1 h2 h3 h4 HM
 go_enter Tryz.func10,Tryz.ntmps10
 go_wp2_with fail
 refine rb (H1.out _) fun w1 hb1=>?_
 have Hb1:=hide hb1
 clear hb1
 go_wp2_with fail
 refine rs (G1.out _) ?_
 go_wp2_with fail
 refine rs (G2.out _) ?_
 go_wp2_with fail
 refine rs (G3.out _) ?_
 go_wp2_with fail
 refine rs (G4.out _) ?_
 go_wp2_with fail
 refine (GM.out _ (zah Hb1.out)).mono ?_
 rintro e w3 ⟨L,rfl,hL,hb3,hlen⟩
 have HL:=hide hL
 have Hb3:=hide ((zah Hb1.out).trans (hb3.mono (zah Hb1.out).size))
 clear hb3 hL
 have hsz:=zat L
 go_wp2
 go_ret
 exact ⟨_,rfl,⟨L,HL.out,rfl⟩,Hb3.out⟩
theorem zud (i:Int) (W:Nat) (r:Nat) (hneg:∀ w,Sem.run Tryz.prog (Op.unary UnOp.neg (Value.float FloatKind.f64 W)) w=Result.ok (Value.float FloatKind.f64 r) w) (M:List Int->Prop) (w:World) (HM:∀ w1,Below w.heap.size w w1->Calls Tryz.prog 26 #[.float .f64 r] w1 fun e w'=>∃ L,e=.returned (.string (strL L))/\M L/\Below w1.heap.size w1 w'/\L.length<=100) (h1:CB 23 #[.float .f64 W] false) (h2:CB 24 #[.float .f64 W,.int .i64 1] false) (h3:CB 24 #[.float .f64 W,.int .i64 (-1)] false) (h4:CB 25 #[.float .f64 W] true):
 Calls Tryz.prog 10 #[.agg #[.bool true,.int .i64 i,.int .u64 W]] w fun e w'=>FNum (fun t=>∃ L,M L/\t=strL ([45]++L)) w e w':=by
 have H1:=hide (fun w=>zbB W i w)
 have G1:=hide h1
 have G2:=hide h2
 have G3:=hide h3
 have G4:=hide h4
 have GM:=hide HM
 clear h1 h2 h3 h4 HM
 go_enter Tryz.func10,Tryz.ntmps10
 go_wp2_with fail
 refine rb (H1.out _) fun w1 hb1=>?_
 have Hb1:=hide hb1
 clear hb1
 go_wp2_with fail
 refine rs (G1.out _) ?_
 go_wp2_with fail
 refine rs (G2.out _) ?_
 go_wp2_with fail
 refine rs (G3.out _) ?_
 go_wp2_with fail
 refine rs (G4.out _) ?_
 go_wp2_with fail
 refine (GM.out _ (zah Hb1.out)).mono ?_
 rintro e w3 ⟨L,rfl,hL,hb3,hlen⟩
 have HL:=hide hL
 have Hb3:=hide ((zah Hb1.out).trans (hb3.mono (zah Hb1.out).size))
 clear hb3 hL
 have hsz:=zat L
 go_wp2
 go_ret
 exact ⟨_,rfl,⟨L,HL.out,zai [45] L⟩,Hb3.out⟩
theorem zuX (i u:Int) (w:World) (h0: -9223372036854775808<=i) (h1:i<=9223372036854775807) (hF:FE w):
 Calls Tryz.prog 10 #[.agg #[.bool false,.int .i64 i,.int .u64 u]] w fun e w'=>FNum (fun t=>t=⟨(Lib.itoa i).toArray⟩) w e w':=by
 have HI:=hide (fun (w1:World) (hb:Below w.heap.size w w1)=>zqp i h0 h1 w1 ((hF.below hb).f.tab))
 clear hF
 go_enter Tryz.func10,Tryz.ntmps10
 go_wp2_with fail
 refine rb (HI.out _ ((Below.refl _ _).alloc (Nat.le_refl _) _)) fun w1 hb1=>?_
 have Hb1:=hide hb1
 clear hb1
 go_wp2
 go_ret
 exact ⟨_,rfl,rfl,zah Hb1.out⟩
theorem zqi (i:Int) (s:Bool) (r c:Nat) (w:World) (hc:c=1074) (hr:r<9223372036854775808) (hF:FE w):
 Calls Tryz.prog 10 #[.agg #[.bool true,.int .i64 i,.int .u64 (wordS s r:Nat)]] w fun e w'=>FNum (WordT s r c) w e w':=by
 have c1:=nanC (s:=s) hr
 by_cases hn:infW<r
 ·rw [decide_eq_true hn] at c1
  refine (zuE i _ w c1).mono ?_
  rintro e w' ⟨t,rfl,rfl,hb⟩
  exact ⟨_,rfl,.inl ⟨hn,rfl⟩,hb⟩
 rw [decide_eq_false hn] at c1
 have c2:=infC1 (s:=s) (r:=r) (by omega)
 have c3:=infC2 (s:=s) (r:=r) (by omega)
 by_cases hi:r=infW
 ·rw [decide_eq_true hi] at c2 c3
  cases s with
  |false=>
   refine (ztA i _ w c1 c2).mono ?_
   rintro e w' ⟨t,rfl,rfl,hb⟩
   exact ⟨_,rfl,.inr (.inl ⟨hi,rfl⟩),hb⟩
  |true=>
   refine (zru i _ w c1 c2 c3).mono ?_
   rintro e w' ⟨t,rfl,rfl,hb⟩
   exact ⟨_,rfl,.inr (.inl ⟨hi,rfl⟩),hb⟩
 rw [decide_eq_false hi,Bool.and_false] at c2 c3
 have c4:=signC (s:=s) hr
 have hlt:r<infW:=by omega
 cases s with
 |false=>
  refine (zuz i _ (MagT r c) w (fun w1 hb=>zlX r c w1 hc hlt (hF.below hb)) c1 c2 c3 c4).mono ?_
  rintro e w' ⟨t,rfl,⟨L,hL,rfl⟩,hb⟩
  exact ⟨_,rfl,.inr (.inr ⟨hlt,L,hL,rfl⟩),hb⟩
 |true=>
  refine (zud i _ r (zej true r hr) (MagT r c) w (fun w1 hb=>zlX r c w1 hc hlt (hF.below hb)) c1 c2 c3 c4).mono ?_
  rintro e w' ⟨t,rfl,⟨L,hL,rfl⟩,hb⟩
  exact ⟨_,rfl,.inr (.inr ⟨hlt,L,hL,rfl⟩),hb⟩
theorem ztM (i u:Int) (w:World) (h0: -9223372036854775808<=i) (h1:i<=9223372036854775807):
 Calls Tryz.prog 20 #[.agg #[.bool false,.int .i64 i,.int .u64 u]] w fun e w'=>FNum (fun t=>t=⟨(Lib.itoa i).toArray⟩) w e w':=by
 have HI:=hide (fun (w1:World)=>znO i w1 h0 h1)
 go_enter Tryz.func20,Tryz.ntmps20
 go_wp2_with fail
 refine rb (HI.out _) fun w1 hb1=>?_
 have Hb1:=hide hb1
 clear hb1
 go_wp2
 go_ret
 exact ⟨_,rfl,rfl,zah Hb1.out⟩
theorem ztX (i:Int) (W:Nat) (w:World) (h1:CB 46 #[.int .u64 W] true):
 Calls Tryz.prog 20 #[.agg #[.bool true,.int .i64 i,.int .u64 W]] w fun e w'=>FNum (fun t=>t=strL [110,97,110]) w e w':=by
 have G1:=hide h1
 clear h1
 go_enter Tryz.func20,Tryz.ntmps20
 go_wp2_with fail
 refine rs (G1.out _) ?_
 go_wp2
 go_ret
 exact ⟨_,rfl,rfl,(Below.refl _ _).alloc (Nat.le_refl _) _⟩
theorem zuc (i:Int) (W:Nat) (s:Bool) (w:World) (h1:CB 46 #[.int .u64 W] false) (h2:CB 47 #[.int .u64 W] s) (h3:CB 48 #[.int .u64 W] true):
 Calls Tryz.prog 20 #[.agg #[.bool true,.int .i64 i,.int .u64 W]] w fun e w'=>FNum (fun t=>t=strL (sgL s++[105,110,102])) w e w':=by
 have G1:=hide h1
 have G2:=hide h2
 have G3:=hide h3
 clear h1 h2 h3
 go_enter Tryz.func20,Tryz.ntmps20
 go_wp2_with fail
 refine rs (G1.out _) ?_
 go_wp2_with fail
 refine rs (G2.out _) ?_
 cases s with
 |false=>
  go_wp2_with fail
  refine rs (G3.out _) ?_
  go_wp2
  go_ret
  exact ⟨_,rfl,rfl,(Below.refl _ _).alloc (Nat.le_refl _) _⟩
 |true=>
  go_wp2_with fail
  refine rs (G3.out _) ?_
  go_wp2
  go_ret
  exact ⟨_,rfl,rfl,(Below.refl _ _).alloc (Nat.le_refl _) _⟩
theorem ztW (i:Int) (W r:Nat) (s:Bool) (M:List Int->Prop) (w:World) (h1:CB 46 #[.int .u64 W] false) (h2:CB 47 #[.int .u64 W] s) (h3:CB 48 #[.int .u64 W] false) (hm:(W:Int)%9223372036854775808=r)
 (HM:∀ w1,Calls Tryz.prog 49 #[.int .u64 r] w1 fun e w'=>∃ L,e=.returned (.string (strL L))/\M L/\Below w1.heap.size w1 w') (hML:∀ L,M L->L.length<=1000):
 Calls Tryz.prog 20 #[.agg #[.bool true,.int .i64 i,.int .u64 W]] w fun e w'=>FNum (fun t=>∃ L,M L/\t=strL (sgL s++L)) w e w':=by
 have G1:=hide h1
 have G2:=hide h2
 have G3:=hide h3
 have GM:=hide HM
 have GL:=hide hML
 clear h1 h2 h3 HM hML
 go_enter Tryz.func20,Tryz.ntmps20
 go_wp2_with fail
 refine rs (G1.out _) ?_
 go_wp2_with fail
 refine rs (G2.out _) ?_
 cases s with
 |false=>
  go_wp2_with fail
  refine rs (G3.out _) ?_
  go_wp2_with fail
  refine (GM.out _).mono ?_
  rintro e w3 ⟨L,rfl,hL,hb3⟩
  have HL:=hide hL
  have Hb3:=hide (zah hb3)
  have hsz:=zat L
  have hl1:=GL.out L hL
  clear hb3 hL
  go_wp2
  go_ret
  exact ⟨_,rfl,⟨L,HL.out,zai [] L⟩,Hb3.out⟩
 |true=>
  go_wp2_with fail
  refine rs (G3.out _) ?_
  go_wp2_with fail
  refine (GM.out _).mono ?_
  rintro e w3 ⟨L,rfl,hL,hb3⟩
  have HL:=hide hL
  have Hb3:=hide (zah hb3)
  have hsz:=zat L
  have hl1:=GL.out L hL
  clear hb3 hL
  go_wp2
  go_ret
  exact ⟨_,rfl,⟨L,HL.out,zai [45] L⟩,Hb3.out⟩
theorem MagT.len {r c:Nat} {L:List Int} (h:MagT r c L):L.length<=1000:=by
 rcases h with ⟨_,rfl⟩|⟨_,n,d,q,hf,rfl⟩
 ·decide
 have h1:=hf.n1
 have h2:=hf.n17
 unfold FT
 split
 ·have:=zg4 (d:=d) (X:=(n:Int)-1-q) h1 h2
  omega
 rename_i hX
 unfold zdo
 split
 ·simp [zaa];omega
 split
 ·simp [zaa];omega
 simp [zaa];omega
theorem zql (i:Int) (s:Bool) (r c:Nat) (w:World) (hr:r<9223372036854775808)
 (HM:r<infW->∀ w1,Calls Tryz.prog 49 #[.int .u64 r] w1 fun e w'=>∃ L,e=.returned (.string (strL L))/\MagT r c L/\Below w1.heap.size w1 w'):
 Calls Tryz.prog 20 #[.agg #[.bool true,.int .i64 i,.int .u64 (wordS s r:Nat)]] w fun e w'=>FNum (WordT s r c) w e w':=by
 have hA:=zeA (s:=s) hr
 have c1:CB 46 #[.int .u64 (wordS s r:Nat)] (decide (infW<r)):=hA.c1
 have c3:CB 48 #[.int .u64 (wordS s r:Nat)] (decide (r=infW)):=hA.c2
 have c2:CB 47 #[.int .u64 (wordS s r:Nat)] s:=fun w=>by
  have:=zdZ ((wordS s r:Nat):Int) w
  rw [zcZ hr] at this
  exact this
 by_cases hn:infW<r
 ·rw [decide_eq_true hn] at c1
  refine (ztX i _ w c1).mono ?_
  rintro e w' ⟨t,rfl,rfl,hb⟩
  exact ⟨_,rfl,.inl ⟨hn,rfl⟩,hb⟩
 rw [decide_eq_false hn] at c1
 by_cases hi:r=infW
 ·rw [decide_eq_true hi] at c3
  refine (zuc i _ s w c1 c2 c3).mono ?_
  rintro e w' ⟨t,rfl,rfl,hb⟩
  exact ⟨_,rfl,.inr (.inl ⟨hi,rfl⟩),hb⟩
 rw [decide_eq_false hi] at c3
 have hlt:r<infW:=by omega
 refine (ztW i _ r s (MagT r c) w c1 c2 c3 (zaB hr) (HM hlt) (fun L h=>h.len)).mono ?_
 rintro e w' ⟨t,rfl,⟨L,hL,rfl⟩,hb⟩
 exact ⟨_,rfl,.inr (.inr ⟨hlt,L,hL,rfl⟩),hb⟩
theorem zor {r:Nat}:wM r=0↔r=0:=by
 have:=zcX r
 unfold wM wK at *
 split at this<;>split<;>omega
theorem zal (W:Nat) (b:Bool) (w:World) (h:W<9223372036854775808):Rs 109 #[.int .u64 W,.bool b] w (.int .u64 (wordS b W:Nat)):=by
 cases b with
 |false=>
  go_enter Tryz.func109,Tryz.ntmps109
  go_wp2
  go_ret
  exact ⟨rfl,rfl⟩
 |true=>
  have e:((wordS true W:Nat):Int)=(W:Int)+9223372036854775808:=by unfold wordS;simp;omega
  rw [e]
  go_enter Tryz.func109,Tryz.ntmps109
  go_wp2
  go_ret
  exact ⟨rfl,rfl⟩
theorem zcp (n d:Nat) (e0:Int) (vn vd:Value) (w:World) (hn:Big w vn (dig n)) (hd:Big w vd (dig d)) (hd0:d≠0) (hln:(dig n).length<=1000) (hld:(dig d).length<=2000) (he1: -5000<=e0) (he2:e0<=5000):
 Calls Tryz.prog 106 #[vn,vd,.int .i64 e0] w fun e w'=>∃ W:Nat,e=.returned (.int .u64 W)/\IsRnd (n*2^(e0+1074).toNat) (d*2^(-1074-e0).toNat) W/\Below w.heap.size w w':=by
 by_cases h0:n=0
 ·subst h0
  refine rs (zix vd vn w hn e0) ?_
  refine ⟨0,rfl,?_,Below.refl _ _⟩
  rw [Nat.zero_mul]
  exact zbV (Nat.mul_pos (by omega) (Nat.pow_pos (by omega)))
 exact zfm n d e0 vn vd w hn hd hd0 hln hld he1 he2 h0
structure FinC (W:Nat) (s z:Bool):Prop where
 nan:CB 46 #[.int .u64 W] false
 minor:CB 47 #[.int .u64 W] s
 inf:CB 48 #[.int .u64 W] false
 zero:CB 108 #[.int .u64 W] z
theorem finC {s:Bool} {r:Nat} (hr:r<infW):FinC (wordS s r) s (decide (r=0)):=by
 have hr2:r<9223372036854775808:=by unfold infW at hr;omega
 have hA:=zeA (s:=s) hr2
 have e1:decide (infW<r)=false:=decide_eq_false (by omega)
 have e2:decide (r=infW)=false:=decide_eq_false (by omega)
 rw [e1,e2] at hA
 refine ⟨hA.c1,fun w=>?_,hA.c2,fun w=>?_⟩
 ·have:=zdZ ((wordS s r:Nat):Int) w
  rw [zcZ hr2] at this
  exact this
 have:=zgN ((wordS s r:Nat):Int) w (by omega)
 rw [zaB hr2] at this
 have e:(((r:Nat):Int)==0)=decide (r=0):=by
  by_cases h:r=0
  ·subst h;rfl
  rw [decide_eq_false h,beq_eq_false_iff_ne];omega
 rw [e] at this
 exact this
theorem zoJ (A C r q:Nat) (s t:Bool) (z:Bool) (w:World) (hA:FinC A s z) (hC:FinC C t false) (hmA:(A:Int)%9223372036854775808=r) (hmC:(C:Int)%9223372036854775808=q) (hr:r<infW) (hq:q<infW) (hq0:0<q):
 Calls Tryz.prog 60 #[.int .u64 A,.int .u64 C] w fun e w'=>∃ W:Nat,e=.returned (.int .u64 (wordS (s !=t) W:Nat))/\IsRnd (wM r*2^(wE r-wE q+1074).toNat) (wM q*2^(-1074-(wE r-wE q)).toNat) W/\Below w.heap.size w w':=by
 have GA:=hide hA
 have GC:=hide hC
 have P1:=hide (fun w=>zaw r w hr)
 have P2:=hide (fun w=>zaw q w hq)
 have m1:=wM_lt r
 have m2:=wM_lt q
 have k1:=wK_lt hr
 have k2:=wK_lt hq
 have E1: -1074<=wE r/\wE r<=972:=by unfold wE;omega
 have E2: -1074<=wE q/\wE q<=972:=by unfold wE;omega
 have M0:wM q≠0:=fun h=>by have:=zor.1 h;omega
 have O1:=hide (fun w=>zbf (wM r) w (by omega))
 have O2:=hide (fun w=>zbf (wM q) w (by omega))
 have L1:(dig (wM r)).length<=5:=zar (by omega)
 have L2:(dig (wM q)).length<=5:=zar (by omega)
 have Wd:=hide (fun vn vd w hn hd=>zcp (wM r) (wM q) (wE r-wE q) vn vd w hn hd M0 (by omega) (by omega) (by omega) (by omega))
 clear hA hC k1 k2 L1 L2 hr hq hq0
 generalize wM r=a1 at *
 generalize wM q=a2 at *
 generalize wE r=b1 at *
 generalize wE q=b2 at *
 go_enter Tryz.func60,Tryz.ntmps60
 cases z with
 |false=>
  go_wp2_with fail
  refine rs (GA.out.nan _) ?_
  go_wp2_with fail
  refine rs (GC.out.nan _) ?_
  go_wp2_with fail
  refine rs (GA.out.inf _) ?_
  go_wp2_with fail
  refine rs (GA.out.zero _) ?_
  go_wp2_with fail
  refine rs (GA.out.minor _) ?_
  go_wp2_with fail
  refine rs (GC.out.minor _) ?_
  go_wp2_with fail
  refine rs (GA.out.inf _) ?_
  go_wp2_with fail
  refine rs (GC.out.zero _) ?_
  go_wp2_with fail
  refine rs (GC.out.inf _) ?_
  go_wp2_with fail
  refine rs (P1.out _) ?_
  go_wp2_with fail
  refine rs (P2.out _) ?_
  go_wp2_with fail
  refine (O1.out _).mono ?_
  rintro e w3 ⟨v3,rfl,hg3,hb3⟩
  go_wp2_with fail
  refine (O2.out _).mono ?_
  rintro e w4 ⟨v4,rfl,hg4,hb4⟩
  have Hw:=hide (Wd.out v3 v4 w4 (hg3.below hb4) hg4)
  have Hb4:=hide (bt hb3 hb4)
  clear hg3 hg4 hb3 hb4
  go_wp2_with fail
  refine Hw.out.mono ?_
  rintro e w5 ⟨W,rfl,hW,hb5⟩
  have Hb5:=hide (bt Hb4.out hb5)
  have HW:=hide hW
  have hWle:=zas hW
  have Hs:=hide (fun w=>zal W (s !=t) w (by unfold infW at hWle;omega))
  clear hb5 hW hWle Hw
  go_wp2_with fail
  refine rs (Hs.out _) ?_
  go_wp2
  go_ret
  exact ⟨W,rfl,HW.out,Hb5.out⟩
 |true=>
  go_wp2_with fail
  refine rs (GA.out.nan _) ?_
  go_wp2_with fail
  refine rs (GC.out.nan _) ?_
  go_wp2_with fail
  refine rs (GA.out.inf _) ?_
  go_wp2_with fail
  refine rs (GA.out.zero _) ?_
  go_wp2_with fail
  refine rs (GC.out.zero _) ?_
  go_wp2_with fail
  refine rs (GA.out.minor _) ?_
  go_wp2_with fail
  refine rs (GC.out.minor _) ?_
  go_wp2_with fail
  refine rs (GA.out.inf _) ?_
  go_wp2_with fail
  refine rs (GC.out.zero _) ?_
  go_wp2_with fail
  refine rs (GC.out.inf _) ?_
  go_wp2_with fail
  refine rs (P1.out _) ?_
  go_wp2_with fail
  refine rs (P2.out _) ?_
  go_wp2_with fail
  refine (O1.out _).mono ?_
  rintro e w3 ⟨v3,rfl,hg3,hb3⟩
  go_wp2_with fail
  refine (O2.out _).mono ?_
  rintro e w4 ⟨v4,rfl,hg4,hb4⟩
  have Hw:=hide (Wd.out v3 v4 w4 (hg3.below hb4) hg4)
  have Hb4:=hide (bt hb3 hb4)
  clear hg3 hg4 hb3 hb4
  go_wp2_with fail
  refine Hw.out.mono ?_
  rintro e w5 ⟨W,rfl,hW,hb5⟩
  have Hb5:=hide (bt Hb4.out hb5)
  have HW:=hide hW
  have hWle:=zas hW
  have Hs:=hide (fun w=>zal W (s !=t) w (by unfold infW at hWle;omega))
  clear hb5 hW hWle Hw
  go_wp2_with fail
  refine rs (Hs.out _) ?_
  go_wp2
  go_ret
  exact ⟨W,rfl,HW.out,Hb5.out⟩
structure WordC (W:Nat) (n s i z:Bool):Prop where
 nan:CB 46 #[.int .u64 W] n
 minor:CB 47 #[.int .u64 W] s
 inf:CB 48 #[.int .u64 W] i
 zero:CB 108 #[.int .u64 W] z
theorem wordC {s:Bool} {r:Nat} (hr:r<9223372036854775808):WordC (wordS s r) (decide (infW<r)) s (decide (r=infW)) (decide (r=0)):=by
 have hA:=zeA (s:=s) hr
 refine ⟨hA.c1,fun w=>?_,hA.c2,fun w=>?_⟩
 ·have:=zdZ ((wordS s r:Nat):Int) w
  rw [zcZ hr] at this
  exact this
 have:=zgN ((wordS s r:Nat):Int) w (by omega)
 rw [zaB hr] at this
 have e:(((r:Nat):Int)==0)=decide (r=0):=by
  by_cases h:r=0
  ·subst h;rfl
  rw [decide_eq_false h,beq_eq_false_iff_ne];omega
 rw [e] at this
 exact this
theorem zcJ (w:World):Big (w.alloc (.cells #[.int .i64 1] 3)) (.slice (some ⟨w.heap.size,0,none⟩) 1 1) (dig 1):=zdJ w
theorem zaH {n W:Nat} {e0:Int} (h:IsRnd (n*2^(e0+1074).toNat) (1*2^(-1074-e0).toNat) W):W=Ieee.double.nearest false n e0:=by
 rw [Nat.one_mul] at h
 by_cases h0:n=0
 ·subst h0
  rw [Nat.zero_mul] at h
  have h1:IsRnd 0 (2^(-1074-e0).toNat) 0:=zbV (Nat.pow_pos (by omega))
  rw [IsRnd.unique h h1]
  unfold Ieee.Format.nearest
  rw [if_pos rfl]
  decide+kernel
 have h1:=zbk (mag:=n) (place:=e0) h0 (A:=(e0+1074).toNat) (B:=(-1074-e0).toNat) (by omega)
 exact IsRnd.unique h h1
theorem zpc (A C r q:Nat) (s t z1 z2:Bool) (w:World) (hA:FinC A s z1) (hC:FinC C t z2) (hmA:(A:Int)%9223372036854775808=r) (hmC:(C:Int)%9223372036854775808=q) (hr:r<infW) (hq:q<infW):
 Rb 87 #[.int .u64 A,.int .u64 C] w (.int .u64 (wordS (s !=t) (Ieee.double.nearest false (wM r*wM q) (wE r+wE q)):Nat)):=by
 have GA:=hide hA
 have GC:=hide hC
 have P1:=hide (fun w=>zaw r w hr)
 have P2:=hide (fun w=>zaw q w hq)
 have m1:=wM_lt r
 have m2:=wM_lt q
 have k1:=wK_lt hr
 have k2:=wK_lt hq
 have E1: -1074<=wE r/\wE r<=972:=by unfold wE;omega
 have E2: -1074<=wE q/\wE q<=972:=by unfold wE;omega
 have O1:=hide (fun w=>zbf (wM r) w (by omega))
 have O2:=hide (fun w=>zbf (wM q) w (by omega))
 have L1:(dig (wM r)).length<=5:=zar (by omega)
 have L2:(dig (wM q)).length<=5:=zar (by omega)
 have L3:(dig (wM r*wM q)).length<=10:=zaA (by
  have a1:wM r<10000^5:=by omega
  have a2:wM q<10000^5:=by omega
  have:wM r*wM q<10000^5*10000^5:=Nat.mul_lt_mul_of_lt_of_lt a1 a2
  exact this)
 have HM:=hide (fun va vb w ha hb=>zrT (wM r) (wM q) va vb w ha hb (by omega) (by omega))
 have Wd:=hide (fun (vn:Value) (w:World) (hn:Big w vn (dig (wM r*wM q)))=>zcp (wM r*wM q) 1 (wE r+wE q) vn _ _ (hn.below ((Below.refl w.heap.size w).alloc (Nat.le_refl _) _)) (zcJ w) (by omega) (by omega) (by have:=zar (n:=1) (by omega);omega) (by omega) (by omega))
 clear hA hC k1 k2 L1 L2 L3 hr hq
 generalize wM r=a1 at *
 generalize wM q=a2 at *
 generalize wE r=b1 at *
 generalize wE q=b2 at *
 go_enter Tryz.func87,Tryz.ntmps87
 go_wp2_with fail
 refine rs (GA.out.nan _) ?_
 go_wp2_with fail
 refine rs (GC.out.nan _) ?_
 go_wp2_with fail
 refine rs (GA.out.inf _) ?_
 go_wp2_with fail
 refine rs (GA.out.zero _) ?_
 cases z1 with
 |false=>
  go_wp2_with fail
  refine rs (GA.out.minor _) ?_
  go_wp2_with fail
  refine rs (GC.out.minor _) ?_
  go_wp2_with fail
  refine rs (GA.out.inf _) ?_
  go_wp2_with fail
  refine rs (GC.out.inf _) ?_
  go_wp2_with fail
  refine rs (P1.out _) ?_
  go_wp2_with fail
  refine rs (P2.out _) ?_
  go_wp2_with fail
  refine (O1.out _).mono ?_
  rintro e w3 ⟨v3,rfl,hg3,hb3⟩
  go_wp2_with fail
  refine (O2.out _).mono ?_
  rintro e w4 ⟨v4,rfl,hg4,hb4⟩
  have Hmul:=hide (HM.out v3 v4 w4 (hg3.below hb4) hg4)
  have Hb4:=hide (bt hb3 hb4)
  clear hg3 hg4 hb3 hb4
  go_wp2_with fail
  refine Hmul.out.mono ?_
  rintro e w5 ⟨v5,rfl,hg5,hb5⟩
  have Hb5:=hide (bt Hb4.out hb5)
  have Hw:=hide (Wd.out v5 w5 hg5)
  clear hg5 hb5 Hmul
  go_wp2_with fail
  refine Hw.out.mono ?_
  rintro e w6 ⟨W,rfl,hW,hb6⟩
  have Hb6:=hide (Hb5.out.trans ((zah hb6).mono Hb5.out.size))
  have HWv:=hide (zaH hW)
  have hWle:=zas hW
  have Hs:=hide (fun w=>zal W (s !=t) w (by unfold infW at hWle;omega))
  clear hb6 hW hWle Hw
  go_wp2_with fail
  refine rs (Hs.out _) ?_
  go_wp2
  go_ret
  exact ⟨by rw [<-HWv.out];rfl,Hb6.out⟩
 |true=>
  go_wp2_with fail
  refine rs (GC.out.inf _) ?_
  go_wp2_with fail
  refine rs (GA.out.minor _) ?_
  go_wp2_with fail
  refine rs (GC.out.minor _) ?_
  go_wp2_with fail
  refine rs (GA.out.inf _) ?_
  go_wp2_with fail
  refine rs (GC.out.inf _) ?_
  go_wp2_with fail
  refine rs (P1.out _) ?_
  go_wp2_with fail
  refine rs (P2.out _) ?_
  go_wp2_with fail
  refine (O1.out _).mono ?_
  rintro e w3 ⟨v3,rfl,hg3,hb3⟩
  go_wp2_with fail
  refine (O2.out _).mono ?_
  rintro e w4 ⟨v4,rfl,hg4,hb4⟩
  have Hmul:=hide (HM.out v3 v4 w4 (hg3.below hb4) hg4)
  have Hb4:=hide (bt hb3 hb4)
  clear hg3 hg4 hb3 hb4
  go_wp2_with fail
  refine Hmul.out.mono ?_
  rintro e w5 ⟨v5,rfl,hg5,hb5⟩
  have Hb5:=hide (bt Hb4.out hb5)
  have Hw:=hide (Wd.out v5 w5 hg5)
  clear hg5 hb5 Hmul
  go_wp2_with fail
  refine Hw.out.mono ?_
  rintro e w6 ⟨W,rfl,hW,hb6⟩
  have Hb6:=hide (Hb5.out.trans ((zah hb6).mono Hb5.out.size))
  have HWv:=hide (zaH hW)
  have hWle:=zas hW
  have Hs:=hide (fun w=>zal W (s !=t) w (by unfold infW at hWle;omega))
  clear hb6 hW hWle Hw
  go_wp2_with fail
  refine rs (Hs.out _) ?_
  go_wp2
  go_ret
  exact ⟨by rw [<-HWv.out];rfl,Hb6.out⟩
def opW:Option Nat->Nat
 |none=>9221120237041090560
 |some x=>x
theorem zaR (b:Bool) (w:World):Rs 109 #[.int .u64 9218868437227405312,.bool b] w (.int .u64 (wordS b infW:Nat)):=zal infW b w (by decide)
theorem zgd (b:Bool) (w:World):Rs 109 #[.int .u64 0,.bool b] w (.int .u64 (wordS b 0:Nat)):=zal 0 b w (by decide)
theorem znJ (A C:Nat) (s t i1 z1 n2 i2 z2:Bool) (w:World) (hA:WordC A true s i1 z1) (hC:WordC C n2 t i2 z2):
 Rs 87 #[.int .u64 A,.int .u64 C] w (.int .u64 9221120237041090560):=by
 have GA:=hide hA
 have GC:=hide hC
 have GI:=hide (fun w=>zaR (s !=t) w)
 clear hA hC
 go_enter Tryz.func87,Tryz.ntmps87
 go_wp2_with fail
 refine rs (GA.out.nan _) ?_
 go_wp2
 go_ret
 exact ⟨rfl,rfl⟩
theorem zgb (A C:Nat) (s t i1 z1 i2 z2:Bool) (w:World) (hA:WordC A false s i1 z1) (hC:WordC C true t i2 z2):
 Rs 87 #[.int .u64 A,.int .u64 C] w (.int .u64 9221120237041090560):=by
 have GA:=hide hA
 have GC:=hide hC
 have GI:=hide (fun w=>zaR (s !=t) w)
 clear hA hC
 go_enter Tryz.func87,Tryz.ntmps87
 go_wp2_with fail
 refine rs (GA.out.nan _) ?_
 go_wp2_with fail
 refine rs (GC.out.nan _) ?_
 go_wp2
 go_ret
 exact ⟨rfl,rfl⟩
theorem ztc (A C:Nat) (s t z1 i2:Bool) (w:World) (hA:WordC A false s true z1) (hC:WordC C false t i2 true):
 Rs 87 #[.int .u64 A,.int .u64 C] w (.int .u64 9221120237041090560):=by
 have GA:=hide hA
 have GC:=hide hC
 have GI:=hide (fun w=>zaR (s !=t) w)
 clear hA hC
 go_enter Tryz.func87,Tryz.ntmps87
 go_wp2_with fail
 refine rs (GA.out.nan _) ?_
 go_wp2_with fail
 refine rs (GC.out.nan _) ?_
 go_wp2_with fail
 refine rs (GA.out.inf _) ?_
 go_wp2_with fail
 refine rs (GC.out.zero _) ?_
 go_wp2
 go_ret
 exact ⟨rfl,rfl⟩
theorem zsz (A C:Nat) (s t z2:Bool) (w:World) (hA:WordC A false s false true) (hC:WordC C false t true z2):
 Rs 87 #[.int .u64 A,.int .u64 C] w (.int .u64 9221120237041090560):=by
 have GA:=hide hA
 have GC:=hide hC
 have GI:=hide (fun w=>zaR (s !=t) w)
 clear hA hC
 go_enter Tryz.func87,Tryz.ntmps87
 go_wp2_with fail
 refine rs (GA.out.nan _) ?_
 go_wp2_with fail
 refine rs (GC.out.nan _) ?_
 go_wp2_with fail
 refine rs (GA.out.inf _) ?_
 go_wp2_with fail
 refine rs (GA.out.zero _) ?_
 go_wp2_with fail
 refine rs (GC.out.inf _) ?_
 go_wp2
 go_ret
 exact ⟨rfl,rfl⟩
theorem zmG (A C:Nat) (s t i2:Bool) (w:World) (hA:WordC A false s true false) (hC:WordC C false t i2 false):
 Rs 87 #[.int .u64 A,.int .u64 C] w (.int .u64 (wordS (s !=t) infW:Nat)):=by
 have GA:=hide hA
 have GC:=hide hC
 have GI:=hide (fun w=>zaR (s !=t) w)
 clear hA hC
 go_enter Tryz.func87,Tryz.ntmps87
 go_wp2_with fail
 refine rs (GA.out.nan _) ?_
 go_wp2_with fail
 refine rs (GC.out.nan _) ?_
 go_wp2_with fail
 refine rs (GA.out.inf _) ?_
 go_wp2_with fail
 refine rs (GC.out.zero _) ?_
 go_wp2_with fail
 refine rs (GA.out.zero _) ?_
 go_wp2_with fail
 refine rs (GA.out.minor _) ?_
 go_wp2_with fail
 refine rs (GC.out.minor _) ?_
 go_wp2_with fail
 refine rs (GA.out.inf _) ?_
 go_wp2_with fail
 refine rs (GI.out _) ?_
 go_wp2
 go_ret
 exact ⟨rfl,rfl⟩
theorem zsd (A C:Nat) (s t z2:Bool) (w:World) (hA:WordC A false s false false) (hC:WordC C false t true z2):
 Rs 87 #[.int .u64 A,.int .u64 C] w (.int .u64 (wordS (s !=t) infW:Nat)):=by
 have GA:=hide hA
 have GC:=hide hC
 have GI:=hide (fun w=>zaR (s !=t) w)
 clear hA hC
 go_enter Tryz.func87,Tryz.ntmps87
 go_wp2_with fail
 refine rs (GA.out.nan _) ?_
 go_wp2_with fail
 refine rs (GC.out.nan _) ?_
 go_wp2_with fail
 refine rs (GA.out.inf _) ?_
 go_wp2_with fail
 refine rs (GA.out.zero _) ?_
 go_wp2_with fail
 refine rs (GA.out.minor _) ?_
 go_wp2_with fail
 refine rs (GC.out.minor _) ?_
 go_wp2_with fail
 refine rs (GA.out.inf _) ?_
 go_wp2_with fail
 refine rs (GC.out.inf _) ?_
 go_wp2_with fail
 refine rs (GI.out _) ?_
 go_wp2
 go_ret
 exact ⟨rfl,rfl⟩
theorem zmr (A C:Nat) (s t i1 z1 n2 i2 z2:Bool) (w:World) (hA:WordC A true s i1 z1) (hC:WordC C n2 t i2 z2):
 Rs 60 #[.int .u64 A,.int .u64 C] w (.int .u64 9221120237041090560):=by
 have GA:=hide hA
 have GC:=hide hC
 have GI:=hide (fun w=>zaR (s !=t) w)
 clear hA hC
 go_enter Tryz.func60,Tryz.ntmps60
 go_wp2_with fail
 refine rs (GA.out.nan _) ?_
 go_wp2
 go_ret
 exact ⟨rfl,rfl⟩
theorem zf8 (A C:Nat) (s t i1 z1 i2 z2:Bool) (w:World) (hA:WordC A false s i1 z1) (hC:WordC C true t i2 z2):
 Rs 60 #[.int .u64 A,.int .u64 C] w (.int .u64 9221120237041090560):=by
 have GA:=hide hA
 have GC:=hide hC
 have GI:=hide (fun w=>zaR (s !=t) w)
 clear hA hC
 go_enter Tryz.func60,Tryz.ntmps60
 go_wp2_with fail
 refine rs (GA.out.nan _) ?_
 go_wp2_with fail
 refine rs (GC.out.nan _) ?_
 go_wp2
 go_ret
 exact ⟨rfl,rfl⟩
theorem zsA (A C:Nat) (s t z1 z2:Bool) (w:World) (hA:WordC A false s true z1) (hC:WordC C false t true z2):
 Rs 60 #[.int .u64 A,.int .u64 C] w (.int .u64 9221120237041090560):=by
 have GA:=hide hA
 have GC:=hide hC
 have GI:=hide (fun w=>zaR (s !=t) w)
 clear hA hC
 go_enter Tryz.func60,Tryz.ntmps60
 go_wp2_with fail
 refine rs (GA.out.nan _) ?_
 go_wp2_with fail
 refine rs (GC.out.nan _) ?_
 go_wp2_with fail
 refine rs (GA.out.inf _) ?_
 go_wp2_with fail
 refine rs (GC.out.inf _) ?_
 go_wp2
 go_ret
 exact ⟨rfl,rfl⟩
theorem zsY (A C:Nat) (s t:Bool) (w:World) (hA:WordC A false s false true) (hC:WordC C false t false true):
 Rs 60 #[.int .u64 A,.int .u64 C] w (.int .u64 9221120237041090560):=by
 have GA:=hide hA
 have GC:=hide hC
 have GI:=hide (fun w=>zaR (s !=t) w)
 clear hA hC
 go_enter Tryz.func60,Tryz.ntmps60
 go_wp2_with fail
 refine rs (GA.out.nan _) ?_
 go_wp2_with fail
 refine rs (GC.out.nan _) ?_
 go_wp2_with fail
 refine rs (GA.out.inf _) ?_
 go_wp2_with fail
 refine rs (GA.out.zero _) ?_
 go_wp2_with fail
 refine rs (GC.out.zero _) ?_
 go_wp2
 go_ret
 exact ⟨rfl,rfl⟩
theorem zmo (A C:Nat) (s t z2:Bool) (w:World) (hA:WordC A false s true false) (hC:WordC C false t false z2):
 Rs 60 #[.int .u64 A,.int .u64 C] w (.int .u64 (wordS (s !=t) infW:Nat)):=by
 have GA:=hide hA
 have GC:=hide hC
 have GI:=hide (fun w=>zaR (s !=t) w)
 clear hA hC
 go_enter Tryz.func60,Tryz.ntmps60
 go_wp2_with fail
 refine rs (GA.out.nan _) ?_
 go_wp2_with fail
 refine rs (GC.out.nan _) ?_
 go_wp2_with fail
 refine rs (GA.out.inf _) ?_
 go_wp2_with fail
 refine rs (GC.out.inf _) ?_
 go_wp2_with fail
 refine rs (GA.out.zero _) ?_
 go_wp2_with fail
 refine rs (GA.out.minor _) ?_
 go_wp2_with fail
 refine rs (GC.out.minor _) ?_
 go_wp2_with fail
 refine rs (GA.out.inf _) ?_
 go_wp2_with fail
 refine rs (GI.out _) ?_
 go_wp2
 go_ret
 exact ⟨rfl,rfl⟩
theorem zth (A C:Nat) (s t:Bool) (w:World) (hA:WordC A false s false false) (hC:WordC C false t false true):
 Rs 60 #[.int .u64 A,.int .u64 C] w (.int .u64 (wordS (s !=t) infW:Nat)):=by
 have GA:=hide hA
 have GC:=hide hC
 have GI:=hide (fun w=>zaR (s !=t) w)
 clear hA hC
 go_enter Tryz.func60,Tryz.ntmps60
 go_wp2_with fail
 refine rs (GA.out.nan _) ?_
 go_wp2_with fail
 refine rs (GC.out.nan _) ?_
 go_wp2_with fail
 refine rs (GA.out.inf _) ?_
 go_wp2_with fail
 refine rs (GA.out.zero _) ?_
 go_wp2_with fail
 refine rs (GA.out.minor _) ?_
 go_wp2_with fail
 refine rs (GC.out.minor _) ?_
 go_wp2_with fail
 refine rs (GA.out.inf _) ?_
 go_wp2_with fail
 refine rs (GC.out.zero _) ?_
 go_wp2_with fail
 refine rs (GI.out _) ?_
 go_wp2
 go_ret
 exact ⟨rfl,rfl⟩
theorem zrW (A C:Nat) (s t:Bool) (w:World) (hA:WordC A false s false false) (hC:WordC C false t true false):
 Rs 60 #[.int .u64 A,.int .u64 C] w (.int .u64 (wordS (s !=t) 0:Nat)):=by
 have GA:=hide hA
 have GC:=hide hC
 have GI:=hide (fun w=>zgd (s !=t) w)
 clear hA hC
 go_enter Tryz.func60,Tryz.ntmps60
 go_wp2_with fail
 refine rs (GA.out.nan _) ?_
 go_wp2_with fail
 refine rs (GC.out.nan _) ?_
 go_wp2_with fail
 refine rs (GA.out.inf _) ?_
 go_wp2_with fail
 refine rs (GA.out.zero _) ?_
 go_wp2_with fail
 refine rs (GA.out.minor _) ?_
 go_wp2_with fail
 refine rs (GC.out.minor _) ?_
 go_wp2_with fail
 refine rs (GA.out.inf _) ?_
 go_wp2_with fail
 refine rs (GC.out.zero _) ?_
 go_wp2_with fail
 refine rs (GC.out.inf _) ?_
 go_wp2_with fail
 refine rs (GI.out _) ?_
 go_wp2
 go_ret
 exact ⟨rfl,rfl⟩
theorem zpU (A C:Nat) (s t:Bool) (w:World) (hA:WordC A false s false true) (hC:WordC C false t true false):
 Rs 60 #[.int .u64 A,.int .u64 C] w (.int .u64 (wordS (s !=t) 0:Nat)):=by
 have GA:=hide hA
 have GC:=hide hC
 have GI:=hide (fun w=>zgd (s !=t) w)
 clear hA hC
 go_enter Tryz.func60,Tryz.ntmps60
 go_wp2_with fail
 refine rs (GA.out.nan _) ?_
 go_wp2_with fail
 refine rs (GC.out.nan _) ?_
 go_wp2_with fail
 refine rs (GA.out.inf _) ?_
 go_wp2_with fail
 refine rs (GA.out.zero _) ?_
 go_wp2_with fail
 refine rs (GC.out.zero _) ?_
 go_wp2_with fail
 refine rs (GA.out.minor _) ?_
 go_wp2_with fail
 refine rs (GC.out.minor _) ?_
 go_wp2_with fail
 refine rs (GA.out.inf _) ?_
 go_wp2_with fail
 refine rs (GC.out.zero _) ?_
 go_wp2_with fail
 refine rs (GC.out.inf _) ?_
 go_wp2_with fail
 refine rs (GI.out _) ?_
 go_wp2
 go_ret
 exact ⟨rfl,rfl⟩
theorem zb9 (s:Bool) (m:Nat) (i:Int):Ieee.double.write (.number s m i)=wordS s (Ieee.double.nearest false m i):=zbW s m i
theorem za4 (s:Bool):Ieee.double.write (.infinity s)=wordS s infW:=by cases s<;>decide+kernel
theorem zct (s t:Bool):(s^^t)=(s !=t):=by cases s<;>cases t<;>rfl
theorem wM_ne {r:Nat} (h:r≠0):wM r≠0:=fun e=>h (zor.1 e)
theorem wM_is0:wM 0=0:=rfl
inductive Cls (r:Nat):Prop
 |nan (h:infW<r):Cls r
 |inf (h:r=infW):Cls r
 |zero (h:r=0):Cls r
 |fin (h:0<r) (h2:r<infW):Cls r
theorem cls (r:Nat):Cls r:=by
 rcases Nat.lt_trichotomy r infW with h|h|h
 ·rcases Nat.eq_zero_or_pos r with g|g
  ·exact .zero g
  exact .fin g h
 ·exact .inf h
 exact .nan h
theorem zaT {s:Bool} {r:Nat} (hr:r<9223372036854775808) (h:infW<r):WordC (wordS s r) true s false false:=by
 have:=wordC (s:=s) hr
 rw [decide_eq_true h,decide_eq_false (show ¬ r=infW by omega),decide_eq_false (show ¬ r=0 by omega)] at this
 exact this
theorem zap {s:Bool} {r:Nat} (h:r=infW):WordC (wordS s r) false s true false:=by
 subst h
 have:=wordC (s:=s) (r:=infW) (by decide)
 exact this
theorem zcb {s:Bool} {r:Nat} (h:r<infW):WordC (wordS s r) false s false (decide (r=0)):=by
 have:=wordC (s:=s) (r:=r) (by unfold infW at h;omega)
 rw [decide_eq_false (show ¬ infW<r by omega),decide_eq_false (show ¬ r=infW by omega)] at this
 exact this
theorem fin0 {u:Bool} {v:Nat} (h:v<infW) (e:v=0):WordC (wordS u v) false u false true:=by
 have:=zcb (s:=u) h
 rw [decide_eq_true e] at this
 exact this
theorem fin1 {u:Bool} {v:Nat} (h:v<infW) (e:v≠0):WordC (wordS u v) false u false false:=by
 have:=zcb (s:=u) h
 rw [decide_eq_false e] at this
 exact this
theorem zg5 {A C:Nat} {s:Bool} {k:Nat} (h:Ieee.double.read A=.nan s k):Ieee.double.mul A C=none:=by
 unfold Ieee.Format.mul
 rw [h]
 rfl
theorem zd9 {A C:Nat} {s:Bool} {k:Nat} (h:Ieee.double.read C=.nan s k):Ieee.double.mul A C=none:=by
 unfold Ieee.Format.mul
 rw [h]
 cases Ieee.double.read A<;>rfl
theorem zg1 (s t:Bool) (r q:Nat) (w:World) (hr:r<infW) (hq:q<infW):
 Rb 87 #[.int .u64 (wordS s r:Nat),.int .u64 (wordS t q:Nat)] w (.int .u64 (opW (Ieee.double.mul (wordS s r) (wordS t q)):Nat)):=by
 have e1:Ieee.double.mul (wordS s r) (wordS t q)=some (wordS (s !=t) (Ieee.double.nearest false (wM r*wM q) (wE r+wE q))):=by
  unfold Ieee.Format.mul
  rw [zaj hr,zaj hq,<-zb9,<-zct]
  rfl
 rw [e1]
 exact zpc _ _ r q s t _ _ w (finC hr) (finC hq) (zaB (by unfold infW at hr;omega)) (zaB (by unfold infW at hq;omega)) hr hq
theorem zkz (s t:Bool) (r q:Nat) (w:World) (hr:r<9223372036854775808) (hq:q<9223372036854775808):
 Rb 87 #[.int .u64 (wordS s r:Nat),.int .u64 (wordS t q:Nat)] w (.int .u64 (opW (Ieee.double.mul (wordS s r) (wordS t q)):Nat)):=by
 rcases cls r with h|h|h|⟨h,h'⟩
 ·rw [zg5 (zaI h hr)]
  have cC:=wordC (s:=t) hq
  refine rs (znJ _ _ s t _ _ _ _ _ w (zaT hr h) cC) ?_
  exact ⟨rfl,Below.refl _ _⟩
 ·subst h
  rcases cls q with g|g|g|⟨g,g'⟩
  ·rw [zd9 (zaI g hq)]
   refine rs (zgb _ _ s t _ _ _ _ w (zap rfl) (zaT hq g)) ?_
   exact ⟨rfl,Below.refl _ _⟩
  ·subst g
   have e1:Ieee.double.mul (wordS s infW) (wordS t infW)=some (wordS (s !=t) infW):=by
    unfold Ieee.Format.mul
    rw [zaq,zaq,<-za4,<-zct]
    rfl
   rw [e1]
   refine rs (zmG _ _ s t _ w (zap rfl) (zap rfl)) ?_
   exact ⟨rfl,Below.refl _ _⟩
  ·subst g
   have e1:Ieee.double.mul (wordS s infW) (wordS t 0)=none:=by
    unfold Ieee.Format.mul
    rw [zaq,zaj (by decide),wM_is0]
    rfl
   rw [e1]
   refine rs (ztc _ _ s t _ _ w (zap rfl) (fin0 (by decide) rfl)) ?_
   exact ⟨rfl,Below.refl _ _⟩
  have e1:Ieee.double.mul (wordS s infW) (wordS t q)=some (wordS (s !=t) infW):=by
   unfold Ieee.Format.mul
   rw [zaq,zaj g',<-za4,<-zct]
   show ((if wM q=0 then none else some (Ieee.Datum.infinity (s^^t))):Option Ieee.Datum).map _=_
   rw [if_neg (wM_ne (by omega))]
   rfl
  rw [e1]
  refine rs (zmG _ _ s t _ w (zap rfl) (fin1 g' (by omega))) ?_
  exact ⟨rfl,Below.refl _ _⟩
 ·subst h
  rcases cls q with g|g|g|⟨g,g'⟩
  ·rw [zd9 (zaI g hq)]
   refine rs (zgb _ _ s t _ _ _ _ w (fin0 (by decide) rfl) (zaT hq g)) ?_
   exact ⟨rfl,Below.refl _ _⟩
  ·subst g
   have e1:Ieee.double.mul (wordS s 0) (wordS t infW)=none:=by
    unfold Ieee.Format.mul
    rw [zaq,zaj (by decide),wM_is0]
    rfl
   rw [e1]
   refine rs (zsz _ _ s t _ w (fin0 (by decide) rfl) (zap rfl)) ?_
   exact ⟨rfl,Below.refl _ _⟩
  ·subst g
   exact zg1 s t 0 0 w (by decide) (by decide)
  exact zg1 s t 0 q w (by decide) g'
 rcases cls q with g|g|g|⟨g,g'⟩
 ·rw [zd9 (zaI g hq)]
  refine rs (zgb _ _ s t _ _ _ _ w (fin1 h' (by omega)) (zaT hq g)) ?_
  exact ⟨rfl,Below.refl _ _⟩
 ·subst g
  have e1:Ieee.double.mul (wordS s r) (wordS t infW)=some (wordS (s !=t) infW):=by
   unfold Ieee.Format.mul
   rw [zaq,zaj h',<-za4,<-zct]
   show ((if wM r=0 then none else some (Ieee.Datum.infinity (t^^s))):Option Ieee.Datum).map _=_
   rw [if_neg (wM_ne (by omega)),Bool.xor_comm t s]
   rfl
  rw [e1]
  refine rs (zsd _ _ s t _ w (fin1 h' (by omega)) (zap rfl)) ?_
  exact ⟨rfl,Below.refl _ _⟩
 ·subst g
  exact zg1 s t r 0 w h' (by decide)
 exact zg1 s t r q w h' g'
theorem zbU (i:Int):Ieee.double.nearest false 0 i=0:=by
 unfold Ieee.Format.nearest
 rw [if_pos rfl]
 decide+kernel
theorem zpB {s t:Bool} {m n W:Nat} {i j:Int} (hn:n≠0) (h:IsRnd (m*2^(i-j+1074).toNat) (n*2^(-1074-(i-j)).toNat) W):
 (Ieee.Datum.quotient 54 (.number s m i) (.number t n j)).map Ieee.double.write=some (wordS (s !=t) W):=by
 obtain ⟨mag,place,hq⟩:∃ mag place,∀ s t:Bool,Ieee.Datum.quotient 54 (.number s m i) (.number t n j)=some (.number (s^^t) mag place):=by
  unfold Ieee.Datum.quotient
  simp only [hn,if_false]
  exact ⟨_,_,fun s t=>rfl⟩
 rw [hq s t]
 show some (Ieee.double.write (.number (s^^t) mag place))=_
 rw [zb9,zct]
 congr 2
 by_cases hm:m=0
 ·subst hm
  have h0:mag=0:=by
   have h1:=hq false false
   unfold Ieee.Datum.quotient at h1
   simp only [hn,if_false] at h1
   have h2:=congrArg (fun o=>match o with |some (Ieee.Datum.number _ a _)=>a|_=>0) h1
   simp at h2
   exact h2.symm
  rw [h0,zbU]
  rw [Nat.zero_mul] at h
  have h1:IsRnd 0 (n*2^(-1074-(i-j)).toNat) 0:=zbV (Nat.mul_pos (by omega) (Nat.pow_pos (by omega)))
  exact (IsRnd.unique h h1).symm
 have h1:=zkB hm hn (A:=(i-j+1074).toNat) (B:=(-1074-(i-j)).toNat) (by omega) (hq false false)
 have e:Ieee.double.write (.number (false^^false) mag place)=Ieee.double.nearest false mag place:=rfl
 rw [e] at h1
 exact IsRnd.unique h1 h
theorem zlW (s t:Bool) (r q:Nat) (w:World) (hr:r<infW) (hq:q<infW) (hq0:0<q):
 Rb 60 #[.int .u64 (wordS s r:Nat),.int .u64 (wordS t q:Nat)] w (.int .u64 (opW (Ieee.double.div (wordS s r) (wordS t q)):Nat)):=by
 have hC:=finC (s:=t) hq
 rw [decide_eq_false (show ¬ q=0 by omega)] at hC
 refine (zoJ _ _ r q s t _ w (finC hr) hC (zaB (by unfold infW at hr;omega)) (zaB (by unfold infW at hq;omega)) hr hq hq0).mono ?_
 rintro e w' ⟨W,rfl,hW,hb⟩
 have e1:Ieee.double.div (wordS s r) (wordS t q)=some (wordS (s !=t) W):=by
  unfold Ieee.Format.div
  rw [zaj hr,zaj hq]
  exact zpB (wM_ne (by omega)) hW
 rw [e1]
 exact ⟨rfl,hb⟩
theorem zhi {A C:Nat} {s:Bool} {k:Nat} (h:Ieee.double.read A=.nan s k):Ieee.double.div A C=none:=by
 unfold Ieee.Format.div
 rw [h]
 rfl
theorem zet {A C:Nat} {s:Bool} {k:Nat} (h:Ieee.double.read C=.nan s k):Ieee.double.div A C=none:=by
 unfold Ieee.Format.div
 rw [h]
 cases Ieee.double.read A<;>rfl
theorem zhp (s t:Bool) (r q:Nat) (w:World) (hr:r<9223372036854775808) (hq:q<9223372036854775808):
 Rb 60 #[.int .u64 (wordS s r:Nat),.int .u64 (wordS t q:Nat)] w (.int .u64 (opW (Ieee.double.div (wordS s r) (wordS t q)):Nat)):=by
 rcases cls r with h|h|h|⟨h,h'⟩
 ·rw [zhi (zaI h hr)]
  have cC:=wordC (s:=t) hq
  refine rs (zmr _ _ s t _ _ _ _ _ w (zaT hr h) cC) ?_
  exact ⟨rfl,Below.refl _ _⟩
 ·subst h
  rcases cls q with g|g|g|⟨g,g'⟩
  ·rw [zet (zaI g hq)]
   refine rs (zf8 _ _ s t _ _ _ _ w (zap rfl) (zaT hq g)) ?_
   exact ⟨rfl,Below.refl _ _⟩
  ·subst g
   have e1:Ieee.double.div (wordS s infW) (wordS t infW)=none:=by
    unfold Ieee.Format.div
    rw [zaq,zaq]
    rfl
   rw [e1]
   refine rs (zsA _ _ s t _ _ w (zap rfl) (zap rfl)) ?_
   exact ⟨rfl,Below.refl _ _⟩
  ·subst g
   have e1:Ieee.double.div (wordS s infW) (wordS t 0)=some (wordS (s !=t) infW):=by
    unfold Ieee.Format.div
    rw [zaq,zaj (by decide),<-za4,<-zct]
    rfl
   rw [e1]
   refine rs (zmo _ _ s t _ w (zap rfl) (fin0 (by decide) rfl)) ?_
   exact ⟨rfl,Below.refl _ _⟩
  have e1:Ieee.double.div (wordS s infW) (wordS t q)=some (wordS (s !=t) infW):=by
   unfold Ieee.Format.div
   rw [zaq,zaj g',<-za4,<-zct]
   rfl
  rw [e1]
  refine rs (zmo _ _ s t _ w (zap rfl) (fin1 g' (by omega))) ?_
  exact ⟨rfl,Below.refl _ _⟩
 ·subst h
  rcases cls q with g|g|g|⟨g,g'⟩
  ·rw [zet (zaI g hq)]
   refine rs (zf8 _ _ s t _ _ _ _ w (fin0 (by decide) rfl) (zaT hq g)) ?_
   exact ⟨rfl,Below.refl _ _⟩
  ·subst g
   have e1:Ieee.double.div (wordS s 0) (wordS t infW)=some (wordS (s !=t) 0):=by
    unfold Ieee.Format.div
    rw [zaq,zaj (by decide),<-zct]
    show some (Ieee.double.write (.number (s^^t) 0 0))=_
    rw [zb9,zbU]
   rw [e1]
   refine rs (zpU _ _ s t w (fin0 (by decide) rfl) (zap rfl)) ?_
   exact ⟨rfl,Below.refl _ _⟩
  ·subst g
   have e1:Ieee.double.div (wordS s 0) (wordS t 0)=none:=by
    unfold Ieee.Format.div
    rw [zaj (by decide),zaj (by decide),wM_is0]
    rfl
   rw [e1]
   refine rs (zsY _ _ s t w (fin0 (by decide) rfl) (fin0 (by decide) rfl)) ?_
   exact ⟨rfl,Below.refl _ _⟩
  exact zlW s t 0 q w (by decide) g' g
 rcases cls q with g|g|g|⟨g,g'⟩
 ·rw [zet (zaI g hq)]
  refine rs (zf8 _ _ s t _ _ _ _ w (fin1 h' (by omega)) (zaT hq g)) ?_
  exact ⟨rfl,Below.refl _ _⟩
 ·subst g
  have e1:Ieee.double.div (wordS s r) (wordS t infW)=some (wordS (s !=t) 0):=by
   unfold Ieee.Format.div
   rw [zaq,zaj h',<-zct]
   show some (Ieee.double.write (.number (s^^t) 0 0))=_
   rw [zb9,zbU]
  rw [e1]
  refine rs (zrW _ _ s t w (fin1 h' (by omega)) (zap rfl)) ?_
  exact ⟨rfl,Below.refl _ _⟩
 ·subst g
  have e1:Ieee.double.div (wordS s r) (wordS t 0)=some (wordS (s !=t) infW):=by
   unfold Ieee.Format.div
   rw [zaj h',zaj (by decide),wM_is0,<-za4,<-zct]
   have hm:=wM_ne (show r≠0 by omega)
   unfold Ieee.Datum.quotient
   simp only [if_true,hm,if_false]
   rfl
  rw [e1]
  refine rs (zth _ _ s t w (fin1 h' (by omega)) (fin0 (by decide) rfl)) ?_
  exact ⟨rfl,Below.refl _ _⟩
 exact zlW s t r q w h' g' g
theorem twoI (n:Nat) (k:Int) (v:Value) (w:World) (h:Big w v (dig n)) (hl:(dig n).length<=5) (hk0:0<=k) (hk:k<=3000):
 Calls Tryz.prog 129 #[v,.int .i64 k] w fun e w'=>∃ v',e=.returned v'/\Big w' v' (dig (n*2^k.toNat))/\Below w.heap.size w w':=by
 obtain ⟨j,rfl⟩:∃ j:Nat,k=j:=⟨k.toNat,by omega⟩
 have:=zjB n j v w h (by omega)
 have e:((j:Int)).toNat=j:=by omega
 rw [e]
 exact this
def capE:Nat:=2099
theorem zbu {m u:Nat} (hm:m<9007199254740992) (hu:u<=2046):m*2^u<2^capE:=by
 obtain ⟨e,he⟩:∃ e,e=capE:=⟨_,rfl⟩
 have hc:capE=2099:=rfl
 have h1:m*2^u<2^53*2^u:=Nat.mul_lt_mul_of_pos_right hm (Nat.pow_pos (by omega))
 rw [<-Nat.pow_add] at h1
 have h2:2^(53+u)<=2^e:=Nat.pow_le_pow_right (by omega) (by omega)
 rw [<-he]
 exact Nat.lt_of_lt_of_le h1 h2
theorem zrV {n:Nat} (h:n<2^(capE+1)):(dig n).length<=162:=by
 obtain ⟨e,he⟩:∃ e,e=capE+1:=⟨_,rfl⟩
 have hc:capE=2099:=rfl
 rw [<-he] at h
 obtain ⟨k,hk⟩:∃ k,k=162:=⟨_,rfl⟩
 rw [<-hk]
 apply zaA
 have h1:2^e<=2^(13*k):=Nat.pow_le_pow_right (by omega) (by omega)
 rw [Nat.pow_mul] at h1
 exact Nat.lt_of_lt_of_le h (Nat.le_trans h1 (Nat.pow_le_pow_left (by omega) _))
theorem zlY {a b:Nat} (ha:a<2^capE) (hb:b<2^capE):(dig (a+b)).length<=162:=by
 apply zrV
 rw [Nat.pow_succ]
 omega
theorem zbv {a:Nat} (ha:a<2^capE):(dig a).length<=162:=by
 have:=zlY ha (show 0<2^capE from Nat.pow_pos (by omega))
 rwa [Nat.add_zero] at this
theorem zpy (A C r q:Nat) (s t z1 z2:Bool) (w:World) (X Y:Nat) (lo:Int) (hA:FinC A s z1) (hC:FinC C t z2) (hz:(z1&&z2)=false) (hmA:(A:Int)%9223372036854775808=r) (hmC:(C:Int)%9223372036854775808=q) (hr:r<infW) (hq:q<infW)
 (hlo:lo=min (wE r) (wE q)) (hX:X=wM r*2^(wE r-lo).toNat) (hY:Y=wM q*2^(wE q-lo).toNat) (hst:t=s):
 Rb 86 #[.int .u64 A,.int .u64 C] w (.int .u64 (wordS s (Ieee.double.nearest false (X+Y) lo):Nat)):=by
 subst hst
 have GA:=hide hA
 have GC:=hide hC
 have P1:=hide (fun w=>zaw r w hr)
 have P2:=hide (fun w=>zaw q w hq)
 have m1:=wM_lt r
 have m2:=wM_lt q
 have k1:=wK_lt hr
 have k2:=wK_lt hq
 have E1: -1074<=wE r/\wE r<=971:=by unfold wE;omega
 have E2: -1074<=wE q/\wE q<=971:=by unfold wE;omega
 have O1:=hide (fun w=>zbf (wM r) w (by omega))
 have O2:=hide (fun w=>zbf (wM q) w (by omega))
 have L1:(dig (wM r)).length<=5:=zar (by omega)
 have L2:(dig (wM q)).length<=5:=zar (by omega)
 have cX:X<2^capE:=by rw [hX];exact zbu m1 (by omega)
 have cY:Y<2^capE:=by rw [hY];exact zbu m2 (by omega)
 have LX:=zbv cX
 have LY:=zbv cY
 have LT:(dig (X+Y)).length<=162:=zlY cX cY
 have Wd:=hide (fun (vn:Value) (w:World) (hn:Big w vn (dig (X+Y)))=>zcp (X+Y) 1 lo vn _ _ (hn.below ((Below.refl w.heap.size w).alloc (Nat.le_refl _) _)) (zcJ w) (by omega) (by omega) (by have:=zar (n:=1) (by omega);omega) (by omega) (by omega))
 clear hA hC k1 k2 hr hq cX cY
 generalize wM r=a1 at *
 generalize wM q=a2 at *
 generalize wE r=b1 at *
 generalize wE q=b2 at *
 by_cases hbe:b2<b1
 ·have hlo':lo=b2:=by omega
  subst hlo'
  have eX:a1*2^(b1-lo).toNat=X:=by rw [hX]
  have eY:a2*2^((0:Int)).toNat=Y:=by rw [hY];simp
  clear hX hY hlo
  go_enter Tryz.func86,Tryz.ntmps86
  go_wp2_with fail
  refine rs (GA.out.nan _) ?_
  go_wp2_with fail
  refine rs (GC.out.nan _) ?_
  go_wp2_with fail
  refine rs (GA.out.inf _) ?_
  go_wp2_with fail
  refine rs (GC.out.inf _) ?_
  go_wp2_with fail
  refine rs (GA.out.zero _) ?_
  cases z1 with
  |false=>
   go_wp2_with fail
   refine rs (P1.out _) ?_
   go_wp2_with fail
   refine rs (P2.out _) ?_
   go_wp2_with fail
   refine (O1.out _).mono ?_
   rintro e w3 ⟨v3,rfl,hg3,hb3⟩
   go_wp2_with fail
   refine (O2.out _).mono ?_
   rintro e w4 ⟨v4,rfl,hg4,hb4⟩
   have hg3':=hg3.below hb4
   have hb4':=bt hb3 hb4
   have HT1:=hide (fun k h0 h1=>twoI a1 k v3 w4 hg3' L1 h0 h1)
   have HG4:=hide hg4
   have Hb4:=hide hb4'
   clear hg3 hg4 hb3 hb4 hg3' hb4'
   go_wp2_with fail
   refine (HT1.out _ (by omega) (by omega)).mono ?_
   rintro e w5 ⟨v5,rfl,hg5,hb5⟩
   have hg4':=HG4.out.below hb5
   have hb5':=bt Hb4.out hb5
   have HT2:=hide (fun k h0 h1=>twoI a2 k v4 w5 hg4' L2 h0 h1)
   have HG5:=hide hg5
   have Hb5:=hide hb5'
   clear hg5 hb5 hg4' hb5' HT1 HG4
   go_wp2_with fail
   refine (HT2.out _ (by omega) (by omega)).mono ?_
   rintro e w6 ⟨v6,rfl,hg6,hb6⟩
   have hg5':=HG5.out.below hb6
   have hb6':=bt Hb5.out hb6
   have HGX:Hid (Big w6 v5 (dig X)):=hide (by have:=hg5';rw [eX] at this;exact this)
   have HGY:Hid (Big w6 v6 (dig Y)):=hide (by have:=hg6;rw [eY] at this;exact this)
   have Hb6:=hide hb6'
   clear hg5' hg6 hb6 hb6' HT2 HG5
   go_wp2_with fail
   refine rs (GA.out.minor _) ?_
   go_wp2_with fail
   refine rs (GC.out.minor _) ?_
   have HP:=hide (zfr X Y v5 v6 _ HGX.out HGY.out (by omega) (by omega))
   go_wp2_with fail
   refine HP.out.mono ?_
   rintro e w7 ⟨v7,rfl,hg7,hb7⟩
   have Hb7:=hide (bt Hb6.out hb7)
   have Hw:=hide (Wd.out v7 w7 hg7)
   clear hg7 hb7 HP
   go_wp2_with fail
   refine Hw.out.mono ?_
   rintro e w8 ⟨W,rfl,hW,hb8⟩
   have Hb8:=hide (Hb7.out.trans ((zah hb8).mono Hb7.out.size))
   have HWv:=hide (zaH hW)
   have hWle:=zas hW
   have Hs:=hide (fun w=>zal W t w (by unfold infW at hWle;omega))
   clear hb8 hW hWle Hw
   go_wp2_with fail
   refine rs (GA.out.minor _) ?_
   go_wp2_with fail
   refine rs (Hs.out _) ?_
   go_wp2
   go_ret
   exact ⟨by rw [<-HWv.out];rfl,Hb8.out⟩
  |true=>
   obtain rfl:z2=false:=by simpa using hz
   go_wp2_with fail
   refine rs (GC.out.zero _) ?_
   go_wp2_with fail
   refine rs (P1.out _) ?_
   go_wp2_with fail
   refine rs (P2.out _) ?_
   go_wp2_with fail
   refine (O1.out _).mono ?_
   rintro e w3 ⟨v3,rfl,hg3,hb3⟩
   go_wp2_with fail
   refine (O2.out _).mono ?_
   rintro e w4 ⟨v4,rfl,hg4,hb4⟩
   have hg3':=hg3.below hb4
   have hb4':=bt hb3 hb4
   have HT1:=hide (fun k h0 h1=>twoI a1 k v3 w4 hg3' L1 h0 h1)
   have HG4:=hide hg4
   have Hb4:=hide hb4'
   clear hg3 hg4 hb3 hb4 hg3' hb4'
   go_wp2_with fail
   refine (HT1.out _ (by omega) (by omega)).mono ?_
   rintro e w5 ⟨v5,rfl,hg5,hb5⟩
   have hg4':=HG4.out.below hb5
   have hb5':=bt Hb4.out hb5
   have HT2:=hide (fun k h0 h1=>twoI a2 k v4 w5 hg4' L2 h0 h1)
   have HG5:=hide hg5
   have Hb5:=hide hb5'
   clear hg5 hb5 hg4' hb5' HT1 HG4
   go_wp2_with fail
   refine (HT2.out _ (by omega) (by omega)).mono ?_
   rintro e w6 ⟨v6,rfl,hg6,hb6⟩
   have hg5':=HG5.out.below hb6
   have hb6':=bt Hb5.out hb6
   have HGX:Hid (Big w6 v5 (dig X)):=hide (by have:=hg5';rw [eX] at this;exact this)
   have HGY:Hid (Big w6 v6 (dig Y)):=hide (by have:=hg6;rw [eY] at this;exact this)
   have Hb6:=hide hb6'
   clear hg5' hg6 hb6 hb6' HT2 HG5
   go_wp2_with fail
   refine rs (GA.out.minor _) ?_
   go_wp2_with fail
   refine rs (GC.out.minor _) ?_
   have HP:=hide (zfr X Y v5 v6 _ HGX.out HGY.out (by omega) (by omega))
   go_wp2_with fail
   refine HP.out.mono ?_
   rintro e w7 ⟨v7,rfl,hg7,hb7⟩
   have Hb7:=hide (bt Hb6.out hb7)
   have Hw:=hide (Wd.out v7 w7 hg7)
   clear hg7 hb7 HP
   go_wp2_with fail
   refine Hw.out.mono ?_
   rintro e w8 ⟨W,rfl,hW,hb8⟩
   have Hb8:=hide (Hb7.out.trans ((zah hb8).mono Hb7.out.size))
   have HWv:=hide (zaH hW)
   have hWle:=zas hW
   have Hs:=hide (fun w=>zal W t w (by unfold infW at hWle;omega))
   clear hb8 hW hWle Hw
   go_wp2_with fail
   refine rs (GA.out.minor _) ?_
   go_wp2_with fail
   refine rs (Hs.out _) ?_
   go_wp2
   go_ret
   exact ⟨by rw [<-HWv.out];rfl,Hb8.out⟩
 have hlo':lo=b1:=by omega
 subst hlo'
 have eX:a1*2^((0:Int)).toNat=X:=by rw [hX];simp
 have eY:a2*2^(b2-lo).toNat=Y:=by rw [hY]
 clear hX hY hlo
 go_enter Tryz.func86,Tryz.ntmps86
 go_wp2_with fail
 refine rs (GA.out.nan _) ?_
 go_wp2_with fail
 refine rs (GC.out.nan _) ?_
 go_wp2_with fail
 refine rs (GA.out.inf _) ?_
 go_wp2_with fail
 refine rs (GC.out.inf _) ?_
 go_wp2_with fail
 refine rs (GA.out.zero _) ?_
 cases z1 with
 |false=>
  go_wp2_with fail
  refine rs (P1.out _) ?_
  go_wp2_with fail
  refine rs (P2.out _) ?_
  go_wp2_with fail
  refine (O1.out _).mono ?_
  rintro e w3 ⟨v3,rfl,hg3,hb3⟩
  go_wp2_with fail
  refine (O2.out _).mono ?_
  rintro e w4 ⟨v4,rfl,hg4,hb4⟩
  have hg3':=hg3.below hb4
  have hb4':=bt hb3 hb4
  have HT1:=hide (fun k h0 h1=>twoI a1 k v3 w4 hg3' L1 h0 h1)
  have HG4:=hide hg4
  have Hb4:=hide hb4'
  clear hg3 hg4 hb3 hb4 hg3' hb4'
  go_wp2_with fail
  refine (HT1.out _ (by omega) (by omega)).mono ?_
  rintro e w5 ⟨v5,rfl,hg5,hb5⟩
  have hg4':=HG4.out.below hb5
  have hb5':=bt Hb4.out hb5
  have HT2:=hide (fun k h0 h1=>twoI a2 k v4 w5 hg4' L2 h0 h1)
  have HG5:=hide hg5
  have Hb5:=hide hb5'
  clear hg5 hb5 hg4' hb5' HT1 HG4
  go_wp2_with fail
  refine (HT2.out _ (by omega) (by omega)).mono ?_
  rintro e w6 ⟨v6,rfl,hg6,hb6⟩
  have hg5':=HG5.out.below hb6
  have hb6':=bt Hb5.out hb6
  have HGX:Hid (Big w6 v5 (dig X)):=hide (by have:=hg5';rw [eX] at this;exact this)
  have HGY:Hid (Big w6 v6 (dig Y)):=hide (by have:=hg6;rw [eY] at this;exact this)
  have Hb6:=hide hb6'
  clear hg5' hg6 hb6 hb6' HT2 HG5
  go_wp2_with fail
  refine rs (GA.out.minor _) ?_
  go_wp2_with fail
  refine rs (GC.out.minor _) ?_
  have HP:=hide (zfr X Y v5 v6 _ HGX.out HGY.out (by omega) (by omega))
  go_wp2_with fail
  refine HP.out.mono ?_
  rintro e w7 ⟨v7,rfl,hg7,hb7⟩
  have Hb7:=hide (bt Hb6.out hb7)
  have Hw:=hide (Wd.out v7 w7 hg7)
  clear hg7 hb7 HP
  go_wp2_with fail
  refine Hw.out.mono ?_
  rintro e w8 ⟨W,rfl,hW,hb8⟩
  have Hb8:=hide (Hb7.out.trans ((zah hb8).mono Hb7.out.size))
  have HWv:=hide (zaH hW)
  have hWle:=zas hW
  have Hs:=hide (fun w=>zal W t w (by unfold infW at hWle;omega))
  clear hb8 hW hWle Hw
  go_wp2_with fail
  refine rs (GA.out.minor _) ?_
  go_wp2_with fail
  refine rs (Hs.out _) ?_
  go_wp2
  go_ret
  exact ⟨by rw [<-HWv.out];rfl,Hb8.out⟩
 |true=>
  obtain rfl:z2=false:=by simpa using hz
  go_wp2_with fail
  refine rs (GC.out.zero _) ?_
  go_wp2_with fail
  refine rs (P1.out _) ?_
  go_wp2_with fail
  refine rs (P2.out _) ?_
  go_wp2_with fail
  refine (O1.out _).mono ?_
  rintro e w3 ⟨v3,rfl,hg3,hb3⟩
  go_wp2_with fail
  refine (O2.out _).mono ?_
  rintro e w4 ⟨v4,rfl,hg4,hb4⟩
  have hg3':=hg3.below hb4
  have hb4':=bt hb3 hb4
  have HT1:=hide (fun k h0 h1=>twoI a1 k v3 w4 hg3' L1 h0 h1)
  have HG4:=hide hg4
  have Hb4:=hide hb4'
  clear hg3 hg4 hb3 hb4 hg3' hb4'
  go_wp2_with fail
  refine (HT1.out _ (by omega) (by omega)).mono ?_
  rintro e w5 ⟨v5,rfl,hg5,hb5⟩
  have hg4':=HG4.out.below hb5
  have hb5':=bt Hb4.out hb5
  have HT2:=hide (fun k h0 h1=>twoI a2 k v4 w5 hg4' L2 h0 h1)
  have HG5:=hide hg5
  have Hb5:=hide hb5'
  clear hg5 hb5 hg4' hb5' HT1 HG4
  go_wp2_with fail
  refine (HT2.out _ (by omega) (by omega)).mono ?_
  rintro e w6 ⟨v6,rfl,hg6,hb6⟩
  have hg5':=HG5.out.below hb6
  have hb6':=bt Hb5.out hb6
  have HGX:Hid (Big w6 v5 (dig X)):=hide (by have:=hg5';rw [eX] at this;exact this)
  have HGY:Hid (Big w6 v6 (dig Y)):=hide (by have:=hg6;rw [eY] at this;exact this)
  have Hb6:=hide hb6'
  clear hg5' hg6 hb6 hb6' HT2 HG5
  go_wp2_with fail
  refine rs (GA.out.minor _) ?_
  go_wp2_with fail
  refine rs (GC.out.minor _) ?_
  have HP:=hide (zfr X Y v5 v6 _ HGX.out HGY.out (by omega) (by omega))
  go_wp2_with fail
  refine HP.out.mono ?_
  rintro e w7 ⟨v7,rfl,hg7,hb7⟩
  have Hb7:=hide (bt Hb6.out hb7)
  have Hw:=hide (Wd.out v7 w7 hg7)
  clear hg7 hb7 HP
  go_wp2_with fail
  refine Hw.out.mono ?_
  rintro e w8 ⟨W,rfl,hW,hb8⟩
  have Hb8:=hide (Hb7.out.trans ((zah hb8).mono Hb7.out.size))
  have HWv:=hide (zaH hW)
  have hWle:=zas hW
  have Hs:=hide (fun w=>zal W t w (by unfold infW at hWle;omega))
  clear hb8 hW hWle Hw
  go_wp2_with fail
  refine rs (GA.out.minor _) ?_
  go_wp2_with fail
  refine rs (Hs.out _) ?_
  go_wp2
  go_ret
  exact ⟨by rw [<-HWv.out];rfl,Hb8.out⟩
end Go.Proofs.YtamdnnkdnhkghaaGreatDoor
