import Derived.Lib.IndexBytes
import Derived.Laws.RangeAny
import Derived.Laws.RangeString
import Derived.Laws.Runes
import Derived.Laws.Strings3
import Derived.Test.YtamdnnkdnhkghaaGreatDoorQ20
set_option maxHeartbeats 12800000
set_option maxRecDepth 100000
set_option linter.unusedVariables false
namespace Go.Proofs.YtamdnnkdnhkghaaGreatDoor
open Go Go.RowKit
def CutAt (t A B:ByteArray) (w:World):Prop:=Calls Tryz.prog 55 #[.string t,.string ⟨#[46]⟩] w fun e w'=>(∃ f,e=.returned (.tuple #[.string A,.string B,.bool f]))/\∃ n,w'=w.drewN n
theorem zis (A B:ByteArray):(!(A++B).toList.isEmpty)=decide (A.size+B.size≠0):=by
 rw [zci,ByteArray.size_append]
 by_cases h:A.size+B.size=0
 ·rw [h];rfl
 rw [decide_eq_true h,decide_eq_true (by omega)]
theorem zpi (s A B:ByteArray) (w:World) (hs:s.size<=100) (hsA:A.size<=100) (hsB:B.size<=100) (hI:Rb 110 #[.string s,.string ⟨#[101,69]⟩] w (.int .i64 (-1))) (hC:∀ w',Below w.heap.size w w'->CutAt s A B w') (hA:zae (bs A)=false):
 Rb 64 #[.string s] w (.bool (false)):=by
 have HC:=hide hC
 have A1:=fun (w':World)=>zao A w' (by omega)
 rw [hA] at A1
 have HA1:=hide A1
 have HI:=hide hI
 clear hC A1 hI hA
 go_enter Tryz.func64,Tryz.ntmps64
 go_wp2_with fail
 refine rb HI.out fun w1 hb=>?_
 have Hb:=hide hb
 clear hb
 go_wp2_with fail
 refine (HC.out _ Hb.out).mono ?_
 rintro e w2 ⟨⟨f,rfl⟩,q,rfl⟩
 go_wp2_with fail
 refine rs (HA1.out _) ?_
 go_wp2
 go_ret
 exact ⟨rfl,below_drewN Hb.out _⟩
theorem zp8 (s A B:ByteArray) (w:World) (hs:s.size<=100) (hsA:A.size<=100) (hsB:B.size<=100) (hI:Rb 110 #[.string s,.string ⟨#[101,69]⟩] w (.int .i64 (-1))) (hC:∀ w',Below w.heap.size w w'->CutAt s A B w') (hA:zae (bs A)=true) (hB:zae (bs B)=false):
 Rb 64 #[.string s] w (.bool (false)):=by
 have HC:=hide hC
 have A1:=fun (w':World)=>zao A w' (by omega)
 rw [hA] at A1
 have HA1:=hide A1
 have A2:=fun (w':World)=>zao B w' (by omega)
 rw [hB] at A2
 have HA2:=hide A2
 have HI:=hide hI
 clear hC A1 hI hA A2 hB
 go_enter Tryz.func64,Tryz.ntmps64
 go_wp2_with fail
 refine rb HI.out fun w1 hb=>?_
 have Hb:=hide hb
 clear hb
 go_wp2_with fail
 refine (HC.out _ Hb.out).mono ?_
 rintro e w2 ⟨⟨f,rfl⟩,q,rfl⟩
 go_wp2_with fail
 refine rs (HA1.out _) ?_
 go_wp2_with fail
 refine rs (HA2.out _) ?_
 go_wp2
 go_ret
 exact ⟨rfl,below_drewN Hb.out _⟩
theorem zqn (s A B:ByteArray) (w:World) (hs:s.size<=100) (hsA:A.size<=100) (hsB:B.size<=100) (hI:Rb 110 #[.string s,.string ⟨#[101,69]⟩] w (.int .i64 (-1))) (hC:∀ w',Below w.heap.size w w'->CutAt s A B w') (hA:zae (bs A)=true) (hB:zae (bs B)=true):
 Rb 64 #[.string s] w (.bool (decide (A.size+B.size≠0))):=by
 have HC:=hide hC
 have A1:=fun (w':World)=>zao A w' (by omega)
 rw [hA] at A1
 have HA1:=hide A1
 have A2:=fun (w':World)=>zao B w' (by omega)
 rw [hB] at A2
 have HA2:=hide A2
 have HI:=hide hI
 clear hC A1 hI hA A2 hB
 go_enter Tryz.func64,Tryz.ntmps64
 go_wp2_with fail
 refine rb HI.out fun w1 hb=>?_
 have Hb:=hide hb
 clear hb
 go_wp2_with fail
 refine (HC.out _ Hb.out).mono ?_
 rintro e w2 ⟨⟨f,rfl⟩,q,rfl⟩
 go_wp2_with fail
 refine rs (HA1.out _) ?_
 go_wp2_with fail
 refine rs (HA2.out _) ?_
 go_wp2
 go_ret
 refine ⟨?_,below_drewN Hb.out _⟩
 rw [<-zis]
 rfl
theorem zqA (s A B:ByteArray) (w:World) (hs:s.size<=100) (hsA:A.size<=100) (hsB:B.size<=100) (j:Nat) (hj:j<s.size) (hI:Rb 110 #[.string s,.string ⟨#[101,69]⟩] w (.int .i64 j)) (hX:(expS (bs (s.extract (j+1) s.size))).isSome=true) (hC:∀ w',Below w.heap.size w w'->CutAt (s.extract 0 j) A B w') (hA:zae (bs A)=false):
 Rb 64 #[.string s] w (.bool (false)):=by
 have HC:=hide hC
 have A1:=fun (w':World)=>zao A w' (by omega)
 rw [hA] at A1
 have HA1:=hide A1
 have X:=fun (w':World)=>zdW (s.extract (j+1) s.size) w' (by simp;omega)
 rw [hX] at X
 have HX:=hide X
 have hjI:(j:Int)<(s.size:Int):=by omega
 have hjI1:(j:Int)+1<=(s.size:Int):=by omega
 have hjn:((j:Int)+1).toNat=j+1:=by omega
 clear X hX
 have HI:=hide hI
 clear hC A1 hI hA
 go_enter Tryz.func64,Tryz.ntmps64
 go_wp2_with fail
 refine rb HI.out fun w1 hb=>?_
 have Hb:=hide hb
 clear hb
 go_wp2_with fail
 refine rs (HX.out _) ?_
 go_wp2_with fail
 refine (HC.out _ Hb.out).mono ?_
 rintro e w2 ⟨⟨f,rfl⟩,q,rfl⟩
 go_wp2_with fail
 refine rs (HA1.out _) ?_
 go_wp2
 go_ret
 exact ⟨rfl,below_drewN Hb.out _⟩
theorem zpC (s A B:ByteArray) (w:World) (hs:s.size<=100) (hsA:A.size<=100) (hsB:B.size<=100) (j:Nat) (hj:j<s.size) (hI:Rb 110 #[.string s,.string ⟨#[101,69]⟩] w (.int .i64 j)) (hX:(expS (bs (s.extract (j+1) s.size))).isSome=true) (hC:∀ w',Below w.heap.size w w'->CutAt (s.extract 0 j) A B w') (hA:zae (bs A)=true) (hB:zae (bs B)=false):
 Rb 64 #[.string s] w (.bool (false)):=by
 have HC:=hide hC
 have A1:=fun (w':World)=>zao A w' (by omega)
 rw [hA] at A1
 have HA1:=hide A1
 have A2:=fun (w':World)=>zao B w' (by omega)
 rw [hB] at A2
 have HA2:=hide A2
 have X:=fun (w':World)=>zdW (s.extract (j+1) s.size) w' (by simp;omega)
 rw [hX] at X
 have HX:=hide X
 have hjI:(j:Int)<(s.size:Int):=by omega
 have hjI1:(j:Int)+1<=(s.size:Int):=by omega
 have hjn:((j:Int)+1).toNat=j+1:=by omega
 clear X hX
 have HI:=hide hI
 clear hC A1 hI hA A2 hB
 go_enter Tryz.func64,Tryz.ntmps64
 go_wp2_with fail
 refine rb HI.out fun w1 hb=>?_
 have Hb:=hide hb
 clear hb
 go_wp2_with fail
 refine rs (HX.out _) ?_
 go_wp2_with fail
 refine (HC.out _ Hb.out).mono ?_
 rintro e w2 ⟨⟨f,rfl⟩,q,rfl⟩
 go_wp2_with fail
 refine rs (HA1.out _) ?_
 go_wp2_with fail
 refine rs (HA2.out _) ?_
 go_wp2
 go_ret
 exact ⟨rfl,below_drewN Hb.out _⟩
theorem zpg (s A B:ByteArray) (w:World) (hs:s.size<=100) (hsA:A.size<=100) (hsB:B.size<=100) (j:Nat) (hj:j<s.size) (hI:Rb 110 #[.string s,.string ⟨#[101,69]⟩] w (.int .i64 j)) (hX:(expS (bs (s.extract (j+1) s.size))).isSome=true) (hC:∀ w',Below w.heap.size w w'->CutAt (s.extract 0 j) A B w') (hA:zae (bs A)=true) (hB:zae (bs B)=true):
 Rb 64 #[.string s] w (.bool (decide (A.size+B.size≠0))):=by
 have HC:=hide hC
 have A1:=fun (w':World)=>zao A w' (by omega)
 rw [hA] at A1
 have HA1:=hide A1
 have A2:=fun (w':World)=>zao B w' (by omega)
 rw [hB] at A2
 have HA2:=hide A2
 have X:=fun (w':World)=>zdW (s.extract (j+1) s.size) w' (by simp;omega)
 rw [hX] at X
 have HX:=hide X
 have hjI:(j:Int)<(s.size:Int):=by omega
 have hjI1:(j:Int)+1<=(s.size:Int):=by omega
 have hjn:((j:Int)+1).toNat=j+1:=by omega
 clear X hX
 have HI:=hide hI
 clear hC A1 hI hA A2 hB
 go_enter Tryz.func64,Tryz.ntmps64
 go_wp2_with fail
 refine rb HI.out fun w1 hb=>?_
 have Hb:=hide hb
 clear hb
 go_wp2_with fail
 refine rs (HX.out _) ?_
 go_wp2_with fail
 refine (HC.out _ Hb.out).mono ?_
 rintro e w2 ⟨⟨f,rfl⟩,q,rfl⟩
 go_wp2_with fail
 refine rs (HA1.out _) ?_
 go_wp2_with fail
 refine rs (HA2.out _) ?_
 go_wp2
 go_ret
 refine ⟨?_,below_drewN Hb.out _⟩
 rw [<-zis]
 rfl
theorem ztU (s:ByteArray) (w:World) (hs:s.size<=100) (j:Nat) (hj:j<s.size) (hI:Rb 110 #[.string s,.string ⟨#[101,69]⟩] w (.int .i64 j)) (hX:(expS (bs (s.extract (j+1) s.size))).isSome=false):
 Rb 64 #[.string s] w (.bool false):=by
 have X:=fun (w':World)=>zdW (s.extract (j+1) s.size) w' (by simp;omega)
 rw [hX] at X
 have HX:=hide X
 have hjI:(j:Int)<(s.size:Int):=by omega
 have hjI1:(j:Int)+1<=(s.size:Int):=by omega
 have hjn:((j:Int)+1).toNat=j+1:=by omega
 clear X hX
 have HI:=hide hI
 clear hI
 go_enter Tryz.func64,Tryz.ntmps64
 go_wp2_with fail
 refine rb HI.out fun w1 hb=>?_
 have Hb:=hide hb
 clear hb
 go_wp2_with fail
 refine rs (HX.out _) ?_
 go_wp2
 go_ret
 exact ⟨rfl,Hb.out⟩
def b2i (b:UInt8):Int:=((b.toNat:Nat):Int)
theorem zhB (b:UInt8):isE (b2i b)=([101,69]:List UInt8).contains b:=by
 unfold isE b2i
 by_cases h1:b=101
 ·subst h1;decide
 by_cases h2:b=69
 ·subst h2;decide
 have e1:((b.toNat:Nat):Int)≠101:=fun e=>h1 (UInt8.toNat_inj.1 (by show b.toNat=101;omega))
 have e2:((b.toNat:Nat):Int)≠69:=fun e=>h2 (UInt8.toNat_inj.1 (by show b.toNat=69;omega))
 rw [bq e1,bq e2]
 simp [h1,h2]
theorem ix_char:∀ (l:List UInt8),(Lib.indexAny l [101,69]= -1/\∀ c∈l,isE (b2i c)=false)∨∃ a x b,l=a++x::b/\Lib.indexAny l [101,69]=a.length/\isE (b2i x)=true/\∀ c∈a,isE (b2i c)=false
 | []=>.inl ⟨rfl,fun c h=>by cases h⟩
 |c::l=>by
  by_cases hc:isE (b2i c)=true
  ·right
   refine ⟨[],c,l,rfl,?_,hc,fun c h=>by cases h⟩
   rw [zhB] at hc
   rw [Lib.indexAny,if_pos hc]
   rfl
  have hc':isE (b2i c)=false:=by simpa using hc
  have hc2:([101,69]:List UInt8).contains c=false:=by rw [<-zhB];exact hc'
  rcases ix_char l with ⟨h1,h2⟩|⟨a,x,b,h1,h2,h3,h4⟩
  ·left
   refine ⟨by rw [Lib.indexAny,hc2,h1];rfl,fun d hd=>?_⟩
   rcases List.mem_cons.1 hd with rfl|hd
   ·exact hc'
   exact h2 d hd
  right
  refine ⟨c::a,x,b,by rw [h1];rfl,?_,h3,fun d hd=>?_⟩
  ·rw [Lib.indexAny,hc2,h2]
   have:((a.length:Int)== -1)=false:=bq (by omega)
   rw [this]
   simp
  rcases List.mem_cons.1 hd with rfl|hd
  ·exact hc'
  exact h4 d hd
theorem ixb_char:∀ (l:List UInt8),(Lib.indexByte l 46= -1/\∀ c∈l,b2i c≠46)∨∃ a b,l=a++46::b/\Lib.indexByte l 46=a.length/\∀ c∈a,b2i c≠46
 | []=>.inl ⟨rfl,fun c h=>by cases h⟩
 |c::l=>by
  by_cases hc:c=46
  ·subst hc
   exact .inr ⟨[],l,rfl,rfl,fun c h=>by cases h⟩
  have hc':b2i c≠46:=fun e=>hc (UInt8.toNat_inj.1 (by unfold b2i at e;show c.toNat=46;omega))
  have hb:(c==46)=false:=by simpa using hc
  rcases ixb_char l with ⟨h1,h2⟩|⟨a,b,h1,h2,h3⟩
  ·left
   refine ⟨by rw [Lib.indexByte,hb,h1];rfl,fun d hd=>?_⟩
   rcases List.mem_cons.1 hd with rfl|hd
   ·exact hc'
   exact h2 d hd
  right
  refine ⟨c::a,b,by rw [h1];rfl,?_,fun d hd=>?_⟩
  ·rw [Lib.indexByte,hb,h2]
   have:((a.length:Int)== -1)=false:=bq (by omega)
   rw [this]
   simp
  rcases List.mem_cons.1 hd with rfl|hd
  ·exact hc'
  exact h3 d hd
theorem zpS (l:List UInt8):(Lib.cut l [46]=(l,[],false)/\∀ c∈l,b2i c≠46)∨∃ a b,l=a++46::b/\Lib.cut l [46]=(a,b,true)/\∀ c∈a,b2i c≠46:=by
 unfold Lib.cut
 rw [Lib.index_one]
 rcases ixb_char l with ⟨h1,h2⟩|⟨a,b,h1,h2,h3⟩
 ·left;rw [h1];exact ⟨rfl,h2⟩
 right
 refine ⟨a,b,h1,?_,h3⟩
 rw [h2,if_pos (by omega),show ((a.length:Nat):Int).toNat=a.length by omega,h1]
 simp
theorem bs_mk (l:List UInt8):bs ⟨l.toArray⟩=l.map b2i:=rfl
theorem bs_eq (s:ByteArray):bs s=s.data.toList.map b2i:=rfl
theorem zdb (l:List UInt8):(⟨l.toArray⟩:ByteArray).size=l.length:=by show l.toArray.size=_;simp
theorem zdf (s:ByteArray):s.size=s.data.toList.length:=by show s.data.size=_;simp
theorem zrn (t:ByteArray) (m:Int) (w:World) (ht:t.size<=100) (hm:w.cell? ⟨7,0,none⟩=some (.int .i64 m)):
 ∃ A B:ByteArray,A.size<=100/\B.size<=100/\(zae (bs A)&&zae (bs B)&&decide (A.size+B.size≠0))=decM (bs t)/\∀ w',w'.cell? ⟨7,0,none⟩=some (.int .i64 m)->CutAt t A B w':=by
 have hC:=fun (w':World) (h:w'.cell? ⟨7,0,none⟩=some (.int .i64 m))=>Tryz.strings_Cut t ⟨#[46]⟩ m w' (by omega) h
 have ht':t.data.toList.length<=100:=by rw [<-zdf];exact ht
 rcases zpS t.data.toList with ⟨h1,h2⟩|⟨a,b,h1,h2,h3⟩
 ·refine ⟨⟨t.data.toList.toArray⟩,⟨([]:List UInt8).toArray⟩,by rw [zdb];exact ht',by rw [zdb];simp,?_,fun w' h=>?_⟩
  ·rw [bs_mk,bs_mk,zdb,zdb]
   have:=zo5 (a:=t.data.toList.map b2i) (fun c hc=>by obtain ⟨d,hd,rfl⟩:=List.mem_map.1 hc;exact h2 d hd)
   rw [<-this]
   congr 1
   by_cases e:t.data.toList=[]
   ·rw [e];decide
   have e1:t.data.toList.length≠0:=fun hh=>e (List.eq_nil_of_length_eq_zero hh)
   rw [decide_eq_true (by show _+0≠0;omega),decide_eq_true (by rw [List.append_nil];intro hh;exact e (List.map_eq_nil_iff.1 hh))]
  refine (hC w' h).mono ?_
  rintro e w'' ⟨rfl,n,rfl⟩
  refine ⟨⟨false,?_⟩,n,rfl⟩
  rw [show (⟨#[46]⟩:ByteArray).data.toList=[46] from rfl,h1]
 have hl:a.length+(b.length+1)<=100:=by rw [h1,List.length_append,List.length_cons] at ht';exact ht'
 refine ⟨⟨a.toArray⟩,⟨b.toArray⟩,by rw [zdb];omega,by rw [zdb];omega,?_,fun w' h=>?_⟩
 ·rw [bs_mk,bs_mk,zdb,zdb,bs_eq,h1,List.map_append,List.map_cons]
  have:=zqg (a:=a.map b2i) (b:=b.map b2i) (fun c hc=>by obtain ⟨d,hd,rfl⟩:=List.mem_map.1 hc;exact h3 d hd)
  rw [show b2i 46=46 from rfl,<-this]
  congr 1
  by_cases e:a.length+b.length=0
  ·have ea:a=[]:=List.eq_nil_of_length_eq_zero (by omega)
   have eb:b=[]:=List.eq_nil_of_length_eq_zero (by omega)
   rw [ea,eb];decide
  rw [decide_eq_true e,decide_eq_true]
  intro hh
  have:=congrArg List.length hh
  rw [List.length_append,List.length_map,List.length_map] at this
  exact e this
 refine (hC w' h).mono ?_
 rintro e w'' ⟨rfl,n,rfl⟩
 refine ⟨⟨true,?_⟩,n,rfl⟩
 rw [show (⟨#[46]⟩:ByteArray).data.toList=[46] from rfl,h2]
def isDec (l:List UInt8):Bool:=
 if Lib.indexAny l [101,69]= -1 then decM (l.map b2i)
 else (expS ((l.drop ((Lib.indexAny l [101,69]).toNat+1)).map b2i)).isSome&&decM ((l.take (Lib.indexAny l [101,69]).toNat).map b2i)
theorem zpd (s:ByteArray) (m:Int) (w:World) (hs:s.size<=100) (h3:7<w.heap.size) (hm:w.cell? ⟨7,0,none⟩=some (.int .i64 m))
 (hI:Rb 110 #[.string s,.string ⟨#[101,69]⟩] w (.int .i64 (Lib.indexAny s.data.toList [101,69]))):
 Rb 64 #[.string s] w (.bool (isDec s.data.toList)):=by
 have hcell:∀ w',Below w.heap.size w w'->w'.cell? ⟨7,0,none⟩=some (.int .i64 m):=fun w' hb=>(hb.cell (show 7<w.heap.size from h3)).trans hm
 rcases ix_char s.data.toList with ⟨h1,h2⟩|⟨a,x,b,h1,h2,h4,h5⟩
 ·have hr:isDec s.data.toList=decM (bs s):=by unfold isDec;rw [if_pos h1];rfl
  rw [h1] at hI
  rw [hr]
  obtain ⟨A,B,hA,hB,hR,hC⟩:=zrn s m w hs hm
  rw [<-hR]
  have hC':=fun w' hb=>hC w' (hcell w' hb)
  cases ha:zae (bs A) with
  |false=>exact zpi s A B w hs hA hB hI hC' ha
  |true=>
   cases hb:zae (bs B) with
   |false=>exact zp8 s A B w hs hA hB hI hC' ha hb
   |true=>exact zqn s A B w hs hA hB hI hC' ha hb
 have hj:a.length<s.size:=by rw [zdf,h1,List.length_append,List.length_cons];omega
 have ej:((a.length:Nat):Int).toNat=a.length:=by omega
 have eX:bs (s.extract (a.length+1) s.size)=(s.data.toList.drop (a.length+1)).map b2i:=by
  rw [zcG,bs_eq,List.map_drop,List.take_of_length_le]
  rw [List.length_drop,List.length_map,<-zdf]
  exact Nat.le_refl _
 have eM:bs (s.extract 0 a.length)=(s.data.toList.take a.length).map b2i:=by
  rw [zcG,bs_eq,List.map_take,List.drop_zero,Nat.sub_zero]
 have hr:isDec s.data.toList=((expS (bs (s.extract (a.length+1) s.size))).isSome&&decM (bs (s.extract 0 a.length))):=by
  unfold isDec
  rw [if_neg (by rw [h2];omega),h2,ej,eX,eM]
 rw [h2] at hI
 rw [hr]
 cases hx:(expS (bs (s.extract (a.length+1) s.size))).isSome with
 |false=>exact ztU s w hs a.length hj hI hx
 |true=>
  rw [Bool.true_and]
  obtain ⟨A,B,hA,hB,hR,hC⟩:=zrn (s.extract 0 a.length) m w (by simp;omega) hm
  rw [<-hR]
  have hC':=fun w' hb=>hC w' (hcell w' hb)
  cases ha:zae (bs A) with
  |false=>exact zqA s A B w hs hA hB a.length hj hI hx hC' ha
  |true=>
   cases hb:zae (bs B) with
   |false=>exact zpC s A B w hs hA hB a.length hj hI hx hC' ha hb
   |true=>exact zpg s A B w hs hA hB a.length hj hI hx hC' ha hb
def IdxAny:Prop:=∀ (s:ByteArray) (w:World),s.size<=100->Rb 110 #[.string s,.string ⟨#[101,69]⟩] w (.int .i64 (Lib.indexAny s.data.toList [101,69]))
structure Env (w:World) (G o P po C co:Nat) (ev:Value) (m:Int):Prop where
 vars:Vars w G o P po C co
 er:w.cell? ⟨9,0,none⟩=some ev
 er2:ev=.nilIface∨∃ te pe,ev=.iface te pe
 ml:w.cell? ⟨7,0,none⟩=some (.int .i64 m)
theorem Vars.below {w w':World} {G o P po C co:Nat} (h:Vars w G o P po C co) (hb:Below w.heap.size w w'):Vars w' G o P po C co:=by
 have h12:=h.h12
 have hsz:=hb.size
 have c:∀ {x:Addr},x.block<w.heap.size->w'.cell? x=w.cell? x:=fun hx=>hb.cell hx
 exact ⟨⟨by omega,Nat.lt_of_lt_of_le h.tabs.hG hsz,(c (by show 14<_;omega)).trans h.tabs.mant,(c (by show 19<_;omega)).trans h.tabs.slice,fun k hk=>(c h.tabs.hG).trans (h.tabs.tens k hk),fun i hi=>(c (by show 20<_;omega)).trans (h.tabs.rows0 i hi),fun i hi=>(c (by show 20<_;omega)).trans (h.tabs.rows1 i hi)⟩,
  by omega,Nat.lt_of_lt_of_le h.hP hsz,(c (by show 12<_;omega)).trans h.opt,(c (by show 14<_;omega)).trans h.expb,(c (by show 14<_;omega)).trans h.bias,(c (by show 18<_;omega)).trans h.slice,fun k hk=>(c h.hP).trans (h.tab k hk),h.cheats.below hb h12 h.cheats.hG⟩
theorem Env.below {w w':World} {G o P po C co:Nat} {ev:Value} {m:Int} (h:Env w G o P po C co ev m) (hb:Below w.heap.size w w'):Env w' G o P po C co ev m:=by
 have h12:=h.vars.h12
 exact ⟨h.vars.below hb,(hb.cell (by show 9<_;omega)).trans h.er,h.er2,(hb.cell (by show 7<_;omega)).trans h.ml⟩
theorem zeP (w:World):Below w.heap.size w (resW w):=(Below.refl _ _).alloc (Nat.le_refl _) _
theorem zjf (s:ByteArray) (k b p G o P po C co:Nat) (ds:List Int) (x:Int) (ev:Value) (m:Int) (w:World) (hT:Txt s k ds b p x) (hE:Env w G o P po C co ev m):
 ∀ w',Below w.heap.size w w'->Calls Tryz.prog 67 #[.string s,.int .i64 64] w' fun e w''=>SpfR (dval ds) (x-b) w' e w'':=by
 intro w' hb
 have hE':=hE.below hb
 have h12:=hE'.vars.h12
 exact zrO _ _ s w' ev hT.hs (by omega) hE'.er hE'.er2 (ztS s k b p G o P po C co ds x w' hT hE'.vars)
theorem zeY {m:List Int} (h:m.all isDP=true):zae m=true↔(dscan m).2.2=0:=by
 obtain ⟨h1,h2⟩:=zbz m
 rw [h2]
 constructor
 ·intro hd
  refine List.count_eq_zero.2 (fun hc=>?_)
  have:=zfD hc
  rw [hd] at this
  cases this
 intro hc
 rw [<-zkM (fun c hc' e=>List.count_eq_zero.1 hc (e ▸ hc'))]
 exact h
theorem zi8 {m:List Int} (h:zae m=true):(dscan m).1=m:=by
 obtain ⟨h1,h2⟩:=zbz m
 rw [h1]
 refine List.filter_eq_self.2 (fun c hc=>?_)
 have:c≠46:=fun e=>by
  have:=zfD (e ▸ hc)
  rw [h] at this
  cases this
 simp [this]
theorem zuJ (hX:IdxAny) (s:ByteArray) (G o P po C co:Nat) (ev:Value) (m:Int) (w:World) (hs:s.size<=100) (hE:Env w G o P po C co ev m):
 Calls Tryz.prog 35 #[.string s] w fun e w'=>∃ r,e=.returned r/\DecR (bs s) r/\Below w.heap.size w w':=by
 have h12:=hE.vars.h12
 have hE1:=hE.below (zeP w)
 have hsz:=(zeP w).size
 have hD:=zpd s m (resW w) hs (by omega) hE1.ml (hX s (resW w) hs)
 rcases ix_char s.data.toList with ⟨h1,h2⟩|⟨a,y,b,h1,h2,h4,h5⟩
 ·have hr:isDec s.data.toList=decM (bs s):=by unfold isDec;rw [if_pos h1];rfl
  rw [hr] at hD
  have hEs:∀ c∈bs s,isE c=false:=fun c hc=>by obtain ⟨d,hd,rfl⟩:=List.mem_map.1 hc;exact h2 d hd
  cases hm:decM (bs s) with
  |false=>
   rw [hm] at hD
   refine rb (pd_no s w hD) fun w' hb=>?_
   exact ⟨_,rfl,zpD hEs hm,hb⟩
  |true=>
   rw [hm] at hD
   have hall:=(zd8 hm).1
   have hT:=zq9 (s:=s) (m:=bs s) (r:=[]) (x:=0) hs (by rw [List.append_nil]) hm (.inl ⟨rfl,rfl⟩)
   have h0:0<s.size:=by have:=hT.k0;rw [zad] at this;omega
   have hml:mlen (bs s++[])=(bs s).length:=by rw [List.append_nil];exact zha hall
   have hS:=zjf s _ _ _ G o P po C co _ _ ev m w hT hE
   cases had:zae (bs s) with
   |true=>
    have e1:=zi8 had
    have e2:=(zeY hall).1 had
    by_cases hN:dval (bs s)<9223372036854775808
    ·refine rb (zu2 s w hs h0 hD had hN) fun w' hb=>?_
     refine ⟨_,rfl,?_,hb⟩
     have:=zfc (x:=0) (v:=.tuple #[numV false (dval (bs s)) 0,.bool true]) hm hml (.inl ⟨rfl,rfl⟩) (by rw [e1,if_pos ⟨rfl,e2,hN⟩])
     rwa [List.append_nil] at this
    refine (zt6 s _ _ w hs h0 hD had hN ev (by omega) hE.er hE.er2 hS).mono ?_
    rintro e w' ⟨r,rfl,hf,hb⟩
    refine ⟨_,rfl,?_,hb⟩
    have:=zfc (x:=0) (v:=r) hm hml (.inl ⟨rfl,rfl⟩) (by rw [e1,if_neg (fun hh=>hN hh.2.2)];rw [e1] at hf;exact hf)
    rwa [List.append_nil] at this
   |false=>
    refine (zrj s _ _ w hs h0 hD had hS).mono ?_
    rintro e w' ⟨r,rfl,hf,hb⟩
    refine ⟨_,rfl,?_,hb⟩
    have:=zfc (x:=0) (v:=r) hm hml (.inl ⟨rfl,rfl⟩) (by
     rw [if_neg (fun hh=>by have:=(zeY hall).2 hh.2.1;rw [had] at this;cases this)]
     exact hf)
    rwa [List.append_nil] at this
 have ej:((a.length:Nat):Int).toNat=a.length:=by omega
 have hl:bs s=a.map b2i++b2i y::b.map b2i:=by rw [bs_eq,h1,List.map_append,List.map_cons]
 have hr:isDec s.data.toList=((expS (b.map b2i)).isSome&&decM (a.map b2i)):=by
  unfold isDec
  rw [if_neg (by rw [h2];omega),h2,ej,h1]
  congr 3
  ·rw [show a.length+1=(a++[y]).length by simp,show a++y::b=(a++[y])++b by simp,List.drop_left]
  rw [List.take_left]
 rw [hr] at hD
 have hEs:∀ c∈a.map b2i,isE c=false:=fun c hc=>by obtain ⟨d,hd,rfl⟩:=List.mem_map.1 hc;exact h5 d hd
 rw [hl]
 cases hm:(decM (a.map b2i)&&(expS (b.map b2i)).isSome) with
 |false=>
  rw [Bool.and_comm,hm] at hD
  refine rb (pd_no s w hD) fun w' hb=>?_
  exact ⟨_,rfl,zuO hEs h4 hm,hb⟩
 |true=>
  rw [Bool.and_comm,hm] at hD
  rw [Bool.and_eq_true] at hm
  obtain ⟨hm1,hm2⟩:=hm
  obtain ⟨x,hx⟩:=Option.isSome_iff_exists.1 hm2
  have hx':expV (b2i y::b.map b2i)=some x:=by rw [zqV h4];exact hx
  have hT:=zq9 (s:=s) (m:=a.map b2i) (r:=b2i y::b.map b2i) (x:=x) hs hl hm1 (.inr ⟨by simp,hx'⟩)
  have h0:0<s.size:=by have:=hT.k0;have:=hT.hk;omega
  have hml:mlen (a.map b2i++b2i y::b.map b2i)=(a.map b2i).length:=zf4 (zd8 hm1).1 (znZ h4)
  have hS:=zjf s _ _ _ G o P po C co _ _ ev m w hT hE
  have had:zae (bs s)=false:=by
   cases hh:zae (bs s) with
   |false=>rfl
   |true=>
    unfold zae at hh
    rw [List.all_eq_true] at hh
    have h7:=hh (b2i y) (by rw [hl];simp)
    have h8:=znZ h4
    unfold isDP at h8
    rw [h7] at h8
    cases h8
  refine (zrj s _ _ w hs h0 hD had hS).mono ?_
  rintro e w' ⟨r,rfl,hf,hb⟩
  exact ⟨_,rfl,zfc hm1 hml (.inr ⟨by simp,hx'⟩) (by rw [if_neg (fun hh=>by cases hh.1)];exact hf),hb⟩
theorem zoo (s:ByteArray) (w:World) (hs:100<s.size) (hr:s.size<=140737488351232):
 Rb 13 #[.string s] w zeroR:=by
 go_enter Tryz.func13,Tryz.ntmps13
 go_wp2
 refine bodyPost_ret (v:=zeroR) (by simp [results,Tryz.results13,go_sem,numV,zeroR]) rfl ⟨rfl,?_⟩
 exact (Below.refl _ _).alloc (Nat.le_refl _) _
theorem zmh (s:ByteArray) (w:World) (hs:s.size<=100) (hx:1<s.size)
 (hq1:Lib.hasPrefix s.data.toList [48,120]=true∨(Lib.hasPrefix s.data.toList [48,120]=false/\Lib.hasPrefix s.data.toList [48,88]=true)):
 Rb 13 #[.string s] w (hexR (s.extract 2 s.size)):=by
 have hsz:(s.extract 2 s.size).size<=100:=by simp;omega
 have P1:=fun (w':World)=>Tryz.strings_HasPrefix s ⟨#[48,120]⟩ w'
 have P2:=fun (w':World)=>Tryz.strings_HasPrefix s ⟨#[48,88]⟩ w'
 have hx2:(2:Int)<=(s.size:Int):=by omega
 rcases hq1 with hq1|⟨hq1,hq2⟩
 ·have P1':∀ w',Rs 33 #[.string s,.string ⟨#[48,120]⟩] w' (.bool true):=fun w'=>by
   have:=P1 w'
   rw [show (⟨#[48,120]⟩:ByteArray).data.toList=[48,120] from rfl,hq1] at this
   exact this
  have H1:=hide P1'
  clear P1 P2 P1' hq1
  go_enter Tryz.func13,Tryz.ntmps13
  go_wp2_with fail
  refine rs (H1.out _) ?_
  go_wp2_with fail
  refine rb (zf1 (s.extract 2 s.size) _ hsz) fun w1 hb=>?_
  have hb':Below (w.heap.size+1) (w.alloc (.cells #[.bool false,.int .i64 0,.int .u64 0] 26)) w1:=hb.mono (by simp)
  obtain ⟨c0,c1,c2,f0,f1,f2⟩:=resC hb'
  obtain ⟨x,ok,hh⟩:∃ x ok,hexR (s.extract 2 s.size)=.tuple #[.agg #[.bool false,.int .i64 x,.int .u64 0],.bool ok]:=⟨_,_,by unfold hexR numV;exact Eq.refl _⟩
  have Hh:=hide hh
  rw [hh]
  clear hh
  go_wp2
  refine bodyPost_ret (v:=.tuple #[.agg #[.bool false,.int .i64 x,.int .u64 0],.bool ok]) ?_ rfl ⟨by rw [Hh.out],?_⟩
  ·simp [results,Tryz.results13,go_sem,c0,c1,c2]
  refine Below.setCell (Below.setCell (Below.setCell (zab hb') ?_ _) ?_ _) ?_ _
  all_goals simp
 have P1':∀ w',Rs 33 #[.string s,.string ⟨#[48,120]⟩] w' (.bool false):=fun w'=>by
  have:=P1 w'
  rw [show (⟨#[48,120]⟩:ByteArray).data.toList=[48,120] from rfl,hq1] at this
  exact this
 have P2':∀ w',Rs 33 #[.string s,.string ⟨#[48,88]⟩] w' (.bool true):=fun w'=>by
  have:=P2 w'
  rw [show (⟨#[48,88]⟩:ByteArray).data.toList=[48,88] from rfl,hq2] at this
  exact this
 have H1:=hide P1'
 have H2:=hide P2'
 clear P1 P2 P1' P2' hq1 hq2
 go_enter Tryz.func13,Tryz.ntmps13
 go_wp2_with fail
 refine rs (H1.out _) ?_
 go_wp2_with fail
 refine rs (H2.out _) ?_
 go_wp2_with fail
 refine rb (zf1 (s.extract 2 s.size) _ hsz) fun w1 hb=>?_
 have hb':Below (w.heap.size+1) (w.alloc (.cells #[.bool false,.int .i64 0,.int .u64 0] 26)) w1:=hb.mono (by simp)
 obtain ⟨c0,c1,c2,f0,f1,f2⟩:=resC hb'
 obtain ⟨x,ok,hh⟩:∃ x ok,hexR (s.extract 2 s.size)=.tuple #[.agg #[.bool false,.int .i64 x,.int .u64 0],.bool ok]:=⟨_,_,by unfold hexR numV;exact Eq.refl _⟩
 have Hh:=hide hh
 rw [hh]
 clear hh
 go_wp2
 refine bodyPost_ret (v:=.tuple #[.agg #[.bool false,.int .i64 x,.int .u64 0],.bool ok]) ?_ rfl ⟨by rw [Hh.out],?_⟩
 ·simp [results,Tryz.results13,go_sem,c0,c1,c2]
 refine Below.setCell (Below.setCell (Below.setCell (zab hb') ?_ _) ?_ _) ?_ _
 all_goals simp
def zhc (r:Value):Prop:=∃ (f:Bool) (i u:Int) (ok:Bool),r=.tuple #[.agg #[.bool f,.int .i64 i,.int .u64 u],.bool ok]
theorem zeroR_form:zhc zeroR:=⟨false,0,0,false,rfl⟩
theorem zbj.form {N:Nat} {E:Int} {r:Value} (h:zbj N E r):zhc r:=by
 obtain ⟨W,_,rfl⟩:=h
 split
 ·exact zeroR_form
 exact ⟨_,_,_,_,rfl⟩
theorem DecR.form {l:List Int} {r:Value} (h:DecR l r):zhc r:=by
 unfold DecR at h
 split at h
 ·rw [h];exact zeroR_form
 split at h
 ·rw [h];exact ⟨_,_,_,_,rfl⟩
 split at h
 ·rw [h];exact zeroR_form
 exact h.form
theorem PNR.form {s:ByteArray} {r:Value} (h:PNR s r):zhc r:=by
 unfold PNR at h
 split at h
 ·rw [h];exact zeroR_form
 split at h
 ·rw [h];exact ⟨_,_,_,_,rfl⟩
 exact h.form
theorem zr4 (hX:IdxAny) (s:ByteArray) (G o P po C co:Nat) (ev:Value) (m:Int) (w:World) (hs:s.size<=100) (hE:Env w G o P po C co ev m)
 (hq1:Lib.hasPrefix s.data.toList [48,120]=false) (hq2:Lib.hasPrefix s.data.toList [48,88]=false):
 Calls Tryz.prog 13 #[.string s] w fun e w'=>∃ r,e=.returned r/\DecR (bs s) r/\Below w.heap.size w w':=by
 have P1':∀ w',Rs 33 #[.string s,.string ⟨#[48,120]⟩] w' (.bool false):=fun w'=>by
  have:=Tryz.strings_HasPrefix s ⟨#[48,120]⟩ w'
  rw [show (⟨#[48,120]⟩:ByteArray).data.toList=[48,120] from rfl,hq1] at this
  exact this
 have P2':∀ w',Rs 33 #[.string s,.string ⟨#[48,88]⟩] w' (.bool false):=fun w'=>by
  have:=Tryz.strings_HasPrefix s ⟨#[48,88]⟩ w'
  rw [show (⟨#[48,88]⟩:ByteArray).data.toList=[48,88] from rfl,hq2] at this
  exact this
 have D:=zuJ hX s G o P po C co ev m (resW w) hs (hE.below (zeP w))
 have H1:=hide P1'
 have H2:=hide P2'
 have HD:=hide D
 clear P1' P2' hq1 hq2 D hE hX
 go_enter Tryz.func13,Tryz.ntmps13
 go_wp2_with fail
 refine rs (H1.out _) ?_
 go_wp2_with fail
 refine rs (H2.out _) ?_
 go_wp2_with fail
 refine HD.out.mono ?_
 rintro e w1 ⟨r,rfl,hr,hb⟩
 have hb':Below (w.heap.size+1) (w.alloc (.cells #[.bool false,.int .i64 0,.int .u64 0] 26)) w1:=hb.mono (by simp)
 obtain ⟨c0,c1,c2,f0,f1,f2⟩:=resC hb'
 have Hr:=hide hr
 obtain ⟨f,i,u,ok,rfl⟩:=hr.form
 clear hr
 go_wp2
 refine bodyPost_ret (v:=.tuple #[.agg #[.bool f,.int .i64 i,.int .u64 u],.bool ok]) ?_ rfl ⟨_,rfl,Hr.out,?_⟩
 ·simp [results,Tryz.results13,go_sem,c0,c1,c2]
 refine Below.setCell (Below.setCell (Below.setCell (zab hb') ?_ _) ?_ _) ?_ _
 all_goals simp
theorem zi2 (l:List UInt8) (c d:UInt8):Lib.hasPrefix l [c,d]=(decide (1<l.length)&&l.getD 0 0==c&&l.getD 1 0==d):=by
 unfold Lib.hasPrefix
 match l with
 | []=>rfl
 | [x]=>simp [List.isPrefixOf]
 |x::y::r=>
  simp only [List.isPrefixOf,Bool.and_true,List.length_cons]
  rw [decide_eq_true (by omega),Bool.true_and]
  show (c==x&&d==y)=(x==c&&y==d)
  rw [Bool.beq_comm (a:=c),Bool.beq_comm (a:=d)]
theorem zlf (s:ByteArray):zcv (bs s)=(Lib.hasPrefix s.data.toList [48,120]||Lib.hasPrefix s.data.toList [48,88]):=by
 rw [zi2,zi2,bs_eq]
 unfold zcv
 generalize s.data.toList=l
 have hb:∀ (x:UInt8) (n:Nat) (hn:n<256),(b2i x==(n:Int))=(x==UInt8.ofNat n):=by
  intro x n hn
  unfold b2i
  by_cases e:x=UInt8.ofNat n
  ·subst e
   simp
   omega
  have:((x.toNat:Nat):Int)≠(n:Int):=fun h=>e (UInt8.toNat_inj.1 (by simp;omega))
  rw [bq this]
  simp [e]
 match l with
 | []=>rfl
 | [x]=>simp
 |x::y::r=>
  show (decide (1<((x::y::r).map b2i).length)&&(b2i x==48)&&((b2i y==120)||(b2i y==88)))=(decide (1<(x::y::r).length)&&(x==48)&&(y==120)||decide (1<(x::y::r).length)&&(x==48)&&(y==88))
  have e1:(b2i x==48)=(x==48):=hb x 48 (by omega)
  have e2:(b2i y==120)=(y==120):=hb y 120 (by omega)
  have e3:(b2i y==88)=(y==88):=hb y 88 (by omega)
  rw [List.length_map,e1,e2,e3,decide_eq_true (by simp),Bool.true_and,Bool.and_or_distrib_left]
theorem zlz (hX:IdxAny) (s:ByteArray) (G o P po C co:Nat) (ev:Value) (m:Int) (w:World) (hr:s.size<=140737488351232) (hE:Env w G o P po C co ev m):
 Calls Tryz.prog 13 #[.string s] w fun e w'=>∃ r,e=.returned r/\PNR s r/\Below w.heap.size w w':=by
 by_cases hl:100<s.size
 ·refine rb (zoo s w hl hr) fun w' hb=>?_
  exact ⟨_,rfl,by unfold PNR;rw [if_pos hl],hb⟩
 have hs:s.size<=100:=by omega
 have hp:=zlf s
 have hlen:∀ c d,Lib.hasPrefix s.data.toList [c,d]=true->1<s.size:=by
  intro c d h
  rw [zi2,Bool.and_eq_true,Bool.and_eq_true,decide_eq_true_eq,<-zdf] at h
  exact h.1.1
 cases h1:Lib.hasPrefix s.data.toList [48,120] with
 |true=>
  rw [h1,Bool.true_or] at hp
  refine rb (zmh s w hs (hlen _ _ h1) (.inl h1)) fun w' hb=>?_
  exact ⟨_,rfl,by unfold PNR;rw [if_neg hl,if_pos hp],hb⟩
 |false=>
  cases h2:Lib.hasPrefix s.data.toList [48,88] with
  |true=>
   rw [h1,h2,Bool.false_or] at hp
   refine rb (zmh s w hs (hlen _ _ h2) (.inr ⟨h1,h2⟩)) fun w' hb=>?_
   exact ⟨_,rfl,by unfold PNR;rw [if_neg hl,if_pos hp],hb⟩
  |false=>
   rw [h1,h2,Bool.false_or] at hp
   refine (zr4 hX s G o P po C co ev m w hs hE h1 h2).mono ?_
   rintro e w' ⟨r,rfl,hd,hb⟩
   exact ⟨_,rfl,by unfold PNR;rw [if_neg hl,if_neg (by rw [hp];decide)];exact hd,hb⟩
def eE:ByteArray:=⟨#[101,69]⟩
theorem zgI (w:World) (s:ByteArray) (i:Nat):Below w.heap.size w (w.iter s i):=(Below.refl _ _).alloc (Nat.le_refl _) _
theorem zoN (w:World):Rb 160 #[.string eE,.int .i32 65533] w (.int .i64 (-1)):=by
 have n0:∀ ty,(Instr.next (.pointer (some ⟨w.heap.size,0,none⟩)) true ty).run Tryz.prog (w.iter eE 0)=.ok (.tuple #[.bool true,.int .i64 0,.int .i32 101]) (w.iter eE 1):=fun ty=>run_next_ascii (P:=Tryz.prog) w eE 0 ty (by decide) (by decide)
 have n1:∀ ty,(Instr.next (.pointer (some ⟨w.heap.size,0,none⟩)) true ty).run Tryz.prog (w.iter eE 1)=.ok (.tuple #[.bool true,.int .i64 1,.int .i32 69]) (w.iter eE 2):=fun ty=>run_next_ascii (P:=Tryz.prog) w eE 1 ty (by decide) (by decide)
 have n2:=fun ty=>run_next_end (P:=Tryz.prog) w eE 2 ty (by decide)
 go_enter Tryz.func160,Tryz.ntmps160
 go_wp2
 go_loopg [5,6] 2 (fun g _ _ wx=>∃ i:Nat,i+g=2/\wx=w.iter eE i)
 case atStart=>exact ⟨0,by omega,rfl⟩
 obtain ⟨i,hig,rfl⟩:=hrel
 rcases (show i=0∨i=1∨i=2 by omega) with rfl|rfl|rfl
 ·go_wp2
  go_roundg 1
  case rel=>exact ⟨1,by omega,rfl⟩
  case measure=>omega
 ·go_wp2
  go_roundg 0
  case rel=>exact ⟨2,by omega,rfl⟩
  case measure=>omega
 go_wp2
 go_ret
 exact ⟨rfl,zgI _ _ _⟩
theorem zt7 (r:Int) (w:World) (h1:128<=r) (h2:r≠65533) (hv:Lib.validRune r=false):Rb 160 #[.string eE,.int .i32 r] w (.int .i64 (-1)):=by
 have V:=fun (w':World)=>Tryz.utf8_ValidRune r w'
 rw [hv] at V
 have HV:=hide V
 have hne:(r==65533)=false:=bq h2
 clear V hv h2
 go_enter Tryz.func160,Tryz.ntmps160
 go_wp2_with fail
 refine rs (HV.out _) ?_
 go_wp2
 go_ret
 exact ⟨rfl,Below.refl _ _⟩
theorem zsl (r:Int) (w:World) (h1:128<=r) (h2:r≠65533) (hv:Lib.validRune r=true) (hu:Utf8.valid r=true):Calls Tryz.prog 160 #[.string eE,.int .i32 r] w fun e w'=>e=.returned (.int .i64 (-1))/\Below w.heap.size w w':=by
 have V:=fun (w':World)=>Tryz.utf8_ValidRune r w'
 rw [hv] at V
 have HV:=hide V
 have hne:(r==65533)=false:=bq h2
 obtain ⟨f1,f2,f3⟩:=encode_facts r hu h1
 obtain ⟨rs,hrs⟩:∃ rs,Utf8.encode r=rs:=⟨_,rfl⟩
 simp only [hrs] at f1 f2 f3
 have f3':=f3 (by omega)
 have f1I:(2:Int)<=(rs.size:Int):=by omega
 have f2I:(rs.size:Int)<=4:=by omega
 have hlast:((rs.size:Int)-1).toNat=rs.size-1:=by omega
 clear V hv h2 hu f3
 go_enter Tryz.func160,Tryz.ntmps160
 go_wp2_with fail
 refine (HV.out _).mono ?_
 rintro e w' ⟨rfl,rfl⟩
 go_wp2
 go_step3
 go_wp2
 have hsz:eE.size=2:=rfl
 by_cases c2:rs.size=2
 ·have c2I:(rs.size:Int)=2:=by omega
  have B:∀ (c:Int) (w':World),Calls Tryz.prog 193 #[.string ByteArray.empty,.int .u8 c] w' fun e w''=>e=.returned (.int .i64 (-1))/\∃ m,w''=w'.drewN m:=fun c w'=>by
   refine (Tryz.strings_IndexByte ByteArray.empty c w').mono ?_
   rintro e w'' ⟨rfl,rfl⟩
   exact ⟨rfl,0,rfl⟩
  have HB:=hide B
  have hw2:IntKind.i64.wrap 2=2:=by decide
  have hlt1:rs.size-1=1:=by omega
  have hl1:1<rs.size:=by omega
  have hlb:128<=(rs[1]'hl1).toNat:=by
   have:=f3'
   simp only [hlt1] at this
   exact this
  have hneb:((69:Int)==(((rs[1]'hl1).toNat:Nat):Int))=false:=bq (by omega)
  have he1:(((eE[1]'(by decide)).toNat:Nat):Int)=69:=rfl
  clear f3' B hlast hlt1
  go_loopg [9,10] 0 (fun g iv fv wx=>iv=.int .i64 1/\wx=w')
  case atStart=>exact ⟨by simp [c2I],rfl⟩
  case round=>
   obtain ⟨rfl,rfl⟩:=hrel
   go_wp2
   go_step3
   go_wp2
   go_quiet (fail)
   go_wp2_with fail
   generalize hwz:World.drewN wr nq=wz
   have Hwz:=hide hwz
   clear hwz
   go_quiet ((go_at_call 193;exact Calls.quiet_of (HB.out _ _)))
   go_wp2
   simp only [Exit.noGoto_ret,Exit.inBlock,Exit.then]
   go_ret
   exact ⟨rfl,below_drewN (by rw [<-Hwz.out];exact below_drewN (Below.refl _ _) _) _⟩
 ·have c3I:(3:Int)<=(rs.size:Int):=by omega
  go_loopg [9,10] 0 (fun g iv fv wx=>iv=.int .i64 ((rs.size:Int)-1)/\wx=w')
  case atStart=>exact ⟨rfl,rfl⟩
  case round=>
   obtain ⟨rfl,rfl⟩:=hrel
   have h2I:(2:Int)<=(rs.size:Int)-1:=by omega
   go_wp2
   rw [Exit.noGoto_ret]
   go_ret
   exact ⟨rfl,Below.refl _ _⟩
theorem ztO (r:Int) (w:World) (h1:128<=r):Rb 160 #[.string eE,.int .i32 r] w (.int .i64 (-1)):=by
 by_cases h2:r=65533
 ·subst h2;exact zoN w
 cases hv:Lib.validRune r with
 |false=>exact zt7 r w h1 h2 hv
 |true=>
  refine zsl r w h1 h2 hv ?_
  unfold Lib.validRune at hv
  rw [decide_eq_true_eq] at hv
  unfold Utf8.valid
  simp
  omega
def stepW (wx:World) (b:Nat) (s:ByteArray) (p:Nat):World:={ wx with heap:=wx.heap.setIfInBounds b (.stringIter s p) }
theorem zgs {wx:World} {b:Nat} {s:ByteArray} {p q:Nat} (h:wx.heap[b]?=some (.stringIter s q)):(stepW wx b s p).heap[b]?=some (.stringIter s p):=by
 have hb:b<wx.heap.size:=by
  rcases Nat.lt_or_ge b wx.heap.size with g|g
  ·exact g
  rw [Array.getElem?_eq_none g] at h;cases h
 show (wx.heap.setIfInBounds b (.stringIter s p))[b]?=_
 rw [Array.getElem?_setIfInBounds_self_of_lt hb]
theorem zfI {w wx:World} {b B:Nat} {s:ByteArray} {p:Nat} (h:Below B w wx) (hb:B<=b):Below B w (stepW wx b s p):=by
 refine ⟨h.os,h.tape,h.output,?_,fun k hk=>?_⟩
 ·show w.heap.size<=(wx.heap.setIfInBounds b (.stringIter s p)).size
  rw [Array.size_setIfInBounds]
  exact h.size
 show (wx.heap.setIfInBounds b (.stringIter s p))[k]?=_
 rw [Array.getElem?_setIfInBounds_ne (by omega)]
 exact h.block k hk
theorem ziw {P:Program} (wx:World) (b:Nat) (s:ByteArray) (pos:Nat) (ty:TypeId) (hb:wx.heap[b]?=some (.stringIter s pos)) (h:pos<s.size):
 (Instr.next (.pointer (some ⟨b,0,none⟩)) true ty).run P wx=.ok (.tuple #[.bool true,.int .i64 pos,.int .i32 (Utf8.decode s pos).1]) (stepW wx b s (pos+(Utf8.decode s pos).2)):=by
 simp only [Instr.next,getObj,setObj,Sem.run_bind,Sem.run,hb,Result.andThen,h,if_true]
 simp [goInt,stepW]
theorem zhC {P:Program} (wx:World) (b:Nat) (s:ByteArray) (pos:Nat) (ty:TypeId) (hb:wx.heap[b]?=some (.stringIter s pos)) (h:¬ pos<s.size):
 (Instr.next (.pointer (some ⟨b,0,none⟩)) true ty).run P wx=.ok (.tuple #[.bool false]) wx:=by
 simp [Instr.next,getObj,Sem.run,hb,h]
theorem ztv {s:ByteArray} {k:Nat} (h:k<s.size):s.get! k=s[k]:=by
 simp [ByteArray.get!,getElem!_pos,h]
 rfl
theorem zjo (s:ByteArray) (pos:Nat) (h:pos<s.size) (ha:128<=(s[pos]'h).toNat):
 1<=(Utf8.decode s pos).2/\pos+(Utf8.decode s pos).2<=s.size/\∀ j,j<(Utf8.decode s pos).2->128<=(s.get! (pos+j)).toNat:=by
 have h0:128<=(s.get! (pos+0)).toNat:=by rw [get_at s pos h];exact ha
 have hn:¬ (s[pos]'h).toNat<128:=by omega
 have key:∀ d:Nat × Nat,d=Utf8.decode s pos->1<=d.2/\pos+d.2<=s.size/\∀ j,j<d.2->128<=(s.get! (pos+j)).toNat:=by
  intro d hd
  have one:∀ j,j<1->128<=(s.get! (pos+j)).toNat:=fun j hj=>by rw [show j=0 by omega];exact h0
  simp only [Utf8.decode,get_at s pos h,hn,if_false] at hd
  split at hd
  ·rename_i c
   simp only [Bool.and_eq_true,decide_eq_true_eq,beq_iff_eq] at c
   split at hd
   ·subst hd
    refine ⟨by show 1<=2;omega,by show pos+2<=_;omega,fun j hj=>?_⟩
    rcases (show j=0∨j=1 by have:j<2:=hj;omega) with rfl|rfl
    ·exact h0
    omega
   subst hd;exact ⟨Nat.le_refl _,by show pos+1<=_;omega,one⟩
  split at hd
  ·rename_i c
   simp only [Bool.and_eq_true,decide_eq_true_eq,beq_iff_eq] at c
   split at hd
   ·subst hd
    refine ⟨by show 1<=3;omega,by show pos+3<=_;omega,fun j hj=>?_⟩
    rcases (show j=0∨j=1∨j=2 by have:j<3:=hj;omega) with rfl|rfl|rfl
    ·exact h0
    ·omega
    omega
   subst hd;exact ⟨Nat.le_refl _,by show pos+1<=_;omega,one⟩
  split at hd
  ·rename_i c
   simp only [Bool.and_eq_true,decide_eq_true_eq,beq_iff_eq] at c
   split at hd
   ·subst hd
    refine ⟨by show 1<=4;omega,by show pos+4<=_;omega,fun j hj=>?_⟩
    rcases (show j=0∨j=1∨j=2∨j=3 by have:j<4:=hj;omega) with rfl|rfl|rfl|rfl
    ·exact h0
    ·omega
    ·omega
    omega
   subst hd;exact ⟨Nat.le_refl _,by show pos+1<=_;omega,one⟩
  subst hd;exact ⟨Nat.le_refl _,by show pos+1<=_;omega,one⟩
 exact key _ rfl
theorem eE_list:eE.data.toList=[101,69]:=rfl
theorem zlx {s:ByteArray} {i d:Nat} (h:Lib.NoAny s.data.toList [101,69] i) (hd:i+d<=s.size) (hb:∀ j,j<d->128<=(s.get! (i+j)).toNat):Lib.NoAny s.data.toList [101,69] (i+d):=by
 intro j b hj hjb
 by_cases e:j<i
 ·exact h j b e hjb
 have hlt:j<s.size:=by omega
 have h1:=hb (j-i) (by omega)
 rw [show i+(j-i)=j by omega,ztv hlt] at h1
 have h2:s.data.toList[j]?=some s[j]:=Lib.data_getElem? s j hlt
 rw [h2] at hjb
 have h3:s[j]=b:=Option.some.inj hjb
 rw [h3] at h1
 rw [<-zhB]
 unfold isE b2i
 rw [bq (by omega),bq (by omega)]
 rfl
theorem zqo (s:ByteArray) (w:World) (h8:s.size<=8):
 Rb 110 #[.string s,.string eE] w (.int .i64 (Lib.indexAny s.data.toList [101,69])):=by
 have hemp:eE.toList.isEmpty=false:=zcU (by decide)
 have hsz:eE.size=2:=rfl
 have U:=fun (w':World)=>Tryz.strings_shouldUseASCIISet (s.size:Int) w'
 have h8z:decide ((8:Int)<(s.size:Int))=false:=decide_eq_false (by omega)
 rw [h8z] at U
 have HU:=hide U
 clear U h8z
 go_enter Tryz.func110,Tryz.ntmps110
 go_wp2_with fail
 refine (HU.out _).mono ?_
 rintro e w0 ⟨rfl,rfl⟩
 go_wp2
 go_loopg [9,10] s.size (fun g _ _ wx=>∃ i:Nat,i+g=s.size/\Hid (wx.heap[w0.heap.size]?=some (.stringIter s i))/\Hid (Below w0.heap.size w0 wx)/\Hid (Lib.NoAny s.data.toList [101,69] i))
 case atStart=>exact ⟨0,by omega,hide (World.iter_heap _ _ _),hide (zgI _ _ _),hide (Lib.NoAny.zero _ _)⟩
 obtain ⟨i,hig,Hh,Hb,HN⟩:=hrel
 by_cases hlt:i<s.size
 ·have hnx:=fun ty=>ziw (P:=Tryz.prog) wr w0.heap.size s i ty Hh.out hlt
  by_cases ha:(s[i]'hlt).toNat<128
  ·rw [decode_ascii s i hlt ha] at hnx
   simp only at hnx
   have Hst:=hide (zgs (p:=i+1) Hh.out)
   have Hsb:=hide (zfI (s:=s) (p:=i+1) Hb.out (Nat.le_refl _))
   obtain ⟨x,hx⟩:∃ x:UInt8,s[i]'hlt=x:=⟨_,rfl⟩
   have hxl:s.data.toList[i]?=some x:=by rw [<-hx];exact Lib.data_getElem? s i hlt
   have Hx:=hide hxl
   rw [hx] at ha hnx
   clear hx hxl
   have R:=fun (w':World)=>Tryz.strings_IndexRune_ascii eE ((x.toNat:Nat):Int) w' (by omega) (by omega)
   have hback:(((x.toNat:Nat):Int)).toNat.toUInt8=x:=by simp
   rw [hback,eE_list] at R
   have hcon:=Lib.contains_iff_indexByte [101,69] x
   have HR:=hide R
   clear R hback
   generalize stepW wr w0.heap.size s (i+1)=ws at *
   cases hin:([101,69]:List UInt8).contains x with
   |false=>
    rw [hin] at hcon
    have hlt0:¬ ((0:Int)<=Lib.indexByte [101,69] x):=of_decide_eq_false hcon.symm
    have Hin:=hide hin
    clear hcon hin
    go_wp2_with fail
    refine (HR.out _).mono ?_
    rintro e w2 ⟨rfl,rfl⟩
    go_wp2
    go_roundg (gk-1)
    case rel=>exact ⟨i+1,by omega,Hst,Hsb,hide (HN.out.succ Hx.out Hin.out)⟩
    case measure=>omega
   |true=>
    rw [hin] at hcon
    have hge:(0:Int)<=Lib.indexByte [101,69] x:=of_decide_eq_true hcon.symm
    have HI:=hide (Lib.indexAny_hit HN.out Hx.out hin)
    clear hcon hin
    go_wp2_with fail
    refine (HR.out _).mono ?_
    rintro e w2 ⟨rfl,rfl⟩
    go_wp2
    go_ret
    exact ⟨by rw [HI.out];rfl,Hsb.out⟩
  have ha':128<=(s[i]'hlt).toNat:=by omega
  obtain ⟨d1,d2,d3⟩:=zjo s i hlt ha'
  have hhi:=(decode_high s i hlt ha').1
  have hle:=decode_le s i
  have Hst:=hide (zgs (p:=i+(Utf8.decode s i).2) Hh.out)
  have Hsb:=hide (zfI (s:=s) (p:=i+(Utf8.decode s i).2) Hb.out (Nat.le_refl _))
  have HN2:=hide (zlx HN.out d2 d3)
  generalize (Utf8.decode s i).2=wd at *
  generalize (Utf8.decode s i).1=rn at *
  generalize stepW wr w0.heap.size s (i+wd)=ws at *
  have R:=ztO (rn:Int) ws (by omega)
  have HR:=hide R
  clear R d3
  have hrI:(rn:Int)<=2147483647:=by omega
  go_wp2_with fail
  refine rb (HR.out) fun w2 hb2=>?_
  have Hst2:Hid (w2.heap[w0.heap.size]?=some (.stringIter s (i+wd))):=hide (by
   have hlt2:w0.heap.size<ws.heap.size:=by
    rcases Nat.lt_or_ge w0.heap.size ws.heap.size with g|g
    ·exact g
    have:=Hst.out;rw [Array.getElem?_eq_none g] at this;cases this
   rw [hb2.block _ hlt2]
   exact Hst.out)
  have Hb3:=hide (bt Hsb.out hb2)
  clear hb2
  go_wp2
  go_roundg (gk-wd)
  case rel=>exact ⟨i+wd,by omega,Hst2,Hb3,HN2⟩
  case measure=>omega
 have hnx:=fun ty=>zhC (P:=Tryz.prog) wr w0.heap.size s i ty Hh.out hlt
 have HR:Hid (Lib.indexAny s.data.toList [101,69]= -1):=hide (Lib.indexAny_none (by rw [<-zdf,show s.size=i by omega];exact HN.out))
 go_wp2
 go_ret
 exact ⟨by rw [HR.out];rfl,Hb.out⟩
theorem z68:Tryz.zeroCells162=Array.replicate 256 (Value.bool false):=by kernel_rfl
theorem idx_any:IdxAny:=by
 intro s w hs
 by_cases h8:s.size<=8
 ·exact zqo s w h8
 refine (Tryz.strings_IndexAny_long (fun w'=>by rw [Tryz.zeroValue162 w',z68]) s ⟨#[101,69]⟩ w (by decide) (by omega) (by omega) (by decide) (fun j b hj=>?_)).mono ?_
 ·match j,hj with
  |0,hj=>cases hj;decide
  |1,hj=>cases hj;decide
  |j+2,hj=>cases hj
 rintro e w' ⟨rfl,rfl⟩
 exact ⟨rfl,((Below.refl _ _).alloc (Nat.le_refl _) _).alloc (by simp) _⟩
end Go.Proofs.YtamdnnkdnhkghaaGreatDoor
