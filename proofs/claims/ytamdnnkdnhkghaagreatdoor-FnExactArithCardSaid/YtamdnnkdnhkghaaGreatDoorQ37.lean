import Derived.Test.YtamdnnkdnhkghaaGreatDoorQ36
set_option maxHeartbeats 12800000
set_option maxRecDepth 100000
set_option linter.unusedVariables false
namespace Go.Proofs.YtamdnnkdnhkghaaGreatDoor
open Go Go.RowKit
theorem zhw (k:Nat):strL (List.replicate k 48)++⟨#[48]⟩=strL (List.replicate (k+1) 48):=by
 rw [List.replicate_succ',<-zai]
 rfl
theorem zdk (n:Nat) (w:World) (hn:n<=1000):Rs 93 #[.int .i64 n] w (.string (strL (List.replicate n 48))):=by
 go_enter Tryz.func93,Tryz.ntmps93
 go_wp2
 go_loop [3,4] (fun ov kv=>∃ k:Nat,ov=.string (strL (List.replicate k 48))/\kv=.int .i64 k/\k<=n) (fun _ kv=>n-(intOf kv).toNat)
 case atStart=>exact ⟨0,rfl,rfl,by omega⟩
 obtain ⟨k,rfl,rfl,hk⟩:=hrel
 have hsz:=zat (List.replicate k 48)
 rw [List.length_replicate] at hsz
 have Hs:=hide (zhw k)
 by_cases hlt:k<n
 ·go_wp2
  go_round
  case rel=>exact ⟨k+1,by rw [<-Hs.out],by go_num,by omega⟩
  case measure=>simp [intOf];omega
 obtain rfl:k=n:=by omega
 go_wp2
 go_ret
 exact ⟨rfl,rfl⟩
theorem zqK {w:World} {v:Value} {L:List Int} (h:∀ z∈L,0<=z/\z<256) (hb:Byt w v L):(convert 29 9 v).run Tryz.prog w=.ok (.string (strL L)) w:=by
 refine zdB ?_
 rw [zfU h]
 exact hb
theorem zlj (w:World):Rs 49 #[.int .u64 0] w (.string (strL [48,46,48])):=by
 have HZ:=hide (zdk 0 w (by omega))
 go_enter Tryz.func49,Tryz.ntmps49
 go_wp2_with fail
 go_loop [3] (fun dv=>dv=.string ⟨#[48]⟩) (fun _=>0)
 case atStart=>rfl
 subst hrel
 go_wp2_with fail
 refine rs HZ.out ?_
 go_wp2
 go_ret
 exact ⟨rfl,rfl⟩
theorem ziF {k:Nat} (h:k<10):48::decL k=expL k:=by
 rw [zbp h,zfZ h,Nat.mod_eq_of_lt h,Int.add_comm]
theorem zdl {k:Nat} (h:¬ k<10) (h2:k<1000):decL k=expL k:=by
 by_cases h3:k<100
 ·rw [zcz h,zbp (by omega),zge h h3]
  have e1:(48+((k/10%10:Nat):Int))=(k:Int)/10+48:=by omega
  have e2:(48+((k%10:Nat):Int))=(k:Int)%10+48:=by omega
  rw [e1,e2]
  rfl
 rw [zcz h,zcz (by omega),zbp (by omega),zfM h h3]
 have e0:(48+((k/10/10%10:Nat):Int))=(k:Int)/100+48:=by omega
 have e1:(48+((k/10%10:Nat):Int))=(k:Int)/10%10+48:=by omega
 have e2:(48+((k%10:Nat):Int))=(k:Int)%10+48:=by omega
 rw [e0,e1,e2]
 rfl
theorem zfv {k:Nat} (h:¬ k<10) (h2:k<1000):2<=(decL k).length/\(decL k).length<=3:=by
 rw [zdl h h2]
 exact zfn k
theorem zop (k:Nat):(⟨(Lib.itoa (k:Int)).toArray⟩:ByteArray)=strL (decL k):=by
 unfold strL
 congr 2
 unfold decL txtB Lib.itoa
 rw [if_neg (by omega),List.map_map,Int.toNat_natCast]
 conv=>lhs;rw [<-List.map_id (Lib.decDigits k)]
 apply List.map_congr_left
 intro b _
 simp
theorem zdu (k:Nat) (w:World) (hk:k<1000):Rb 38 #[.int .i64 k] w (.string (strL (decL k))):=by
 refine rb (znO k w (by omega) (by omega)) fun w' hb=>?_
 rw [zop]
 exact ⟨rfl,hb⟩
theorem zhL (d:Nat):(strL (digL d 1)).extract 0 1=strL (mantL d 1):=by
 rw [zbc]
 rfl
theorem zfC {d n:Nat} (h:2<=n):(strL (digL d n)).extract 0 1++(⟨#[46]⟩++(strL (digL d n)).extract 1 n)=strL (mantL d n):=by
 rw [zbc,zbc,zb5 h,List.drop_zero]
 have e1:(digL d n).take (1-0)=[dgA d n 0]:=by
  rw [zen (by omega)]
  rfl
 have e2:((digL d n).drop 1).take (n-1)=(digL d n).drop 1:=zd2
 rw [e1,e2,List.append_assoc,<-zai,<-zai]
 rfl
theorem zqU {d n k:Nat} (h:16<k) (M:ByteArray) (hM:M=strL (mantL d n)) (E:ByteArray) (hE:E=strL (expL k)):strL (FT d n (k:Int))=M++⟨#[101]⟩++⟨#[43]⟩++E:=by
 unfold FT
 rw [if_pos (by omega),zfy,<-zai,<-zai,<-zai,hM,hE]
 rfl
theorem zkh {d n k:Nat} (h:5<k) (M:ByteArray) (hM:M=strL (mantL d n)) (E:ByteArray) (hE:E=strL (expL k)):strL (FT d n (-(k:Int)))=M++⟨#[101]⟩++⟨#[45]⟩++E:=by
 unfold FT
 rw [if_pos (by omega),ze8 (by omega),<-zai,<-zai,<-zai,hM,hE]
 rfl
theorem zqQ {d n z:Nat} {X:Int} (h1: -5<=X) (h2:X<0) (hz:(z:Int)= -X-1):strL (FT d n X)=⟨#[48,46]⟩++strL (List.replicate z 48)++strL (digL d n):=by
 unfold FT zdo
 have e:(-X-1).toNat=z:=by omega
 rw [if_neg (by omega),if_pos h2,e,<-zai,<-zai]
 rfl
theorem zl8 {d n z:Nat} {X:Int} (h1:X<=16) (h2:0<=X) (h3:(n:Int)<=X+1) (hz:(z:Int)=X+1-n):strL (FT d n X)=strL (digL d n)++strL (List.replicate z 48)++⟨#[46,48]⟩:=by
 unfold FT zdo
 rw [zaa]
 have e:(X+1-(n:Int)).toNat=z:=by omega
 rw [if_neg (by omega),if_neg (by omega),if_neg (by omega),e,<-zai,<-zai]
 rfl
theorem ztL {d n k:Nat} (h1:k<=16) (h3:k+1<n):strL (FT d n (k:Int))=(strL (digL d n)).extract 0 (k+1)++⟨#[46]⟩++(strL (digL d n)).extract (k+1) n:=by
 unfold FT zdo
 rw [zaa]
 have e:((k:Int)+1).toNat=k+1:=by omega
 rw [if_neg (by omega),if_neg (by omega),if_pos (by omega),e,<-zai,<-zai,zbc,zbc,List.drop_zero,Nat.sub_zero]
 have e2:((digL d n).drop (k+1)).take (n-(k+1))=(digL d n).drop (k+1):=List.take_of_length_le (by rw [List.length_drop,zaa];omega)
 rw [e2]
 rfl
theorem zrC {d n j:Nat} (hj:j<n) (h:j<(strL (digL d n)).size):(((strL (digL d n))[j]'h).toNat:Int)=dgA d n j:=by
 have hl:j<(digL d n).length:=by rw [zaa];exact hj
 have h1:(strL (digL d n))[j]'h=UInt8.ofNat ((digL d n)[j]'hl).toNat:=by
  show ((txtB (digL d n)).toArray)[j]'_=_
  simp [txtB]
 have h2:(digL d n)[j]'hl=dgA d n j:=by
  have:=za3 (d:=d) (n:=n) hj
  rw [zaz hl] at this
  exact this
 have hr:=zcf d n j
 rw [h1,h2]
 simp
 omega
theorem znp (r c:Nat) (w:World) (hc:c=1074) (h0:0<r) (hr:r<infW):
 Calls Tryz.prog 49 #[.int .u64 r] w fun e w'=>∃ L,e=.returned (.string (strL L))/\MagT r c L/\Below w.heap.size w w':=by
 have HS:=hide (fun w=>zkQ r c w hc h0 hr)
 have h0':(0:Int)<(r:Int):=by omega
 go_enter Tryz.func49,Tryz.ntmps49
 go_wp2_with fail
 refine (HS.out _).mono ?_
 rintro e w1 ⟨n,d,q,v,rfl,hbyt,hfirst,hX1,hX2,hb1⟩
 have hn1:=hfirst.n1
 have hn17:=hfirst.n17
 have Hlast:=hide hfirst.last
 have Hb1:=hide hb1
 have HX:Hid (∀ X:Int,X=(n:Int)-1-q->∀ w',Below w.heap.size w w'->∃ L,Ending.returned (.string (strL (FT d n X)))=.returned (.string (strL L))/\MagT r c L/\Below w.heap.size w w'):=hide (fun X hX w' hb=>⟨_,by rw [hX],.inr ⟨h0,n,d,q,hfirst,rfl⟩,hb⟩)
 obtain ⟨X,hX⟩:∃ X,X=(n:Int)-1-q:=⟨_,rfl⟩
 rw [<-hX] at hX1 hX2 ⊢
 have HX:=hide (HX.out X hX)
 have hcv:=zqK (fun z hz=>by have:=zcd z hz;omega) hbyt
 have hsz:=zat (digL d n)
 rw [zaa] at hsz
 have Hat:Hid (2<=n->∀ h:n-1<(strL (digL d n)).size,¬ ((((strL (digL d n))[n-1]'h).toNat:Nat):Int)=48):=hide (fun h2 h=>by
  rw [zrC (by omega),zcs,Nat.sub_self,Nat.pow_zero,Nat.div_one]
  have:=Hlast.out h2
  omega)
 obtain ⟨S,hS⟩:∃ S,S=strL (digL d n):=⟨_,rfl⟩
 rw [<-hS] at hcv hsz
 have HSS:=hide hS
 have Hat:Hid (2<=n->∀ h:n-1<S.size,¬ (((S[n-1]'h).toNat:Nat):Int)=48):=hide (by subst hS;exact Hat.out)
 clear hb1 hX hfirst hc h0 hr HS hS hbyt Hlast
 go_wp2_with fail
 go_loop [3] (fun dv=>dv=.string S) (fun _=>0)
 case atStart=>rfl
 subst hrel
 by_cases hn:n=1
 ·subst hn
  clear Hat
  have hways:X< -9∨(-9<=X/\X< -5)∨16<X∨(-5<=X/\X<0)∨(0<=X/\X<=16/\((1:Nat):Int)<=X+1):=by omega
  rcases hways with hx|⟨hx,hx'⟩|hx|⟨hx,hx'⟩|⟨hx,hx',hx''⟩
  ·obtain ⟨k,rfl⟩:∃ k:Nat,X= -(k:Int):=⟨(-X).toNat,by omega⟩
   have HD:=hide (zdu k w1 (by omega))
   have hTs:=zat (decL k)
   have hT2:=zfv (k:=k) (by omega) (by omega)
   have Htx:Hid (∀ M,M=strL (mantL d 1)->strL (FT d 1 (-(k:Int)))=M++⟨#[101]⟩++⟨#[45]⟩++strL (decL k)):=hide (fun M hM=>zkh (by omega) M hM _ (by rw [zdl (by omega) (by omega)]))
   obtain ⟨T,hT⟩:∃ T,T=strL (decL k):=⟨_,rfl⟩
   rw [<-hT] at HD Htx hTs
   clear hT
   obtain ⟨m,hm⟩:∃ m,m=(decL k).length:=⟨_,rfl⟩
   rw [<-hm] at hTs hT2
   clear hm
   have Hm:Hid ((S.extract 0 1)=strL (mantL d 1)):=hide (by rw [HSS.out];exact zhL d)
   have Htx:=hide (Htx.out _ Hm.out)
   clear Hm
   go_wp2_with fail
   refine rb HD.out fun w2 hb2=>?_
   have Hb2:=hide (bt Hb1.out hb2)
   clear hb2 HD
   go_wp2
   go_ret
   have h:=HX.out _ Hb2.out
   rw [Htx.out] at h
   exact h
  ·obtain ⟨k,rfl⟩:∃ k:Nat,X= -(k:Int):=⟨(-X).toNat,by omega⟩
   have HD:=hide (zdu k w1 (by omega))
   have hTs:=zat (decL k)
   have hT2:(decL k).length=1:=by rw [zbp (by omega)];rfl
   rw [hT2] at hTs
   clear hT2
   have Htx:Hid (∀ M,M=strL (mantL d 1)->strL (FT d 1 (-(k:Int)))=M++⟨#[101]⟩++⟨#[45]⟩++(⟨#[48]⟩++strL (decL k))):=hide (fun M hM=>zkh (by omega) M hM _ (by rw [<-ziF (by omega)];exact zai [48] (decL k)))
   obtain ⟨T,hT⟩:∃ T,T=strL (decL k):=⟨_,rfl⟩
   rw [<-hT] at HD Htx hTs
   clear hT
   have Hm:Hid ((S.extract 0 1)=strL (mantL d 1)):=hide (by rw [HSS.out];exact zhL d)
   have Htx:=hide (Htx.out _ Hm.out)
   clear Hm
   go_wp2_with fail
   refine rb HD.out fun w2 hb2=>?_
   have Hb2:=hide (bt Hb1.out hb2)
   clear hb2 HD
   go_wp2
   go_ret
   have h:=HX.out _ Hb2.out
   rw [Htx.out] at h
   exact h
  ·obtain ⟨k,rfl⟩:∃ k:Nat,X=(k:Int):=⟨X.toNat,by omega⟩
   have HD:=hide (zdu k w1 (by omega))
   have hTs:=zat (decL k)
   have hT2:=zfv (k:=k) (by omega) (by omega)
   have Htx:Hid (∀ M,M=strL (mantL d 1)->strL (FT d 1 (k:Int))=M++⟨#[101]⟩++⟨#[43]⟩++strL (decL k)):=hide (fun M hM=>zqU (by omega) M hM _ (by rw [zdl (by omega) (by omega)]))
   obtain ⟨T,hT⟩:∃ T,T=strL (decL k):=⟨_,rfl⟩
   rw [<-hT] at HD Htx hTs
   clear hT
   obtain ⟨m,hm⟩:∃ m,m=(decL k).length:=⟨_,rfl⟩
   rw [<-hm] at hTs hT2
   clear hm
   have Hm:Hid ((S.extract 0 1)=strL (mantL d 1)):=hide (by rw [HSS.out];exact zhL d)
   have Htx:=hide (Htx.out _ Hm.out)
   clear Hm
   go_wp2_with fail
   refine rb HD.out fun w2 hb2=>?_
   have Hb2:=hide (bt Hb1.out hb2)
   clear hb2 HD
   go_wp2
   go_ret
   have h:=HX.out _ Hb2.out
   rw [Htx.out] at h
   exact h
  ·obtain ⟨z,hz⟩:∃ z:Nat,(z:Int)= -X-1:=⟨(-X-1).toNat,by omega⟩
   have HZ:=hide (zdk z w1 (by omega))
   have hTs:=zat (List.replicate z 48)
   rw [List.length_replicate] at hTs
   have Htx:Hid (strL (FT d 1 X)=⟨#[48,46]⟩++strL (List.replicate z 48)++S):=hide (by rw [HSS.out];exact zqQ (by omega) (by omega) hz)
   obtain ⟨T,hT⟩:∃ T,T=strL (List.replicate z 48):=⟨_,rfl⟩
   rw [<-hT] at HZ Htx hTs
   rw [hz] at HZ
   clear hT
   have hz17:z<=17:=by omega
   clear hz
   go_wp2_with fail
   refine HZ.out.mono ?_
   rintro e w2 ⟨rfl,rfl⟩
   go_wp2
   go_ret
   have h:=HX.out _ Hb1.out
   rw [Htx.out] at h
   exact h
  obtain ⟨z,hz⟩:∃ z:Nat,(z:Int)=X:=⟨X.toNat,by omega⟩
  have HZ:=hide (zdk z w1 (by omega))
  have hTs:=zat (List.replicate z 48)
  rw [List.length_replicate] at hTs
  have Htx:Hid (strL (FT d 1 X)=S++strL (List.replicate z 48)++⟨#[46,48]⟩):=hide (by rw [HSS.out];exact zl8 (by omega) (by omega) (by omega) (by omega))
  obtain ⟨T,hT⟩:∃ T,T=strL (List.replicate z 48):=⟨_,rfl⟩
  rw [<-hT] at HZ Htx hTs
  rw [hz] at HZ
  clear hT
  have hz17:z<=17:=by omega
  clear hz
  go_wp2_with fail
  refine HZ.out.mono ?_
  rintro e w2 ⟨rfl,rfl⟩
  go_wp2
  go_ret
  have h:=HX.out _ Hb1.out
  rw [Htx.out] at h
  exact h
 have hat:=Hat.out (by omega)
 clear Hat
 have hways:X< -9∨(-9<=X/\X< -5)∨16<X∨(-5<=X/\X<0)∨(0<=X/\X<=16/\((n:Nat):Int)<=X+1)∨(0<=X/\X<=16/\X+1<((n:Nat):Int)):=by omega
 rcases hways with hx|⟨hx,hx'⟩|hx|⟨hx,hx'⟩|⟨hx,hx',hx''⟩|⟨hx,hx',hx''⟩
 ·obtain ⟨k,rfl⟩:∃ k:Nat,X= -(k:Int):=⟨(-X).toNat,by omega⟩
  have HD:=hide (zdu k w1 (by omega))
  have hTs:=zat (decL k)
  have hT2:=zfv (k:=k) (by omega) (by omega)
  have Htx:Hid (∀ M,M=strL (mantL d n)->strL (FT d n (-(k:Int)))=M++⟨#[101]⟩++⟨#[45]⟩++strL (decL k)):=hide (fun M hM=>zkh (by omega) M hM _ (by rw [zdl (by omega) (by omega)]))
  obtain ⟨T,hT⟩:∃ T,T=strL (decL k):=⟨_,rfl⟩
  rw [<-hT] at HD Htx hTs
  clear hT
  obtain ⟨m,hm⟩:∃ m,m=(decL k).length:=⟨_,rfl⟩
  rw [<-hm] at hTs hT2
  clear hm
  have Hm:Hid ((S.extract 0 1++(⟨#[46]⟩++S.extract 1 n))=strL (mantL d n)):=hide (by rw [HSS.out];exact zfC (by omega))
  have Htx:=hide (Htx.out _ Hm.out)
  clear Hm
  go_wp2_with fail
  case roundEnd=>(rename_i hh;exact absurd (eq_of_beq hh) (hat _))
  refine rb HD.out fun w2 hb2=>?_
  have Hb2:=hide (bt Hb1.out hb2)
  clear hb2 HD
  go_wp2
  go_ret
  have h:=HX.out _ Hb2.out
  rw [Htx.out] at h
  exact h
 ·obtain ⟨k,rfl⟩:∃ k:Nat,X= -(k:Int):=⟨(-X).toNat,by omega⟩
  have HD:=hide (zdu k w1 (by omega))
  have hTs:=zat (decL k)
  have hT2:(decL k).length=1:=by rw [zbp (by omega)];rfl
  rw [hT2] at hTs
  clear hT2
  have Htx:Hid (∀ M,M=strL (mantL d n)->strL (FT d n (-(k:Int)))=M++⟨#[101]⟩++⟨#[45]⟩++(⟨#[48]⟩++strL (decL k))):=hide (fun M hM=>zkh (by omega) M hM _ (by rw [<-ziF (by omega)];exact zai [48] (decL k)))
  obtain ⟨T,hT⟩:∃ T,T=strL (decL k):=⟨_,rfl⟩
  rw [<-hT] at HD Htx hTs
  clear hT
  have Hm:Hid ((S.extract 0 1++(⟨#[46]⟩++S.extract 1 n))=strL (mantL d n)):=hide (by rw [HSS.out];exact zfC (by omega))
  have Htx:=hide (Htx.out _ Hm.out)
  clear Hm
  go_wp2_with fail
  case roundEnd=>(rename_i hh;exact absurd (eq_of_beq hh) (hat _))
  refine rb HD.out fun w2 hb2=>?_
  have Hb2:=hide (bt Hb1.out hb2)
  clear hb2 HD
  go_wp2
  go_ret
  have h:=HX.out _ Hb2.out
  rw [Htx.out] at h
  exact h
 ·obtain ⟨k,rfl⟩:∃ k:Nat,X=(k:Int):=⟨X.toNat,by omega⟩
  have HD:=hide (zdu k w1 (by omega))
  have hTs:=zat (decL k)
  have hT2:=zfv (k:=k) (by omega) (by omega)
  have Htx:Hid (∀ M,M=strL (mantL d n)->strL (FT d n (k:Int))=M++⟨#[101]⟩++⟨#[43]⟩++strL (decL k)):=hide (fun M hM=>zqU (by omega) M hM _ (by rw [zdl (by omega) (by omega)]))
  obtain ⟨T,hT⟩:∃ T,T=strL (decL k):=⟨_,rfl⟩
  rw [<-hT] at HD Htx hTs
  clear hT
  obtain ⟨m,hm⟩:∃ m,m=(decL k).length:=⟨_,rfl⟩
  rw [<-hm] at hTs hT2
  clear hm
  have Hm:Hid ((S.extract 0 1++(⟨#[46]⟩++S.extract 1 n))=strL (mantL d n)):=hide (by rw [HSS.out];exact zfC (by omega))
  have Htx:=hide (Htx.out _ Hm.out)
  clear Hm
  go_wp2_with fail
  case roundEnd=>(rename_i hh;exact absurd (eq_of_beq hh) (hat _))
  refine rb HD.out fun w2 hb2=>?_
  have Hb2:=hide (bt Hb1.out hb2)
  clear hb2 HD
  go_wp2
  go_ret
  have h:=HX.out _ Hb2.out
  rw [Htx.out] at h
  exact h
 ·obtain ⟨z,hz⟩:∃ z:Nat,(z:Int)= -X-1:=⟨(-X-1).toNat,by omega⟩
  have HZ:=hide (zdk z w1 (by omega))
  have hTs:=zat (List.replicate z 48)
  rw [List.length_replicate] at hTs
  have Htx:Hid (strL (FT d n X)=⟨#[48,46]⟩++strL (List.replicate z 48)++S):=hide (by rw [HSS.out];exact zqQ (by omega) (by omega) hz)
  obtain ⟨T,hT⟩:∃ T,T=strL (List.replicate z 48):=⟨_,rfl⟩
  rw [<-hT] at HZ Htx hTs
  rw [hz] at HZ
  clear hT
  have hz17:z<=17:=by omega
  clear hz
  go_wp2_with fail
  case roundEnd=>(rename_i hh;exact absurd (eq_of_beq hh) (hat _))
  refine rs HZ.out ?_
  go_wp2
  go_ret
  have h:=HX.out _ Hb1.out
  rw [Htx.out] at h
  exact h
 ·obtain ⟨z,hz⟩:∃ z:Nat,(z:Int)=X+1-(n:Nat):=⟨(X+1-(n:Nat)).toNat,by omega⟩
  have HZ:=hide (zdk z w1 (by omega))
  have hTs:=zat (List.replicate z 48)
  rw [List.length_replicate] at hTs
  have Htx:Hid (strL (FT d n X)=S++strL (List.replicate z 48)++⟨#[46,48]⟩):=hide (by rw [HSS.out];exact zl8 (by omega) (by omega) (by omega) hz)
  obtain ⟨T,hT⟩:∃ T,T=strL (List.replicate z 48):=⟨_,rfl⟩
  rw [<-hT] at HZ Htx hTs
  rw [hz] at HZ
  clear hT
  have hz17:z<=17:=by omega
  clear hz
  go_wp2_with fail
  case roundEnd=>(rename_i hh;exact absurd (eq_of_beq hh) (hat _))
  refine rs HZ.out ?_
  go_wp2
  go_ret
  have h:=HX.out _ Hb1.out
  rw [Htx.out] at h
  exact h
 obtain ⟨k,rfl⟩:∃ k:Nat,X=k:=⟨X.toNat,by omega⟩
 have Htx:Hid (strL (FT d n (k:Int))=S.extract 0 (k+1)++⟨#[46]⟩++S.extract (k+1) n):=hide (by rw [HSS.out];exact ztL (by omega) (by omega))
 go_wp2
 case roundEnd=>(rename_i hh;exact absurd (eq_of_beq hh) (hat _))
 go_quiet (fail)
 go_wp2
 go_ret
 have h:∀ w',Below w.heap.size w w'->∃ L,Ending.returned (.string (S.extract 0 (k+1)++⟨#[46]⟩++S.extract (k+1) n))=.returned (.string (strL L))/\MagT r c L/\Below w.heap.size w w':=fun w' hb=>by
  have:=HX.out w' hb
  rw [Htx.out] at this
  exact this
 exact h _ (zag Hb1.out _)
end Go.Proofs.YtamdnnkdnhkghaaGreatDoor
