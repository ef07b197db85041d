import Derived.Test.YtjibjahfbblieaaGreatDoorKP1X6
import Derived.Test.YtjibjahfbblieaaGreatDoorKP1XC
import Derived.Test.YtjibjahfbblieaaGreatDoorKP1Z9
import Derived.Test.YtjibjahfbblieaaGreatDoorKP1XG
import Derived.Test.YtjibjahfbblieaaGreatDoorKLV
import Derived.Test.YtjibjahfbblieaaGreatDoorKMC1
import Derived.Test.YtjibjahfbblieaaGreatDoorKBR
import Derived.Deep.RegionHeld3
import Derived.Laws.CopyRow
import Derived.Test.YtjibjahfbblieaaGreatDoorKLO
namespace Go.Proofs.YtjibjahfbblieaaGreatDoor.F
open Go Go.RowKit
set_option linter.unusedVariables false
theorem mg.under {w w':World} {v:Value} {l:List Int} (h:mg w v l) (hb:Below w.heap.size w w'):mg w' v l:=by
 obtain ⟨g,cap,rfl,h2,h3,h4,h5⟩:=h
 exact ⟨g,cap,rfl,h2,h3,Nat.lt_of_lt_of_le h4 hb.size,fun j hj=>(hb.cell (p:=⟨g,j,none⟩) h4).trans (h5 j hj)⟩
theorem rR (d n:Nat):∀ c∈digL d n,48<=c/\c<=57:=fun c hc=>ig c hc
set_option maxHeartbeats 6400000 in
set_option maxRecDepth 100000 in
theorem Aj (r c:Nat) (w:World) (hc:c=1074) (h0:0<r) (hr:r<ak):
 Calls Tryz.prog 83 #[.int .u64 r] w fun e w'=>PS r c w e w':=by
 have HE:=hide (fun w=>LX r w h0 hr)
 have Hr:=hide hr
 have H0:=hide h0
 have Hc:=hide hc
 clear hr h0 hc
 go_enter Tryz.func83,Tryz.ntmps83
 go_wp2_with fail
 refine (HE.out _).mono ?_
 rintro e w1 ⟨v,N,P,rfl,hbyt,hval,hN0,hP,hlen,hb1⟩
 obtain ⟨l,hl1,hlo,hhi⟩:=ER hN0
 rw [ug hl1 hlo hhi] at hbyt hlen
 rw [digL_len] at hlen
 have HX:Hid (Ex (wV r) c N P l):=hide ⟨hl1,hlo,hhi,hval c Hc.out⟩
 have hrg:=HX.out.range Hc.out H0.out Hr.out
 have Hhi:=hide hhi
 have Hb1:=hide hb1
 clear hval hlo hhi hb1
 have HBY:=hide hbyt
 obtain ⟨g,cap,hv,h2,h3,h4,h5⟩:=hbyt
 rw [digL_len] at hv h2 h5
 subst hv
 unfold maxLen at h3
 clear h5
 go_wp2
 go_loopw [7] (fun kv wr=>∃ k:Nat,kv=.int .i64 k/\1<=k/\k<=17/\k<=l/\Hid (∀ m d' q',1<=m->m<k->Fmt (wV r) c m d' q'->¬ aB d' (-q') r)/\Below w1.heap.size w1 wr) (fun kv _=>18-(intOf kv).toNat)
 case atStart=>exact ⟨1,rfl,by omega,by omega,hl1,hide (fun m d' q' h1 h2=>by omega),Below.refl _ _⟩
 case round=>
  obtain ⟨k,rfl,hk1,hk17,hkl,Hl,hb⟩:=hrel
  have Hb0:=hide hb
  have Hb:=hide (Hb1.out.trans (hb.mono Hb1.out.size))
  by_cases hend:k=l
  ·have Hby:Hid (mg wr (.slice (some ⟨g,0,none⟩) l cap) (digL N l)):=hide (HBY.out.under hb)
   clear hb
   subst hend
   go_wp2
   go_ret2
   exact ⟨k,N,P,_,rfl,Hby.out,⟨hk1,hk17,HX.out.whole,HX.out.back Hc.out H0.out Hr.out,Hl.out⟩,by omega,by omega,Hb.out⟩
  ·have HR:=hide (L_ N l k _ wr (HBY.out.under hb) Hhi.out hk1 (by omega) hk17 hlen)
   have Hrd:=hide (HX.out.round hk1 hkl)
   have hlt:k<l:=by omega
   clear hb hend
   go_wp2_with fail
   refine HR.out.mono ?_
   rintro e w2 hrou
   rcases hrou with ⟨hne,v',rfl,hby2,hb2⟩|⟨heq,v',rfl,hby2,hb2⟩
   ·have Hf:=hide (Hrd.out.2.2 hne)
    obtain ⟨d,hd⟩:∃ d,d=rq N (10^(l-k)):=⟨_,rfl⟩
    rw [<-hd] at Hf
    clear hne
    have Hb2:=hide (Hb.out.trans (hb2.mono Hb.out.size))
    have Hc2:=hide (Hb0.out.trans (hb2.mono Hb0.out.size))
    have HB2:=hide hby2
    rw [<-hd] at HB2
    obtain ⟨g2,c2,hv2,_⟩:=hby2
    rw [digL_len] at hv2
    subst hv2
    have HN:=hide (fun E h1 h2=>p8 (digL d k) E _ w2 HB2.out (by rw [digL_len];omega) (rR d k) h1 h2)
    rw [mo Hf.out.hi] at HN
    have Hun:Hid (∀ d' q',Fmt (wV r) c k d' q'->d'=d/\q'=(P:Int)-l+k):=hide (fun d' q' h=>h.unique hk1 Hf.out)
    clear hd hb2 HR Hrd
    go_wp2_with fail
    refine (HN.out _ (by omega) (by omega)).mono ?_
    rintro e w3 ⟨W,ok,W0,rfl,hdec,hok,hW,hb3⟩
    have eE:(l:Int)-1-P-k+1= -((P:Int)-l+k):=by omega
    rw [eE] at hdec
    have Hdec:=hide hdec
    have Hb3:=hide (Hb2.out.trans (hb3.mono Hb2.out.size))
    have Hc3:=hide (Hc2.out.trans (hb3.mono Hc2.out.size))
    have HB3:Hid (mg w3 (.slice (some ⟨g2,0,none⟩) k c2) (digL d k)):=hide (HB2.out.under hb3)
    clear hdec hb3 eE HN
    by_cases hWr:W0=r
    ·have hok2:ok=true:=by
      rw [hok,hWr]
      have:=Hr.out
      simp
      omega
     have hW2:W=r:=(hW hok2).trans hWr
     rw [hWr] at Hdec
     clear hok hW hWr
     subst hok2 hW2
     go_wp2
     go_ret2
     refine ⟨k,d,(P:Int)-l+k,_,?_,HB3.out,⟨hk1,hk17,Hf.out,Hdec.out,Hl.out⟩,by omega,by omega,Hb3.out⟩
     have e9:(k:Int)-1-((P:Int)-l+k)=(l:Int)-1-P:=by omega
     rw [e9]
     rfl
    ·have Hstep:Hid (∀ m d' q',1<=m->m<k+1->Fmt (wV r) c m d' q'->¬ aB d' (-q') r):=hide (fun m d' q' h1 h2 hf hd=>by
      rcases Nat.lt_or_ge m k with g|g
      ·exact Hl.out m d' q' h1 g hf hd
      ·obtain rfl:m=k:=by omega
       obtain ⟨rfl,rfl⟩:=Hun.out d' q' hf
       exact hWr (Hdec.out.unique hd))
     have hk16:k<17:=by
      rcases Nat.lt_or_ge k 17 with g|g
      ·exact g
      ·exfalso
       obtain rfl:k=17:=by omega
       exact hWr (Hdec.out.unique (Hf.out.back17 Hc.out H0.out Hr.out))
     cases ok with
     |false=>
      clear hok hW hWr
      go_wp2
      go_roundw
      case rel=>exact ⟨k+1,by go_num,by omega,by omega,by omega,Hstep,Hc3.out⟩
      case measure=>simp [intOf];omega
     |true=>
      have hW3:¬ ((W:Int)=(r:Int)):=fun hh=>hWr (by rw [<-hW rfl];omega)
      clear hok hW hWr
      go_wp2
      go_roundw
      case rel=>exact ⟨k+1,by go_num,by omega,by omega,by omega,Hstep,Hc3.out⟩
      case measure=>simp [intOf];omega
   ·have Hf:=hide (Hrd.out.2.1 heq)
    obtain ⟨d,hd⟩:∃ d,d=10^(k-1):=⟨_,rfl⟩
    rw [<-hd] at Hf
    clear heq
    have Hb2:=hide (Hb.out.trans (hb2.mono Hb.out.size))
    have Hc2:=hide (Hb0.out.trans (hb2.mono Hb0.out.size))
    have HB2:=hide hby2
    rw [<-hd] at HB2
    obtain ⟨g2,c2,hv2,_⟩:=hby2
    rw [digL_len] at hv2
    subst hv2
    have HN:=hide (fun E h1 h2=>p8 (digL d k) E _ w2 HB2.out (by rw [digL_len];omega) (rR d k) h1 h2)
    rw [mo Hf.out.hi] at HN
    have Hun:Hid (∀ d' q',Fmt (wV r) c k d' q'->d'=d/\q'=(P:Int)-l+k-1):=hide (fun d' q' h=>h.unique hk1 Hf.out)
    clear hd hb2 HR Hrd
    go_wp2_with fail
    refine (HN.out _ (by omega) (by omega)).mono ?_
    rintro e w3 ⟨W,ok,W0,rfl,hdec,hok,hW,hb3⟩
    have eE:(l:Int)-1-P+1-k+1= -((P:Int)-l+k-1):=by omega
    rw [eE] at hdec
    have Hdec:=hide hdec
    have Hb3:=hide (Hb2.out.trans (hb3.mono Hb2.out.size))
    have Hc3:=hide (Hc2.out.trans (hb3.mono Hc2.out.size))
    have HB3:Hid (mg w3 (.slice (some ⟨g2,0,none⟩) k c2) (digL d k)):=hide (HB2.out.under hb3)
    clear hdec hb3 eE HN
    by_cases hWr:W0=r
    ·have hok2:ok=true:=by
      rw [hok,hWr]
      have:=Hr.out
      simp
      omega
     have hW2:W=r:=(hW hok2).trans hWr
     rw [hWr] at Hdec
     clear hok hW hWr
     subst hok2 hW2
     go_wp2
     go_ret2
     refine ⟨k,d,(P:Int)-l+k-1,_,?_,HB3.out,⟨hk1,hk17,Hf.out,Hdec.out,Hl.out⟩,by omega,by omega,Hb3.out⟩
     have e9:(k:Int)-1-((P:Int)-l+k-1)=(l:Int)-1-P+1:=by omega
     rw [e9]
     rfl
    ·have Hstep:Hid (∀ m d' q',1<=m->m<k+1->Fmt (wV r) c m d' q'->¬ aB d' (-q') r):=hide (fun m d' q' h1 h2 hf hd=>by
      rcases Nat.lt_or_ge m k with g|g
      ·exact Hl.out m d' q' h1 g hf hd
      ·obtain rfl:m=k:=by omega
       obtain ⟨rfl,rfl⟩:=Hun.out d' q' hf
       exact hWr (Hdec.out.unique hd))
     have hk16:k<17:=by
      rcases Nat.lt_or_ge k 17 with g|g
      ·exact g
      ·exfalso
       obtain rfl:k=17:=by omega
       exact hWr (Hdec.out.unique (Hf.out.back17 Hc.out H0.out Hr.out))
     cases ok with
     |false=>
      clear hok hW hWr
      go_wp2
      go_roundw
      case rel=>exact ⟨k+1,by go_num,by omega,by omega,by omega,Hstep,Hc3.out⟩
      case measure=>simp [intOf];omega
     |true=>
      have hW3:¬ ((W:Int)=(r:Int)):=fun hh=>hWr (by rw [<-hW rfl];omega)
      clear hok hW hWr
      go_wp2
      go_roundw
      case rel=>exact ⟨k+1,by go_num,by omega,by omega,by omega,Hstep,Hc3.out⟩
      case measure=>simp [intOf];omega
end Go.Proofs.YtjibjahfbblieaaGreatDoor.F
namespace Go.Proofs.YtjibjahfbblieaaGreatDoor.F
open Go Go.RowKit
set_option linter.unusedVariables false
theorem sG (k:Nat):av (List.replicate k 48)++⟨#[48]⟩=av (List.replicate (k+1) 48):=by
 rw [List.replicate_succ',<-ay]
 rfl
set_option maxHeartbeats 1600000 in
set_option maxRecDepth 100000 in
theorem jK (n:Nat) (w:World) (hn:n<=1000):Calls Tryz.prog 84 #[.int .i64 n] w fun e w'=>e=.returned (.string (av (List.replicate n 48)))/\w'=w:=by
 go_enter Tryz.func84,Tryz.ntmps84
 go_wp2
 go_loop [3,4] (fun ov kv=>∃ k:Nat,ov=.string (av (List.replicate k 48))/\kv=.int .i64 k/\k<=n) (fun _ kv=>n-(intOf kv).toNat)
 case atStart=>exact ⟨0,rfl,rfl,by omega⟩
 case round=>
  obtain ⟨k,rfl,rfl,hk⟩:=hrel
  have hsz:=strL_size (List.replicate k 48)
  rw [List.length_replicate] at hsz
  have Hs:=hide (sG k)
  by_cases hlt:k<n
  ·go_wp2
   go_round
   case rel=>exact ⟨k+1,by rw [<-Hs.out],by go_num,by omega⟩
   case measure=>simp [intOf];omega
  ·obtain rfl:k=n:=by omega
   go_wp2
   go_ret
   exact ⟨rfl,rfl⟩
theorem Iz {w:World} {v:Value} {L:List Int} (h:∀ z∈L,0<=z/\z<256) (hb:mg w v L):(convert 35 9 v).run Tryz.prog w=.ok (.string (av L)) w:=by
 refine fD ?_
 rw [oQ h]
 exact hb
set_option maxHeartbeats 1600000 in
set_option maxRecDepth 100000 in
theorem BZ (w:World):Calls Tryz.prog 56 #[.int .u64 0] w fun e w'=>e=.returned (.string (av [48,46,48]))/\w'=w:=by
 have HZ:=hide (jK 0 w (by omega))
 go_enter Tryz.func56,Tryz.ntmps56
 go_wp2_with fail
 go_loop [3] (fun dv=>dv=.string ⟨#[48]⟩) (fun _=>0)
 case atStart=>rfl
 case round=>
  subst hrel
  go_wp2_with fail
  refine HZ.out.mono ?_
  rintro e w1 ⟨rfl,rfl⟩
  go_wp2
  go_ret
  exact ⟨rfl,rfl⟩
theorem uE {k:Nat} (h:k<10):48::decL k=dK k:=by
 rw [bR h,nD h,Nat.mod_eq_of_lt h,Int.add_comm]
theorem jL {k:Nat} (h:¬ k<10) (h2:k<1000):decL k=dK k:=by
 by_cases h3:k<100
 ·rw [d9 h,bR (by omega),m_ h h3]
  have e1:(48+((k/10%10:Nat):Int))=(k:Int)/10+48:=by omega
  have e2:(48+((k%10:Nat):Int))=(k:Int)%10+48:=by omega
  rw [e1,e2]
  rfl
 ·rw [d9 h,d9 (by omega),bR (by omega),nk h h3]
  have e0:(48+((k/10/10%10:Nat):Int))=(k:Int)/100+48:=by omega
  have e1:(48+((k/10%10:Nat):Int))=(k:Int)/10%10+48:=by omega
  have e2:(48+((k%10:Nat):Int))=(k:Int)%10+48:=by omega
  rw [e0,e1,e2]
  rfl
theorem nG {k:Nat} (h:¬ k<10) (h2:k<1000):2<=(decL k).length/\(decL k).length<=3:=by
 rw [jL h h2]
 exact nN k
theorem FN (k:Nat):(⟨(Lib.itoa (k:Int)).toArray⟩:ByteArray)=av (decL k):=by
 unfold av
 congr 2
 unfold decL fM Lib.itoa
 rw [if_neg (by omega),List.map_map,Int.toNat_natCast]
 conv=>lhs;rw [<-List.map_id (Lib.decDigits k)]
 apply List.map_congr_left
 intro b _
 simp
theorem jP (k:Nat) (w:World) (hk:k<1000):Calls Tryz.prog 30 #[.int .i64 k] w fun e w'=>e=.returned (.string (av (decL k)))/\Below w.heap.size w w':=by
 refine (dec_any k w (by omega) (by omega)).mono ?_
 rintro e w' ⟨rfl,hb⟩
 rw [FN]
 exact ⟨rfl,hb⟩
theorem qH (d:Nat):(av (digL d 1)).extract 0 1=av (aP d 1):=by
 rw [dO]
 rfl
theorem oW {d n:Nat} (h:2<=n):(av (digL d n)).extract 0 1++(⟨#[46]⟩++(av (digL d n)).extract 1 n)=av (aP d n):=by
 rw [dO,dO,iq h,List.drop_zero]
 have e1:(digL d n).take (1-0)=[g_ d n 0]:=by
  rw [lQ (by omega)]
  rfl
 have e2:((digL d n).drop 1).take (n-1)=(digL d n).drop 1:=kL
 rw [e1,e2,List.append_assoc,<-ay,<-ay]
 rfl
theorem GH {d n k:Nat} (h:16<k) (M:ByteArray) (hM:M=av (aP d n)) (E:ByteArray) (hE:E=av (dK k)):av (FT d n (k:Int))=M++⟨#[101]⟩++⟨#[43]⟩++E:=by
 unfold FT
 rw [if_pos (by omega),nV,<-ay,<-ay,<-ay,hM,hE]
 rfl
theorem vC {d n k:Nat} (h:5<k) (M:ByteArray) (hM:M=av (aP d n)) (E:ByteArray) (hE:E=av (dK k)):av (FT d n (-(k:Int)))=M++⟨#[101]⟩++⟨#[45]⟩++E:=by
 unfold FT
 rw [if_pos (by omega),ou (by omega),<-ay,<-ay,<-ay,hM,hE]
 rfl
theorem Gj {d n z:Nat} {X:Int} (h1: -5<=X) (h2:X<0) (hz:(z:Int)= -X-1):av (FT d n X)=⟨#[48,46]⟩++av (List.replicate z 48)++av (digL d n):=by
 unfold FT plainL
 have e:(-X-1).toNat=z:=by omega
 rw [if_neg (by omega),if_pos h2,e,<-ay,<-ay]
 rfl
theorem Ck {d n z:Nat} {X:Int} (h1:X<=16) (h2:0<=X) (h3:(n:Int)<=X+1) (hz:(z:Int)=X+1-n):av (FT d n X)=av (digL d n)++av (List.replicate z 48)++⟨#[46,48]⟩:=by
 unfold FT plainL
 rw [digL_len]
 have e:(X+1-(n:Int)).toNat=z:=by omega
 rw [if_neg (by omega),if_neg (by omega),if_neg (by omega),e,<-ay,<-ay]
 rfl
theorem Ox {d n k:Nat} (h1:k<=16) (h3:k+1<n):av (FT d n (k:Int))=(av (digL d n)).extract 0 (k+1)++⟨#[46]⟩++(av (digL d n)).extract (k+1) n:=by
 unfold FT plainL
 rw [digL_len]
 have e:((k:Int)+1).toNat=k+1:=by omega
 rw [if_neg (by omega),if_neg (by omega),if_pos (by omega),e,<-ay,<-ay,dO,dO,List.drop_zero,Nat.sub_zero]
 have e2:((digL d n).drop (k+1)).take (n-(k+1))=(digL d n).drop (k+1):=List.take_of_length_le (by rw [List.length_drop,digL_len];omega)
 rw [e2]
 rfl
theorem Ko {d n j:Nat} (hj:j<n) (h:j<(av (digL d n)).size):(((av (digL d n))[j]'h).toNat:Int)=g_ d n j:=by
 have hl:j<(digL d n).length:=by rw [digL_len];exact hj
 have h1:(av (digL d n))[j]'h=UInt8.ofNat ((digL d n)[j]'hl).toNat:=by
  show ((fM (digL d n)).toArray)[j]'_=_
  simp [fM]
 have h2:(digL d n)[j]'hl=g_ d n j:=by
  have:=bZ (d:=d) (n:=n) hj
  rw [getD_lt hl] at this
  exact this
 have hr:=gT d n j
 rw [h1,h2]
 simp
 omega
set_option maxHeartbeats 6400000 in
set_option maxRecDepth 100000 in
theorem Eo (r c:Nat) (w:World) (hc:c=1074) (h0:0<r) (hr:r<ak):
 Calls Tryz.prog 56 #[.int .u64 r] w fun e w'=>∃ L,e=.returned (.string (av L))/\mX r c L/\Below w.heap.size w w':=by
 have HS:=hide (fun w=>Aj r c w hc h0 hr)
 have h0':(0:Int)<(r:Int):=by omega
 go_enter Tryz.func56,Tryz.ntmps56
 go_wp2_with fail
 refine (HS.out _).mono ?_
 rintro e w1 ⟨n,d,q,v,rfl,hbyt,hfirst,hX1,hX2,hb1⟩
 have hn1:=hfirst.n1
 have hn17:=hfirst.n17
 have Hlast:=hide hfirst.last
 have Hb1:=hide hb1
 have HX:Hid (∀ X:Int,X=(n:Int)-1-q->∀ w',Below w.heap.size w w'->∃ L,Ending.returned (.string (av (FT d n X)))=.returned (.string (av L))/\mX r c L/\Below w.heap.size w w'):=hide (fun X hX w' hb=>⟨_,by rw [hX],.inr ⟨h0,n,d,q,hfirst,rfl⟩,hb⟩)
 obtain ⟨X,hX⟩:∃ X,X=(n:Int)-1-q:=⟨_,rfl⟩
 rw [<-hX] at hX1 hX2 ⊢
 have HX:=hide (HX.out X hX)
 have hcv:=Iz (fun z hz=>by have:=ig z hz;omega) hbyt
 have hsz:=strL_size (digL d n)
 rw [digL_len] at hsz
 have Hat:Hid (2<=n->∀ h:n-1<(av (digL d n)).size,¬ ((((av (digL d n))[n-1]'h).toNat:Nat):Int)=48):=hide (fun h2 h=>by
  rw [Ko (by omega),iB,Nat.sub_self,Nat.pow_zero,Nat.div_one]
  have:=Hlast.out h2
  omega)
 obtain ⟨S,hS⟩:∃ S,S=av (digL d n):=⟨_,rfl⟩
 rw [<-hS] at hcv hsz
 have HSS:=hide hS
 have Hat:Hid (2<=n->∀ h:n-1<S.size,¬ (((S[n-1]'h).toNat:Nat):Int)=48):=hide (by subst hS;exact Hat.out)
 clear hb1 hX hfirst hc h0 hr HS hS hbyt Hlast
 go_wp2_with fail
 go_loop [3] (fun dv=>dv=.string S) (fun _=>0)
 case atStart=>rfl
 case round=>
  subst hrel
  by_cases hn:n=1
  ·subst hn
   clear Hat
   have hways:X< -9∨(-9<=X/\X< -5)∨16<X∨(-5<=X/\X<0)∨(0<=X/\X<=16/\((1:Nat):Int)<=X+1):=by omega
   rcases hways with hx|⟨hx,hx'⟩|hx|⟨hx,hx'⟩|⟨hx,hx',hx''⟩
   ·obtain ⟨k,rfl⟩:∃ k:Nat,X= -(k:Int):=⟨(-X).toNat,by omega⟩
    have HD:=hide (jP k w1 (by omega))
    have hTs:=strL_size (decL k)
    have hT2:=nG (k:=k) (by omega) (by omega)
    have Htx:Hid (∀ M,M=av (aP d 1)->av (FT d 1 (-(k:Int)))=M++⟨#[101]⟩++⟨#[45]⟩++av (decL k)):=hide (fun M hM=>vC (by omega) M hM _ (by rw [jL (by omega) (by omega)]))
    obtain ⟨T,hT⟩:∃ T,T=av (decL k):=⟨_,rfl⟩
    rw [<-hT] at HD Htx hTs
    clear hT
    obtain ⟨m,hm⟩:∃ m,m=(decL k).length:=⟨_,rfl⟩
    rw [<-hm] at hTs hT2
    clear hm
    have Hm:Hid ((S.extract 0 1)=av (aP d 1)):=hide (by rw [HSS.out];exact qH d)
    have Htx:=hide (Htx.out _ Hm.out)
    clear Hm
    go_wp2_with fail
    refine HD.out.mono ?_
    rintro e w2 ⟨rfl,hb2⟩
    have Hb2:=hide (Hb1.out.trans (hb2.mono Hb1.out.size))
    clear hb2 HD
    go_wp2
    go_ret
    have h:=HX.out _ Hb2.out
    rw [Htx.out] at h
    exact h
   ·obtain ⟨k,rfl⟩:∃ k:Nat,X= -(k:Int):=⟨(-X).toNat,by omega⟩
    have HD:=hide (jP k w1 (by omega))
    have hTs:=strL_size (decL k)
    have hT2:(decL k).length=1:=by rw [bR (by omega)];rfl
    rw [hT2] at hTs
    clear hT2
    have Htx:Hid (∀ M,M=av (aP d 1)->av (FT d 1 (-(k:Int)))=M++⟨#[101]⟩++⟨#[45]⟩++(⟨#[48]⟩++av (decL k))):=hide (fun M hM=>vC (by omega) M hM _ (by rw [<-uE (by omega)];exact ay [48] (decL k)))
    obtain ⟨T,hT⟩:∃ T,T=av (decL k):=⟨_,rfl⟩
    rw [<-hT] at HD Htx hTs
    clear hT
    have Hm:Hid ((S.extract 0 1)=av (aP d 1)):=hide (by rw [HSS.out];exact qH d)
    have Htx:=hide (Htx.out _ Hm.out)
    clear Hm
    go_wp2_with fail
    refine HD.out.mono ?_
    rintro e w2 ⟨rfl,hb2⟩
    have Hb2:=hide (Hb1.out.trans (hb2.mono Hb1.out.size))
    clear hb2 HD
    go_wp2
    go_ret
    have h:=HX.out _ Hb2.out
    rw [Htx.out] at h
    exact h
   ·obtain ⟨k,rfl⟩:∃ k:Nat,X=(k:Int):=⟨X.toNat,by omega⟩
    have HD:=hide (jP k w1 (by omega))
    have hTs:=strL_size (decL k)
    have hT2:=nG (k:=k) (by omega) (by omega)
    have Htx:Hid (∀ M,M=av (aP d 1)->av (FT d 1 (k:Int))=M++⟨#[101]⟩++⟨#[43]⟩++av (decL k)):=hide (fun M hM=>GH (by omega) M hM _ (by rw [jL (by omega) (by omega)]))
    obtain ⟨T,hT⟩:∃ T,T=av (decL k):=⟨_,rfl⟩
    rw [<-hT] at HD Htx hTs
    clear hT
    obtain ⟨m,hm⟩:∃ m,m=(decL k).length:=⟨_,rfl⟩
    rw [<-hm] at hTs hT2
    clear hm
    have Hm:Hid ((S.extract 0 1)=av (aP d 1)):=hide (by rw [HSS.out];exact qH d)
    have Htx:=hide (Htx.out _ Hm.out)
    clear Hm
    go_wp2_with fail
    refine HD.out.mono ?_
    rintro e w2 ⟨rfl,hb2⟩
    have Hb2:=hide (Hb1.out.trans (hb2.mono Hb1.out.size))
    clear hb2 HD
    go_wp2
    go_ret
    have h:=HX.out _ Hb2.out
    rw [Htx.out] at h
    exact h
   ·obtain ⟨z,hz⟩:∃ z:Nat,(z:Int)= -X-1:=⟨(-X-1).toNat,by omega⟩
    have HZ:=hide (jK z w1 (by omega))
    have hTs:=strL_size (List.replicate z 48)
    rw [List.length_replicate] at hTs
    have Htx:Hid (av (FT d 1 X)=⟨#[48,46]⟩++av (List.replicate z 48)++S):=hide (by rw [HSS.out];exact Gj (by omega) (by omega) hz)
    obtain ⟨T,hT⟩:∃ T,T=av (List.replicate z 48):=⟨_,rfl⟩
    rw [<-hT] at HZ Htx hTs
    rw [hz] at HZ
    clear hT
    have hz17:z<=17:=by omega
    clear hz
    go_wp2_with fail
    refine HZ.out.mono ?_
    rintro e w2 ⟨rfl,rfl⟩
    go_wp2
    go_ret
    have h:=HX.out _ Hb1.out
    rw [Htx.out] at h
    exact h
   ·obtain ⟨z,hz⟩:∃ z:Nat,(z:Int)=X:=⟨X.toNat,by omega⟩
    have HZ:=hide (jK z w1 (by omega))
    have hTs:=strL_size (List.replicate z 48)
    rw [List.length_replicate] at hTs
    have Htx:Hid (av (FT d 1 X)=S++av (List.replicate z 48)++⟨#[46,48]⟩):=hide (by rw [HSS.out];exact Ck (by omega) (by omega) (by omega) (by omega))
    obtain ⟨T,hT⟩:∃ T,T=av (List.replicate z 48):=⟨_,rfl⟩
    rw [<-hT] at HZ Htx hTs
    rw [hz] at HZ
    clear hT
    have hz17:z<=17:=by omega
    clear hz
    go_wp2_with fail
    refine HZ.out.mono ?_
    rintro e w2 ⟨rfl,rfl⟩
    go_wp2
    go_ret
    have h:=HX.out _ Hb1.out
    rw [Htx.out] at h
    exact h
  ·have hat:=Hat.out (by omega)
   clear Hat
   have hways:X< -9∨(-9<=X/\X< -5)∨16<X∨(-5<=X/\X<0)∨(0<=X/\X<=16/\((n:Nat):Int)<=X+1)∨(0<=X/\X<=16/\X+1<((n:Nat):Int)):=by omega
   rcases hways with hx|⟨hx,hx'⟩|hx|⟨hx,hx'⟩|⟨hx,hx',hx''⟩|⟨hx,hx',hx''⟩
   ·obtain ⟨k,rfl⟩:∃ k:Nat,X= -(k:Int):=⟨(-X).toNat,by omega⟩
    have HD:=hide (jP k w1 (by omega))
    have hTs:=strL_size (decL k)
    have hT2:=nG (k:=k) (by omega) (by omega)
    have Htx:Hid (∀ M,M=av (aP d n)->av (FT d n (-(k:Int)))=M++⟨#[101]⟩++⟨#[45]⟩++av (decL k)):=hide (fun M hM=>vC (by omega) M hM _ (by rw [jL (by omega) (by omega)]))
    obtain ⟨T,hT⟩:∃ T,T=av (decL k):=⟨_,rfl⟩
    rw [<-hT] at HD Htx hTs
    clear hT
    obtain ⟨m,hm⟩:∃ m,m=(decL k).length:=⟨_,rfl⟩
    rw [<-hm] at hTs hT2
    clear hm
    have Hm:Hid ((S.extract 0 1++(⟨#[46]⟩++S.extract 1 n))=av (aP d n)):=hide (by rw [HSS.out];exact oW (by omega))
    have Htx:=hide (Htx.out _ Hm.out)
    clear Hm
    go_wp2_with fail
    case roundEnd=>(rename_i hh;exact absurd (eq_of_beq hh) (hat _))
    refine HD.out.mono ?_
    rintro e w2 ⟨rfl,hb2⟩
    have Hb2:=hide (Hb1.out.trans (hb2.mono Hb1.out.size))
    clear hb2 HD
    go_wp2
    go_ret
    have h:=HX.out _ Hb2.out
    rw [Htx.out] at h
    exact h
   ·obtain ⟨k,rfl⟩:∃ k:Nat,X= -(k:Int):=⟨(-X).toNat,by omega⟩
    have HD:=hide (jP k w1 (by omega))
    have hTs:=strL_size (decL k)
    have hT2:(decL k).length=1:=by rw [bR (by omega)];rfl
    rw [hT2] at hTs
    clear hT2
    have Htx:Hid (∀ M,M=av (aP d n)->av (FT d n (-(k:Int)))=M++⟨#[101]⟩++⟨#[45]⟩++(⟨#[48]⟩++av (decL k))):=hide (fun M hM=>vC (by omega) M hM _ (by rw [<-uE (by omega)];exact ay [48] (decL k)))
    obtain ⟨T,hT⟩:∃ T,T=av (decL k):=⟨_,rfl⟩
    rw [<-hT] at HD Htx hTs
    clear hT
    have Hm:Hid ((S.extract 0 1++(⟨#[46]⟩++S.extract 1 n))=av (aP d n)):=hide (by rw [HSS.out];exact oW (by omega))
    have Htx:=hide (Htx.out _ Hm.out)
    clear Hm
    go_wp2_with fail
    case roundEnd=>(rename_i hh;exact absurd (eq_of_beq hh) (hat _))
    refine HD.out.mono ?_
    rintro e w2 ⟨rfl,hb2⟩
    have Hb2:=hide (Hb1.out.trans (hb2.mono Hb1.out.size))
    clear hb2 HD
    go_wp2
    go_ret
    have h:=HX.out _ Hb2.out
    rw [Htx.out] at h
    exact h
   ·obtain ⟨k,rfl⟩:∃ k:Nat,X=(k:Int):=⟨X.toNat,by omega⟩
    have HD:=hide (jP k w1 (by omega))
    have hTs:=strL_size (decL k)
    have hT2:=nG (k:=k) (by omega) (by omega)
    have Htx:Hid (∀ M,M=av (aP d n)->av (FT d n (k:Int))=M++⟨#[101]⟩++⟨#[43]⟩++av (decL k)):=hide (fun M hM=>GH (by omega) M hM _ (by rw [jL (by omega) (by omega)]))
    obtain ⟨T,hT⟩:∃ T,T=av (decL k):=⟨_,rfl⟩
    rw [<-hT] at HD Htx hTs
    clear hT
    obtain ⟨m,hm⟩:∃ m,m=(decL k).length:=⟨_,rfl⟩
    rw [<-hm] at hTs hT2
    clear hm
    have Hm:Hid ((S.extract 0 1++(⟨#[46]⟩++S.extract 1 n))=av (aP d n)):=hide (by rw [HSS.out];exact oW (by omega))
    have Htx:=hide (Htx.out _ Hm.out)
    clear Hm
    go_wp2_with fail
    case roundEnd=>(rename_i hh;exact absurd (eq_of_beq hh) (hat _))
    refine HD.out.mono ?_
    rintro e w2 ⟨rfl,hb2⟩
    have Hb2:=hide (Hb1.out.trans (hb2.mono Hb1.out.size))
    clear hb2 HD
    go_wp2
    go_ret
    have h:=HX.out _ Hb2.out
    rw [Htx.out] at h
    exact h
   ·obtain ⟨z,hz⟩:∃ z:Nat,(z:Int)= -X-1:=⟨(-X-1).toNat,by omega⟩
    have HZ:=hide (jK z w1 (by omega))
    have hTs:=strL_size (List.replicate z 48)
    rw [List.length_replicate] at hTs
    have Htx:Hid (av (FT d n X)=⟨#[48,46]⟩++av (List.replicate z 48)++S):=hide (by rw [HSS.out];exact Gj (by omega) (by omega) hz)
    obtain ⟨T,hT⟩:∃ T,T=av (List.replicate z 48):=⟨_,rfl⟩
    rw [<-hT] at HZ Htx hTs
    rw [hz] at HZ
    clear hT
    have hz17:z<=17:=by omega
    clear hz
    go_wp2_with fail
    case roundEnd=>(rename_i hh;exact absurd (eq_of_beq hh) (hat _))
    refine HZ.out.mono ?_
    rintro e w2 ⟨rfl,rfl⟩
    go_wp2
    go_ret
    have h:=HX.out _ Hb1.out
    rw [Htx.out] at h
    exact h
   ·obtain ⟨z,hz⟩:∃ z:Nat,(z:Int)=X+1-(n:Nat):=⟨(X+1-(n:Nat)).toNat,by omega⟩
    have HZ:=hide (jK z w1 (by omega))
    have hTs:=strL_size (List.replicate z 48)
    rw [List.length_replicate] at hTs
    have Htx:Hid (av (FT d n X)=S++av (List.replicate z 48)++⟨#[46,48]⟩):=hide (by rw [HSS.out];exact Ck (by omega) (by omega) (by omega) hz)
    obtain ⟨T,hT⟩:∃ T,T=av (List.replicate z 48):=⟨_,rfl⟩
    rw [<-hT] at HZ Htx hTs
    rw [hz] at HZ
    clear hT
    have hz17:z<=17:=by omega
    clear hz
    go_wp2_with fail
    case roundEnd=>(rename_i hh;exact absurd (eq_of_beq hh) (hat _))
    refine HZ.out.mono ?_
    rintro e w2 ⟨rfl,rfl⟩
    go_wp2
    go_ret
    have h:=HX.out _ Hb1.out
    rw [Htx.out] at h
    exact h
   ·obtain ⟨k,rfl⟩:∃ k:Nat,X=k:=⟨X.toNat,by omega⟩
    have Htx:Hid (av (FT d n (k:Int))=S.extract 0 (k+1)++⟨#[46]⟩++S.extract (k+1) n):=hide (by rw [HSS.out];exact Ox (by omega) (by omega))
    go_wp2
    case roundEnd=>(rename_i hh;exact absurd (eq_of_beq hh) (hat _))
    go_quiet (fail)
    go_wp2
    go_ret
    have h:∀ w',Below w.heap.size w w'->∃ L,Ending.returned (.string (S.extract 0 (k+1)++⟨#[46]⟩++S.extract (k+1) n))=.returned (.string (av L))/\mX r c L/\Below w.heap.size w w':=fun w' hb=>by
     have:=HX.out w' hb
     rw [Htx.out] at this
     exact this
    exact h _ (bF Hb1.out _)
end Go.Proofs.YtjibjahfbblieaaGreatDoor.F
namespace Go.Proofs.YtjibjahfbblieaaGreatDoor.F
open Go Go.RowKit
set_option linter.unusedVariables false
theorem FV (r c:Nat) (w:World) (hc:c=1074) (hr:r<ak):
 Calls Tryz.prog 56 #[.int .u64 r] w fun e w'=>∃ L,e=.returned (.string (av L))/\mX r c L/\Below w.heap.size w w':=by
 by_cases h0:r=0
 ·subst h0
  refine (BZ w).mono ?_
  rintro e w' ⟨rfl,rfl⟩
  exact ⟨_,rfl,.inl ⟨rfl,rfl⟩,Below.refl _ _⟩
 ·exact Eo r c w hc (by omega) hr
def NumT (f:Bool) (i u:Int) (t:ByteArray):Prop:=
 if f=true then ∃ s r,u=((aI s r:Nat):Int)/\r<9223372036854775808/\∃ c,c=1074/\tu s r c t else t=⟨(Lib.itoa i).toArray⟩
theorem DW {s s':Bool} {r r':Nat} (h:r<9223372036854775808) (h':r'<9223372036854775808) (e:aI s r=aI s' r'):s=s'/\r=r':=by
 unfold aI at e
 cases s<;>cases s'<;>simp at e ⊢<;>omega
theorem NumT.unique {f:Bool} {i u:Int} {t t':ByteArray} (h:NumT f i u t) (h':NumT f i u t'):t=t':=by
 unfold NumT at h h'
 by_cases hf:f=true
 ·rw [if_pos hf] at h h'
  obtain ⟨s,r,e,hr,c,hc,hT⟩:=h
  obtain ⟨s',r',e',hr',c',hc',hT'⟩:=h'
  obtain ⟨rfl,rfl⟩:=DW (s:=s) (s':=s') hr hr' (by omega)
  subst hc hc'
  exact hT.unique hT'
 ·rw [if_neg hf] at h h'
  rw [h,h']
theorem uP {u:Int} (h0:0<=u) (h1:u<18446744073709551616):∃ s r,u=((aI s r:Nat):Int)/\r<9223372036854775808:=by
 have:=A9 (W:=u.toNat) (by omega)
 exact ⟨decide (9223372036854775808<=u.toNat),u.toNat%9223372036854775808,by rw [<-this];omega,Nat.mod_lt _ (by omega)⟩
theorem fnum_any (f:Bool) (i u:Int) (w:World) (hi0: -9223372036854775808<=i) (hi1:i<=9223372036854775807) (h0:0<=u) (h1:u<18446744073709551616) (hF:FE w):
 Calls Tryz.prog 93 #[.agg #[.bool f,.int .i64 i,.int .u64 u]] w fun e w'=>nJ (NumT f i u) w e w':=by
 cases f with
 |false=>
  refine (OM i u w hi0 hi1 hF).mono ?_
  rintro e w' ⟨t,rfl,ht,hb⟩
  exact ⟨t,rfl,by unfold NumT;rw [if_neg (by decide)];exact ht,hb⟩
 |true=>
  obtain ⟨s,r,rfl,hr⟩:=uP h0 h1
  obtain ⟨c,hc⟩:∃ c:Nat,c=1074:=⟨_,rfl⟩
  refine (Js i s r c w hc hr hF).mono ?_
  rintro e w' ⟨t,rfl,ht,hb⟩
  exact ⟨t,rfl,by unfold NumT;rw [if_pos rfl];exact ⟨s,r,rfl,hr,c,hc,ht⟩,hb⟩
theorem snum_any (f:Bool) (i u:Int) (w:World) (hi0: -9223372036854775808<=i) (hi1:i<=9223372036854775807) (h0:0<=u) (h1:u<18446744073709551616):
 Calls Tryz.prog 32 #[.agg #[.bool f,.int .i64 i,.int .u64 u]] w fun e w'=>nJ (NumT f i u) w e w':=by
 cases f with
 |false=>
  refine (Nb i u w hi0 hi1).mono ?_
  rintro e w' ⟨t,rfl,ht,hb⟩
  exact ⟨t,rfl,by unfold NumT;rw [if_neg (by decide)];exact ht,hb⟩
 |true=>
  obtain ⟨s,r,rfl,hr⟩:=uP h0 h1
  obtain ⟨c,hc⟩:∃ c:Nat,c=1074:=⟨_,rfl⟩
  refine (Jr i s r c w hr (fun hlt w1=>FV r c w1 hc hlt)).mono ?_
  rintro e w' ⟨t,rfl,ht,hb⟩
  exact ⟨t,rfl,by unfold NumT;rw [if_pos rfl];exact ⟨s,r,rfl,hr,c,hc,ht⟩,hb⟩
end Go.Proofs.YtjibjahfbblieaaGreatDoor.F
namespace Go.Proofs.YtjibjahfbblieaaGreatDoor
open Go Go.RowKit
set_option linter.unusedVariables false
theorem Nj {d n:Nat} {X:Int} (h1:1<=n) (h2:n<=17):(F.FT d n X).length<=50:=by
 unfold F.FT
 split
 ·have:=F.eTxt_len (d:=d) (X:=X) h1 h2
  omega
 ·rename_i h
  have hl:(F.digL d n).length=n:=F.digL_len d n
  unfold F.plainL
  split
  ·simp only [List.length_append,List.length_cons,List.length_nil,List.length_replicate,hl]
   omega
  ·split
   ·simp only [List.length_append,List.length_cons,List.length_nil,List.length_take,List.length_drop,hl]
    omega
   ·simp only [List.length_append,List.length_cons,List.length_nil,List.length_replicate,hl]
    omega
theorem K4 {i u:Int} {t:ByteArray} (h:F.NumT true i u t):t.size<=1000:=by
 unfold F.NumT at h
 rw [if_pos rfl] at h
 obtain ⟨s,r,_,_,c,_,hw⟩:=h
 have hsg:∀ b,(F.sgL b).length<=1:=fun b=>by cases b<;>simp [F.sgL]
 have:=hsg s
 rcases hw with ⟨_,rfl⟩|⟨_,rfl⟩|⟨_,L,hL,rfl⟩
 ·rw [F.strL_size];simp
 ·rw [F.strL_size];simp;omega
 ·rw [F.strL_size,List.length_append]
  rcases hL with ⟨_,rfl⟩|⟨_,n,d,q,hf,rfl⟩
  ·simp;omega
  ·have:=Nj (d:=d) (X:=(n:Int)-1-q) hf.n1 hf.n17
   omega
noncomputable def y9 (u:Int):List UInt8:=open Classical in if h:∃ t,F.NumT true 0 (kI u) t then h.choose.data.toList else []
theorem Cm {u:Int} {t:ByteArray} (h:F.NumT true 0 (kI u) t):t=bT (y9 u):=by
 have hx:∃ t,F.NumT true 0 (kI u) t:=⟨t,h⟩
 unfold y9
 rw [dif_pos hx,Qe]
 exact h.unique hx.choose_spec
theorem zl (u:Int):(y9 u).length<=1000:=by
 unfold y9
 split
 ·rename_i h
  have:=K4 h.choose_spec
  have e:h.choose.data.toList.length=h.choose.size:=by simp
  omega
 ·simp
theorem LC {u:Int} (h0:0<=u) (h1:u<18446744073709551616):0<=kI u/\kI u<18446744073709551616:=by
 unfold kI
 split
 ·exact ⟨by decide,by decide⟩
 ·exact ⟨h0,h1⟩
theorem PO:FltS y9:=by
 refine ⟨zl,fun u w h0 h1=>?_⟩
 obtain ⟨g0,g1⟩:=LC h0 h1
 refine (F.snum_any true 0 (kI u) w (by decide) (by decide) g0 g1).mono ?_
 rintro e w' ⟨t,rfl,ht,hb⟩
 exact ⟨by rw [Cm ht],hb⟩
theorem Qb:FltP y9:=by
 refine ⟨zl,fun u w h0 h1 hn hF=>?_⟩
 refine (F.fnum_any true 0 u w (by decide) (by decide) h0 h1 hF).mono ?_
 rintro e w' ⟨t,rfl,ht,hb⟩
 have ht2:F.NumT true 0 (kI u) t:=by rw [hn];exact ht
 exact ⟨by rw [Cm ht2],hb⟩
theorem Cz {k:Nat} (h:k<10):aW (k:Int)=[UInt8.ofNat (48+k)]:=by
 unfold aW Lib.itoa
 rw [if_neg (by omega),Int.toNat_natCast,Lib.decDigits,dif_pos h]
theorem Ar (p:PV):bG (headW p)=je p:=by
 have h0:aW 0=[48]:=Cz (k:=0) (by omega)
 have h1:aW 1=[49]:=Cz (k:=1) (by omega)
 have hf:aW (if p.dots then 1 else 0)=oh p.dots:=by
  cases p.dots
  ·exact h0
  ·exact h1
 unfold headW je
 rw [hf]
 simp [bG,Lib.join]
theorem IC (p:PV) (k:Nat):([32,32]:List UInt8)++bG [[117,112],if p.u0 k then [108,111,99,97,108] else [111,117,116,101,114],aW (p.u1 k)]=qc p k:=by
 unfold qc
 cases p.u0 k<;>simp [bG,Lib.join]
theorem yO (T:Int->List UInt8) (p:PV) (k:Nat):([32,32]:List UInt8)++bG (kV T (p.c0 k) (p.c1 k) (p.c2 k) (p.c3 k))=dB T p k:=by
 unfold kV dB
 split
 ·simp [bG,Lib.join]
 ·split
  ·simp [bG,Lib.join]
  ·simp [bG,Lib.join]
theorem FH (T:Int->List UInt8) (p:PV):(aJ T p).length=1+p.nu+p.nc+p.ni:=by
 unfold aJ
 simp
 omega
theorem Bc (T:Int->List UInt8) (p:PV):(aJ T p)[0]?=some (je p):=rfl
theorem JQ (T:Int->List UInt8) (p:PV) {k:Nat} (h:k<p.nu):(aJ T p)[1+k]?=some (qc p k):=by
 unfold aJ
 rw [show 1+k=k+1 by omega,List.getElem?_cons_succ,List.getElem?_append_left (by simpa using h),List.getElem?_map,List.getElem?_range h]
 rfl
theorem yC (T:Int->List UInt8) (p:PV) {k:Nat} (h:k<p.nc):(aJ T p)[1+p.nu+k]?=some (dB T p k):=by
 unfold aJ
 rw [show 1+p.nu+k=(p.nu+k)+1 by omega,List.getElem?_cons_succ,List.getElem?_append_right (by simp),List.getElem?_append_left (by simp [h])]
 simp [h]
theorem FK (T:Int->List UInt8) (p:PV) {k:Nat} (h:k<p.ni):(aJ T p)[1+p.nu+p.nc+k]?=some (iL p k):=by
 unfold aJ
 rw [show 1+p.nu+p.nc+k=(p.nu+(p.nc+k))+1 by omega,List.getElem?_cons_succ,List.getElem?_append_right (by simp),List.getElem?_append_right (by simp)]
 simp [h]
theorem Dk {α:Type} {l:List α} {m:Nat} {x:α} (h:l[m]?=some x):l.take (m+1)=l.take m++[x]:=by
 rw [List.take_add_one,h]
 rfl
theorem FJ (p:PV) (s4 s5 s6 s7:Value) (w:World) (hw:Wri p) (hE:PE w):Calls Tryz.prog 72 #[p.agg s4 s5 s6 s7] w fun e w'=>e=.returned (.string (bT (je p)))/\Below w.heap.size w w':=by
 rw [<-Ar]
 exact wL p s4 s5 s6 s7 w hw hE
theorem Ki (p:PV) (k:Nat) (w:World) (hw:Wri p) (hk:k<p.nu) (hE:PE w):Calls Tryz.prog 73 #[.agg #[.bool (p.u0 k),.int .i64 (p.u1 k)]] w fun e w'=>e=.returned (.string (bT (qc p k)))/\Below w.heap.size w w':=by
 rw [<-IC]
 have h:=hw.up hk
 exact BU (p.u0 k) (p.u1 k) w h.1 h.2 hE
theorem BQ (T:Int->List UInt8) (hT:FltP T) (p:PV) (k:Nat) (w:World) (hw:Wri p) (hk:k<p.nc) (hE:PE w) (hF:F.FE w):Calls Tryz.prog 74 #[.agg #[.int .i64 (p.c0 k),.int .i64 (p.c1 k),.int .u64 (p.c2 k),.string (p.c3 k)]] w fun e w'=>e=.returned (.string (bT (dB T p k)))/\Below w.heap.size w w':=by
 rw [<-yO]
 have hb:=hw.bits k hk
 exact sj T hT _ _ _ _ w (hw.ints k hk) hb.1 hb.2 (hw.text hk) (hw.nan hk) hE hF
structure FlS (w:World) (gP gB gW gN:Nat) (p:PV) (s4 s5 s6 s7:Value):Prop where
 fp:dA w gP p s4 s5 s6 s7
 fb:ah w 50 gB 1 (fun _=>.pointer (some ⟨gW,0,none⟩))
 n:NamW w gW gN
theorem FlS.low {w w':World} {gP gB gW gN:Nat} {p:PV} {s4 s5 s6 s7:Value} (h:FlS w gP gB gW gN p s4 s5 s6 s7) (hb:Below w.heap.size w w'):FlS w' gP gB gW gN p s4 s5 s6 s7:=
 ⟨h.fp.low hb (ah.lt h.fp),ah.low h.fb hb (ah.lt h.fb),h.n.low hb⟩
theorem FlS.kp {X:Nat->Prop} {R Z:Nat} {A C:World} {L:List UInt8} {ad bf:Value} (k:KpL X R Z A C) (hr:RwI A Z R L ad bf) {gP gB gW gN:Nat} {p:PV} {s4 s5 s6 s7:Value} (h:FlS A gP gB gW gN p s4 s5 s6 s7) (hP:¬ X gP) (hB:¬ X gB) (hW:¬ X gW) (hN:¬ X gN):FlS C gP gB gW gN p s4 s5 s6 s7:=
 ⟨k.row hr h.fp (by decide) (by decide) hP,k.row hr h.fb (by decide) (by decide) hB,k.row hr h.n.p (by decide) (by decide) hW,k.row hr h.n.n (by decide) (by decide) hN⟩
structure FlC (T:Int->List UInt8) (p:PV) (s4 s5 s6 s7:Value) (w0:World) (R B9:Nat) (X:Nat->Prop) (I J:List (List UInt8)->World->Prop):Prop where
 hT:FltP T
 hw:Wri p
 nm:pU p
 hA:PVA w0 p s4 s5 s6 s7
 hE:PE w0
 hF:F.FE w0
 hZR:w0.heap.size<=R
 hJI:∀ pre A,J pre A->I pre A/\B9+2<=A.heap.size/\∀ b,X b->b<A.heap.size
 hJs:∀ pre A C,J pre A->I pre C->(∀ b,B9<=b->b<B9+2->C.heap[b]?=A.heap[b]?)->J pre C
 hIn:∀ pre A C,I pre A->Below A.heap.size A C->I pre C
 hIB:∀ pre A,I pre A->(∃ L ad bf,RwI A w0.heap.size R L ad bf)/\Below w0.heap.size w0 A
section
variable {T : Int → List UInt8} {p : PV} {s4 s5 s6 s7 : Value} {w0 : World} {R B9 : Nat} {X : Nat → Prop} {I J : List (List UInt8) → World → Prop} {A C : World} {pre : List (List UInt8)}
theorem FlC.step (h:FlC T p s4 s5 s6 s7 w0 R B9 X I J) (hj:J pre A) (hb:Below A.heap.size A C):J pre C:=by
 obtain ⟨h1,h2,_⟩:=h.hJI _ _ hj
 exact h.hJs _ _ _ hj (h.hIn _ _ _ h1 hb) (fun b _ hb2=>hb.block b (by omega))
theorem FlC.base (h:FlC T p s4 s5 s6 s7 w0 R B9 X I J) (hj:J pre A):Below w0.heap.size w0 A:=(h.hIB _ _ (h.hJI _ _ hj).1).2
theorem FlC.pe (h:FlC T p s4 s5 s6 s7 w0 R B9 X I J) (hj:J pre A):PE A:=h.hE.low (h.base hj)
theorem FlC.fe (h:FlC T p s4 s5 s6 s7 w0 R B9 X I J) (hj:J pre A):F.FE A:=h.hF.below (h.base hj)
theorem FlC.pva (h:FlC T p s4 s5 s6 s7 w0 R B9 X I J) (hj:J pre A):PVA A p s4 s5 s6 s7:=h.hA.low (h.base hj) (Nat.le_refl _)
theorem FlC.round (h:FlC T p s4 s5 s6 s7 w0 R B9 X I J) (hj:J pre A) (k:KpL X R w0.heap.size A C) {gP gB gW gN:Nat} (hs:FlS A gP gB gW gN p s4 s5 s6 s7) (hX:¬ X gP/\¬ X gB/\¬ X gW/\¬ X gN):FlS C gP gB gW gN p s4 s5 s6 s7:=by
 obtain ⟨L,ad,bf,hr⟩:=(h.hIB _ _ (h.hJI _ _ hj).1).1
 exact hs.kp k hr hX.1 hX.2.1 hX.2.2.1 hX.2.2.2
theorem FlC.lab (h:FlC T p s4 s5 s6 s7 w0 R B9 X I J) (hj:J pre A) (k:KpL X R w0.heap.size A C) {g n m:Nat} {s:Nat->Bool} {f:Nat->Nat} (hs:fQ A g n m s f) (hX:¬ X g):fQ C g n m s f:=by
 obtain ⟨L,ad,bf,hr⟩:=(h.hIB _ _ (h.hJI _ _ hj).1).1
 obtain ⟨D,⟨es,clk,h1,_⟩,_⟩:=id hs
 exact hs.same (k.nocells hr h1 rfl hX)
def Rv (n l:Nat) (T:Int->List UInt8) (p:PV) (R Z:Nat) (X:Nat->Prop) (J Jx:List (List UInt8)->World->Prop):Prop:=
 ∀ (m:Nat) (x:List UInt8) (W1:World),J ((aJ T p).take m) W1->(aJ T p)[m]?=some x->YieldAt Fence.wide n Tryz.prog l #[.string (bT x)] W1 fun e W'=>
   (e=.returned (.bool true)/\J ((aJ T p).take (m+1)) W'/\KpL X R Z W1 W')∨(e=.returned (.bool false)/\Jx ((aJ T p).take (m+1)) W')
end
theorem pG {w:World} {o:Oper} {a:Act} {K:Act->World->Prop} {Q:Exit->Act->World->Prop} (d s:Operand) (t:TypeId)
 (ho:o.op=.call { callee:=.builtin .copy,args:=#[d,s],argTypes:=#[t,t] }) (v u:Value) (hd:a.eval d=v) (hs:a.eval s=u) {v':Value} {w':World}
 (hr:(Builtin.copy_ #[t,t] o.type #[v,u]).run Tryz.prog w=.ok v' w') (h:K (a.put o.dst v') w'):Oper.wp Tryz.prog o a w K Q:=by
 unfold Oper.wp execOp
 simp only [ho,resolve,invoke,builtin,Sem.run_bind,Sem.run_pure,Result.andThen_ok,List.map_toArray,List.map_cons,List.map_nil,hd,hs,hr]
 exact h
def nC (l:List (List UInt8)):List Value:=l.map fun x=>.string (bT x)
theorem IX {w:World} {g N o dl dc gs sl sc:Nat} {f:Nat->Value} {l:List (List UInt8)} (h:jS w 9 g N f) (hl:l.length=sl) (hdl:sl<=dl) (hfit:o+sl<=N) (hs:∀ j x,l[j]?=some x->w.cell? ⟨gs,j,none⟩=some (.string (bT x))):
 ∃ w',(∀ ty,(Builtin.copy_ #[51,51] ty #[.slice (some ⟨g,o,none⟩) dl dc,.slice (some ⟨gs,0,none⟩) sl sc]).run Tryz.prog w=.ok (.int .i64 (sl:Int)) w')/\jS w' 9 g N (fun j=>if o<=j/\j<o+sl then .string (bT (l.getD (j-o) [])) else f j)/\Keeps w w' (fun b=>b=g):=by
 obtain ⟨cur,hg,hc,hf⟩:=h
 have hlen:(nC l).length=sl:=by rw [nC,List.length_map,hl]
 have hr:=fun ty=>run_copy_row Tryz.prog w 51 51 ty 9 g o dl dc ⟨gs,0,none⟩ sl sc cur 9 (nC l) Tryz.underlying51 (by kernel_rfl) hg (by rw [hlen];exact (Nat.min_eq_left hdl).symm) (fun j v hj=>by
  rw [nC,List.getElem?_map] at hj
  cases hx:l[j]? with
  |none=>rw [hx] at hj;cases hj
  |some x=>
   rw [hx] at hj
   cases hj
   rw [eu,Nat.zero_add]
   exact hs j x hx) (by omega) (fun v hv=>by
  obtain ⟨x,_,rfl⟩:=List.mem_map.1 hv
  rfl)
 rw [hlen] at hr
 refine ⟨_,hr,⟨_,setRow_heap w g cur _ _ _ hg,?_,fun j hj=>?_⟩,⟨rfl,rfl,rfl,by simp,fun b hb hn=>setRow_other w g b _ hn⟩⟩
 ·simp only [List.size_toArray,List.length_append,List.length_take,List.length_drop,Array.length_toList,hlen]
  omega
 ·have hcl:cur.toList.length=N:=by simpa using hc
  rw [List.getElem?_toArray]
  show _=some (if o<=j/\j<o+sl then Value.string (bT (l.getD (j-o) [])) else f j)
  by_cases h1:j<o
  ·rw [if_neg (by omega),List.append_assoc,List.getElem?_append_left (by rw [List.length_take];omega),List.getElem?_take,if_pos h1]
   rw [Array.getElem?_toList]
   exact hf j hj
  ·by_cases h2:j<o+sl
   ·rw [if_pos ⟨by omega,h2⟩,List.append_assoc,List.getElem?_append_right (by rw [List.length_take];omega),List.length_take,List.getElem?_append_left (by rw [hlen];omega)]
    rw [nC,List.getElem?_map,show min o cur.toList.length=o by omega,List.getElem?_eq_getElem (by omega)]
    rw [List.getD_eq_getElem?_getD,List.getElem?_eq_getElem (by omega)]
    rfl
   ·rw [if_neg (by omega),List.getElem?_append_right (by rw [List.length_append,List.length_take,hlen];omega),List.length_append,List.length_take,hlen,List.getElem?_drop]
    rw [show o+sl+(j-(min o cur.toList.length+sl))=j by omega,Array.getElem?_toList]
    exact hf j hj
theorem jS.low {w w':World} {T g N:Nat} {f:Nat->Value} (h:jS w T g N f) (hb:Below w.heap.size w w'):jS w' T g N f:=h.same (hb.block g h.f.lt)
def qm (w:World):Prop:=Lib.TabIs Tryz.prog w "strings.asciiSpace" .u8 Lib.asciiSpaceTab
theorem qm.low {w w':World} (h:qm w) (hb:Below w.heap.size w w'):qm w':=by
 unfold qm Lib.TabIs World.var? at *
 cases hg:Tryz.prog.globalNamed "strings.asciiSpace" with
 |none=>rw [hg] at h;cases h
 |some g=>
  rw [hg] at h
  simp only [Option.bind_some] at h ⊢
  have hlt:g<w.heap.size:=by
   rcases Nat.lt_or_ge g w.heap.size with k|k
   ·exact k
   ·rw [Array.getElem?_eq_none k] at h;cases h
  rw [hb.block g hlt]
  exact h
theorem II:(Tryz.prog.info? 9).map (fun i=>(i.zero,i.size,i.bytes))=some (some (.string ByteArray.empty),1,16):=by kernel_rfl
theorem EL (n:Nat):(madeCells (Value.string ByteArray.empty).cells n).toList=List.replicate n (.string (bT [])):=by
 show (madeCells #[.string ByteArray.empty] n).toList=_
 rw [toList_madeCells_one]
 rfl
theorem Nr {w w1:World} (h:w1.ownsRow w.heap.size 9 1 (.slice (some ⟨w.heap.size,0,none⟩) 79 79) 79 (madeCells (Value.string ByteArray.empty).cells (79*1)).toList):jS w1 9 w.heap.size 79 (fun _=>.string (bT [])):=by
 obtain ⟨h1,⟨h2,_⟩|⟨g,cap,cur,hv,hb,hg,hnc,hcm,hcs,ht⟩⟩:=h
 ·simp at h2
 ·simp at hv
  obtain ⟨rfl,rfl⟩:=hv
  refine ⟨cur,hg,by simpa using hcs,fun j hj=>?_⟩
  have hl:cur.toList.length=79:=by simpa using hcs
  have e:cur.toList=List.replicate 79 (.string (bT [])):=by
   rw [EL,List.take_of_length_le (by omega)] at ht
   exact ht
  rw [<-Array.getElem?_toList,e,List.getElem?_replicate,if_pos hj]
def wP:ByteArray:=⟨#[116,105,99,107,32,109,111,118,101,32,110,105,108,32,98,111,111,108,32,105,110,116,32,99,111,110,115,116,32,103,101,116,117,112,32,115,101,116,117,112,32,103,101,116,103,108,111,98,97,108,32,115,101,116,103,108,111,98,97,108,32,103,101,116,105,110,100,101,120,32,115,101,116,105,110,100,101,120,32,103,101,116,102,105,101,108,100,32,115,101,116,102,105,101,108,100,32,115,101,108,102,32,116,97,98,108,101,32,115,101,116,105,116,101,109,32,115,101,116,108,105,115,116,32,99,111,110,99,97,116,32,101,113,32,108,116,32,108,101,32,110,111,116,32,108,101,110,32,106,117,109,112,32,106,117,109,112,105,102,32,106,117,109,112,110,111,116,32,99,97,108,108,32,116,97,105,108,32,114,101,116,117,114,110,32,100,111,116,115,32,99,108,111,115,117,114,101,32,99,108,111,115,101,32,116,98,99,32,102,111,114,112,114,101,112,32,102,111,114,108,111,111,112,32,101,97,99,104,32,101,97,99,104,108,111,111,112]⟩
def vI:ByteArray:=⟨#[97,100,100,32,115,117,98,32,109,117,108,32,100,105,118,32,109,111,100,32,105,100,105,118,32,112,111,119,32,97,110,100,32,111,114,32,120,111,114,32,115,104,108,32,115,104,114,32,110,101,103,32,98,110,111,116]⟩
theorem xk:Lib.fields wP.data.toList=oH.drop 1:=by decide+kernel
theorem vT:Lib.fields vI.data.toList=jA.drop 1:=by decide+kernel
theorem zy:∀ b∈wP.data.toList,b.toNat<128:=by decide+kernel
theorem yD:∀ b∈vI.data.toList,b.toNat<128:=by decide+kernel
set_option maxRecDepth 100000 in
theorem lS (w:World) (hT:qm w):Calls Tryz.prog 40 #[.string wP] w fun e w'=>e=.returned (.slice (some ⟨w.heap.size,0,none⟩) 38 38)/\w'=w.alloc (.cells (nC (oH.drop 1)).toArray 9):=by
 refine (Tryz.strings_Fields wP w (by decide) (fun j b hj=>zy b (List.mem_of_getElem? hj)) hT).mono ?_
 rintro e w' ⟨rfl,rfl⟩
 rw [xk]
 exact ⟨rfl,rfl⟩
set_option maxRecDepth 100000 in
theorem Dz (w:World) (hT:qm w):Calls Tryz.prog 40 #[.string vI] w fun e w'=>e=.returned (.slice (some ⟨w.heap.size,0,none⟩) 14 14)/\w'=w.alloc (.cells (nC (jA.drop 1)).toArray 9):=by
 refine (Tryz.strings_Fields vI w (by decide) (fun j b hj=>yD b (List.mem_of_getElem? hj)) hT).mono ?_
 rintro e w' ⟨rfl,rfl⟩
 rw [vT]
 exact ⟨rfl,rfl⟩
theorem uz {w:World} {l:List (List UInt8)}:∀ j x,l[j]?=some x->(w.alloc (.cells (nC l).toArray 9)).cell? ⟨w.heap.size,j,none⟩=some (.string (bT x)):=fun j x hj=>by
 obtain ⟨hl,rfl⟩:=List.getElem?_eq_some_iff.1 hj
 have:=(ah.mk' w 9 (nC l).toArray).cell (j:=j) (by simpa [nC] using hl)
 rw [this]
 simp [nC,hl]
theorem IZ:∀ k,k<79->(if 65<=k/\k<65+14 then Value.string (bT ((jA.drop 1).getD (k-65) [])) else if 1<=k/\k<1+38 then .string (bT ((oH.drop 1).getD (k-1) [])) else .string (bT []))=.string (bT (aU (k:Int))):=by
 intro k hk
 have e1:aU (k:Int)=if k<39 then oH.getD k [] else if 64<=k/\k<79 then jA.getD (k-64) [] else []:=by
  unfold aU
  by_cases h1:k<39
  ·rw [if_pos (by omega),if_pos h1]
   rfl
  ·rw [if_neg (by omega),if_neg h1]
   by_cases h2:64<=k/\k<79
   ·rw [if_pos (by omega),if_pos h2,show (k:Int).toNat-64=k-64 by omega]
   ·rw [if_neg (by omega),if_neg h2]
 rw [e1]
 clear e1
 have h:∀ k:Fin 79,(if 65<=k.val/\k.val<65+14 then (jA.drop 1).getD (k.val-65) [] else if 1<=k.val/\k.val<1+38 then (oH.drop 1).getD (k.val-1) [] else [])=if k.val<39 then oH.getD k.val [] else if 64<=k.val/\k.val<79 then jA.getD (k.val-64) [] else []:=by decide+kernel
 rw [<-h ⟨k,hk⟩]
 simp only
 split
 ·rfl
 ·split<;>rfl
def sJ (w:World) (v:Value) (L:List Int) (g:Nat):Prop:=
 (v=.slice none 0 0/\L=[]/\g=0)∨(g≠0/\∃ cap,v=.slice (some ⟨g,0,none⟩) L.length cap/\L.length<=cap/\ah w 5 g L.length (fun j=>.int .u8 (L.getD j 0)))
theorem sJ.keep {w w':World} {v:Value} {L:List Int} {g:Nat} {S:Nat->Prop} (h:sJ w v L g) (k:Keeps w w' S) (hn:g≠0->¬ S g):sJ w' v L g:=by
 rcases h with h|⟨h0,cap,h1,h2,h3⟩
 ·exact .inl h
 ·exact .inr ⟨h0,cap,h1,h2,h3.keep k (hn h0)⟩
theorem sJ.low {w w':World} {v:Value} {L:List Int} {g B:Nat} (h:sJ w v L g) (hb:Below B w w') (hB:w.heap.size<=B):sJ w' v L g:=h.keep (Keeps.of hb hB (fun _=>False)) (fun _ x=>x)
theorem sJ.byA {w:World} {v:Value} {L:List Int} {g:Nat} (h:sJ w v L g) (hB:au L):LM w v L.length (r_ L):=by
 rcases h with ⟨rfl,rfl,_⟩|⟨_,cap,rfl,h2,h3⟩
 ·exact .inl ⟨rfl,_,_,rfl⟩
 ·refine .inr ⟨g,0,cap,rfl,h3.lt,h2,fun j hj=>?_⟩
  have hm:L.getD j 0∈L:=by
   rw [List.getD_eq_getElem?_getD,List.getElem?_eq_getElem hj]
   exact List.getElem_mem hj
  obtain ⟨y0,y1⟩:=hB _ hm
  refine ⟨by unfold r_;omega,?_⟩
  rw [Nat.zero_add,h3.cell hj,r_,Int.toNat_of_nonneg y0]
def Ov (w:World) (v:Value) (N k g:Nat):Prop:=
 (v=.slice none 0 0/\N=0/\g=0)∨(g≠0/\∃ cap,v=.slice (some ⟨g,0,none⟩) N cap/\N<=cap/\ah w 5 g N (Rp k))
theorem Ov.low {w w':World} {v:Value} {N k g B:Nat} (h:Ov w v N k g) (hb:Below B w w') (hB:w.heap.size<=B):Ov w' v N k g:=by
 rcases h with h|⟨h0,cap,h1,h2,h3⟩
 ·exact .inl h
 ·exact .inr ⟨h0,cap,h1,h2,h3.low hb (Nat.lt_of_lt_of_le h3.lt hB)⟩
theorem sJ.form {w:World} {v:Value} {L:List Int} {g:Nat} (h:sJ w v L g):∃ a n c,v=.slice a n c:=by
 rcases h with ⟨rfl,_⟩|⟨_,cap,rfl,_⟩
 ·exact ⟨_,_,_,rfl⟩
 ·exact ⟨_,_,_,rfl⟩
def WriteAt (f:Nat):Prop:=∀ (v:Value) (n:Nat) (P:Nat->PV) (w:World),n<=1048576->allFit n P 1048576->iw n P->CX P n<=1048576->bY w v n P->
 Calls Tryz.prog f #[.agg #[v]] w fun e w'=>∃ v' c,e=.returned (.tuple #[v',.int .i64 c])/\Q0 w' w.heap.size n P v' c/\Below w.heap.size w w'
def qW (n:Nat) (P:Nat->PV) (L:List Int) (c:Int):Prop:=(nW n P/\L=zh n P/\c=0)∨(¬ nW n P/\L=[]/\c=12)
theorem qW.bytes {n:Nat} {P:Nat->PV} {L:List Int} {c:Int} (h:qW n P L c):au L:=by
 rcases h with ⟨_,rfl,_⟩|⟨_,rfl,_⟩
 ·exact (au.ch n P n).app (au.u64n _ _)
 ·intro x hx;cases hx
theorem qW.len {n:Nat} {P:Nat->PV} {L:List Int} {c:Int} (h:qW n P L c) (hn:n<=1048576) (hw:CX P n<=1048576):L.length<=100000000:=by
 rcases h with ⟨_,rfl,_⟩|⟨_,rfl,_⟩
 ·have:=vW n P n
  rw [zh,List.length_append,dG]
  omega
 ·simp
theorem qW.unique {n:Nat} {P:Nat->PV} {L L':List Int} {c c':Int} (h:qW n P L c) (h':qW n P L' c'):L=L'/\c=c':=by
 rcases h with ⟨h0,rfl,rfl⟩|⟨h0,rfl,rfl⟩<;>rcases h' with ⟨h1,rfl,rfl⟩|⟨h1,rfl,rfl⟩
 ·exact ⟨rfl,rfl⟩
 ·exact absurd h0 h1
 ·exact absurd h1 h0
 ·exact ⟨rfl,rfl⟩
end Go.Proofs.YtjibjahfbblieaaGreatDoor
namespace Go.Proofs.YtjibjahfbblieaaGreatDoor
open Go.ChangeShapes Go.WideShapes Go.ChangeAt Go Go.RowKit Go.ChangeMaps Go.WideElems Go.Joins Go.Deep
set_option linter.unusedVariables false
theorem Ol {x:Int} (h:(Lit.int .i64 x).wf=true):lD x:=by
 have m1:IntKind.i64.min= -9223372036854775808:=by decide
 have m2:IntKind.i64.max=9223372036854775807:=by decide
 simp only [Lit.wf,Bool.and_eq_true,decide_eq_true_eq,m1,m2] at h
 exact h
theorem Ab {H:Type} {enc:TypeId × Value->H} {W:World} {sp:Nat->Bool} {hd:Bool} {fuel n cap:Nat} {a:Option Addr} {x:DataW H × List MemPlace} (h:DataW.trod enc Tryz.prog W 0 sp hd fuel 73 [.slice a n cap]=some x):
 n<=maxLen/\∃ x0 x1 x2 x3,gD W (.slice a n cap) n x0 x1 x2 x3/\(∀ i,i<n->0<=x2 i/\x2 i<18446744073709551616)/\(∀ i,i<n->(x3 i).size<=maxLen)/\(∀ i,i<n->lD (x1 i)):=by
 obtain ⟨hn,h⟩:=jF Tryz.underlying73 (show Tryz.prog.cellsOf 136=4 by kernel_rfl) (by omega) h
 refine ⟨hn,?_⟩
 rcases h with rfl|⟨b,o,m,rfl,hb,hcap,hel⟩
 ·exact ⟨fun _=>0,fun _=>0,fun _=>0,fun _=>ByteArray.empty,⟨.inl ⟨rfl,_,_,rfl⟩,fun i hi=>by omega,fun i hi=>by omega,fun i hi=>by omega⟩⟩
 ·have key:∀ i,∃ q:Int × Int × Int × ByteArray,i<n->(W.cell? ⟨b,o+i*4,none⟩=some (.int .i64 (q.1))/\W.cell? ⟨b,o+i*4+1,none⟩=some (.int .i64 (q.2.1))/\W.cell? ⟨b,o+i*4+2,none⟩=some (.int .u64 (q.2.2.1))/\W.cell? ⟨b,o+i*4+3,none⟩=some (.string (q.2.2.2)))/\0<=q.2.2.1/\q.2.2.1<18446744073709551616/\(q.2.2.2).size<=maxLen/\lD q.2.1:=by
   intro i
   by_cases hi:i<n
   ·obtain ⟨cs,y,hl,hcell,htr⟩:=hel i hi
    obtain ⟨v0,hv0⟩:∃ v,cs[0]?=some v:=⟨cs[0]'(by omega),List.getElem?_eq_getElem (by omega)⟩
    obtain ⟨n0,y0,t0⟩:=jd Tryz.underlying136 htr 0 _ rfl (by kernel_rfl) rfl hv0
    obtain ⟨z0,e0,_,w0⟩:=DataW.trod_int Tryz.underlying3 t0
    simp at e0
    subst e0
    obtain ⟨v1,hv1⟩:∃ v,cs[1]?=some v:=⟨cs[1]'(by omega),List.getElem?_eq_getElem (by omega)⟩
    obtain ⟨n1,y1,t1⟩:=jd Tryz.underlying136 htr 1 _ rfl (by kernel_rfl) rfl hv1
    obtain ⟨z1,e1,_,w1⟩:=DataW.trod_int Tryz.underlying3 t1
    simp at e1
    subst e1
    obtain ⟨v2,hv2⟩:∃ v,cs[2]?=some v:=⟨cs[2]'(by omega),List.getElem?_eq_getElem (by omega)⟩
    obtain ⟨n2,y2,t2⟩:=jd Tryz.underlying136 htr 2 _ rfl (by kernel_rfl) rfl hv2
    obtain ⟨z2,e2,_,w2⟩:=DataW.trod_int Tryz.underlying84 t2
    simp at e2
    subst e2
    obtain ⟨v3,hv3⟩:∃ v,cs[3]?=some v:=⟨cs[3]'(by omega),List.getElem?_eq_getElem (by omega)⟩
    obtain ⟨n3,y3,t3⟩:=jd Tryz.underlying136 htr 3 _ rfl (by kernel_rfl) rfl hv3
    obtain ⟨z3,e3,_,w3⟩:=DataW.trod_string Tryz.underlying9 t3
    simp at e3
    subst e3
    exact ⟨⟨z0,z1,z2,z3⟩,fun _=>⟨⟨(hcell 0 (by omega)).trans hv0,(hcell 1 (by omega)).trans hv1,(hcell 2 (by omega)).trans hv2,(hcell 3 (by omega)).trans hv3⟩,(vv w2).1,(vv w2).2,w3,Ol w1⟩⟩
   ·exact ⟨⟨0,0,0,ByteArray.empty⟩,fun h=>absurd h hi⟩
  exact ⟨fun i=>(Classical.choose (key i)).1,fun i=>(Classical.choose (key i)).2.1,fun i=>(Classical.choose (key i)).2.2.1,fun i=>(Classical.choose (key i)).2.2.2,.inr ⟨b,o,cap,rfl,hb,hcap,fun i hi=>(Classical.choose_spec (key i) hi).1⟩,fun i hi=>⟨(Classical.choose_spec (key i) hi).2.1,(Classical.choose_spec (key i) hi).2.2.1⟩,fun i hi=>(Classical.choose_spec (key i) hi).2.2.2.1,fun i hi=>(Classical.choose_spec (key i) hi).2.2.2.2⟩
theorem Ak {H:Type} {enc:TypeId × Value->H} {W:World} {sp:Nat->Bool} {hd:Bool} {fuel n cap:Nat} {a:Option Addr} {x:DataW H × List MemPlace} (h:DataW.trod enc Tryz.prog W 0 sp hd fuel 22 [.slice a n cap]=some x):
 n<=9223372036854775807/\∃ P,bY W (.slice a n cap) n P/\(∀ k,k<n->(P k).sane)/\iw n P/\∀ k,k<n->∀ j,j<(P k).nc->lD ((P k).c1 j):=by
 obtain ⟨hn,h⟩:=jF Tryz.underlying22 (show Tryz.prog.cellsOf 76=8 by kernel_rfl) (by omega) h
 refine ⟨Nat.le_trans hn uD,?_⟩
 rcases h with rfl|⟨b,o,m,rfl,hb,hcap,hel⟩
 ·exact ⟨fun _=>PV.nil,.inl ⟨rfl,_,_,rfl⟩,fun i hi=>by omega,fun i hi=>by omega,fun i hi=>by omega⟩
 ·have key:∀ i,∃ q:PV,i<n->(∃ s4 s5 s6 s7,C8 W b (o+i*8) q s4 s5 s6 s7/\PVA W q s4 s5 s6 s7)/\q.sane/\q.bitsOk/\∀ j,j<q.nc->lD (q.c1 j):=by
   intro i
   by_cases hi:i<n
   ·obtain ⟨cs,y,hl,hcell,htr⟩:=hel i hi
    have hv:∀ j,j<8->∃ v,cs[j]?=some v:=fun j hj=>⟨cs[j]'(by omega),List.getElem?_eq_getElem (by omega)⟩
    obtain ⟨v0,hv0⟩:=hv 0 (by omega)
    obtain ⟨v1,hv1⟩:=hv 1 (by omega)
    obtain ⟨v2,hv2⟩:=hv 2 (by omega)
    obtain ⟨v3,hv3⟩:=hv 3 (by omega)
    obtain ⟨v4,hv4⟩:=hv 4 (by omega)
    obtain ⟨v5,hv5⟩:=hv 5 (by omega)
    obtain ⟨v6,hv6⟩:=hv 6 (by omega)
    obtain ⟨v7,hv7⟩:=hv 7 (by omega)
    obtain ⟨_,_,t0⟩:=jd Tryz.underlying76 htr 0 _ rfl (by kernel_rfl) rfl hv0
    obtain ⟨_,_,t1⟩:=jd Tryz.underlying76 htr 1 _ rfl (by kernel_rfl) rfl hv1
    obtain ⟨_,_,t2⟩:=jd Tryz.underlying76 htr 2 _ rfl (by kernel_rfl) rfl hv2
    obtain ⟨_,_,t3⟩:=jd Tryz.underlying76 htr 3 _ rfl (by kernel_rfl) rfl hv3
    obtain ⟨_,_,t4⟩:=jd Tryz.underlying76 htr 4 _ rfl (by kernel_rfl) rfl hv4
    obtain ⟨_,_,t5⟩:=jd Tryz.underlying76 htr 5 _ rfl (by kernel_rfl) rfl hv5
    obtain ⟨_,_,t6⟩:=jd Tryz.underlying76 htr 6 _ rfl (by kernel_rfl) rfl hv6
    obtain ⟨_,_,t7⟩:=jd Tryz.underlying76 htr 7 _ rfl (by kernel_rfl) rfl hv7
    obtain ⟨z0,e0,_⟩:=DataW.trod_int Tryz.underlying3 t0
    obtain ⟨z1,e1,_⟩:=DataW.trod_int Tryz.underlying3 t1
    obtain ⟨z2,e2,_⟩:=DataW.trod_int Tryz.underlying3 t2
    obtain ⟨z3,e3,_⟩:=DataW.trod_bool Tryz.underlying4 t3
    simp at e0 e1 e2 e3
    subst e0 e1 e2 e3
    obtain ⟨a4,n4,k4,rfl⟩:=slice_form' Tryz.underlying72 t4
    obtain ⟨a5,n5,k5,rfl⟩:=slice_form' Tryz.underlying73 t5
    obtain ⟨a6,n6,k6,rfl⟩:=slice_form' Tryz.underlying74 t6
    obtain ⟨a7,n7,k7,rfl⟩:=slice_form' Tryz.underlying41 t7
    obtain ⟨l4,x0,x1,p4⟩:=JL t4
    obtain ⟨l5,y0,y1,y2,y3,p5,p5b,p5s,p5i⟩:=Ab t5
    obtain ⟨l6,i0,i1,i2,i3,p6⟩:=Gr t6
    obtain ⟨l7,j0,p7⟩:=DZ t7
    have hm:=uD
    refine ⟨⟨z0,z1,z2,z3,n4,x0,x1,n5,y0,y1,y2,y3,n6,i0,i1,i2,i3,n7,j0⟩,fun _=>⟨⟨_,_,_,_,⟨(hcell 0 (by omega)).trans hv0,(hcell 1 (by omega)).trans hv1,(hcell 2 (by omega)).trans hv2,(hcell 3 (by omega)).trans hv3,(hcell 4 (by omega)).trans hv4,(hcell 5 (by omega)).trans hv5,(hcell 6 (by omega)).trans hv6,(hcell 7 (by omega)).trans hv7⟩,⟨p4,p5,p6,p7⟩⟩,⟨?_,?_,?_,?_,fun k hk=>?_⟩,p5b,p5i⟩⟩
    ·exact Nat.le_trans l4 hm
    ·exact Nat.le_trans l5 hm
    ·exact Nat.le_trans l6 hm
    ·exact Nat.le_trans l7 hm
    ·exact Nat.le_trans (p5s k hk) hm
   ·exact ⟨PV.nil,fun h=>absurd h hi⟩
  exact ⟨fun i=>Classical.choose (key i),.inr ⟨b,o,cap,rfl,hb,hcap,fun i hi=>(Classical.choose_spec (key i) hi).1⟩,fun i hi=>(Classical.choose_spec (key i) hi).2.1,fun i hi=>(Classical.choose_spec (key i) hi).2.2.1,fun i hi=>(Classical.choose_spec (key i) hi).2.2.2⟩
set_option maxRecDepth 100000 in
theorem zD {H:Type} {enc:TypeId × Value->H} {W:World} {sp:Nat->Bool} {hd:Bool} {fuel b0:Nat} {r:Reach} {v:Value} {x:DataW H × List MemPlace} (hval:Value.okWide Tryz.prog W r b0 24 v)
 (h:DataW.trod enc Tryz.prog W 0 sp hd fuel 24 v.cells.toList=some x):
 ∃ a n cap P,v=.agg #[.slice a n cap]/\n<=9223372036854775807/\bY W (.slice a n cap) n P/\(∀ k,k<n->(P k).sane)/\iw n P/\∀ k,k<n->∀ j,j<(P k).nc->lD ((P k).c1 j):=by
 obtain ⟨cs,rfl,hsz⟩:=okWide_struct Tryz.underlying24 hval
 have h1:cs.size=1:=hsz.trans xJ
 obtain ⟨c,rfl⟩:∃ c,cs=#[c]:=by
  obtain ⟨l⟩:=cs
  match l,h1 with
  | [c],_=>exact ⟨c,rfl⟩
 obtain ⟨_,_,t0⟩:=jd Tryz.underlying24 h 0 _ rfl (by kernel_rfl) rfl (v:=c) rfl
 obtain ⟨a,n,cap,rfl⟩:=slice_form' Tryz.underlying22 t0
 obtain ⟨hn,P,h2,h3,h4,h5⟩:=Ak t0
 exact ⟨a,n,cap,P,rfl,hn,h2,h3,h4,h5⟩
end Go.Proofs.YtjibjahfbblieaaGreatDoor
