import Derived.Test.YtamdnnkdnhkghaaGreatDoorQ34
import Derived.Test.YtamdnnkdnhkghaaGreatDoorQ35
set_option maxHeartbeats 12800000
set_option maxRecDepth 100000
set_option linter.unusedVariables false
namespace Go.Proofs.YtamdnnkdnhkghaaGreatDoor
open Go Go.RowKit
theorem zlP (a:Nat):2^(3*a)<=10^a:=by
 rw [Nat.pow_mul]
 exact Nat.pow_le_pow_left (by omega) a
theorem zuG {r e:Nat} (hr:r<infW) (he:e=700):wV r<10^e:=by
 have hk:=wK_lt hr
 have hm:=wM_lt r
 unfold wV
 have h1:wM r*2^wK r<2^53*2^wK r:=Nat.mul_lt_mul_of_pos_right (by have:(2:Nat)^53=9007199254740992:=rfl;omega) (Nat.pow_pos (by omega))
 rw [<-Nat.pow_add] at h1
 have h2:2^(53+wK r)<=2^(3*e):=Nat.pow_le_pow_right (by omega) (by omega)
 exact Nat.lt_of_lt_of_le h1 (Nat.le_trans h2 (zlP e))
theorem Ex.range {r c N P l:Nat} (hc:c=1074) (h0:0<r) (hr:r<infW) (h:Ex (wV r) c N P l):l<=P+700/\P<l+400:=by
 obtain ⟨e,he⟩:∃ e,e=700:=⟨_,rfl⟩
 obtain ⟨f,hf⟩:∃ f,f=400:=⟨_,rfl⟩
 have hV:=zuG hr he
 have hV0:0<wV r:=zeo (by omega)
 have hv:=h.val
 have hlo:=h.lo
 have hhi:=h.hi
 have hcf:2^c<=10^f:=Nat.le_trans (Nat.pow_le_pow_right (by omega) (by omega)) (zlP f)
 have hc1:0<2^c:=Nat.pow_pos (by omega)
 rw [<-he,<-hf]
 clear hc hr h0 h
 refine ⟨?_,?_⟩
 ·rcases Nat.lt_or_ge (P+e) l with g|g
  ·exfalso
   have a1:10^(P+e)<=10^(l-1):=Nat.pow_le_pow_right (by omega) (by omega)
   rw [Nat.pow_add] at a1
   have a2:10^P*10^e<=N:=Nat.le_trans a1 hlo
   have a3:N<=N*2^c:=Nat.le_mul_of_pos_right _ hc1
   have a4:wV r*10^P<10^e*10^P:=Nat.mul_lt_mul_of_pos_right hV (Nat.pow_pos (by omega))
   rw [Nat.mul_comm] at a2
   clear hf he hcf hhi hlo a1
   generalize 10^e*10^P=z at *
   generalize wV r*10^P=y at *
   generalize N*2^c=x at *
   omega
  exact g
 rcases Nat.lt_or_ge P (l+f) with g|g
 ·exact g
 exfalso
 have a1:10^(l+f)<=10^P:=Nat.pow_le_pow_right (by omega) g
 rw [Nat.pow_add] at a1
 have a2:N*2^c<10^l*2^c:=Nat.mul_lt_mul_of_pos_right hhi hc1
 have a3:10^l*2^c<=10^l*10^f:=Nat.mul_le_mul_left _ hcf
 have a4:10^P<=wV r*10^P:=Nat.le_mul_of_pos_left _ hV0
 clear he hf hcf hV hlo
 generalize 10^l*10^f=z at *
 generalize 10^l*2^c=z2 at *
 generalize wV r*10^P=y at *
 generalize N*2^c=x at *
 omega
def SShoR (r c:Nat) (w:World) (e:Ending) (w':World):Prop:=
 ∃ (n d:Nat) (q:Int) (v':Value),e=.returned (.tuple #[v',.int .i64 ((n:Int)-1-q)])/\Byt w' v' (digL d n)/\First r c n d q/\ -400<=(n:Int)-1-q/\(n:Int)-1-q<=700/\Below w.heap.size w w'
theorem Byt.under {w w':World} {v:Value} {l:List Int} (h:Byt w v l) (hb:Below w.heap.size w w'):Byt w' v l:=by
 obtain ⟨g,cap,rfl,h2,h3,h4,h5⟩:=h
 exact ⟨g,cap,rfl,h2,h3,Nat.lt_of_lt_of_le h4 hb.size,fun j hj=>(hb.cell (p:=⟨g,j,none⟩) h4).trans (h5 j hj)⟩
theorem zgt (d n:Nat):∀ c∈digL d n,48<=c/\c<=57:=fun c hc=>zcd c hc
theorem zkQ (r c:Nat) (w:World) (hc:c=1074) (h0:0<r) (hr:r<infW):
 Calls Tryz.prog 92 #[.int .u64 r] w fun e w'=>SShoR r c w e w':=by
 have HE:=hide (fun w=>zrw r w h0 hr)
 have Hr:=hide hr
 have H0:=hide h0
 have Hc:=hide hc
 clear hr h0 hc
 go_enter Tryz.func92,Tryz.ntmps92
 go_wp2_with fail
 refine (HE.out _).mono ?_
 rintro e w1 ⟨v,N,P,rfl,hbyt,hval,hN0,hP,hlen,hb1⟩
 obtain ⟨l,hl1,hlo,hhi⟩:=znC hN0
 rw [digN_digL hl1 hlo hhi] at hbyt hlen
 rw [zaa] at hlen
 have HX:Hid (Ex (wV r) c N P l):=hide ⟨hl1,hlo,hhi,hval c Hc.out⟩
 have hrg:=HX.out.range Hc.out H0.out Hr.out
 have Hhi:=hide hhi
 have Hb1:=hide hb1
 clear hval hlo hhi hb1
 have HBY:=hide hbyt
 obtain ⟨g,cap,hv,h2,h3,h4,h5⟩:=hbyt
 rw [zaa] at hv h2 h5
 subst hv
 unfold maxLen at h3
 clear h5
 go_wp2
 go_loopw [7] (fun kv wr=>∃ k:Nat,kv=.int .i64 k/\1<=k/\k<=17/\k<=l/\Hid (∀ m d' q',1<=m->m<k->Fmt (wV r) c m d' q'->¬ zam d' (-q') r)/\Below w1.heap.size w1 wr) (fun kv _=>18-(intOf kv).toNat)
 case atStart=>exact ⟨1,rfl,by omega,by omega,hl1,hide (fun m d' q' h1 h2=>by omega),Below.refl _ _⟩
 obtain ⟨k,rfl,hk1,hk17,hkl,Hl,hb⟩:=hrel
 have Hb0:=hide hb
 have Hb:=hide (bt Hb1.out hb)
 by_cases hend:k=l
 ·have Hby:Hid (Byt wr (.slice (some ⟨g,0,none⟩) l cap) (digL N l)):=hide (HBY.out.under hb)
  clear hb
  subst hend
  go_wp2
  go_ret2
  exact ⟨k,N,P,_,rfl,Hby.out,⟨hk1,hk17,HX.out.whole,HX.out.back Hc.out H0.out Hr.out,Hl.out⟩,by omega,by omega,Hb.out⟩
 have HR:=hide (zsU N l k _ wr (HBY.out.under hb) Hhi.out hk1 (by omega) hk17 hlen)
 have Hrd:=hide (HX.out.round hk1 hkl)
 have hlt:k<l:=by omega
 clear hb hend
 go_wp2_with fail
 refine HR.out.mono ?_
 rintro e w2 hrou
 rcases hrou with ⟨hne,v',rfl,hby2,hb2⟩|⟨heq,v',rfl,hby2,hb2⟩
 ·have Hf:=hide (Hrd.out.2.2 hne)
  obtain ⟨d,hd⟩:∃ d,d=rq N (10^(l-k)):=⟨_,rfl⟩
  rw [<-hd] at Hf
  clear hne
  have Hb2:=hide (bt Hb.out hb2)
  have Hc2:=hide (bt Hb0.out hb2)
  have HB2:=hide hby2
  rw [<-hd] at HB2
  obtain ⟨g2,c2,hv2,_⟩:=hby2
  rw [zaa] at hv2
  subst hv2
  have HN:=hide (fun E h1 h2=>zaV (digL d k) E _ w2 HB2.out (by rw [zaa];omega) (zgt d k) h1 h2)
  rw [zeg Hf.out.hi] at HN
  have Hun:Hid (∀ d' q',Fmt (wV r) c k d' q'->d'=d/\q'=(P:Int)-l+k):=hide (fun d' q' h=>h.unique hk1 Hf.out)
  clear hd hb2 HR Hrd
  go_wp2_with fail
  refine (HN.out _ (by omega) (by omega)).mono ?_
  rintro e w3 ⟨W,ok,W0,rfl,hdec,hok,hW,hb3⟩
  have eE:(l:Int)-1-P-k+1= -((P:Int)-l+k):=by omega
  rw [eE] at hdec
  have Hdec:=hide hdec
  have Hb3:=hide (bt Hb2.out hb3)
  have Hc3:=hide (bt Hc2.out hb3)
  have HB3:Hid (Byt w3 (.slice (some ⟨g2,0,none⟩) k c2) (digL d k)):=hide (HB2.out.under hb3)
  clear hdec hb3 eE HN
  by_cases hWr:W0=r
  ·have hok2:ok=true:=by
    rw [hok,hWr]
    have:=Hr.out
    simp
    omega
   have hW2:W=r:=(hW hok2).trans hWr
   rw [hWr] at Hdec
   clear hok hW hWr
   subst hok2 hW2
   go_wp2
   go_ret2
   refine ⟨k,d,(P:Int)-l+k,_,?_,HB3.out,⟨hk1,hk17,Hf.out,Hdec.out,Hl.out⟩,by omega,by omega,Hb3.out⟩
   have e9:(k:Int)-1-((P:Int)-l+k)=(l:Int)-1-P:=by omega
   rw [e9]
   rfl
  have Hstep:Hid (∀ m d' q',1<=m->m<k+1->Fmt (wV r) c m d' q'->¬ zam d' (-q') r):=hide (fun m d' q' h1 h2 hf hd=>by
   rcases Nat.lt_or_ge m k with g|g
   ·exact Hl.out m d' q' h1 g hf hd
   obtain rfl:m=k:=by omega
   obtain ⟨rfl,rfl⟩:=Hun.out d' q' hf
   exact hWr (Hdec.out.unique hd))
  have hk16:k<17:=by
   rcases Nat.lt_or_ge k 17 with g|g
   ·exact g
   exfalso
   obtain rfl:k=17:=by omega
   exact hWr (Hdec.out.unique (Hf.out.back17 Hc.out H0.out Hr.out))
  cases ok with
  |false=>
   clear hok hW hWr
   go_wp2
   go_roundw
   case rel=>exact ⟨k+1,by go_num,by omega,by omega,by omega,Hstep,Hc3.out⟩
   case measure=>simp [intOf];omega
  |true=>
   have hW3:¬ ((W:Int)=(r:Int)):=fun hh=>hWr (by rw [<-hW rfl];omega)
   clear hok hW hWr
   go_wp2
   go_roundw
   case rel=>exact ⟨k+1,by go_num,by omega,by omega,by omega,Hstep,Hc3.out⟩
   case measure=>simp [intOf];omega
 have Hf:=hide (Hrd.out.2.1 heq)
 obtain ⟨d,hd⟩:∃ d,d=10^(k-1):=⟨_,rfl⟩
 rw [<-hd] at Hf
 clear heq
 have Hb2:=hide (bt Hb.out hb2)
 have Hc2:=hide (bt Hb0.out hb2)
 have HB2:=hide hby2
 rw [<-hd] at HB2
 obtain ⟨g2,c2,hv2,_⟩:=hby2
 rw [zaa] at hv2
 subst hv2
 have HN:=hide (fun E h1 h2=>zaV (digL d k) E _ w2 HB2.out (by rw [zaa];omega) (zgt d k) h1 h2)
 rw [zeg Hf.out.hi] at HN
 have Hun:Hid (∀ d' q',Fmt (wV r) c k d' q'->d'=d/\q'=(P:Int)-l+k-1):=hide (fun d' q' h=>h.unique hk1 Hf.out)
 clear hd hb2 HR Hrd
 go_wp2_with fail
 refine (HN.out _ (by omega) (by omega)).mono ?_
 rintro e w3 ⟨W,ok,W0,rfl,hdec,hok,hW,hb3⟩
 have eE:(l:Int)-1-P+1-k+1= -((P:Int)-l+k-1):=by omega
 rw [eE] at hdec
 have Hdec:=hide hdec
 have Hb3:=hide (bt Hb2.out hb3)
 have Hc3:=hide (bt Hc2.out hb3)
 have HB3:Hid (Byt w3 (.slice (some ⟨g2,0,none⟩) k c2) (digL d k)):=hide (HB2.out.under hb3)
 clear hdec hb3 eE HN
 by_cases hWr:W0=r
 ·have hok2:ok=true:=by
   rw [hok,hWr]
   have:=Hr.out
   simp
   omega
  have hW2:W=r:=(hW hok2).trans hWr
  rw [hWr] at Hdec
  clear hok hW hWr
  subst hok2 hW2
  go_wp2
  go_ret2
  refine ⟨k,d,(P:Int)-l+k-1,_,?_,HB3.out,⟨hk1,hk17,Hf.out,Hdec.out,Hl.out⟩,by omega,by omega,Hb3.out⟩
  have e9:(k:Int)-1-((P:Int)-l+k-1)=(l:Int)-1-P+1:=by omega
  rw [e9]
  rfl
 have Hstep:Hid (∀ m d' q',1<=m->m<k+1->Fmt (wV r) c m d' q'->¬ zam d' (-q') r):=hide (fun m d' q' h1 h2 hf hd=>by
  rcases Nat.lt_or_ge m k with g|g
  ·exact Hl.out m d' q' h1 g hf hd
  obtain rfl:m=k:=by omega
  obtain ⟨rfl,rfl⟩:=Hun.out d' q' hf
  exact hWr (Hdec.out.unique hd))
 have hk16:k<17:=by
  rcases Nat.lt_or_ge k 17 with g|g
  ·exact g
  exfalso
  obtain rfl:k=17:=by omega
  exact hWr (Hdec.out.unique (Hf.out.back17 Hc.out H0.out Hr.out))
 cases ok with
 |false=>
  clear hok hW hWr
  go_wp2
  go_roundw
  case rel=>exact ⟨k+1,by go_num,by omega,by omega,by omega,Hstep,Hc3.out⟩
  case measure=>simp [intOf];omega
 |true=>
  have hW3:¬ ((W:Int)=(r:Int)):=fun hh=>hWr (by rw [<-hW rfl];omega)
  clear hok hW hWr
  go_wp2
  go_roundw
  case rel=>exact ⟨k+1,by go_num,by omega,by omega,by omega,Hstep,Hc3.out⟩
  case measure=>simp [intOf];omega
end Go.Proofs.YtamdnnkdnhkghaaGreatDoor
