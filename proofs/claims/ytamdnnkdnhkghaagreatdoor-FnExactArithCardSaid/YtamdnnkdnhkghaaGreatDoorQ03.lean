import Derived.RowKit
import Derived.Test.YtamdnnkdnhkghaaGreatDoorQ02
set_option maxHeartbeats 12800000
set_option maxRecDepth 100000
set_option linter.unusedVariables false
namespace Go.Proofs.YtamdnnkdnhkghaaGreatDoor
theorem zgA (N:Nat) {d:Nat} (hd:0<d):∃ W,IsRnd N d W:=by
 have key:∀ m,(∃ k,k<=m/\N<d*2^(53+k))->∃ k,N<d*2^(53+k)/\(k=0∨d*2^(52+k)<=N):=by
  intro m
  induction m with
  |zero=>rintro ⟨k,hk,h⟩;exact ⟨k,h,.inl (by omega)⟩
  |succ m ih=>
   rintro ⟨k,hk,h⟩
   by_cases h0:k=0
   ·exact ⟨k,h,.inl h0⟩
   by_cases hle:d*2^(52+k)<=N
   ·exact ⟨k,h,.inr hle⟩
   refine ih ⟨k-1,by omega,?_⟩
   have:53+(k-1)=52+k:=by omega
   rw [this];omega
 obtain ⟨k,h1,h2⟩:=key N ⟨N,Nat.le_refl _,by
  have h1:N<2^N:=Nat.lt_two_pow_self
  have h2:2^N<=2^(53+N):=Nat.pow_le_pow_right (by omega) (by omega)
  have h3:1*2^(53+N)<=d*2^(53+N):=Nat.mul_le_mul_right _ hd
  omega⟩
 exact ⟨_,k,h1,h2,rfl⟩
theorem rq_ge (N D:Nat):N/D<=rq N D:=by unfold rq;omega
theorem zbV {N d:Nat} (h:2*N<d):IsRnd N d 0:=by
 refine ⟨0,?_,.inl rfl,?_⟩
 ·have:d*1<=d*2^(53+0):=Nat.mul_le_mul_left _ (Nat.one_le_two_pow)
  omega
 have e1:d*2^0=d:=by simp
 rw [e1]
 unfold rq
 rw [Nat.div_eq_of_lt (by omega),Nat.mod_eq_of_lt (by omega),if_neg (by omega)]
 simp
theorem zoA {N d W a:Nat} (hd:0<d) (ha:2098<=a) (h:d*2^a<=N) (hw:IsRnd N d W):W=infW:=by
 obtain ⟨k,h1,h2,h3⟩:=hw
 have hk:2046<=k:=by
  refine Nat.le_of_not_lt fun hlt=>?_
  have hka:53+k<=a:=by clear h h1 h2 h3;omega
  have:d*2^(53+k)<=d*2^a:=Nat.mul_le_mul_left _ (Nat.pow_le_pow_right (Nat.succ_pos 1) hka)
  exact Nat.lt_irrefl _ (Nat.lt_of_lt_of_le h1 (Nat.le_trans this h))
 have h4:d*2^(52+k)<=N:=by
  rcases h2 with h2|h2
  ·clear h h1 h3;omega
  exact h2
 clear h h1 h2
 have h5:4503599627370496<=N/(d*2^k):=by
  rw [Nat.le_div_iff_mul_le (Nat.mul_pos hd (Nat.pow_pos (Nat.succ_pos 1)))]
  have e:4503599627370496*(d*2^k)=d*2^(52+k):=by
   rw [Nat.pow_add];exact Nat.mul_left_comm _ _ _
  rw [e];exact h4
 have h6:=rq_ge N (d*2^k)
 generalize rq N (d*2^k)=x at *
 generalize N/(d*2^k)=y at *
 clear h4 hd
 rw [h3]
 unfold infW
 omega
def dval (l:List Int):Nat:=l.foldl (fun a c=>a*10+(c-48).toNat) 0
theorem zb4 (l:List Int) (c:Int):dval (l++[c])=dval l*10+(c-48).toNat:=by simp [dval,List.foldl_append]
def zaC (n:Nat):Nat:=if h:n=0 then 0 else zaC (n/10)+1
termination_by n
decreasing_by omega
theorem size10_zero:zaC 0=0:=by rw [zaC];simp
theorem zcC {n:Nat} (h:n≠0):zaC n=zaC (n/10)+1:=by rw [zaC];simp [h]
theorem zcW (n c:Nat) (hc:c<10):zaC (n*10+c)=if n*10+c=0 then 0 else zaC n+1:=by
 by_cases h:n*10+c=0
 ·rw [h,size10_zero];simp
 rw [zcC h,if_neg h]
 have:(n*10+c)/10=n:=by omega
 rw [this]
theorem zce (n:Nat):n<10^zaC n:=by
 induction n using Nat.strongRecOn with
 |ind n ih=>
  by_cases h:n=0
  ·subst h;rw [size10_zero];simp
  rw [zcC h,Nat.pow_succ]
  have:=ih (n/10) (by omega)
  omega
theorem zdX {n:Nat} (h:n≠0):10^(zaC n-1)<=n:=by
 induction n using Nat.strongRecOn with
 |ind n ih=>
  rw [zcC h]
  by_cases h2:n/10=0
  ·rw [h2,size10_zero];simp;omega
  have:=ih (n/10) (by omega) h2
  have hp:zaC (n/10)≠0:=by rw [zcC h2];omega
  obtain ⟨m,hm⟩:=Nat.exists_eq_succ_of_ne_zero hp
  rw [hm] at this ⊢
  simp only [Nat.succ_eq_add_one,Nat.add_sub_cancel,Nat.pow_succ] at this ⊢
  omega
theorem zbX (l:List Int) (h:∀ c∈l,48<=c/\c<=57):zaC (dval l)<=l.length:=by
 have key:∀ (l:List Int) (a:Nat),(∀ c∈l,48<=c/\c<=57)->zaC (l.foldl (fun a c=>a*10+(c-48).toNat) a)<=zaC a+l.length:=by
  intro l
  induction l with
  |nil=>intro a _;simp
  |cons c r ih=>
   intro a hc
   have h1:=hc c (by simp)
   have h2:=ih (a*10+(c-48).toNat) (fun x hx=>hc x (by simp [hx]))
   have h3:=zcW a (c-48).toNat (by omega)
   simp only [List.foldl_cons,List.length_cons]
   split at h3<;>omega
 have:=key l 0 h
 rw [size10_zero] at this
 unfold dval
 omega
theorem zgK {N a b:Nat} {E:Int} (h3:2*2^b<10^a) (h:(zaC N:Int)+E< -(a:Int)):IsRnd (N*10^E.toNat*2^b) (10^(-E).toNat) 0:=by
 refine zbV ?_
 have hE:E.toNat=0:=by omega
 rw [hE,Nat.pow_zero,Nat.mul_one]
 have h1:=zce N
 have h2:10^zaC N*10^a<=10^(-E).toNat:=by
  rw [<-Nat.pow_add];exact Nat.pow_le_pow_right (by omega) (by omega)
 refine Nat.lt_of_lt_of_le ?_ h2
 have e:2*(N*2^b)=N*(2*2^b):=Nat.mul_left_comm _ _ _
 rw [e]
 exact Nat.lt_of_le_of_lt (Nat.mul_le_mul_right _ (Nat.le_of_lt h1)) (Nat.mul_lt_mul_of_pos_left h3 (Nat.pow_pos (by omega)))
theorem pow_fact1:2*2^1074<10^330:=by decide+kernel
theorem zn1 {N:Nat} {E:Int} (h:(zaC N:Int)+E< -330):IsRnd (N*10^E.toNat*2^1074) (10^(-E).toNat) 0:=
 zgK (a:=330) (b:=1074) pow_fact1 (by omega)
theorem zl2 {N W a b c:Nat} {E:Int} (hc:2098<=c) (h3:2^c<=10^a*2^b) (hN:N≠0) (h:(a:Int)<(zaC N:Int)+E) (hw:IsRnd (N*10^E.toNat*2^b) (10^(-E).toNat) W):W=infW:=by
 refine zoA (Nat.pow_pos (by omega)) hc ?_ hw
 have h1:=zdX hN
 have h4:10^(-E).toNat*10^a<=10^(zaC N-1)*10^E.toNat:=by
  rw [<-Nat.pow_add,<-Nat.pow_add];exact Nat.pow_le_pow_right (by omega) (by omega)
 refine Nat.le_trans (Nat.mul_le_mul_left _ h3) ?_
 rw [<-Nat.mul_assoc]
 exact Nat.le_trans (Nat.mul_le_mul_right _ h4) (Nat.mul_le_mul_right _ (Nat.mul_le_mul_right _ h1))
theorem pow_fact2:2^2098<=10^310*2^1074:=by decide+kernel
theorem zqa {N W:Nat} {E:Int} (hN:N≠0) (h:310<(zaC N:Int)+E) (hw:IsRnd (N*10^E.toNat*2^1074) (10^(-E).toNat) W):W=infW:=
 zl2 (a:=310) (b:=1074) (c:=2098) (by omega) pow_fact2 hN (by omega) hw
end Go.Proofs.YtamdnnkdnhkghaaGreatDoor
namespace Go.Proofs.YtamdnnkdnhkghaaGreatDoor
open Go Go.RowKit
def Byt (w:World) (v:Value) (l:List Int):Prop:=
 ∃ g cap,v=.slice (some ⟨g,0,none⟩) l.length cap/\l.length<=cap/\cap<=maxLen/\g<w.heap.size/\
   ∀ j,j<l.length->w.cell? ⟨g,j,none⟩=some (.int .u8 (l.getD j 0))
def zam (N:Nat) (E:Int) (W:Nat):Prop:=IsRnd (N*10^E.toNat*2^1074) (10^(-E).toNat) W
theorem zlB (a b d:Nat) (hd:0<d):IsRnd (0*a*b) d 0:=by
 rw [Nat.zero_mul,Nat.zero_mul];exact zbV (by omega)
theorem zdS (E:Int):zam 0 E 0:=zlB _ _ _ (Nat.pow_pos (by omega))
theorem ze6 {N:Nat} {E:Int} (h:(zaC N:Int)+E< -330):zam N E 0:=zn1 h
theorem zdH {N:Nat} {E:Int} (hN:N≠0) (h:310<(zaC N:Int)+E):zam N E infW:=by
 obtain ⟨W,hW⟩:=zgA (N*10^E.toNat*2^1074) (d:=10^(-E).toNat) (Nat.pow_pos (by omega))
 have:=zqa hN h hW
 subst this
 exact hW
theorem zks {N:Nat} {E:Int} {W:Nat} (h:IsRnd (N*10^E.toNat*2^((0:Int)+1074).toNat) (10^(-E).toNat*2^(-1074-(0:Int)).toNat) W):zam N E W:=by
 unfold zam
 have e1:((0:Int)+1074).toNat=1074:=rfl
 have e2:(-1074-(0:Int)).toNat=0:=rfl
 rw [e1,e2,Nat.pow_zero,Nat.mul_one] at h
 exact h
theorem zrG {N a k:Nat} (h:zaC N+a<=k):(dig (N*10^a)).length<=k:=by
 have h0:=zce N
 have h1:N*10^a<10^(zaC N+a):=by rw [Nat.pow_add];exact Nat.mul_lt_mul_of_pos_right h0 (Nat.pow_pos (by omega))
 exact zaA (Nat.lt_of_lt_of_le h1 (Nat.le_trans (Nat.pow_le_pow_right (by omega) h) (Nat.pow_le_pow_left (by omega) k)))
theorem zer {l:List Int} {k:Nat} (h:k<l.length):l.getD k 0∈l:=by rw [zaz h];exact List.getElem_mem h
theorem zfJ {l:List Int} {k:Nat} (h:k<l.length):dval (l.take (k+1))=dval (l.take k)*10+(l.getD k 0-48).toNat:=by
 rw [List.take_succ_eq_append_getElem h,zb4,zaz h]
theorem zcm {n:Nat}:0<(dig n).length↔n≠0:=by
 constructor
 ·intro h e;subst e;rw [dig_zero] at h;simp at h
 intro h;rw [zb8 h];simp
theorem zdJ (w:World):Big (w.alloc (.cells #[.int .i64 1] 3)) (.slice (some ⟨w.heap.size,0,none⟩) 1 1) (dig 1):=by
 have e:dig 1=[1]:=by rw [zb8 (by omega)];simp [dig_zero]
 rw [e]
 exact zbw (B:=w.heap.size) (World.ownsRow_lit (base:=w.heap.size) (e:=3) (size:=1) w #[.int .i64 1] 1 (Nat.le_refl _) (by simp [maxLen]) rfl) (fun h=>by cases h)
theorem zie (n k:Nat) (K:Int) (hK:K=(k:Int)) (v:Value) (w:World) (h:Big w v (dig n)) (hn:n≠0) (hl:(dig n).length+k<=100000):
 Calls Tryz.prog 167 #[v,.int .i64 K] w fun e w'=>∃ v',e=.returned v'/\Big w' v' (dig (n*10^k))/\Below w.heap.size w w':=by
 subst hK;exact zoa n k v w h hn hl
def NearR (w:World) (N:Nat) (E:Int) (e:Ending) (w':World):Prop:=
 ∃ (W:Nat) (ok:Bool) (W0:Nat),e=.returned (.tuple #[.int .u64 W,.bool ok])/\zam N E W0/\ok=(W0 !=infW)/\(ok=true->W=W0)/\Below w.heap.size w w'
theorem zcN {w:World} {N:Nat} {E:Int} {e:Ending} {w':World} (W:Nat) (ok:Bool) (W0:Nat) (h1:e=.returned (.tuple #[.int .u64 W,.bool ok])) (h2:zam N E W0) (h3:ok=(W0 !=infW)) (h4:ok=true->W=W0)
 (h5:Below w.heap.size w w'):NearR w N E e w':=⟨W,ok,W0,h1,h2,h3,h4,h5⟩
theorem zaV (l:List Int) (E:Int) (v:Value) (w:World) (h:Byt w v l) (hl:l.length<=101) (hd:∀ c∈l,48<=c/\c<=57) (hE1: -1200<=E) (hE2:E<=1200):
 Calls Tryz.prog 118 #[v,.int .i64 E] w fun e w'=>NearR w (dval l) E e w':=by
 obtain ⟨g,cap,rfl,h2,h3,h4,h5⟩:=h
 unfold maxLen at h3
 have Hd:=hide hd
 have Hsz:=hide (zbX l hd)
 clear hd
 have Htl:Hid (l.take l.length=l):=hide (List.take_length)
 generalize hlen:l.length=len at *
 have Hlen:=hide hlen
 clear hlen
 go_enter Tryz.func118,Tryz.ntmps118
 go_wp2
 go_loopw [6,7,15] (fun nv sv iv wr=>∃ k N s:Nat,k<=len/\iv=.int .i64 k/\Hid (N=dval (l.take k))/\Big wr nv (dig N)/\sv=.int .i64 s/\s<=k/\Hid (s=zaC N)/\(dig N).length<=k/\Below w.heap.size w wr) (fun _ _ iv _=>len-(intOf iv).toNat)
 case atStart=>
  exact ⟨0,0,0,Nat.zero_le _,rfl,hide rfl,by rw [dig_zero];exact (zdt w).big,rfl,Nat.le_refl _,hide (by rw [size10_zero]),by rw [dig_zero];simp,(Below.refl _ _).alloc (Nat.le_refl _) _⟩
 obtain ⟨k,N,s,hk,rfl,HN,hbig,rfl,hsk,Hs,hlN,hb⟩:=hrel
 by_cases hlt:k<len
 ·have hcx:wr.cell? ⟨g,k,none⟩=some (.int .u8 (l.getD k 0)):=(hb.cell (by exact h4)).trans (h5 k (by omega))
  have hc:=Hd.out _ (zer (l:=l) (k:=k) (by rw [Hlen.out];exact hlt))
  have HS:=hide (zfJ (l:=l) (k:=k) (by rw [Hlen.out];exact hlt))
  generalize l.getD k 0=c at *
  go_wp2_with fail
  refine (za1 N 10 (c-48).toNat _ _ rfl (by omega) _ _ hbig (by omega) (by omega) (by omega)).mono ?_
  rintro e w1 ⟨v1,rfl,hbig1,hb1⟩
  have hlen1:(dig (N*10+(c-48).toNat)).length<=k+1:=zaA (by
   have h1:=zbe N
   have h2:10000^(dig N).length<=10000^k:=Nat.pow_le_pow_right (by omega) hlN
   rw [Nat.pow_succ];omega)
  have HN1:Hid (N*10+(c-48).toNat=dval (l.take (k+1))):=hide (by rw [HS.out,HN.out])
  have Hs1:=hide (zcW N (c-48).toNat (by omega))
  have Hp:=hide (zcm (n:=N*10+(c-48).toNat))
  have HNz:Hid (N*10+(c-48).toNat=0->N=0):=hide (by omega)
  generalize N*10+(c-48).toNat=N1 at *
  obtain ⟨g1,cap1,hv1⟩:=hbig1.len
  subst hv1
  by_cases hp:0<(dig N1).length
  ·go_wp2
   go_roundw
   case rel=>exact ⟨k+1,N1,s+1,by omega,by go_num,HN1,hbig1,by go_num,by omega,hide (by rw [Hs1.out,if_neg (Hp.out.1 hp),Hs.out]),hlen1,bt hb hb1⟩
   case measure=>simp [intOf];omega
  have hN0:N1=0:=Decidable.byContradiction fun hh=>hp (Hp.out.2 hh)
  have HN0:=hide hN0
  clear hN0
  have Hs0:Hid (s=zaC N1):=hide (by
   have h1:=HNz.out HN0.out
   rw [Hs.out,HN0.out,h1])
  go_wp2
  go_roundw
  case rel=>exact ⟨k+1,N1,s,by omega,by go_num,HN1,hbig1,rfl,by omega,Hs0,hlen1,bt hb hb1⟩
  case measure=>simp [intOf];omega
 have hkl:k=len:=by omega
 subst hkl
 have HNl:Hid (N=dval l):=hide (by rw [HN.out,Htl.out])
 obtain ⟨g1,cap1,hv1⟩:=hbig.len
 subst hv1
 by_cases hN0:N=0
 ·have hz:(((dig N).length:Int)==0)=true:=by rw [hN0,dig_zero];rfl
  have HN0:=hide hN0
  clear hN0
  go_wp2
  go_ret2
  exact zcN 0 true 0 rfl (by rw [<-HNl.out,HN0.out];exact zdS E) rfl (fun _=>rfl) hb
 have hpos:=zcm.2 hN0
 have hz:(((dig N).length:Int)==0)=false:=by rw [beq_eq_false_iff_ne];omega
 have HN0:=hide hN0
 clear hN0
 by_cases hlo:(s:Int)+E< -330
 ·go_wp2
  go_ret2
  exact zcN 0 true 0 rfl (by rw [<-HNl.out];exact ze6 (by rw [<-Hs.out];exact hlo)) rfl (fun _=>rfl) hb
 by_cases hhi:310<(s:Int)+E
 ·go_wp2
  go_ret2
  exact zcN 0 false infW rfl (by rw [<-HNl.out];exact zdH HN0.out (by rw [<-Hs.out];exact hhi)) (by simp) (fun h=>by cases h) hb
 by_cases hE:0<=E
 ·go_wp2_with fail
  refine (zie N E.toNat _ (by omega) _ _ (hbig.below ((Below.refl _ _).alloc (Nat.le_refl _) _)) HN0.out (by omega)).mono ?_
  rintro e w1 ⟨v1,rfl,hg1,hb1⟩
  have hlen1:(dig (N*10^E.toNat)).length<=1000:=Nat.le_trans (zrG (N:=N) (a:=E.toNat) (k:=310) (by rw [<-Hs.out];omega)) (by omega)
  have hone:=(zdJ wr).below hb1
  go_wp2_with fail
  refine (zfm (N*10^E.toNat) 1 0 _ _ _ hg1 hone (by omega) hlen1 (by have:=zaA (n:=1) (k:=1) (by omega);omega) (by omega) (by omega) (Nat.mul_ne_zero HN0.out (Nat.pos_iff_ne_zero.1 (Nat.pow_pos (by omega))))).mono ?_
  rintro e w2 ⟨W,rfl,hW,hb2⟩
  have HW:Hid (zam (dval l) E W):=hide (by
   refine zks (N:=dval l) (E:=E) ?_
   have e1:(-E).toNat=0:=by omega
   rw [e1,<-HNl.out]
   exact hW)
  clear hW
  have hb012:Below wr.heap.size wr w2:=((((Below.refl _ _).alloc (Nat.le_refl _) _).trans (hb1.mono (by simp))).trans (hb2.mono (by have:=hb1.size;simp at this;omega)))
  by_cases hWi:W=infW
  ·have hwb:((W:Int) !=9218868437227405312)=false:=by rw [hWi];rfl
   have HWi:=hide hWi
   clear hWi
   go_wp2
   go_ret2
   exact zcN W false W rfl HW.out (by rw [HWi.out];simp) (fun h=>by cases h) (bt hb hb012)
  have hwb:((W:Int) !=9218868437227405312)=true:=by rw [bne_iff_ne];unfold infW at hWi;omega
  have HWi:=hide hWi
  clear hWi
  go_wp2
  go_ret2
  exact zcN W true W rfl HW.out (by have:=HWi.out;simp [this]) (fun _=>rfl) (bt hb hb012)
 go_wp2_with fail
 refine (zie 1 (-E).toNat _ (by omega) _ _ (zdJ wr) (by omega) (by have:=zaA (n:=1) (k:=1) (by omega);omega)).mono ?_
 rintro e w1 ⟨v1,rfl,hg1,hb1⟩
 have hlen1:(dig (1*10^(-E).toNat)).length<=2000:=by
  have h1:=zdE 1 (-E).toNat
  have h2:=zaA (n:=1) (k:=1) (by omega)
  omega
 have hn1:=(hbig.below ((Below.refl _ _).alloc (Nat.le_refl _) (.cells #[.int .i64 1] 3))).below hb1
 go_wp2_with fail
 refine (zfm N (1*10^(-E).toNat) 0 _ _ _ hn1 hg1 (Nat.mul_ne_zero (by omega) (Nat.pos_iff_ne_zero.1 (Nat.pow_pos (by omega)))) (by omega) hlen1 (by omega) (by omega) HN0.out).mono ?_
 rintro e w2 ⟨W,rfl,hW,hb2⟩
 have HW:Hid (zam (dval l) E W):=hide (by
  refine zks (N:=dval l) (E:=E) ?_
  have e1:E.toNat=0:=by omega
  rw [e1,<-HNl.out,Nat.pow_zero,Nat.mul_one]
  rw [Nat.one_mul] at hW
  exact hW)
 clear hW
 have hb012:Below wr.heap.size wr w2:=((((Below.refl _ _).alloc (Nat.le_refl _) _).trans (hb1.mono (by simp))).trans (hb2.mono (by have:=hb1.size;simp at this;omega)))
 by_cases hWi:W=infW
 ·have hwb:((W:Int) !=9218868437227405312)=false:=by rw [hWi];rfl
  have HWi:=hide hWi
  clear hWi
  go_wp2
  go_ret2
  exact zcN W false W rfl HW.out (by rw [HWi.out];simp) (fun h=>by cases h) (bt hb hb012)
 have hwb:((W:Int) !=9218868437227405312)=true:=by rw [bne_iff_ne];unfold infW at hWi;omega
 have HWi:=hide hWi
 clear hWi
 go_wp2
 go_ret2
 exact zcN W true W rfl HW.out (by have:=HWi.out;simp [this]) (fun _=>rfl) (bt hb hb012)
theorem zfq (x k:Nat):x%10000^(k+1)=x%10000^k+10000^k*(x/10000^k%10000):=by
 rw [Nat.pow_succ,Nat.mod_mul]
theorem znE {x y k c dx dy:Nat} {L:List Int} (hL:L.length=k) (hx:dx=x/10000^k%10000) (hy:dy=y/10000^k%10000) (h:nval L+10000^k*c=x%10000^k+y%10000^k) (d c':Nat) (hd:d+10000*c'=c+dx+dy):
 nval (L++[(d:Int)])+10000^(k+1)*c'=x%10000^(k+1)+y%10000^(k+1):=by
 rw [zbC,hL,zfq,zfq,<-hx,<-hy]
 have e:nval [(d:Int)]=d:=by simp [nval]
 rw [e,Nat.pow_succ]
 generalize 10000^k=z at *
 have h2:z*d+z*(10000*c')=z*c+z*dx+z*dy:=by rw [<-Nat.mul_add,hd,Nat.mul_add,Nat.mul_add]
 have h3:z*10000*c'=z*(10000*c'):=Nat.mul_assoc _ _ _
 omega
theorem zfr (x y:Nat) (va vb:Value) (w:World) (ha:Big w va (dig x)) (hb:Big w vb (dig y)) (hl:(dig x).length<=100000) (hl2:(dig y).length<=100000):
 Calls Tryz.prog 130 #[va,vb] w fun e w'=>∃ v',e=.returned v'/\Big w' v' (dig (x+y))/\Below w.heap.size w w':=by
 obtain ⟨g,cap,rfl,h2,h3,h4,h5⟩:=ha
 obtain ⟨g',cap',rfl,h2',h3',h4',h5'⟩:=hb
 unfold maxLen at h3 h3'
 have Hx:=hide (zbe x)
 have Hy:=hide (zbe y)
 generalize (dig x).length=len at *
 generalize (dig y).length=len' at *
 obtain ⟨M,hM1,hM2,hM3⟩:∃ M,len<=M/\len'<=M/\(M=len∨M=len'):=⟨max len len',by omega,by omega,by omega⟩
 go_enter Tryz.func130,Tryz.ntmps130
 go_wp2
 go_loopw [5,6,7] (fun o c i wr=>∃ (k bo:Nat) (L:List Int),k<=M+1/\(M<k->bo=0)/\i=.int .i64 k/\c=.int .i64 bo/\bo<=1/\L.length=k/\OwnI wr w.heap.size o L/\
  OkD L/\Hid (nval L+10000^k*bo=x%10000^k+y%10000^k)/\Below w.heap.size w wr) (fun _ _ i _=>M+1-(intOf i).toNat)
 case atStart=>
  refine ⟨0,0,[],by omega,fun _=>rfl,rfl,rfl,by omega,rfl,zdt w,?_,hide ?_,(Below.refl _ _).alloc (Nat.le_refl _) _⟩
  ·intro d hd;cases hd
  simp [nval,Nat.mod_one]
 obtain ⟨k,bo,L,hk,hkM,rfl,rfl,hbo,hLk,hown,hok,Hval,hb⟩:=hrel
 have hbs:=hb.size
 have hcx:k<len->wr.cell? ⟨g,k,none⟩=some (.int .i64 ((dig x).getD k 0)):=fun hh=>(hb.cell (by exact h4)).trans (h5 k hh)
 have hcy:k<len'->wr.cell? ⟨g',k,none⟩=some (.int .i64 ((dig y).getD k 0)):=fun hh=>(hb.cell (by exact h4')).trans (h5' k hh)
 rw [zb0] at hcx hcy
 have hxz:len<=k->x/10000^k%10000=0:=fun hh=>by
  have:x/10000^k=0:=Nat.div_eq_of_lt (Nat.lt_of_lt_of_le Hx.out (Nat.pow_le_pow_right (by omega) hh))
  omega
 have hyz:len'<=k->y/10000^k%10000=0:=fun hh=>by
  have:y/10000^k=0:=Nat.div_eq_of_lt (Nat.lt_of_lt_of_le Hy.out (Nat.pow_le_pow_right (by omega) hh))
  omega
 have HS:=hide (fun d c'=>@znE x y k bo _ _ L hLk rfl rfl Hval.out d c')
 have hdx:x/10000^k%10000<10000:=by omega
 have hdy:y/10000^k%10000<10000:=by omega
 generalize x/10000^k%10000=dx at *
 generalize y/10000^k%10000=dy at *
 have HLk:=hide hLk
 have Hb:=hide hb
 clear h5 h5' hb
 by_cases h1:k<len
 ·have hcx':=hcx h1
  clear hcx hxz
  by_cases h6:k<len'
  ·have hcy':=hcy h6
   clear hcy hyz
   go_wp2_with (first
    |(at_builtin;(refine zcQ rfl _ _ rfl w.heap.size _ L (((bo:Int)+dx+dy)%10000) hown rfl rfl (by have:=HLk.out;omega) hbs ?_;intro v' w1 hown' hgrow))
    |go_in)
   obtain ⟨d,c',hd1,hd2,hd3⟩:∃ d c':Nat,((bo:Int)+dx+dy)%10000=(d:Int)/\((bo:Int)+dx+dy)/10000=(c':Int)/\d<10000:=⟨(((bo:Int)+dx+dy)%10000).toNat,(((bo:Int)+dx+dy)/10000).toNat,by omega,by omega,by omega⟩
   have hc1:c'<=1:=by omega
   have T:=hide (HS.out d c' (by omega))
   have R:OwnI w1 w.heap.size v' (L++[(d:Int)])/\Below w.heap.size w w1:=⟨by rw [hd1] at hown';exact hown',hgrow _ _ Hb.out (Nat.le_refl _)⟩
   have Hd2:=hide hd2
   have hkk:M<k+1->c'=0:=fun hh=>by omega
   clear hown' hgrow hown hd1 hd2
   go_wp2
   go_roundw
   case rel=>exact ⟨k+1,c',L++[(d:Int)],by omega,hkk,by go_num,by rw [<-Hd2.out],hc1,by have:=HLk.out;simp;omega,R.1,zbH hok (by omega) (by omega),T,R.2⟩
   case measure=>simp [intOf];omega
  have hdy0:=hyz (by omega)
  subst hdy0
  clear hcy hyz
  go_wp2_with (first
   |(at_builtin;(refine zcQ rfl _ _ rfl w.heap.size _ L (((bo:Int)+dx)%10000) hown rfl rfl (by have:=HLk.out;omega) hbs ?_;intro v' w1 hown' hgrow))
   |go_in)
  obtain ⟨d,c',hd1,hd2,hd3⟩:∃ d c':Nat,((bo:Int)+dx)%10000=(d:Int)/\((bo:Int)+dx)/10000=(c':Int)/\d<10000:=⟨(((bo:Int)+dx)%10000).toNat,(((bo:Int)+dx)/10000).toNat,by omega,by omega,by omega⟩
  have hc1:c'<=1:=by omega
  have T:=hide (HS.out d c' (by omega))
  have R:OwnI w1 w.heap.size v' (L++[(d:Int)])/\Below w.heap.size w w1:=⟨by rw [hd1] at hown';exact hown',hgrow _ _ Hb.out (Nat.le_refl _)⟩
  have Hd2:=hide hd2
  have hkk:M<k+1->c'=0:=fun hh=>by omega
  clear hown' hgrow hown hd1 hd2
  go_wp2
  go_roundw
  case rel=>exact ⟨k+1,c',L++[(d:Int)],by omega,hkk,by go_num,by rw [<-Hd2.out],hc1,by have:=HLk.out;simp;omega,R.1,zbH hok (by omega) (by omega),T,R.2⟩
  case measure=>simp [intOf];omega
 have hdx0:=hxz (by omega)
 subst hdx0
 clear hcx hxz
 by_cases h6:k<len'
 ·have hcy':=hcy h6
  clear hcy hyz
  go_wp2_with (first
   |(at_builtin;(refine zcQ rfl _ _ rfl w.heap.size _ L (((bo:Int)+dy)%10000) hown rfl rfl (by have:=HLk.out;omega) hbs ?_;intro v' w1 hown' hgrow))
   |go_in)
  obtain ⟨d,c',hd1,hd2,hd3⟩:∃ d c':Nat,((bo:Int)+dy)%10000=(d:Int)/\((bo:Int)+dy)/10000=(c':Int)/\d<10000:=⟨(((bo:Int)+dy)%10000).toNat,(((bo:Int)+dy)/10000).toNat,by omega,by omega,by omega⟩
  have hc1:c'<=1:=by omega
  have T:=hide (HS.out d c' (by omega))
  have R:OwnI w1 w.heap.size v' (L++[(d:Int)])/\Below w.heap.size w w1:=⟨by rw [hd1] at hown';exact hown',hgrow _ _ Hb.out (Nat.le_refl _)⟩
  have Hd2:=hide hd2
  have hkk:M<k+1->c'=0:=fun hh=>by omega
  clear hown' hgrow hown hd1 hd2
  go_wp2
  go_roundw
  case rel=>exact ⟨k+1,c',L++[(d:Int)],by omega,hkk,by go_num,by rw [<-Hd2.out],hc1,by have:=HLk.out;simp;omega,R.1,zbH hok (by omega) (by omega),T,R.2⟩
  case measure=>simp [intOf];omega
 have hdy0:=hyz (by omega)
 subst hdy0
 clear hcy hyz
 by_cases hb0:bo=0
 ·subst hb0
  have hbig:=hown.big
  have Hsum:Hid (nval L=x+y):=hide (by
   have:=Hval.out
   rw [Nat.mul_zero,Nat.add_zero,Nat.mod_eq_of_lt (Nat.lt_of_lt_of_le Hx.out (Nat.pow_le_pow_right (by omega) (by omega))),Nat.mod_eq_of_lt (Nat.lt_of_lt_of_le Hy.out (Nat.pow_le_pow_right (by omega) (by omega)))] at this
   exact this)
  have HT:=hide (zdA L _ _ hbig (by have:=HLk.out;omega) hok)
  clear hown hbig
  go_wp2_with fail
  refine HT.out.mono ?_
  rintro e w1 ⟨v',rfl,hbig',rfl⟩
  rw [Hsum.out] at hbig'
  have Hbig:=hide hbig'
  clear hbig'
  go_wp2
  go_ret
  exact ⟨_,rfl,Hbig.out,Hb.out⟩
 obtain rfl:bo=1:=by omega
 have hkMM:k<=M:=by
  rcases Nat.lt_or_ge M k with gg|gg
  ·have:=hkM gg;omega
  exact gg
 go_wp2_with (first
  |(at_builtin;(refine zcQ rfl _ _ rfl w.heap.size _ L 1 hown rfl rfl (by have:=HLk.out;omega) hbs ?_;intro v' w1 hown' hgrow))
  |go_in)
 have T:=hide (HS.out 1 0 (by omega))
 have R:OwnI w1 w.heap.size v' (L++[((1:Nat):Int)])/\Below w.heap.size w w1:=⟨hown',hgrow _ _ Hb.out (Nat.le_refl _)⟩
 clear hown' hgrow hown
 go_wp2
 go_roundw
 case rel=>exact ⟨k+1,0,L++[((1:Nat):Int)],by omega,fun _=>rfl,by go_num,rfl,by omega,by have:=HLk.out;simp;omega,R.1,zbH hok (by omega) (by omega),T,R.2⟩
 case measure=>simp [intOf];omega
theorem nval_set:∀ (L:List Int) (j:Nat) (d:Int),j<L.length->nval (L.set j d)+10000^j*(L.getD j 0).toNat=nval L+10000^j*d.toNat
 | [],j,d,h=>by simp at h
 |c::l,0,d,h=>by
  simp [nval]
  omega
 |c::l,j+1,d,h=>by
  have ih:=nval_set l j d (by simpa using h)
  rw [List.set_cons_succ]
  have e:(c::l).getD (j+1) 0=l.getD j 0:=by simp
  rw [e,Nat.pow_succ]
  show c.toNat+10000*nval (l.set j d)+10000^j*10000*(l.getD j 0).toNat=c.toNat+10000*nval l+10000^j*10000*d.toNat
  have e2:10000^j*10000*(l.getD j 0).toNat=10000*(10000^j*(l.getD j 0).toNat):=by grind
  have e3:10000^j*10000*d.toNat=10000*(10000^j*d.toNat):=by grind
  rw [e2,e3]
  omega
theorem zne {L:List Int} {j:Nat} {d:Int} (h:OkD L) (h0:0<=d) (h1:d<10000):OkD (L.set j d):=by
 intro z hz
 rcases List.mem_or_eq_of_mem_set hz with g|g
 ·exact h z g
 subst g;exact ⟨h0,h1⟩
theorem zoY (n:Nat):nval (List.replicate n 0)=0:=zgR (fun d hd=>List.eq_of_mem_replicate hd)
theorem ziH {L:List Int} {j c c' o p d R:Nat} (hj:j<L.length) (ho:(L.getD j 0).toNat=o) (h:nval L+10000^j*c=R) (hd:d+10000*c'=c+(o+p)):
 nval (L.set j (d:Int))+10000^(j+1)*c'=R+10000^j*p:=by
 have hs:=nval_set L j (d:Int) hj
 rw [ho] at hs
 have e:((d:Int)).toNat=d:=by omega
 rw [e] at hs
 rw [Nat.pow_succ]
 generalize 10000^j=z at *
 have h2:z*d+z*(10000*c')=z*c+z*o+z*p:=by rw [<-Nat.mul_add,hd,Nat.mul_add,Nat.mul_add];omega
 have h3:z*10000*c'=z*(10000*c'):=Nat.mul_assoc _ _ _
 omega
theorem zuH {x y la lb i:Nat} (hx:x<10000^la) (hy:y<10000^lb):y*(x%10000^i)<10000^(la+lb):=by
 have h1:x%10000^i<=x:=Nat.mod_le _ _
 rw [Nat.pow_add,Nat.mul_comm y]
 generalize x%10000^i=t at *
 exact Nat.mul_lt_mul_of_lt_of_lt (Nat.lt_of_le_of_lt h1 hx) hy
theorem zqw (x y i dx:Nat) (h:dx=x/10000^i%10000):y*(x%10000^i)+10000^i*dx*y=y*(x%10000^(i+1)):=by
 rw [zfq,<-h,Nat.mul_add]
 generalize 10000^i=z
 grind
theorem zph (y i k dx dy R:Nat) (h:dy=y/10000^k%10000):R+10000^i*dx*(y%10000^k)+10000^(i+k)*(dx*dy)=R+10000^i*dx*(y%10000^(k+1)):=by
 rw [zfq,<-h,Nat.pow_add,Nat.mul_add]
 generalize 10000^i=z
 generalize 10000^k=z2
 grind
theorem zrT (x y:Nat) (va vb:Value) (w:World) (ha:Big w va (dig x)) (hb:Big w vb (dig y)) (hl:(dig x).length<=100000) (hl2:(dig y).length<=100000):
 Calls Tryz.prog 133 #[va,vb] w fun e w'=>∃ v',e=.returned v'/\Big w' v' (dig (x*y))/\Below w.heap.size w w':=by
 obtain ⟨g,cap,rfl,h2,h3,h4,h5⟩:=ha
 obtain ⟨g',cap',rfl,h2',h3',h4',h5'⟩:=hb
 unfold maxLen at h3 h3'
 obtain ⟨i0,hi,hz0,hz1,hz2⟩:=info_parts Tryz.info3
 have Hx:=hide (zbe x)
 have Hy:=hide (zbe y)
 generalize (dig x).length=la at *
 generalize (dig y).length=lb at *
 go_enter Tryz.func133,Tryz.ntmps133
 go_wp2_with (first
  |(at_make;refine wpList_make_full _ rfl _ _ 121 rfl w.heap.size 3 i0 (.int .i64 0) 1 Tryz.underlying121 hi hz0 hz1 _ _ _ _ (la+lb+1) rfl rfl rfl rfl (by rw [hz2];omega) (by unfold maxLen;omega) (Nat.le_refl _) ?_;intro w1 hown hgrow)
  |go_in)
 have hb1:Below w.heap.size w w1:=(Below.refl _ _).grown hgrow (Nat.le_refl _) (fun _ h=>by cases h)
 rw [ziC] at hown
 clear hgrow
 go_wp2
 go_loopw [21] (fun iv wr=>∃ (i:Nat) (L:List Int),iv=.int .i64 i/\i<=la/\L.length=la+lb+1/\OkD L/\Hid (nval L=y*(x%10000^i))/\
  wr.ownsRow w.heap.size 3 1 (.slice (some ⟨w.heap.size,0,none⟩) (la+lb+1) (la+lb+1)) (la+lb+1) (L.map (Value.int .i64))/\Below w.heap.size w wr) (fun iv _=>la-(intOf iv).toNat)
 case atStart=>
  refine ⟨0,List.replicate (la+lb+1) 0,rfl,by omega,by simp,fun d hd=>by have:=List.eq_of_mem_replicate hd;omega,hide ?_,hown,hb1⟩
  rw [zoY,Nat.pow_zero,Nat.mod_one,Nat.mul_zero]
 clear hown hb1
 obtain ⟨i,L,rfl,hi',hLl,hok,Hv,hown,hb⟩:=hrel
 by_cases hlt:i<la
 ·have hcx:wr.cell? ⟨g,i,none⟩=some (.int .i64 ((dig x).getD i 0)):=(hb.cell (by exact h4)).trans (h5 i hlt)
  rw [zb0] at hcx
  have HR:=hide (fun dx h=>zqw x y i dx h)
  have HRR:=hide (HR.out _ rfl)
  have hdx:x/10000^i%10000<10000:=by omega
  generalize x/10000^i%10000=dx at *
  rename World=>wA
  have Hb:=hide hb
  have Hown:=hide hown
  have Hokk:=hide hok
  clear HR
  go_wp2_with fail
  go_loopw [8,28] (fun cv kv wr=>∃ (c k:Nat) (L':List Int),cv=.int .i64 c/\kv=.int .i64 k/\c<=9999/\k<=lb/\L'.length=la+lb+1/\OkD L'/\Hid (nval L'+10000^(i+k)*c=y*(x%10000^i)+10000^i*dx*(y%10000^k))/\
   wr.ownsRow w.heap.size 3 1 (.slice (some ⟨w.heap.size,0,none⟩) (la+lb+1) (la+lb+1)) (la+lb+1) (L'.map (Value.int .i64))/\Below w.heap.size w wr) (fun _ kv _=>lb-(intOf kv).toNat)
  case atStart=>
   refine ⟨0,0,L,rfl,rfl,by omega,by omega,hLl,Hokk.out,hide ?_,Hown.out,Hb.out⟩
   rw [Nat.mul_zero,Nat.add_zero,Nat.pow_zero,Nat.mod_one,Nat.mul_zero,Nat.add_zero]
   exact Hv.out
  clear hown hb hok Hown Hokk Hb hcx
  obtain ⟨c,k,L',rfl,rfl,hc,hk,hLl',hok',Hv',hown',hb'⟩:=hrel
  by_cases hkl:k<lb
  ·have hcy:wr.cell? ⟨g',k,none⟩=some (.int .i64 ((dig y).getD k 0)):=(hb'.cell (by exact h4')).trans (h5' k hkl)
   rw [zb0] at hcy
   have HC:=hide (zph y i k dx _ (y*(x%10000^i)) rfl)
   have hdy:y/10000^k%10000<10000:=by omega
   generalize y/10000^k%10000=dy at *
   have hj:i+k<L'.length:=by omega
   have hco:wr.cell? ⟨w.heap.size,i+k,none⟩=some (.int .i64 (L'.getD (i+k) 0)):=by
    rw [hown'.cellAt (i+k) (by omega),List.getElem?_map,List.getElem?_eq_getElem hj,zaz hj]
    rfl
   have hro:=hok' _ (zer hj)
   have hfr:=hown'.frozenAt (i+k)
   obtain ⟨o,ho⟩:∃ o:Nat,L'.getD (i+k) 0=o:=⟨(L'.getD (i+k) 0).toNat,by omega⟩
   rw [ho] at hco hro
   have HS:=hide (fun d c' p hd=>ziH (d:=d) (c':=c') (p:=p) (o:=o) hj (by omega) Hv'.out hd)
   have hpp:(dx:Int)*dy<=99980001/\0<=(dx:Int)*dy:=by
    have a1:dx*dy<=9999*9999:=Nat.mul_le_mul (by omega) (by omega)
    have a2:((dx*dy:Nat):Int)=(dx:Int)*dy:=by simp
    omega
   have Hst:=hide (fun u=>hown'.stored (i+k) u)
   have Hb':=hide hb'
   have Hok':=hide hok'
   clear ho hb' hok' hown'
   have a2:((dx*dy:Nat):Int)=(dx:Int)*dy:=by simp
   have Ha2:=hide a2
   clear a2
   go_wp2
   have a2:=Ha2.out
   obtain ⟨d,c',hd1,hd2,hd3⟩:∃ d c':Nat,((c:Int)+(o+(dx:Int)*dy))%10000=(d:Int)/\((c:Int)+(o+(dx:Int)*dy))/10000=(c':Int)/\d<10000:=⟨(((c:Int)+(o+(dx:Int)*dy))%10000).toNat,(((c:Int)+(o+(dx:Int)*dy))/10000).toNat,by omega,by omega,by omega⟩
   have T:=HS.out d c' (dx*dy) (by omega)
   rw [HC.out] at T
   rw [hd1,hd2]
   refine ⟨⟨c',k+1,L'.set (i+k) (d:Int),rfl,by simp,by omega,by omega,by rw [List.length_set];exact hLl',zne Hok'.out (by omega) (by omega),hide T,?_,Hb'.out.setCell (Nat.le_refl _) _⟩,by simp [intOf];omega⟩
   rw [List.map_set]
   exact (Hst.out _).1
  obtain rfl:k=lb:=by omega
  have Hrow:Hid (nval L'+10000^(i+k)*c=y*(x%10000^(i+1))):=hide (by
   have:=Hv'.out
   rw [Nat.mod_eq_of_lt Hy.out,HRR.out] at this
   exact this)
  have Hcap:Hid (y*(x%10000^(i+1))<10000^(la+k)):=hide (zuH Hx.out Hy.out)
  rename World=>wB
  have Hb':=hide hb'
  have Hown':=hide hown'
  have Hok':=hide hok'
  clear Hv' hb' hown' hok'
  go_wp2_with fail
  go_loopw [8,11] (fun cv kv wr=>∃ (c j:Nat) (L':List Int),cv=.int .i64 c/\kv=.int .i64 j/\c<=9999/\j<=la+k+1/\L'.length=la+k+1/\OkD L'/\Hid (nval L'+10000^j*c=y*(x%10000^(i+1)))/\
   wr.ownsRow w.heap.size 3 1 (.slice (some ⟨w.heap.size,0,none⟩) (la+k+1) (la+k+1)) (la+k+1) (L'.map (Value.int .i64))/\Below w.heap.size w wr) (fun _ kv _=>la+k+1-(intOf kv).toNat)
  case atStart=>exact ⟨c,i+k,L',rfl,by simp,hc,by omega,hLl',Hok'.out,Hrow,Hown'.out,Hb'.out⟩
  clear Hrow Hb' Hown' Hok' hLl' hc
  obtain ⟨c,j,L',rfl,rfl,hc,hj',hLl',hok',Hv',hown',hb'⟩:=hrel
  by_cases hc0:c=0
  ·subst hc0
   have Hv2:Hid (nval L'=y*(x%10000^(i+1))):=hide (by have:=Hv'.out;simpa using this)
   have Hb':=hide hb'
   have Hown':=hide hown'
   have Hok':=hide hok'
   clear hb' hown' hok' Hv'
   go_wp2
   refine ⟨⟨i+1,L',by simp,by omega,hLl',Hok'.out,Hv2,Hown'.out,Hb'.out⟩,by simp [intOf];omega⟩
  have hjl:j<la+k:=by
   rcases Nat.lt_or_ge j (la+k) with gg|gg
   ·exact gg
   exfalso
   have h1:=Hv'.out
   have h2:=Hcap.out
   have h3:10000^(la+k)<=10000^j:=Nat.pow_le_pow_right (by omega) gg
   have h4:10000^j*1<=10000^j*c:=Nat.mul_le_mul_left _ (by omega)
   rw [Nat.mul_one] at h4
   generalize 10000^j*c=q1 at *
   generalize 10000^j=q2 at *
   generalize 10000^(la+k)=q3 at *
   omega
  have hj:j<L'.length:=by omega
  have hco:wr.cell? ⟨w.heap.size,j,none⟩=some (.int .i64 (L'.getD j 0)):=by
   rw [hown'.cellAt j (by omega),List.getElem?_map,List.getElem?_eq_getElem hj,zaz hj]
   rfl
  have hro:=hok' _ (zer hj)
  have hfr:=hown'.frozenAt j
  obtain ⟨o,ho⟩:∃ o:Nat,L'.getD j 0=o:=⟨(L'.getD j 0).toNat,by omega⟩
  rw [ho] at hco hro
  have HS:=hide (fun d c' hd=>ziH (d:=d) (c':=c') (p:=0) (o:=o) hj (by omega) Hv'.out hd)
  have Hst:=hide (fun u=>hown'.stored j u)
  have Hb':=hide hb'
  have Hok':=hide hok'
  clear ho hb' hok' hown'
  go_wp2
  obtain ⟨d,c',hd1,hd2,hd3⟩:∃ d c':Nat,((c:Int)+o)%10000=(d:Int)/\((c:Int)+o)/10000=(c':Int)/\d<10000:=⟨(((c:Int)+o)%10000).toNat,(((c:Int)+o)/10000).toNat,by omega,by omega,by omega⟩
  have T:=HS.out d c' (by omega)
  rw [Nat.mul_zero,Nat.add_zero] at T
  rw [hd1,hd2]
  refine ⟨⟨c',j+1,L'.set j (d:Int),rfl,by simp,by omega,by omega,by rw [List.length_set];exact hLl',zne Hok'.out (by omega) (by omega),hide T,?_,Hb'.out.setCell (Nat.le_refl _) _⟩,by simp [intOf];omega⟩
  rw [List.map_set]
  exact (Hst.out _).1
 obtain rfl:i=la:=by omega
 have hbig:=zbw (L:=L) (by rw [hLl];exact hown) (fun h=>by cases h)
 have Hval:Hid (nval L=x*y):=hide (by rw [Hv.out,Nat.mod_eq_of_lt Hx.out,Nat.mul_comm])
 have HT:=hide (zdA L _ _ hbig (by omega) hok)
 have Hb:=hide hb
 clear hbig hown hok hb
 go_wp2_with fail
 refine HT.out.mono ?_
 rintro e w1 ⟨v',rfl,hbig',rfl⟩
 rw [Hval.out] at hbig'
 have Hbig:=hide hbig'
 clear hbig'
 go_wp2
 go_ret
 exact ⟨_,rfl,Hbig.out,Hb.out⟩
theorem zdR (i:Int) (w:World):Rb 30 #[.int .i64 i] w (.agg #[.bool false,.int .i64 i,.int .u64 0]):=by
 go_enter Tryz.func30,Tryz.ntmps30
 go_wp2
 exact bodyPost_ret (v:=.agg #[.bool false,.int .i64 i,.int .u64 0]) (by simp [results,Tryz.results30,go_sem]) rfl ⟨rfl,(Below.refl _ _).alloc (Nat.le_refl _) _⟩
theorem zol (x:Int) (w:World) (h0:0<=x) (h1:x<=9218868437227405312):
 Rs 46 #[.int .u64 x] w (.bool false):=by
 go_enter Tryz.func46,Tryz.ntmps46
 have hd:decide (9218868437227405312<x%9223372036854775808)=false:=by simp;omega
 go_wp2
 all_goals go_ret
 exact ⟨rfl,rfl⟩
theorem zbN (x:Int) (w:World) (h0:0<=x) (h1:x<=9218868437227405312):
 Rb 28 #[.int .u64 x] w (.agg #[.bool true,.int .i64 0,.int .u64 x]):=by
 go_enter Tryz.func28,Tryz.ntmps28
 go_wp2_with (go_at_call 46;refine (zol x _ h0 h1).mono ?_;rintro e w' ⟨rfl,rfl⟩)
 exact bodyPost_ret (v:=.agg #[.bool true,.int .i64 0,.int .u64 x]) (by simp [results,Tryz.results28,go_sem]) rfl ⟨rfl,(Below.refl _ _).alloc (Nat.le_refl _) _⟩
theorem zgn (l r:List Int):dval l<=dval (l++r):=by
 have key:∀ (r:List Int) (a:Nat),a<=r.foldl (fun a c=>a*10+(c-48).toNat) a:=by
  intro r
  induction r with
  |nil=>intro a;exact Nat.le_refl _
  |cons c r ih=>intro a;exact Nat.le_trans (show a<=a*10+(c-48).toNat by omega) (ih _)
 unfold dval
 rw [List.foldl_append]
 exact key r _
theorem ze7 (l:List Int) (k:Nat):dval (l.take k)<=dval l:=by
 have:=zgn (l.take k) (l.drop k)
 rwa [List.take_append_drop] at this
def zqS (N:Nat) (e:Ending):Prop:=∃ (v:Int) (ok:Bool),e=.returned (.tuple #[.int .i64 v,.bool ok])/\ok=decide (N<9223372036854775808)/\(ok=true->v=(N:Int))
theorem ziJ {N:Nat} {e:Ending} (v:Int) (ok:Bool) (h1:e=.returned (.tuple #[.int .i64 v,.bool ok])) (h2:ok=decide (N<9223372036854775808)) (h3:ok=true->v=(N:Int)):zqS N e:=⟨v,ok,h1,h2,h3⟩
theorem zf7 (l:List Int) (v:Value) (w:World) (h:Byt w v l) (hl:l.length<=101) (hd:∀ c∈l,48<=c/\c<=57):
 Calls Tryz.prog 116 #[v] w fun e w'=>zqS (dval l) e/\w'=w:=by
 obtain ⟨g,cap,rfl,h2,h3,h4,h5⟩:=h
 unfold maxLen at h3
 have Hd:=hide hd
 clear hd
 have Htl:Hid (l.take l.length=l):=hide (List.take_length)
 generalize hlen:l.length=len at *
 have Hlen:=hide hlen
 have H5:=hide h5
 clear hlen h5
 go_enter Tryz.func116,Tryz.ntmps116
 go_wp2
 go_loop [4,10] (fun vv iv=>∃ (k:Nat) (x:Int),k<=len/\iv=.int .i64 k/\vv=.int .i64 x/\Hid (x=(dval (l.take k):Int))/\0<=x/\x<=9223372036854775807) (fun _ iv=>len-(intOf iv).toNat)
 case atStart=>exact ⟨0,0,Nat.zero_le _,rfl,rfl,hide rfl,by omega,by omega⟩
 obtain ⟨k,x,hk,rfl,rfl,Hx,hx0,hx1⟩:=hrel
 by_cases hlt:k<len
 ·have hcx:w.cell? ⟨g,k,none⟩=some (.int .u8 (l.getD k 0)):=H5.out k (by omega)
  have hc:=Hd.out _ (zer (l:=l) (k:=k) (by rw [Hlen.out];exact hlt))
  have HS:=hide (zfJ (l:=l) (k:=k) (by rw [Hlen.out];exact hlt))
  generalize l.getD k 0=c at *
  by_cases hbig:x > (9223372036854775807-(c-48))/10
  ·go_wp2
   go_ret2
   refine ⟨ziJ 0 false rfl ?_ (fun h=>by cases h),rfl⟩
   have h1:=ze7 l (k+1)
   have h2:=HS.out
   have h3:=Hx.out
   symm
   rw [decide_eq_false_iff_not]
   omega
  have hm:x*10+(c-48)<=9223372036854775807:=by omega
  go_wp2
  go_round
  case rel=>exact ⟨k+1,x*10+(c-48),by omega,by go_num,rfl,hide (by rw [HS.out];have:=Hx.out;omega),by omega,by omega⟩
  case measure=>simp [intOf];omega
 have hkl:k=len:=by omega
 subst hkl
 go_wp2
 go_ret2
 refine ⟨ziJ x true rfl ?_ (fun _=>by rw [Hx.out,Htl.out]),rfl⟩
 have h3:=Hx.out
 rw [Htl.out] at h3
 symm
 rw [decide_eq_true_iff]
 omega
def bs (s:ByteArray):List Int:=s.data.toList.map fun b=>((b.toNat:Nat):Int)
theorem zad (s:ByteArray):(bs s).length=s.size:=by
 unfold bs
 rw [List.length_map,Array.length_toList]
 rfl
theorem zaf {s:ByteArray} {k:Nat} (h:k<s.size):(bs s).getD k 0=((s[k].toNat:Nat):Int):=by
 have h':k<(bs s).length:=by rw [zad];exact h
 rw [zaz h']
 simp only [bs,List.getElem_map]
 rfl
theorem zcG (s:ByteArray) (a b:Nat):bs (s.extract a b)=((bs s).drop a).take (b-a):=by
 simp [bs,ByteArray.data_extract,List.map_drop,List.map_take]
def hexV (c:Int):Int:=
 if 48<=c/\c<=57 then c-48 else if 97<=c/\c<=102 then c-87 else if 65<=c/\c<=70 then c-55 else -1
theorem zmw (c:Int):hexV c<16:=by unfold hexV;split<;>(try split)<;>(try split)<;>omega
theorem znX (c:Int): -1<=hexV c:=by unfold hexV;split<;>(try split)<;>(try split)<;>omega
def hexN (l:List Int):Nat:=l.foldl (fun a c=>a*16+(hexV c).toNat) 0
theorem zm1 (l:List Int) (c:Int):hexN (l++[c])=hexN l*16+(hexV c).toNat:=by simp [hexN,List.foldl_append]
def zdF (l:List Int):Bool:=l.all fun c=>decide (0<=hexV c)
theorem ziB {l:List Int} {k:Nat} (h:k<l.length):hexN (l.take (k+1))=hexN (l.take k)*16+(hexV (l.getD k 0)).toNat:=by
 rw [List.take_succ_eq_append_getElem h,zm1,zaz h]
theorem zpO {y d:Int}:wrap64 (wrap64 (wrap64 y*16)+d)=wrap64 (y*16+d):=by unfold wrap64;omega
def zax (c:Int):Bool:=decide (48<=c/\c<=57)
def zae (l:List Int):Bool:=l.all zax
def expB (l:List Int):Option Int:=if 1<=l.length/\l.length<=3/\zae l=true then some (dval l) else none
def expS (l:List Int):Option Int:=
 if l.getD 0 0=45 then (expB (l.drop 1)).map (fun x=> -x) else if l.getD 0 0=43 then expB (l.drop 1) else expB l
def expV (l:List Int):Option Int:=if l.getD 0 0=101∨l.getD 0 0=69 then expS (l.drop 1) else none
theorem zi1 {l:List Int} {k:Nat} (h:k<l.length):zae (l.take (k+1))=(zae (l.take k)&&zax (l.getD k 0)):=by
 rw [List.take_succ_eq_append_getElem h,zaz h]
 unfold zae
 rw [List.all_append]
 simp only [List.all_cons,List.all_nil,Bool.and_true]
theorem ze3 {l:List Int} {k:Nat} (h:k<l.length) (hd:zax (l.getD k 0)=false):zae l=false:=by
 unfold zae
 rw [List.all_eq_false]
 exact ⟨l.getD k 0,by rw [zaz h];exact List.getElem_mem h,by rw [hd];decide⟩
theorem zeX {l:List Int} {k:Nat} (h:k<l.length) (hd:hexV (l.getD k 0)<0):zdF l=false:=by
 unfold zdF
 rw [List.all_eq_false]
 exact ⟨l.getD k 0,by rw [zaz h];exact List.getElem_mem h,by rw [decide_eq_false (by omega)];decide⟩
theorem zfA {l:List Int} (h:∀ k,k<l.length->0<=hexV (l.getD k 0)):zdF l=true:=by
 unfold zdF
 rw [List.all_eq_true]
 intro c hc
 obtain ⟨i,hi,rfl⟩:=List.getElem_of_mem hc
 have:=h i hi
 rw [zaz hi] at this
 simpa using this
theorem zfE {l:List Int} (h:∀ k,k<l.length->zax (l.getD k 0)=true):zae l=true:=by
 unfold zae
 rw [List.all_eq_true]
 intro c hc
 obtain ⟨i,hi,rfl⟩:=List.getElem_of_mem hc
 have:=h i hi
 rwa [zaz hi] at this
theorem zgo (c:Int) (w:World) (h0:0<=c) (h1:c<256):
 Rs 166 #[.int .u8 c] w (.int .i64 (hexV c)):=zhX c w h0 h1
def numV (f:Bool) (i:Int) (b:Int):Value:=.agg #[.bool f,.int .i64 i,.int .u64 b]
theorem zmP {N:Nat} {x d:Int} (h:x=wrap64 (N:Int)) (h0:0<=d):wrap64 (wrap64 (x*16)+d)=wrap64 ((N*16+d.toNat:Nat):Int):=by
 subst h
 rw [zpO]
 have e:((N*16+d.toNat:Nat):Int)=(N:Int)*16+d:=by omega
 rw [e]
theorem wrap_zero:(0:Int)=wrap64 ((0:Nat):Int):=by unfold wrap64;omega
theorem bcell {W w1:World} (hb:Below W.heap.size W w1):(∀ b o,b<W.heap.size->w1.cell? ⟨b,o,none⟩=W.cell? ⟨b,o,none⟩)/\(∀ b o,b<W.heap.size->w1.frozen? ⟨b,o,none⟩=W.frozen? ⟨b,o,none⟩):=
 ⟨fun b o h=>hb.cell (p:=⟨b,o,none⟩) h,fun b o h=>hb.frozen (p:=⟨b,o,none⟩) h⟩
def hexR (s:ByteArray):Value:=.tuple #[numV false (if zdF (bs s)=true then wrap64 (hexN (bs s)) else 0) 0,.bool (zdF (bs s)&&decide (0<s.size))]
theorem zmU {s:ByteArray} (h:zdF (bs s)=false):hexR s=.tuple #[numV false 0 0,.bool false]:=by unfold hexR;rw [h,if_neg (by decide),Bool.false_and]
theorem zkv {s:ByteArray} (h:zdF (bs s)=true):hexR s=.tuple #[numV false (wrap64 (hexN (bs s))) 0,.bool (decide (0<s.size))]:=by unfold hexR;rw [h,if_pos rfl,Bool.true_and]
theorem zmF (s:ByteArray) (w:World) (hs:s.size<=100):
 Rb 114 #[.string s] w (hexR s):=by
 have Hl:=hide (zad s)
 go_enter Tryz.func114,Tryz.ntmps114
 go_wp2
 go_loop [4,5] (fun vv iv=>∃ (k:Nat) (x:Int),k<=s.size/\iv=.int .i64 k/\vv=.int .i64 x/\Hid (x=wrap64 (hexN ((bs s).take k)))/\Hid (∀ j,j<k->0<=hexV ((bs s).getD j 0))) (fun _ iv=>s.size-(intOf iv).toNat)
 case atStart=>exact ⟨0,0,Nat.zero_le _,rfl,rfl,hide wrap_zero,hide (fun j hj=>by omega)⟩
 obtain ⟨k,x,hk,rfl,rfl,Hx,Ha⟩:=hrel
 by_cases hlt:k<s.size
 ·have hgd:=zaf hlt
  have HT:=hide (ziB (l:=bs s) (k:=k) (by rw [Hl.out];exact hlt))
  have hb1:((s[k].toNat:Nat):Int)<256:=by have:=s[k].toNat_lt;omega
  have hb0:(0:Int)<=((s[k].toNat:Nat):Int):=by omega
  have hv1:=zmw ((s[k].toNat:Nat):Int)
  have hv0:=znX ((s[k].toNat:Nat):Int)
  have Hg:=hide hgd
  clear hgd
  by_cases hneg:hexV ((s[k].toNat:Nat):Int)<0
  ·have Hf:=hide (zeX (l:=bs s) (k:=k) (by rw [Hl.out];exact hlt) (by rw [Hg.out];exact hneg))
   go_wp2_with (go_at_call 166;refine (zgo _ _ hb0 hb1).mono ?_;rintro e w' ⟨rfl,rfl⟩)
   refine bodyPost_ret (v:=.tuple #[numV false 0 0,.bool false]) (by simp [results,Tryz.results114,go_sem,numV]) rfl ⟨by rw [zmU Hf.out],?_⟩
   exact (Below.refl _ _).alloc (Nat.le_refl _) _
  go_wp2_with (go_at_call 166;refine (zgo _ _ hb0 hb1).mono ?_;rintro e w' ⟨rfl,rfl⟩)
  go_round
  case rel=>exact ⟨k+1,wrap64 (wrap64 (x*16)+hexV ((s[k].toNat:Nat):Int)),by omega,by go_num,rfl,hide (by rw [HT.out,Hg.out];exact zmP Hx.out (by omega)),hide (fun j hj=>by
   by_cases e:j=k
   ·subst e;rw [Hg.out];omega
   exact Ha.out j (by omega))⟩
  case measure=>simp [intOf];omega
 have hkl:k=s.size:=by omega
 have HA:Hid (zdF (bs s)=true):=hide (zfA (fun j hj=>Ha.out j (by rw [Hl.out] at hj;omega)))
 have HX:Hid (x=wrap64 (hexN (bs s))):=hide (by rw [Hx.out,hkl,<-Hl.out,List.take_length])
 have Hk:=hide hkl
 clear hkl
 go_wp2_with (go_at_call 30;refine (zdR x _).mono ?_;rintro e w' ⟨rfl,hb'⟩;obtain ⟨hc,hf⟩:=bcell hb')
 have hsz:w.heap.size<w'.heap.size:=by have:=hb'.size;simp at this;omega
 refine bodyPost_ret (v:=.tuple #[numV false x 0,.bool (decide (0<s.size))]) ?_ rfl ⟨by rw [zkv HA.out,HX.out],?_⟩
 ·simp [results,Tryz.results114,go_sem,numV,hc]
 refine Below.setCell (Below.setCell (Below.setCell ?_ ?_ _) ?_ _) ?_ _
 ·exact ((Below.refl _ _).alloc (Nat.le_refl _) _).trans (hb'.mono (by simp))
 all_goals simp
def optR (o:Option Int):Value:=match o with |some x=>.tuple #[.int .i64 x,.bool true]|none=>.tuple #[.int .i64 0,.bool false]
theorem optR_none:optR none=.tuple #[.int .i64 0,.bool false]:=rfl
theorem zbS (x:Int):optR (some x)=.tuple #[.int .i64 x,.bool true]:=rfl
theorem zeT (s:ByteArray):bs (s.extract 1 s.size)=(bs s).drop 1:=by
 rw [zcG,List.take_of_length_le (by rw [List.length_drop,zad];omega)]
theorem zaY (s:ByteArray):(s.extract 1 s.size).size=s.size-1:=by simp
theorem zkw (s:ByteArray):bs ((s.extract 1 s.size).extract 1 (s.size-1))=((bs s).drop 1).drop 1:=by
 have:=zeT (s.extract 1 s.size)
 rw [zaY,zeT] at this
 exact this
theorem zaQ (s:ByteArray):((s.extract 1 s.size).extract 1 (s.size-1)).size=s.size-2:=by
 have h:=zad ((s.extract 1 s.size).extract 1 (s.size-1))
 rw [zkw,List.length_drop,List.length_drop,zad] at h
 omega
theorem zgp {l:List Int} (hd:∀ c∈l,48<=c/\c<=57) (hl:l.length<=3):dval l<=999:=by
 have h:=zbX l hd
 have h2:=zce (dval l)
 have h3:10^zaC (dval l)<=10^3:=Nat.pow_le_pow_right (by omega) (by omega)
 omega
def zgx (d:ByteArray) (vv iv:Value):Prop:=
 ∃ (k:Nat) (x:Int),k<=d.size/\iv=.int .i64 k/\vv=.int .i64 x/\0<=x/\x<=999/\Hid (x=(dval ((bs d).take k):Int))/\Hid (∀ j,j<k->zax ((bs d).getD j 0)=true)
theorem zby {d:ByteArray} {k:Nat} {x:Int} (hd:d.size<=3) (hk:k<d.size) (Hx:x=(dval ((bs d).take k):Int)) (Ha:∀ j,j<k->zax ((bs d).getD j 0)=true) (hc:zax ((d[k].toNat:Nat):Int)=true):
 x*10+((d[k].toNat:Nat):Int)-48=(dval ((bs d).take (k+1)):Int)/\x*10+((d[k].toNat:Nat):Int)-48<=999/\(∀ j,j<k+1->zax ((bs d).getD j 0)=true):=by
 have h1:=zfJ (l:=bs d) (k:=k) (by rw [zad];exact hk)
 rw [zaf hk] at h1
 have h2:48<=((d[k].toNat:Nat):Int)/\((d[k].toNat:Nat):Int)<=57:=by simpa [zax] using hc
 have h3:∀ j,j<k+1->zax ((bs d).getD j 0)=true:=fun j hj=>by
  by_cases e:j=k
  ·subst e;rw [zaf hk];exact hc
  exact Ha j (by omega)
 have h4:dval ((bs d).take (k+1))<=999:=zgp (fun c hcm=>by
  obtain ⟨i,hi,rfl⟩:=List.getElem_of_mem hcm
  rw [List.length_take] at hi
  have:=h3 i (by omega)
  rw [List.getElem_take]
  rw [zaz (by omega)] at this
  simpa [zax] using this) (by rw [List.length_take,zad];omega)
 refine ⟨by omega,by omega,h3⟩
theorem zdC {d:ByteArray} {x:Int} (h1:1<=d.size) (h3:d.size<=3) (Hx:x=(dval ((bs d).take d.size):Int)) (Ha:∀ j,j<d.size->zax ((bs d).getD j 0)=true):expB (bs d)=some x:=by
 have hl:=zad d
 unfold expB
 rw [if_pos ⟨by omega,by omega,zfE (fun j hj=>Ha j (by omega))⟩,Hx,<-hl,List.take_length]
theorem zeN {d:ByteArray} {k:Nat} (hk:k<d.size) (hc:zax ((d[k].toNat:Nat):Int)=false):expB (bs d)=none:=by
 unfold expB
 rw [if_neg]
 rintro ⟨_,_,h⟩
 rw [ze3 (l:=bs d) (k:=k) (by rw [zad];exact hk) (by rw [zaf hk];exact hc)] at h
 cases h
theorem zcV {l:List Int} (h:l.length<1∨3<l.length):expB l=none:=by
 unfold expB;rw [if_neg (by omega)]
end Go.Proofs.YtamdnnkdnhkghaaGreatDoor
