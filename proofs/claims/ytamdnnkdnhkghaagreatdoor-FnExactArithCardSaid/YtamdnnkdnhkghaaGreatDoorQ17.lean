import Derived.Handy
import Derived.Test.YtamdnnkdnhkghaaGreatDoorQ16
set_option maxHeartbeats 12800000
set_option maxRecDepth 100000
set_option linter.unusedVariables false
namespace Go.Proofs.YtamdnnkdnhkghaaGreatDoor
open Go Go.RowKit
def rfC (N:Nat):Nat:=zaC N-min (zaC N) 19
def rfM (N:Nat):Nat:=N/10^rfC N
def rfT (N:Nat):Bool:=decide (N%10^rfC N≠0)
def rfE (N:Nat) (E:Int):Int:=if rfM N=0 then 0 else E+rfC N
structure RF (N b p i m nd nm:Nat) (tr:Bool) (dp:Int):Prop where
 hn:nd=zaC N
 hnm:nm=min nd 19
 hm:m=N/10^(nd-nm)
 ht:tr=decide (N%10^(nd-nm)≠0)
 dpp:p=1->dp=(nd:Int)-b
 lo: -(i:Int)<=dp
 hi:dp<=i
 le:nd<=i
theorem RF.start:RF 0 0 0 0 0 0 0 false 0:=
 ⟨size10_zero.symm,rfl,rfl,rfl,fun h=>by omega,by omega,by omega,by omega⟩
theorem RF.lt {N b p i m nd nm:Nat} {tr:Bool} {dp:Int} (h:RF N b p i m nd nm tr dp):m<10^nm:=by
 have h1:=zce N
 have h2:=h.hnm
 rw [h.hm,<-h.hn] at *
 refine Nat.div_lt_of_lt_mul ?_
 rw [<-Nat.pow_add,show nd-nm+nm=nd by omega]
 exact h1
theorem RF.zero {N b p i m nm:Nat} {tr:Bool} {dp:Int} (h:RF N b p i m 0 nm tr dp) (hp:p<=1):RF (N*10+(48-48:Int).toNat) (b+p) p (i+1) m 0 nm tr (dp-1):=by
 have hN:N=0:=by
  have h1:=zce N
  rw [<-h.hn,Nat.pow_zero] at h1
  omega
 subst hN
 have h1:=h.dpp
 have h2:=h.lo
 have h3:=h.hi
 refine ⟨h.hn,h.hnm,h.hm,h.ht,fun e=>?_,by omega,by omega,by omega⟩
 have:=h1 e
 omega
theorem zgu {N nd:Nat} {c:Int} (hn:nd=zaC N) (hc1:48<=c) (hc2:c<=57) (hz:nd≠0∨c≠48):nd+1=zaC (N*10+(c-48).toNat):=by
 have hne:N*10+(c-48).toNat≠0:=by
  rcases hz with g|g
  ·have:N≠0:=by intro e;rw [e,size10_zero] at hn;exact g hn
   omega
  omega
 rw [zcW _ _ (by omega),if_neg hne,<-hn]
theorem RF.put1 {N b p i m nd nm:Nat} {tr:Bool} {dp c:Int} (h:RF N b p i m nd nm tr dp) (hp:p<=1) (hc1:48<=c) (hc2:c<=57) (hz:nd≠0∨c≠48) (hm:nm<19):
 RF (N*10+(c-48).toNat) (b+p) p (i+1) (m*10+(c-48).toNat) (nd+1) (nm+1) tr dp:=by
 have h0:=h.hnm
 have h1:=h.dpp
 have h2:=h.lo
 have h3:=h.hi
 have h4:=h.le
 have hnn:nm=nd:=by omega
 have hm0:m=N:=by rw [h.hm,hnn,Nat.sub_self,Nat.pow_zero,Nat.div_one]
 refine ⟨zgu h.hn hc1 hc2 hz,by omega,?_,?_,fun e=>?_,by omega,by omega,by omega⟩
 ·rw [hnn,Nat.sub_self,Nat.pow_zero,Nat.div_one,hm0]
 ·rw [h.ht,hnn,Nat.sub_self,Nat.sub_self,Nat.pow_zero,Nat.mod_one,Nat.mod_one]
 have:=h1 e;omega
theorem RF.put2 {N b p i m nd nm:Nat} {tr tr':Bool} {dp c:Int} (h:RF N b p i m nd nm tr dp) (hp:p<=1) (hc1:48<=c) (hc2:c<=57) (hm:¬ nm<19) (htr:tr'=(tr||decide (c≠48))):
 RF (N*10+(c-48).toNat) (b+p) p (i+1) m (nd+1) nm tr' dp:=by
 have h0:=h.hnm
 have h1:=h.dpp
 have h2:=h.lo
 have h3:=h.hi
 have h4:=h.le
 have e:nd+1-nm=nd-nm+1:=by omega
 have hq:(N*10+(c-48).toNat)/10=N:=by omega
 have hr:(N*10+(c-48).toNat)%10=(c-48).toNat:=by omega
 refine ⟨zgu h.hn hc1 hc2 (by omega),by omega,?_,?_,fun e=>?_,by omega,by omega,by omega⟩
 ·rw [e,Nat.pow_succ,Nat.mul_comm (10^(nd-nm)) 10,<-Nat.div_div_eq_div_mul,hq];exact h.hm
 ·rw [htr,h.ht,e,Nat.pow_succ,Nat.mul_comm (10^_) 10,Nat.mod_mul,hq,hr]
  by_cases c0:c=48
  ·subst c0
   by_cases r0:N%10^(nd-nm)=0
   ·simp [r0]
   have h6:10*(N%10^(nd-nm))≠0:=by omega
   simp [r0,h6]
  have:(c-48).toNat≠0:=by omega
  have h5:(c-48).toNat+10*(N%10^(nd-nm))≠0:=by omega
  rw [decide_eq_true h5,decide_eq_true c0,Bool.or_true]
 have:=h1 e;omega
theorem RF.point {N i m nd nm:Nat} {tr:Bool} {dp:Int} (h:RF N 0 0 i m nd nm tr dp):RF N 0 1 (i+1) m nd nm tr (nd:Int):=by
 have h4:=h.le
 exact ⟨h.hn,h.hnm,h.hm,h.ht,fun _=>by omega,by omega,by omega,by omega⟩
theorem RF.fin {N b p i m nd nm:Nat} {tr:Bool} {dp:Int} (h:RF N b p i m nd nm tr dp):m=rfM N/\tr=rfT N/\(nd:Int)-nm=rfC N:=by
 have h1:=h.hm
 have h2:=h.ht
 have h3:=h.hnm
 rw [h.hn] at h3
 have hc:nd-nm=rfC N:=by unfold rfC;rw [h.hn,<-h3]
 refine ⟨by rw [h1,hc];rfl,by rw [h2,hc];rfl,?_⟩
 have:=h.hnm
 omega
theorem lower_fin:∀ c:Fin 256,(c.val=46∨(48<=c.val/\c.val<=57)∨c.val=101∨c.val=69)->(bits .or .u8 ((c.val:Nat):Int) 32==120)=false:=by decide+kernel
theorem zqu {n:Nat} (h256:n<256) (h:((n:Nat):Int)=46∨(48<=((n:Nat):Int)/\((n:Nat):Int)<=57)∨((n:Nat):Int)=101∨((n:Nat):Int)=69):(bits .or .u8 ((n:Nat):Int) 32==120)=false:=
 lower_fin ⟨n,h256⟩ (by show n=46∨(48<=n/\n<=57)∨n=101∨n=69;omega)
theorem Txt.nox {s:ByteArray} {k b p:Nat} {ds:List Int} {x:Int} (h:Txt s k ds b p x) (h1:1<s.size):(bits .or .u8 ((s[1].toNat:Nat):Int) 32==120)=false:=by
 refine zqu (by have:=s[1].toNat_lt;exact this) ?_
 have hk0:=h.k0
 by_cases hk:1<k
 ·rcases dp_at h hk h1 with g|g
  ·exact .inl g
  exact .inr (.inl g)
 have hk1:k=1:=by omega
 rcases h.ex with ⟨g,_⟩|⟨g,g2⟩
 ·omega
 have:=(zdi g2).1
 subst hk1
 rw [zaf g] at this
 rcases this with c|c
 ·exact .inr (.inr (.inl c))
 exact .inr (.inr (.inr c))
def RFR (N:Nat) (E:Int) (s:ByteArray) (w:World) (e:Ending) (w':World):Prop:=
 e=.returned (.tuple #[.int .u64 (rfM N),.int .i64 (rfE N E),.bool false,.bool (rfT N),.bool false,.int .i64 s.size,.bool true])/\∃ q,w'=w.drewN q
theorem rf_a (s:ByteArray) (k b p:Nat) (ds:List Int) (x:Int) (w:World) (hT:Txt s k ds b p x) (h0:0<s.size) (h2:s.size<=2):
 Calls Tryz.prog 218 #[.string s] w fun e w'=>RFR (dval ds) (x-b) s w e w':=by
 have HT:=hide hT
 have hk0:=hT.k0
 have hk:=hT.hk
 have hs:=hT.hs
 have hc:=dp_at hT (i:=0) (by omega) h0
 have e43:(((s[0].toNat:Nat):Int)==43)=false:=bq (by omega)
 have e45:(((s[0].toNat:Nat):Int)==45)=false:=bq (by omega)
 have h0a:(0:Int)<(s.size:Int):=by omega
 have h0b:¬ s.size=0:=by omega
 have h2I:(s.size:Int)<=2:=by omega
 clear hT hc
 go_enter Tryz.func218,Tryz.ntmps218
 go_wp2
 go_step3
 go_wp2
 go_step3
 go_wp2
 go_loop [2,5,7,9,13,14,15,16,17] (fun mv tv iv uv dv' gv nv kv pv=>∃ (i b' p' m nd nm:Nat) (ds':List Int) (tr:Bool) (dp:Int),i<=k/\mv=.int .u64 m/\tv=.bool tr/\iv=.int .i64 i/\uv=.bool false/\dv'=.bool (decide (p'=1))/\gv=.bool (decide (ds'≠[]))/\nv=.int .i64 nd/\kv=.int .i64 nm/\pv=.int .i64 dp/\
  Hid (dscan ((bs s).take i)=(ds',b',p'))/\Hid (RF (dval ds') b' p' i m nd nm tr dp)) (fun _ _ iv _ _ _ _ _ _=>s.size-(intOf iv).toNat)
 case atStart=>exact ⟨0,0,0,0,0,0,[],false,0,Nat.zero_le _,rfl,rfl,rfl,rfl,rfl,rfl,rfl,rfl,rfl,hide rfl,hide RF.start⟩
 clear e43 e45 h0b h2I
 obtain ⟨i,b',p',m,nd,nm,ds',tr,dp,hi,rfl,rfl,rfl,rfl,rfl,rfl,rfl,rfl,rfl,Hsc,HS⟩:=hrel
 have hpi:=HT.out.pi hi Hsc.out
 have hlo:=HS.out.lo
 have hhi:=HS.out.hi
 have hle:=HS.out.le
 have hnm:nm<=19:=by have:=HS.out.hnm;omega
 by_cases hik:i<k
 ·have his:i<s.size:=by omega
  have hisI:(i:Int)<(s.size:Int):=by omega
  have hc:=dp_at HT.out hik his
  have e95:(((s[i].toNat:Nat):Int)==95)=false:=bq (by omega)
  by_cases hpt:((s[i].toNat:Nat):Int)=46
  ·have e46:(((s[i].toNat:Nat):Int)==46)=true:=by rw [hpt];rfl
   have hsc:=zbA his Hsc.out hpt
   have hp0:=(HT.out.pi (i:=i+1) (by omega) hsc).1
   have hp':p'=0:=by omega
   have hb':b'=0:=hpi.2 hp'
   subst hp' hb'
   have HS':=hide HS.out.point
   have Hsc':=hide hsc
   clear hsc hpt hc
   go_wp2
   go_round
   case rel=>exact ⟨i+1,0,1,m,nd,nm,ds',tr,nd,by omega,rfl,rfl,by go_num,rfl,rfl,rfl,rfl,rfl,rfl,Hsc',HS'⟩
   case measure=>simp [intOf];omega
  have e46:(((s[i].toNat:Nat):Int)==46)=false:=bq hpt
  obtain ⟨hx1,hx2⟩:48<=((s[i].toNat:Nat):Int)/\((s[i].toNat:Nat):Int)<=57:=by omega
  have hsc:=zcS his Hsc.out (by show zax _=true;unfold zax;rw [decide_eq_true_eq];exact ⟨hx1,hx2⟩)
  have Hsc':=hide hsc
  have Hv:=hide (zb4 ds' ((s[i].toNat:Nat):Int))
  have hne:decide (ds'++[((s[i].toNat:Nat):Int)]≠[])=true:=by simp
  have Hne:=hide hne
  clear hsc hc hpt hne
  by_cases hz:nd=0/\((s[i].toNat:Nat):Int)=48
  ·obtain ⟨hz1,hz2⟩:=hz
   have HS':Hid (RF (dval (ds'++[((s[i].toNat:Nat):Int)])) (b'+p') p' (i+1) m nd nm tr (dp-1)):=hide (by
    rw [Hv.out,hz2,hz1]
    have:=HS.out
    rw [hz1] at this
    exact this.zero hpi.1)
   have e48:(((s[i].toNat:Nat):Int)==48)=true:=by rw [hz2];rfl
   have en:((nd:Int)==0)=true:=by rw [hz1];rfl
   clear hz1 hz2
   go_wp2
   go_round
   case rel=>exact ⟨i+1,b'+p',p',m,nd,nm,_,tr,dp-1,by omega,rfl,rfl,by go_num,rfl,rfl,by rw [Hne.out],rfl,rfl,rfl,Hsc',HS'⟩
   case measure=>simp [intOf];omega
  have hz':nd≠0∨((s[i].toNat:Nat):Int)≠48:=by omega
  by_cases hm19:nm<19
  ·obtain ⟨m',hm'⟩:∃ m',m'=m*10+(((s[i].toNat:Nat):Int)-48).toNat:=⟨_,rfl⟩
   have HS':Hid (RF (dval (ds'++[((s[i].toNat:Nat):Int)])) (b'+p') p' (i+1) m' (nd+1) (nm+1) tr dp):=hide (by
    rw [Hv.out,hm'];exact HS.out.put1 hpi.1 hx1 hx2 hz' hm19)
   have hml:m<1000000000000000000:=by
    have h1:=HS.out.lt
    have h3:10^nm<=10^18:=Nat.pow_le_pow_right (by omega) (by omega)
    have e18:(10:Nat)^18=1000000000000000000:=by decide
    omega
   have e1:IntKind.u64.wrap ((m:Int)*10)=(m:Int)*10:=zaU (by omega) (by omega)
   have e2:IntKind.u64.wrap ((m:Int)*10+(((s[i].toNat:Nat):Int)-48))=(m':Int):=by rw [zaU (by omega) (by omega)];omega
   have hmI:(nm:Int)<19:=by omega
   clear hm' hml hz'
   by_cases e48':((s[i].toNat:Nat):Int)=48
   ·have e48:(((s[i].toNat:Nat):Int)==48)=true:=by rw [e48'];rfl
    have en:((nd:Int)==0)=false:=bq (by omega)
    clear hz e48'
    go_wp2
    go_round
    case rel=>exact ⟨i+1,b'+p',p',m',nd+1,nm+1,_,tr,dp,by omega,rfl,rfl,by go_num,rfl,rfl,by rw [Hne.out],by go_num,by go_num,rfl,Hsc',HS'⟩
    case measure=>simp [intOf];omega
   have e48:(((s[i].toNat:Nat):Int)==48)=false:=bq e48'
   clear hz e48'
   go_wp2
   go_round
   case rel=>exact ⟨i+1,b'+p',p',m',nd+1,nm+1,_,tr,dp,by omega,rfl,rfl,by go_num,rfl,rfl,by rw [Hne.out],by go_num,by go_num,rfl,Hsc',HS'⟩
   case measure=>simp [intOf];omega
  have hmI:(19:Int)<=nm:=by omega
  by_cases e48':((s[i].toNat:Nat):Int)=48
  ·have e48:(((s[i].toNat:Nat):Int)==48)=true:=by rw [e48'];rfl
   have en:((nd:Int)==0)=false:=bq (by omega)
   have HS':Hid (RF (dval (ds'++[((s[i].toNat:Nat):Int)])) (b'+p') p' (i+1) m (nd+1) nm tr dp):=hide (by
    rw [Hv.out];exact HS.out.put2 hpi.1 hx1 hx2 hm19 (by rw [decide_eq_false (by omega),Bool.or_false]))
   clear hz e48' hz' hm19
   go_wp2
   go_round
   case rel=>exact ⟨i+1,b'+p',p',m,nd+1,nm,_,tr,dp,by omega,rfl,rfl,by go_num,rfl,rfl,by rw [Hne.out],by go_num,rfl,rfl,Hsc',HS'⟩
   case measure=>simp [intOf];omega
  have e48:(((s[i].toNat:Nat):Int)==48)=false:=bq e48'
  have HS':Hid (RF (dval (ds'++[((s[i].toNat:Nat):Int)])) (b'+p') p' (i+1) m (nd+1) nm true dp):=hide (by
   rw [Hv.out];exact HS.out.put2 hpi.1 hx1 hx2 hm19 (by rw [decide_eq_true e48',Bool.or_true]))
  clear hz e48' hz' hm19
  go_wp2
  go_round
  case rel=>exact ⟨i+1,b'+p',p',m,nd+1,nm,_,true,dp,by omega,rfl,rfl,by go_num,rfl,rfl,by rw [Hne.out],by go_num,rfl,rfl,Hsc',HS'⟩
  case measure=>simp [intOf];omega
 have hik':i=k:=by omega
 subst hik'
 have hsc:=Hsc.out
 rw [HT.out.scan] at hsc
 obtain ⟨rfl,rfl,rfl⟩:ds=ds'/\b=b'/\p=p':=by
  have h1:=congrArg Prod.fst hsc
  have h2:=congrArg Prod.snd hsc
  exact ⟨h1,congrArg Prod.fst h2,congrArg Prod.snd h2⟩
 have hg:decide (ds≠[])=true:=by simp [HT.out.ne]
 obtain ⟨f1,f2,f3⟩:=HS.out.fin
 have Hf1:=hide f1
 have Hf2:=hide f2
 have Hf3:=hide f3
 have Hpi:=hide hpi
 have hex:=HT.out.ex
 clear hsc Hsc hpi f1 f2 f3
 rcases hex with ⟨hex,hx0⟩|⟨hex,hx0⟩
 ·have HexI:(i:Int)=(s.size:Int):=by omega
  clear hik
  by_cases hp0:p=0
  ·have hpd:decide (p=1)=false:=by simp;omega
   have Hp0:=hide hp0
   clear hp0
   by_cases hm0:m=0
   ·have em:((m:Int)==0)=true:=by rw [hm0];rfl
    have HE:Hid (rfE (dval ds) (x-b)=0):=hide (by unfold rfE;rw [if_pos (by rw [<-Hf1.out];exact hm0)])
    clear hm0
    go_wp2
    go_returns
    exact ⟨(by rw [HE.out,<-Hf1.out,<-Hf2.out]<;>rfl),0,rfl⟩
   have em:((m:Int)==0)=false:=bq (by omega)
   have HE:Hid (rfE (dval ds) (x-b)=(nd:Int)-nm):=hide (by
    unfold rfE
    rw [if_neg (by rw [<-Hf1.out];exact hm0)]
    have:=Hf3.out
    have:=Hpi.out.2 Hp0.out
    omega)
   clear hm0
   go_wp2
   go_returns
   exact ⟨(by rw [HE.out,<-Hf1.out,<-Hf2.out]<;>rfl),0,rfl⟩
  have hp1:p=1:=by have:=Hpi.out.1;omega
  have hpd:decide (p=1)=true:=by simp;omega
  have Hp1:=hide hp1
  clear hp0 hp1
  by_cases hm0:m=0
  ·have em:((m:Int)==0)=true:=by rw [hm0];rfl
   have HE:Hid (rfE (dval ds) (x-b)=0):=hide (by unfold rfE;rw [if_pos (by rw [<-Hf1.out];exact hm0)])
   clear hm0
   go_wp2
   go_returns
   exact ⟨(by rw [HE.out,<-Hf1.out,<-Hf2.out]<;>rfl),0,rfl⟩
  have em:((m:Int)==0)=false:=bq (by omega)
  have HE:Hid (rfE (dval ds) (x-b)=dp-nm):=hide (by
   unfold rfE
   rw [if_neg (by rw [<-Hf1.out];exact hm0)]
   have:=Hf3.out
   have:=HS.out.dpp Hp1.out
   omega)
  clear hm0
  go_wp2
  go_returns
  exact ⟨(by rw [HE.out,<-Hf1.out,<-Hf2.out]<;>rfl),0,rfl⟩
 obtain ⟨hce,v,hcase⟩:=zdi hx0
 exfalso
 rcases hcase with ⟨q1,q2,q3⟩|⟨q1,q2,q3⟩|⟨q1,q1',q2,q3⟩
 all_goals have:=q3.lt
 all_goals omega
end Go.Proofs.YtamdnnkdnhkghaaGreatDoor
