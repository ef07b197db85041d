import Derived.Test.YtjibjahfbblieaaGreatDoorKP1J0
import Derived.Handy
namespace Go.Proofs.YtjibjahfbblieaaGreatDoor.F
open Go Go.RowKit
set_option linter.unusedVariables false
set_option maxHeartbeats 8000000 in
set_option maxRecDepth 100000 in
theorem Qu (s:ByteArray) (k b p:Nat) (ds:List Int) (x:Int) (w:World) (hT:Txt s k ds b p x) (h0:0<s.size) (h2:2<s.size) (h48:((s[0].toNat:Nat):Int)≠48):
 Calls Tryz.prog 244 #[.string s] w fun e w'=>Ke (dval ds) (x-b) s w e w':=by
 have HT:=hide hT
 have hk0:=hT.k0
 have hk:=hT.hk
 have hs:=hT.hs
 have hc:=mG hT (i:=0) (by omega) h0
 have e43:(((s[0].toNat:Nat):Int)==43)=false:=bq (by omega)
 have e45:(((s[0].toNat:Nat):Int)==45)=false:=bq (by omega)
 have h0a:(0:Int)<(s.size:Int):=by omega
 have h0b:¬ s.size=0:=by omega
 have h2I:(2:Int)<(s.size:Int):=by omega
 have e48:(((s[0].toNat:Nat):Int)==48)=false:=bq h48
 clear hT hc h48
 go_enter Tryz.func244,Tryz.ntmps244
 go_wp2
 go_step3
 go_wp2
 go_step3
 go_wp2
 go_loop [2,5,7,9,13,14,15,16,17] (fun mv tv iv uv dv' gv nv kv pv=>∃ (i b' p' m nd nm:Nat) (ds':List Int) (tr:Bool) (dp:Int),i<=k/\mv=.int .u64 m/\tv=.bool tr/\iv=.int .i64 i/\uv=.bool false/\dv'=.bool (decide (p'=1))/\gv=.bool (decide (ds'≠[]))/\nv=.int .i64 nd/\kv=.int .i64 nm/\pv=.int .i64 dp/\
  Hid (aY ((bs s).take i)=(ds',b',p'))/\Hid (RF (dval ds') b' p' i m nd nm tr dp)) (fun _ _ iv _ _ _ _ _ _=>s.size-(intOf iv).toNat)
 case atStart=>exact ⟨0,0,0,0,0,0,[],false,0,Nat.zero_le _,rfl,rfl,rfl,rfl,rfl,rfl,rfl,rfl,rfl,hide rfl,hide RF.start⟩
 case round=>
  clear e43 e45 h0b h2I e48
  obtain ⟨i,b',p',m,nd,nm,ds',tr,dp,hi,rfl,rfl,rfl,rfl,rfl,rfl,rfl,rfl,rfl,Hsc,HS⟩:=hrel
  have hpi:=HT.out.pi hi Hsc.out
  have hlo:=HS.out.lo
  have hhi:=HS.out.hi
  have hle:=HS.out.le
  have hnm:nm<=19:=by have:=HS.out.hnm;omega
  by_cases hik:i<k
  ·have his:i<s.size:=by omega
   have hisI:(i:Int)<(s.size:Int):=by omega
   have hc:=mG HT.out hik his
   have e95:(((s[i].toNat:Nat):Int)==95)=false:=bq (by omega)
   by_cases hpt:((s[i].toNat:Nat):Int)=46
   ·have e46:(((s[i].toNat:Nat):Int)==46)=true:=by rw [hpt];rfl
    have hsc:=kC his Hsc.out hpt
    have hp0:=(HT.out.pi (i:=i+1) (by omega) hsc).1
    have hp':p'=0:=by omega
    have hb':b'=0:=hpi.2 hp'
    subst hp' hb'
    have HS':=hide HS.out.point
    have Hsc':=hide hsc
    clear hsc hpt hc
    go_wp2
    go_round
    case rel=>exact ⟨i+1,0,1,m,nd,nm,ds',tr,nd,by omega,rfl,rfl,by go_num,rfl,rfl,rfl,rfl,rfl,rfl,Hsc',HS'⟩
    case measure=>simp [intOf];omega
   ·have e46:(((s[i].toNat:Nat):Int)==46)=false:=bq hpt
    obtain ⟨hx1,hx2⟩:48<=((s[i].toNat:Nat):Int)/\((s[i].toNat:Nat):Int)<=57:=by omega
    have hsc:=oD his Hsc.out (by show dQ _=true;unfold dQ;rw [decide_eq_true_eq];exact ⟨hx1,hx2⟩)
    have Hsc':=hide hsc
    have Hv:=hide (gK ds' ((s[i].toNat:Nat):Int))
    have hne:decide (ds'++[((s[i].toNat:Nat):Int)]≠[])=true:=by simp
    have Hne:=hide hne
    clear hsc hc hpt hne
    by_cases hz:nd=0/\((s[i].toNat:Nat):Int)=48
    ·obtain ⟨hz1,hz2⟩:=hz
     have HS':Hid (RF (dval (ds'++[((s[i].toNat:Nat):Int)])) (b'+p') p' (i+1) m nd nm tr (dp-1)):=hide (by
      rw [Hv.out,hz2,hz1]
      have:=HS.out
      rw [hz1] at this
      exact this.zero hpi.1)
     have e48:(((s[i].toNat:Nat):Int)==48)=true:=by rw [hz2];rfl
     have en:((nd:Int)==0)=true:=by rw [hz1];rfl
     clear hz1 hz2
     go_wp2
     go_round
     case rel=>exact ⟨i+1,b'+p',p',m,nd,nm,_,tr,dp-1,by omega,rfl,rfl,by go_num,rfl,rfl,by rw [Hne.out],rfl,rfl,rfl,Hsc',HS'⟩
     case measure=>simp [intOf];omega
    ·have hz':nd≠0∨((s[i].toNat:Nat):Int)≠48:=by omega
     by_cases hm19:nm<19
     ·obtain ⟨m',hm'⟩:∃ m',m'=m*10+(((s[i].toNat:Nat):Int)-48).toNat:=⟨_,rfl⟩
      have HS':Hid (RF (dval (ds'++[((s[i].toNat:Nat):Int)])) (b'+p') p' (i+1) m' (nd+1) (nm+1) tr dp):=hide (by
       rw [Hv.out,hm'];exact HS.out.put1 hpi.1 hx1 hx2 hz' hm19)
      have hml:m<1000000000000000000:=by
       have h1:=HS.out.lt
       have h3:10^nm<=10^18:=Nat.pow_le_pow_right (by omega) (by omega)
       have e18:(10:Nat)^18=1000000000000000000:=by decide
       omega
      have e1:IntKind.u64.wrap ((m:Int)*10)=(m:Int)*10:=bA (by omega) (by omega)
      have e2:IntKind.u64.wrap ((m:Int)*10+(((s[i].toNat:Nat):Int)-48))=(m':Int):=by rw [bA (by omega) (by omega)];omega
      have hmI:(nm:Int)<19:=by omega
      clear hm' hml hz'
      by_cases e48':((s[i].toNat:Nat):Int)=48
      ·have e48:(((s[i].toNat:Nat):Int)==48)=true:=by rw [e48'];rfl
       have en:((nd:Int)==0)=false:=bq (by omega)
       clear hz e48'
       go_wp2
       go_round
       case rel=>exact ⟨i+1,b'+p',p',m',nd+1,nm+1,_,tr,dp,by omega,rfl,rfl,by go_num,rfl,rfl,by rw [Hne.out],by go_num,by go_num,rfl,Hsc',HS'⟩
       case measure=>simp [intOf];omega
      ·have e48:(((s[i].toNat:Nat):Int)==48)=false:=bq e48'
       clear hz e48'
       go_wp2
       go_round
       case rel=>exact ⟨i+1,b'+p',p',m',nd+1,nm+1,_,tr,dp,by omega,rfl,rfl,by go_num,rfl,rfl,by rw [Hne.out],by go_num,by go_num,rfl,Hsc',HS'⟩
       case measure=>simp [intOf];omega
     ·have hmI:(19:Int)<=nm:=by omega
      by_cases e48':((s[i].toNat:Nat):Int)=48
      ·have e48:(((s[i].toNat:Nat):Int)==48)=true:=by rw [e48'];rfl
       have en:((nd:Int)==0)=false:=bq (by omega)
       have HS':Hid (RF (dval (ds'++[((s[i].toNat:Nat):Int)])) (b'+p') p' (i+1) m (nd+1) nm tr dp):=hide (by
        rw [Hv.out];exact HS.out.put2 hpi.1 hx1 hx2 hm19 (by rw [decide_eq_false (by omega),Bool.or_false]))
       clear hz e48' hz' hm19
       go_wp2
       go_round
       case rel=>exact ⟨i+1,b'+p',p',m,nd+1,nm,_,tr,dp,by omega,rfl,rfl,by go_num,rfl,rfl,by rw [Hne.out],by go_num,rfl,rfl,Hsc',HS'⟩
       case measure=>simp [intOf];omega
      ·have e48:(((s[i].toNat:Nat):Int)==48)=false:=bq e48'
       have HS':Hid (RF (dval (ds'++[((s[i].toNat:Nat):Int)])) (b'+p') p' (i+1) m (nd+1) nm true dp):=hide (by
        rw [Hv.out];exact HS.out.put2 hpi.1 hx1 hx2 hm19 (by rw [decide_eq_true e48',Bool.or_true]))
       clear hz e48' hz' hm19
       go_wp2
       go_round
       case rel=>exact ⟨i+1,b'+p',p',m,nd+1,nm,_,true,dp,by omega,rfl,rfl,by go_num,rfl,rfl,by rw [Hne.out],by go_num,rfl,rfl,Hsc',HS'⟩
       case measure=>simp [intOf];omega
  ·have hik':i=k:=by omega
   subst hik'
   have hsc:=Hsc.out
   rw [HT.out.scan] at hsc
   obtain ⟨rfl,rfl,rfl⟩:ds=ds'/\b=b'/\p=p':=by
    have h1:=congrArg Prod.fst hsc
    have h2:=congrArg Prod.snd hsc
    exact ⟨h1,congrArg Prod.fst h2,congrArg Prod.snd h2⟩
   have hg:decide (ds≠[])=true:=by simp [HT.out.ne]
   obtain ⟨f1,f2,f3⟩:=HS.out.fin
   have Hf1:=hide f1
   have Hf2:=hide f2
   have Hf3:=hide f3
   have Hpi:=hide hpi
   have hex:=HT.out.ex
   clear hsc Hsc hpi f1 f2 f3
   rcases hex with ⟨hex,hx0⟩|⟨hex,hx0⟩
   ·have HexI:(i:Int)=(s.size:Int):=by omega
    clear hik
    by_cases hp0:p=0
    ·have hpd:decide (p=1)=false:=by simp;omega
     have Hp0:=hide hp0
     clear hp0
     by_cases hm0:m=0
     ·have em:((m:Int)==0)=true:=by rw [hm0];rfl
      have HE:Hid (bU (dval ds) (x-b)=0):=hide (by unfold bU;rw [if_pos (by rw [<-Hf1.out];exact hm0)])
      clear hm0
      go_wp2
      go_returns
      exact ⟨(by rw [HE.out,<-Hf1.out,<-Hf2.out]<;>rfl),0,rfl⟩
     ·have em:((m:Int)==0)=false:=bq (by omega)
      have HE:Hid (bU (dval ds) (x-b)=(nd:Int)-nm):=hide (by
       unfold bU
       rw [if_neg (by rw [<-Hf1.out];exact hm0)]
       have:=Hf3.out
       have:=Hpi.out.2 Hp0.out
       omega)
      clear hm0
      go_wp2
      go_returns
      exact ⟨(by rw [HE.out,<-Hf1.out,<-Hf2.out]<;>rfl),0,rfl⟩
    ·have hp1:p=1:=by have:=Hpi.out.1;omega
     have hpd:decide (p=1)=true:=by simp;omega
     have Hp1:=hide hp1
     clear hp0 hp1
     by_cases hm0:m=0
     ·have em:((m:Int)==0)=true:=by rw [hm0];rfl
      have HE:Hid (bU (dval ds) (x-b)=0):=hide (by unfold bU;rw [if_pos (by rw [<-Hf1.out];exact hm0)])
      clear hm0
      go_wp2
      go_returns
      exact ⟨(by rw [HE.out,<-Hf1.out,<-Hf2.out]<;>rfl),0,rfl⟩
     ·have em:((m:Int)==0)=false:=bq (by omega)
      have HE:Hid (bU (dval ds) (x-b)=dp-nm):=hide (by
       unfold bU
       rw [if_neg (by rw [<-Hf1.out];exact hm0)]
       have:=Hf3.out
       have:=HS.out.dpp Hp1.out
       omega)
      clear hm0
      go_wp2
      go_returns
      exact ⟨(by rw [HE.out,<-Hf1.out,<-Hf2.out]<;>rfl),0,rfl⟩
   ·obtain ⟨hce,v,hcase⟩:=jJ hx0
    rw [aA hex] at hce
    have HexI:(i:Int)<(s.size:Int):=by omega
    have e95:(((s[i].toNat:Nat):Int)==95)=false:=bq (by omega)
    have e46:(((s[i].toNat:Nat):Int)==46)=false:=bq (by omega)
    have e57:(57:Int)<((s[i].toNat:Nat):Int):=by omega
    have eE:bits .or .u8 ((s[i].toNat:Nat):Int) 32=101:=by
     rcases hce with h|h
     ·rw [h];decide
     ·rw [h];decide
    clear hce hx0 hik
    rcases hcase with ⟨q1,q2,q3⟩|⟨q1,q2,q3⟩|⟨q1,q1',q2,q3⟩
    ·have ht:=q3.lt
     have hts:=q3.le
     have ht1:i+1<s.size:=by omega
     rw [aA ht1] at q1
     have s45:(((s[i+1].toNat:Nat):Int)==45)=true:=by rw [q1];rfl
     have s43:(((s[i+1].toNat:Nat):Int)==43)=false:=bq (by omega)
     have hd0:=q3.dig (i+2) (Nat.le_refl _) ht
     rw [aA ht] at hd0
     obtain ⟨d1,d2⟩:=hd0
     have htI:(i:Int)+1<(s.size:Int):=by omega
     have hti:((i:Int)+1).toNat=i+1:=by omega
     have htI2:(i:Int)+1+1<(s.size:Int):=by omega
     have hti2:((i:Int)+1+1).toNat=i+2:=by omega
     have htI3:(i:Int)+2<(s.size:Int):=by omega
     have hti3:((i:Int)+2).toNat=i+2:=by omega
     have Q3:=hide q3
     clear q1 q3
     by_cases hp0:p=0
     ·have hpd:decide (p=1)=false:=by simp;omega
      have Hp0:=hide hp0
      clear hp0
      go_wp2
      go_loop [7,9,20] (fun iv uv ev=>∃ (y q e:Nat),iv=.int .i64 y/\uv=.bool false/\ev=.int .i64 e/\Hid (y=i+2+q)/\y<=s.size/\Hid (e=bX s (i+2) q)) (fun iv _ _=>s.size-(intOf iv).toNat)
      case atStart=>exact ⟨i+2,0,0,by go_num,rfl,rfl,hide (by omega),by omega,hide rfl⟩
      case round=>
       obtain ⟨y,q,e,rfl,rfl,rfl,Hy,hys,He⟩:=hrel
       have hes:e<1000:=by rw [He.out];exact aM Q3.out (by have:=Hy.out;omega)
       by_cases hlt:y<s.size
       ·have hltI:(y:Int)<(s.size:Int):=by omega
        have hdy:=Q3.out.dig y (by have:=Hy.out;omega) hlt
        rw [aA hlt] at hdy
        obtain ⟨y1,y2⟩:=hdy
        have y95:(((s[y].toNat:Nat):Int)==95)=false:=bq (by omega)
        have hne:=aV Hy.out hlt He.out y1
        have Hne:=hide hne
        clear hne
        go_wp2
        go_round
        case rel=>exact ⟨y+1,q+1,bX s (i+2) (q+1),by go_num,rfl,by rw [<-Hne.out],hide (by have:=Hy.out;omega),by omega,hide rfl⟩
        case measure=>simp [intOf];omega
       ·have hyE:(y:Int)=(s.size:Int):=by omega
        have HeV:Hid (e=v):=hide (by rw [He.out];exact bE Q3.out (by have:=Hy.out;omega))
        by_cases hm0:m=0
        ·have em:((m:Int)==0)=true:=by rw [hm0];rfl
         have HE:Hid (bU (dval ds) (x-b)=0):=hide (by unfold bU;rw [if_pos (by rw [<-Hf1.out];exact hm0)])
         clear hm0
         go_wp2
         go_returns
         exact ⟨(by rw [HE.out,<-Hf1.out,<-Hf2.out]<;>rfl),0,rfl⟩
        ·have em:((m:Int)==0)=false:=bq (by omega)
         have HE:Hid (bU (dval ds) (x-b)=(nd:Int)-e-nm):=hide (by
          unfold bU
          rw [if_neg (by rw [<-Hf1.out];exact hm0)]
          have:=Hf3.out
          have:=Hpi.out.2 Hp0.out
          have:=HeV.out
          omega)
         clear hm0
         go_wp2
         go_returns
         exact ⟨(by rw [HE.out,<-Hf1.out,<-Hf2.out]<;>rfl),0,rfl⟩
     ·have hp1:p=1:=by have:=Hpi.out.1;omega
      have hpd:decide (p=1)=true:=by simp;omega
      have Hp1:=hide hp1
      clear hp0 hp1
      go_wp2
      go_loop [7,9,20] (fun iv uv ev=>∃ (y q e:Nat),iv=.int .i64 y/\uv=.bool false/\ev=.int .i64 e/\Hid (y=i+2+q)/\y<=s.size/\Hid (e=bX s (i+2) q)) (fun iv _ _=>s.size-(intOf iv).toNat)
      case atStart=>exact ⟨i+2,0,0,by go_num,rfl,rfl,hide (by omega),by omega,hide rfl⟩
      case round=>
       obtain ⟨y,q,e,rfl,rfl,rfl,Hy,hys,He⟩:=hrel
       have hes:e<1000:=by rw [He.out];exact aM Q3.out (by have:=Hy.out;omega)
       by_cases hlt:y<s.size
       ·have hltI:(y:Int)<(s.size:Int):=by omega
        have hdy:=Q3.out.dig y (by have:=Hy.out;omega) hlt
        rw [aA hlt] at hdy
        obtain ⟨y1,y2⟩:=hdy
        have y95:(((s[y].toNat:Nat):Int)==95)=false:=bq (by omega)
        have hne:=aV Hy.out hlt He.out y1
        have Hne:=hide hne
        clear hne
        go_wp2
        go_round
        case rel=>exact ⟨y+1,q+1,bX s (i+2) (q+1),by go_num,rfl,by rw [<-Hne.out],hide (by have:=Hy.out;omega),by omega,hide rfl⟩
        case measure=>simp [intOf];omega
       ·have hyE:(y:Int)=(s.size:Int):=by omega
        have HeV:Hid (e=v):=hide (by rw [He.out];exact bE Q3.out (by have:=Hy.out;omega))
        by_cases hm0:m=0
        ·have em:((m:Int)==0)=true:=by rw [hm0];rfl
         have HE:Hid (bU (dval ds) (x-b)=0):=hide (by unfold bU;rw [if_pos (by rw [<-Hf1.out];exact hm0)])
         clear hm0
         go_wp2
         go_returns
         exact ⟨(by rw [HE.out,<-Hf1.out,<-Hf2.out]<;>rfl),0,rfl⟩
        ·have em:((m:Int)==0)=false:=bq (by omega)
         have HE:Hid (bU (dval ds) (x-b)=dp-e-nm):=hide (by
          unfold bU
          rw [if_neg (by rw [<-Hf1.out];exact hm0)]
          have:=Hf3.out
          have:=HS.out.dpp Hp1.out
          have:=HeV.out
          omega)
         clear hm0
         go_wp2
         go_returns
         exact ⟨(by rw [HE.out,<-Hf1.out,<-Hf2.out]<;>rfl),0,rfl⟩
    ·have ht:=q3.lt
     have hts:=q3.le
     have ht1:i+1<s.size:=by omega
     rw [aA ht1] at q1
     have s43:(((s[i+1].toNat:Nat):Int)==43)=true:=by rw [q1];rfl
     have hd0:=q3.dig (i+2) (Nat.le_refl _) ht
     rw [aA ht] at hd0
     obtain ⟨d1,d2⟩:=hd0
     have htI:(i:Int)+1<(s.size:Int):=by omega
     have hti:((i:Int)+1).toNat=i+1:=by omega
     have htI2:(i:Int)+1+1<(s.size:Int):=by omega
     have hti2:((i:Int)+1+1).toNat=i+2:=by omega
     have htI3:(i:Int)+2<(s.size:Int):=by omega
     have hti3:((i:Int)+2).toNat=i+2:=by omega
     have Q3:=hide q3
     clear q1 q3
     by_cases hp0:p=0
     ·have hpd:decide (p=1)=false:=by simp;omega
      have Hp0:=hide hp0
      clear hp0
      go_wp2
      go_loop [7,9,20] (fun iv uv ev=>∃ (y q e:Nat),iv=.int .i64 y/\uv=.bool false/\ev=.int .i64 e/\Hid (y=i+2+q)/\y<=s.size/\Hid (e=bX s (i+2) q)) (fun iv _ _=>s.size-(intOf iv).toNat)
      case atStart=>exact ⟨i+2,0,0,by go_num,rfl,rfl,hide (by omega),by omega,hide rfl⟩
      case round=>
       obtain ⟨y,q,e,rfl,rfl,rfl,Hy,hys,He⟩:=hrel
       have hes:e<1000:=by rw [He.out];exact aM Q3.out (by have:=Hy.out;omega)
       by_cases hlt:y<s.size
       ·have hltI:(y:Int)<(s.size:Int):=by omega
        have hdy:=Q3.out.dig y (by have:=Hy.out;omega) hlt
        rw [aA hlt] at hdy
        obtain ⟨y1,y2⟩:=hdy
        have y95:(((s[y].toNat:Nat):Int)==95)=false:=bq (by omega)
        have hne:=aV Hy.out hlt He.out y1
        have Hne:=hide hne
        clear hne
        go_wp2
        go_round
        case rel=>exact ⟨y+1,q+1,bX s (i+2) (q+1),by go_num,rfl,by rw [<-Hne.out],hide (by have:=Hy.out;omega),by omega,hide rfl⟩
        case measure=>simp [intOf];omega
       ·have hyE:(y:Int)=(s.size:Int):=by omega
        have HeV:Hid (e=v):=hide (by rw [He.out];exact bE Q3.out (by have:=Hy.out;omega))
        by_cases hm0:m=0
        ·have em:((m:Int)==0)=true:=by rw [hm0];rfl
         have HE:Hid (bU (dval ds) (x-b)=0):=hide (by unfold bU;rw [if_pos (by rw [<-Hf1.out];exact hm0)])
         clear hm0
         go_wp2
         go_returns
         exact ⟨(by rw [HE.out,<-Hf1.out,<-Hf2.out]<;>rfl),0,rfl⟩
        ·have em:((m:Int)==0)=false:=bq (by omega)
         have HE:Hid (bU (dval ds) (x-b)=(nd:Int)+e-nm):=hide (by
          unfold bU
          rw [if_neg (by rw [<-Hf1.out];exact hm0)]
          have:=Hf3.out
          have:=Hpi.out.2 Hp0.out
          have:=HeV.out
          omega)
         clear hm0
         go_wp2
         go_returns
         exact ⟨(by rw [HE.out,<-Hf1.out,<-Hf2.out]<;>rfl),0,rfl⟩
     ·have hp1:p=1:=by have:=Hpi.out.1;omega
      have hpd:decide (p=1)=true:=by simp;omega
      have Hp1:=hide hp1
      clear hp0 hp1
      go_wp2
      go_loop [7,9,20] (fun iv uv ev=>∃ (y q e:Nat),iv=.int .i64 y/\uv=.bool false/\ev=.int .i64 e/\Hid (y=i+2+q)/\y<=s.size/\Hid (e=bX s (i+2) q)) (fun iv _ _=>s.size-(intOf iv).toNat)
      case atStart=>exact ⟨i+2,0,0,by go_num,rfl,rfl,hide (by omega),by omega,hide rfl⟩
      case round=>
       obtain ⟨y,q,e,rfl,rfl,rfl,Hy,hys,He⟩:=hrel
       have hes:e<1000:=by rw [He.out];exact aM Q3.out (by have:=Hy.out;omega)
       by_cases hlt:y<s.size
       ·have hltI:(y:Int)<(s.size:Int):=by omega
        have hdy:=Q3.out.dig y (by have:=Hy.out;omega) hlt
        rw [aA hlt] at hdy
        obtain ⟨y1,y2⟩:=hdy
        have y95:(((s[y].toNat:Nat):Int)==95)=false:=bq (by omega)
        have hne:=aV Hy.out hlt He.out y1
        have Hne:=hide hne
        clear hne
        go_wp2
        go_round
        case rel=>exact ⟨y+1,q+1,bX s (i+2) (q+1),by go_num,rfl,by rw [<-Hne.out],hide (by have:=Hy.out;omega),by omega,hide rfl⟩
        case measure=>simp [intOf];omega
       ·have hyE:(y:Int)=(s.size:Int):=by omega
        have HeV:Hid (e=v):=hide (by rw [He.out];exact bE Q3.out (by have:=Hy.out;omega))
        by_cases hm0:m=0
        ·have em:((m:Int)==0)=true:=by rw [hm0];rfl
         have HE:Hid (bU (dval ds) (x-b)=0):=hide (by unfold bU;rw [if_pos (by rw [<-Hf1.out];exact hm0)])
         clear hm0
         go_wp2
         go_returns
         exact ⟨(by rw [HE.out,<-Hf1.out,<-Hf2.out]<;>rfl),0,rfl⟩
        ·have em:((m:Int)==0)=false:=bq (by omega)
         have HE:Hid (bU (dval ds) (x-b)=dp+e-nm):=hide (by
          unfold bU
          rw [if_neg (by rw [<-Hf1.out];exact hm0)]
          have:=Hf3.out
          have:=HS.out.dpp Hp1.out
          have:=HeV.out
          omega)
         clear hm0
         go_wp2
         go_returns
         exact ⟨(by rw [HE.out,<-Hf1.out,<-Hf2.out]<;>rfl),0,rfl⟩
    ·have ht:=q3.lt
     have hts:=q3.le
     rw [aA ht] at q1 q1'
     have s45:(((s[i+1].toNat:Nat):Int)==45)=false:=bq q1
     have s43:(((s[i+1].toNat:Nat):Int)==43)=false:=bq q1'
     have hd0:=q3.dig (i+1) (Nat.le_refl _) ht
     rw [aA ht] at hd0
     obtain ⟨d1,d2⟩:=hd0
     have htI:(i:Int)+1<(s.size:Int):=by omega
     have hti:((i:Int)+1).toNat=i+1:=by omega
     have Q3:=hide q3
     clear q1 q1' q3
     by_cases hp0:p=0
     ·have hpd:decide (p=1)=false:=by simp;omega
      have Hp0:=hide hp0
      clear hp0
      go_wp2
      go_loop [7,9,20] (fun iv uv ev=>∃ (y q e:Nat),iv=.int .i64 y/\uv=.bool false/\ev=.int .i64 e/\Hid (y=i+1+q)/\y<=s.size/\Hid (e=bX s (i+1) q)) (fun iv _ _=>s.size-(intOf iv).toNat)
      case atStart=>exact ⟨i+1,0,0,by go_num,rfl,rfl,hide (by omega),by omega,hide rfl⟩
      case round=>
       obtain ⟨y,q,e,rfl,rfl,rfl,Hy,hys,He⟩:=hrel
       have hes:e<1000:=by rw [He.out];exact aM Q3.out (by have:=Hy.out;omega)
       by_cases hlt:y<s.size
       ·have hltI:(y:Int)<(s.size:Int):=by omega
        have hdy:=Q3.out.dig y (by have:=Hy.out;omega) hlt
        rw [aA hlt] at hdy
        obtain ⟨y1,y2⟩:=hdy
        have y95:(((s[y].toNat:Nat):Int)==95)=false:=bq (by omega)
        have hne:=aV Hy.out hlt He.out y1
        have Hne:=hide hne
        clear hne
        go_wp2
        go_round
        case rel=>exact ⟨y+1,q+1,bX s (i+1) (q+1),by go_num,rfl,by rw [<-Hne.out],hide (by have:=Hy.out;omega),by omega,hide rfl⟩
        case measure=>simp [intOf];omega
       ·have hyE:(y:Int)=(s.size:Int):=by omega
        have HeV:Hid (e=v):=hide (by rw [He.out];exact bE Q3.out (by have:=Hy.out;omega))
        by_cases hm0:m=0
        ·have em:((m:Int)==0)=true:=by rw [hm0];rfl
         have HE:Hid (bU (dval ds) (x-b)=0):=hide (by unfold bU;rw [if_pos (by rw [<-Hf1.out];exact hm0)])
         clear hm0
         go_wp2
         go_returns
         exact ⟨(by rw [HE.out,<-Hf1.out,<-Hf2.out]<;>rfl),0,rfl⟩
        ·have em:((m:Int)==0)=false:=bq (by omega)
         have HE:Hid (bU (dval ds) (x-b)=(nd:Int)+e-nm):=hide (by
          unfold bU
          rw [if_neg (by rw [<-Hf1.out];exact hm0)]
          have:=Hf3.out
          have:=Hpi.out.2 Hp0.out
          have:=HeV.out
          omega)
         clear hm0
         go_wp2
         go_returns
         exact ⟨(by rw [HE.out,<-Hf1.out,<-Hf2.out]<;>rfl),0,rfl⟩
     ·have hp1:p=1:=by have:=Hpi.out.1;omega
      have hpd:decide (p=1)=true:=by simp;omega
      have Hp1:=hide hp1
      clear hp0 hp1
      go_wp2
      go_loop [7,9,20] (fun iv uv ev=>∃ (y q e:Nat),iv=.int .i64 y/\uv=.bool false/\ev=.int .i64 e/\Hid (y=i+1+q)/\y<=s.size/\Hid (e=bX s (i+1) q)) (fun iv _ _=>s.size-(intOf iv).toNat)
      case atStart=>exact ⟨i+1,0,0,by go_num,rfl,rfl,hide (by omega),by omega,hide rfl⟩
      case round=>
       obtain ⟨y,q,e,rfl,rfl,rfl,Hy,hys,He⟩:=hrel
       have hes:e<1000:=by rw [He.out];exact aM Q3.out (by have:=Hy.out;omega)
       by_cases hlt:y<s.size
       ·have hltI:(y:Int)<(s.size:Int):=by omega
        have hdy:=Q3.out.dig y (by have:=Hy.out;omega) hlt
        rw [aA hlt] at hdy
        obtain ⟨y1,y2⟩:=hdy
        have y95:(((s[y].toNat:Nat):Int)==95)=false:=bq (by omega)
        have hne:=aV Hy.out hlt He.out y1
        have Hne:=hide hne
        clear hne
        go_wp2
        go_round
        case rel=>exact ⟨y+1,q+1,bX s (i+1) (q+1),by go_num,rfl,by rw [<-Hne.out],hide (by have:=Hy.out;omega),by omega,hide rfl⟩
        case measure=>simp [intOf];omega
       ·have hyE:(y:Int)=(s.size:Int):=by omega
        have HeV:Hid (e=v):=hide (by rw [He.out];exact bE Q3.out (by have:=Hy.out;omega))
        by_cases hm0:m=0
        ·have em:((m:Int)==0)=true:=by rw [hm0];rfl
         have HE:Hid (bU (dval ds) (x-b)=0):=hide (by unfold bU;rw [if_pos (by rw [<-Hf1.out];exact hm0)])
         clear hm0
         go_wp2
         go_returns
         exact ⟨(by rw [HE.out,<-Hf1.out,<-Hf2.out]<;>rfl),0,rfl⟩
        ·have em:((m:Int)==0)=false:=bq (by omega)
         have HE:Hid (bU (dval ds) (x-b)=dp+e-nm):=hide (by
          unfold bU
          rw [if_neg (by rw [<-Hf1.out];exact hm0)]
          have:=Hf3.out
          have:=HS.out.dpp Hp1.out
          have:=HeV.out
          omega)
         clear hm0
         go_wp2
         go_returns
         exact ⟨(by rw [HE.out,<-Hf1.out,<-Hf2.out]<;>rfl),0,rfl⟩
end Go.Proofs.YtjibjahfbblieaaGreatDoor.F
