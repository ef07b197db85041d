import Derived.Test.YtjibjahfbblieaaGreatDoorKShelf2
namespace Go.Proofs.YtjibjahfbblieaaGreatDoor.F
open Go Go.RowKit
set_option linter.unusedVariables false
def Kn (b:Bool) (x:Nat):Nat:=if b=true then x else 0
set_option maxHeartbeats 12800000 in
set_option maxRecDepth 100000 in
theorem L_ (N l k:Nat) (v:Value) (w:World) (h:mg w v (digL N l)) (hN:N<10^l) (hk1:1<=k) (hk:k<l) (hk17:k<=17) (hl:l<=10000):
 Calls Tryz.prog 103 #[v,.int .i64 k] w fun e w'=>NA N l k w e w':=by
 obtain ⟨g,cap,rfl,h2,h3,h4,h5⟩:=h
 rw [digL_len] at h2 h5 ⊢
 have hT:mg w (.slice (some ⟨g,0,none⟩) k cap) ((digL N l).take k):=by
  have e:((digL N l).take k).length=k:=by rw [List.length_take,digL_len];omega
  refine ⟨g,cap,by rw [e],by omega,h3,h4,fun j hj=>?_⟩
  rw [e] at hj
  rw [h5 j (by omega)]
  have:((digL N l).take k).getD j 0=(digL N l).getD j 0:=by
   rw [List.getD_eq_getElem?_getD,List.getD_eq_getElem?_getD,List.getElem?_take_of_lt hj]
  rw [this]
 have hc:∀ j,j<l->w.cell? ⟨g,j,none⟩=some (.int .u8 (g_ N l j)):=fun j hj=>by rw [h5 j hj,bZ hj]
 have HT:=hide hT
 have Hc:=hide hc
 unfold maxLen at h3
 clear hT h5 hc
 go_enter Tryz.func103,Tryz.ntmps103
 go_wp2_with (first |(at_builtin;(refine GJ rfl _ _ rfl _ _ HT.out rfl rfl (by rw [List.length_take,digL_len];omega) ?_;intro v1 w1 hown1 hb1))|go_in)
 all_goals (
  obtain ⟨bo,co,hv1,_⟩:=hown1.byt
  have hTl:((digL N l).take k).length=k:=by rw [List.length_take,digL_len];omega
  rw [hTl] at hv1
  subst hv1
  have Hown:=hide hown1
  have Hb1:=hide hb1
  have hcell:∀ j,j<l->w1.cell? ⟨g,j,none⟩=some (.int .u8 (g_ N l j)):=fun j hj=>(hb1.cell (by exact h4)).trans (Hc.out j hj)
  have Hcell:=hide hcell
  have hout:w1.cell? ⟨bo,k-1,none⟩=some (.int .u8 (g_ N l (k-1))):=by
   obtain ⟨g2,c2,e2,a2,a3,a4,a5⟩:=hown1.byt
   injection e2 with e21 e22 e23
   injection e21 with e21
   cases e21
   rw [a5 (k-1) (by omega)]
   have:((digL N l).take k).getD (k-1) 0=(digL N l).getD (k-1) 0:=by
    rw [List.getD_eq_getElem?_getD,List.getD_eq_getElem?_getD,List.getElem?_take_of_lt (by omega)]
   rw [this,bZ (by omega)]
  have Hout:=hide hout
  clear hown1 hb1 hcell hout
  go_loop [8,24] (fun mv tv=>∃ (t:Nat) (b:Bool),mv=.bool b/\tv=.int .i64 t/\t<=l-k-1/\Hid (b=true↔N/10^(l-k-1-t)%10^t≠0)) (fun _ tv=>l-(intOf tv).toNat)
  case atStart=>exact ⟨0,false,rfl,rfl,by omega,hide (by rw [Nat.pow_zero,Nat.mod_one];simp)⟩
  case round=>
   obtain ⟨t,b,rfl,rfl,ht,HM⟩:=hrel
   by_cases htl:t<l-k-1
   ·first
    |(exfalso;omega)
    |(have hs:l-k-1-t=l-k-1-(t+1)+1:=by omega
      have hcx:=Hcell.out (k+1+t) (by omega)
      rw [iB] at hcx
      have es:l-1-(k+1+t)=l-k-1-(t+1):=by omega
      rw [es] at hcx
      have Hms:=hide (EP (N:=N) (s:=l-k-1-(t+1)) (t:=t) _ rfl)
      rw [hs] at HM
      clear hs es
      have hd10:N/10^(l-k-1-(t+1))%10<10:=by omega
      generalize N/10^(l-k-1-(t+1))%10=d at *
      by_cases hd0:d=0
      ·subst hd0
       have hcx:w1.cell? ⟨g,k+1+t,none⟩=some (.int .u8 48):=hcx
       go_wp2
       go_round
       case rel=>exact ⟨t+1,b,rfl,by go_num,by omega,hide (by rw [Hms.out,HM.out];simp)⟩
       case measure=>simp [intOf];omega
      ·have hne:¬ (48+(d:Int)=48):=by omega
       go_wp2
       go_round
       case rel=>exact ⟨t+1,true,rfl,by go_num,by omega,hide (by rw [Hms.out];simp [hd0])⟩
       case measure=>simp [intOf];omega)
   ·obtain rfl:t=l-k-1:=by omega
    rw [Nat.sub_self,Nat.pow_zero,Nat.div_one] at HM
    have hG:=Hcell.out k (by omega)
    rw [iB] at hG
    have hO:=Hout.out
    rw [iB] at hO
    have e1:l-1-k=l-k-1:=by omega
    have e2:l-1-(k-1)=l-k-1+1:=by omega
    have e3:l-k=l-k-1+1:=by omega
    rw [e1] at hG
    rw [e2] at hO
    have Hrq:=hide (DL N (l-k-1))
    rw [<-e3] at Hrq hO
    have HTd:Hid (aZ ((digL N l).take k)=true):=hide (by
     have:=pR N l
     unfold aZ at *
     rw [List.all_eq_true] at *
     intro z hz
     exact this z (List.mem_of_mem_take hz))
    have HTv:Hid (dval ((digL N l).take k)=N/10^(l-k)):=hide (mV hN k (by omega))
    have HRle:Hid (rq N (10^(l-k))<=10^k):=hide (by
     have e2:10^l=10^(l-k)*10^k:=by rw [<-Nat.pow_add];congr 1;omega
     exact nE (Nat.pow_pos (by omega)) (by omega))
    obtain ⟨RQ,hRQ⟩:∃ RQ,RQ=rq N (10^(l-k)):=⟨_,rfl⟩
    have HRQ:=hide hRQ
    rw [<-hRQ] at Hrq
    clear hRQ e1 e2 e3 Hcell Hout
    have hG10:N/10^(l-k-1)%10<10:=by omega
    have hpar:N/10^(l-k)%10%2=N/10^(l-k)%2:=by omega
    have hD10:N/10^(l-k)%10<10:=by omega
    rw [<-hpar] at Hrq
    generalize N/10^(l-k-1)%10=G at *
    generalize N/10^(l-k)%10=D at *
    rw [<-HTv.out] at Hrq
    clear hpar
    have Hrq2:Hid (RQ=dval ((digL N l).take k)+(if 5<G∨(G=5/\(b=true∨D%2=1)) then 1 else 0)):=hide (by
     rw [Hrq.out]
     congr 1
     by_cases hh:5<G∨(G=5/\(b=true∨D%2=1))
     ·rw [if_pos hh,if_pos (by rw [<-HM.out];exact hh)]
     ·rw [if_neg hh,if_neg (by rw [<-HM.out];exact hh)])
    have HU0:∀ bb:Bool,(bb=true↔(5<G∨(G=5/\(b=true∨D%2=1))))->Hid (dval ((digL N l).take k)+Kn bb (10^(k-k))=RQ):=fun bb hbb=>hide (by
     rw [Hrq2.out,Nat.sub_self,Nat.pow_zero]
     unfold Kn
     congr 1
     by_cases hh:bb=true
     ·rw [if_pos hh,if_pos (hbb.1 hh)]
     ·rw [if_neg hh,if_neg (fun hx=>hh (hbb.2 hx))])
    have HUU:=hide HU0
    clear HU0 Hrq Hrq2 HM HTv
    have hways:5<G∨G<5∨(G=5/\b=true)∨(G=5/\b=false/\D%2=1)∨(G=5/\b=false/\D%2=0):=by
     cases b<;>simp<;>omega
    rcases hways with hw|hw|⟨rfl,rfl⟩|⟨rfl,rfl,hw⟩|⟨rfl,rfl,hw⟩
    all_goals first
     |(have HU:=HUU.out true (by simp [hw]);have hw5:(53:Int)<48+(G:Int):=by omega
       clear HUU;go_wp2)
     |(have HU:=HUU.out false (by simp;omega);have hw5:¬ (53:Int)<48+(G:Int):=by omega
       have hw6:¬ (48+(G:Int)=53):=by omega
       clear HUU;go_wp2)
     |(have HU:=HUU.out true (by simp [hw]);have hG:w1.cell? ⟨g,k,none⟩=some (.int .u8 53):=hG
       have hw5:(48+(D:Int))%2=1:=by omega
       clear HUU;go_wp2)
     |(have HU:=HUU.out false (by simp;omega);have hG:w1.cell? ⟨g,k,none⟩=some (.int .u8 53):=hG
       have hw5:(48+(D:Int))%2=0:=by omega
       clear HUU;go_wp2)
     |(have HU:=HUU.out true (by simp);have hG:w1.cell? ⟨g,k,none⟩=some (.int .u8 53):=hG
       clear HUU;go_wp2)
    all_goals (
     go_loopw [11,12] (fun uv iv wr=>∃ (b:Bool) (p:Nat) (L:List Int),uv=.bool b/\iv=.int .i64 ((p:Int)-1)/\p<=k/\eG wr w.heap.size (.slice (some ⟨bo,0,none⟩) k co) L/\L.length=k/\Hid (aZ L=true)/\Hid (dval L+Kn b (10^(k-p))=RQ)/\Below w.heap.size w wr) (fun _ iv _=>(intOf iv+1).toNat)
     case atStart=>exact ⟨_,k,_,rfl,rfl,Nat.le_refl _,Hown.out,hTl,HTd,HU,Hb1.out⟩
     case round=>
      clear HU
      obtain ⟨b,p,L,rfl,rfl,hp,hown,hLl,Hd,Hv,hb⟩:=hrel
      cases b with
      |false=>
       have Hbyt:=hide hown.byt
       have Hb:=hide hb
       have Hv2:Hid (dval L=RQ):=hide (by have:=Hv.out;unfold Kn at this;simpa using this)
       clear hown hb Hv
       go_wp2
       go_ret2
       exact Pb hLl Hd.out (by rw [Hv2.out,HRQ.out]) Hbyt.out Hb.out
      |true=>
       by_cases hp0:p=0
       ·subst hp0
        have Hb:=hide hb
        have hTk:mg wr (.slice (some ⟨bo,0,none⟩) (k-1) co) (L.take (k-1)):=by
         obtain ⟨g2,c2,e2,a2,a3,a4,a5⟩:=hown.byt
         rw [hLl] at e2 a2 a5
         injection e2 with e21 e22 e23
         injection e21 with e21
         cases e21
         subst e23
         have e:(L.take (k-1)).length=k-1:=by rw [List.length_take];omega
         refine ⟨bo,co,by rw [e],by omega,a3,a4,fun j hj=>?_⟩
         rw [e] at hj
         rw [a5 j (by omega)]
         have:(L.take (k-1)).getD j 0=L.getD j 0:=by
          rw [List.getD_eq_getElem?_getD,List.getD_eq_getElem?_getD,List.getElem?_take_of_lt hj]
         rw [this]
        have HTk:=hide hTk
        have Hv2:Hid (dval L+10^k=RQ):=hide (by have:=Hv.out;unfold Kn at this;simpa using this)
        clear hown hTk hb Hv
        go_wp2_with (first |(at_builtin;(refine jC rfl _ _ rfl _ 49 _ HTk.out rfl rfl (by rw [List.length_take];omega) ?_;intro v9 w9 hbyt9 hb9))|go_in)
        go_wp2
        go_ret2
        exact PK hk1 hLl Hd.out (by rw [Hv2.out,HRQ.out]) HRle.out hbyt9 (Hb.out.trans (hb9.mono Hb.out.size))
       ·have hk1L:=hown.1
        rw [hLl] at hk1L
        have hfr:=hk1L.frozenAt (p-1)
        have hpl:p-1<L.length:=by omega
        have hcell:wr.cell? ⟨bo,p-1,none⟩=some (.int .u8 (L.getD (p-1) 0)):=by
         obtain ⟨g2,c2,e2,a2,a3,a4,a5⟩:=hown.byt
         injection e2 with e21 e22 e23
         injection e21 with e21
         cases e21
         exact a5 (p-1) hpl
        have hrange:=Ap Hd.out (rU hpl)
        have Hset:=hide (zL L (p-1) · hpl)
        obtain ⟨x,hx⟩:∃ x,x=L.getD (p-1) 0:=⟨_,rfl⟩
        rw [<-hx] at hcell hrange Hset
        rw [hLl] at Hset
        clear hx
        by_cases h9:x=57
        ·subst h9
         have hst:=hk1L.stored (p-1) (.int .u8 48)
         have R:eG (wr.setCell ⟨bo,p-1,none⟩ (.int .u8 48)) w.heap.size (.slice (some ⟨bo,0,none⟩) k co) (L.set (p-1) 48):=⟨by rw [List.length_set,List.map_set,hLl];exact hst.1,hown.2⟩
         have hbs:Below w.heap.size w (wr.setCell ⟨bo,p-1,none⟩ (.int .u8 48)):=hb.setCell (hown.1.lt bo rfl).1 _
         have HR:=hide R
         have Hbs:=hide hbs
         have Hn:Hid (dval (L.set (p-1) 48)+Kn true (10^(k-(p-1)))=RQ):=hide (by
          have h1:=Hset.out 48
          have h2:=Hv.out
          unfold Kn at *
          simp only [if_true] at *
          have e1:k-1-(p-1)=k-p:=by omega
          have e2:k-(p-1)=k-p+1:=by omega
          rw [e1] at h1
          rw [e2,Nat.pow_succ]
          have e3:((57:Int)-48).toNat=9:=rfl
          have e4:((48:Int)-48).toNat=0:=rfl
          rw [e3,e4] at h1
          omega)
         clear hst R hbs hk1L hown Hset hb
         go_wp2
         go_roundw
         case rel=>exact ⟨true,p-1,_,rfl,by go_num,by omega,HR.out,by rw [List.length_set];exact hLl,hide (rV Hd.out (by omega)),Hn,Hbs.out⟩
         case measure=>simp [intOf];omega
        ·have hst:=hk1L.stored (p-1) (.int .u8 (x+1))
         have R:eG (wr.setCell ⟨bo,p-1,none⟩ (.int .u8 (x+1))) w.heap.size (.slice (some ⟨bo,0,none⟩) k co) (L.set (p-1) (x+1)):=⟨by rw [List.length_set,List.map_set,hLl];exact hst.1,hown.2⟩
         have hbs:Below w.heap.size w (wr.setCell ⟨bo,p-1,none⟩ (.int .u8 (x+1))):=hb.setCell (hown.1.lt bo rfl).1 _
         have HR:=hide R
         have Hbs:=hide hbs
         have Hn:Hid (dval (L.set (p-1) (x+1))+Kn false (10^(k-(p-1)))=RQ):=hide (by
          have h1:=Hset.out (x+1)
          have h2:=Hv.out
          unfold Kn at *
          simp only [if_true,Bool.false_eq_true,if_false] at *
          have e1:k-1-(p-1)=k-p:=by omega
          rw [e1] at h1
          have e3:(x+1-48).toNat=(x-48).toNat+1:=by omega
          rw [e3,Nat.add_mul] at h1
          omega)
         clear hst R hbs hk1L hown Hset hb
         go_wp2
         go_roundw
         case rel=>exact ⟨false,p-1,_,rfl,by go_num,by omega,HR.out,by rw [List.length_set];exact hLl,hide (rV Hd.out (by omega)),Hn,Hbs.out⟩
         case measure=>simp [intOf];omega))
end Go.Proofs.YtjibjahfbblieaaGreatDoor.F
