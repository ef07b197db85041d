import Derived.Test.YtjibjahfbblieaaGreatDoorKBR
import Derived.Test.YtjibjahfbblieaaGreatDoorKMC1
import Derived.Test.YtjibjahfbblieaaGreatDoorKShelf2
namespace Go.Proofs.YtjibjahfbblieaaGreatDoor.F
open Go Go.RowKit
set_option linter.unusedVariables false
def QD (r:Nat) (w:World) (e:Ending) (w':World):Prop:=
 ∃ (v:Value) (N P:Nat),e=.returned (.tuple #[v,.int .i64 P])/\mg w' v (dM N)/\(∀ c:Nat,c=1074->N*2^c=wV r*10^P)/\0<N/\P<=1074/\(dM N).length<=10000/\Below w.heap.size w w'
theorem zO {M j:Nat} (hM:M<9007199254740992) (hj:j<=1074):(dig (M*5^j)).length<=1078:=by
 obtain ⟨k,hk⟩:∃ k,k=1078:=⟨_,rfl⟩
 rw [<-hk]
 apply bJ
 have h1:5^j<=10000^j:=Nat.pow_le_pow_left (by omega) _
 have h2:M*5^j<10000^4*10000^j:=Nat.lt_of_lt_of_le (Nat.mul_lt_mul_of_pos_right (show M<10000^4 by omega) (Nat.pow_pos (by omega))) (Nat.mul_le_mul_left _ h1)
 rw [<-Nat.pow_add] at h2
 exact Nat.lt_of_lt_of_le h2 (Nat.pow_le_pow_right (by omega) (by omega))
theorem gH {N k:Nat} (h:N<10000^k):(dM N).length<=4*k+1:=by
 unfold dM
 split
 ·simp
 ·have e:10000^k=10^(4*k):=by rw [Nat.pow_mul]
  rw [e] at h
  exact decL_len (Nat.lt_of_lt_of_le h (Nat.pow_le_pow_right (by omega) (by omega))) (by omega)
theorem Ga {Y t:Nat} (ht:t<4):Y/10^(4-(t+1))=Y/10^(4-t)*10+Y/10^(3-t)%10:=by
 have e1:4-(t+1)=3-t:=by omega
 have e2:4-t=3-t+1:=by omega
 rw [e1,e2,Nat.pow_succ,<-Nat.div_div_eq_div_mul]
 omega
theorem fK {Y t:Nat} (ht:t<4) (c:Int) (hc:c=48+((Y/10^(3-t)%10:Nat):Int)):
 ((0<(dM (Y/10^(4-t))).length∨c≠48)->dM (Y/10^(4-t))++[c]=dM (Y/10^(4-(t+1))))/\((dM (Y/10^(4-t))).length=0->c=48->dM (Y/10^(4-t))=dM (Y/10^(4-(t+1)))):=by
 have hl:=JO (Y/10^(4-t))
 have hs:=oP (X:=Y/10^(4-t)) (c:=Y/10^(3-t)%10) (by omega)
 rw [<-Ga ht] at hs
 subst hc
 generalize Y/10^(3-t)%10=d at *
 constructor
 ·intro h
  rw [hs,if_neg]
  rintro ⟨h1,h2⟩
  have:=hl.2 h1
  omega
 ·intro h1 h2
  rw [hs,if_pos ⟨hl.1 h1,by omega⟩,hl.1 h1]
  rfl
set_option maxHeartbeats 6400000 in
set_option maxRecDepth 100000 in
theorem LX (r:Nat) (w:World) (h0r:0<r) (hr:r<ak):Calls Tryz.prog 102 #[.int .u64 r] w fun e w'=>QD r w e w':=by
 have HP:=hide (fun w=>DY r w hr)
 have hm:=qP r
 have hk:=IB hr
 obtain ⟨c,hc⟩:∃ c:Nat,c=1074:=⟨_,rfl⟩
 have Hc:=hide hc
 have HV:Hid (wV r=wM r*2^(wE r+c).toNat):=hide (by unfold wV;congr 2;unfold wE;omega)
 have hE1: -1074<=wE r:=by unfold wE;omega
 have hE2:wE r<=971:=by unfold wE;omega
 have hm0:0<wM r:=by
  have:=nO r
  unfold wM wK at *
  split at this<;>split<;>omega
 clear hc hk
 generalize wM r=m0 at *
 generalize wE r=e0 at *
 go_enter Tryz.func102,Tryz.ntmps102
 go_wp2_with fail
 refine (HP.out _).mono ?_
 rintro e w' ⟨rfl,rfl⟩
 go_wp2
 go_loop [4,5] (fun mv ev=>∃ (M:Nat) (E:Int),mv=.int .i64 M/\ev=.int .i64 E/\0<M/\M<9007199254740992/\ -1074<=E/\E<=971/\Hid (wV r=M*2^(E+c).toNat)) (fun mv ev=>(1000-intOf ev).toNat)
 case atStart=>exact ⟨m0,e0,rfl,rfl,hm0,hm,hE1,hE2,HV⟩
 case round=>
  clear HV hm hE1 hE2 hm0
  obtain ⟨M,E,rfl,rfl,hM0,hM,h1,h2,HV⟩:=hrel
  by_cases hgo:E<0/\M%2=0
  ·obtain ⟨g1,g2⟩:=hgo
   have Hn:Hid (wV r=M/2*2^(E+1+c).toNat):=hide (by
    rw [HV.out]
    have e1:(E+1+c).toNat=(E+c).toNat+1:=by have:=Hc.out;omega
    rw [e1,Nat.pow_succ]
    have e2:M=M/2*2:=by omega
    conv=>lhs;rw [e2]
    generalize 2^(E+c).toNat=z
    grind)
   have hm2:(M:Int)%2=0:=by omega
   go_wp2
   go_round
   case rel=>exact ⟨M/2,E+1,by go_num,by go_num,by omega,by omega,by omega,by omega,Hn⟩
   case measure=>simp [intOf];omega
  ·have hO:=hide (fun w=>Nf M w (by omega))
   have hL5:(dig M).length<=5:=zf (by omega)
   have hend:(0<=E)∨(E<0/\(M:Int)%2≠0):=by omega
   clear hgo
   rcases hend with g1|⟨g1,g2⟩
   ·have hE0:∃ k:Nat,E=k:=⟨E.toNat,by omega⟩
    obtain ⟨k,rfl⟩:=hE0
    have hB0:0<M*2^k:=Nat.mul_pos hM0 (Nat.pow_pos (by omega))
    have HF:Hid (∀ c:Nat,c=1074->M*2^k*2^c=wV r):=hide (fun c' hc'=>by
     rw [HV.out,Nat.mul_assoc,<-Nat.pow_add]
     congr 2
     have:=Hc.out
     omega)
    have hbl:(dig (M*2^k)).length<=1000:=by have:=iW M k;omega
    clear g1 HV
    go_wp2_with fail
    refine (hO.out _).mono ?_
    rintro e w1 ⟨v1,rfl,hbig1,hb1⟩
    go_wp2_with fail
    refine (Cq M k v1 w1 hbig1 (by omega)).mono ?_
    rintro e w2 ⟨v2,rfl,hbigS,hb2⟩
    have hbS:=hb1.trans (hb2.mono hb1.size)
    clear hbig1 hb1 hb2 hO
    have HLB:Hid (∀ j:Nat,j<=1074->(j=0∨(k:Int)+j<=0)->(dig (M*2^k*5^j)).length<=1078):=hide (fun j _ hj=>by
     obtain rfl:j=0:=by omega
     rw [Nat.pow_zero,Nat.mul_one]
     omega)
    clear hbl
    generalize M*2^k=B0 at *
    go_wp2_with fail
    go_loopw [5,6,7] (fun ev nv pv wr=>∃ j:Nat,ev=.int .i64 ((k:Int)+j)/\pv=.int .i64 j/\Big wr nv (dig (B0*5^j))/\(j=0∨(k:Int)+j<=0)/\Below w'.heap.size w' wr) (fun ev _ _ _=>(-(intOf ev)).toNat)
    case atStart=>exact ⟨0,by simp,rfl,by rw [Nat.pow_zero,Nat.mul_one];exact hbigS,.inl rfl,hbS⟩
    case round=>
     clear hbigS hbS
     obtain ⟨j,rfl,rfl,hbig,hj,hb⟩:=hrel
     have hjle:j<=1074:=by omega
     by_cases hneg:(k:Int)+j<0
     ·have hlen:=HLB.out j hjle hj
      have HT:=hide (oL (B0*5^j) 5 0 _ _ hbig (by omega) (by omega) (by omega))
      have Hb:=hide hb
      clear hbig hb
      have He5:Hid (B0*5^j*5+0=B0*5^(j+1)):=hide (by rw [Nat.pow_succ,Nat.mul_assoc];rfl)
      go_wp2_with fail
      refine HT.out.mono ?_
      rintro e w3 ⟨v3,rfl,hbig3,hb3⟩
      rw [He5.out] at hbig3
      have Hb3:=hide (Hb.out.trans (hb3.mono Hb.out.size))
      clear hb3
      go_wp2
      go_roundw
      case rel=>exact ⟨j+1,by go_num,by go_num,hbig3,.inr (by omega),Hb3.out⟩
      case measure=>simp [intOf];omega
     ·have HN:Hid (∀ c:Nat,c=1074->B0*5^j*2^c=wV r*10^j):=hide (fun c' hc'=>by
       obtain rfl:j=0:=by omega
       simp only [Nat.pow_zero,Nat.mul_one]
       exact HF.out c' hc')
      have HB0:Hid (0<B0*5^j):=hide (Nat.mul_pos hB0 (Nat.pow_pos (by omega)))
      have hNlen:=HLB.out j hjle hj
      obtain ⟨B,hB⟩:∃ B,B=B0*5^j:=⟨_,rfl⟩
      rw [<-hB] at hbig HN HB0 hNlen
      clear hB
      have HDl:=hide (gH (dR B))
      obtain ⟨gn,cn,hvn⟩:=hbig.len
      subst hvn
      rename World=>wA
      have Hb:=hide hb
      clear hb
      go_wp2_with fail
      go_loopw [8,9] (fun ov iv wx=>∃ q:Nat,q<=(dig B).length/\iv=.int .i64 ((q:Int)-1)/\eG wx wA.heap.size ov (dM (B/10000^q))/\Below wA.heap.size wA wx) (fun _ iv _=>(intOf iv+1).toNat)
      case atStart=>
       refine ⟨(dig B).length,Nat.le_refl _,by go_num,?_,(Below.refl _ _).alloc (Nat.le_refl _) _⟩
       rw [Nat.div_eq_of_lt (dR B)]
       exact mZ wA
      case round=>
       rename World=>wB
       obtain ⟨q,hq,rfl,hown,hbx⟩:=hrel
       by_cases h0:0<q
       ·have hsx:=hbx.size
        have hq1:(1:Int)<=(q:Int):=by omega
        have Hl:Hid ((dM (B/10000^q)).length<=10000):=hide (by
         have h1:=gH (N:=B/10000^q) (k:=(dig B).length) (Nat.lt_of_le_of_lt (Nat.div_le_self _ _) (dR B))
         omega)
        have hq0:Hid (B/10000^(q-1)/10^(4-0)=B/10000^q):=hide (by
         have:q=q-1+1:=by omega
         conv=>rhs;rw [this,Nat.pow_succ,<-Nat.div_div_eq_div_mul])
        rw [<-hq0.out] at hown
        have HqB:Hid (B/10000^(q-1)/10^(4-4)=B/10000^(q-1)):=hide (by rw [Nat.sub_self,Nat.pow_zero,Nat.div_one])
        have HlY:Hid (∀ k,(dM (B/10000^(q-1)/k)).length<=10000):=hide (fun k=>by
         have h1:=gH (N:=B/10000^(q-1)/k) (k:=(dig B).length) (Nat.lt_of_le_of_lt (Nat.div_le_self _ _) (Nat.lt_of_le_of_lt (Nat.div_le_self _ _) (dR B)))
         omega)
        obtain ⟨Y,hY⟩:∃ Y,Y=B/10000^(q-1):=⟨_,rfl⟩
        rw [<-hY] at hown HqB HlY
        have HY:=hide hY
        clear hY hq0
        have hne:∀ {v:Value} {L:List Int},eG wB wA.heap.size v L->v.ownBlock≠some wB.heap.size:=by
         intro v L ho hh
         have:=(ho.1.lt _ hh).2
         omega
        have hne:=hne hown
        go_wp2_with fail
        go_loopw [8,58] (fun ov tv wy=>∃ t:Nat,t<=4/\tv=.int .i64 t/\eG wy wA.heap.size ov (dM (Y/10^(4-t)))/\ov.ownBlock≠some wB.heap.size/\wB.heap.size<wy.heap.size/\wy.cell? ⟨wB.heap.size,0,none⟩=some (.int .i64 1000)/\wy.cell? ⟨wB.heap.size,1,none⟩=some (.int .i64 100)/\wy.cell? ⟨wB.heap.size,2,none⟩=some (.int .i64 10)/\wy.cell? ⟨wB.heap.size,3,none⟩=some (.int .i64 1)/\Below wA.heap.size wA wy) (fun _ tv _=>4-(intOf tv).toNat)
        case atStart=>exact ⟨0,by omega,rfl,⟨hown.1.alloc _,hown.2⟩,hne,by simp,by simp,by simp,by simp,by simp,hbx.alloc hsx _⟩
        case round=>
         clear hown hne
         obtain ⟨t,ht,rfl,hown,hne,hlit,l0,l1,l2,l3,hby⟩:=hrel
         have hcn:wr.cell? ⟨gn,q-1,none⟩=some (.int .i64 ((Y%10000:Nat):Int)):=by
          obtain ⟨g2,c2,e2,_,_,_,h5⟩:=(hbig.below hby)
          cases e2
          rw [h5 (q-1) (by omega),jT,<-HY.out]
         obtain ⟨Z,hZ⟩:∃ Z,Z=Y%10000:=⟨_,rfl⟩
         rw [<-hZ] at hcn
         have hlm:Z<10000:=by omega
         have HZ:=hide hZ
         clear hZ
         by_cases ht4:t<4
         ·have hgo:t=0∨t=1∨t=2∨t=3:=by omega
          clear ht ht4
          rcases hgo with rfl|rfl|rfl|rfl
          ·have Hn:=hide (fK (Y:=Y) (t:=0) (by omega) (48+(Z:Int)/1000%10) (by have:=HZ.out;omega))
           have Hlen:Hid ((dM (Y/10^(4-0))).length<=10000):=hide (HlY.out _)
           obtain ⟨D,hD⟩:∃ D,D=dM (Y/10^(4-0)):=⟨_,rfl⟩
           rw [<-hD] at hown Hn Hlen
           clear hD
           obtain ⟨bo,co,hv,_⟩:=hown.byt
           subst hv
           have hl:=Hlen.out
           by_cases hpos:0<D.length
           ·have hap:=Hn.out.1 (.inl hpos)
            have Hap:=hide hap
            clear hap Hn
            go_wp2_with (first |(at_builtin;(refine aT rfl _ _ rfl wA.heap.size wB.heap.size _ D (48+(Z:Int)/1000%10) hown hne hlit rfl rfl (by omega) (by omega) ?_;intro v1 w1 hown1 hne1 hlit1 hcells1 hb1))|go_in)
            go_wp2
            go_roundw
            case rel=>exact ⟨1,by omega,by go_num,by rw [<-Hap.out];exact hown1,hne1,hlit1,hcells1 _ _ l0,hcells1 _ _ l1,hcells1 _ _ l2,hcells1 _ _ l3,hb1 _ _ hby (Nat.le_refl _)⟩
            case measure=>simp [intOf]
           ·by_cases hc48:48+(Z:Int)/1000%10=48
            ·have Hap:=hide (Hn.out.2 (by omega) hc48)
             clear Hn
             go_wp2
             go_roundw
             case rel=>exact ⟨1,by omega,by go_num,by rw [<-Hap.out];exact hown,hne,hlit,l0,l1,l2,l3,hby⟩
             case measure=>simp [intOf]
            ·have Hap:=hide (Hn.out.1 (.inr hc48))
             clear Hn
             go_wp2_with (first |(at_builtin;(refine aT rfl _ _ rfl wA.heap.size wB.heap.size _ D (48+(Z:Int)/1000%10) hown hne hlit rfl rfl (by omega) (by omega) ?_;intro v1 w1 hown1 hne1 hlit1 hcells1 hb1))|go_in)
             go_wp2
             go_roundw
             case rel=>exact ⟨1,by omega,by go_num,by rw [<-Hap.out];exact hown1,hne1,hlit1,hcells1 _ _ l0,hcells1 _ _ l1,hcells1 _ _ l2,hcells1 _ _ l3,hb1 _ _ hby (Nat.le_refl _)⟩
             case measure=>simp [intOf]
          ·have Hn:=hide (fK (Y:=Y) (t:=1) (by omega) (48+(Z:Int)/100%10) (by have:=HZ.out;omega))
           have Hlen:Hid ((dM (Y/10^(4-1))).length<=10000):=hide (HlY.out _)
           obtain ⟨D,hD⟩:∃ D,D=dM (Y/10^(4-1)):=⟨_,rfl⟩
           rw [<-hD] at hown Hn Hlen
           clear hD
           obtain ⟨bo,co,hv,_⟩:=hown.byt
           subst hv
           have hl:=Hlen.out
           by_cases hpos:0<D.length
           ·have hap:=Hn.out.1 (.inl hpos)
            have Hap:=hide hap
            clear hap Hn
            go_wp2_with (first |(at_builtin;(refine aT rfl _ _ rfl wA.heap.size wB.heap.size _ D (48+(Z:Int)/100%10) hown hne hlit rfl rfl (by omega) (by omega) ?_;intro v1 w1 hown1 hne1 hlit1 hcells1 hb1))|go_in)
            go_wp2
            go_roundw
            case rel=>exact ⟨2,by omega,by go_num,by rw [<-Hap.out];exact hown1,hne1,hlit1,hcells1 _ _ l0,hcells1 _ _ l1,hcells1 _ _ l2,hcells1 _ _ l3,hb1 _ _ hby (Nat.le_refl _)⟩
            case measure=>simp [intOf]
           ·by_cases hc48:48+(Z:Int)/100%10=48
            ·have Hap:=hide (Hn.out.2 (by omega) hc48)
             clear Hn
             go_wp2
             go_roundw
             case rel=>exact ⟨2,by omega,by go_num,by rw [<-Hap.out];exact hown,hne,hlit,l0,l1,l2,l3,hby⟩
             case measure=>simp [intOf]
            ·have Hap:=hide (Hn.out.1 (.inr hc48))
             clear Hn
             go_wp2_with (first |(at_builtin;(refine aT rfl _ _ rfl wA.heap.size wB.heap.size _ D (48+(Z:Int)/100%10) hown hne hlit rfl rfl (by omega) (by omega) ?_;intro v1 w1 hown1 hne1 hlit1 hcells1 hb1))|go_in)
             go_wp2
             go_roundw
             case rel=>exact ⟨2,by omega,by go_num,by rw [<-Hap.out];exact hown1,hne1,hlit1,hcells1 _ _ l0,hcells1 _ _ l1,hcells1 _ _ l2,hcells1 _ _ l3,hb1 _ _ hby (Nat.le_refl _)⟩
             case measure=>simp [intOf]
          ·have Hn:=hide (fK (Y:=Y) (t:=2) (by omega) (48+(Z:Int)/10%10) (by have:=HZ.out;omega))
           have Hlen:Hid ((dM (Y/10^(4-2))).length<=10000):=hide (HlY.out _)
           obtain ⟨D,hD⟩:∃ D,D=dM (Y/10^(4-2)):=⟨_,rfl⟩
           rw [<-hD] at hown Hn Hlen
           clear hD
           obtain ⟨bo,co,hv,_⟩:=hown.byt
           subst hv
           have hl:=Hlen.out
           by_cases hpos:0<D.length
           ·have hap:=Hn.out.1 (.inl hpos)
            have Hap:=hide hap
            clear hap Hn
            go_wp2_with (first |(at_builtin;(refine aT rfl _ _ rfl wA.heap.size wB.heap.size _ D (48+(Z:Int)/10%10) hown hne hlit rfl rfl (by omega) (by omega) ?_;intro v1 w1 hown1 hne1 hlit1 hcells1 hb1))|go_in)
            go_wp2
            go_roundw
            case rel=>exact ⟨3,by omega,by go_num,by rw [<-Hap.out];exact hown1,hne1,hlit1,hcells1 _ _ l0,hcells1 _ _ l1,hcells1 _ _ l2,hcells1 _ _ l3,hb1 _ _ hby (Nat.le_refl _)⟩
            case measure=>simp [intOf]
           ·by_cases hc48:48+(Z:Int)/10%10=48
            ·have Hap:=hide (Hn.out.2 (by omega) hc48)
             clear Hn
             go_wp2
             go_roundw
             case rel=>exact ⟨3,by omega,by go_num,by rw [<-Hap.out];exact hown,hne,hlit,l0,l1,l2,l3,hby⟩
             case measure=>simp [intOf]
            ·have Hap:=hide (Hn.out.1 (.inr hc48))
             clear Hn
             go_wp2_with (first |(at_builtin;(refine aT rfl _ _ rfl wA.heap.size wB.heap.size _ D (48+(Z:Int)/10%10) hown hne hlit rfl rfl (by omega) (by omega) ?_;intro v1 w1 hown1 hne1 hlit1 hcells1 hb1))|go_in)
             go_wp2
             go_roundw
             case rel=>exact ⟨3,by omega,by go_num,by rw [<-Hap.out];exact hown1,hne1,hlit1,hcells1 _ _ l0,hcells1 _ _ l1,hcells1 _ _ l2,hcells1 _ _ l3,hb1 _ _ hby (Nat.le_refl _)⟩
             case measure=>simp [intOf]
          ·have Hn:=hide (fK (Y:=Y) (t:=3) (by omega) (48+(Z:Int)%10) (by have:=HZ.out;omega))
           have Hlen:Hid ((dM (Y/10^(4-3))).length<=10000):=hide (HlY.out _)
           obtain ⟨D,hD⟩:∃ D,D=dM (Y/10^(4-3)):=⟨_,rfl⟩
           rw [<-hD] at hown Hn Hlen
           clear hD
           obtain ⟨bo,co,hv,_⟩:=hown.byt
           subst hv
           have hl:=Hlen.out
           by_cases hpos:0<D.length
           ·have hap:=Hn.out.1 (.inl hpos)
            have Hap:=hide hap
            clear hap Hn
            go_wp2_with (first |(at_builtin;(refine aT rfl _ _ rfl wA.heap.size wB.heap.size _ D (48+(Z:Int)%10) hown hne hlit rfl rfl (by omega) (by omega) ?_;intro v1 w1 hown1 hne1 hlit1 hcells1 hb1))|go_in)
            go_wp2
            go_roundw
            case rel=>exact ⟨4,by omega,by go_num,by rw [<-Hap.out];exact hown1,hne1,hlit1,hcells1 _ _ l0,hcells1 _ _ l1,hcells1 _ _ l2,hcells1 _ _ l3,hb1 _ _ hby (Nat.le_refl _)⟩
            case measure=>simp [intOf]
           ·by_cases hc48:48+(Z:Int)%10=48
            ·have Hap:=hide (Hn.out.2 (by omega) hc48)
             clear Hn
             go_wp2
             go_roundw
             case rel=>exact ⟨4,by omega,by go_num,by rw [<-Hap.out];exact hown,hne,hlit,l0,l1,l2,l3,hby⟩
             case measure=>simp [intOf]
            ·have Hap:=hide (Hn.out.1 (.inr hc48))
             clear Hn
             go_wp2_with (first |(at_builtin;(refine aT rfl _ _ rfl wA.heap.size wB.heap.size _ D (48+(Z:Int)%10) hown hne hlit rfl rfl (by omega) (by omega) ?_;intro v1 w1 hown1 hne1 hlit1 hcells1 hb1))|go_in)
             go_wp2
             go_roundw
             case rel=>exact ⟨4,by omega,by go_num,by rw [<-Hap.out];exact hown1,hne1,hlit1,hcells1 _ _ l0,hcells1 _ _ l1,hcells1 _ _ l2,hcells1 _ _ l3,hb1 _ _ hby (Nat.le_refl _)⟩
             case measure=>simp [intOf]
         ·obtain rfl:t=4:=by omega
          rw [HqB.out,HY.out] at hown
          go_wp2
          refine ⟨⟨q-1,by omega,by congr 1;omega,hown,hby⟩,?_⟩
          simp [intOf]
          omega
       ·obtain rfl:q=0:=by omega
        rw [Nat.pow_zero,Nat.div_one] at hown
        have Hown:=hide hown.byt
        have Hbx:=hide (Hb.out.trans (hbx.mono Hb.out.size))
        clear hown hbx
        go_wp2
        go_ret2
        exact ⟨_,B,j,rfl,Hown.out,HN.out,HB0.out,hjle,by have:=HDl.out;omega,Hbx.out⟩
   ·have hB0:0<M:=hM0
    have HF:Hid (∀ c:Nat,c=1074->∀ j:Nat,E= -(j:Int)->M*5^j*2^c=wV r*10^j):=hide (fun c' hc' j hj=>by
     rw [HV.out]
     have:=Hc.out
     have e1:c'=(E+c).toNat+j:=by omega
     have e2:(10:Nat)^j=2^j*5^j:=by rw [<-Nat.mul_pow]
     rw [e1,e2,Nat.pow_add]
     generalize 2^(E+c).toNat=z
     generalize 2^j=y
     generalize 5^j=x
     grind)
    clear HV
    go_wp2_with fail
    refine (hO.out _).mono ?_
    rintro e w1 ⟨v1,rfl,hbigS,hbS⟩
    clear hO
    go_wp2_with fail
    go_loopw [5,6,7] (fun ev nv pv wr=>∃ j:Nat,ev=.int .i64 (E+j)/\pv=.int .i64 j/\Big wr nv (dig (M*5^j))/\(j=0∨E+j<=0)/\Below w'.heap.size w' wr) (fun ev _ _ _=>(-(intOf ev)).toNat)
    case atStart=>exact ⟨0,by simp,rfl,by rw [Nat.pow_zero,Nat.mul_one];exact hbigS,.inl rfl,hbS⟩
    case round=>
     clear hbigS hbS
     obtain ⟨j,rfl,rfl,hbig,hj,hb⟩:=hrel
     have hjle:j<=1074:=by omega
     by_cases hneg:E+j<0
     ·have hlen:=zO hM hjle
      have HT:=hide (oL (M*5^j) 5 0 _ _ hbig (by omega) (by omega) (by omega))
      have Hb:=hide hb
      clear hbig hb
      have He5:Hid (M*5^j*5+0=M*5^(j+1)):=hide (by rw [Nat.pow_succ,Nat.mul_assoc];rfl)
      go_wp2_with fail
      refine HT.out.mono ?_
      rintro e w3 ⟨v3,rfl,hbig3,hb3⟩
      rw [He5.out] at hbig3
      have Hb3:=hide (Hb.out.trans (hb3.mono Hb.out.size))
      clear hb3
      go_wp2
      go_roundw
      case rel=>exact ⟨j+1,by go_num,by go_num,hbig3,.inr (by omega),Hb3.out⟩
      case measure=>simp [intOf];omega
     ·have HN:Hid (∀ c:Nat,c=1074->M*5^j*2^c=wV r*10^j):=hide (fun c' hc'=>HF.out c' hc' j (by omega))
      have HB0:Hid (0<M*5^j):=hide (Nat.mul_pos hB0 (Nat.pow_pos (by omega)))
      have hNlen:=zO hM hjle
      obtain ⟨B,hB⟩:∃ B,B=M*5^j:=⟨_,rfl⟩
      rw [<-hB] at hbig HN HB0 hNlen
      clear hB
      have HDl:=hide (gH (dR B))
      obtain ⟨gn,cn,hvn⟩:=hbig.len
      subst hvn
      rename World=>wA
      have Hb:=hide hb
      clear hb
      go_wp2_with fail
      go_loopw [8,9] (fun ov iv wx=>∃ q:Nat,q<=(dig B).length/\iv=.int .i64 ((q:Int)-1)/\eG wx wA.heap.size ov (dM (B/10000^q))/\Below wA.heap.size wA wx) (fun _ iv _=>(intOf iv+1).toNat)
      case atStart=>
       refine ⟨(dig B).length,Nat.le_refl _,by go_num,?_,(Below.refl _ _).alloc (Nat.le_refl _) _⟩
       rw [Nat.div_eq_of_lt (dR B)]
       exact mZ wA
      case round=>
       rename World=>wB
       obtain ⟨q,hq,rfl,hown,hbx⟩:=hrel
       by_cases h0:0<q
       ·have hsx:=hbx.size
        have hq1:(1:Int)<=(q:Int):=by omega
        have Hl:Hid ((dM (B/10000^q)).length<=10000):=hide (by
         have h1:=gH (N:=B/10000^q) (k:=(dig B).length) (Nat.lt_of_le_of_lt (Nat.div_le_self _ _) (dR B))
         omega)
        have hq0:Hid (B/10000^(q-1)/10^(4-0)=B/10000^q):=hide (by
         have:q=q-1+1:=by omega
         conv=>rhs;rw [this,Nat.pow_succ,<-Nat.div_div_eq_div_mul])
        rw [<-hq0.out] at hown
        have HqB:Hid (B/10000^(q-1)/10^(4-4)=B/10000^(q-1)):=hide (by rw [Nat.sub_self,Nat.pow_zero,Nat.div_one])
        have HlY:Hid (∀ k,(dM (B/10000^(q-1)/k)).length<=10000):=hide (fun k=>by
         have h1:=gH (N:=B/10000^(q-1)/k) (k:=(dig B).length) (Nat.lt_of_le_of_lt (Nat.div_le_self _ _) (Nat.lt_of_le_of_lt (Nat.div_le_self _ _) (dR B)))
         omega)
        obtain ⟨Y,hY⟩:∃ Y,Y=B/10000^(q-1):=⟨_,rfl⟩
        rw [<-hY] at hown HqB HlY
        have HY:=hide hY
        clear hY hq0
        have hne:∀ {v:Value} {L:List Int},eG wB wA.heap.size v L->v.ownBlock≠some wB.heap.size:=by
         intro v L ho hh
         have:=(ho.1.lt _ hh).2
         omega
        have hne:=hne hown
        go_wp2_with fail
        go_loopw [8,58] (fun ov tv wy=>∃ t:Nat,t<=4/\tv=.int .i64 t/\eG wy wA.heap.size ov (dM (Y/10^(4-t)))/\ov.ownBlock≠some wB.heap.size/\wB.heap.size<wy.heap.size/\wy.cell? ⟨wB.heap.size,0,none⟩=some (.int .i64 1000)/\wy.cell? ⟨wB.heap.size,1,none⟩=some (.int .i64 100)/\wy.cell? ⟨wB.heap.size,2,none⟩=some (.int .i64 10)/\wy.cell? ⟨wB.heap.size,3,none⟩=some (.int .i64 1)/\Below wA.heap.size wA wy) (fun _ tv _=>4-(intOf tv).toNat)
        case atStart=>exact ⟨0,by omega,rfl,⟨hown.1.alloc _,hown.2⟩,hne,by simp,by simp,by simp,by simp,by simp,hbx.alloc hsx _⟩
        case round=>
         clear hown hne
         obtain ⟨t,ht,rfl,hown,hne,hlit,l0,l1,l2,l3,hby⟩:=hrel
         have hcn:wr.cell? ⟨gn,q-1,none⟩=some (.int .i64 ((Y%10000:Nat):Int)):=by
          obtain ⟨g2,c2,e2,_,_,_,h5⟩:=(hbig.below hby)
          cases e2
          rw [h5 (q-1) (by omega),jT,<-HY.out]
         obtain ⟨Z,hZ⟩:∃ Z,Z=Y%10000:=⟨_,rfl⟩
         rw [<-hZ] at hcn
         have hlm:Z<10000:=by omega
         have HZ:=hide hZ
         clear hZ
         by_cases ht4:t<4
         ·have hgo:t=0∨t=1∨t=2∨t=3:=by omega
          clear ht ht4
          rcases hgo with rfl|rfl|rfl|rfl
          ·have Hn:=hide (fK (Y:=Y) (t:=0) (by omega) (48+(Z:Int)/1000%10) (by have:=HZ.out;omega))
           have Hlen:Hid ((dM (Y/10^(4-0))).length<=10000):=hide (HlY.out _)
           obtain ⟨D,hD⟩:∃ D,D=dM (Y/10^(4-0)):=⟨_,rfl⟩
           rw [<-hD] at hown Hn Hlen
           clear hD
           obtain ⟨bo,co,hv,_⟩:=hown.byt
           subst hv
           have hl:=Hlen.out
           by_cases hpos:0<D.length
           ·have hap:=Hn.out.1 (.inl hpos)
            have Hap:=hide hap
            clear hap Hn
            go_wp2_with (first |(at_builtin;(refine aT rfl _ _ rfl wA.heap.size wB.heap.size _ D (48+(Z:Int)/1000%10) hown hne hlit rfl rfl (by omega) (by omega) ?_;intro v1 w1 hown1 hne1 hlit1 hcells1 hb1))|go_in)
            go_wp2
            go_roundw
            case rel=>exact ⟨1,by omega,by go_num,by rw [<-Hap.out];exact hown1,hne1,hlit1,hcells1 _ _ l0,hcells1 _ _ l1,hcells1 _ _ l2,hcells1 _ _ l3,hb1 _ _ hby (Nat.le_refl _)⟩
            case measure=>simp [intOf]
           ·by_cases hc48:48+(Z:Int)/1000%10=48
            ·have Hap:=hide (Hn.out.2 (by omega) hc48)
             clear Hn
             go_wp2
             go_roundw
             case rel=>exact ⟨1,by omega,by go_num,by rw [<-Hap.out];exact hown,hne,hlit,l0,l1,l2,l3,hby⟩
             case measure=>simp [intOf]
            ·have Hap:=hide (Hn.out.1 (.inr hc48))
             clear Hn
             go_wp2_with (first |(at_builtin;(refine aT rfl _ _ rfl wA.heap.size wB.heap.size _ D (48+(Z:Int)/1000%10) hown hne hlit rfl rfl (by omega) (by omega) ?_;intro v1 w1 hown1 hne1 hlit1 hcells1 hb1))|go_in)
             go_wp2
             go_roundw
             case rel=>exact ⟨1,by omega,by go_num,by rw [<-Hap.out];exact hown1,hne1,hlit1,hcells1 _ _ l0,hcells1 _ _ l1,hcells1 _ _ l2,hcells1 _ _ l3,hb1 _ _ hby (Nat.le_refl _)⟩
             case measure=>simp [intOf]
          ·have Hn:=hide (fK (Y:=Y) (t:=1) (by omega) (48+(Z:Int)/100%10) (by have:=HZ.out;omega))
           have Hlen:Hid ((dM (Y/10^(4-1))).length<=10000):=hide (HlY.out _)
           obtain ⟨D,hD⟩:∃ D,D=dM (Y/10^(4-1)):=⟨_,rfl⟩
           rw [<-hD] at hown Hn Hlen
           clear hD
           obtain ⟨bo,co,hv,_⟩:=hown.byt
           subst hv
           have hl:=Hlen.out
           by_cases hpos:0<D.length
           ·have hap:=Hn.out.1 (.inl hpos)
            have Hap:=hide hap
            clear hap Hn
            go_wp2_with (first |(at_builtin;(refine aT rfl _ _ rfl wA.heap.size wB.heap.size _ D (48+(Z:Int)/100%10) hown hne hlit rfl rfl (by omega) (by omega) ?_;intro v1 w1 hown1 hne1 hlit1 hcells1 hb1))|go_in)
            go_wp2
            go_roundw
            case rel=>exact ⟨2,by omega,by go_num,by rw [<-Hap.out];exact hown1,hne1,hlit1,hcells1 _ _ l0,hcells1 _ _ l1,hcells1 _ _ l2,hcells1 _ _ l3,hb1 _ _ hby (Nat.le_refl _)⟩
            case measure=>simp [intOf]
           ·by_cases hc48:48+(Z:Int)/100%10=48
            ·have Hap:=hide (Hn.out.2 (by omega) hc48)
             clear Hn
             go_wp2
             go_roundw
             case rel=>exact ⟨2,by omega,by go_num,by rw [<-Hap.out];exact hown,hne,hlit,l0,l1,l2,l3,hby⟩
             case measure=>simp [intOf]
            ·have Hap:=hide (Hn.out.1 (.inr hc48))
             clear Hn
             go_wp2_with (first |(at_builtin;(refine aT rfl _ _ rfl wA.heap.size wB.heap.size _ D (48+(Z:Int)/100%10) hown hne hlit rfl rfl (by omega) (by omega) ?_;intro v1 w1 hown1 hne1 hlit1 hcells1 hb1))|go_in)
             go_wp2
             go_roundw
             case rel=>exact ⟨2,by omega,by go_num,by rw [<-Hap.out];exact hown1,hne1,hlit1,hcells1 _ _ l0,hcells1 _ _ l1,hcells1 _ _ l2,hcells1 _ _ l3,hb1 _ _ hby (Nat.le_refl _)⟩
             case measure=>simp [intOf]
          ·have Hn:=hide (fK (Y:=Y) (t:=2) (by omega) (48+(Z:Int)/10%10) (by have:=HZ.out;omega))
           have Hlen:Hid ((dM (Y/10^(4-2))).length<=10000):=hide (HlY.out _)
           obtain ⟨D,hD⟩:∃ D,D=dM (Y/10^(4-2)):=⟨_,rfl⟩
           rw [<-hD] at hown Hn Hlen
           clear hD
           obtain ⟨bo,co,hv,_⟩:=hown.byt
           subst hv
           have hl:=Hlen.out
           by_cases hpos:0<D.length
           ·have hap:=Hn.out.1 (.inl hpos)
            have Hap:=hide hap
            clear hap Hn
            go_wp2_with (first |(at_builtin;(refine aT rfl _ _ rfl wA.heap.size wB.heap.size _ D (48+(Z:Int)/10%10) hown hne hlit rfl rfl (by omega) (by omega) ?_;intro v1 w1 hown1 hne1 hlit1 hcells1 hb1))|go_in)
            go_wp2
            go_roundw
            case rel=>exact ⟨3,by omega,by go_num,by rw [<-Hap.out];exact hown1,hne1,hlit1,hcells1 _ _ l0,hcells1 _ _ l1,hcells1 _ _ l2,hcells1 _ _ l3,hb1 _ _ hby (Nat.le_refl _)⟩
            case measure=>simp [intOf]
           ·by_cases hc48:48+(Z:Int)/10%10=48
            ·have Hap:=hide (Hn.out.2 (by omega) hc48)
             clear Hn
             go_wp2
             go_roundw
             case rel=>exact ⟨3,by omega,by go_num,by rw [<-Hap.out];exact hown,hne,hlit,l0,l1,l2,l3,hby⟩
             case measure=>simp [intOf]
            ·have Hap:=hide (Hn.out.1 (.inr hc48))
             clear Hn
             go_wp2_with (first |(at_builtin;(refine aT rfl _ _ rfl wA.heap.size wB.heap.size _ D (48+(Z:Int)/10%10) hown hne hlit rfl rfl (by omega) (by omega) ?_;intro v1 w1 hown1 hne1 hlit1 hcells1 hb1))|go_in)
             go_wp2
             go_roundw
             case rel=>exact ⟨3,by omega,by go_num,by rw [<-Hap.out];exact hown1,hne1,hlit1,hcells1 _ _ l0,hcells1 _ _ l1,hcells1 _ _ l2,hcells1 _ _ l3,hb1 _ _ hby (Nat.le_refl _)⟩
             case measure=>simp [intOf]
          ·have Hn:=hide (fK (Y:=Y) (t:=3) (by omega) (48+(Z:Int)%10) (by have:=HZ.out;omega))
           have Hlen:Hid ((dM (Y/10^(4-3))).length<=10000):=hide (HlY.out _)
           obtain ⟨D,hD⟩:∃ D,D=dM (Y/10^(4-3)):=⟨_,rfl⟩
           rw [<-hD] at hown Hn Hlen
           clear hD
           obtain ⟨bo,co,hv,_⟩:=hown.byt
           subst hv
           have hl:=Hlen.out
           by_cases hpos:0<D.length
           ·have hap:=Hn.out.1 (.inl hpos)
            have Hap:=hide hap
            clear hap Hn
            go_wp2_with (first |(at_builtin;(refine aT rfl _ _ rfl wA.heap.size wB.heap.size _ D (48+(Z:Int)%10) hown hne hlit rfl rfl (by omega) (by omega) ?_;intro v1 w1 hown1 hne1 hlit1 hcells1 hb1))|go_in)
            go_wp2
            go_roundw
            case rel=>exact ⟨4,by omega,by go_num,by rw [<-Hap.out];exact hown1,hne1,hlit1,hcells1 _ _ l0,hcells1 _ _ l1,hcells1 _ _ l2,hcells1 _ _ l3,hb1 _ _ hby (Nat.le_refl _)⟩
            case measure=>simp [intOf]
           ·by_cases hc48:48+(Z:Int)%10=48
            ·have Hap:=hide (Hn.out.2 (by omega) hc48)
             clear Hn
             go_wp2
             go_roundw
             case rel=>exact ⟨4,by omega,by go_num,by rw [<-Hap.out];exact hown,hne,hlit,l0,l1,l2,l3,hby⟩
             case measure=>simp [intOf]
            ·have Hap:=hide (Hn.out.1 (.inr hc48))
             clear Hn
             go_wp2_with (first |(at_builtin;(refine aT rfl _ _ rfl wA.heap.size wB.heap.size _ D (48+(Z:Int)%10) hown hne hlit rfl rfl (by omega) (by omega) ?_;intro v1 w1 hown1 hne1 hlit1 hcells1 hb1))|go_in)
             go_wp2
             go_roundw
             case rel=>exact ⟨4,by omega,by go_num,by rw [<-Hap.out];exact hown1,hne1,hlit1,hcells1 _ _ l0,hcells1 _ _ l1,hcells1 _ _ l2,hcells1 _ _ l3,hb1 _ _ hby (Nat.le_refl _)⟩
             case measure=>simp [intOf]
         ·obtain rfl:t=4:=by omega
          rw [HqB.out,HY.out] at hown
          go_wp2
          refine ⟨⟨q-1,by omega,by congr 1;omega,hown,hby⟩,?_⟩
          simp [intOf]
          omega
       ·obtain rfl:q=0:=by omega
        rw [Nat.pow_zero,Nat.div_one] at hown
        have Hown:=hide hown.byt
        have Hbx:=hide (Hb.out.trans (hbx.mono Hb.out.size))
        clear hown hbx
        go_wp2
        go_ret2
        exact ⟨_,B,j,rfl,Hown.out,HN.out,HB0.out,hjle,by have:=HDl.out;omega,Hbx.out⟩
end Go.Proofs.YtjibjahfbblieaaGreatDoor.F
