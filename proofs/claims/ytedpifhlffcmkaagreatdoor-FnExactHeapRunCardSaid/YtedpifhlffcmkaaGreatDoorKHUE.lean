import Derived.Test.YtedpifhlffcmkaaGreatDoorKHYI
import Derived.Test.YtedpifhlffcmkaaGreatDoorKHUC
namespace Go.Proofs.YtedpifhlffcmkaaGreatDoor
open Go Go.RowKit
set_option maxHeartbeats 6400000
set_option maxRecDepth 100000
set_option linter.unusedVariables false
section
variable {G:Gh} {L:PM} {S:Nat->Prop} {base:Nat} {h:Hp} {w:World}
theorem uM (a:JR base S h G L w) (k:Wk h) (t:Jl h No):
 Calls Tryz.prog 151 #[.pointer (some ⟨L.H,0,none⟩)] w fun e w'=>e=.returned (.bool (Hp.over 0 (h,false)).2)/\∃ L',JD L L'/\JR base S (Hp.over 0 (h,false)).1 G L' w'/\Keeps w w' S:=by
 have HI0:Hq (Wk h/\Jl h No/\JD L L/\JR base S h G L w/\Keeps w w S):=ah ⟨k,t,JD.refl L,a,Keeps.refl _ _⟩
 clear a k t
 go_enter Tryz.func151,Tryz.ntmps151
 go_wp2
 go_loopg [3,4] (h.mu+h.D8.length) (fun m bv jv wr=>∃ (j:Nat) (b':Bool) (q':Hp) (L':PM),jv=.int .i64 (j:Int)/\bv=.bool b'/\Hq (m=q'.mu+q'.D8.length-j/\Hp.over j (q',b')=Hp.over 0 (h,false)/\Wk q'/\Jl q' No/\JD L L'/\JR base S q' G L' wr/\Keeps w wr S/\j<=100000))
 case atStart=>exact ⟨0,false,h,L,rfl,rfl,by omega,rfl,HI0.o.1,HI0.o.2.1,HI0.o.2.2.1,HI0.o.2.2.2.1,HI0.o.2.2.2.2,by omega⟩
 case round=>
  obtain ⟨j,b',q',L3,rfl,rfl,HJ⟩:=hrel
  clear HI0
  obtain ⟨H3,tb3,es3,mp3,li3⟩:=L3
  obtain rfl:H3=L.H:=HJ.o.2.2.2.2.1.H
  obtain rfl:tb3=L.tb:=HJ.o.2.2.2.2.1.tb
  obtain rfl:es3=L.es:=HJ.o.2.2.2.2.1.es
  obtain rfl:mp3=L.mp:=HJ.o.2.2.2.2.1.mp
  have hat:=HJ.o.2.2.2.2.2.1
  obtain ⟨A,cap,hv,hcap,hget⟩:=hat.EM (k:=14) (by simp [b_])
  have hel:q'.D8.length<=20000:=by
   have:=HJ.o.2.2.1.s.nu
   simp only [Hp.nu] at this
   omega
  have hj9:=HJ.o.2.2.2.2.2.2.2
  have c14:wr.cell? ⟨L.H,14,none⟩=some (.slice A q'.D8.length cap):=by
   have:=hat.hp.cell (j:=14) (by omega)
   rw [this]
   exact congrArg some hv
  by_cases hj:j<q'.D8.length
  ·obtain ⟨g,rfl,-,hgc⟩:=hget j _ (List.getElem?_eq_getElem (show j<(dh q' G 14).length from hj))
   have hlv:=HJ.o.2.2.2.1.ll _ (.inr (.inr (.inr (List.getElem_mem hj))))
   have HOY:=ah (Hp.FZ j (q',b') hj)
   have HON:=ah (Hp.Gv j (q',b') hj)
   have hgc':wr.cell? ⟨g,j,none⟩=some (.pointer (some ⟨L.tb (q'.D8[j]),0,none⟩)):=hgc
   clear hgc hget
   generalize q'.D8[j]=n at *
   obtain ⟨o,ho⟩:=hlv
   have hes:=Hp.Gf ho
   have HSP:=ah (kr hat ho (fO.of HJ.o.2.2.1.c ho) (HJ.o.2.2.1.s.es n o ho) (by have:=HJ.o.2.2.1.s.nu;omega))
   simp only [hes] at HOY HON
   have hji:(j:Int)<(q'.D8.length:Int):=by omega
   have HSD:=ah (And.intro (HJ.o.2.2.1.spread o.es) (HJ.o.2.2.2.1.JN (I_.spread q' o.es)))
   have HMU:Hq ((q'.spread o.es).1.mu=q'.mu/\(q'.spread o.es).1.D8=q'.D8):=ah ⟨Hp.Ez q' o.es,(Hp.Et q' o.es).1⟩
   clear hat ho hes hv
   cases hs2:(q'.spread o.es).2 with
   |false=>
    have HO2:=ah (HON.o hs2)
    rw [hs2] at HSP
    clear hs2 HON HOY
    go_wp2_with fail
    refine HSP.o.mono ?_
    rintro e9 w4 ⟨rfl,L4,hl4,ha4,hk4⟩
    have H4:=ah (And.intro hl4 (And.intro ha4 hk4))
    clear hl4 ha4 hk4
    go_wp2
    go_roundg (q'.mu+q'.D8.length-(j+1))
    case rel=>
     refine ⟨j+1,b',(q'.spread o.es).1,L4,by simp,rfl,?_,HO2.o.symm.trans HJ.o.2.1,HSD.o.1,HSD.o.2,HJ.o.2.2.2.2.1.trans H4.o.1.x,H4.o.2.1,HJ.o.2.2.2.2.2.2.1.trans H4.o.2.2,by omega⟩
     rw [HMU.o.1,HMU.o.2]
    case measure=>
     have:=HJ.o.1
     omega
   |true=>
    have HO2:=ah (HOY.o hs2)
    rw [hs2] at HSP
    clear hs2 HON HOY
    go_wp2_with fail
    refine HSP.o.mono ?_
    rintro e9 w4 ⟨rfl,L4,hl4,ha4,hk4⟩
    have H4:=ah (And.intro hl4 (And.intro ha4 hk4))
    clear hl4 ha4 hk4
    obtain ⟨H5,tb5,es5,mp5,li5⟩:=L4
    obtain rfl:H5=L.H:=H4.o.1.H
    have HDR:=ah (jh H4.o.2.1 HSD.o.1 HSD.o.2)
    go_wp2_with fail
    refine HDR.o.mono ?_
    rintro e9 w6 ⟨rfl,L6,hl6,ha6,hk6⟩
    have H6:=ah (And.intro hl6 (And.intro ha6 hk6))
    clear hl6 ha6 hk6 HDR
    go_wp2
    go_roundg ((q'.spread o.es).1.drain.mu+(q'.spread o.es).1.drain.D8.length-(j+1))
    case rel=>
     exact ⟨j+1,true,(q'.spread o.es).1.drain,L6,by simp,rfl,rfl,HO2.o.symm.trans HJ.o.2.1,HSD.o.1.drain HSD.o.2,HSD.o.2.drain,HJ.o.2.2.2.2.1.trans (H4.o.1.x.trans H6.o.1),H6.o.2.1,(HJ.o.2.2.2.2.2.2.1.trans H4.o.2.2).trans H6.o.2.2,by omega⟩
    case measure=>
     have h1:=HJ.o.1
     have h2:=Hp.Fg (q'.spread o.es).1
     rw [HMU.o.1,HMU.o.2] at h2
     omega
  ·have HOE:=ah ((Hp.FW j (q',b') hj).symm.trans HJ.o.2.1)
   have HAT:=ah hat
   clear hat hget hv
   go_wp2
   go_ret
   exact ⟨by rw [<-HOE.o];rfl,_,HJ.o.2.2.2.2.1,by rw [<-HOE.o];exact HAT.o,HJ.o.2.2.2.2.2.2.1⟩
theorem kD (a:JR base S h G L w) (k:Wk h) (t:Jl h No):
 Calls Tryz.prog 143 #[.pointer (some ⟨L.H,0,none⟩)] w fun e w'=>e=.returned (.tuple #[])/\∃ L',JD L L'/\JR base S h.settle G L' w'/\Keeps w w' S:=by
 have HD:=ah (jh a k t)
 have HKT:=ah (And.intro (k.drain t) t.drain)
 clear a k t
 go_enter Tryz.func143,Tryz.ntmps143
 go_wp2_with fail
 refine HD.o.mono ?_
 rintro e9 w1 ⟨rfl,L1,hl1,ha1,hk1⟩
 have H1:=ah (And.intro hl1 (And.intro ha1 hk1))
 clear hl1 ha1 hk1 HD
 go_wp2
 go_loopg [] (h.drain.mu+1) (fun m wr=>∃ (q:Hp) (L':PM),Hq (m=q.mu+1/\q.turns=h.settle/\Wk q/\Jl q No/\JD L L'/\JR base S q G L' wr/\Keeps w wr S))
 case atStart=>exact ⟨h.drain,L1,rfl,rfl,HKT.o.1,HKT.o.2,H1.o⟩
 case round=>
  obtain ⟨q,L2,HI⟩:=hrel
  clear HKT H1
  obtain ⟨H3,tb3,es3,mp3,li3⟩:=L2
  obtain rfl:H3=L.H:=HI.out.2.2.2.2.1.H
  have HOV:=ah (uM HI.out.2.2.2.2.2.1 HI.out.2.2.1 HI.out.2.2.2.1)
  cases hb:(Hp.over 0 (q,false)).2 with
  |false=>
   rw [hb] at HOV
   have HT:=ah (Hp.GD q hb)
   clear hb
   go_wp2_with fail
   refine HOV.o.mono ?_
   rintro e9 w4 ⟨rfl,L4,hl4,ha4,hk4⟩
   have H4:=ah (And.intro hl4 (And.intro ha4 hk4))
   clear hl4 ha4 hk4
   go_wp2
   go_end0
   exact ⟨rfl,L4,HI.out.2.2.2.2.1.trans H4.o.1,by rw [<-HI.out.2.1,HT.o];exact H4.o.2.1,HI.out.2.2.2.2.2.2.trans H4.o.2.2⟩
  |true=>
   rw [hb] at HOV
   have HT:=ah (Hp.FQ HI.out.2.2.2.1 hb)
   have HL:=ah (Hp.FM HI.out.2.2.2.1 hb)
   clear hb
   go_wp2_with fail
   refine HOV.o.mono ?_
   rintro e9 w4 ⟨rfl,L4,hl4,ha4,hk4⟩
   have H4:=ah (And.intro hl4 (And.intro ha4 hk4))
   clear hl4 ha4 hk4
   go_wp2
   go_roundg ((Hp.over 0 (q,false)).1.mu+1)
   case rel=>
    refine ⟨(Hp.over 0 (q,false)).1,L4,rfl,?_,HI.out.2.2.1.over HI.out.2.2.2.1,HI.out.2.2.2.1.over,HI.out.2.2.2.2.1.trans H4.o.1,H4.o.2.1,HI.out.2.2.2.2.2.2.trans H4.o.2.2⟩
    rw [<-HI.out.2.1,HT.o]
   case measure=>
    have:=HI.out.1
    have:=HL.o
    omega
end
section
variable {G:Gh} {L:PM} {S:Nat->Prop} {base:Nat} {h:Hp} {w:World}
theorem nE (a:JR base S h G L w) (hl:∀ n∈h.pending,h.Lv n) (hnu:h.nu<=20000) (hpl:h.pending.length<=20000):
 Calls Tryz.prog 133 #[.pointer (some ⟨L.H,0,none⟩)] w fun e w'=>e=.returned (.tuple #[])/\∃ L',JC 11 L L'/\JR base S (h.Eh h.pending) G L' w'/\Keeps w w' S:=by
 obtain ⟨A,cap,hv,hcap,-⟩:=a.EM (k:=16) (by simp [b_])
 have ck:w.cell? ⟨L.H,16,none⟩=some (.slice A h.pending.length cap):=by
  have:=a.hp.cell (j:=16) (by omega)
  rw [this]
  exact congrArg some hv
 have HA:=ah a
 have HL:=ah hl
 have HV:Hq (L.li 16=.slice A h.pending.length cap):=ah hv
 clear a hl hv
 go_enter Tryz.func133,Tryz.ntmps133
 go_wp2
 go_loopw [10] (fun iv wr=>∃ i:Nat,i<=h.pending.length/\iv=.int .i64 i/\Hq (∃ li',JR base S ((h.pending.take i).foldl Hp.mark h) G ⟨L.H,L.tb,L.es,L.mp,li'⟩ wr/\(∀ j,j≠11->li' j=L.li j)/\Keeps w wr S)) (fun iv _=>h.pending.length-aU iv)
 case atStart=>exact ⟨0,by omega,rfl,L.li,HA.o,fun _ _=>rfl,Keeps.refl _ _⟩
 case round=>
  obtain ⟨i,hi9,rfl,HI⟩:=hrel
  by_cases hin:i<h.pending.length
  ·obtain ⟨n,he⟩:∃ n,h.pending[i]?=some n:=⟨_,List.getElem?_eq_getElem hin⟩
   have hts:=aO he
   obtain ⟨li1,hat,hli,hkp⟩:=HI.out
   have hmk:=JM.fold Hp.mark (fun h x=>JM.mark h x) (h.pending.take i) h
   have hnq:((h.pending.take i).foldl Hp.mark h).nu<=20000:=Nat.le_trans (Nat.le_of_eq (bQ Hp.mark Hp.EC _ _)) hnu
   obtain ⟨q,hq⟩:∃ q,(h.pending.take i).foldl Hp.mark h=q:=⟨_,rfl⟩
   rw [hq] at hat hmk hnq
   obtain ⟨A1,cap1,hv1,hcap1,hget⟩:=hat.EM (k:=16) (by simp [b_])
   have hv2:li1 16=.slice A h.pending.length cap:=(hli 16 (by decide)).trans HV.out
   have hpf:dh q G 16=h.pending:=hmk.pending
   rw [hpf] at hv1 hget
   obtain ⟨rfl,rfl⟩:A1=A/\cap1=cap:=by
    have h9:=hv1.symm.trans hv2
    simp at h9
    exact h9
   obtain ⟨g,rfl,hglt,hgc⟩:=hget i n he
   have hgc':wr.cell? ⟨g,i,none⟩=some (.iface 127 (.pointer (some ⟨L.tb n,0,none⟩))):=hgc
   obtain ⟨o,ho⟩:=(hmk.lv n).2 (HL.o n (List.mem_of_getElem? he))
   have HMK:=ah (iM hat ho (Nat.le_trans (gT q) (by omega)))
   have HF:Hq ((h.pending.take (i+1)).foldl Hp.mark h=q.mark n):=ah (by rw [hts,aN,hq])
   have HLI:=ah hli
   have HKP:=ah hkp
   clear hq hmk hts hat hkp hli hgc hget hv1 hv2 hpf ho HI he hnq
   go_wp2_with fail
   refine HMK.o.mono ?_
   rintro e9 w6 ⟨rfl,⟨H6,tb6,es6,mp6,li6⟩,hl6,ha6,hk6⟩
   obtain rfl:H6=L.H:=hl6.H
   obtain rfl:tb6=L.tb:=hl6.tb
   obtain rfl:es6=L.es:=hl6.es
   obtain rfl:mp6=L.mp:=hl6.mp
   have H6:=ah (And.intro hl6.li (And.intro ha6 hk6))
   clear hl6 ha6 hk6
   go_wp2
   go_roundw
   case rel=>
    exact ⟨i+1,by omega,by simp,li6,by rw [HF.o];exact H6.o.2.1,fun j hj=>(H6.o.1 j hj).trans (HLI.o j hj),HKP.o.trans H6.o.2.2⟩
   case measure=>simp [aU];omega
  ·have hie:i=h.pending.length:=by omega
   subst hie
   rw [List.take_length] at HI
   go_wp2
   go_end0
   obtain ⟨li1,hat,hli,hkp⟩:=HI.out
   exact ⟨rfl,⟨L.H,L.tb,L.es,L.mp,li1⟩,⟨rfl,rfl,rfl,rfl,hli⟩,hat,hkp⟩
theorem lC (a:JR base S h G L w) (hl:∀ n∈h.roots,h.Lv n) (hnu:h.nu<=20000) (hpl:h.roots.length<=20000) (hlp:∀ n∈h.pending,h.Lv n) (hpp:h.pending.length<=20000):
 Calls Tryz.prog 113 #[.pointer (some ⟨L.H,0,none⟩)] w fun e w'=>e=.returned (.tuple #[])/\∃ L',JC 11 L L'/\JR base S h.alive G L' w'/\Keeps w w' S:=by
 obtain ⟨A,cap,hv,hcap,-⟩:=a.EM (k:=10) (by simp [b_])
 have ck:w.cell? ⟨L.H,10,none⟩=some (.slice A h.roots.length cap):=by
  have:=a.hp.cell (j:=10) (by omega)
  rw [this]
  exact congrArg some hv
 have HA:=ah a
 have HL:=ah hl
 have HV:Hq (L.li 10=.slice A h.roots.length cap):=ah hv
 clear a hl hv
 go_enter Tryz.func113,Tryz.ntmps113
 go_wp2
 go_loopw [9] (fun iv wr=>∃ i:Nat,i<=h.roots.length/\iv=.int .i64 i/\Hq (∃ li',JR base S ((h.roots.take i).foldl Hp.mark h) G ⟨L.H,L.tb,L.es,L.mp,li'⟩ wr/\(∀ j,j≠11->li' j=L.li j)/\Keeps w wr S)) (fun iv _=>h.roots.length-aU iv)
 case atStart=>exact ⟨0,by omega,rfl,L.li,HA.o,fun _ _=>rfl,Keeps.refl _ _⟩
 case round=>
  obtain ⟨i,hi9,rfl,HI⟩:=hrel
  by_cases hin:i<h.roots.length
  ·obtain ⟨n,he⟩:∃ n,h.roots[i]?=some n:=⟨_,List.getElem?_eq_getElem hin⟩
   have hts:=aO he
   obtain ⟨li1,hat,hli,hkp⟩:=HI.out
   have hmk:=JM.fold Hp.mark (fun h x=>JM.mark h x) (h.roots.take i) h
   have hnq:((h.roots.take i).foldl Hp.mark h).nu<=20000:=Nat.le_trans (Nat.le_of_eq (bQ Hp.mark Hp.EC _ _)) hnu
   obtain ⟨q,hq⟩:∃ q,(h.roots.take i).foldl Hp.mark h=q:=⟨_,rfl⟩
   rw [hq] at hat hmk hnq
   obtain ⟨A1,cap1,hv1,hcap1,hget⟩:=hat.EM (k:=10) (by simp [b_])
   have hv2:li1 10=.slice A h.roots.length cap:=(hli 10 (by decide)).trans HV.out
   have hpf:dh q G 10=h.roots:=hmk.roots
   rw [hpf] at hv1 hget
   obtain ⟨rfl,rfl⟩:A1=A/\cap1=cap:=by
    have h9:=hv1.symm.trans hv2
    simp at h9
    exact h9
   obtain ⟨g,rfl,hglt,hgc⟩:=hget i n he
   have hgc':wr.cell? ⟨g,i,none⟩=some (.iface 127 (.pointer (some ⟨L.tb n,0,none⟩))):=hgc
   obtain ⟨o,ho⟩:=(hmk.lv n).2 (HL.o n (List.mem_of_getElem? he))
   have HMK:=ah (iM hat ho (Nat.le_trans (gT q) (by omega)))
   have HF:Hq ((h.roots.take (i+1)).foldl Hp.mark h=q.mark n):=ah (by rw [hts,aN,hq])
   have HLI:=ah hli
   have HKP:=ah hkp
   clear hq hmk hts hat hkp hli hgc hget hv1 hv2 hpf ho HI he hnq
   go_wp2_with fail
   refine HMK.o.mono ?_
   rintro e9 w6 ⟨rfl,⟨H6,tb6,es6,mp6,li6⟩,hl6,ha6,hk6⟩
   obtain rfl:H6=L.H:=hl6.H
   obtain rfl:tb6=L.tb:=hl6.tb
   obtain rfl:es6=L.es:=hl6.es
   obtain rfl:mp6=L.mp:=hl6.mp
   have H6:=ah (And.intro hl6.li (And.intro ha6 hk6))
   clear hl6 ha6 hk6
   go_wp2
   go_roundw
   case rel=>
    exact ⟨i+1,by omega,by simp,li6,by rw [HF.o];exact H6.o.2.1,fun j hj=>(H6.o.1 j hj).trans (HLI.o j hj),HKP.o.trans H6.o.2.2⟩
   case measure=>simp [aU];omega
  ·have hie:i=h.roots.length:=by omega
   subst hie
   rw [List.take_length] at HI
   obtain ⟨li1,hat,hli,hkp⟩:=HI.out
   have hmk:=JM.fold Hp.mark (fun h x=>JM.mark h x) h.roots h
   have HW:=ah (nE hat (fun n hn=>(hmk.lv n).2 (hlp n (by rw [<-hmk.pending];exact hn))) (Nat.le_trans (Nat.le_of_eq (bQ Hp.mark Hp.EC _ _)) hnu) (by rw [hmk.pending];exact hpp))
   have HE:Hq (h.alive=(h.roots.foldl Hp.mark h).Eh (h.roots.foldl Hp.mark h).pending):=ah (by rw [hmk.pending];rfl)
   have HLI:=ah hli
   have HKP:=ah hkp
   clear hat hli hkp hmk HI
   go_wp2_with fail
   refine HW.o.mono ?_
   rintro e9 w6 ⟨rfl,L6,hl6,ha6,hk6⟩
   have H6:=ah (And.intro hl6 (And.intro ha6 hk6))
   clear hl6 ha6 hk6
   go_wp2
   go_end0
   exact ⟨rfl,L6,JC.trans (L':=⟨L.H,L.tb,L.es,L.mp,li1⟩) ⟨rfl,rfl,rfl,rfl,HLI.o⟩ H6.o.1,by rw [HE.o];exact H6.o.2.1,HKP.o.trans H6.o.2.2⟩
theorem JR.aux (a:JR base S h G L w) (l:List Nat) (s:Nat):JR base S { h with again:=l,D7:=s } G L w:=
 ⟨a.hp,a.ob,a.en,a.mp,a.li,a.ij,a.ei,a.mi,a.lj,a.bH,a.bt,a.bm,a.bs,a.sH,a.st,a.se,a.sm,a.sl,a.up⟩
theorem sM (l:List Nat) (h:Hp):(l.foldl Hp.Ef h).grey.length=h.grey.length+l.length:=by
 induction l generalizing h with
 |nil=>rfl
 |cons a l ih=>
  rw [List.foldl_cons,ih]
  simp [Hp.Ef,Hp.upd]
  omega
theorem vW (l:List Nat) (h:Hp) (n:Nat):(l.foldl Hp.Ef h).Lv n↔h.Lv n:=by
 induction l generalizing h with
 |nil=>exact Iff.rfl
 |cons a l ih=>
  rw [List.foldl_cons,ih]
  show (∃ o,(h.upd a _).ob n=some o)↔_
  unfold Hp.Lv
  rw [Hp.Ed]
  split
  ·cases h.ob n<;>simp
  ·rfl
theorem vw (a:JR base S h G L w) (hag:G.ag=h.again) (hl:∀ n∈h.again,h.Lv n) (hnu:h.nu+h.again.length<=20000):
 Calls Tryz.prog 142 #[.pointer (some ⟨L.H,0,none⟩)] w fun e w'=>e=.returned (.tuple #[])/\∃ L',JC 11 L L'/\JR base S h.D_ G L' w'/\Keeps w w' S:=by
 obtain ⟨A,cap,hv,hcap,-⟩:=a.EM (k:=12) (by simp [b_])
 rw [show dh h G 12=h.again from hag] at hv
 have hpl:h.again.length<=20000:=by omega
 have hgr:h.grey.length<=20000:=Nat.le_trans (gT h) (by omega)
 have ck:w.cell? ⟨L.H,12,none⟩=some (.slice A h.again.length cap):=by
  have:=a.hp.cell (j:=12) (by omega)
  rw [this]
  exact congrArg some hv
 have HA:=ah a
 have HL:=ah hl
 have HAG:=ah hag
 have HV:Hq (L.li 12=.slice A h.again.length cap):=ah hv
 clear a hl hv hag
 go_enter Tryz.func142,Tryz.ntmps142
 go_wp2
 go_loopw [10] (fun iv wr=>∃ i:Nat,i<=h.again.length/\iv=.int .i64 i/\Hq (∃ li',JR base S ((h.again.take i).foldl Hp.Ef h) G ⟨L.H,L.tb,L.es,L.mp,li'⟩ wr/\(∀ j,j≠11->li' j=L.li j)/\Keeps w wr S)) (fun iv _=>h.again.length-aU iv)
 case atStart=>exact ⟨0,by omega,rfl,L.li,HA.o,fun _ _=>rfl,Keeps.refl _ _⟩
 case round=>
  obtain ⟨i,hi9,rfl,HI⟩:=hrel
  by_cases hin:i<h.again.length
  ·obtain ⟨n,he⟩:∃ n,h.again[i]?=some n:=⟨_,List.getElem?_eq_getElem hin⟩
   have hts:=aO he
   obtain ⟨li1,hat,hli,hkp⟩:=HI.out
   have hgq:=sM (h.again.take i) h
   have hlq:=vW (h.again.take i) h n
   obtain ⟨q,hq⟩:∃ q,(h.again.take i).foldl Hp.Ef h=q:=⟨_,rfl⟩
   rw [hq] at hat hgq hlq
   obtain ⟨A1,cap1,hv1,hcap1,hget⟩:=hat.EM (k:=12) (by simp [b_])
   have hv2:li1 12=.slice A h.again.length cap:=(hli 12 (by decide)).trans HV.out
   have hpf:dh q G 12=h.again:=HAG.o
   rw [hpf] at hv1 hget
   obtain ⟨rfl,rfl⟩:A1=A/\cap1=cap:=by
    have h9:=hv1.symm.trans hv2
    simp at h9
    exact h9
   obtain ⟨g,rfl,hglt,hgc⟩:=hget i n he
   have hgc':wr.cell? ⟨g,i,none⟩=some (.iface 127 (.pointer (some ⟨L.tb n,0,none⟩))):=hgc
   obtain ⟨o,ho⟩:=hlq.2 (HL.o n (List.mem_of_getElem? he))
   have hgl:q.grey.length<=40000:=by
    rw [hgq,List.length_take]
    omega
   have t0:wr.cell? ⟨L.tb n,0,none⟩=some (.int .i64 (o.col:Int)):=(hat.ob n o ho).cell (j:=0) (by omega)
   have z0:=(hat.ob n o ho).Jv 0
   have HCL:=ah (hat.JE n 0 (.int .i64 2) (fun o=>{ o with col:=2 }) (by decide) ho ⟨rfl,rfl⟩ (bK _ rfl rfl rfl rfl rfl rfl rfl rfl rfl rfl rfl rfl rfl))
   have hm2:=fK (L.tb n)
   have HHD:=ah (d_ wr (L.tb n))
   have HF:Hq ((h.again.take (i+1)).foldl Hp.Ef h=q.Ef n):=ah (by rw [hts,aN,hq])
   have HLI:=ah hli
   have HKP:=ah hkp
   clear hq hts hat hkp hli hgc hget hv1 hv2 hpf ho HI he hgq hlq
   go_wp2_with fail
   refine HHD.o.mono ?_
   rintro e2 w2 ⟨rfl,rfl⟩
   go_upto_region 4 with (fail)
   generalize w2.setCell ⟨L.tb n,0,none⟩ (.int .i64 2)=w3 at *
   have c11:w3.cell? ⟨L.H,11,none⟩=some (li1 11):=HCL.o.1.hp.cell (j:=11) (by omega)
   have z11:=HCL.o.1.hp.Jv 11
   have hli:=HCL.o.1.li 11 (by simp [b_])
   have hlen:((dh (q.upd n fun o=>{ o with col:=2 }) G 11).map (cO L.tb 11)).length=(dh (q.upd n fun o=>{ o with col:=2 }) G 11).length:=by simp
   have HAD:=ah (fF w3 base L.H 11 (li1 11) ((dh (q.upd n fun o=>{ o with col:=2 }) G 11).map (cO L.tb 11)) (L.tb n) c11 z11 (by rw [hlen];exact hli) (fun e=>ak hli HCL.o.1.hp (by decide) e) (by rw [hlen];show q.grey.length<=1000000;omega) HCL.o.1.bs)
   clear hli hlen c11 z11 t0 z0 hm2
   go_wp2_with fail
   refine HAD.o.mono ?_
   intro e4 w4 hr4
   obtain ⟨rfl,⟨H6,tb6,es6,mp6,li6⟩,hl6,ha6,hk6⟩:=HCL.o.1.add (k:=11) (by simp [iZ]) (n:=n) hr4
   obtain rfl:H6=L.H:=hl6.H
   obtain rfl:tb6=L.tb:=hl6.tb
   obtain rfl:es6=L.es:=hl6.es
   obtain rfl:mp6=L.mp:=hl6.mp
   have H6:=ah (And.intro hl6.li (And.intro ha6 hk6))
   clear hr4 hl6 ha6 hk6
   go_wp2
   go_roundw
   case rel=>
    exact ⟨i+1,by omega,by simp,li6,by rw [HF.o];exact H6.o.2.1,fun j hj=>(H6.o.1 j hj).trans (HLI.o j hj),(HKP.o.trans HCL.o.2).trans H6.o.2.2⟩
   case measure=>simp [aU];omega
  ·have hie:i=h.again.length:=by omega
   subst hie
   rw [List.take_length] at HI
   go_wp2
   go_end0
   obtain ⟨li1,hat,hli,hkp⟩:=HI.out
   exact ⟨rfl,⟨L.H,L.tb,L.es,L.mp,li1⟩,⟨rfl,rfl,rfl,rfl,hli⟩,hat.aux [] _,hkp⟩
end
section
variable {A C:Int} {R base hand:Nat} {S:Nat->Prop} {h:Hp} {root:List Bool} {rv:Value} {w w' w1 w2:World}
def aW (h:Hp) (hand:Nat) (kd A B C:Int):Prop:=
 (kd=2->dH h hand A/\(C=0∨dH h hand C))/\(kd=3->dH h hand A/\dH h hand B/\(C=0∨dH h hand C))/\(kd=4->dH h hand A)/\(kd=5->dH h hand A)
theorem vX (p:Prop):∃ b:Bool,b=true↔p:=by
 classical
 exact ⟨decide p,by simp⟩
theorem aW.two {B:Int}:aW h hand 2 A B C↔dH h hand A/\(C=0∨dH h hand C):=
 ⟨fun x=>x.1 rfl,fun x=>⟨fun _=>x,fun h=>absurd h (by decide),fun h=>absurd h (by decide),fun h=>absurd h (by decide)⟩⟩
theorem aW.three {B:Int}:aW h hand 3 A B C↔dH h hand A/\dH h hand B/\(C=0∨dH h hand C):=
 ⟨fun x=>x.2.1 rfl,fun x=>⟨fun h=>absurd h (by decide),fun _=>x,fun h=>absurd h (by decide),fun h=>absurd h (by decide)⟩⟩
theorem aW.four {k B:Int} (hk:k=4∨k=5):aW h hand k A B C↔dH h hand A:=by
 rcases hk with rfl|rfl
 ·exact ⟨fun x=>x.2.2.1 rfl,fun x=>⟨fun h=>absurd h (by decide),fun h=>absurd h (by decide),fun _=>x,fun h=>absurd h (by decide)⟩⟩
 ·exact ⟨fun x=>x.2.2.2 rfl,fun x=>⟨fun h=>absurd h (by decide),fun h=>absurd h (by decide),fun h=>absurd h (by decide),fun _=>x⟩⟩
theorem aW.rest {k B:Int} (h2:k≠2) (h3:k≠3) (h4:k≠4) (h5:k≠5):aW h hand k A B C:=⟨fun h=>absurd h h2,fun h=>absurd h h3,fun h=>absurd h h4,fun h=>absurd h h5⟩
theorem uf (a:Below w.heap.size w w1) (b:Below w1.heap.size w1 w2):Below w.heap.size w w2:=a.trans (b.mono a.size)
structure Ji (base:Nat) (S:Nat->Prop) (h:Hp) (L:SM) (R hand:Nat) (rv:Value) (root:List Bool) (w:World):Prop where
 a:JU base S h L w
 r:aD w 61 R 3 (BH L.H rv hand)
 v:w.ownsRow base 4 1 rv root.length (qP root)
 l:root.length=h.objs.length
 o:h.roots=bV 0 root
theorem Ji.low {base:Nat} {S:Nat->Prop} {h:Hp} {L:SM} {R hand:Nat} {rv:Value} {root:List Bool} {w w':World} (x:Ji base S h L R hand rv root w) (b:Below w.heap.size w w'):Ji base S h L R hand rv root w':=by
 have k:=Keeps.of b (Nat.le_refl _) (fun _=>False)
 exact ⟨x.a.low b,x.r.keep k (fun y=>y),aj x.v k (fun _ _ y=>y),x.l,x.o⟩
theorem Ji.at {L:SM} (x:Ji base S h L R hand rv root w) (i:Inv h) (hl9:h.objs.length<=5001) (he9:∀ n o,h.ob n=some o->o.es.length<=5000) (ref:Int) (b:Bool) (hb:b=true↔dH h hand ref):
 Calls Tryz.prog 40 #[.pointer (some ⟨R,0,none⟩),.int .i64 ref] w fun e w'=>e=.returned (.bool b)/\Below w.heap.size w w'/\Ji base S h L R hand rv root w':=by
 refine (rG x.a i hl9 he9 x.r x.v x.l x.o ref).mono ?_
 rintro e w' ⟨⟨b',rfl,hb'⟩,hw⟩
 have:b'=b:=by
  rw [Bool.eq_iff_iff,hb,hb']
 subst this
 exact ⟨rfl,hw,x.low hw⟩
theorem eT (wr:World) (kd A B C:Int):aD (wr.alloc (.cells #[.int .i64 kd,.int .i64 A,.int .i64 B,.int .i64 C] 39)) 39 wr.heap.size 4 (fun j=>[Value.int .i64 kd,.int .i64 A,.int .i64 B,.int .i64 C].getD j (.bool false)):=by
 have h:=aD.mk' wr 39 #[.int .i64 kd,.int .i64 A,.int .i64 B,.int .i64 C]
 refine aD.congr (show aD _ _ _ 4 _ from h) (fun j hj=>?_)
 have:j=0∨j=1∨j=2∨j=3:=by omega
 rcases this with rfl|rfl|rfl|rfl<;>rfl
def mo (h:Hp) (hand:Nat) (kd A B C:Int) (w:World) (e:Ending) (w':World):Prop:=(∃ b,e=.returned (.bool b)/\(b=true↔aW h hand kd A B C))/\Below w.heap.size w w'
theorem uI {k B:Int} {b:Bool} (hk:k=4∨k=5) (hb:b=true↔dH h hand A) (hw:Below w.heap.size w w'):mo h hand k A B C w (.returned (.bool b)) w':=⟨⟨b,rfl,by rw [hb,aW.four hk]⟩,hw⟩
theorem vJ {L:SM} (x:Ji base S h L R hand rv root w) (i:Inv h) (hl9:h.objs.length<=5001) (he9:∀ n o,h.ob n=some o->o.es.length<=5000) (kd A B C:Int):
 Calls Tryz.prog 33 #[.pointer (some ⟨R,0,none⟩),.agg #[.int .i64 kd,.int .i64 A,.int .i64 B,.int .i64 C]] w (mo h hand kd A B C w):=by
 have HX:=ah (eT w kd A B C)
 have HB:=ah (aJ w (.cells #[.int .i64 kd,.int .i64 A,.int .i64 B,.int .i64 C] 39))
 have HR:=ah (x.low HB.o)
 obtain ⟨bA,hA⟩:∃ b:Bool,b=true↔dH h hand A:=vX _
 obtain ⟨bB,hB⟩:∃ b:Bool,b=true↔dH h hand B:=vX _
 obtain ⟨bC,hC⟩:∃ b:Bool,b=true↔dH h hand C:=vX _
 have HCA:=ah (fun (w':World) (y:Ji base S h L R hand rv root w')=>y.at i hl9 he9 A bA hA)
 have HCB:=ah (fun (w':World) (y:Ji base S h L R hand rv root w')=>y.at i hl9 he9 B bB hB)
 have HCC:=ah (fun (w':World) (y:Ji base S h L R hand rv root w')=>y.at i hl9 he9 C bC hC)
 have HA:=ah hA
 have HBB:=ah hB
 have HC:=ah hC
 clear hA hB hC x
 go_enter Tryz.func33,Tryz.ntmps33
 go_upto_region 1 with (fail)
 generalize w.alloc (.cells #[.int .i64 kd,.int .i64 A,.int .i64 B,.int .i64 C] 39)=w1 at *
 generalize hX:w.heap.size=X at *
 have x0:w1.cell? ⟨X,0,none⟩=some (.int .i64 kd):=HX.o.cell (j:=0) (by omega)
 by_cases k2:kd=2
 ·subst k2
  have x1:w1.cell? ⟨X,1,none⟩=some (.int .i64 A):=HX.o.cell (j:=1) (by omega)
  go_wp2_with fail
  refine (HCA.o _ HR.o).mono ?_
  rintro e2 w2 ⟨rfl,hb2,hr2⟩
  have HR2:=ah hr2
  have HB2:=ah hb2
  have HX2:=ah (HX.o.keep (Keeps.of hb2 (Nat.le_refl _) (fun _=>False)) (fun y=>y))
  clear hb2 hr2 x0 x1
  have y3:w2.cell? ⟨X,3,none⟩=some (.int .i64 C):=HX2.o.cell (j:=3) (by omega)
  cases bA with
  |false=>
   have HN:=ah (show ¬ dH h hand A from fun y=>absurd (HA.o.2 y) (by simp))
   go_wp2
   go_ret
   exact (⟨⟨false,rfl,by simp only [Bool.false_eq_true,false_iff];exact fun hh=>HN.o (aW.two.1 hh).1⟩,by rw [hX];exact HB.o.trans (HB2.o.mono (hX ▸ HB.o.size))⟩:mo h hand _ A B C w _ _)
  |true=>
   have HY:=ah (HA.o.1 rfl)
   by_cases c0:C=0
   ·subst c0
    go_wp2
    go_ret
    exact (⟨⟨true,rfl,by simp only [true_iff];exact aW.two.2 ⟨HY.o,.inl rfl⟩⟩,by rw [hX];exact HB.o.trans (HB2.o.mono (hX ▸ HB.o.size))⟩:mo h hand _ A B _ w _ _)
   ·have c0e:(C==0)=false:=by simpa using c0
    have HC0:=ah c0
    clear c0
    go_wp2_with fail
    refine (HCC.o _ HR2.o).mono ?_
    rintro e3 w3 ⟨rfl,hb3,hr3⟩
    have HB3:=ah hb3
    clear hb3 hr3 y3
    go_wp2
    go_ret
    refine (⟨⟨bC,rfl,?_⟩,by rw [hX];exact HB.o.trans (((uf HB2.o HB3.o)).mono (hX ▸ HB.o.size))⟩:mo h hand _ A B C w _ _)
    rw [HC.o,aW.two]
    exact ⟨fun hh=>⟨HY.o,.inr hh⟩,fun hh=>hh.2.resolve_left HC0.o⟩
 ·have k2e:(kd==2)=false:=by simpa using k2
  by_cases k3:kd=3
  ·subst k3
   clear k2 k2e
   have x1:w1.cell? ⟨X,1,none⟩=some (.int .i64 A):=HX.o.cell (j:=1) (by omega)
   go_wp2_with fail
   refine (HCA.o _ HR.o).mono ?_
   rintro e2 w2 ⟨rfl,hb2,hr2⟩
   have HR2:=ah hr2
   have HB2:=ah hb2
   have HX2:=ah (HX.o.keep (Keeps.of hb2 (Nat.le_refl _) (fun _=>False)) (fun y=>y))
   clear hb2 hr2 x0 x1
   cases bA with
   |false=>
    have HN:=ah (show ¬ dH h hand A from fun y=>absurd (HA.o.2 y) (by simp))
    go_wp2
    go_ret
    exact (⟨⟨false,rfl,by simp only [Bool.false_eq_true,false_iff];exact fun hh=>HN.o (aW.three.1 hh).1⟩,by rw [hX];exact HB.o.trans (HB2.o.mono (hX ▸ HB.o.size))⟩:mo h hand _ A B C w _ _)
   |true=>
    have HY:=ah (HA.o.1 rfl)
    have y2:w2.cell? ⟨X,2,none⟩=some (.int .i64 B):=HX2.o.cell (j:=2) (by omega)
    go_wp2_with fail
    refine (HCB.o _ HR2.o).mono ?_
    rintro e3 w3 ⟨rfl,hb3,hr3⟩
    have HR3:=ah hr3
    have HB3:=ah (uf HB2.o hb3)
    have HX3:=ah (HX2.o.keep (Keeps.of hb3 (Nat.le_refl _) (fun _=>False)) (fun y=>y))
    clear hb3 hr3 y2
    cases bB with
    |false=>
     have HN:=ah (show ¬ dH h hand B from fun y=>absurd (HBB.o.2 y) (by simp))
     go_wp2
     go_ret
     exact (⟨⟨false,rfl,by simp only [Bool.false_eq_true,false_iff];exact fun hh=>HN.o (aW.three.1 hh).2.1⟩,by rw [hX];exact HB.o.trans (HB3.o.mono (hX ▸ HB.o.size))⟩:mo h hand _ A B C w _ _)
    |true=>
     have HY2:=ah (HBB.o.1 rfl)
     have y3:w3.cell? ⟨X,3,none⟩=some (.int .i64 C):=HX3.o.cell (j:=3) (by omega)
     by_cases c0:C=0
     ·subst c0
      go_wp2
      go_ret
      exact (⟨⟨true,rfl,by simp only [true_iff];exact aW.three.2 ⟨HY.o,HY2.o,.inl rfl⟩⟩,by rw [hX];exact HB.o.trans (HB3.o.mono (hX ▸ HB.o.size))⟩:mo h hand _ A B _ w _ _)
     ·have c0e:(C==0)=false:=by simpa using c0
      have HC0:=ah c0
      clear c0
      go_wp2_with fail
      refine (HCC.o _ HR3.o).mono ?_
      rintro e4 w4 ⟨rfl,hb4,hr4⟩
      have HB4:=ah hb4
      clear hb4 hr4 y3
      go_wp2
      go_ret
      refine (⟨⟨bC,rfl,?_⟩,by rw [hX];exact HB.o.trans (((uf HB3.o HB4.o)).mono (hX ▸ HB.o.size))⟩:mo h hand _ A B C w _ _)
      rw [HC.o,aW.three]
      exact ⟨fun hh=>⟨HY.o,HY2.o,.inr hh⟩,fun hh=>hh.2.2.resolve_left HC0.o⟩
  ·have k3e:(kd==3)=false:=by simpa using k3
   by_cases k45:kd=4∨kd=5
   ·have x1:w1.cell? ⟨X,1,none⟩=some (.int .i64 A):=HX.o.cell (j:=1) (by omega)
    rcases k45 with rfl|rfl
    all_goals
     clear k2 k3 k2e k3e
     go_wp2_with fail
     refine (HCA.o _ HR.o).mono ?_
     rintro e2 w2 ⟨rfl,hb2,hr2⟩
     have HB2:=ah hb2
     clear hb2 hr2 x0 x1
     go_wp2
     go_ret
     first
      |exact uI (.inl rfl) HA.o (by rw [hX];exact HB.o.trans (HB2.o.mono (hX ▸ HB.o.size)))
      |exact uI (.inr rfl) HA.o (by rw [hX];exact HB.o.trans (HB2.o.mono (hX ▸ HB.o.size)))
   ·have k4e:(kd==4)=false:=by simp;omega
    have k5e:(kd==5)=false:=by simp;omega
    have HK:=ah (show kd≠2/\kd≠3/\kd≠4/\kd≠5 from ⟨k2,k3,by omega,by omega⟩)
    clear k2 k3 k45
    go_wp2
    go_ret
    exact (⟨⟨true,rfl,by simp only [true_iff];exact aW.rest HK.o.1 HK.o.2.1 HK.o.2.2.1 HK.o.2.2.2⟩,by rw [hX];exact HB.o⟩:mo h hand _ A B C w _ _)
end
end Go.Proofs.YtedpifhlffcmkaaGreatDoor
