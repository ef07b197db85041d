import Derived.Test.YtedpifhlffcmkaaGreatDoorKIH
namespace Go.Proofs.YtedpifhlffcmkaaGreatDoor
open Go Go.RowKit
set_option maxHeartbeats 6400000
set_option maxRecDepth 100000
set_option linter.unusedVariables false
variable {cv f:Nat->Value} {fl:Nat->Nat} {g i k n:Nat} {w w1 w2:World}
def dQ (k:Nat) (fl:Nat->Nat):Nat->Nat
 |0=>k
 |i+1=>dQ k fl i+6+fl i
theorem nU {k n:Nat} {fl:Nat->Nat} (h:∀ i,i<n->fl i<=10000):∀ i,i<=n->dQ k fl i<=k+i*10006
 |0,_=>by show k<=_;omega
 |i+1,hi=>by have:=nU (k:=k) h i (by omega);have:=h i (by omega);show dQ k fl i+6+fl i<=_;omega
def lG (k:Nat) (fl:Nat->Nat) (cv:Nat->Value) (j:Nat):Value:=if j%7=6 then cv (j/7) else .int .i64 ((dQ k fl (j/7):Int)+((j%7:Nat):Int))
theorem Bo (k:Nat) (fl:Nat->Nat) (cv:Nat->Value) (i:Nat):lG k fl cv (i*7)=.int .i64 (dQ k fl i:Int):=by unfold lG;rw [if_neg (by omega),show (i*7)/7=i by omega,show (i*7)%7=0 by omega];simp
theorem AY (k:Nat) (fl:Nat->Nat) (cv:Nat->Value) (i:Nat):lG k fl cv (i*7+1)=.int .i64 ((dQ k fl i:Int)+1):=by unfold lG;rw [if_neg (by omega),show (i*7+1)/7=i by omega,show (i*7+1)%7=1 by omega];rfl
theorem Bc (k:Nat) (fl:Nat->Nat) (cv:Nat->Value) (i:Nat):lG k fl cv (i*7+2)=.int .i64 ((dQ k fl i:Int)+2):=by unfold lG;rw [if_neg (by omega),show (i*7+2)/7=i by omega,show (i*7+2)%7=2 by omega];rfl
theorem AV (k:Nat) (fl:Nat->Nat) (cv:Nat->Value) (i:Nat):lG k fl cv (i*7+3)=.int .i64 ((dQ k fl i:Int)+3):=by unfold lG;rw [if_neg (by omega),show (i*7+3)/7=i by omega,show (i*7+3)%7=3 by omega];rfl
theorem AX (k:Nat) (fl:Nat->Nat) (cv:Nat->Value) (i:Nat):lG k fl cv (i*7+4)=.int .i64 ((dQ k fl i:Int)+4):=by unfold lG;rw [if_neg (by omega),show (i*7+4)/7=i by omega,show (i*7+4)%7=4 by omega];rfl
theorem Bp (k:Nat) (fl:Nat->Nat) (cv:Nat->Value) (i:Nat):lG k fl cv (i*7+5)=.int .i64 ((dQ k fl i:Int)+5):=by unfold lG;rw [if_neg (by omega),show (i*7+5)/7=i by omega,show (i*7+5)%7=5 by omega];rfl
theorem Bl (k:Nat) (fl:Nat->Nat) (cv:Nat->Value) (i:Nat):lG k fl cv (i*7+6)=cv i:=by unfold lG;rw [if_pos (by omega),show (i*7+6)/7=i by omega]
structure Jw (w:World) (g n k:Nat) (fl:Nat->Nat) (f cv:Nat->Value) (i:Nat):Prop where
 l:aD w 36 g (n*7) (fun j=>if j<i*7 then lG k fl cv j else f j)
 m:∀ q,q<i->iN w 3 1 (cv q) (fl q) (fH (dQ k fl q+6))
 u:∀ q,i<=q->q<n->∃ f,iN w 3 1 (cv q) (fl q) f
theorem Jw.step (h:Jw w g n k fl f cv i) (hi:i<n) (hf:∀ i,i<n->f (i*7+6)=cv i) (hap:∀ p q,p<n->q<n->p≠q->∀ b,(cv p).ownBlock=some b->(cv q).ownBlock≠some b)
 (kS:Keeps w w1 (fun b=>b=g)) (hs:aD w1 36 g (n*7) (fun i9=>if i9=i*7+5 then .int .i64 ((dQ k fl i:Int)+5) else (fun i9=>if i9=i*7+4 then .int .i64 ((dQ k fl i:Int)+4) else (fun i9=>if i9=i*7+3 then .int .i64 ((dQ k fl i:Int)+3) else (fun i9=>if i9=i*7+2 then .int .i64 ((dQ k fl i:Int)+2) else (fun i9=>if i9=i*7+1 then .int .i64 ((dQ k fl i:Int)+1) else (fun i9=>if i9=i*7 then .int .i64 (dQ k fl i:Int) else (fun j=>if j<i*7 then lG k fl cv j else f j) i9) i9) i9) i9) i9) i9)) (h2:iN w2 3 1 (cv i) (fl i) (fH (dQ k fl i+6))) (h3:Keeps w1 w2 (fun b=>(cv i).ownBlock=some b)):Jw w2 g n k fl f cv (i+1):=by
 obtain ⟨f0,u0⟩:=h.u i (Nat.le_refl _) hi
 have pc:∀ q f9,iN w 3 1 (cv q) (fl q) f9->iN w1 3 1 (cv q) (fl q) f9:=fun q f9 h9=>h9.Ir kS h.l (by decide)
 have u1:=pc i f0 u0
 refine ⟨(aD.past hs h3 u1 (by decide)).congr (fun j hj=>?_),fun q hq=>?_,fun q hq hq'=>?_⟩
 ·show _=if j<(i+1)*7 then lG k fl cv j else f j
  by_cases e0:j=i*7
  ·rw [e0,if_pos (show i*7<(i+1)*7 by omega),Bo];simp
  by_cases e1:j=i*7+1
  ·rw [e1,if_pos (show i*7+1<(i+1)*7 by omega),AY];simp
  by_cases e2:j=i*7+2
  ·rw [e2,if_pos (show i*7+2<(i+1)*7 by omega),Bc];simp
  by_cases e3:j=i*7+3
  ·rw [e3,if_pos (show i*7+3<(i+1)*7 by omega),AV];simp
  by_cases e4:j=i*7+4
  ·rw [e4,if_pos (show i*7+4<(i+1)*7 by omega),AX];simp
  by_cases e5:j=i*7+5
  ·rw [e5,if_pos (show i*7+5<(i+1)*7 by omega),Bp];simp
  by_cases e6:j=i*7+6
  ·rw [e6,if_pos (show i*7+6<(i+1)*7 by omega),Bl];simp [hf i hi,show ¬ (i*7+6<i*7) by omega]
  by_cases e9:j<i*7
  ·simp [e0,e1,e2,e3,e4,e5,e9,show j<(i+1)*7 by omega]
  ·simp [e0,e1,e2,e3,e4,e5,e9,show ¬ j<(i+1)*7 by omega]
 ·by_cases e:q=i
  ·rw [e];exact h2
  ·exact (pc q _ (h.m q (by omega))).keep h3 (fun b hb hb'=>hap q i (by omega) hi e b hb hb')
 ·obtain ⟨f9,h9⟩:=h.u q (by omega) hq'
  exact ⟨f9,(pc q _ h9).keep h3 (fun b hb hb'=>hap q i hq' hi (by omega) b hb hb')⟩
theorem nS (k:Nat) (hk1:1<=k) (hk0:k<=10) (g n cap:Nat) (fl:Nat->Nat) (f cv:Nat->Value) (w:World) (hN:n<=5000) (hfl:∀ i,i<n->fl i<=10000) (hc:n<=cap) (hI:Jw w g n k fl f cv 0) (hf:∀ i,i<n->f (i*7+6)=cv i) (hap:∀ p q,p<n->q<n->p≠q->∀ b,(cv p).ownBlock=some b->(cv q).ownBlock≠some b):
 Calls Tryz.prog 31 #[.slice (some ⟨g,0,none⟩) n cap,.int .i64 k] w fun e w'=>e=.returned (.int .i64 (dQ k fl n:Int))/\Jw w' g n k fl f cv n/\Keeps w w' (fun b=>b=g∨∃ q,q<n/\(cv q).ownBlock=some b):=by
 have HI:=ah hI
 have HF:=ah (And.intro hf hap)
 have HFL:=ah hfl
 have HLE:=ah (fun i hi=>nU (k:=k) hfl i hi)
 clear hI hf hap hfl
 go_enter Tryz.func31,Tryz.ntmps31
 go_wp2
 go_loopw [1,5] (fun kv iv wr=>∃ i m:Nat,i<=n/\iv=.int .i64 i/\kv=.int .i64 (m:Int)/\Hq (m=dQ k fl i)/\m<=60000000/\1<=m/\Hq (Jw wr g n k fl f cv i)/\Hq (Keeps w wr (fun b=>b=g∨∃ q,q<n/\(cv q).ownBlock=some b))) (fun _ iv _=>n-aU iv)
 case atStart=>exact ⟨0,k,by omega,rfl,rfl,ah rfl,by omega,hk1,HI,ah (Keeps.refl _ _)⟩
 case round=>
  clear HI
  obtain ⟨i,m,hi9,rfl,rfl,HM,hm9,hm1,HI,HK⟩:=hrel
  by_cases hin:i<n
  ·obtain ⟨fc,hcs⟩:=HI.out.u i (Nat.le_refl _) hin
   obtain ⟨ac,kc,hcv⟩:=hcs.form
   have hfi:=HFL.o i hin
   have hm8:m<=50030010:=by have:=HLE.o i hi9;have:=HM.o;omega
   generalize hfli:fl i=c at *
   have HFI:=ah hfli
   clear hfli
   have hp2:(m:Int)+1+1=(m:Int)+2:=by omega
   have hp3:(m:Int)+2+1=(m:Int)+3:=by omega
   have hp4:(m:Int)+3+1=(m:Int)+4:=by omega
   have hp5:(m:Int)+4+1=(m:Int)+5:=by omega
   have hp6:(m:Int)+5+1=(m:Int)+6:=by omega
   have R0:=ah HI.out.l
   have K0:=ah (Keeps.refl wr (fun b=>b=g))
   have c0:=R0.o.cell (j:=i*7) (by omega)
   have z0:=R0.o.Jv (i*7)
   generalize (if i*7<i*7 then lG k fl cv (i*7) else f (i*7))=y at c0
   have R1:=ah (R0.o.set (j:=i*7) (by omega) (.int .i64 (m:Int)))
   have K1:=ah (K0.o.setCell (S:=fun b=>b=g) (j:=i*7) rfl (.int .i64 (m:Int)))
   go_upto_region 6 with (fail)
   generalize wr.setCell ⟨g,i*7,none⟩ (.int .i64 (m:Int))=x1 at *
   clear c0 z0
   have c1:=R1.o.cell (j:=i*7+1) (by omega)
   have z1:=R1.o.Jv (i*7+1)
   generalize (if i*7+1<i*7 then lG k fl cv (i*7+1) else f (i*7+1))=y at c1
   have R2:=ah (R1.o.set (j:=i*7+1) (by omega) (.int .i64 ((m:Int)+1)))
   have K2:=ah (K1.o.setCell (S:=fun b=>b=g) (j:=i*7+1) rfl (.int .i64 ((m:Int)+1)))
   go_upto_region 8 with (fail)
   generalize x1.setCell ⟨g,i*7+1,none⟩ (.int .i64 ((m:Int)+1))=x2 at *
   clear c1 z1
   have c2:=R2.o.cell (j:=i*7+2) (by omega)
   have z2:=R2.o.Jv (i*7+2)
   generalize (if i*7+2<i*7 then lG k fl cv (i*7+2) else f (i*7+2))=y at c2
   have R3:=ah (R2.o.set (j:=i*7+2) (by omega) (.int .i64 ((m:Int)+2)))
   have K3:=ah (K2.o.setCell (S:=fun b=>b=g) (j:=i*7+2) rfl (.int .i64 ((m:Int)+2)))
   go_upto_region 10 with (fail)
   generalize x2.setCell ⟨g,i*7+2,none⟩ (.int .i64 ((m:Int)+2))=x3 at *
   clear c2 z2
   have c3:=R3.o.cell (j:=i*7+3) (by omega)
   have z3:=R3.o.Jv (i*7+3)
   generalize (if i*7+3<i*7 then lG k fl cv (i*7+3) else f (i*7+3))=y at c3
   have R4:=ah (R3.o.set (j:=i*7+3) (by omega) (.int .i64 ((m:Int)+3)))
   have K4:=ah (K3.o.setCell (S:=fun b=>b=g) (j:=i*7+3) rfl (.int .i64 ((m:Int)+3)))
   go_upto_region 12 with (fail)
   generalize x3.setCell ⟨g,i*7+3,none⟩ (.int .i64 ((m:Int)+3))=x4 at *
   clear c3 z3
   have c4:=R4.o.cell (j:=i*7+4) (by omega)
   have z4:=R4.o.Jv (i*7+4)
   generalize (if i*7+4<i*7 then lG k fl cv (i*7+4) else f (i*7+4))=y at c4
   have R5:=ah (R4.o.set (j:=i*7+4) (by omega) (.int .i64 ((m:Int)+4)))
   have K5:=ah (K4.o.setCell (S:=fun b=>b=g) (j:=i*7+4) rfl (.int .i64 ((m:Int)+4)))
   go_upto_region 14 with (fail)
   generalize x4.setCell ⟨g,i*7+4,none⟩ (.int .i64 ((m:Int)+4))=x5 at *
   clear c4 z4
   have c5:=R5.o.cell (j:=i*7+5) (by omega)
   have z5:=R5.o.Jv (i*7+5)
   generalize (if i*7+5<i*7 then lG k fl cv (i*7+5) else f (i*7+5))=y at c5
   have R6:=ah (R5.o.set (j:=i*7+5) (by omega) (.int .i64 ((m:Int)+5)))
   have K6:=ah (K5.o.setCell (S:=fun b=>b=g) (j:=i*7+5) rfl (.int .i64 ((m:Int)+5)))
   go_upto_region 16 with (fail)
   generalize x5.setCell ⟨g,i*7+5,none⟩ (.int .i64 ((m:Int)+5))=x6 at *
   clear c5 z5
   have c6:x6.cell? ⟨g,i*7+6,none⟩=some (.slice ac c kc):=by
    rw [R6.o.cell (j:=i*7+6) (by omega)]
    simp [HF.o.1 i hin,hcv,show ¬ (i*7+6<i*7) by omega]
   have HCs:=ah (show iN x6 3 1 (.slice ac c kc) c fc from by rw [<-hcv];exact hcs.Ir K6.o HI.out.l (by decide))
   have HCV:=ah hcv
   clear hcs hcv
   go_wp2_with fail
   refine (sj (.slice ac c kc) c ((m:Int)+6) (m+6) _ (by omega) (by omega) (by omega) (by omega) ⟨_,HCs.o⟩).mono ?_
   rintro e w2 ⟨rfl,h2,h3⟩
   have HI2:=ah (show Jw w2 g n k fl f cv (i+1) from HI.out.step hin HF.o.1 HF.o.2 (w1:=x6) K6.o (by rw [<-HM.o];exact R6.o) (by rw [HCV.o,HFI.o,<-HM.o];exact h2) (by rw [HCV.o];exact h3))
   have HK2:=ah ((HK.o.trans (K6.o.mono (S':=fun b=>b=g∨∃ q,q<n/\(cv q).ownBlock=some b) (fun b e=>.inl e))).trans (h3.mono (S':=fun b=>b=g∨∃ q,q<n/\(cv q).ownBlock=some b) (fun b e=>.inr ⟨i,hin,by rw [HCV.o];exact e⟩)))
   have HS2:=ah (show m+6+c=dQ k fl (i+1) by rw [HM.o,<-HFI.o];rfl)
   clear h2 h3 HI HK HCs c6
   go_wp2_with fail
   go_roundw
   case rel=>exact ⟨i+1,m+6+c,by omega,by simp,by simp<;>omega,ah HS2.o,by omega,by omega,HI2,HK2⟩
   case measure=>show n-aU (.int .i64 _)<n-aU (.int .i64 _);simp [aU];omega
  ·obtain rfl:i=n:=by omega
   go_wp2_with fail
   go_ret
   exact ⟨by rw [<-HM.o];rfl,HI.out,HK.o⟩
theorem oI (k:Nat) (hk1:1<=k) (hk0:k<=10) (g n cap:Nat) (fl:Nat->Nat) (f cv:Nat->Value) (w:World) (hN:n<=5000) (hfl:∀ i,i<n->fl i<=10000) (hc:n<=cap) (hI:Jw w g n k fl f cv n):
 Calls Tryz.prog 32 #[.slice (some ⟨g,0,none⟩) n cap,.int .i64 k] w fun e w'=>e=.returned (.int .i64 (dQ k fl n:Int))/\Below w.heap.size w w':=by
 have HI:=ah hI
 have HFL:=ah hfl
 have HLE:=ah (fun i hi=>nU (k:=k) hfl i hi)
 clear hI hfl
 go_enter Tryz.func32,Tryz.ntmps32
 go_wp2
 go_loopw [1,5] (fun kv iv wr=>∃ i m:Nat,i<=n/\iv=.int .i64 i/\kv=.int .i64 (m:Int)/\Hq (m=dQ k fl i)/\m<=60000000/\1<=m/\Hq (Below w.heap.size w wr)) (fun _ iv _=>n-aU iv)
 case atStart=>exact ⟨0,k,by omega,rfl,rfl,ah rfl,by omega,hk1,ah (Below.refl _ _)⟩
 case round=>
  obtain ⟨i,m,hi9,rfl,rfl,HM,hm9,hm1,HB⟩:=hrel
  by_cases hin:i<n
  ·have hl:=HI.out.l.low HB.o HI.out.l.lt
   have hcs:=(HI.out.m i hin).low HB.o (Nat.le_refl _)
   obtain ⟨ac,kc,hcv⟩:=hcs.form
   have hfi:=HFL.o i hin
   have hm8:m<=50030010:=by have:=HLE.o i hi9;have:=HM.o;omega
   have c0:wr.cell? ⟨g,i*7,none⟩=some (.int .i64 (m:Int)):=by
    rw [hl.cell (j:=i*7) (by omega),if_pos (by omega),Bo,HM.o]
   have c1:wr.cell? ⟨g,i*7+1,none⟩=some (.int .i64 ((m:Int)+1)):=by
    rw [hl.cell (j:=i*7+1) (by omega),if_pos (by omega),AY,HM.o]
   have c2:wr.cell? ⟨g,i*7+2,none⟩=some (.int .i64 ((m:Int)+2)):=by
    rw [hl.cell (j:=i*7+2) (by omega),if_pos (by omega),Bc,HM.o]
   have c3:wr.cell? ⟨g,i*7+3,none⟩=some (.int .i64 ((m:Int)+3)):=by
    rw [hl.cell (j:=i*7+3) (by omega),if_pos (by omega),AV,HM.o]
   have c4:wr.cell? ⟨g,i*7+4,none⟩=some (.int .i64 ((m:Int)+4)):=by
    rw [hl.cell (j:=i*7+4) (by omega),if_pos (by omega),AX,HM.o]
   have c5:wr.cell? ⟨g,i*7+5,none⟩=some (.int .i64 ((m:Int)+5)):=by
    rw [hl.cell (j:=i*7+5) (by omega),if_pos (by omega),Bp,HM.o]
   have c6:wr.cell? ⟨g,i*7+6,none⟩=some (.slice ac (fl i) kc):=by
    rw [hl.cell (j:=i*7+6) (by omega),if_pos (by omega),Bl,hcv]
   have HCs:=ah (show iN wr 3 1 (.slice ac (fl i) kc) (fl i) (fH (m+6)) from by rw [<-hcv,HM.o];exact hcs)
   clear hcs hcv hl
   have HS2:=ah (show m+6+fl i=dQ k fl (i+1) by rw [HM.o];rfl)
   generalize fl i=c at *
   go_wp2_with fail
   refine (sP (.slice ac c kc) c ((m:Int)+6) (m+6) _ (by omega) (by omega) (by omega) (by omega) HCs.o).mono ?_
   rintro e w2 ⟨rfl,h2⟩
   have HB2:=ah (HB.o.trans (h2.mono HB.o.size))
   clear h2 HCs c0 c1 c2 c3 c4 c5 c6 HB
   go_wp2_with fail
   go_roundw
   case rel=>exact ⟨i+1,m+6+c,by omega,by simp,by simp<;>omega,ah HS2.o,by omega,by omega,HB2⟩
   case measure=>show n-aU (.int .i64 _)<n-aU (.int .i64 _);simp [aU];omega
  ·obtain rfl:i=n:=by omega
   go_wp2_with fail
   go_ret
   exact ⟨by rw [<-HM.o];rfl,HB.o⟩
end Go.Proofs.YtedpifhlffcmkaaGreatDoor
