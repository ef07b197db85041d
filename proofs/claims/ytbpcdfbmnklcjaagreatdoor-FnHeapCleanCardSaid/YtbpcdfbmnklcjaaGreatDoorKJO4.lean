import Derived.Test.YtbpcdfbmnklcjaaGreatDoorKJO0
namespace Go.Proofs.YtbpcdfbmnklcjaaGreatDoor
open Go Go.RowKit
set_option maxHeartbeats 6400000
set_option maxRecDepth 100000
set_option linter.unusedVariables false
variable {A r3 r6:Int} {K:Act->World->Prop} {X cap co k made n:Nat} {ao:Option Addr} {iv:Value} {w w6:World}
theorem GZ {S:Nat} {a:Option Addr} {f:Nat->Nat} {s s6:Nat × Int} {ops:List dA} {t:Nat->Value} (h:BF w S (.slice a n cap) n f s s6 made k A r3 r6 ao co ops w6) (hk:15<=r6) (hK:∀ t q r9 s9 a9 k9 w',(∀ sA bA,dS f n s9=sA/\(dV 2 sA==0)=bA->eY f n made s=((q,r9,0,0)::(if bA=true then [(4,A,1,0)] else []),made,sA))->DM w S (.slice a n cap) n f s9 (.slice a9 (k+1) k9) (ops++[(q,r9,0,0)]) w'->K (fr a n cap S X (.slice a9 (k+1) k9) (.int .i64 (made:Int)) iv A (1+r3) t) w'):
 Code.wp Tryz.prog (cR 15) (Exit.then K fun _ _ _=>False) (fr a n cap S X (.slice ao k co) (.int .i64 (made:Int)) iv A (1+r3) t) w6:=by
 have HK:=ah hK;have a7:=ah h.x;have G:=ah h.kl;have a8:=ah h.st;have hA:=h.hA;have b1:=h.hr;have b2:=h.hm;have b4:=h.hk;clear h hK
 conv=>arg 2;whnf
 unfold fr;have T:Hq (∀ (g:Int) (w':World),aD (w'.alloc (.cells #[.int .i64 8,.int .i64 8,.int .i64 9,.int .i64 0,.int .i64 10,.int .i64 g] 3)) 3 w'.heap.size 6 (fun j=>.int .i64 (([8,8,9,0,10,g]:List Int).getD j 0))):=ah (fun g w'=>B_ w' [8,8,9,0,10,g]);have a1:=ah (a7.o.low ((aT w6.heap.size w6).drew));have a2:=ah (fun (g q' r9':Int) (s7' s8' s9' sA:Nat × Int) (bA:Bool) (h7:dW f n s6=(g,s7')) (h8:dS f n s7'=s8') (hq':q'=([8,8,9,0,10,g]:List Int).getD (dV 6 s8').toNat 0) (h9:dS f n s8'=s9'/\dV 3 s9'=r9') (hA':dS f n s9'=sA/\(dV 2 sA==0)=bA)=>(show eY f n made s=((q',r9',0,0)::(if bA=true then [(4,A,1,0)] else []),made,sA) from a8.o.trans (by unfold dK;rw [if_neg (by omega),if_neg (by omega),if_neg (by omega),if_neg (by omega),if_neg (by omega),if_neg (by omega),if_neg (by omega),h7];simp only;rw [h8,h9.1,hA'.1,h9.2,hA'.2,<-hq'])))
 go_region_law (first
  |(refine Ey (.tmp 50) rfl _ rfl (D8 (Dn.refl a1.o.d)) ?_
    rintro e U ⟨g,s7,rfl,a4,b3,b0,Z⟩;refine ⟨_,rfl,?_⟩;have Q:=ah (a1.o.draw Z.out);have C:=ah (Q.o.low (aU U (.cells #[.int .i64 8,.int .i64 8,.int .i64 9,.int .i64 0,.int .i64 10,.int .i64 g] 3)));clear Z)
  |(refine iM (.tmp 53) (.const (.int .i64 6)) rfl _ _ rfl rfl (dB 6 (by omega) (by omega) (Dn.refl C.o.d)) ?_
    rintro e D ⟨V,s8,rfl,E,a5,a3,u⟩;refine ⟨_,rfl,?_⟩;have p:=ah (C.o.draw u.out);obtain ⟨i,M⟩:∃ i:Nat,V=(i:Int):=⟨V.toNat,by omega⟩
    subst M;have m:i<6:=by omega
    have HQ:=ah (show ([8,8,9,0,10,g]:List Int).getD i 0=([8,8,9,0,10,g]:List Int).getD (dV 6 s8).toNat 0 by rw [E.out.2];rfl);obtain ⟨q,N⟩:∃ q,([8,8,9,0,10,g]:List Int).getD i 0=q:=⟨_,rfl⟩
    rw [N] at HQ;have y:=ah N;clear N;have F:=ah ((T.o g U).keep u.out.2 (fun c=>(T.o g U).apart C.o.d.r (by decide) c));have a6:D.cell? ⟨U.heap.size,i,none⟩=some (.int .i64 q):=by rw [<-y.o];exact F.o.cell (j:=i) m
    clear u)
  |(refine iM (.tmp 53) (.const (.int .i64 6)) rfl _ _ rfl rfl (dB 6 (by omega) (by omega) (Dn.refl Q.o.d)) ?_
    rintro e D ⟨V,s8,rfl,E,a5,a3,u⟩;refine ⟨_,rfl,?_⟩;have p:=ah (Q.o.draw u.out);obtain ⟨i,M⟩:∃ i:Nat,V=(i:Int):=⟨V.toNat,by omega⟩
    subst M;have m:i<6:=by omega
    have HQ:=ah (show ([8,8,9,0,10,g]:List Int).getD i 0=([8,8,9,0,10,g]:List Int).getD (dV 6 s8).toNat 0 by rw [E.out.2];rfl);obtain ⟨q,N⟩:∃ q,([8,8,9,0,10,g]:List Int).getD i 0=q:=⟨_,rfl⟩
    rw [N] at HQ;have y:=ah N;clear N;have B:=ah (p.o.low (aU D (.cells #[.int .i64 8,.int .i64 8,.int .i64 9,.int .i64 0,.int .i64 10,.int .i64 g] 3)));have a6:(D.alloc (.cells #[.int .i64 8,.int .i64 8,.int .i64 9,.int .i64 0,.int .i64 10,.int .i64 g] 3)).cell? ⟨D.heap.size,i,none⟩=some (.int .i64 q):=by rw [<-y.o];exact (T.o g D).cell (j:=i) m
    clear u)
  |(refine iM (.tmp 57) (.const (.int .i64 3)) rfl _ _ rfl rfl (dB 3 (by omega) (by omega) (Dn.refl B.o.d)) ?_
    rintro e H ⟨r9,s9,rfl,L,Y,W,l⟩;refine ⟨_,rfl,?_⟩;have v:=ah (B.o.draw l.out);have R:=ah ((T.o g D).keep l.out.2 (fun c=>(T.o g D).apart B.o.d.r (by decide) c));have a0:H.cell? ⟨D.heap.size,i,none⟩=some (.int .i64 q):=by rw [<-y.o];exact R.o.cell (j:=i) m
    clear l)
  |(have b5:=F
    refine iM (.tmp 57) (.const (.int .i64 3)) rfl _ _ rfl rfl (dB 3 (by omega) (by omega) (Dn.refl p.o.d)) ?_;rintro e H ⟨r9,s9,rfl,L,Y,W,l⟩;refine ⟨_,rfl,?_⟩;have v:=ah (p.o.draw l.out);have R:=ah (F.o.keep l.out.2 (fun c=>F.o.apart p.o.d.r (by decide) c));have a0:H.cell? ⟨U.heap.size,i,none⟩=some (.int .i64 q):=by rw [<-y.o];exact R.o.cell (j:=i) m
    clear l)
  |(refine iM (.tmp 57) (.const (.int .i64 3)) rfl _ _ rfl rfl (dB 3 (by omega) (by omega) (Dn.refl p.o.d)) ?_
    rintro e H ⟨r9,s9,rfl,L,Y,W,l⟩;refine ⟨_,rfl,?_⟩;have v:=ah (p.o.draw l.out);have z:=ah (v.o.low (aU H (.cells #[.int .i64 8,.int .i64 8,.int .i64 9,.int .i64 0,.int .i64 10,.int .i64 g] 3)));have a0:(H.alloc (.cells #[.int .i64 8,.int .i64 8,.int .i64 9,.int .i64 0,.int .i64 10,.int .i64 g] 3)).cell? ⟨H.heap.size,i,none⟩=some (.int .i64 q):=by rw [<-y.o];exact (T.o g H).cell (j:=i) m
    clear l)
  |(refine nC (.tmp 49) (.tmp 60) rfl w.heap.size (.slice ao k co) k (nH ops) (nI ((q,r9,0,0):dA)) (by have:=z.o.o;rw [G.o] at this;exact this) rfl (by rw [GH];rfl) rfl (f_ _) (by omega) z.o.b.size ?_
    intro v' wA P g2;obtain ⟨a9,k9,J⟩:=aF P;subst J;have HY:=ah (z.o.app (o:=((q,r9,0,0):dA)) (by rw [G.o];exact P) g2);clear P g2)
  |(refine nC (.tmp 49) (.tmp 60) rfl w.heap.size (.slice ao k co) k (nH ops) (nI ((q,r9,0,0):dA)) (by have:=v.o.o;rw [G.o] at this;exact this) rfl rfl rfl (f_ _) (by omega) v.o.b.size ?_
    intro v' wA P g2;obtain ⟨a9,k9,J⟩:=aF P;subst J;have HY:=ah (v.o.app (o:=((q,r9,0,0):dA)) (by rw [G.o];exact P) g2);clear P g2))
 all_goals
  go_wp2_with fail;refine lK _ ?_ (fun t=>HK.o t q r9 s9 a9 k9 _ (fun sA bA hA'=>a2.o g q r9 s7 s8 s9 sA bA a4.out E.out.1 HQ.o L.out hA') HY.o);rfl
end Go.Proofs.YtbpcdfbmnklcjaaGreatDoor
