import Derived.Test.YtbpcdfbmnklcjaaGreatDoorKJO0
namespace Go.Proofs.YtbpcdfbmnklcjaaGreatDoor
open Go Go.RowKit
set_option maxHeartbeats 6400000
set_option maxRecDepth 100000
set_option linter.unusedVariables false
variable {A r3 r6:Int} {K:Act->World->Prop} {X cap co k made n:Nat} {ao:Option Addr} {iv:Value} {w w6:World}
theorem GV {S:Nat} {a:Option Addr} {f:Nat->Nat} {s s6:Nat × Int} {ops:List dA} {t:Nat->Value} (h:BF w S (.slice a n cap) n f s s6 made k A r3 r6 ao co ops w6) (hk:14<=r6/\r6<15) (hK:∀ t o' s' a9 k9 k' w',TR w S (.slice a n cap) n f s made ops o' (made) s' k' (.slice a9 k' k9) w'->K (fr a n cap S X (.slice a9 k' k9) (.int .i64 (made:Int)) iv A (1+r3) t) w'):
 Code.wp Tryz.prog (cR 40) (Exit.then K fun _ _ _=>False) (fr a n cap S X (.slice ao k co) (.int .i64 (made:Int)) iv A (1+r3) t) w6:=by
 have HK:=ah hK;have a1:=ah h.x;have C:=ah h.kl;have a5:=ah h.st;have hA:=h.hA;have a7:=h.hr;have a8:=h.hm;have b0:=h.hk;clear h hK
 conv=>arg 2;whnf
 unfold fr;have R:Hq (∀ w':World,aD (w'.alloc (.cells #[.int .i64 7,.int .i64 9,.int .i64 8,.int .i64 6] 3)) 3 w'.heap.size 4 (fun j=>.int .i64 (([7,9,8,6]:List Int).getD j 0))):=ah (fun w'=>B_ w' [7,9,8,6]);have P:=ah (a1.o.low ((aU w6 (.cells #[.int .i64 7,.int .i64 9,.int .i64 8,.int .i64 6] 3)).drew));have a0:=ah (a1.o.low ((aT w6.heap.size w6).drew));have a2:=ah (fun (q' r8':Int) (s7' s8':Nat × Int) (h7:dS f n s6=s7') (hq':q'=([7,9,8,6]:List Int).getD (dV 4 s7').toNat 0) (h8:dS f n s7'=s8'/\dV 20 s8'=r8')=>(show eY f n made s=([(q',1+r8',0,0)],made,s8') from a5.o.trans (by unfold dK;rw [if_neg (by omega),if_neg (by omega),if_neg (by omega),if_neg (by omega),if_neg (by omega),if_neg (by omega),if_pos (by omega),h7,h8.1,h8.2,<-hq'])));go_wp2_with fail
 go_region_law (first
  |(refine iM (.tmp 153) (.const (.int .i64 4)) rfl _ _ rfl rfl (dB 4 (by omega) (by omega) (Dn.refl P.o.d)) ?_
    rintro e D ⟨T,s7,rfl,E,a4,a3,u⟩;refine ⟨_,rfl,?_⟩;have m:=ah (P.o.draw u.out);have F:=ah (aD.keep (show aD (w6.alloc (.cells #[.int .i64 7,.int .i64 9,.int .i64 8,.int .i64 6] 3)).drew 3 w6.heap.size 4 _ from R.o w6) u.out.2 (fun c=>(R.o w6).apart (show aD (w6.alloc (.cells #[.int .i64 7,.int .i64 9,.int .i64 8,.int .i64 6] 3)) 83 S 3 _ from P.o.d.r) (by decide) c));obtain ⟨g,L⟩:∃ g:Nat,T=(g:Int):=⟨T.toNat,by omega⟩
    subst L;have l:g<4:=by omega
    have HQ:=ah (show ([7,9,8,6]:List Int).getD g 0=([7,9,8,6]:List Int).getD (dV 4 s7).toNat 0 by rw [E.out.2];rfl);obtain ⟨q,M⟩:∃ q,([7,9,8,6]:List Int).getD g 0=q:=⟨_,rfl⟩
    rw [M] at HQ;have y:=ah M;clear M;have ct:D.cell? ⟨w6.heap.size,g,none⟩=some (.int .i64 q):=by rw [<-y.o];exact F.o.cell (j:=g) l
    clear u)
  |(refine iM (.tmp 153) (.const (.int .i64 4)) rfl _ _ rfl rfl (dB 4 (by omega) (by omega) (Dn.refl a0.o.d)) ?_
    rintro e D ⟨T,s7,rfl,E,a4,a3,u⟩;refine ⟨_,rfl,?_⟩;have m:=ah (a0.o.draw u.out);have B:=ah (m.o.low (aU D (.cells #[.int .i64 7,.int .i64 9,.int .i64 8,.int .i64 6] 3)));obtain ⟨g,L⟩:∃ g:Nat,T=(g:Int):=⟨T.toNat,by omega⟩
    subst L;have l:g<4:=by omega
    have HQ:=ah (show ([7,9,8,6]:List Int).getD g 0=([7,9,8,6]:List Int).getD (dV 4 s7).toNat 0 by rw [E.out.2];rfl);obtain ⟨q,M⟩:∃ q,([7,9,8,6]:List Int).getD g 0=q:=⟨_,rfl⟩
    rw [M] at HQ;have y:=ah M;clear M;have ct:(D.alloc (.cells #[.int .i64 7,.int .i64 9,.int .i64 8,.int .i64 6] 3)).cell? ⟨D.heap.size,g,none⟩=some (.int .i64 q):=by rw [<-y.o];exact (R.o D).cell (j:=g) l
    clear u)
  |(refine iM (.tmp 157) (.const (.int .i64 20)) rfl _ _ rfl rfl (dB 20 (by omega) (by omega) (Dn.refl B.o.d)) ?_
    rintro e G ⟨p,s8,rfl,J,W,V,i⟩;refine ⟨_,rfl,?_⟩;have v:=ah (B.o.draw i.out);have Q:=ah ((R.o D).keep i.out.2 (fun c=>(R.o D).apart B.o.d.r (by decide) c));have Z:G.cell? ⟨D.heap.size,g,none⟩=some (.int .i64 q):=by rw [<-y.o];exact Q.o.cell (j:=g) l
    have U:IntKind.i64.wrap (1+p)=1+p:=IntWalk.i64_in _ (by omega);clear i)
  |(have b1:=F
    refine iM (.tmp 157) (.const (.int .i64 20)) rfl _ _ rfl rfl (dB 20 (by omega) (by omega) (Dn.refl m.o.d)) ?_;rintro e G ⟨p,s8,rfl,J,W,V,i⟩;refine ⟨_,rfl,?_⟩;have v:=ah (m.o.draw i.out);have Q:=ah (F.o.keep i.out.2 (fun c=>F.o.apart m.o.d.r (by decide) c));have Z:G.cell? ⟨w6.heap.size,g,none⟩=some (.int .i64 q):=by rw [<-y.o];exact Q.o.cell (j:=g) l
    have U:IntKind.i64.wrap (1+p)=1+p:=IntWalk.i64_in _ (by omega);clear i)
  |(refine iM (.tmp 157) (.const (.int .i64 20)) rfl _ _ rfl rfl (dB 20 (by omega) (by omega) (Dn.refl m.o.d)) ?_
    rintro e G ⟨p,s8,rfl,J,W,V,i⟩;refine ⟨_,rfl,?_⟩;have v:=ah (m.o.draw i.out);have z:=ah (v.o.low (aU G (.cells #[.int .i64 7,.int .i64 9,.int .i64 8,.int .i64 6] 3)));have Z:(G.alloc (.cells #[.int .i64 7,.int .i64 9,.int .i64 8,.int .i64 6] 3)).cell? ⟨G.heap.size,g,none⟩=some (.int .i64 q):=by rw [<-y.o];exact (R.o G).cell (j:=g) l
    have U:IntKind.i64.wrap (1+p)=1+p:=IntWalk.i64_in _ (by omega);clear i)
  |(refine nC (.tmp 151) (.tmp 161) rfl w.heap.size (.slice ao k co) k (nH ops) (nI ((q,1+p,0,0):dA)) (by have:=z.o.o;rw [C.o] at this;exact this) rfl (by rw [GH];rfl) rfl (f_ _) (by omega) z.o.b.size ?_
    intro v' w9 N Y;obtain ⟨a9,k9,H⟩:=aF N;subst H;have HY:=ah (z.o.app (o:=((q,1+p,0,0):dA)) (by rw [C.o];exact N) Y);clear N Y)
  |(refine nC (.tmp 151) (.tmp 161) rfl w.heap.size (.slice ao k co) k (nH ops) (nI ((q,1+p,0,0):dA)) (by have:=v.o.o;rw [C.o] at this;exact this) rfl rfl rfl (f_ _) (by omega) v.o.b.size ?_
    intro v' w9 N Y;obtain ⟨a9,k9,H⟩:=aF N;subst H;have HY:=ah (v.o.app (o:=((q,1+p,0,0):dA)) (by rw [C.o];exact N) Y);clear N Y))
 all_goals
  have a6:=ah (a2.o q p s7 s8 E.out.1 HQ.o J.out);go_wp2_with fail;refine lK _ ?_ (fun t=>HK.o t _ _ _ _ _ _ ⟨a6.o,by rw [bI,C.o];rfl,by simp,by omega,HY.o⟩);rfl
end Go.Proofs.YtbpcdfbmnklcjaaGreatDoor
