import Derived.Test.YtbpcdfbmnklcjaaGreatDoorKJO0
namespace Go.Proofs.YtbpcdfbmnklcjaaGreatDoor
open Go Go.RowKit
set_option maxHeartbeats 6400000
set_option maxRecDepth 100000
set_option linter.unusedVariables false
section
variable {A r3 r6:Int} {K:Act->World->Prop} {Q:Exit->Act->World->Prop} {X cap co k made n:Nat} {ao:Option Addr} {iv:Value} {w w6:World}
theorem F3 {S:Nat} {a:Option Addr} {f:Nat->Nat} {s s6:Nat × Int} {ops:List dA} {t:Nat->Value} (h:BF w S (.slice a n cap) n f s s6 made k A r3 r6 ao co ops w6) (hk:r6<4) (J:∀ t o' s' a9 k9 k' w',TR w S (.slice a n cap) n f s made ops o' (made+1) s' k' (.slice a9 k' k9) w'->K (fr a n cap S X (.slice a9 k' k9) (.int .i64 (made:Int)) iv A (1+r3) t) w'):
 Code.wp Tryz.prog (cR 22) (Exit.then K Q) (fr a n cap S X (.slice ao k co) (.int .i64 (made:Int)) iv A (1+r3) t) w6:=by
 have HK:=ah J;have z:=ah h.x;have p:=ah h.kl;have D:=ah h.st;have hA:=h.hA;have T:=h.hr;have U:=h.hm;have W:=h.hk;clear h J
 conv=>arg 2;whnf
 unfold fr;have C:Hq (aD (w6.alloc (.cells #[.int .i64 0,.int .i64 0,.int .i64 0,.int .i64 0,.int .i64 1,.int .i64 1,.int .i64 2,.int .i64 3] 3)) 3 w6.heap.size 8 (fun j=>.int .i64 (([0,0,0,0,1,1,2,3]:List Int).getD j 0))):=ah (B_ w6 [0,0,0,0,1,1,2,3]);have g:=ah (z.o.low (aU w6 (.cells #[.int .i64 0,.int .i64 0,.int .i64 0,.int .i64 0,.int .i64 1,.int .i64 1,.int .i64 2,.int .i64 3] 3)));go_wp2_with fail;refine (dB 8 (by omega) (by omega) (Dn.refl g.o.d)).mono ?_;rintro e P ⟨G,F,rfl,u,V,R,l⟩;have m:=ah (g.o.draw l.out);have B:=ah (C.o.keep l.out.2 (fun c=>C.o.apart g.o.d.r (by decide) c));clear C g l;generalize w6.heap.size=X6 at *;obtain ⟨i,rfl⟩:∃ i:Nat,G=(i:Int):=⟨G.toNat,by omega⟩
 have Z:P.cell? ⟨X6,i,none⟩=some (.int .i64 (([0,0,0,0,1,1,2,3]:List Int).getD i 0)):=B.o.c i;have N:=ah (show ([0,0,0,0,1,1,2,3]:List Int).getD i 0=([0,0,0,0,1,1,2,3]:List Int).getD (dV 8 F).toNat 0 by rw [u.out.2];rfl);obtain ⟨q,H⟩:∃ q,([0,0,0,0,1,1,2,3]:List Int).getD i 0=q:=⟨_,rfl⟩
 rw [H] at Z N;clear H;have E:=ah (show eY f n made s=([(1,q,0,0)],made+1,F) from D.o.trans (by unfold dK;rw [if_pos (by omega)];rw [u.out.1,<-N.o]));go_wp2_with (first
  |(at_builtin
    refine fE rfl (.tmp 74) (.tmp 81) 23 39 4 32 _ rfl Tryz.underlying23 fV rfl (by decide) w.heap.size (.slice ao k co) k (nH ops) (nI ((1,q,0,0):dA)) (by have:=m.o.o;rw [p.o] at this;exact this) rfl rfl rfl (f_ _) (by omega) (by decide) m.o.b.size ?_;intro v' w9 y M L Y;obtain ⟨a9,k9,v⟩:=aF y;subst v;have HY:=ah (m.o.app (o:=((1,q,0,0):dA)) (by rw [p.o];exact y) (gL (M _ _ (aT _ _) (au _)) L));clear y M L Y)
  |go_in)
 go_wp2_with fail;refine lK _ ?_ (fun t=>HK.o t _ _ _ _ _ _ ⟨E.o,by rw [bI,p.o];rfl,by simp,by omega,HY.o⟩);rfl
theorem Gi {S:Nat} {a:Option Addr} {f:Nat->Nat} {s s6:Nat × Int} {ops:List dA} {t:Nat->Value} (h:BF w S (.slice a n cap) n f s s6 made k A r3 r6 ao co ops w6) (hk:4<=r6/\r6<7) (C:∀ t o' s' a9 k9 k' w',TR w S (.slice a n cap) n f s made ops o' (made) s' k' (.slice a9 k' k9) w'->K (fr a n cap S X (.slice a9 k' k9) (.int .i64 (made:Int)) iv A (1+r3) t) w'):
 Code.wp Tryz.prog (cR 27) (Exit.inBlock 2 (Exit.inBlock 1 (Exit.then K Q))) (fr a n cap S X (.slice ao k co) (.int .i64 (made:Int)) iv A (1+r3) t) w6:=by
 have U:=ah C;have m:=ah h.x;have g:=ah h.kl;have z:=ah h.st;have hA:=h.hA;have J:=h.hr;have L:=h.hm;have P:=h.hk;clear h C
 conv=>arg 2;whnf
 unfold fr;go_wp2_with fail;refine (dB 12 (by omega) (by omega) (Dn.refl m.o.d)).mono ?_;rintro e Y ⟨q,Z,rfl,j,N,H,v⟩;have l:=ah (m.o.draw v.out);go_wp2_with fail;refine (dB 4 (by omega) (by omega) (Dn.refl l.o.d)).mono ?_;rintro e W ⟨p,F,rfl,i,M,G,u⟩;have c:=ah (l.o.draw u.out);have B:=ah (show eY f n made s=([(2,A,q,wrap64 ((1+r3)*(p%2)))],made,F) from z.o.trans (by unfold dK;rw [if_neg (by omega),if_pos (by omega)];rw [j.out.1,i.out.1,j.out.2,i.out.2]));go_wp2_with (first
  |(at_builtin
    refine fE rfl (.tmp 89) (.tmp 100) 23 39 4 32 _ rfl Tryz.underlying23 fV rfl (by decide) w.heap.size (.slice ao k co) k (nH ops) (nI ((2,A,q,wrap64 ((1+r3)*(p%2))):dA)) (by have:=c.o.o;rw [g.o] at this;exact this) rfl rfl rfl (f_ _) (by omega) (by decide) c.o.b.size ?_;intro v' V y E D R;obtain ⟨a9,k9,r⟩:=aF y;subst r;have T:=ah (c.o.app (o:=((2,A,q,wrap64 ((1+r3)*(p%2))):dA)) (by rw [g.o];exact y) (gL (E _ _ (aT _ _) (au _)) D));clear y E D R)
  |go_in)
 go_wp2_with fail;refine lK _ ?_ (fun t=>U.o t _ _ _ _ _ _ ⟨B.o,by rw [bI,g.o];rfl,by simp,by omega,T.o⟩);rfl
theorem Gc {S:Nat} {a:Option Addr} {f:Nat->Nat} {s s6:Nat × Int} {ops:List dA} {t:Nat->Value} (h:BF w S (.slice a n cap) n f s s6 made k A r3 r6 ao co ops w6) (hk:7<=r6/\r6<10) (C:∀ t o' s' a9 k9 k' w',TR w S (.slice a n cap) n f s made ops o' (made) s' k' (.slice a9 k' k9) w'->K (fr a n cap S X (.slice a9 k' k9) (.int .i64 (made:Int)) iv A (1+r3) t) w'):
 Code.wp Tryz.prog (cR 31) (Exit.inBlock 2 (Exit.inBlock 1 (Exit.then K Q))) (fr a n cap S X (.slice ao k co) (.int .i64 (made:Int)) iv A (1+r3) t) w6:=by
 have U:=ah C;have m:=ah h.x;have g:=ah h.kl;have z:=ah h.st;have hA:=h.hA;have J:=h.hr;have L:=h.hm;have P:=h.hk;clear h C
 conv=>arg 2;whnf
 unfold fr;go_wp2_with fail;refine (dB _ (by omega) (by omega) (Dn.refl m.o.d)).mono ?_;rintro e Y ⟨q,Z,rfl,j,N,H,v⟩;have l:=ah (m.o.draw v.out);go_wp2_with fail;refine (dB 2 (by omega) (by omega) (Dn.refl l.o.d)).mono ?_;rintro e W ⟨p,F,rfl,i,M,G,u⟩;have c:=ah (l.o.draw u.out);have B:=ah (show eY f n made s=([(3,A,1+r3,wrap64 ((1+q)*p))],made,F) from z.o.trans (by unfold dK;rw [if_neg (by omega),if_neg (by omega),if_pos (by omega)];rw [j.out.1,i.out.1,j.out.2,i.out.2]));go_wp2_with (first
  |(at_builtin
    refine fE rfl (.tmp 106) (.tmp 118) 23 39 4 32 _ rfl Tryz.underlying23 fV rfl (by decide) w.heap.size (.slice ao k co) k (nH ops) (nI ((3,A,1+r3,wrap64 ((1+q)*p)):dA)) (by have:=c.o.o;rw [g.o] at this;exact this) rfl rfl rfl (f_ _) (by omega) (by decide) c.o.b.size ?_;intro v' V y E D R;obtain ⟨a9,k9,r⟩:=aF y;subst r;have T:=ah (c.o.app (o:=((3,A,1+r3,wrap64 ((1+q)*p)):dA)) (by rw [g.o];exact y) (gL (E _ _ (aT _ _) (au _)) D));clear y E D R)
  |go_in)
 go_wp2_with fail;refine lK _ ?_ (fun t=>U.o t _ _ _ _ _ _ ⟨B.o,by rw [bI,g.o];rfl,by simp,by omega,T.o⟩);rfl
end
section
variable {A r3 r6 r9:Int} {K:Act->World->Prop} {Q:Exit->Act->World->Prop} {X cap co k k9 made n:Nat} {a9 ao:Option Addr} {iv:Value} {w w6 w9:World}
theorem GD {S:Nat} {a:Option Addr} {f:Nat->Nat} {s s6:Nat × Int} {ops:List dA} {t:Nat->Value} (h:BF w S (.slice a n cap) n f s s6 made k A r3 r6 ao co ops w6) (hk:10<=r6/\r6<12) (v:∀ t o' s' a9 k9 k' w',TR w S (.slice a n cap) n f s made ops o' (made) s' k' (.slice a9 k' k9) w'->K (fr a n cap S X (.slice a9 k' k9) (.int .i64 (made:Int)) iv A (1+r3) t) w'):
 Code.wp Tryz.prog (cR 34) (Exit.inBlock 2 (Exit.inBlock 1 (Exit.then K Q))) (fr a n cap S X (.slice ao k co) (.int .i64 (made:Int)) iv A (1+r3) t) w6:=by
 have L:=ah v;have j:=ah h.x;have g:=ah h.kl;have r:=ah h.st;have hA:=h.hA;have D:=h.hr;have E:=h.hm;have G:=h.hk;clear h v
 conv=>arg 2;whnf
 unfold fr;go_wp2_with fail;refine (dB 8 (by omega) (by omega) (Dn.refl j.o.d)).mono ?_;rintro e M ⟨l,B,rfl,i,F,C,p⟩;have c:=ah (j.o.draw p.out);have u:=ah (show eY f n made s=([(4,A,l/7,0)],made,B) from r.o.trans (by unfold dK;rw [if_neg (by omega),if_neg (by omega),if_neg (by omega),if_pos (by omega)];rw [i.out.1,i.out.2]));go_wp2_with (first
  |(at_builtin
    refine fE rfl (.tmp 123) (.tmp 129) 23 39 4 32 _ rfl Tryz.underlying23 fV rfl (by decide) w.heap.size (.slice ao k co) k (nH ops) (nI ((4,A,l/7,0):dA)) (by have:=c.o.o;rw [g.o] at this;exact this) rfl rfl rfl (f_ _) (by omega) (by decide) c.o.b.size ?_;intro v' w9 q z y H;obtain ⟨a9,k9,m⟩:=aF q;subst m;have J:=ah (c.o.app (o:=((4,A,l/7,0):dA)) (by rw [g.o];exact q) (gL (z _ _ (aT _ _) (au _)) y));clear q z y H)
  |go_in)
 go_wp2_with fail;refine lK _ ?_ (fun t=>L.o t _ _ _ _ _ _ ⟨u.o,by rw [bI,g.o];rfl,by simp,by omega,J.o⟩);rfl
theorem G5 {S:Nat} {a:Option Addr} {f:Nat->Nat} {s s6:Nat × Int} {ops:List dA} {t:Nat->Value} (h:BF w S (.slice a n cap) n f s s6 made k A r3 r6 ao co ops w6) (hk:12<=r6/\r6<13) (l:∀ t o' s' a9 k9 k' w',TR w S (.slice a n cap) n f s made ops o' (made) s' k' (.slice a9 k' k9) w'->K (fr a n cap S X (.slice a9 k' k9) (.int .i64 (made:Int)) iv A (1+r3) t) w'):
 Code.wp Tryz.prog (cR 36) (Exit.inBlock 2 (Exit.inBlock 1 (Exit.then K Q))) (fr a n cap S X (.slice ao k co) (.int .i64 (made:Int)) iv A (1+r3) t) w6:=by
 have z:=ah l;have c:=ah h.x;have d:=ah h.kl;have i:=ah h.st;have hA:=h.hA;have q:=h.hr;have r:=h.hm;have u:=h.hk;clear h l
 conv=>arg 2;whnf
 unfold fr;have j:=ah (show eY f n made s=([(5,A,0,0)],made,s6) from i.o.trans (by unfold dK;rw [if_neg (by omega),if_neg (by omega),if_neg (by omega),if_neg (by omega),if_pos (by omega)]));go_wp2_with (first
  |(at_builtin
    refine fE rfl (.tmp 133) (.tmp 136) 23 39 4 32 _ rfl Tryz.underlying23 fV rfl (by decide) w.heap.size (.slice ao k co) k (nH ops) (nI ((5,A,0,0):dA)) (by have:=c.o.o;rw [d.o] at this;exact this) rfl rfl rfl (f_ _) (by omega) (by decide) c.o.b.size ?_;intro v' w9 g p m v;obtain ⟨a9,k9,e⟩:=aF g;subst e;have y:=ah (c.o.app (o:=((5,A,0,0):dA)) (by rw [d.o];exact g) (gL (p _ _ (aT _ _) (au _)) m));clear g p m v)
  |go_in)
 go_wp2_with fail;refine lK _ ?_ (fun t=>z.o t _ _ _ _ _ _ ⟨j.o,by rw [bI,d.o];rfl,by simp,by omega,y.o⟩);rfl
theorem GQ {S:Nat} {a:Option Addr} {f:Nat->Nat} {s s6:Nat × Int} {ops:List dA} {t:Nat->Value} (h:BF w S (.slice a n cap) n f s s6 made k A r3 r6 ao co ops w6) (hk:13<=r6/\r6<14) (J:∀ t o' s' a9 k9 k' w',TR w S (.slice a n cap) n f s made ops o' (made) s' k' (.slice a9 k' k9) w'->K (fr a n cap S X (.slice a9 k' k9) (.int .i64 (made:Int)) iv A (1+r3) t) w'):
 Code.wp Tryz.prog (cR 38) (Exit.inBlock 2 (Exit.inBlock 1 (Exit.then K Q))) (fr a n cap S X (.slice ao k co) (.int .i64 (made:Int)) iv A (1+r3) t) w6:=by
 have HK:=ah J;have z:=ah h.x;have p:=ah h.kl;have D:=ah h.st;have hA:=h.hA;have T:=h.hr;have U:=h.hm;have W:=h.hk;clear h J
 conv=>arg 2;whnf
 unfold fr;have C:Hq (aD (w6.alloc (.cells #[.int .i64 1,.int .i64 3,.int .i64 10,.int .i64 40,.int .i64 0,.int .i64 1000000,.int .i64 1000001] 3)) 3 w6.heap.size 7 (fun j=>.int .i64 (([1,3,10,40,0,1000000,1000001]:List Int).getD j 0))):=ah (B_ w6 [1,3,10,40,0,1000000,1000001]);have g:=ah (z.o.low (aU w6 (.cells #[.int .i64 1,.int .i64 3,.int .i64 10,.int .i64 40,.int .i64 0,.int .i64 1000000,.int .i64 1000001] 3)));go_wp2_with fail;refine (dB 7 (by omega) (by omega) (Dn.refl g.o.d)).mono ?_;rintro e P ⟨G,F,rfl,u,V,R,l⟩;have m:=ah (g.o.draw l.out);have B:=ah (C.o.keep l.out.2 (fun c=>C.o.apart g.o.d.r (by decide) c));clear C g l;generalize w6.heap.size=X6 at *;obtain ⟨i,rfl⟩:∃ i:Nat,G=(i:Int):=⟨G.toNat,by omega⟩
 have Z:P.cell? ⟨X6,i,none⟩=some (.int .i64 (([1,3,10,40,0,1000000,1000001]:List Int).getD i 0)):=B.o.c i;have N:=ah (show ([1,3,10,40,0,1000000,1000001]:List Int).getD i 0=([1,3,10,40,0,1000000,1000001]:List Int).getD (dV 7 F).toNat 0 by rw [u.out.2];rfl);obtain ⟨q,H⟩:∃ q,([1,3,10,40,0,1000000,1000001]:List Int).getD i 0=q:=⟨_,rfl⟩
 rw [H] at Z N;clear H;have E:=ah (show eY f n made s=([(6,q,0,0)],made,F) from D.o.trans (by unfold dK;rw [if_neg (by omega),if_neg (by omega),if_neg (by omega),if_neg (by omega),if_neg (by omega),if_pos (by omega)];rw [u.out.1,<-N.o]));go_wp2_with (first
  |(at_builtin
    refine fE rfl (.tmp 140) (.tmp 147) 23 39 4 32 _ rfl Tryz.underlying23 fV rfl (by decide) w.heap.size (.slice ao k co) k (nH ops) (nI ((6,q,0,0):dA)) (by have:=m.o.o;rw [p.o] at this;exact this) rfl rfl rfl (f_ _) (by omega) (by decide) m.o.b.size ?_;intro v' w9 y M L Y;obtain ⟨a9,k9,v⟩:=aF y;subst v;have HY:=ah (m.o.app (o:=((6,q,0,0):dA)) (by rw [p.o];exact y) (gL (M _ _ (aT _ _) (au _)) L));clear y M L Y)
  |go_in)
 go_wp2_with fail;refine lK _ ?_ (fun t=>HK.o t _ _ _ _ _ _ ⟨E.o,by rw [bI,p.o];rfl,by simp,by omega,HY.o⟩);rfl
theorem GR {S:Nat} {a:Option Addr} {f:Nat->Nat} {s s6:Nat × Int} {ops:List dA} {t:Nat->Value} {q:Int} {s9:Nat × Int} (h:BF w S (.slice a n cap) n f s s6 made k A r3 r6 ao co ops w6) (i:∀ sA bA,dS f n s9=sA/\(dV 2 sA==0)=bA->eY f n made s=((q,r9,0,0)::(if bA=true then [(4,A,1,0)] else []),made,sA)) (y:DM w S (.slice a n cap) n f s9 (.slice a9 (k+1) k9) (ops++[(q,r9,0,0)]) w9) (B:∀ t o' z s' a9 k9 k' w',TR w S (.slice a n cap) n f s made ops o' z s' k' (.slice a9 k' k9) w'->K (fr a n cap S X (.slice a9 k' k9) (.int .i64 (z:Int)) iv A (1+r3) t) w'):
 Code.wp Tryz.prog (cS 16) (Exit.inBlock 2 (Exit.inBlock 1 (Exit.then K Q))) (fr a n cap S X (.slice a9 (k+1) k9) (.int .i64 (made:Int)) iv A (1+r3) t) w9:=by
 have F:=ah B;have j:=ah y;have i:=ah i;have p:=ah h.kl;have x:=ah h.st;have hA:=h.hA;have G:=h.hr;have H:=h.hm;have J:=h.hk;clear h B y
 conv=>arg 2;whnf
 unfold fr;go_wp2_with fail;refine (uT 2 (by omega) (by omega) (Dn.refl j.o.d)).mono ?_;rintro e N ⟨bA,sA,rfl,l,m⟩;have g:=ah (j.o.draw m.out);have r:=ah (i.o sA bA l.out);have c:=ah (show (ops++[((q,r9,0,0):dA)]).length=k+1 by rw [bI,p.o];rfl);clear m j i l x;cases bA with
 |false=>
  go_wp2_with fail;refine lK _ ?_ (fun t=>F.o t _ _ _ _ _ _ _ ⟨r.o,c.o,by simp,by omega,g.o⟩);rfl
 |true=>
  go_wp2_with (first
   |(at_builtin
     refine fE rfl (.tmp 64) (.tmp 67) 23 39 4 32 _ rfl Tryz.underlying23 fV rfl (by decide) w.heap.size (.slice a9 (k+1) k9) (k+1) (nH (ops++[((q,r9,0,0):dA)])) (nI ((4,A,1,0):dA)) (by have:=g.o.o;rw [c.o] at this;exact this) rfl rfl rfl (f_ _) (by omega) (by decide) g.o.b.size ?_;intro v' M v D C L;obtain ⟨R,P,u⟩:=aF v;subst u;have E:=ah (g.o.app (o:=((4,A,1,0):dA)) (by rw [c.o];exact v) (gL (D _ _ (aT _ _) (au _)) C));clear v D C L)
   |go_in)
  go_wp2_with fail;refine lK _ ?_ (fun t=>F.o t _ _ _ _ _ (k+1+1) _ ⟨r.o,(by simp;have:=p.o;omega),by simp,by omega,(by rw [List.append_assoc] at E;exact E.o)⟩);rfl
end
end Go.Proofs.YtbpcdfbmnklcjaaGreatDoor
