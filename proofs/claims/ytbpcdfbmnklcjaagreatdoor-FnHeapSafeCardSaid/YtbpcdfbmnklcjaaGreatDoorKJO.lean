import Derived.Test.YtbpcdfbmnklcjaaGreatDoorKJO2
import Derived.Test.YtbpcdfbmnklcjaaGreatDoorKJO3
import Derived.Test.YtbpcdfbmnklcjaaGreatDoorKJO4
namespace Go.Proofs.YtbpcdfbmnklcjaaGreatDoor
open Go Go.RowKit
set_option maxHeartbeats 6400000
set_option maxRecDepth 100000
set_option linter.unusedVariables false
variable {n:Nat} {v:Value} {w:World}
theorem Dh {f:Nat->Nat} (h:iy w.heap.size w v n f) (hn:n<=1048576):Calls Tryz.prog 6 #[v] w (Gy f n w):=by
 have d7:=ah (Am h hn);have d6:=ah (fun (w1:World) (hb:Below w.heap.size w w1)=>(show iy w1.heap.size w1 v n f from by
  rcases h.keep (Keeps.of hb (au _) (fun _=>False)) (au _) (fun _ e=>e.elim) with c|⟨b,o,j,c1,c2,c3⟩
  ·exact .inl c
  ·exact .inr ⟨b,o,j,c1,aW c2 hb.size,c3⟩))
 obtain ⟨a,j,rfl⟩:=h.form;obtain ⟨i0,c0,b6,b5,b3⟩:=info_parts fV;have a4:=ah (And.intro c0 (And.intro b6 (And.intro b5 b3)));clear h c0 b6 b5 b3;go_enter Tryz.func6,Tryz.ntmps6;go_wp2_with fail;refine d7.o.mono ?_;rintro e w1 ⟨rfl,HD⟩;have d2:=ah (yh (d6.o w1 HD.o.2) hn);clear d7 d6;generalize hS:w.heap.size=S at *;have G:=ah hS;clear hS;go_wp2_with fail;refine d2.o.mono ?_;rintro e f6 ⟨rfl,b7⟩;obtain rfl:=b7.symm;clear d2 b7;have d3:=ah (uT 60 (by omega) (by omega) (Dn.refl HD.o.1));go_wp2_with fail;refine d3.o.mono ?_;rintro e R ⟨bo,s1,rfl,Z,a7⟩;have u:=ah (show DS S R S _ n f s1/\Below S w R from ⟨a7.out.1,HD.o.2.trans (a7.out.2.below (by have:=HD.o.2.size;rw [G.o] at this;exact this) (fun b e=>by rw [e];exact au _))⟩);clear a7 HD d3;have g3:dN n<=400:=by unfold dN;split<;>omega
 cases bo with
 |true=>
  have f3:=ah (dB 2 (by omega) (by omega) (Dn.refl u.o.1));go_wp2_with fail;refine f3.o.mono ?_;rintro e w3 ⟨r,s2,rfl,N,h0,h1,a2⟩;obtain ⟨rn,rfl⟩:∃ rn:Nat,r=(rn:Int):=⟨r.toNat,by omega⟩
  have d8:=ah (show Below S w w3 from u.o.2.trans (a2.out.2.below (by have:=u.o.2.size;rw [G.o] at this;exact this) (fun b e=>by rw [e];exact au _)));have c7:S<=w3.heap.size:=by have:=d8.o.size;rw [G.o] at this;exact this
  go_wp2_with (first
   |(at_make;refine wpList_make_full _ rfl _ _ 23 rfl S 39 i0 (.agg #[.int .i64 0,.int .i64 0,.int .i64 0,.int .i64 0]) 4 Tryz.underlying23 a4.o.1 a4.o.2.1 a4.o.2.2.1 _ _ _ _ (5000+rn) rfl rfl (by simp) (by simp) (by rw [a4.o.2.2.2];omega) (by unfold maxLen;omega) c7 ?_;intro w4 hown hgrow)
   |go_in)
  have HO:=ah (And.intro hown hgrow);clear hown hgrow;go_wp2;go_ret;have a0:gQ f n=List.replicate (5000+rn) (0,0,0,0):=by
   unfold gQ;rw [Z.out.1,Z.out.2,if_pos rfl,N.out.1,N.out.2,show ((5000:Int)+(rn:Int)).toNat=5000+rn by omega]
  refine ⟨_,rfl,?_,?_⟩
  ·rw [a0,List.length_replicate,G.o,<-xP]
   exact HO.o.1
  ·rw [G.o]
   exact d8.o.grown HO.o.2 c7 (fun _ c=>by cases c)
 |false=>
  have d5:Hq (DM w S (.slice a n j) n f s1 (.slice (some ⟨R.heap.size,0,none⟩) 0 0) [] (R.alloc (.cells #[] 39))):=ah (by
   have hb:=aU R (.cells #[] 39);have k:=Keeps.of hb (au _) (fun _=>False);have a8:S<=R.heap.size:=by have:=u.o.2.size;rw [G.o] at this;exact this
   refine ⟨?_,⟨rfl,.inr ⟨R.heap.size,0,#[],rfl,by rw [G.o];exact a8,heap_alloc_new R _,by decide,by decide,rfl,rfl⟩⟩,by rw [G.o];exact u.o.2.trans (hb.mono a8)⟩;rw [G.o];exact ⟨u.o.1.c.keep k a8 (fun _ e=>e.elim),u.o.1.n1,u.o.1.b,u.o.1.r.low hb u.o.1.r.lt,u.o.1.x0,u.o.1.x1,u.o.1.i⟩)
  have hX:∃ X,R.heap.size=X:=⟨_,rfl⟩
  clear u;go_upto_region 6 with (fail)
  generalize R.alloc (.cells #[] 39)=w3 at *;clear hX;generalize R.heap.size=X at *;go_wp2_with fail;go_loopw [5,6,7] (fun ov mv iv ws=>∃ (i g k:Nat) (E:Option Addr) (D:Nat),i<=2*dN n/\g<=i/\k<=2*i/\iv=.int .i64 (i:Int)/\mv=.int .i64 (g:Int)/\ov=.slice E k D/\Hq (DJ w S (.slice a n j) n f s1 i g (.slice E k D) k ws)) (fun _ _ iv _=>2*dN n-bF iv)
  case atStart=>exact ⟨0,0,0,some ⟨X,0,none⟩,0,by omega,by omega,by omega,rfl,rfl,rfl,rfl,rfl,d5.o,by omega,by omega⟩
  case round=>
   clear d5;obtain ⟨i,g,k,E,D,g2,e3,e7,rfl,rfl,rfl,HJ⟩:=hrel;by_cases g1:i<2*dN n
   ·have f0:((i:Int)<2*(dN n:Int)):=by omega
    obtain ⟨L,s,a1⟩:∃ L s,dI f n s1 i=(L,g,s):=⟨_,_,by rw [<-HJ.o.mm]⟩
    have f5:=ah a1;have b9:L.length=k:=by have:=HJ.o.kk;rw [a1] at this;exact this
    have b1:Hq (DM w S (.slice a n j) n f s (.slice E k D) L wr):=ah (by have:=HJ.o.x;rw [a1] at this;exact this);have b2:=ah b9;have e8:k<=1600:=by omega
    clear HJ a1 b9;go_wp2_with fail;refine (dB _ (by omega) (by omega) (Dn.refl b1.o.d)).mono ?_;rintro e R ⟨r2,s2,rfl,N,e6,e1,a2⟩;have b0:=ah (b1.o.draw (a2.out));clear a2 b1;go_wp2_with fail;refine (dB _ (by omega) (by omega) (Dn.refl b0.o.d)).mono ?_;rintro e w3 ⟨m,s3,rfl,U,e5,e0,c6⟩;have a3:=ah (b0.o.draw (c6.out));clear c6 b0;have e2:0<=m/\m<=100000:=by omega
    clear e5 e0;go_upto_region 12 with (fail)
    rename_i Q9 K2 c8 K1 c9 K0 d0;have l:Hq (∀ (A B:Int) (t:Nat->Value) (K:List dA) (m':Nat) (H:Nat × Int) (C:Option Addr) (z y:Nat) (w':World),TR w S (.slice a n j) n f s g L K m' H y (.slice C y z) w'->K2 (fr a n j S X (.slice C y z) (.int .i64 (m':Int)) (.int .i64 (i:Int)) A B t) w'):=ah (by
     intro A B t K m' H C z y w' p;have Q:=ah p;have g0:y<=k+2:=by have:=p.2.1;have:=p.2.2.1;rw [aT] at *;have:=b2.o;omega
     have f8:m'<=g+1:=p.2.2.2.1;clear p a3;unfold fr;refine c8 _ _ ?_;go_wp2;go_roundw
     ·refine ⟨i+1,m',y,C,z,by omega,by omega,by omega,by simp,rfl,rfl,DJ.next f5.o Q.o.1 Q.o.2.2.2.2 Q.o.2.1 (by rw [b2.o];exact e7) Q.o.2.2.1 e3 Q.o.2.2.2.1⟩
     ·simp [bF];omega)
    go_cut [42] from 21 to 162 (fun tv wc=>∃ (b4 T:Bool) (W:Nat × Int),tv=.bool T/\Hq (dS f n s3=W/\(dV 3 W==0)=b4/\(b4&&decide (4<g))=T/\DM w S (.slice a n j) n f W (.slice E k D) L wc))
    case first=>
     go_wp2_with fail;refine (uT 3 (by omega) (by omega) (Dn.refl a3.o.d)).mono ?_;rintro e w4 ⟨b4,W,rfl,Y,c5⟩;have d1:=ah (a3.o.draw c5.out);clear c5 a3;cases b4 with
     |false=>
      go_wp2_with fail;go_meet;exact ⟨false,false,W,rfl,Y.out.1,Y.out.2,rfl,d1.o⟩
     |true=>
      go_wp2_with fail;go_meet;exact ⟨true,_,W,rfl,Y.out.1,Y.out.2,(by simp;omega),d1.o⟩
    case rest=>
    obtain ⟨b4,T,W,rfl,F⟩:=hcut;refine d0 _ _ ?_;rename World=>w4
    go_cut [8] from 21 to 162 (fun av wc=>∃ (A:Int) (s5:Nat × Int),av=.int .i64 A/\Hq ((-10<=A/\A<=100000)/\(∀ k P,dS f n s5=P->dV 16 P=k->eY f n g s=dK f n g A (1+m) k P)/\DM w S (.slice a n j) n f s5 (.slice E k D) L wc))
    case first=>
     cases T with
     |false=>
      have HF:=ah (fun (k:Int) (P:Nat × Int) (h6:dS f n W=P) (hk:dV 16 P=k)=>(show eY f n g s=dK f n g (1+r2) (1+m) k P from by
       unfold eY;rw [N.out.1,U.out.1,F.o.1,h6,N.out.2,U.out.2,F.o.2.1,hk,if_neg];rintro ⟨c1,c2⟩;have:=F.o.2.2.1;rw [c1] at this;simp [c2] at this))
      go_wp2_with fail;go_meet;exact ⟨_,W,rfl,by omega,HF.o,F.o.2.2.2⟩
     |true=>
      have hc:b4=true/\4<g:=by
       have:=F.o.2.2.1;simp at this;exact this
      go_wp2_with fail;refine (dB 4 (by omega) (by omega) (Dn.refl F.o.2.2.2.d)).mono ?_;rintro e w5 ⟨r5,s5,rfl,b8,f9,f7,f1⟩;have V:=ah (F.o.2.2.2.draw f1.out);have HF:=ah (fun (k:Int) (P:Nat × Int) (h6:dS f n s5=P) (hk:dV 16 P=k)=>(show eY f n g s=dK f n g ((g:Int)-r5) (1+m) k P from by
       unfold eY;rw [N.out.1,U.out.1,F.o.1,b8.out.1,h6,U.out.2,F.o.2.1,b8.out.2,hk,if_pos hc]))
      go_wp2_with fail;go_meet;exact ⟨_,s5,rfl,by omega,HF.o,V.o⟩
    case rest=>
    obtain ⟨A,s5,rfl,a5⟩:=hcut;rename World=>w5;clear F N U e6 e1;have V:=ah a5.o.2.2;have d4:=ah a5.o.2.1;have hA:=a5.o.1;clear a5;refine c9 _ _ ?_;clear c9 d0 c8;go_wp2_with fail;refine (dB 16 (by omega) (by omega) (Dn.refl V.o.d)).mono ?_;rintro e w6 ⟨J,P,rfl,a6,e4,d9,c4⟩;have M:=ah (show BF w S (.slice a n j) n f s P g k A m J E D L w6 from ⟨hA,e2,by omega,e8,b2.o,d4.o J P a6.out.1 a6.out.2,V.o.draw c4.out⟩);clear c4 V d4 a6;have e9:J=0∨J=1∨J=2∨J=3∨J=4∨J=5∨J=6∨J=7∨J=8∨J=9∨J=10∨J=11∨J=12∨J=13∨J=14∨J=15:=by omega
    clear e4 d9;rcases e9 with rfl|rfl|rfl|rfl|rfl|rfl|rfl|rfl|rfl|rfl|rfl|rfl|rfl|rfl|rfl|rfl
    ·go_upto_region 22 with (fail)
     refine uz (fr a n j S X (.slice E k D) (.int .i64 (g:Int)) (.int .i64 (i:Int)) A (1+m)) ?_ (fun t=>F3 M.o (by omega) (fun t K H C z y w' p=>?_))
     ·rfl
     ·unfold fr
      have Q:=ah p;clear p;go_wp2_with fail;refine lK (fr a n j S X (.slice C y z) (.int .i64 ((g+1:Nat):Int)) (.int .i64 (i:Int)) A (1+m)) ?_ (fun t=>l.o A (1+m) t _ (g+1) _ _ _ _ _ Q.o);rfl
    ·go_upto_region 22 with (fail)
     refine uz (fr a n j S X (.slice E k D) (.int .i64 (g:Int)) (.int .i64 (i:Int)) A (1+m)) ?_ (fun t=>F3 M.o (by omega) (fun t K H C z y w' p=>?_))
     ·rfl
     ·unfold fr
      have Q:=ah p;clear p;go_wp2_with fail;refine lK (fr a n j S X (.slice C y z) (.int .i64 ((g+1:Nat):Int)) (.int .i64 (i:Int)) A (1+m)) ?_ (fun t=>l.o A (1+m) t _ (g+1) _ _ _ _ _ Q.o);rfl
    ·go_upto_region 22 with (fail)
     refine uz (fr a n j S X (.slice E k D) (.int .i64 (g:Int)) (.int .i64 (i:Int)) A (1+m)) ?_ (fun t=>F3 M.o (by omega) (fun t K H C z y w' p=>?_))
     ·rfl
     ·unfold fr
      have Q:=ah p;clear p;go_wp2_with fail;refine lK (fr a n j S X (.slice C y z) (.int .i64 ((g+1:Nat):Int)) (.int .i64 (i:Int)) A (1+m)) ?_ (fun t=>l.o A (1+m) t _ (g+1) _ _ _ _ _ Q.o);rfl
    ·go_upto_region 22 with (fail)
     refine uz (fr a n j S X (.slice E k D) (.int .i64 (g:Int)) (.int .i64 (i:Int)) A (1+m)) ?_ (fun t=>F3 M.o (by omega) (fun t K H C z y w' p=>?_))
     ·rfl
     ·unfold fr
      have Q:=ah p;clear p;go_wp2_with fail;refine lK (fr a n j S X (.slice C y z) (.int .i64 ((g+1:Nat):Int)) (.int .i64 (i:Int)) A (1+m)) ?_ (fun t=>l.o A (1+m) t _ (g+1) _ _ _ _ _ Q.o);rfl
    ·go_upto_region 27 with (fail)
     refine uz (fr a n j S X (.slice E k D) (.int .i64 (g:Int)) (.int .i64 (i:Int)) A (1+m)) ?_ (fun t=>Gi M.o (by omega) (fun t K H C z y w' p=>l.o A (1+m) t _ _ _ _ _ _ _ p));rfl
    ·go_upto_region 27 with (fail)
     refine uz (fr a n j S X (.slice E k D) (.int .i64 (g:Int)) (.int .i64 (i:Int)) A (1+m)) ?_ (fun t=>Gi M.o (by omega) (fun t K H C z y w' p=>l.o A (1+m) t _ _ _ _ _ _ _ p));rfl
    ·go_upto_region 27 with (fail)
     refine uz (fr a n j S X (.slice E k D) (.int .i64 (g:Int)) (.int .i64 (i:Int)) A (1+m)) ?_ (fun t=>Gi M.o (by omega) (fun t K H C z y w' p=>l.o A (1+m) t _ _ _ _ _ _ _ p));rfl
    ·go_upto_region 31 with (fail)
     refine uz (fr a n j S X (.slice E k D) (.int .i64 (g:Int)) (.int .i64 (i:Int)) A (1+m)) ?_ (fun t=>Gc M.o (by omega) (fun t K H C z y w' p=>l.o A (1+m) t _ _ _ _ _ _ _ p));rfl
    ·go_upto_region 31 with (fail)
     refine uz (fr a n j S X (.slice E k D) (.int .i64 (g:Int)) (.int .i64 (i:Int)) A (1+m)) ?_ (fun t=>Gc M.o (by omega) (fun t K H C z y w' p=>l.o A (1+m) t _ _ _ _ _ _ _ p));rfl
    ·go_upto_region 31 with (fail)
     refine uz (fr a n j S X (.slice E k D) (.int .i64 (g:Int)) (.int .i64 (i:Int)) A (1+m)) ?_ (fun t=>Gc M.o (by omega) (fun t K H C z y w' p=>l.o A (1+m) t _ _ _ _ _ _ _ p));rfl
    ·go_upto_region 34 with (fail)
     refine uz (fr a n j S X (.slice E k D) (.int .i64 (g:Int)) (.int .i64 (i:Int)) A (1+m)) ?_ (fun t=>GD M.o (by omega) (fun t K H C z y w' p=>l.o A (1+m) t _ _ _ _ _ _ _ p));rfl
    ·go_upto_region 34 with (fail)
     refine uz (fr a n j S X (.slice E k D) (.int .i64 (g:Int)) (.int .i64 (i:Int)) A (1+m)) ?_ (fun t=>GD M.o (by omega) (fun t K H C z y w' p=>l.o A (1+m) t _ _ _ _ _ _ _ p));rfl
    ·go_upto_region 36 with (fail)
     refine uz (fr a n j S X (.slice E k D) (.int .i64 (g:Int)) (.int .i64 (i:Int)) A (1+m)) ?_ (fun t=>G5 M.o (by omega) (fun t K H C z y w' p=>l.o A (1+m) t _ _ _ _ _ _ _ p));rfl
    ·go_upto_region 38 with (fail)
     refine uz (fr a n j S X (.slice E k D) (.int .i64 (g:Int)) (.int .i64 (i:Int)) A (1+m)) ?_ (fun t=>GQ M.o (by omega) (fun t K H C z y w' p=>l.o A (1+m) t _ _ _ _ _ _ _ p));rfl
    ·go_upto_region 40 with (fail)
     refine uz (fr a n j S X (.slice E k D) (.int .i64 (g:Int)) (.int .i64 (i:Int)) A (1+m)) ?_ (fun t=>Du (GV M.o (by omega) (fun t K H C z y w' p=>l.o A (1+m) t _ _ _ _ _ _ _ p)) (fun _ _ h=>h));rfl
    ·go_upto_region 15 with (fail)
     rename_i K5 f2;refine uz (fr a n j S X (.slice E k D) (.int .i64 (g:Int)) (.int .i64 (i:Int)) A (1+m)) ?_ (fun t=>Du (GZ M.o (by omega) (fun t q r9 s9 C z w' h1 h2=>f2 _ _ (GR M.o h1 h2 (fun t K m' H C z y w' p=>l.o A (1+m) t _ _ _ _ _ _ _ p)))) (fun _ _ h=>h));rfl
   ·have f0:¬ ((i:Int)<2*(dN n:Int)):=by omega
    obtain rfl:i=2*dN n:=by omega
    have a0:gQ f n=(dI f n s1 (2*dN n)).1:=by
     unfold gQ;rw [Z.out.1,Z.out.2,if_neg (by decide)]
    have f4:=ah a0;clear a0;go_wp2;go_ret;refine ⟨_,rfl,?_,HJ.o.x.b⟩;rw [f4.o,HJ.o.kk];have:=HJ.o.x.o;rw [HJ.o.kk] at this;exact this
end Go.Proofs.YtbpcdfbmnklcjaaGreatDoor
