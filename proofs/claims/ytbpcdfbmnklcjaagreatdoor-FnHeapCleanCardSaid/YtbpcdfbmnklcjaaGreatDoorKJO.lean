import Derived.Test.YtbpcdfbmnklcjaaGreatDoorKJO2
import Derived.Test.YtbpcdfbmnklcjaaGreatDoorKJO3
import Derived.Test.YtbpcdfbmnklcjaaGreatDoorKJO4
namespace Go.Proofs.YtbpcdfbmnklcjaaGreatDoor
open Go Go.RowKit
set_option maxHeartbeats 6400000
set_option maxRecDepth 100000
set_option linter.unusedVariables false
variable {n:Nat} {v:Value} {w:World}
theorem Dh {f:Nat->Nat} (h:iy w.heap.size w v n f) (hn:n<=1048576):Calls Tryz.prog 6 #[v] w (Gy f n w):=by
 have d6:=ah (Am h hn);have d5:=ah (fun (w1:World) (hb:Below w.heap.size w w1)=>(show iy w1.heap.size w1 v n f from by
  rcases h.keep (Keeps.of hb (au _) (fun _=>False)) (au _) (fun _ e=>e.elim) with c|⟨b,o,j,c1,c2,c3⟩
  ·exact .inl c
  ·exact .inr ⟨b,o,j,c1,aW c2 hb.size,c3⟩))
 obtain ⟨a,j,rfl⟩:=h.form;obtain ⟨i0,b9,b5,b3,b2⟩:=info_parts fV;have a3:=ah (And.intro b9 (And.intro b5 (And.intro b3 b2)));clear h b9 b5 b3 b2;go_enter Tryz.func6,Tryz.ntmps6;go_wp2_with fail;refine d6.o.mono ?_;rintro e w1 ⟨rfl,HD⟩;have d1:=ah (yh (d5.o w1 HD.o.2) hn);clear d6 d5;generalize hS:w.heap.size=S at *;have G:=ah hS;clear hS;go_wp2_with fail;refine d1.o.mono ?_;rintro e f5 ⟨rfl,b6⟩;obtain rfl:=b6.symm;clear d1 b6;have d2:=ah (uT 60 (by omega) (by omega) (Dn.refl HD.o.1));go_wp2_with fail;refine d2.o.mono ?_;rintro e Q ⟨bo,s1,rfl,Y,a6⟩;have u:=ah (show DS S Q S _ n f s1/\Below S w Q from ⟨a6.out.1,HD.o.2.trans (a6.out.2.below (by have:=HD.o.2.size;rw [G.o] at this;exact this) (fun b e=>by rw [e];exact au _))⟩);clear a6 HD d2;have g2:dN n<=400:=by unfold dN;split<;>omega
 cases bo with
 |true=>
  have f2:=ah (dB 2 (by omega) (by omega) (Dn.refl u.o.1));go_wp2_with fail;refine f2.o.mono ?_;rintro e w3 ⟨r,s2,rfl,M,h0,h1,a1⟩;obtain ⟨rn,rfl⟩:∃ rn:Nat,r=(rn:Int):=⟨r.toNat,by omega⟩
  have d7:=ah (show Below S w w3 from u.o.2.trans (a1.out.2.below (by have:=u.o.2.size;rw [G.o] at this;exact this) (fun b e=>by rw [e];exact au _)));have c6:S<=w3.heap.size:=by have:=d7.o.size;rw [G.o] at this;exact this
  go_wp2_with (first
   |(at_make;refine wpList_make_full _ rfl _ _ 23 rfl S 39 i0 (.agg #[.int .i64 0,.int .i64 0,.int .i64 0,.int .i64 0]) 4 Tryz.underlying23 a3.o.1 a3.o.2.1 a3.o.2.2.1 _ _ _ _ (5000+rn) rfl rfl (by simp) (by simp) (by rw [a3.o.2.2.2];omega) (by unfold maxLen;omega) c6 ?_;intro w4 hown hgrow)
   |go_in)
  have HO:=ah (And.intro hown hgrow);clear hown hgrow;go_wp2;go_ret;have Z:gQ f n=List.replicate (5000+rn) (0,0,0,0):=by
   unfold gQ;rw [Y.out.1,Y.out.2,if_pos rfl,M.out.1,M.out.2,show ((5000:Int)+(rn:Int)).toNat=5000+rn by omega]
  refine ⟨_,rfl,?_,?_⟩
  ·rw [Z,List.length_replicate,G.o,<-xP]
   exact HO.o.1
  ·rw [G.o]
   exact d7.o.grown HO.o.2 c6 (fun _ c=>by cases c)
 |false=>
  have d4:Hq (DM w S (.slice a n j) n f s1 (.slice (some ⟨Q.heap.size,0,none⟩) 0 0) [] (Q.alloc (.cells #[] 39))):=ah (by
   have hb:=aU Q (.cells #[] 39);have k:=Keeps.of hb (au _) (fun _=>False);have a7:S<=Q.heap.size:=by have:=u.o.2.size;rw [G.o] at this;exact this
   refine ⟨?_,⟨rfl,.inr ⟨Q.heap.size,0,#[],rfl,by rw [G.o];exact a7,heap_alloc_new Q _,by decide,by decide,rfl,rfl⟩⟩,by rw [G.o];exact u.o.2.trans (hb.mono a7)⟩;rw [G.o];exact ⟨u.o.1.c.keep k a7 (fun _ e=>e.elim),u.o.1.n1,u.o.1.b,u.o.1.r.low hb u.o.1.r.lt,u.o.1.x0,u.o.1.x1,u.o.1.i⟩)
  have hX:∃ X,Q.heap.size=X:=⟨_,rfl⟩
  clear u;go_upto_region 6 with (fail)
  generalize Q.alloc (.cells #[] 39)=w3 at *;clear hX;generalize Q.heap.size=X at *;go_wp2_with fail;go_loopw [5,6,7] (fun ov mv iv ws=>∃ (i g k:Nat) (E:Option Addr) (D:Nat),i<=2*dN n/\g<=i/\k<=2*i/\iv=.int .i64 (i:Int)/\mv=.int .i64 (g:Int)/\ov=.slice E k D/\Hq (DJ w S (.slice a n j) n f s1 i g (.slice E k D) k ws)) (fun _ _ iv _=>2*dN n-bF iv)
  case atStart=>exact ⟨0,0,0,some ⟨X,0,none⟩,0,by omega,by omega,by omega,rfl,rfl,rfl,rfl,rfl,d4.o,by omega,by omega⟩
  case round=>
   clear d4;obtain ⟨i,g,k,E,D,g1,e2,e6,rfl,rfl,rfl,HJ⟩:=hrel;by_cases g0:i<2*dN n
   ·have e9:((i:Int)<2*(dN n:Int)):=by omega
    obtain ⟨ops,s,a0⟩:∃ ops s,dI f n s1 i=(ops,g,s):=⟨_,_,by rw [<-HJ.o.mm]⟩
    have f4:=ah a0;have b8:ops.length=k:=by have:=HJ.o.kk;rw [a0] at this;exact this
    have b0:Hq (DM w S (.slice a n j) n f s (.slice E k D) ops wr):=ah (by have:=HJ.o.x;rw [a0] at this;exact this);have b1:=ah b8;have e7:k<=1600:=by omega
    clear HJ a0 b8;go_wp2_with fail;refine (dB _ (by omega) (by omega) (Dn.refl b0.o.d)).mono ?_;rintro e Q ⟨r2,s2,rfl,M,e5,e0,a1⟩;have a8:=ah (b0.o.draw (a1.out));clear a1 b0;go_wp2_with fail;refine (dB _ (by omega) (by omega) (Dn.refl a8.o.d)).mono ?_;rintro e w3 ⟨m,s3,rfl,R,e4,d9,c5⟩;have a2:=ah (a8.o.draw (c5.out));clear c5 a8;have e1:0<=m/\m<=100000:=by omega
    clear e4 d9;go_upto_region 12 with (fail)
    rename_i Q9 K2 c7 K1 c8 K0 c9;have l:Hq (∀ (A B:Int) (t:Nat->Value) (K:List dA) (m':Nat) (H:Nat × Int) (C:Option Addr) (z y:Nat) (w':World),TR w S (.slice a n j) n f s g ops K m' H y (.slice C y z) w'->K2 (fr a n j S X (.slice C y z) (.int .i64 (m':Int)) (.int .i64 (i:Int)) A B t) w'):=ah (by
     intro A B t K m' H C z y w' p;have P:=ah p;have f9:y<=k+2:=by have:=p.2.1;have:=p.2.2.1;rw [bI] at *;have:=b1.o;omega
     have f7:m'<=g+1:=p.2.2.2.1;clear p a2;unfold fr;refine c7 _ _ ?_;go_wp2;go_roundw
     ·refine ⟨i+1,m',y,C,z,by omega,by omega,by omega,by simp,rfl,rfl,DJ.next f4.o P.o.1 P.o.2.2.2.2 P.o.2.1 (by rw [b1.o];exact e6) P.o.2.2.1 e2 P.o.2.2.2.1⟩
     ·simp [bF];omega)
    go_cut [42] from 21 to 162 (fun tv wc=>∃ (b4 T:Bool) (V:Nat × Int),tv=.bool T/\Hq (dS f n s3=V/\(dV 3 V==0)=b4/\(b4&&decide (4<g))=T/\DM w S (.slice a n j) n f V (.slice E k D) ops wc))
    case first=>
     go_wp2_with fail;refine (uT 3 (by omega) (by omega) (Dn.refl a2.o.d)).mono ?_;rintro e w4 ⟨b4,V,rfl,W,c4⟩;have d0:=ah (a2.o.draw c4.out);clear c4 a2;cases b4 with
     |false=>
      go_wp2_with fail;go_meet;exact ⟨false,false,V,rfl,W.out.1,W.out.2,rfl,d0.o⟩
     |true=>
      go_wp2_with fail;go_meet;exact ⟨true,_,V,rfl,W.out.1,W.out.2,(by simp;omega),d0.o⟩
    case rest=>
    obtain ⟨b4,T,V,rfl,F⟩:=hcut;refine c9 _ _ ?_;rename World=>w4
    go_cut [8] from 21 to 162 (fun av wc=>∃ (A:Int) (s5:Nat × Int),av=.int .i64 A/\Hq ((-10<=A/\A<=100000)/\(∀ k N,dS f n s5=N->dV 16 N=k->eY f n g s=dK f n g A (1+m) k N)/\DM w S (.slice a n j) n f s5 (.slice E k D) ops wc))
    case first=>
     cases T with
     |false=>
      have HF:=ah (fun (k:Int) (N:Nat × Int) (h6:dS f n V=N) (hk:dV 16 N=k)=>(show eY f n g s=dK f n g (1+r2) (1+m) k N from by
       unfold eY;rw [M.out.1,R.out.1,F.o.1,h6,M.out.2,R.out.2,F.o.2.1,hk,if_neg];rintro ⟨c1,c2⟩;have:=F.o.2.2.1;rw [c1] at this;simp [c2] at this))
      go_wp2_with fail;go_meet;exact ⟨_,V,rfl,by omega,HF.o,F.o.2.2.2⟩
     |true=>
      have hc:b4=true/\4<g:=by
       have:=F.o.2.2.1;simp at this;exact this
      go_wp2_with fail;refine (dB 4 (by omega) (by omega) (Dn.refl F.o.2.2.2.d)).mono ?_;rintro e w5 ⟨r5,s5,rfl,b7,f8,f6,f0⟩;have U:=ah (F.o.2.2.2.draw f0.out);have HF:=ah (fun (k:Int) (N:Nat × Int) (h6:dS f n s5=N) (hk:dV 16 N=k)=>(show eY f n g s=dK f n g ((g:Int)-r5) (1+m) k N from by
       unfold eY;rw [M.out.1,R.out.1,F.o.1,b7.out.1,h6,R.out.2,F.o.2.1,b7.out.2,hk,if_pos hc]))
      go_wp2_with fail;go_meet;exact ⟨_,s5,rfl,by omega,HF.o,U.o⟩
    case rest=>
    obtain ⟨A,s5,rfl,a4⟩:=hcut;rename World=>w5;clear F M R e5 e0;have U:=ah a4.o.2.2;have d3:=ah a4.o.2.1;have hA:=a4.o.1;clear a4;refine c8 _ _ ?_;clear c8 c9 c7;go_wp2_with fail;refine (dB 16 (by omega) (by omega) (Dn.refl U.o.d)).mono ?_;rintro e w6 ⟨J,N,rfl,a5,e3,d8,c0⟩;have L:=ah (show BF w S (.slice a n j) n f s N g k A m J E D ops w6 from ⟨hA,e1,by omega,e7,b1.o,d3.o J N a5.out.1 a5.out.2,U.o.draw c0.out⟩);clear c0 U d3 a5;have e8:J=0∨J=1∨J=2∨J=3∨J=4∨J=5∨J=6∨J=7∨J=8∨J=9∨J=10∨J=11∨J=12∨J=13∨J=14∨J=15:=by omega
    clear e3 d8;rcases e8 with rfl|rfl|rfl|rfl|rfl|rfl|rfl|rfl|rfl|rfl|rfl|rfl|rfl|rfl|rfl|rfl
    ·go_upto_region 22 with (fail)
     refine uz (fr a n j S X (.slice E k D) (.int .i64 (g:Int)) (.int .i64 (i:Int)) A (1+m)) ?_ (fun t=>F3 L.o (by omega) (fun t K H C z y w' p=>?_))
     ·rfl
     ·unfold fr
      have P:=ah p;clear p;go_wp2_with fail;refine lK (fr a n j S X (.slice C y z) (.int .i64 ((g+1:Nat):Int)) (.int .i64 (i:Int)) A (1+m)) ?_ (fun t=>l.o A (1+m) t _ (g+1) _ _ _ _ _ P.o);rfl
    ·go_upto_region 22 with (fail)
     refine uz (fr a n j S X (.slice E k D) (.int .i64 (g:Int)) (.int .i64 (i:Int)) A (1+m)) ?_ (fun t=>F3 L.o (by omega) (fun t K H C z y w' p=>?_))
     ·rfl
     ·unfold fr
      have P:=ah p;clear p;go_wp2_with fail;refine lK (fr a n j S X (.slice C y z) (.int .i64 ((g+1:Nat):Int)) (.int .i64 (i:Int)) A (1+m)) ?_ (fun t=>l.o A (1+m) t _ (g+1) _ _ _ _ _ P.o);rfl
    ·go_upto_region 22 with (fail)
     refine uz (fr a n j S X (.slice E k D) (.int .i64 (g:Int)) (.int .i64 (i:Int)) A (1+m)) ?_ (fun t=>F3 L.o (by omega) (fun t K H C z y w' p=>?_))
     ·rfl
     ·unfold fr
      have P:=ah p;clear p;go_wp2_with fail;refine lK (fr a n j S X (.slice C y z) (.int .i64 ((g+1:Nat):Int)) (.int .i64 (i:Int)) A (1+m)) ?_ (fun t=>l.o A (1+m) t _ (g+1) _ _ _ _ _ P.o);rfl
    ·go_upto_region 22 with (fail)
     refine uz (fr a n j S X (.slice E k D) (.int .i64 (g:Int)) (.int .i64 (i:Int)) A (1+m)) ?_ (fun t=>F3 L.o (by omega) (fun t K H C z y w' p=>?_))
     ·rfl
     ·unfold fr
      have P:=ah p;clear p;go_wp2_with fail;refine lK (fr a n j S X (.slice C y z) (.int .i64 ((g+1:Nat):Int)) (.int .i64 (i:Int)) A (1+m)) ?_ (fun t=>l.o A (1+m) t _ (g+1) _ _ _ _ _ P.o);rfl
    ·go_upto_region 27 with (fail)
     refine uz (fr a n j S X (.slice E k D) (.int .i64 (g:Int)) (.int .i64 (i:Int)) A (1+m)) ?_ (fun t=>Gi L.o (by omega) (fun t K H C z y w' p=>l.o A (1+m) t _ _ _ _ _ _ _ p));rfl
    ·go_upto_region 27 with (fail)
     refine uz (fr a n j S X (.slice E k D) (.int .i64 (g:Int)) (.int .i64 (i:Int)) A (1+m)) ?_ (fun t=>Gi L.o (by omega) (fun t K H C z y w' p=>l.o A (1+m) t _ _ _ _ _ _ _ p));rfl
    ·go_upto_region 27 with (fail)
     refine uz (fr a n j S X (.slice E k D) (.int .i64 (g:Int)) (.int .i64 (i:Int)) A (1+m)) ?_ (fun t=>Gi L.o (by omega) (fun t K H C z y w' p=>l.o A (1+m) t _ _ _ _ _ _ _ p));rfl
    ·go_upto_region 31 with (fail)
     refine uz (fr a n j S X (.slice E k D) (.int .i64 (g:Int)) (.int .i64 (i:Int)) A (1+m)) ?_ (fun t=>Gc L.o (by omega) (fun t K H C z y w' p=>l.o A (1+m) t _ _ _ _ _ _ _ p));rfl
    ·go_upto_region 31 with (fail)
     refine uz (fr a n j S X (.slice E k D) (.int .i64 (g:Int)) (.int .i64 (i:Int)) A (1+m)) ?_ (fun t=>Gc L.o (by omega) (fun t K H C z y w' p=>l.o A (1+m) t _ _ _ _ _ _ _ p));rfl
    ·go_upto_region 31 with (fail)
     refine uz (fr a n j S X (.slice E k D) (.int .i64 (g:Int)) (.int .i64 (i:Int)) A (1+m)) ?_ (fun t=>Gc L.o (by omega) (fun t K H C z y w' p=>l.o A (1+m) t _ _ _ _ _ _ _ p));rfl
    ·go_upto_region 34 with (fail)
     refine uz (fr a n j S X (.slice E k D) (.int .i64 (g:Int)) (.int .i64 (i:Int)) A (1+m)) ?_ (fun t=>GD L.o (by omega) (fun t K H C z y w' p=>l.o A (1+m) t _ _ _ _ _ _ _ p));rfl
    ·go_upto_region 34 with (fail)
     refine uz (fr a n j S X (.slice E k D) (.int .i64 (g:Int)) (.int .i64 (i:Int)) A (1+m)) ?_ (fun t=>GD L.o (by omega) (fun t K H C z y w' p=>l.o A (1+m) t _ _ _ _ _ _ _ p));rfl
    ·go_upto_region 36 with (fail)
     refine uz (fr a n j S X (.slice E k D) (.int .i64 (g:Int)) (.int .i64 (i:Int)) A (1+m)) ?_ (fun t=>G5 L.o (by omega) (fun t K H C z y w' p=>l.o A (1+m) t _ _ _ _ _ _ _ p));rfl
    ·go_upto_region 38 with (fail)
     refine uz (fr a n j S X (.slice E k D) (.int .i64 (g:Int)) (.int .i64 (i:Int)) A (1+m)) ?_ (fun t=>GQ L.o (by omega) (fun t K H C z y w' p=>l.o A (1+m) t _ _ _ _ _ _ _ p));rfl
    ·go_upto_region 40 with (fail)
     refine uz (fr a n j S X (.slice E k D) (.int .i64 (g:Int)) (.int .i64 (i:Int)) A (1+m)) ?_ (fun t=>Du (GV L.o (by omega) (fun t K H C z y w' p=>l.o A (1+m) t _ _ _ _ _ _ _ p)) (fun _ _ h=>h));rfl
    ·go_upto_region 15 with (fail)
     rename_i K5 f1;refine uz (fr a n j S X (.slice E k D) (.int .i64 (g:Int)) (.int .i64 (i:Int)) A (1+m)) ?_ (fun t=>Du (GZ L.o (by omega) (fun t q r9 s9 C z w' h1 h2=>f1 _ _ (GR L.o h1 h2 (fun t K m' H C z y w' p=>l.o A (1+m) t _ _ _ _ _ _ _ p)))) (fun _ _ h=>h));rfl
   ·have e9:¬ ((i:Int)<2*(dN n:Int)):=by omega
    obtain rfl:i=2*dN n:=by omega
    have Z:gQ f n=(dI f n s1 (2*dN n)).1:=by
     unfold gQ;rw [Y.out.1,Y.out.2,if_neg (by decide)]
    have f3:=ah Z;clear Z;go_wp2;go_ret;refine ⟨_,rfl,?_,HJ.o.x.b⟩;rw [f3.o,HJ.o.kk];have:=HJ.o.x.o;rw [HJ.o.kk] at this;exact this
end Go.Proofs.YtbpcdfbmnklcjaaGreatDoor
