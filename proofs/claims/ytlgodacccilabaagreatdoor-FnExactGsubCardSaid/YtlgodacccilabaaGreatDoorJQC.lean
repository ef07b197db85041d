import Derived.Test.YtlgodacccilabaaGreatDoorJQL
import Derived.Deep.RegionLaw
namespace Go.Proofs.YtlgodacccilabaaGreatDoor
open Go Go.RowKit
set_option linter.unusedVariables false
set_option maxHeartbeats 3200000 in
set_option maxRecDepth 100000 in
theorem item_shut (R:Nat) (p:ByteArray) (rd:Rd) (us:List (It × Value)) (vi vo vd:Value) (w:World) (hp:p.size≤200) (hpos:rd.pos<p.size) (hj:RdJ rd) (hu:us.length≤rd.pos∧rd.opn.length≤rd.pos∧rd.done.length≤rd.pos) (hit:us.map Prod.fst=rd.items) (h:QR w R p rd.pos us rd.opn rd.done vi vo vd) (h41:hb p rd.pos=41):
 Calls Tryz.prog 25 #[.pointer (some ⟨R,0,none⟩)] w fun e w'=>ItR R p rd.pos (rdItem p rd) w e w':=by
 by_cases h1:rd.pos+1<p.size
 ·obtain ⟨pos,items,opn,done⟩:=rd
  dsimp only at *
  have hu1:=hu.1
  have hu2:=hu.2.1
  have hu3:=hu.2.2
  have HJ:=hide hj
  clear hu hj
  have hRl:=h.lt
  have HQ:=hide h
  clear h
  go_enter Tryz.func25,Tryz.ntmps25
  go_wp2_with fail
  refine (here_in R p pos 0 false vi vo vd w (by omega) (by omega) (by omega) HQ.out.b (by omega)).mono ?_
  rintro e w1 ⟨rfl,hk1⟩
  rw [Nat.add_zero]
  have HQ1:=hide (HQ.out.keep hk1)
  have HB1:=hide (below_keeps (R:=R) hk1 (by omega))
  clear hk1 HQ
  go_wp2_with fail
  refine (here_in R p pos 1 false vi vo vd w1 (by omega) (by omega) (by omega) HQ1.out.b (by omega)).mono ?_
  rintro e w2 ⟨rfl,hk2⟩
  have HQ:=hide (HQ1.out.keep hk2)
  have HB:=hide (HB1.out.trans (below_keeps (R:=R) hk2 (by have:=HB1.out.size;omega)))
  have hs2:R<w2.heap.size:=HQ.out.lt
  clear hk2 HQ1 HB1
  have b1:(hb p pos==40)=false:=beq_eq_false_iff_ne.2 (by omega)
  have b2:(hb p pos==41)=true:=beq_iff_eq.2 h41
  have c4:w2.cell? ⟨R,4,none⟩=some vo:=RowF.cell HQ.out.b (j:=4) (by omega)
  rcases List.eq_nil_or_concat opn with rfl|⟨op,n,hop⟩
  ·obtain ⟨ao,ko,hvo⟩:=owns_val HQ.out.n
   rw [hvo] at c4
   simp only [List.length_nil] at c4
   have HR:=hide (show rdItem p ⟨pos,items,[],done⟩=none by
    rw [rdItem,if_neg (by simp only;omega),if_pos h41];rfl)
   clear h41
   have b2:w2.cell? ⟨R,2,none⟩=some (.bool false):=RowF.cell HQ.out.b (j:=2) (by omega)
   have zb2:w2.frozen? ⟨R,2,none⟩=false:=RowF.frz HQ.out.b 2
   have HBad:=hide (RdB.isBad HQ.out.b)
   have HBb:=hide (HB.out.setCell (p:=⟨R,2,none⟩) (Nat.le_refl _) (.bool true))
   go_wp2_with fail
   refine bodyPost_ret (v:=.tuple #[]) ?_ rfl ⟨rfl,HBb.out,.inr ⟨HR.out,pos,vi,_,_,by omega,HBad.out⟩⟩
   simp [results,Tryz.results25,go_sem]
  ·rw [List.concat_eq_append] at hop
   subst hop
   have hnd:n<done.length:=by
    obtain ⟨j,hj1,hj2,hj3⟩:=HJ.out.opn n (by simp)
    have:=HJ.out.lt j hj1 (by omega) (by omega)
    simp only at this
    omega
   have HR:=hide (show rdItem p ⟨pos,items,op++[n],done⟩=some ⟨pos+1,items++[itShut n],op,done.set n true⟩ by
    rw [rdItem,if_neg (by simp only;omega),if_pos h41];simp)
   clear h41
   obtain ⟨go,co,hvo,hc4,hco⟩:=HQ.out.open_cell
   subst hvo
   have hne:(((op.length:Int)+1)==0)=false:=beq_eq_false_iff_ne.2 (by omega)
   have hol:op.length≤1000:=by simp at hu2;omega
   go_wp2_with fail
   go_quiet (fail)
   have HQ3:=hide (HQ.out.keep ((Keeps.refl w2 _).drewN nq))
   have HB3:=hide (HB.out.trans (below_keeps (R:=R) ((Keeps.refl w2 _).drewN nq) (by omega)))
   clear HQ HB c4 hc4
   generalize w2.drewN nq=w3 at *
   go_wp2_with fail
   have c4:w3.cell? ⟨R,4,none⟩=some (.slice (some ⟨go,0,none⟩) (op.length+1) co):=RowF.cell HQ3.out.b (j:=4) (by omega)
   have z4:=RowF.frz HQ3.out.b 4
   have hs3:R<w3.heap.size:=HQ3.out.lt
   go_region
   have HQ4:=hide (HQ3.out.cut1.keep ((Keeps.refl _ _).dr1))
   have HB4:=hide ((HB3.out.setCell (p:=⟨R,4,none⟩) (Nat.le_refl _) (.slice (some ⟨go,0,none⟩) op.length co)).drew)
   clear HQ3 HB3 c4 z4
   generalize (w3.setCell ⟨R,4,none⟩ (.slice (some ⟨go,0,none⟩) op.length co)).drew=w4 at *
   obtain ⟨gd,kd,hvd,hcd,hzd,hgR⟩:=HQ4.out.done_cell hnd
   subst hvd
   have c5:w4.cell? ⟨R,5,none⟩=some (.slice (some ⟨gd,0,none⟩) done.length kd):=RowF.cell HQ4.out.b (j:=5) (by omega)
   have hnd2:(n:Int)<(done.length:Int):=by omega
   go_upto_region 24 with (fail)
   have HQ5:=hide (HQ4.out.set_d (g:=gd) rfl hnd)
   have HB5:=hide (HB4.out.setCell (p:=⟨gd,n,none⟩) (show R≤gd by omega) (.bool true))
   clear HQ4 HB4 c5 hcd hzd
   generalize w4.setCell ⟨gd,n,none⟩ (.bool true)=w6 at *
   have HQ:=HQ5
   have HB:=HB5
   clear HQ5 HB5
   have c1:w6.cell? ⟨R,1,none⟩=some (.int .i64 (pos:Int)):=RowF.cell HQ.out.b (j:=1) (by omega)
   have zc1:w6.frozen? ⟨R,1,none⟩=false:=RowF.frz HQ.out.b 1
   go_upto_region 25 with (fail)
   clear c1 zc1
   have HQ9:=hide (HQ.out.posn (pos+1))
   have HB9:=hide (HB.out.setCell (p:=⟨R,1,none⟩) (Nat.le_refl _) (.int .i64 ((pos+1:Nat):Int)))
   rw [show ((pos+1:Nat):Int)=(pos:Int)+1 by omega] at HQ9 HB9
   clear HQ HB
   have HQ:=HQ9
   have HB:=HB9
   clear HQ9 HB9
   generalize w6.setCell ⟨R,1,none⟩ (.int .i64 ((pos:Int)+1))=w7 at *
   have hs2:R<w7.heap.size:=HQ.out.lt
   have c3:w7.cell? ⟨R,3,none⟩=some vi:=RowF.cell HQ.out.b (j:=3) (by omega)
   go_wp2_with (first
    |(have _z:=HQ
      at_builtin
      clear _z
      refine app_new rfl _ _ 33 91 6 56 _ rfl Tryz.underlying33 Tryz.info91 rfl (by omega) (R+1) vi us.length (itsC us) [.int .i64 3,nilS,.int .u8 0,.int .i64 (n:Int),.int .u8 0,.int .u8 0] HQ.out.i rfl rfl rfl (one_it (itShut n) none 0 0) (by omega) (by omega) (by have:=HQ.out.lt;omega) ?_
      intro v' w5 h1 _ h2 h3
      obtain ⟨a9,k9,rfl⟩:=owns_val h1
      have HQ5:=hide (HQ.out.app_i (itShut n,nilS) (setv_nil _ (by show (3:Nat)≠0;omega) (by show (3:Nat)≠6;omega)) (fun g hg=>nil_own g hg) h1 h2 h3)
      have HB5:=hide (h2 R w HB.out (by omega))
      have c5:w5.cell? ⟨R,3,none⟩=some vi:=((h2 _ _ (Below.refl (R+1) w7) (Nat.le_refl _)).cell (p:=⟨R,3,none⟩) (Nat.lt_succ_self _)).trans (RowF.cell HQ.out.b (j:=3) (by omega))
      have z5:w5.frozen? ⟨R,3,none⟩=false:=(RowF.low HQ.out.b (h2 _ _ (Below.refl (R+1) w7) (Nat.le_refl _)) (Nat.lt_succ_self _)).frz 3
      clear h1 h2 h3 HQ)
    |fail)
   have HB6:=hide (HB5.out.setCell (p:=⟨R,3,none⟩) (Nat.le_refl _) (.slice a9 (us.length+1) k9))
   go_end0
   exact ⟨rfl,HB6.out,.inl ⟨⟨pos+1,items++[itShut n],op,done.set n true⟩,us++[(itShut n,nilS)],.slice a9 (us.length+1) k9,_,_,HR.out,by simp [hit],HQ5.out,by simp,by simp;omega⟩⟩
 ·obtain ⟨pos,items,opn,done⟩:=rd
  dsimp only at *
  have hu1:=hu.1
  have hu2:=hu.2.1
  have hu3:=hu.2.2
  have HJ:=hide hj
  clear hu hj
  have hRl:=h.lt
  have HQ:=hide h
  clear h
  go_enter Tryz.func25,Tryz.ntmps25
  go_wp2_with fail
  refine (here_in R p pos 0 false vi vo vd w (by omega) (by omega) (by omega) HQ.out.b (by omega)).mono ?_
  rintro e w1 ⟨rfl,hk1⟩
  rw [Nat.add_zero]
  have HQ1:=hide (HQ.out.keep hk1)
  have HB1:=hide (below_keeps (R:=R) hk1 (by omega))
  clear hk1 HQ
  go_wp2_with fail
  refine (here_out R p pos 1 false vi vo vd w1 (by omega) (by omega) (by omega) HQ1.out.b (by omega)).mono ?_
  rintro e w2 ⟨rfl,hk2⟩
  have HQ:=hide (HQ1.out.keep hk2)
  have HB:=hide (HB1.out.trans (below_keeps (R:=R) hk2 (by have:=HB1.out.size;omega)))
  have hs2:R<w2.heap.size:=HQ.out.lt
  clear hk2 HQ1 HB1
  have b1:(hb p pos==40)=false:=beq_eq_false_iff_ne.2 (by omega)
  have b2:(hb p pos==41)=true:=beq_iff_eq.2 h41
  have c4:w2.cell? ⟨R,4,none⟩=some vo:=RowF.cell HQ.out.b (j:=4) (by omega)
  rcases List.eq_nil_or_concat opn with rfl|⟨op,n,hop⟩
  ·obtain ⟨ao,ko,hvo⟩:=owns_val HQ.out.n
   rw [hvo] at c4
   simp only [List.length_nil] at c4
   have HR:=hide (show rdItem p ⟨pos,items,[],done⟩=none by
    rw [rdItem,if_neg (by simp only;omega),if_pos h41];rfl)
   clear h41
   have b2:w2.cell? ⟨R,2,none⟩=some (.bool false):=RowF.cell HQ.out.b (j:=2) (by omega)
   have zb2:w2.frozen? ⟨R,2,none⟩=false:=RowF.frz HQ.out.b 2
   have HBad:=hide (RdB.isBad HQ.out.b)
   have HBb:=hide (HB.out.setCell (p:=⟨R,2,none⟩) (Nat.le_refl _) (.bool true))
   go_wp2_with fail
   refine bodyPost_ret (v:=.tuple #[]) ?_ rfl ⟨rfl,HBb.out,.inr ⟨HR.out,pos,vi,_,_,by omega,HBad.out⟩⟩
   simp [results,Tryz.results25,go_sem]
  ·rw [List.concat_eq_append] at hop
   subst hop
   have hnd:n<done.length:=by
    obtain ⟨j,hj1,hj2,hj3⟩:=HJ.out.opn n (by simp)
    have:=HJ.out.lt j hj1 (by omega) (by omega)
    simp only at this
    omega
   have HR:=hide (show rdItem p ⟨pos,items,op++[n],done⟩=some ⟨pos+1,items++[itShut n],op,done.set n true⟩ by
    rw [rdItem,if_neg (by simp only;omega),if_pos h41];simp)
   clear h41
   obtain ⟨go,co,hvo,hc4,hco⟩:=HQ.out.open_cell
   subst hvo
   have hne:(((op.length:Int)+1)==0)=false:=beq_eq_false_iff_ne.2 (by omega)
   have hol:op.length≤1000:=by simp at hu2;omega
   go_wp2_with fail
   go_quiet (fail)
   have HQ3:=hide (HQ.out.keep ((Keeps.refl w2 _).drewN nq))
   have HB3:=hide (HB.out.trans (below_keeps (R:=R) ((Keeps.refl w2 _).drewN nq) (by omega)))
   clear HQ HB c4 hc4
   generalize w2.drewN nq=w3 at *
   go_wp2_with fail
   have c4:w3.cell? ⟨R,4,none⟩=some (.slice (some ⟨go,0,none⟩) (op.length+1) co):=RowF.cell HQ3.out.b (j:=4) (by omega)
   have z4:=RowF.frz HQ3.out.b 4
   have hs3:R<w3.heap.size:=HQ3.out.lt
   go_region
   have HQ4:=hide (HQ3.out.cut1.keep ((Keeps.refl _ _).dr1))
   have HB4:=hide ((HB3.out.setCell (p:=⟨R,4,none⟩) (Nat.le_refl _) (.slice (some ⟨go,0,none⟩) op.length co)).drew)
   clear HQ3 HB3 c4 z4
   generalize (w3.setCell ⟨R,4,none⟩ (.slice (some ⟨go,0,none⟩) op.length co)).drew=w4 at *
   obtain ⟨gd,kd,hvd,hcd,hzd,hgR⟩:=HQ4.out.done_cell hnd
   subst hvd
   have c5:w4.cell? ⟨R,5,none⟩=some (.slice (some ⟨gd,0,none⟩) done.length kd):=RowF.cell HQ4.out.b (j:=5) (by omega)
   have hnd2:(n:Int)<(done.length:Int):=by omega
   go_upto_region 24 with (fail)
   have HQ5:=hide (HQ4.out.set_d (g:=gd) rfl hnd)
   have HB5:=hide (HB4.out.setCell (p:=⟨gd,n,none⟩) (show R≤gd by omega) (.bool true))
   clear HQ4 HB4 c5 hcd hzd
   generalize w4.setCell ⟨gd,n,none⟩ (.bool true)=w6 at *
   have HQ:=HQ5
   have HB:=HB5
   clear HQ5 HB5
   have c1:w6.cell? ⟨R,1,none⟩=some (.int .i64 (pos:Int)):=RowF.cell HQ.out.b (j:=1) (by omega)
   have zc1:w6.frozen? ⟨R,1,none⟩=false:=RowF.frz HQ.out.b 1
   go_upto_region 25 with (fail)
   clear c1 zc1
   have HQ9:=hide (HQ.out.posn (pos+1))
   have HB9:=hide (HB.out.setCell (p:=⟨R,1,none⟩) (Nat.le_refl _) (.int .i64 ((pos+1:Nat):Int)))
   rw [show ((pos+1:Nat):Int)=(pos:Int)+1 by omega] at HQ9 HB9
   clear HQ HB
   have HQ:=HQ9
   have HB:=HB9
   clear HQ9 HB9
   generalize w6.setCell ⟨R,1,none⟩ (.int .i64 ((pos:Int)+1))=w7 at *
   have hs2:R<w7.heap.size:=HQ.out.lt
   have c3:w7.cell? ⟨R,3,none⟩=some vi:=RowF.cell HQ.out.b (j:=3) (by omega)
   go_wp2_with (first
    |(have _z:=HQ
      at_builtin
      clear _z
      refine app_new rfl _ _ 33 91 6 56 _ rfl Tryz.underlying33 Tryz.info91 rfl (by omega) (R+1) vi us.length (itsC us) [.int .i64 3,nilS,.int .u8 0,.int .i64 (n:Int),.int .u8 0,.int .u8 0] HQ.out.i rfl rfl rfl (one_it (itShut n) none 0 0) (by omega) (by omega) (by have:=HQ.out.lt;omega) ?_
      intro v' w5 h1 _ h2 h3
      obtain ⟨a9,k9,rfl⟩:=owns_val h1
      have HQ5:=hide (HQ.out.app_i (itShut n,nilS) (setv_nil _ (by show (3:Nat)≠0;omega) (by show (3:Nat)≠6;omega)) (fun g hg=>nil_own g hg) h1 h2 h3)
      have HB5:=hide (h2 R w HB.out (by omega))
      have c5:w5.cell? ⟨R,3,none⟩=some vi:=((h2 _ _ (Below.refl (R+1) w7) (Nat.le_refl _)).cell (p:=⟨R,3,none⟩) (Nat.lt_succ_self _)).trans (RowF.cell HQ.out.b (j:=3) (by omega))
      have z5:w5.frozen? ⟨R,3,none⟩=false:=(RowF.low HQ.out.b (h2 _ _ (Below.refl (R+1) w7) (Nat.le_refl _)) (Nat.lt_succ_self _)).frz 3
      clear h1 h2 h3 HQ)
    |fail)
   have HB6:=hide (HB5.out.setCell (p:=⟨R,3,none⟩) (Nat.le_refl _) (.slice a9 (us.length+1) k9))
   go_end0
   exact ⟨rfl,HB6.out,.inl ⟨⟨pos+1,items++[itShut n],op,done.set n true⟩,us++[(itShut n,nilS)],.slice a9 (us.length+1) k9,_,_,HR.out,by simp [hit],HQ5.out,by simp,by simp;omega⟩⟩
end Go.Proofs.YtlgodacccilabaaGreatDoor
namespace Go.Proofs.YtlgodacccilabaaGreatDoor
open Go Go.RowKit Go.Shelf
set_option linter.unusedVariables false
structure WyAll (X:Sx) (pl:Nat→Bool) (fn:Nat) (bd cs:Array Value) (D:World→Prop) (B:Nat):Prop where
 ok:WyOk X [] (tryM X.s pl X.its) fn bd cs D
 fresh:∀ w w' b,D w→Keeps w w' (fun x=>x=b)→B≤b→D w'
 new:∀ w w',D w→Keeps w w' (fun _=>False)→D w'
def FiR (X:Sx) (D:World→Prop) (w:World) (r:Option Fd × Nat) (e:Ending) (w':World):Prop:=
 Keeps w w' (fun b=>b=X.S)∧D w'∧∃ n' nt' to',SB w' X.S X.s X.fx X.cn X.wh n' nt' to'∧
  ((50000<r.2∧50000<n'∧n'≤1000000∧e=.returned (.tuple #[.agg #[.int .i64 0,.int .i64 0,nilS],.int .i64 2]))∨
   (r.2≤50000∧n'=r.2∧r.1=none∧e=.returned (.tuple #[.agg #[.int .i64 0,.int .i64 0,nilS],.int .i64 0]))∨
   (r.2≤50000∧n'=r.2∧∃ f v,r.1=some f∧e=.returned (.tuple #[.agg #[.int .i64 f.fr,.int .i64 f.en,v],.int .i64 1])∧w'.ownsRow w.heap.size 56 3 v f.caps.length (capC f.caps)))
theorem capC_len (l:List (Bool × Nat × Nat)):(capC l).length=l.length*3:=by
 induction l with
 |nil=>rfl
 |cons a l ih=>rw [show capC (a::l)=[.bool a.1,.int .i64 a.2.1,.int .i64 a.2.2]++capC l from rfl,List.length_append,ih];simp;omega
theorem capC_get:∀ (l:List (Bool × Nat × Nat)) (j:Nat) (u:Value),(capC l)[j]?=some u→∃ c,l[j/3]?=some c∧u=(if j%3=0 then .bool c.1 else if j%3=1 then .int .i64 c.2.1 else .int .i64 c.2.2)
 | [],j,u,h=>by simp [capC] at h
 |c::l,j,u,h=>by
  rw [show capC (c::l)=[.bool c.1,.int .i64 c.2.1,.int .i64 c.2.2]++capC l from rfl] at h
  by_cases h3:j<3
  ·rw [List.getElem?_append_left (by simpa using h3)] at h
   have:j=0∨j=1∨j=2:=by omega
   rcases this with rfl|rfl|rfl
   all_goals
    refine ⟨c,by simp,?_⟩
    simpa using h.symm
  ·rw [List.getElem?_append_right (by simp;omega)] at h
   obtain ⟨c',h1,h2⟩:=capC_get l (j-3) u (by simpa using h)
   refine ⟨c',?_,?_⟩
   ·rw [show j/3=(j-3)/3+1 by omega];simpa using h1
   ·rw [show j%3=(j-3)%3 by omega];exact h2
theorem owns_ltb {w:World} {B e s n g:Nat} {v:Value} {xs:List Value} (h:w.ownsRow B e s v n xs) (hv:v.ownBlock=some g):B≤g∧g<w.heap.size:=h.lt g hv
theorem owns_type {w:World} {B T T' s n g N:Nat} {v:Value} {xs:List Value} {f:Nat→Value} (h:w.ownsRow B T s v n xs) (hv:v.ownBlock=some g) (h':RowF w T' g N f) (hT:T≠T'):False:=by
 obtain ⟨f9,h9⟩:=SlF.of h
 exact (h9.own hv).apart h' hT rfl
theorem add5 (S j:Nat):(⟨S,5,none⟩:Addr).add j=⟨S,5+j,none⟩:=add_none' S 5 j
theorem SB.caps {w:World} {S:Nat} {s:ByteArray} {fx:Bool} {cn:Nat} {wh:Value} {n:Nat} {nt:Nt} {to_:Nat} (h:SB w S s fx cn wh n nt to_) {l:List (Bool × Nat × Nat)} (hl:l.length≤16) (hc:∀ k,k<l.length→l[k]?=some (nt k)):
 ∀ j u,(capC l)[j]?=some u→w.cell? ((⟨S,5,none⟩:Addr).add j)=some u:=by
 intro j u hu
 obtain ⟨c,h1,h2⟩:=capC_get l j u hu
 obtain ⟨hk,_⟩:=List.getElem?_eq_some_iff.1 h1
 have h3:=hc (j/3) hk
 rw [h1] at h3
 simp only [Option.some.injEq] at h3
 subst h3
 rw [add5]
 have:j%3=0∨j%3=1∨j%3=2:=by omega
 rcases this with e|e|e
 ·rw [if_pos e] at h2
  rw [h2,show 5+j=5+(j/3)*3 by omega];exact h.n0 (by omega)
 ·rw [if_neg (by omega),if_pos e] at h2
  rw [h2,show 5+j=5+(j/3)*3+1 by omega];exact h.n1 (by omega)
 ·rw [if_neg (by omega),if_neg (by omega)] at h2
  rw [h2,show 5+j=5+(j/3)*3+2 by omega];exact h.n2 (by omega)
theorem one_caps (l:List (Bool × Nat × Nat)):∀ u∈capC l,u.oneCell'=true:=by
 intro u hu
 obtain ⟨c,_,hc⟩:=List.mem_flatMap.1 hu
 exact one_cap c u hc
set_option maxHeartbeats 3200000 in
set_option maxRecDepth 100000 in
theorem first_fix (X:Sx) (t:Pt) (fn:Nat) (bd cs:Array Value) (D:World→Prop) (from_ n:Nat) (nt:Nt) (to_:Nat) (w:World) (hs:X.s.size≤65536) (hwh:X.wh=.func (.func fn) bd cs) (hfx:X.fx=t.start) (hcn:X.cn=t.caps) (hits:X.its=t.items) (hc16:t.caps≤16)
 (hlen:t.items.length≤200) (hx:WyAll X t.place fn bd cs D w.heap.size) (hcap:∀ nt σ,Ag X.its nt σ→∀ k,k<t.caps→nt k=capAt t σ k) (hD:D w) (hb:SB w X.S X.s X.fx X.cn X.wh n nt to_) (hn:n≤50000) (hf:from_≤X.s.size) (hst9:t.start=true):
 Calls Tryz.prog 35 #[.pointer (some ⟨X.S,0,none⟩),.int .i64 from_] w fun e w'=>FiR X D w (srM X.s t (X.s.size+1) from_ n) e w':=by
 obtain ⟨S,s,fx,cn,wh,its⟩:=X
 dsimp only at *
 subst hwh hfx hcn hits
 obtain ⟨i0,hi,hz0,hz1,hz2⟩:=info_parts Tryz.info56
 have e1:=hx.ok.en
 have hSl:S<w.heap.size:=RowF.lt hb
 have kb:Keeps w (w.alloc (.cells #[Value.int .i64 0,.int .i64 0,nilS] 32)) (fun _=>False):=Keeps.of (b_1 w _) (Nat.le_refl _) _
 have HB:=hide (hb.keep kb (fun x=>x))
 have HD:=hide (hx.new _ _ hD kb)
 have HZ:=hide (show RowF (w.alloc (.cells #[Value.int .i64 0,.int .i64 0,nilS] 32)) 32 w.heap.size 3 (fun j=>#[Value.int .i64 0,.int .i64 0,nilS].getD j (.bool false)) from RowF.mk' w 32 #[Value.int .i64 0,.int .i64 0,nilS])
 have HK:=hide (kb.mono (S':=fun b=>b=S) (fun b hb=>hb.elim))
 have HX:=hide hx
 have HST:=hide (tryM_st s t.place t.items)
 have HHN:=hide (tryM_hn s t.place t.items)
 have HCP:=hide hcap
 have c0:=HB.out.subj
 have c1:=HB.out.fix
 clear hx hcap hD hb kb
 rw [hst9] at c1
 have HST9:=hide hst9
 clear hst9
 have hl9:from_≤from_:=by omega
 have hl8:from_≤s.size:=by omega
 go_enter Tryz.func35,Tryz.ntmps35
 go_wp2_with fail
 clear c0 c1
 generalize w.alloc (.cells #[Value.int .i64 0,.int .i64 0,nilS] 32)=w0 at *
 obtain ⟨RB,hRBe⟩:∃ RB,RB=w.heap.size:=⟨_,rfl⟩
 rw [←hRBe] at HZ ⊢
 have hRB:w.heap.size≤RB:=by omega
 have hRB2:w.heap.size≤RB:=hRB
 have hRM:RB≠S:=by omega
 clear hRBe
 go_loopw [7] (fun iv wr=>∃ (at_ n1:Nat) (nt1:Nt) (to1:Nat),iv=.int .i64 at_∧at_≤from_+1∧from_≤at_∧n1≤50000∧Hid (SB wr S s t.start t.caps (.func (.func fn) bd cs) n1 nt1 to1)∧Hid (D wr)∧Hid (RowF wr 32 RB 3 (fun j=>#[Value.int .i64 0,.int .i64 0,nilS].getD j (.bool false)))∧Hid (Keeps w wr (fun b=>b=S))∧((at_≤from_∧∃ k,s.size+1+from_=k+at_∧Hid (srM s t (s.size+1) from_ n=srM s t k at_ n1))∨(from_<at_∧Hid (srM s t (s.size+1) from_ n=(none,n1))))) (fun iv _=>s.size+2-ivN iv)
 case atStart=>exact ⟨from_,n,nt,to_,rfl,by omega,Nat.le_refl _,hn,HB,HD,HZ,HK,.inl ⟨hl9,s.size+1,by omega,hide rfl⟩⟩
 case round=>
  clear HB HD HZ HK
  obtain ⟨at_,n1,nt1,to1,rfl,ha,ha2,hn1,HB,HD,HZ,HK,⟨hal,k0,hk0,HO⟩|⟨hal,HO⟩⟩:=hrel
  ·have hal2:(at_:Int)≤(from_:Int):=by omega
   obtain ⟨k,rfl⟩:∃ k,k0=k+1:=⟨k0-1,by omega⟩
   have c3:=HB.out.who
   go_wp2_with fail
   clear c3
   refine (HX.out.ok.go at_ _ (s0 n1) nt1 to1 _ rfl HD.out HB.out (show at_≤s.size by omega) hn1 ⟨by simp,by simp⟩ (fun j hj=>by simp at hj)).mono ?_
   rintro e w2 ⟨hk2,n2,nt2,to2,hb2,hor⟩
   have hstp:=HST.out at_ (s0 n1) hn1
   have hhn:=HHN.out at_ (s0 n1)
   obtain ⟨r,hr⟩:∃ r,tryM s t.place t.items at_ (s0 n1)=r:=⟨_,rfl⟩
   dsimp only at hor
   rw [hr] at hor hstp hhn
   have HRR:=hide hr
   clear hr
   obtain ⟨o,τ⟩:=r
   dsimp only at hor hstp hhn
   have HD2:=hide (HX.out.ok.keep _ _ HD.out hk2)
   have HZ2:=hide (HZ.out.keep hk2 hRM)
   have HK2:=hide (HK.out.trans hk2)
   have HB2:=hide hb2
   clear HB HD HZ HK hk2 hb2
   have HB:=HB2
   have HD:=HD2
   have HZ:=HZ2
   have HK:=HK2
   clear HB2 HD2 HZ2 HK2
   rcases hor with ⟨ht,rfl,h1,h2⟩|⟨ht,⟨x,hx1,hx2⟩,rfl,h1,h2⟩|⟨ht,ho,rfl,h1,h2⟩
   ·have hts:50000<τ.steps:=by unfold Ms.spent at ht;simpa using ht
    have ho:o=none:=by
     cases o with
     |none=>rfl
     |some x=>exact absurd (hhn x hn1 rfl) (Nat.not_le.2 hts)
    subst ho
    have HR:=hide (HO.out.trans (srM_fix (k:=k) ⟨by omega,hn1⟩ HRR.out HST9.out))
    have r0:=HZ.out.cell (j:=0) (by omega)
    have r1:=HZ.out.cell (j:=1) (by omega)
    have r2:=HZ.out.cell (j:=2) (by omega)
    have y0:=HZ.out.frz 0
    have y1:=HZ.out.frz 1
    have y2:=HZ.out.frz 2
    have kf:Keeps w2 (((w2.setCell ⟨RB,0,none⟩ (.int .i64 0)).setCell ⟨RB,1,none⟩ (.int .i64 0)).setCell ⟨RB,2,none⟩ nilS) (fun b=>b=RB):=(((Keeps.refl w2 (fun b=>b=RB)).setCell (S:=fun b=>b=RB) (j:=0) rfl _).setCell (S:=fun b=>b=RB) (j:=1) rfl _).setCell (S:=fun b=>b=RB) (j:=2) rfl _
    have HKf:=hide (HK.out.fresh kf (fun b hb=>.inr (by omega)))
    have HBf:=hide (HB.out.keep kf (fun e=>hRM e.symm))
    have HDf:=hide (HX.out.fresh _ _ RB HD.out kf hRB2)
    clear kf
    go_wp2_with fail
    refine bodyPost_ret (v:=.tuple #[.agg #[.int .i64 0,.int .i64 0,nilS],.int .i64 2]) ?_ rfl ⟨HKf.out,HDf.out,_,_,_,HBf.out,.inl ⟨by rw [HR.out];exact hts,h1,h2,rfl⟩⟩
    simp [results,Tryz.results35,go_sem,r0,r1,r2]
   ·subst hx1 hx2
    have ht5:=spent_no ht
    have HR:=hide (HO.out.trans (srM_hit (k:=k) ⟨by omega,hn1⟩ HRR.out))
    have HAL:=hide (show ∀ j,j<(capsOf t τ).length→(capsOf t τ)[j]?=some (nt2 j) from fun j hj=>by
     have hj2:j<t.caps:=by simpa [capsOf] using hj
     rw [HCP.out nt2 τ h2 j hj2]
     simp [capsOf,hj2])
    have HLN:=hide (show (capsOf t τ).length=t.caps by simp [capsOf])
    subst h1
    have c2:=HB.out.cnt
    have hcc:(t.caps:Int)≤16:=by omega
    have HBd:=hide (HB.out.keep ((Keeps.refl w2 (fun _=>False)).drw) (fun x=>x))
    go_wp2_with fail
    go_region_law (first
     |(have _z:=HBd
       rw [if_pos (by rfl)]
       clear _z
       refine wp_append_own w2.drew _ _ 30 rfl w.heap.size 56 i0 (.agg #[.bool false,.int .i64 0,.int .i64 0]) 3 24 Tryz.underlying30 hi hz0 hz1 hz2 rfl (by omega) (.slice none 0 0) 0 [] rfl ⟨rfl,.inl ⟨rfl,rfl⟩⟩ ⟨S,5,none⟩ t.caps 16 (capC (capsOf t τ)) rfl (by rw [capC_len,HLN.out]) (HBd.out.caps (by rw [HLN.out];exact hc16) HAL.out) (one_caps _) (by unfold maxLen;omega) (by omega) (by have:=HK.out.size;exact this) ?_
       intro v' w5 hown hgrow _
       have k5:Keeps w2 w5 (fun _=>False):=⟨hgrow.os,hgrow.tape,hgrow.output,hgrow.size,fun b hb _=>hgrow.block b hb (by simp [Value.ownBlock])⟩
       rw [Nat.zero_add,List.nil_append] at hown
       obtain ⟨a9,k9,rfl⟩:=owns_val hown
       have HV5:=hide hown
       have HB5:=hide (HB.out.keep k5 (fun x=>x))
       have HD5:=hide (HX.out.new _ _ HD.out k5)
       have HZ5:=hide (HZ.out.keep k5 (fun x=>x))
       have HK5:=hide (HK.out.trans (k5.mono (fun b hb=>hb.elim)))
       clear hown hgrow k5 HBd)
     |fail)
    all_goals
     clear c2
     have r0:=HZ5.out.cell (j:=0) (by omega)
     have r1:=HZ5.out.cell (j:=1) (by omega)
     have r2:=HZ5.out.cell (j:=2) (by omega)
     have y0:=HZ5.out.frz 0
     have y1:=HZ5.out.frz 1
     have y2:=HZ5.out.frz 2
     have c53:=HB5.out.end_
     have kf:Keeps w5 (((w5.setCell ⟨RB,0,none⟩ (.int .i64 at_)).setCell ⟨RB,1,none⟩ (.int .i64 to2)).setCell ⟨RB,2,none⟩ (.slice a9 t.caps k9)) (fun b=>b=RB):=(((Keeps.refl w5 (fun b=>b=RB)).setCell (S:=fun b=>b=RB) (j:=0) rfl _).setCell (S:=fun b=>b=RB) (j:=1) rfl _).setCell (S:=fun b=>b=RB) (j:=2) rfl _
     have HKf:=hide (HK5.out.fresh kf (fun b hb=>.inr (by omega)))
     have HBf:=hide (HB5.out.keep kf (fun e=>hRM e.symm))
     have HDf:=hide (HX.out.fresh _ _ RB HD5.out kf hRB2)
     have HVf:=hide (owns_stay HV5.out (fun g hg=>kf.block g (owns_ltb HV5.out hg).2 (fun e=>by subst e;exact owns_type HV5.out hg HZ5.out (by decide))))
     clear kf
     go_wp2_with fail
     refine bodyPost_ret (v:=.tuple #[.agg #[.int .i64 at_,.int .i64 to2,.slice a9 t.caps k9],.int .i64 1]) ?_ rfl ⟨HKf.out,HDf.out,_,_,_,HBf.out,.inr (.inr ⟨by rw [HR.out];exact ht5,by rw [HR.out],⟨at_,to2,capsOf t τ⟩,.slice a9 t.caps k9,by rw [HR.out],rfl,by rw [HLN.out];exact HVf.out⟩)⟩
     simp [results,Tryz.results35,go_sem,r0,r1,r2]
   ·subst ho h1
    have ht5:=spent_no ht
    have HR:=hide (HO.out.trans (srM_fix (k:=k) ⟨by omega,hn1⟩ HRR.out HST9.out))
    go_wp2_with fail
    go_roundw
    case rel=>exact ⟨at_+1,τ.steps,nt2,to2,by simp,by omega,by omega,ht5,HB,HD,HZ,HK,.inr ⟨by omega,HR⟩⟩
    case measure=>show s.size+2-ivN (.int .i64 _)<s.size+2-ivN (.int .i64 _);simp [ivN];omega
  ·have hal2:¬ ((at_:Int)≤(from_:Int)):=by omega
   have r0:=HZ.out.cell (j:=0) (by omega)
   have r1:=HZ.out.cell (j:=1) (by omega)
   have r2:=HZ.out.cell (j:=2) (by omega)
   have y0:=HZ.out.frz 0
   have y1:=HZ.out.frz 1
   have y2:=HZ.out.frz 2
   have kf:Keeps wr (((wr.setCell ⟨RB,0,none⟩ (.int .i64 0)).setCell ⟨RB,1,none⟩ (.int .i64 0)).setCell ⟨RB,2,none⟩ nilS) (fun b=>b=RB):=(((Keeps.refl wr (fun b=>b=RB)).setCell (S:=fun b=>b=RB) (j:=0) rfl _).setCell (S:=fun b=>b=RB) (j:=1) rfl _).setCell (S:=fun b=>b=RB) (j:=2) rfl _
   have HKf:=hide (HK.out.fresh kf (fun b hb=>.inr (by omega)))
   have HBf:=hide (HB.out.keep kf (fun e=>hRM e.symm))
   have HDf:=hide (HX.out.fresh _ _ RB HD.out kf hRB2)
   clear kf
   go_wp2_with fail
   refine bodyPost_ret (v:=.tuple #[.agg #[.int .i64 0,.int .i64 0,nilS],.int .i64 0]) ?_ rfl ⟨HKf.out,HDf.out,_,_,_,HBf.out,.inr (.inl ⟨by rw [HO.out];exact hn1,by rw [HO.out],by rw [HO.out],rfl⟩)⟩
   simp [results,Tryz.results35,go_sem,r0,r1,r2]
set_option maxHeartbeats 3200000 in
set_option maxRecDepth 100000 in
theorem first_free (X:Sx) (t:Pt) (fn:Nat) (bd cs:Array Value) (D:World→Prop) (from_ n:Nat) (nt:Nt) (to_:Nat) (w:World) (hs:X.s.size≤65536) (hwh:X.wh=.func (.func fn) bd cs) (hfx:X.fx=t.start) (hcn:X.cn=t.caps) (hits:X.its=t.items) (hc16:t.caps≤16)
 (hlen:t.items.length≤200) (hx:WyAll X t.place fn bd cs D w.heap.size) (hcap:∀ nt σ,Ag X.its nt σ→∀ k,k<t.caps→nt k=capAt t σ k) (hD:D w) (hb:SB w X.S X.s X.fx X.cn X.wh n nt to_) (hn:n≤50000) (hf:from_≤X.s.size) (hst9:t.start=false):
 Calls Tryz.prog 35 #[.pointer (some ⟨X.S,0,none⟩),.int .i64 from_] w fun e w'=>FiR X D w (srM X.s t (X.s.size+1) from_ n) e w':=by
 obtain ⟨S,s,fx,cn,wh,its⟩:=X
 dsimp only at *
 subst hwh hfx hcn hits
 obtain ⟨i0,hi,hz0,hz1,hz2⟩:=info_parts Tryz.info56
 have e1:=hx.ok.en
 have hSl:S<w.heap.size:=RowF.lt hb
 have kb:Keeps w (w.alloc (.cells #[Value.int .i64 0,.int .i64 0,nilS] 32)) (fun _=>False):=Keeps.of (b_1 w _) (Nat.le_refl _) _
 have HB:=hide (hb.keep kb (fun x=>x))
 have HD:=hide (hx.new _ _ hD kb)
 have HZ:=hide (show RowF (w.alloc (.cells #[Value.int .i64 0,.int .i64 0,nilS] 32)) 32 w.heap.size 3 (fun j=>#[Value.int .i64 0,.int .i64 0,nilS].getD j (.bool false)) from RowF.mk' w 32 #[Value.int .i64 0,.int .i64 0,nilS])
 have HK:=hide (kb.mono (S':=fun b=>b=S) (fun b hb=>hb.elim))
 have HX:=hide hx
 have HST:=hide (tryM_st s t.place t.items)
 have HHN:=hide (tryM_hn s t.place t.items)
 have HCP:=hide hcap
 have c0:=HB.out.subj
 have c1:=HB.out.fix
 clear hx hcap hD hb kb
 rw [hst9] at c1
 have HST9:=hide hst9
 clear hst9
 have hl9:from_≤s.size:=by omega
 have hl8:s.size≤s.size:=by omega
 go_enter Tryz.func35,Tryz.ntmps35
 go_wp2_with fail
 clear c0 c1
 generalize w.alloc (.cells #[Value.int .i64 0,.int .i64 0,nilS] 32)=w0 at *
 obtain ⟨RB,hRBe⟩:∃ RB,RB=w.heap.size:=⟨_,rfl⟩
 rw [←hRBe] at HZ ⊢
 have hRB:w.heap.size≤RB:=by omega
 have hRB2:w.heap.size≤RB:=hRB
 have hRM:RB≠S:=by omega
 clear hRBe
 go_loopw [7] (fun iv wr=>∃ (at_ n1:Nat) (nt1:Nt) (to1:Nat),iv=.int .i64 at_∧at_≤s.size+1∧from_≤at_∧n1≤50000∧Hid (SB wr S s t.start t.caps (.func (.func fn) bd cs) n1 nt1 to1)∧Hid (D wr)∧Hid (RowF wr 32 RB 3 (fun j=>#[Value.int .i64 0,.int .i64 0,nilS].getD j (.bool false)))∧Hid (Keeps w wr (fun b=>b=S))∧((at_≤s.size∧∃ k,s.size+1+from_=k+at_∧Hid (srM s t (s.size+1) from_ n=srM s t k at_ n1))∨(s.size<at_∧Hid (srM s t (s.size+1) from_ n=(none,n1))))) (fun iv _=>s.size+2-ivN iv)
 case atStart=>exact ⟨from_,n,nt,to_,rfl,by omega,Nat.le_refl _,hn,HB,HD,HZ,HK,.inl ⟨hl9,s.size+1,by omega,hide rfl⟩⟩
 case round=>
  clear HB HD HZ HK
  obtain ⟨at_,n1,nt1,to1,rfl,ha,ha2,hn1,HB,HD,HZ,HK,⟨hal,k0,hk0,HO⟩|⟨hal,HO⟩⟩:=hrel
  ·have hal2:(at_:Int)≤(s.size:Int):=by omega
   obtain ⟨k,rfl⟩:∃ k,k0=k+1:=⟨k0-1,by omega⟩
   have c3:=HB.out.who
   go_wp2_with fail
   clear c3
   refine (HX.out.ok.go at_ _ (s0 n1) nt1 to1 _ rfl HD.out HB.out (show at_≤s.size by omega) hn1 ⟨by simp,by simp⟩ (fun j hj=>by simp at hj)).mono ?_
   rintro e w2 ⟨hk2,n2,nt2,to2,hb2,hor⟩
   have hstp:=HST.out at_ (s0 n1) hn1
   have hhn:=HHN.out at_ (s0 n1)
   obtain ⟨r,hr⟩:∃ r,tryM s t.place t.items at_ (s0 n1)=r:=⟨_,rfl⟩
   dsimp only at hor
   rw [hr] at hor hstp hhn
   have HRR:=hide hr
   clear hr
   obtain ⟨o,τ⟩:=r
   dsimp only at hor hstp hhn
   have HD2:=hide (HX.out.ok.keep _ _ HD.out hk2)
   have HZ2:=hide (HZ.out.keep hk2 hRM)
   have HK2:=hide (HK.out.trans hk2)
   have HB2:=hide hb2
   clear HB HD HZ HK hk2 hb2
   have HB:=HB2
   have HD:=HD2
   have HZ:=HZ2
   have HK:=HK2
   clear HB2 HD2 HZ2 HK2
   rcases hor with ⟨ht,rfl,h1,h2⟩|⟨ht,⟨x,hx1,hx2⟩,rfl,h1,h2⟩|⟨ht,ho,rfl,h1,h2⟩
   ·have hts:50000<τ.steps:=by unfold Ms.spent at ht;simpa using ht
    have ho:o=none:=by
     cases o with
     |none=>rfl
     |some x=>exact absurd (hhn x hn1 rfl) (Nat.not_le.2 hts)
    subst ho
    have HR:=hide (HO.out.trans ((srM_on (k:=k) ⟨by omega,hn1⟩ HRR.out HST9.out).trans (srM_out (by omega))))
    have r0:=HZ.out.cell (j:=0) (by omega)
    have r1:=HZ.out.cell (j:=1) (by omega)
    have r2:=HZ.out.cell (j:=2) (by omega)
    have y0:=HZ.out.frz 0
    have y1:=HZ.out.frz 1
    have y2:=HZ.out.frz 2
    have kf:Keeps w2 (((w2.setCell ⟨RB,0,none⟩ (.int .i64 0)).setCell ⟨RB,1,none⟩ (.int .i64 0)).setCell ⟨RB,2,none⟩ nilS) (fun b=>b=RB):=(((Keeps.refl w2 (fun b=>b=RB)).setCell (S:=fun b=>b=RB) (j:=0) rfl _).setCell (S:=fun b=>b=RB) (j:=1) rfl _).setCell (S:=fun b=>b=RB) (j:=2) rfl _
    have HKf:=hide (HK.out.fresh kf (fun b hb=>.inr (by omega)))
    have HBf:=hide (HB.out.keep kf (fun e=>hRM e.symm))
    have HDf:=hide (HX.out.fresh _ _ RB HD.out kf hRB2)
    clear kf
    go_wp2_with fail
    refine bodyPost_ret (v:=.tuple #[.agg #[.int .i64 0,.int .i64 0,nilS],.int .i64 2]) ?_ rfl ⟨HKf.out,HDf.out,_,_,_,HBf.out,.inl ⟨by rw [HR.out];exact hts,h1,h2,rfl⟩⟩
    simp [results,Tryz.results35,go_sem,r0,r1,r2]
   ·subst hx1 hx2
    have ht5:=spent_no ht
    have HR:=hide (HO.out.trans (srM_hit (k:=k) ⟨by omega,hn1⟩ HRR.out))
    have HAL:=hide (show ∀ j,j<(capsOf t τ).length→(capsOf t τ)[j]?=some (nt2 j) from fun j hj=>by
     have hj2:j<t.caps:=by simpa [capsOf] using hj
     rw [HCP.out nt2 τ h2 j hj2]
     simp [capsOf,hj2])
    have HLN:=hide (show (capsOf t τ).length=t.caps by simp [capsOf])
    subst h1
    have c2:=HB.out.cnt
    have hcc:(t.caps:Int)≤16:=by omega
    have HBd:=hide (HB.out.keep ((Keeps.refl w2 (fun _=>False)).drw) (fun x=>x))
    go_wp2_with fail
    go_region_law (first
     |(have _z:=HBd
       rw [if_pos (by rfl)]
       clear _z
       refine wp_append_own w2.drew _ _ 30 rfl w.heap.size 56 i0 (.agg #[.bool false,.int .i64 0,.int .i64 0]) 3 24 Tryz.underlying30 hi hz0 hz1 hz2 rfl (by omega) (.slice none 0 0) 0 [] rfl ⟨rfl,.inl ⟨rfl,rfl⟩⟩ ⟨S,5,none⟩ t.caps 16 (capC (capsOf t τ)) rfl (by rw [capC_len,HLN.out]) (HBd.out.caps (by rw [HLN.out];exact hc16) HAL.out) (one_caps _) (by unfold maxLen;omega) (by omega) (by have:=HK.out.size;exact this) ?_
       intro v' w5 hown hgrow _
       have k5:Keeps w2 w5 (fun _=>False):=⟨hgrow.os,hgrow.tape,hgrow.output,hgrow.size,fun b hb _=>hgrow.block b hb (by simp [Value.ownBlock])⟩
       rw [Nat.zero_add,List.nil_append] at hown
       obtain ⟨a9,k9,rfl⟩:=owns_val hown
       have HV5:=hide hown
       have HB5:=hide (HB.out.keep k5 (fun x=>x))
       have HD5:=hide (HX.out.new _ _ HD.out k5)
       have HZ5:=hide (HZ.out.keep k5 (fun x=>x))
       have HK5:=hide (HK.out.trans (k5.mono (fun b hb=>hb.elim)))
       clear hown hgrow k5 HBd)
     |fail)
    all_goals
     clear c2
     have r0:=HZ5.out.cell (j:=0) (by omega)
     have r1:=HZ5.out.cell (j:=1) (by omega)
     have r2:=HZ5.out.cell (j:=2) (by omega)
     have y0:=HZ5.out.frz 0
     have y1:=HZ5.out.frz 1
     have y2:=HZ5.out.frz 2
     have c53:=HB5.out.end_
     have kf:Keeps w5 (((w5.setCell ⟨RB,0,none⟩ (.int .i64 at_)).setCell ⟨RB,1,none⟩ (.int .i64 to2)).setCell ⟨RB,2,none⟩ (.slice a9 t.caps k9)) (fun b=>b=RB):=(((Keeps.refl w5 (fun b=>b=RB)).setCell (S:=fun b=>b=RB) (j:=0) rfl _).setCell (S:=fun b=>b=RB) (j:=1) rfl _).setCell (S:=fun b=>b=RB) (j:=2) rfl _
     have HKf:=hide (HK5.out.fresh kf (fun b hb=>.inr (by omega)))
     have HBf:=hide (HB5.out.keep kf (fun e=>hRM e.symm))
     have HDf:=hide (HX.out.fresh _ _ RB HD5.out kf hRB2)
     have HVf:=hide (owns_stay HV5.out (fun g hg=>kf.block g (owns_ltb HV5.out hg).2 (fun e=>by subst e;exact owns_type HV5.out hg HZ5.out (by decide))))
     clear kf
     go_wp2_with fail
     refine bodyPost_ret (v:=.tuple #[.agg #[.int .i64 at_,.int .i64 to2,.slice a9 t.caps k9],.int .i64 1]) ?_ rfl ⟨HKf.out,HDf.out,_,_,_,HBf.out,.inr (.inr ⟨by rw [HR.out];exact ht5,by rw [HR.out],⟨at_,to2,capsOf t τ⟩,.slice a9 t.caps k9,by rw [HR.out],rfl,by rw [HLN.out];exact HVf.out⟩)⟩
     simp [results,Tryz.results35,go_sem,r0,r1,r2]
   ·subst ho h1
    have ht5:=spent_no ht
    have HR:=hide (HO.out.trans (srM_on (k:=k) ⟨by omega,hn1⟩ HRR.out HST9.out))
    go_wp2_with fail
    go_roundw
    case rel=>exact ⟨at_+1,τ.steps,nt2,to2,by simp,by omega,by omega,ht5,HB,HD,HZ,HK,by rcases Nat.lt_or_ge s.size (at_+1) with c|c;exact .inr ⟨c,hide (HR.out.trans (srM_out (by omega)))⟩;exact .inl ⟨c,k,by omega,HR⟩⟩
    case measure=>show s.size+2-ivN (.int .i64 _)<s.size+2-ivN (.int .i64 _);simp [ivN];omega
  ·have hal2:¬ ((at_:Int)≤(s.size:Int)):=by omega
   have r0:=HZ.out.cell (j:=0) (by omega)
   have r1:=HZ.out.cell (j:=1) (by omega)
   have r2:=HZ.out.cell (j:=2) (by omega)
   have y0:=HZ.out.frz 0
   have y1:=HZ.out.frz 1
   have y2:=HZ.out.frz 2
   have kf:Keeps wr (((wr.setCell ⟨RB,0,none⟩ (.int .i64 0)).setCell ⟨RB,1,none⟩ (.int .i64 0)).setCell ⟨RB,2,none⟩ nilS) (fun b=>b=RB):=(((Keeps.refl wr (fun b=>b=RB)).setCell (S:=fun b=>b=RB) (j:=0) rfl _).setCell (S:=fun b=>b=RB) (j:=1) rfl _).setCell (S:=fun b=>b=RB) (j:=2) rfl _
   have HKf:=hide (HK.out.fresh kf (fun b hb=>.inr (by omega)))
   have HBf:=hide (HB.out.keep kf (fun e=>hRM e.symm))
   have HDf:=hide (HX.out.fresh _ _ RB HD.out kf hRB2)
   clear kf
   go_wp2_with fail
   refine bodyPost_ret (v:=.tuple #[.agg #[.int .i64 0,.int .i64 0,nilS],.int .i64 0]) ?_ rfl ⟨HKf.out,HDf.out,_,_,_,HBf.out,.inr (.inl ⟨by rw [HO.out];exact hn1,by rw [HO.out],by rw [HO.out],rfl⟩)⟩
   simp [results,Tryz.results35,go_sem,r0,r1,r2]
end Go.Proofs.YtlgodacccilabaaGreatDoor
