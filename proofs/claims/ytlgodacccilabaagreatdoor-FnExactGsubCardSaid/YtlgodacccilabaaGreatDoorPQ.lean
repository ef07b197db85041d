import Derived.Test.YtlgodacccilabaaGreatDoorJQL
import Derived.Deep.RegionLaw
namespace Go.Proofs.YtlgodacccilabaaGreatDoor
open Go Go.RowKit
set_option linter.unusedVariables false
theorem rdItem_frn {p:ByteArray} {rd:Rd} (h37:hb p rd.pos=37) (h1:rd.pos+1<p.size) (h102:hb p (rd.pos+1)=102) (h2:¬ (rd.pos+2<p.size∧hb p (rd.pos+2)=91)):rdItem p rd=none:=by
 rw [rdItem,if_neg (by omega),if_neg (by omega),if_neg (by simp [isDg];omega),if_neg (by omega),if_pos ⟨h37,h1,h102⟩,if_neg h2]
theorem rdItem_fry {p:ByteArray} {rd:Rd} (h37:hb p rd.pos=37) (h1:rd.pos+1<p.size) (h102:hb p (rd.pos+1)=102) (h2:rd.pos+2<p.size∧hb p (rd.pos+2)=91):rdItem p rd=(rdSet p (rd.pos+2)).map (fun r=>⟨r.2,rd.items++[itEdge r.1],rd.opn,rd.done⟩):=by
 rw [rdItem,if_neg (by omega),if_neg (by omega),if_neg (by simp [isDg];omega),if_neg (by omega),if_pos ⟨h37,h1,h102⟩,if_pos h2]
theorem rdItem_one {p:ByteArray} {rd:Rd} (h40:hb p rd.pos≠40) (h41:hb p rd.pos≠41) (hpc:¬ (hb p rd.pos=37∧rd.pos+1<p.size∧(isDg (hb p (rd.pos+1))=true∨hb p (rd.pos+1)=98∨hb p (rd.pos+1)=102))) (hdo:¬ (hb p rd.pos=36∧¬ rd.pos+1<p.size)):
 rdItem p rd=(rdOne p rd.pos).map (fun r=>if r.2<p.size∧isSign (hb p r.2)=true then ⟨r.2+1,rd.items++[itOne r.1 (hb p r.2)],rd.opn,rd.done⟩ else ⟨r.2,rd.items++[itOne r.1 0],rd.opn,rd.done⟩):=by
 rw [rdItem,if_neg h40,if_neg h41,if_neg (fun x=>hpc ⟨x.1,x.2.1,.inl x.2.2⟩),if_neg (fun x=>hpc ⟨x.1,x.2.1,.inr (.inl x.2.2)⟩),if_neg (fun x=>hpc ⟨x.1,x.2.1,.inr (.inr x.2.2)⟩),if_neg hdo]
theorem RdB.app {w w5:World} {R:Nat} {p:ByteArray} {q:Nat} {b:Bool} {vi vo vd v':Value} (h:RdB w R p q b vi vo vd) (h2:∀ B w0,Below B w0 w→B≤R+1→Below B w0 w5):RdB (w5.setCell ⟨R,3,none⟩ v') R p q b v' vo vd:=
 RdB.items (RowF.low h (h2 _ _ (Below.refl (R+1) w) (Nat.le_refl _)) (Nat.lt_succ_self _))
theorem sign4 {x:Int} (h:isSign x=true):(x==42)=true∨((x==42)=false∧(x==43)=true)∨((x==42)=false∧(x==43)=false∧(x==45)=true)∨((x==42)=false∧(x==43)=false∧(x==45)=false∧(x==63)=true):=by
 have h9:x=42∨x=43∨x=45∨x=63:=by simpa [isSign,or_assoc] using h
 rcases h9 with rfl|rfl|rfl|rfl<;>simp
theorem sign0 {x:Int} (h:¬ isSign x=true):(x==42)=false∧(x==43)=false∧(x==45)=false∧(x==63)=false:=by
 have h9:¬ (x=42∨x=43∨x=45∨x=63):=fun c=>h (by simpa [isSign,or_assoc] using c)
 simp only [beq_eq_false_iff_ne]
 omega
theorem setL_pos {p:ByteArray}:∀ (k:Nat) {f f':Nat→Bool} {a q:Nat} {b:Bool},setL p k f a b=some (f',q)→a<q
 |0,f,f',a,q,b,h=>by simp [setL] at h
 |k+1,f,f',a,q,b,h=>by
  rw [setL] at h
  split at h
  ·cases h
  ·split at h
   ·simp at h;omega
   ·split at h
    ·split at h
     ·have:=setL_pos k h;omega
     ·cases h
    ·split at h
     ·have:=setL_pos k h;omega
     ·have:=setL_pos k h;omega
theorem rdSet_pos {p:ByteArray} {f:Nat→Bool} {a q:Nat} (h:rdSet p a=some (f,q)):a<q:=by
 rw [rdSet] at h
 split at h
 ·cases e:setL p (p.size+1) (fun _=>false) (a+2) true with
  |none=>rw [e] at h;cases h
  |some r=>
   obtain ⟨f9,q9⟩:=r
   rw [e] at h
   simp at h
   have:=setL_pos _ e
   omega
 ·have:=setL_pos _ h;omega
theorem rdOne_pos {p:ByteArray} {f:Nat→Bool} {a q:Nat} (h:rdOne p a=some (f,q)):a<q:=by
 rw [rdOne] at h
 split at h
 ·exact rdSet_pos h
 ·split at h
  ·simp at h;omega
  ·split at h
   ·split at h
    ·simp at h;omega
    ·cases h
   ·simp at h;omega
set_option maxHeartbeats 3200000 in
set_option maxRecDepth 100000 in
theorem item_fro (R:Nat) (p:ByteArray) (rd:Rd) (us:List (It × Value)) (vi vo vd:Value) (w:World) (hp:p.size≤200) (hpos:rd.pos<p.size) (hj:RdJ rd) (hu:us.length≤rd.pos∧rd.opn.length≤rd.pos∧rd.done.length≤rd.pos) (hit:us.map Prod.fst=rd.items) (h:QR w R p rd.pos us rd.opn rd.done vi vo vd) (h37:hb p rd.pos=37) (h1:rd.pos+1<p.size) (h102:hb p (rd.pos+1)=102):
 Calls Tryz.prog 25 #[.pointer (some ⟨R,0,none⟩)] w fun e w'=>ItR R p rd.pos (rdItem p rd) w e w':=by
 obtain ⟨pos,items,opn,done⟩:=rd
 dsimp only at *
 have hu1:=hu.1
 have hu2:=hu.2.1
 have hu3:=hu.2.2
 have HJ:=hide hj
 clear hu hj
 have hRl:=h.lt
 have HQ:=hide h
 clear h
 go_enter Tryz.func25,Tryz.ntmps25
 go_wp2_with fail
 refine (here_in R p pos 0 false vi vo vd w (by omega) (by omega) (by omega) HQ.out.b (by omega)).mono ?_
 rintro e w1 ⟨rfl,hk1⟩
 rw [Nat.add_zero]
 have HQ1:=hide (HQ.out.keep hk1)
 have HB1:=hide (below_keeps (R:=R) hk1 (by omega))
 clear hk1 HQ
 go_wp2_with fail
 refine (here_in R p pos 1 false vi vo vd w1 (by omega) (by omega) (by omega) HQ1.out.b (by omega)).mono ?_
 rintro e w2 ⟨rfl,hk2⟩
 have HQ:=hide (HQ1.out.keep hk2)
 have HB:=hide (HB1.out.trans (below_keeps (R:=R) hk2 (by have:=HB1.out.size;omega)))
 have hs2:R<w2.heap.size:=HQ.out.lt
 clear hk2 HQ1 HB1
 have HRn:=hide (rdItem_frn (rd:=⟨pos,items,opn,done⟩) h37 h1 h102)
 have HRy:=hide (rdItem_fry (rd:=⟨pos,items,opn,done⟩) h37 h1 h102)
 dsimp only at HRn HRy
 have b1:(hb p pos==40)=false:=beq_eq_false_iff_ne.2 (by omega)
 have b2:(hb p pos==41)=false:=beq_eq_false_iff_ne.2 (by omega)
 have b3:(hb p pos==37)=true:=beq_iff_eq.2 h37
 have b5:48≤hb p (pos+1):=by omega
 have b6:¬ hb p (pos+1)≤57:=by omega
 have b7:(hb p (pos+1)==98)=false:=beq_eq_false_iff_ne.2 (by omega)
 have b8:(hb p (pos+1)==102)=true:=beq_iff_eq.2 h102
 clear h37 h102
 have c1:w2.cell? ⟨R,1,none⟩=some (.int .i64 (pos:Int)):=RowF.cell HQ.out.b (j:=1) (by omega)
 have zc1:w2.frozen? ⟨R,1,none⟩=false:=RowF.frz HQ.out.b 1
 go_upto_region 41 with (fail)
 clear c1 zc1
 have HQ9:=hide (HQ.out.posn (pos+2))
 have HB9:=hide (HB.out.setCell (p:=⟨R,1,none⟩) (Nat.le_refl _) (.int .i64 ((pos+2:Nat):Int)))
 rw [show ((pos+2:Nat):Int)=(pos:Int)+2 by omega] at HQ9 HB9
 clear HQ HB
 have HQ:=HQ9
 have HB:=HB9
 clear HQ9 HB9
 generalize w2.setCell ⟨R,1,none⟩ (.int .i64 ((pos:Int)+2))=w3 at *
 have hs2:R<w3.heap.size:=HQ.out.lt
 by_cases h2:pos+2<p.size
 ·go_wp2_with fail
  refine (here_in R p (pos+2) 0 false vi vo vd w3 (by omega) (by omega) (by omega) HQ.out.b (by omega)).mono ?_
  rintro e w4 ⟨rfl,hk4⟩
  rw [Nat.add_zero]
  have HQ4:=hide (HQ.out.keep hk4)
  have HB4:=hide (HB.out.trans (below_keeps (R:=R) hk4 (by omega)))
  clear hk4 HQ HB
  have HQ:=HQ4
  have HB:=HB4
  clear HQ4 HB4
  have hs4:R<w4.heap.size:=HQ.out.lt
  by_cases h91:hb p (pos+2)=91
  ·have HR:=hide (HRy.out ⟨h2,h91⟩)
   have b9:(hb p (pos+2) !=91)=false:=by simp [h91]
   clear h91 HRy HRn
   go_wp2_with fail
   have HQd:=hide (HQ.out.keep ((Keeps.refl w4 _).dr1))
   have HBd:=hide (show Below R w w4.drew from HB.out.drew)
   clear HQ HB
   have c3:w4.drew.cell? ⟨R,3,none⟩=some vi:=RowF.cell HQd.out.b (j:=3) (by omega)
   go_region_law (first
    |(go_simp
      go_at_call 42
      refine (set_any R p (pos+2) vi vo vd _ h2 hp HQd.out.b).mono ?_
      rintro e w6 ⟨hk6,g,he,hg6,hor⟩
      have he':e=.returned (.slice (some ⟨g,0,none⟩) 256 256):=he
      subst he'
      clear he
      have HK6:=hide hk6
      have HG6:=hide hg6
      have HOR:=hide hor
      have HI6:=hide (owns_keep HQd.out.i hk6 (by omega))
      have hs6:R<w6.heap.size:=by have:=hk6.size;have:=HQd.out.lt;omega
      have c6:w6.cell? ⟨R,3,none⟩=some vi:=by
       rcases hor with ⟨f,q,_,h9,_⟩|⟨_,q,_,h9⟩
       ·exact RowF.cell h9 (j:=3) (by omega)
       ·exact RowF.cell h9 (j:=3) (by omega)
      have c66:(w6.alloc (.cells #[.int .i64 6,.slice (some ⟨g,0,none⟩) 256 256,.int .u8 0,.int .i64 0,.int .u8 0,.int .u8 0] 91)).cell? ⟨R,3,none⟩=some vi:=((b_1 w6 _).cell (p:=⟨R,3,none⟩) hs6).trans c6
      clear hk6 hg6 hor)
    |(have _z:=HI6
      rw [if_pos (by rfl)]
      clear _z
      refine app_new_op _ _ 33 91 6 56 _ rfl Tryz.underlying33 Tryz.info91 rfl (by omega) (R+1) vi us.length (itsC us) [.int .i64 6,.slice (some ⟨g,0,none⟩) 256 256,.int .u8 0,.int .i64 0,.int .u8 0,.int .u8 0] HI6.out rfl rfl rfl (one_it (itEdge (fun _=>false)) (some ⟨g,0,none⟩) 256 256) (by omega) (by omega) (by omega) ?_
      intro v' w7 h1' h2' h3'
      obtain ⟨a9,k9,rfl⟩:=owns_val h1'
      have hb7:Below (R+1) w6 w7:=h2' _ _ (Below.refl _ _) (Nat.le_refl _)
      have c7:w7.cell? ⟨R,3,none⟩=some vi:=(hb7.cell (p:=⟨R,3,none⟩) (Nat.lt_succ_self _)).trans c6
      have z7:w7.frozen? ⟨R,3,none⟩=false:=by
       have h9:∃ q b,RdB w6 R p q b vi vo vd:=by
        rcases HOR.out with ⟨f,q,_,h9,_⟩|⟨_,q,_,h9⟩
        ·exact ⟨q,_,h9⟩
        ·exact ⟨q,_,h9⟩
       obtain ⟨q,b,h9⟩:=h9
       exact (RowF.low h9 hb7 (Nat.lt_succ_self _)).frz 3
      have HA1:=hide h1'
      have HA2:=hide h2'
      have HA3:=hide h3'
      clear h1' h2' h3' hb7 HI6))
   all_goals
    have HB7:=hide ((HA2.out R w (HBd.out.trans (Below.of (HK6.out.mono (fun b hb=>by omega)) (by have:=HQd.out.lt;omega))) (by omega)).setCell (p:=⟨R,3,none⟩) (Nat.le_refl _) (.slice a9 (us.length+1) k9))
    clear c3 c6 c66 c7 z7
    go_wp2_with fail
    go_end0
    rcases HOR.out with ⟨f,q,hr,hrd,hset,hq⟩|⟨hr,q,hq,hrd⟩
    ·have hq6:=HQd.out.setR HK6.out hrd
     have hsw:∀ g9,(Value.slice (some ⟨g,0,none⟩) 256 256).ownBlock=some g9→R<g9∧vd.ownBlock≠some g9:=fun g9 h9=>by
      have e9:g=g9:=by simpa [Value.ownBlock] using h9
      subst e9
      have hg:=HG6.out
      refine ⟨by have:=HQd.out.lt;omega,fun h8=>?_⟩
      have:=(owns_blt HQd.out.d h8).2
      omega
     have hpos9:pos<q:=by have:=rdSet_pos hr;omega
     exact ⟨rfl,HB7.out,.inl ⟨⟨q,items++[itEdge f],opn,done⟩,us++[(itEdge f,.slice (some ⟨g,0,none⟩) 256 256)],.slice a9 (us.length+1) k9,vo,vd,by rw [HR.out,hr];rfl,by simp [hit],hq6.app_i (itEdge f,.slice (some ⟨g,0,none⟩) 256 256) (.inr ⟨g,rfl,hset⟩) hsw HA1.out HA2.out HA3.out,hpos9,hq⟩⟩
    ·exact ⟨rfl,HB7.out,.inr ⟨by rw [HR.out,hr];rfl,q,_,_,_,hq,hrd.app HA2.out⟩⟩
  ·have HR:=hide (HRn.out (by rintro ⟨_,x⟩;exact h91 x))
   have b9:(hb p (pos+2) !=91)=true:=by simp [h91]
   clear h91 HRy HRn
   have b2:w4.cell? ⟨R,2,none⟩=some (.bool false):=RowF.cell HQ.out.b (j:=2) (by omega)
   have zb2:w4.frozen? ⟨R,2,none⟩=false:=RowF.frz HQ.out.b 2
   have HBad:=hide (RdB.isBad HQ.out.b)
   have HBb:=hide (HB.out.setCell (p:=⟨R,2,none⟩) (Nat.le_refl _) (.bool true))
   go_wp2_with fail
   refine bodyPost_ret (v:=.tuple #[]) ?_ rfl ⟨rfl,HBb.out,.inr ⟨HR.out,pos+2,vi,vo,vd,by omega,HBad.out⟩⟩
   simp [results,Tryz.results25,go_sem]
 ·have HR:=hide (HRn.out (by rintro ⟨x,_⟩;exact h2 x))
  go_wp2_with fail
  refine (here_out R p (pos+2) 0 false vi vo vd w3 (by omega) (by omega) (by omega) HQ.out.b (by omega)).mono ?_
  rintro e w4 ⟨rfl,hk4⟩
  have HQ4:=hide (HQ.out.keep hk4)
  have HB4:=hide (HB.out.trans (below_keeps (R:=R) hk4 (by omega)))
  clear hk4 HQ HB
  have HQ:=HQ4
  have HB:=HB4
  clear HQ4 HB4
  have b2:w4.cell? ⟨R,2,none⟩=some (.bool false):=RowF.cell HQ.out.b (j:=2) (by omega)
  have zb2:w4.frozen? ⟨R,2,none⟩=false:=RowF.frz HQ.out.b 2
  have HBad:=hide (RdB.isBad HQ.out.b)
  have HBb:=hide (HB.out.setCell (p:=⟨R,2,none⟩) (Nat.le_refl _) (.bool true))
  go_wp2_with fail
  refine bodyPost_ret (v:=.tuple #[]) ?_ rfl ⟨rfl,HBb.out,.inr ⟨HR.out,pos+2,vi,vo,vd,by omega,HBad.out⟩⟩
  simp [results,Tryz.results25,go_sem]
end Go.Proofs.YtlgodacccilabaaGreatDoor
