import Derived.Test.YtlgodacccilabaaGreatDoorQT
import Derived.Test.YtlgodacccilabaaGreatDoorJQQ
namespace Go.Proofs.YtlgodacccilabaaGreatDoor
open Go Go.RowKit Go.Shelf
set_option linter.unusedVariables false
theorem prefB_lit (a:ByteArray) (l:List UInt8):prefB a ⟨l.toArray⟩=true↔l.length≤a.size∧∀ k (h:k<l.length),hb a k=((l[k].toNat:Nat):Int):=by
 unfold prefB
 rw [decide_eq_true_iff]
 constructor
 ·rintro ⟨h1,h2⟩
  have h1':l.length≤a.size:=h1
  refine ⟨h1',fun k hk=>?_⟩
  rw [hb_in (by omega)]
  have h3:=congrArg (fun b:ByteArray=>b.data[k]?) h2
  simp only [ByteArray.data_extract] at h3
  have hs:(⟨l.toArray⟩:ByteArray).size=l.length:=rfl
  rw [hs,Array.getElem?_extract_of_lt (by simp;omega)] at h3
  simp [hk] at h3
  have h4:k<a.data.size:=by have:a.data.size=a.size:=rfl;omega
  have h5:a[k]=l[k]:=h3
  rw [h5]
 ·rintro ⟨h1,h2⟩
  refine ⟨h1,?_⟩
  apply ByteArray.ext
  have hs:(⟨l.toArray⟩:ByteArray).size=l.length:=rfl
  rw [hs,ByteArray.data_extract]
  apply Array.ext
  ·simp;have:a.data.size=a.size:=rfl;omega
  ·intro k h3 h4
   have hk:k<l.length:=by simpa using h4
   have h5:=h2 k hk
   rw [hb_in (by omega)] at h5
   rw [Array.getElem_extract]
   have h6:a[k].toNat=l[k].toNat:=by omega
   have h7:a[k]=l[k]:=UInt8.toNat_inj.1 h6
   simp
   exact h7
theorem ext_ext {p:ByteArray} {pos k:Nat} (h:pos+k≤p.size):(p.extract pos p.size).extract k (p.extract pos p.size).size=p.extract (pos+k) p.size:=by
 rw [ByteArray.extract_extract]
 congr 1
 simp
 omega
theorem ext_size {p:ByteArray} {pos:Nat}:(p.extract pos p.size).size=p.size-pos:=by simp
def PQ (w:World) (R:Nat) (p:ByteArray) (pos:Nat) (vi vo vc:Value):Prop:=pos≤p.size∧PR w R (p.extract pos p.size) vi vo vc
theorem PQ.keep {w w':World} {R:Nat} {p:ByteArray} {pos:Nat} {vi vo vc:Value} {S:Nat→Prop} (h:PQ w R p pos vi vo vc) (k:Keeps w w' S) (hn:¬ S R):PQ w' R p pos vi vo vc:=⟨h.1,RowF.keep h.2 k hn⟩
theorem LtT.keep {w w':World} {S:Nat→Prop} (h:LtT w) (k:Keeps w w' S) (h0:1<w.heap.size) (hn:¬ S 1):LtT w':=fun j v hv=>(World.cell?_of_block (a:=⟨1,0+j,none⟩) (k.block 1 h0 hn)).trans (h j v hv)
theorem takeByte_q (R:Nat) (p:ByteArray) (pos:Nat) (vi vo vc:Value) (w:World) (hr:pos<p.size) (hl:p.size≤1000) (h:PQ w R p pos vi vo vc):
 Calls Tryz.prog 70 #[.pointer (some ⟨R,0,none⟩)] w fun e w'=>e=.returned (.int .u8 (hb p pos))∧PQ w' R p (pos+1) vi vo vc∧Keeps w w' (fun b=>b=R):=by
 refine (takeByte_any R _ vi vo vc w (by rw [ext_size];omega) (by rw [ext_size];omega) h.2).mono ?_
 rintro e w' ⟨rfl,h1,h2⟩
 rw [ext_ext (by omega)] at h1
 exact ⟨by rw [hb_ext];rfl,⟨by omega,h1⟩,h2⟩
def stA (p:ByteArray) (pos:Nat) (l:List UInt8):Bool:=prefB (p.extract pos p.size) ⟨l.toArray⟩
theorem st_one {p:ByteArray} {pos:Nat} {x:UInt8}:stA p pos [x]=decide (pos<p.size∧hb p pos=((x.toNat:Nat):Int)):=by
 rw [Bool.eq_iff_iff,decide_eq_true_iff]
 unfold stA
 rw [prefB_lit,ext_size]
 constructor
 ·rintro ⟨h1,h2⟩
  have h1':1≤p.size-pos:=h1
  have h3:=h2 0 (by simp)
  rw [hb_ext] at h3
  exact ⟨by omega,h3⟩
 ·rintro ⟨h1,h2⟩
  refine ⟨by show 1≤_;omega,fun k hk=>?_⟩
  have hk':k<1:=hk
  obtain rfl:k=0:=by omega
  rw [hb_ext]
  exact h2
theorem st_two {p:ByteArray} {pos:Nat} {x y:UInt8}:stA p pos [x,y]=decide (pos+1<p.size∧hb p pos=((x.toNat:Nat):Int)∧hb p (pos+1)=((y.toNat:Nat):Int)):=by
 rw [Bool.eq_iff_iff,decide_eq_true_iff]
 unfold stA
 rw [prefB_lit,ext_size]
 constructor
 ·rintro ⟨h1,h2⟩
  have h1':2≤p.size-pos:=h1
  have h3:=h2 0 (by simp)
  have h4:=h2 1 (by simp)
  rw [hb_ext] at h3 h4
  exact ⟨by omega,h3,h4⟩
 ·rintro ⟨h1,h2,h3⟩
  refine ⟨by show 2≤_;omega,fun k hk=>?_⟩
  have hk':k<2:=hk
  rw [hb_ext]
  rcases (show k=0∨k=1 by omega) with rfl|rfl
  ·exact h2
  ·exact h3
theorem takes_q (R:Nat) (p:ByteArray) (pos:Nat) (l:List UInt8) (vi vo vc:Value) (w:World) (hl:p.size≤1000) (hl2:l.length≤1000) (h:PQ w R p pos vi vo vc):
 Calls Tryz.prog 18 #[.pointer (some ⟨R,0,none⟩),.string ⟨l.toArray⟩] w fun e w'=>e=.returned (.bool (stA p pos l))∧PQ w' R p (if stA p pos l=true then pos+l.length else pos) vi vo vc∧Keeps w w' (fun b=>b=R):=by
 refine (takes_any R _ ⟨l.toArray⟩ vi vo vc w (by rw [ext_size];omega) hl2 h.2).mono ?_
 rintro e w' ⟨rfl,h1,h2⟩
 refine ⟨rfl,?_,h2⟩
 by_cases hs:stA p pos l=true
 ·rw [if_pos hs]
  have h3:=(prefB_lit _ _).1 hs
  rw [ext_size] at h3
  have hp:pos≤p.size:=h.1
  rw [cutB_yes hs,show (⟨l.toArray⟩:ByteArray).size=l.length from rfl,ext_ext (by omega)] at h1
  exact ⟨by omega,h1⟩
 ·rw [if_neg hs]
  rw [cutB_no (by simpa [stA] using hs)] at h1
  exact ⟨h.1,h1⟩
def ClO (w':World) (R:Nat) (p:ByteArray) (vi vo vc:Value) (e:Ending):Option ((Nat→Bool) × Nat)→Prop
 |none=>∃ f,e=.returned (.tuple #[.agg (clC f),.bool false])
 |some (g,pos)=>e=.returned (.tuple #[.agg (clC g),.bool true])∧PQ w' R p pos vi vo vc
end Go.Proofs.YtlgodacccilabaaGreatDoor
namespace Go.Proofs.YtlgodacccilabaaGreatDoor
open Go Go.RowKit Go.Shelf
set_option linter.unusedVariables false
def escM (p:ByteArray) (pos:Nat):Option ((Nat→Bool) × Nat):=
 if pos<p.size∧escOk (hb p pos)=true then some (fun c=>escIn (hb p pos) (c:Int),pos+1) else none
theorem cl_end {fn:Func} {p u R:Nat} (hf:fn.results=#[.cell p 136,.tmp u]) (tmps:Array Value) (w:World) (b:Bool) {f0 f:Nat→Bool} {q:Array Value} (hp:tmps.getD p undef=.pointer (some ⟨R,0,none⟩)) (hb:tmps.getD u undef=.bool b) (h:ClF w R f0) (hq:clC f=q):
 (results fn tmps).run Tryz.prog (w.setCells R 0 q.toList)=.ok (.tuple #[.agg (clC f),.bool b]) (w.setCells R 0 q.toList):=
 res_cl hf tmps _ b hp hb (by rw [←hq];exact cl_set h _)
theorem keeps_setCells {w:World} {S:Nat→Prop}:∀ (vs:List Value) (o g:Nat) {w':World},w.heap.size≤g→Keeps w w' S→Keeps w (w'.setCells g o vs) S
 | [],_,_,_,_,h=>h
 |v::r,o,g,w',hg,h=>by
  rw [World.setCells]
  exact keeps_setCells r (o+1) g hg (h.past hg v)
theorem pq_setCells {w:World} {R:Nat} {p:ByteArray} {pos:Nat} {vi vo vc:Value} (h:PQ w R p pos vi vo vc) (g:Nat) (hn:R≠g) (vs:List Value):PQ (w.setCells g 0 vs) R p pos vi vo vc:=⟨h.1,row_setCells_other g hn vs 0 w h.2⟩
theorem ext_empty {p:ByteArray} {pos:Nat} (h:p.size≤pos):p.extract pos p.size=⟨#[]⟩:=by
 have:(p.extract pos p.size).size=0:=by rw [ext_size];omega
 exact ByteArray.ext (Array.eq_empty_of_size_eq_zero this)
theorem ext_ne {p:ByteArray} {pos:Nat} (h:pos<p.size):(p.extract pos p.size).toList.isEmpty=false:=by
 rw [ByteArray.toList_eq]
 have h1:(p.extract pos p.size).size=p.size-pos:=ext_size
 have h2:(p.extract pos p.size).data.toList.length=p.size-pos:=h1
 cases hl:(p.extract pos p.size).data.toList with
 |nil=>rw [hl] at h2;simp at h2;omega
 |cons a r=>rfl
set_option maxHeartbeats 1600000 in
set_option maxRecDepth 100000 in
theorem escaped_any (R:Nat) (p:ByteArray) (pos:Nat) (vi vo vc:Value) (w:World) (hps:p.size≤1000) (hl:LtT w) (hR:1<R) (h:PQ w R p pos vi vo vc):
 Calls Tryz.prog 90 #[.pointer (some ⟨R,0,none⟩)] w fun e w'=>ClO w' R p vi vo vc e (escM p pos)∧Keeps w w' (fun b=>b=R):=by
 have hRl:R<w.heap.size:=RowF.lt h.2
 have hz:=zero_cl
 obtain ⟨z,hze⟩:∃ z,clC (fun _=>false)=z:=⟨_,rfl⟩
 rw [hze] at hz
 have hA:=clC_row (f:=fun _=>false) (w:=w.alloc (.cells z 136)) (g:=w.heap.size) (by rw [hze];exact heap_alloc_new w _)
 have hk0:Keeps w (w.alloc (.cells z 136)) (fun b=>b=R):=Keeps.of (b_1 w _) (Nat.le_refl _) _
 have hq0:PQ (w.alloc (.cells z 136)) R p pos vi vo vc:=h.keep (Keeps.of (b_1 w (.cells z 136)) (Nat.le_refl _) (fun _=>False)) (fun x=>x)
 have hl0:=hl.low (b_1 w (.cells z 136)) (by omega)
 have c:(w.alloc (.cells z 136)).cell? ⟨R,0,none⟩=some (.string (p.extract pos p.size)):=RowF.cell hq0.2 (j:=0) (by omega)
 have hzs:z.size=256:=by rw [←hze];exact clC_size _
 have HZ:=hide hze
 have hst0:=sc_cl hA hze
 have hsz:(w.alloc (.cells z 136)).heap.size=w.heap.size+1:=by simp
 have H0:=hide (And.intro hA (And.intro hk0 (And.intro hq0 (And.intro hl0 hsz))))
 have H:=hide h
 clear h hl hA hk0 hq0 hl0 hze hsz
 go_enter Tryz.func90,Tryz.ntmps90
 go_upto_region 1 with fail
 generalize w.alloc (.cells z 136)=w0 at c hst0 H0 ⊢
 by_cases hs:pos<p.size
 ·have hne:=ext_ne hs
  generalize p.extract pos p.size=rs at c hne
  go_wp2_with fail
  refine (takeByte_q R p pos vi vo vc w0 hs hps H0.out.2.2.1).mono ?_
  rintro e w1 ⟨rfl,hq1,hk1⟩
  have H1:=hide (And.intro hq1 (And.intro hk1 (And.intro (H0.out.2.2.2.1.keep hk1 (by rw [H0.out.2.2.2.2];omega) (by omega)) (RowF.keep H0.out.1 hk1 (by omega)))))
  clear hq1 hk1
  go_wp2_with fail
  refine (escapedClass_any (hb p pos) w1 (hb_rng p pos) H1.out.2.2.1 (by have:=H1.out.2.1.size;have:=H0.out.2.2.2.2;omega)).mono ?_
  rintro e w2 ⟨⟨f,rfl,hf⟩,hb2⟩
  obtain ⟨q,hqe⟩:∃ q,clC f=q:=⟨_,rfl⟩
  have hcl:=RowF.low H1.out.2.2.2 hb2 (RowF.lt H1.out.2.2.2)
  have hst:=sc_cl hcl hqe
  have hqs:q.size=256:=by rw [←hqe];exact clC_size _
  rw [hqe]
  have hk2:Keeps w w2 (fun b=>b=R):=(H0.out.2.1.trans H1.out.2.1).trans (Keeps.of hb2 (Nat.le_refl _) _)
  have HE:=hide (And.intro hqe (And.intro hcl (And.intro hk2 (And.intro (H1.out.1.keep (Keeps.of hb2 (Nat.le_refl _) (fun _=>False)) (fun x=>x)) hf))))
  clear hqe hcl hk2 hb2 hf
  obtain ⟨b,hbe⟩:∃ b,escOk (hb p pos)=b:=⟨_,rfl⟩
  have HB:=hide hbe
  rw [hbe]
  clear hbe
  go_wp2_with fail
  refine bodyPost_ret (cl_end rfl _ _ b rfl rfl HE.out.2.1 HE.out.1) rfl ⟨?_,keeps_setCells _ 0 _ (Nat.le_refl _) HE.out.2.2.1⟩
  unfold escM
  cases b with
  |true=>
   rw [if_pos ⟨hs,HB.out⟩]
   exact ⟨by rw [clC_congr (HE.out.2.2.2.2 HB.out)],pq_setCells HE.out.2.2.2.1 _ (by omega) _⟩
  |false=>
   rw [if_neg (fun x=>by rw [HB.out] at x;exact absurd x.2 (by simp))]
   exact ⟨_,rfl⟩
 ·have hem:=ext_empty (p:=p) (pos:=pos) (by omega)
  rw [hem] at c
  clear hem
  go_wp2_with fail
  refine bodyPost_ret (cl_end rfl _ _ false rfl rfl H0.out.1 HZ.out) rfl ⟨?_,keeps_setCells _ 0 _ (Nat.le_refl _) H0.out.2.1⟩
  unfold escM
  rw [if_neg (fun x=>hs x.1)]
  exact ⟨_,rfl⟩
end Go.Proofs.YtlgodacccilabaaGreatDoor
namespace Go.Proofs.YtlgodacccilabaaGreatDoor
open Go Go.RowKit Go.Shelf
set_option linter.unusedVariables false
def pcM (p:ByteArray) (pos:Nat):Option ((Nat→Bool) × Nat):=
 if ¬ pos<p.size then none
 else if hb p pos=37 then escM p (pos+1)
 else if pos+2<p.size∧hb p (pos+1)=45∧hb p (pos+2)≠93∧hb p (pos+2)≠37 then some (fun c=>decide (hb p pos≤c)&&decide ((c:Int)≤hb p (pos+2)),pos+3)
 else some (fun c=>decide ((c:Int)=hb p pos),pos+1)
theorem isRg_q {p:ByteArray} {pos:Nat}:isRg (p.extract (pos+1) p.size)=decide (pos+2<p.size∧hb p (pos+1)=45∧hb p (pos+2)≠93∧hb p (pos+2)≠37):=by
 unfold isRg
 rw [hb_ext,hb_ext,ext_size,Bool.eq_iff_iff,show pos+1+0=pos+1 from rfl,show pos+1+1=pos+2 from rfl]
 simp
 constructor
 ·rintro ⟨⟨⟨h1,h2⟩,h3⟩,h4⟩;exact ⟨by omega,h2,h4,h3⟩
 ·rintro ⟨h1,h2,h3,h4⟩;exact ⟨⟨⟨by omega,h2⟩,h4⟩,h3⟩
theorem btw_one (x:Int) (h:0≤x):clC (btw x.toNat x.toNat)=clC (fun c=>decide ((c:Int)=x)):=clC_congr (fun c _=>by simp only [btw];rw [Bool.eq_iff_iff];simp;omega)
theorem btw_two (x y:Int) (hx:0≤x) (hy:0≤y):clC (btw x.toNat y.toNat)=clC (fun c=>decide (x≤(c:Int))&&decide ((c:Int)≤y)):=clC_congr (fun c _=>by simp only [btw];rw [Bool.eq_iff_iff];simp;omega)
set_option maxHeartbeats 1600000 in
set_option maxRecDepth 100000 in
theorem piece_any (R:Nat) (p:ByteArray) (pos:Nat) (vi vo vc:Value) (w:World) (hps:p.size≤1000) (hl:LtT w) (hR:1<R) (h:PQ w R p pos vi vo vc):
 Calls Tryz.prog 86 #[.pointer (some ⟨R,0,none⟩)] w fun e w'=>ClO w' R p vi vo vc e (pcM p pos)∧Keeps w w' (fun b=>b=R):=by
 have hRl:R<w.heap.size:=RowF.lt h.2
 have hz:=zero_cl
 obtain ⟨z,hze⟩:∃ z,clC (fun _=>false)=z:=⟨_,rfl⟩
 rw [hze] at hz
 have hA:=clC_row (f:=fun _=>false) (w:=w.alloc (.cells z 136)) (g:=w.heap.size) (by rw [hze];exact heap_alloc_new w _)
 have hk0:Keeps w (w.alloc (.cells z 136)) (fun b=>b=R):=Keeps.of (b_1 w _) (Nat.le_refl _) _
 have hq0:PQ (w.alloc (.cells z 136)) R p pos vi vo vc:=h.keep (Keeps.of (b_1 w (.cells z 136)) (Nat.le_refl _) (fun _=>False)) (fun x=>x)
 have hl0:=hl.low (b_1 w (.cells z 136)) (by omega)
 have c:(w.alloc (.cells z 136)).cell? ⟨R,0,none⟩=some (.string (p.extract pos p.size)):=RowF.cell hq0.2 (j:=0) (by omega)
 have hzs:z.size=256:=by rw [←hze];exact clC_size _
 have HZ:=hide hze
 have hst0:=sc_cl hA hze
 have hsz:(w.alloc (.cells z 136)).heap.size=w.heap.size+1:=by simp
 have H0:=hide (And.intro hA (And.intro hk0 (And.intro hq0 (And.intro hl0 hsz))))
 clear h hl hA hk0 hq0 hl0 hze hsz
 go_enter Tryz.func86,Tryz.ntmps86
 go_upto_region 1 with fail
 generalize w.alloc (.cells z 136)=w0 at c hst0 H0 ⊢
 by_cases hs:pos<p.size
 ·have hne:=ext_ne hs
  generalize p.extract pos p.size=rs at c hne
  go_wp2_with fail
  refine (takeByte_q R p pos vi vo vc w0 hs hps H0.out.2.2.1).mono ?_
  rintro e w1 ⟨rfl,hq1,hk1⟩
  have H1:=hide (And.intro hq1 (And.intro hk1 (And.intro (H0.out.2.2.2.1.keep hk1 (by rw [H0.out.2.2.2.2];omega) (by omega)) (RowF.keep H0.out.1 hk1 (by omega)))))
  clear hq1 hk1 c hst0 hne
  have HRg:=hide (hb_rng p pos)
  by_cases h37:hb p pos=37
  ·have HPc:=hide (show pcM p pos=escM p (pos+1) by unfold pcM;rw [if_neg (fun x=>x hs),if_pos h37])
   go_wp2_with fail
   refine (escaped_any R p (pos+1) vi vo vc w1 hps H1.out.2.2.1 hR H1.out.1).mono ?_
   rintro e w2 ⟨ho,hk2⟩
   have hcl:=RowF.keep H1.out.2.2.2 hk2 (by omega)
   cases hm:escM p (pos+1) with
   |none=>
    rw [hm] at ho
    obtain ⟨f,rfl⟩:=ho
    obtain ⟨q,hqe⟩:∃ q,clC f=q:=⟨_,rfl⟩
    have hst:=sc_cl hcl hqe
    have hqs:q.size=256:=by rw [←hqe];exact clC_size _
    rw [hqe]
    have HE:=hide (And.intro hqe (And.intro hcl (And.intro ((H0.out.2.1.trans H1.out.2.1).trans hk2) hm)))
    clear hqe hcl hk2 hm
    go_wp2_with fail
    refine bodyPost_ret (cl_end rfl _ _ false rfl rfl HE.out.2.1 HE.out.1) rfl ⟨?_,keeps_setCells _ 0 _ (Nat.le_refl _) HE.out.2.2.1⟩
    rw [HPc.out,HE.out.2.2.2]
    exact ⟨_,rfl⟩
   |some r=>
    obtain ⟨g,pos'⟩:=r
    rw [hm] at ho
    obtain ⟨rfl,hq2⟩:=ho
    obtain ⟨q,hqe⟩:∃ q,clC g=q:=⟨_,rfl⟩
    have hst:=sc_cl hcl hqe
    have hqs:q.size=256:=by rw [←hqe];exact clC_size _
    rw [hqe]
    have HE:=hide (And.intro hqe (And.intro hcl (And.intro ((H0.out.2.1.trans H1.out.2.1).trans hk2) (And.intro hm hq2))))
    clear hqe hcl hk2 hm hq2
    go_wp2_with fail
    refine bodyPost_ret (cl_end rfl _ _ true rfl rfl HE.out.2.1 HE.out.1) rfl ⟨?_,keeps_setCells _ 0 _ (Nat.le_refl _) HE.out.2.2.1⟩
    rw [HPc.out,HE.out.2.2.2.1]
    exact ⟨rfl,pq_setCells HE.out.2.2.2.2 _ (by omega) _⟩
  ·go_wp2_with fail
   refine (isRange_any R _ vi vo vc w1 (by rw [ext_size];omega) H1.out.1.2).mono ?_
   rintro e w2 ⟨rfl,hw⟩
   obtain rfl:=hw.symm
   rw [isRg_q]
   by_cases hrg:pos+2<p.size∧hb p (pos+1)=45∧hb p (pos+2)≠93∧hb p (pos+2)≠37
   ·have HPc:=hide (show pcM p pos=some (fun c:Nat=>decide (hb p pos≤(c:Int))&&decide ((c:Int)≤hb p (pos+2)),pos+3) by unfold pcM;rw [if_neg (fun x=>x hs),if_neg h37,if_pos hrg])
    have hp2:pos+2<p.size:=hrg.1
    rw [decide_eq_true hrg]
    clear hrg
    go_wp2_with fail
    refine (takeByte_q R p (pos+1) vi vo vc w1 (by omega) hps H1.out.1).mono ?_
    rintro e w2 ⟨rfl,hq2,hk2⟩
    have H2:=hide (And.intro hq2 (And.intro (H1.out.2.1.trans hk2) (RowF.keep H1.out.2.2.2 hk2 (by omega))))
    clear hq2 hk2
    go_wp2_with fail
    refine (takeByte_q R p (pos+2) vi vo vc w2 (by omega) hps H2.out.1).mono ?_
    rintro e w3 ⟨rfl,hq3,hk3⟩
    have H3:=hide (And.intro hq3 (And.intro (H2.out.2.1.trans hk3) (RowF.keep H2.out.2.2 hk3 (by omega))))
    have HRg2:=hide (hb_rng p (pos+2))
    clear hq3 hk3
    go_wp2_with fail
    refine (between_any (hb p pos).toNat (hb p (pos+2)).toNat (hb p pos) (hb p (pos+2)) (by have:=HRg.out;omega) (by have:=HRg2.out;omega) (by have:=HRg.out;omega) (by have:=HRg2.out;omega) w3).mono ?_
    rintro e w4 ⟨rfl,hb4⟩
    obtain ⟨q,hqe⟩:∃ q,clC (btw (hb p pos).toNat (hb p (pos+2)).toNat)=q:=⟨_,rfl⟩
    have hcl:=RowF.low H3.out.2.2 hb4 (RowF.lt H3.out.2.2)
    have hst:=sc_cl hcl hqe
    have hqs:q.size=256:=by rw [←hqe];exact clC_size _
    rw [hqe]
    have HE:=hide (And.intro hqe (And.intro hcl (And.intro ((H0.out.2.1.trans H3.out.2.1).trans (Keeps.of hb4 (Nat.le_refl _) _)) (H3.out.1.keep (Keeps.of hb4 (Nat.le_refl _) (fun _=>False)) (fun x=>x)))))
    clear hqe hcl hb4
    go_wp2_with fail
    refine bodyPost_ret (cl_end rfl _ _ true rfl rfl HE.out.2.1 HE.out.1) rfl ⟨?_,keeps_setCells _ 0 _ (Nat.le_refl _) HE.out.2.2.1⟩
    rw [HPc.out]
    exact ⟨by rw [btw_two _ _ HRg.out.1 HRg2.out.1],pq_setCells HE.out.2.2.2 _ (by omega) _⟩
   ·have HPc:=hide (show pcM p pos=some (fun c:Nat=>decide ((c:Int)=hb p pos),pos+1) by unfold pcM;rw [if_neg (fun x=>x hs),if_neg h37,if_neg hrg])
    rw [decide_eq_false hrg]
    clear hrg
    go_wp2_with fail
    refine (between_any (hb p pos).toNat (hb p pos).toNat (hb p pos) (hb p pos) (by have:=HRg.out;omega) (by have:=HRg.out;omega) (by have:=HRg.out;omega) (by have:=HRg.out;omega) w1).mono ?_
    rintro e w4 ⟨rfl,hb4⟩
    obtain ⟨q,hqe⟩:∃ q,clC (btw (hb p pos).toNat (hb p pos).toNat)=q:=⟨_,rfl⟩
    have hcl:=RowF.low H1.out.2.2.2 hb4 (RowF.lt H1.out.2.2.2)
    have hst:=sc_cl hcl hqe
    have hqs:q.size=256:=by rw [←hqe];exact clC_size _
    rw [hqe]
    have HE:=hide (And.intro hqe (And.intro hcl (And.intro ((H0.out.2.1.trans H1.out.2.1).trans (Keeps.of hb4 (Nat.le_refl _) _)) (H1.out.1.keep (Keeps.of hb4 (Nat.le_refl _) (fun _=>False)) (fun x=>x)))))
    clear hqe hcl hb4
    go_wp2_with fail
    refine bodyPost_ret (cl_end rfl _ _ true rfl rfl HE.out.2.1 HE.out.1) rfl ⟨?_,keeps_setCells _ 0 _ (Nat.le_refl _) HE.out.2.2.1⟩
    rw [HPc.out]
    exact ⟨by rw [btw_one _ HRg.out.1],pq_setCells HE.out.2.2.2 _ (by omega) _⟩
 ·have hem:=ext_empty (p:=p) (pos:=pos) (by omega)
  rw [hem] at c
  clear hem
  go_wp2_with fail
  refine bodyPost_ret (cl_end rfl _ _ false rfl rfl H0.out.1 HZ.out) rfl ⟨?_,keeps_setCells _ 0 _ (Nat.le_refl _) H0.out.2.1⟩
  unfold pcM
  rw [if_pos hs]
  exact ⟨_,rfl⟩
end Go.Proofs.YtlgodacccilabaaGreatDoor
