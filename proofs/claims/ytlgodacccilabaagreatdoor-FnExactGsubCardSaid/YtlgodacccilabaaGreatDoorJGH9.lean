import Derived.Test.YtlgodacccilabaaGreatDoorPR
import Derived.Test.YtlgodacccilabaaGreatDoorPP
import Derived.Test.YtlgodacccilabaaGreatDoorJQZ4
import Derived.Test.YtlgodacccilabaaGreatDoorJGH3
import Derived.Lib.Builder
import Derived.Shelf.Strings.BuilderX
import Derived.Laws.Externs
namespace Go.Proofs.YtlgodacccilabaaGreatDoor
open Go Go.RowKit
set_option linter.unusedVariables false
def ChR (s p:ByteArray) (w:World) (e:Ending) (w':World):Prop:=
 Below w.heap.size w w'∧((65536<s.size∧e=.returned (.tuple #[.pointer none,.int .i64 1]))∨(s.size≤65536∧rdPat p=none∧e=.returned (.tuple #[.pointer none,.int .i64 2]))∨
  ∃ t us vi vp M,s.size≤65536∧rdPat p=some t∧e=.returned (.tuple #[.pointer (some ⟨M,0,none⟩),.int .i64 0])∧w.heap.size≤M∧MB w' M s t us vi vp 0∧ItsOk t us∧us.map Prod.fst=t.items)
set_option maxHeartbeats 1600000 in
set_option maxRecDepth 100000 in
theorem check_any (s p:ByteArray) (w:World) (hs:s.size≤1048576) (hp:p.size≤1048576):
 Calls Tryz.prog 6 #[.string s,.string p] w fun e w'=>ChR s p w e w':=by
 by_cases hbig:s.size≤65536
 ·have hb2:¬ ((65536:Int)<(s.size:Int)):=by omega
  go_enter Tryz.func6,Tryz.ntmps6
  go_wp2_with fail
  refine (read_any p w hp).mono ?_
  rintro e w1 ⟨hb1,⟨hr,rfl⟩|⟨t,us,a1,c1,a2,c2,hr,rfl,hit,hl,hi,hpp,hss⟩⟩
  ·have HB:=hide ((hb1.alloc hb1.size (.cells #[nilS,nilS,.bool false] 36)))
   have HR:=hide hr
   clear hb1 hr
   go_wp2_with fail
   refine bodyPost_ret (v:=.tuple #[.pointer none,.int .i64 2]) ?_ rfl ⟨HB.out,.inr (.inl ⟨hbig,HR.out,rfl⟩)⟩
   simp [results,Tryz.results6,go_sem]
  ·have hw:=rdPat_wf hr
   have HO:=hide (show ItsOk t us from ⟨by rw [hit];exact hw.1,hw.2.1,hl,by rw [hit];exact hw.2.2⟩)
   have k1:Keeps w1 (w1.alloc (.cells #[.slice a1 us.length c1,.slice a2 t.caps c2,.bool t.start] 36)) (fun _=>False):=Keeps.of (b_1 w1 _) (Nat.le_refl _) _
   have k2:Keeps w1 ((w1.alloc (.cells #[.slice a1 us.length c1,.slice a2 t.caps c2,.bool t.start] 36)).alloc (.cells #[.string s,.slice a1 us.length c1,.slice a2 t.caps c2,.bool t.start,nilS,nilS,.int .i64 0] 39)) (fun _=>False):=Keeps.of (b_2 w1 _ _) (Nat.le_refl _) _
   have HMB:=hide (show MB ((w1.alloc (.cells #[.slice a1 us.length c1,.slice a2 t.caps c2,.bool t.start] 36)).alloc (.cells #[.string s,.slice a1 us.length c1,.slice a2 t.caps c2,.bool t.start,nilS,nilS,.int .i64 0] 39)) (w1.heap.size+1) s t us (.slice a1 us.length c1) (.slice a2 t.caps c2) 0 from ⟨⟨none,0,0,none,0,0,by
    have h9:=RowF.mk' (w1.alloc (.cells #[.slice a1 us.length c1,.slice a2 t.caps c2,.bool t.start] 36)) 39 #[.string s,.slice a1 us.length c1,.slice a2 t.caps c2,.bool t.start,nilS,nilS,.int .i64 0]
    rw [show (w1.alloc (.cells #[.slice a1 us.length c1,.slice a2 t.caps c2,.bool t.start] 36)).heap.size=w1.heap.size+1 by simp] at h9
    refine h9.congr fun j hj=>?_
    have hj7:j<7:=by simpa using hj
    clear hj
    rcases j with _|_|_|_|_|_|_|j
    all_goals simp [mcells]
    all_goals omega⟩,hi.keep k2 (fun _ _ x=>x),hpp.keep k2 (fun _ _ x=>x),fun u hu=>(hss u hu).keep k2 (fun _ _ x=>x)⟩)
   have HB:=hide (show Below w.heap.size w ((w1.alloc (.cells #[.slice a1 us.length c1,.slice a2 t.caps c2,.bool t.start] 36)).alloc (.cells #[.string s,.slice a1 us.length c1,.slice a2 t.caps c2,.bool t.start,nilS,nilS,.int .i64 0] 39)) from hb1.trans ((b_2 w1 _ _).mono hb1.size))
   have hM:w.heap.size≤w1.heap.size+1:=by have:=hb1.size;omega
   have HR:=hide hr
   have HIT:=hide hit
   clear hb1 hr hit hi hpp hss hw k1 k2
   go_wp2_with fail
   refine bodyPost_ret (v:=.tuple #[.pointer (some ⟨w1.heap.size+1,0,none⟩),.int .i64 0]) ?_ rfl ⟨HB.out,.inr (.inr ⟨t,us,_,_,w1.heap.size+1,hbig,HR.out,rfl,hM,HMB.out,HO.out,HIT.out⟩)⟩
   simp [results,Tryz.results6,go_sem]
 ·have hb2:(65536:Int)<(s.size:Int):=by omega
  go_enter Tryz.func6,Tryz.ntmps6
  go_wp2_with fail
  refine bodyPost_ret (v:=.tuple #[.pointer none,.int .i64 1]) ?_ rfl ⟨Below.refl _ _,.inl ⟨by omega,rfl⟩⟩
  simp [results,Tryz.results6,go_sem]
def findM (s p:ByteArray) (init:Int):Option Fd × Int:=
 if 65536<s.size then (none,1)
 else match rdPat p with
  |none=>(none,2)
  |some t=>if init<0∨(s.size:Int)<init then (none,3) else if 50000<(srM s t (s.size+1) init.toNat 0).2 then (none,4) else ((srM s t (s.size+1) init.toNat 0).1,0)
def fd0:Fd:=⟨0,0,[]⟩
def FoR (r:Option Fd × Int) (w:World) (e:Ending) (w':World):Prop:=
 Below w.heap.size w w'∧∃ v,e=.returned (.tuple #[.agg #[.int .i64 (r.1.getD fd0).fr,.int .i64 (r.1.getD fd0).en,v],.bool r.1.isSome,.int .i64 r.2])∧w'.ownsRow w.heap.size 56 3 v (r.1.getD fd0).caps.length (capC (r.1.getD fd0).caps)
theorem FoR.none {r:Option Fd × Int} {w w':World} {c:Int} (hb:Below w.heap.size w w') (hr:r=(none,c)):FoR r w (.returned (.tuple #[.agg #[.int .i64 0,.int .i64 0,nilS],.bool false,.int .i64 c])) w':=by
 subst hr
 exact ⟨hb,nilS,rfl,rfl,.inl ⟨rfl,rfl⟩⟩
end Go.Proofs.YtlgodacccilabaaGreatDoor
namespace Go.Proofs.YtlgodacccilabaaGreatDoor
open Go Go.RowKit Go.Shelf
set_option linter.unusedVariables false
theorem fns_of {w:World} {B n:Nat} {v:Value} {us:List Iu} (h:w.ownsRow B 97 1 v n (fnC us)) (hn:us.length=n):FnsA w v n (fun j=>(us.getD j (it0,0,#[])).2):=by
 obtain ⟨h1,⟨rfl,h3⟩|⟨g,cap,cur,rfl,hb,hg,hnc,hcm,hcs,htake⟩⟩:=h
 ·subst h3
  exact ⟨none,0,rfl,Nat.le_refl _,.inl ⟨rfl,rfl⟩⟩
 ·refine ⟨_,cap,rfl,hnc,.inr ⟨g,rfl,cur,hg,by rw [hcs];exact Nat.mul_le_mul_right _ hnc,fun j hj=>?_⟩⟩
  have hj':j<n:=by omega
  have h5:(cur.toList.take (n*1))[j]?=(fnC us)[j]?:=by rw [htake]
  rw [List.getElem?_take_of_lt hj,Array.getElem?_toList] at h5
  rw [h5]
  have hju:j<us.length:=by omega
  simp [fnC,hju]
theorem SB.setW {w:World} {S:Nat} {s:ByteArray} {fx:Bool} {cn:Nat} {wh:Value} {n:Nat} {nt:Nt} {to_:Nat} (h:SB w S s fx cn wh n nt to_) (v:Value):SB (w.setCell ⟨S,3,none⟩ v) S s fx cn v n nt to_:=by
 refine (RowF.set h (j:=3) (by omega) v).congr fun j hj=>?_
 unfold scells
 by_cases e:j=3
 ·subst e;simp
 ·simp [e]
def nt0:Nt:=fun _=>(false,0,0)
def NsR (s p:ByteArray) (w:World) (e:Ending) (w':World):Prop:=Below w.heap.size w w'∧
 ((65536<s.size∧e=.returned (.tuple #[.pointer none,.int .i64 1]))∨
  (¬ 65536<s.size∧rdPat p=none∧e=.returned (.tuple #[.pointer none,.int .i64 2]))∨
  ∃ t S fn bd cs D,¬ 65536<s.size∧rdPat p=some t∧t.items.length≤200∧e=.returned (.tuple #[.pointer (some ⟨S,0,none⟩),.int .i64 0])∧w.heap.size≤S∧
    SB w' S s t.start t.caps (.func (.func fn) bd cs) 0 nt0 0∧D w'∧WyAll ⟨S,s,t.start,t.caps,.func (.func fn) bd cs,t.items⟩ t.place fn bd cs D w'.heap.size)
set_option maxHeartbeats 3200000 in
set_option maxRecDepth 100000 in
theorem newSearch_any (s p:ByteArray) (w:World) (hs20:s.size≤1048576) (hp20:p.size≤1048576) (hl:LtT w) (h0:1<w.heap.size):
 Calls Tryz.prog 10 #[.string s,.string p] w fun e w'=>NsR s p w e w':=by
 have HL:=hide hl
 have hsf:=fun (w:World) (a:Addr) (m:Mode) (f:Fn) (bd cs:Array Value)=>st_func Tryz.prog w a m f bd cs
 clear hl
 go_enter Tryz.func10,Tryz.ntmps10
 by_cases hs:65536<s.size
 ·have h1:(65536:Int)<(s.size:Int):=by omega
  go_wp2_with fail
  refine bodyPost_ret (results_tmp2 rfl _ _ _) rfl ⟨Below.refl _ _,.inl ⟨hs,rfl⟩⟩
 ·have h1:¬ (65536:Int)<(s.size:Int):=by omega
  by_cases hp:200<p.size
  ·have h2:(200:Int)<(p.size:Int):=by omega
   go_wp2_with fail
   refine bodyPost_ret (results_tmp2 rfl _ _ _) rfl ⟨Below.refl _ _,.inr (.inl ⟨hs,by rw [rdPat,if_pos hp],rfl⟩)⟩
  ·have h2:¬ (200:Int)<(p.size:Int):=by omega
   have hpr:PR (w.alloc (.cells #[.string p,.slice none 0 0,.slice none 0 0,.slice none 0 0] 77)) w.heap.size (p.extract 0 p.size) nilS nilS nilS:=by
    rw [show p.extract 0 p.size=p by simp]
    refine (RowF.mk' w 77 #[.string p,.slice none 0 0,.slice none 0 0,.slice none 0 0]).congr fun j hj=>?_
    have hj4:j<4:=by simpa using hj
    clear hj
    rcases j with _|_|_|_|j
    all_goals simp [rdF,nilS]
    all_goals omega
   have H0:=hide (And.intro (show PQ (w.alloc (.cells #[.string p,.slice none 0 0,.slice none 0 0,.slice none 0 0] 77)) w.heap.size p 0 nilS nilS nilS from ⟨by omega,hpr⟩) (And.intro (b_1 w (.cells #[.string p,.slice none 0 0,.slice none 0 0,.slice none 0 0] 77)) (HL.out.low (b_1 w (.cells #[.string p,.slice none 0 0,.slice none 0 0,.slice none 0 0] 77)) h0)))
   clear hpr
   go_wp2_with fail
   generalize w.alloc (.cells #[.string p,.slice none 0 0,.slice none 0 0,.slice none 0 0] 77)=w0 at H0 ⊢
   refine (takes_q w.heap.size p 0 [94] nilS nilS nilS w0 (by omega) (by simp) H0.out.1).mono ?_
   rintro e w1 ⟨rfl,hq1,hk1⟩
   have h94:stA p 0 [94]=decide (hb p 0=94):=by
    rw [st_one,decide_eq_decide]
    constructor
    ·exact fun x=>x.2
    ·intro x
     refine ⟨?_,x⟩
     rcases Nat.eq_zero_or_pos p.size with y|y
     ·rw [hb_out (by omega)] at x;cases x
     ·exact y
   have hR0:w.heap.size<w0.heap.size:=RowF.lt H0.out.1.2
   rw [h94] at hq1 ⊢
   have hpos:(rd0 p).pos=if decide (hb p 0=94)=true then 0+[(94:UInt8)].length else 0:=by
    by_cases h:hb p 0=94
    ·rw [rd0,if_pos h,if_pos (decide_eq_true h)];rfl
    ·rw [rd0,if_neg h,if_neg (by simp [h])]
   rw [←hpos] at hq1
   have hb1:Below w.heap.size w w1:=H0.out.2.1.trans (hk1.below (Nat.le_of_lt hR0) (fun b e=>by omega))
   have hRp:RpI w w1 w.heap.size p (rdAll p 200 (rd0 p)) (rd0 p) [] nilS nilS nilS 200:=
    ⟨⟨hq1,⟨rfl,.inl ⟨rfl,rfl⟩⟩,⟨rfl,.inl ⟨rfl,rfl⟩⟩,⟨rfl,.inl ⟨rfl,rfl⟩⟩,fun u hu=>by simp at hu⟩,rfl,hb1,H0.out.2.2.keep hk1 (by omega) (by omega),rdJ0 p,by simp,by simp [rd0],by simp [rd0],by omega,rfl⟩
   have HR:=hide hRp
   obtain ⟨b,hbe⟩:∃ b,decide (hb p 0=94)=b:=⟨_,rfl⟩
   have HBe:=hide hbe
   rw [hbe]
   obtain ⟨T,hT⟩:∃ T,rdAll p 200 (rd0 p)=T:=⟨_,rfl⟩
   rw [hT] at HR
   have HT:=hide (show rdPat p=T.bind (fun R=>if R.opn=[]∧R.done.length≤16 then some ⟨R.items,R.done.length,isPl R.items,b⟩ else none) by
    rw [rdPat,if_neg hp,←hT,←hbe]
    rfl)
   clear hq1 hk1 h94 hpos hb1 hRp hbe hT
   go_wp2_with fail
   refine (readPattern_any w.heap.size p T (rd0 p) nilS nilS nilS [] 200 w w1 (by omega) h0 HR.out).mono ?_
   rintro e w2 hr
   cases T with
   |none=>
    obtain ⟨rfl,hb2⟩:=hr
    have HB2:=hide hb2
    clear hb2
    go_wp2_with fail
    exact bodyPost_ret (results_tmp2 rfl _ _ _) rfl ⟨HB2.out,.inr (.inl ⟨hs,HT.out,rfl⟩)⟩
   |some rd=>
    obtain ⟨rfl,us,vi,vo,vc,k,hri⟩:=hr
    have HI:=hide hri
    clear hri
    by_cases hok:rd.opn=[]∧rd.done.length≤16
    ·rw [decide_eq_true hok]
     obtain ⟨t,hte⟩:∃ t:Pt,t=⟨rd.items,rd.done.length,isPl rd.items,b⟩:=⟨_,rfl⟩
     have HPt:=hide (show rdPat p=some t by rw [HT.out,hte];show (if rd.opn=[]∧rd.done.length≤16 then some _ else none)=_;rw [if_pos hok])
     have hl16:=hok.2
     clear hok
     have c3:w2.cell? ⟨w.heap.size,3,none⟩=some vc:=RowF.cell HI.out.ri.q.2 (j:=3) (by omega)
     obtain ⟨ad,kd,rfl⟩:=owns_val HI.out.ri.d
     obtain ⟨ai,ki,rfl⟩:=owns_val HI.out.ri.i
     have hSB:SB (w2.alloc (.cells #[.string s,.bool b,.int .i64 (rd.done.length:Int),.nilFunc,.int .i64 0,.bool false,.int .i64 0,.int .i64 0,.bool false,.int .i64 0,.int .i64 0,.bool false,.int .i64 0,.int .i64 0,.bool false,.int .i64 0,.int .i64 0,.bool false,.int .i64 0,.int .i64 0,.bool false,.int .i64 0,.int .i64 0,.bool false,.int .i64 0,.int .i64 0,.bool false,.int .i64 0,.int .i64 0,.bool false,.int .i64 0,.int .i64 0,.bool false,.int .i64 0,.int .i64 0,.bool false,.int .i64 0,.int .i64 0,.bool false,.int .i64 0,.int .i64 0,.bool false,.int .i64 0,.int .i64 0,.bool false,.int .i64 0,.int .i64 0,.bool false,.int .i64 0,.int .i64 0,.bool false,.int .i64 0,.int .i64 0,.int .i64 0] 59)) w2.heap.size s b rd.done.length .nilFunc 0 nt0 0:=by
      refine (RowF.mk' w2 59 #[.string s,.bool b,.int .i64 (rd.done.length:Int),.nilFunc,.int .i64 0,.bool false,.int .i64 0,.int .i64 0,.bool false,.int .i64 0,.int .i64 0,.bool false,.int .i64 0,.int .i64 0,.bool false,.int .i64 0,.int .i64 0,.bool false,.int .i64 0,.int .i64 0,.bool false,.int .i64 0,.int .i64 0,.bool false,.int .i64 0,.int .i64 0,.bool false,.int .i64 0,.int .i64 0,.bool false,.int .i64 0,.int .i64 0,.bool false,.int .i64 0,.int .i64 0,.bool false,.int .i64 0,.int .i64 0,.bool false,.int .i64 0,.int .i64 0,.bool false,.int .i64 0,.int .i64 0,.bool false,.int .i64 0,.int .i64 0,.bool false,.int .i64 0,.int .i64 0,.bool false,.int .i64 0,.int .i64 0,.int .i64 0]).congr fun j hj=>?_
      have hj54:j<54:=by simpa using hj
      clear hj
      have hls:(#[.string s,.bool b,.int .i64 (rd.done.length:Int),.nilFunc,.int .i64 0,.bool false,.int .i64 0,.int .i64 0,.bool false,.int .i64 0,.int .i64 0,.bool false,.int .i64 0,.int .i64 0,.bool false,.int .i64 0,.int .i64 0,.bool false,.int .i64 0,.int .i64 0,.bool false,.int .i64 0,.int .i64 0,.bool false,.int .i64 0,.int .i64 0,.bool false,.int .i64 0,.int .i64 0,.bool false,.int .i64 0,.int .i64 0,.bool false,.int .i64 0,.int .i64 0,.bool false,.int .i64 0,.int .i64 0,.bool false,.int .i64 0,.int .i64 0,.bool false,.int .i64 0,.int .i64 0,.bool false,.int .i64 0,.int .i64 0,.bool false,.int .i64 0,.int .i64 0,.bool false,.int .i64 0,.int .i64 0,.int .i64 0]:Array Value).toList=(List.range 54).map (scells s b rd.done.length .nilFunc 0 nt0 0):=by rfl
      rw [Array.getD_eq_getD_getElem?,←Array.getElem?_toList,hls]
      simp [hj54]
     have H3:=hide (And.intro hSB (b_1 w2 (.cells #[.string s,.bool b,.int .i64 (rd.done.length:Int),.nilFunc,.int .i64 0,.bool false,.int .i64 0,.int .i64 0,.bool false,.int .i64 0,.int .i64 0,.bool false,.int .i64 0,.int .i64 0,.bool false,.int .i64 0,.int .i64 0,.bool false,.int .i64 0,.int .i64 0,.bool false,.int .i64 0,.int .i64 0,.bool false,.int .i64 0,.int .i64 0,.bool false,.int .i64 0,.int .i64 0,.bool false,.int .i64 0,.int .i64 0,.bool false,.int .i64 0,.int .i64 0,.bool false,.int .i64 0,.int .i64 0,.bool false,.int .i64 0,.int .i64 0,.bool false,.int .i64 0,.int .i64 0,.bool false,.int .i64 0,.int .i64 0,.bool false,.int .i64 0,.int .i64 0,.bool false,.int .i64 0,.int .i64 0,.int .i64 0] 59)))
     clear hSB
     go_upto_region 10 with fail
     generalize w2.alloc (.cells #[.string s,.bool b,.int .i64 (rd.done.length:Int),.nilFunc,.int .i64 0,.bool false,.int .i64 0,.int .i64 0,.bool false,.int .i64 0,.int .i64 0,.bool false,.int .i64 0,.int .i64 0,.bool false,.int .i64 0,.int .i64 0,.bool false,.int .i64 0,.int .i64 0,.bool false,.int .i64 0,.int .i64 0,.bool false,.int .i64 0,.int .i64 0,.bool false,.int .i64 0,.int .i64 0,.bool false,.int .i64 0,.int .i64 0,.bool false,.int .i64 0,.int .i64 0,.bool false,.int .i64 0,.int .i64 0,.bool false,.int .i64 0,.int .i64 0,.bool false,.int .i64 0,.int .i64 0,.bool false,.int .i64 0,.int .i64 0,.bool false,.int .i64 0,.int .i64 0,.bool false,.int .i64 0,.int .i64 0,.int .i64 0] 59)=w3 at H3 ⊢
     have hri3:=HI.out.ri.keep (Keeps.of H3.out.2 (Nat.le_refl _) _)
     have c1:w3.cell? ⟨w.heap.size,1,none⟩=some (.slice ai us.length ki):=RowF.cell hri3.q.2 (j:=1) (by omega)
     have hlen:us.length=t.items.length:=by rw [hte];show us.length=rd.items.length;rw [←HI.out.it,List.length_map]
     have hl200:t.items.length≤200:=by have:=HI.out.l1;have:=HI.out.ri.q.1;omega
     have hfa:=fns_of (us:=us) (n:=us.length) hri3.i rfl
     have hcn:∀ c,Value.slice ai us.length ki=.slice none 0 c→c=0:=fun c e=>by
      rcases own_val hri3.i with ⟨e1,_⟩|⟨g,cap,e1,_⟩
      ·rw [e1] at e;cases e;rfl
      ·rw [e1] at e;cases e
     have hii:∀ j (hj:j<t.items.length),ItV w3 w2.heap.size t.items[j] (us.getD j (it0,0,#[])).2.1 (us.getD j (it0,0,#[])).2.2:=fun j hj=>by
      have hju:j<us.length:=by omega
      have h9:=HI.out.ri.s us[j] (List.getElem_mem hju)
      have e1:t.items[j]=us[j].1:=by
       have:t.items=us.map Prod.fst:=by rw [hte];exact HI.out.it.symm
       simp [this]
      have e2:us.getD j (it0,0,#[])=us[j]:=by rw [List.getD_eq_getElem?_getD,List.getElem?_eq_getElem hju];rfl
      rw [e1,e2]
      exact h9.v.move (fun b hb=>⟨H3.out.2.block b (h9.p b hb).1,by have:=(h9.p b hb).1;omega⟩)
     rw [hlen] at hfa hcn
     have HTh:=hide (through_any w2.heap.size s t (fun j=>(us.getD j (it0,0,#[])).2) ai ki w3 (by omega) (rdPat_k HPt.out) hl200 (RowF.lt H3.out.1) hfa hcn hii)
     have H4:=hide (And.intro hl200 hte)
     clear c3 hfa hcn hii hri3 hl200 hte
     go_wp2_with fail
     refine HTh.out.mono ?_
     rintro e w4 ⟨hb4,fn,bd,cs,D,rfl,hD,hO,hW⟩
     have hsb:=RowF.low H3.out.1 hb4 (RowF.lt H3.out.1)
     have c9:w4.cell? ⟨w2.heap.size,3,none⟩=some .nilFunc:=RowF.cell hsb (j:=3) (by omega)
     have z9:w4.frozen? ⟨w2.heap.size,3,none⟩=false:=RowF.frz hsb 3
     have h5:=SB.setW hsb (.func (.func fn) bd cs)
     have hR2:w.heap.size≤w2.heap.size:=HI.out.bl.size
     have HE:=hide (And.intro h5 (And.intro ((HI.out.bl.trans (H3.out.2.mono hR2)).trans (hb4.mono (Nat.le_trans hR2 H3.out.2.size))) (And.intro hD (And.intro hO hW))))
     clear hsb h5 hb4 hD hO hW c1
     go_wp2_with fail
     have hk5:Keeps w4 (w4.setCell ⟨w2.heap.size,3,none⟩ (.func (.func fn) bd cs)) (fun x=>x=w2.heap.size):=SB.kS _ 3
     have hst:t.start=b:=by rw [H4.out.2]
     have hcp:t.caps=rd.done.length:=by rw [H4.out.2]
     refine bodyPost_ret (results_tmp2 rfl _ _ _) rfl ⟨HE.out.2.1.setCell (p:=⟨w2.heap.size,3,none⟩) hR2 _,.inr (.inr ⟨t,w2.heap.size,fn,bd,cs,D,hs,HPt.out,H4.out.1,rfl,hR2,?_,?_,?_⟩)⟩
     ·rw [hst,hcp]
      exact HE.out.1
     ·exact HE.out.2.2.2.1 _ _ HE.out.2.2.1 hk5.size (fun x _ h1 h2 _=>hk5.block x h1 h2)
     ·exact HE.out.2.2.2.2.all HE.out.2.2.2.1 hk5.size _ rfl rfl rfl
    ·rw [decide_eq_false hok]
     have HN:=hide (show rdPat p=none by rw [HT.out];show (if rd.opn=[]∧rd.done.length≤16 then some _ else none)=_;rw [if_neg hok])
     clear hok
     go_wp2_with fail
     exact bodyPost_ret (results_tmp2 rfl _ _ _) rfl ⟨HI.out.bl,.inr (.inl ⟨hs,HN.out,rfl⟩)⟩
end Go.Proofs.YtlgodacccilabaaGreatDoor
namespace Go.Proofs.YtlgodacccilabaaGreatDoor
open Go Go.RowKit Go.Shelf
set_option linter.unusedVariables false
theorem first_any (X:Sx) (t:Pt) (fn:Nat) (bd cs:Array Value) (D:World→Prop) (from_ n:Nat) (nt:Nt) (to_:Nat) (w:World) (hs:X.s.size≤65536) (hwh:X.wh=.func (.func fn) bd cs) (hfx:X.fx=t.start) (hcn:X.cn=t.caps) (hits:X.its=t.items) (hk:PtK t)
 (hlen:t.items.length≤200) (hx:WyAll X t.place fn bd cs D w.heap.size) (hD:D w) (hb:SB w X.S X.s X.fx X.cn X.wh n nt to_) (hn:n≤50000) (hf:from_≤X.s.size):
 Calls Tryz.prog 35 #[.pointer (some ⟨X.S,0,none⟩),.int .i64 from_] w fun e w'=>FiR X D w (srM X.s t (X.s.size+1) from_ n) e w':=by
 have hcap:∀ nt σ,Ag X.its nt σ→∀ k,k<t.caps→nt k=capAt t σ k:=fun nt σ hg k hk'=>hk.noted nt σ (by rw [hits] at hg;exact hg) k hk'
 cases h:t.start with
 |true=>exact first_fix X t fn bd cs D from_ n nt to_ w hs hwh hfx hcn hits hk.caps hlen hx hcap hD hb hn hf h
 |false=>exact first_free X t fn bd cs D from_ n nt to_ w hs hwh hfx hcn hits hk.caps hlen hx hcap hD hb hn hf h
end Go.Proofs.YtlgodacccilabaaGreatDoor
namespace Go.Proofs.YtlgodacccilabaaGreatDoor
open Go Go.RowKit
set_option linter.unusedVariables false
def RowX (w:World) (T g N:Nat) (f:Nat→Value):Prop:=∃ cur:Array Value,w.heap[g]?=some (.cells cur T (0,0))∧cur.size=N∧∀ j,j<N→cur[j]?=some (f j)
theorem RowX.f {w:World} {T g N:Nat} {f:Nat→Value} (h:RowX w T g N f):RowF w T g N f:=by
 obtain ⟨cur,h1,h2,h3⟩:=h
 exact ⟨cur,h1,by omega,h3⟩
theorem RowX.shape {w:World} {T g N:Nat} {f:Nat→Value} (h:RowX w T g N f):w.shape? g=some (T,N):=by
 obtain ⟨cur,h1,h2,h3⟩:=h
 simp [World.shape?,h1,h2]
theorem RowX.same {w w':World} {T g N:Nat} {f:Nat→Value} (h:RowX w T g N f) (e:w'.heap[g]?=w.heap[g]?):RowX w' T g N f:=by
 obtain ⟨cur,h1,h2,h3⟩:=h
 exact ⟨cur,e.trans h1,h2,h3⟩
theorem RowX.set {w:World} {T g N:Nat} {f:Nat→Value} (h:RowX w T g N f) {j:Nat} (hj:j<N) (x:Value):RowX (w.setCell ⟨g,j,none⟩ x) T g N (fun i=>if i=j then x else f i):=by
 obtain ⟨cur,h1,h2,h3⟩:=h
 have e:=heap_setCell_same w g j _ _ x h1
 refine ⟨_,e,by simpa using h2,fun i hi=>?_⟩
 by_cases hij:i=j
 ·subst hij
  have h9:i<cur.size:=by omega
  simp [h9]
 ·have:=h3 i hi
  simp [hij,Ne.symm hij,this]
theorem RowX.congr {w:World} {T g N:Nat} {f f':Nat→Value} (h:RowX w T g N f) (hf:∀ j,j<N→f j=f' j):RowX w T g N f':=by
 obtain ⟨cur,h1,h2,h3⟩:=h
 exact ⟨cur,h1,h2,fun j hj=>by rw [h3 j hj,hf j hj]⟩
def rwF (s P:ByteArray) (sv:Nat→Value) (dn:Nat) (ad bf:Value) (tl:Bool):Nat→Value:=fun j=>
 if j=0 then .string s else if j=1 then .string P else if j<12 then sv (j-2) else if j=12 then .int .i64 (dn:Int) else if j=13 then ad else if j=14 then bf else .bool tl
def OwR (R:Nat) (w:World) (b:Nat):Prop:=∃ v,w.cell? ⟨R,14,none⟩=some v∧v.ownBlock=some b
structure RwI (w:World) (B R:Nat) (s P:ByteArray) (sv:Nat→Value) (dn:Nat) (tl:Bool) (L:List UInt8) (ad bf:Value):Prop where
 r:RowX w 64 R 16 (rwF s P sv dn ad bf tl)
 a:ad=.pointer none∨ad=.pointer (some ⟨R,13,none⟩)
 o:OwB w B bf L
structure KpR (R:Nat) (w w':World):Prop where
 k:Keeps w w' (fun b=>b=R∨OwR R w b)
 o:∀ b,OwR R w' b→b<w.heap.size→OwR R w b
theorem KpR.trans {R:Nat} {w w1 w2:World} (h:KpR R w w1) (g:KpR R w1 w2):KpR R w w2:=by
 have hz:=h.k.size
 refine ⟨⟨g.k.os.trans h.k.os,g.k.tape.trans h.k.tape,g.k.output.trans h.k.output,Nat.le_trans h.k.size g.k.size,fun b hb hn=>?_⟩,fun b hb hl=>h.o b (g.o b hb (by omega)) hl⟩
 refine (g.k.block b (by omega) (fun e=>?_)).trans (h.k.block b hb hn)
 rcases e with e|e
 ·exact hn (.inl e)
 ·exact hn (.inr (h.o b e hb))
theorem KpR.refl (R:Nat) (w:World):KpR R w w:=⟨Keeps.refl _ _,fun b h _=>h⟩
section
variable {w w' : World} {B R : Nat} {s P : ByteArray} {sv : Nat → Value} {dn : Nat} {tl : Bool} {L : List UInt8} {ad bf : Value}
theorem RwI.c14 (h:RwI w B R s P sv dn tl L ad bf):w.cell? ⟨R,14,none⟩=some bf:=h.r.f.cell (j:=14) (by omega)
theorem RwI.owr (h:RwI w B R s P sv dn tl L ad bf) {b:Nat} (hb:OwR R w b):bf.ownBlock=some b:=by
 obtain ⟨v,h1,h2⟩:=hb
 rw [h.c14] at h1
 cases h1
 exact h2
theorem RwI.ne (h:RwI w B R s P sv dn tl L ad bf):bf.ownBlock≠some R:=fun e=>by
 obtain ⟨f9,h9⟩:=owns_rowF h.o e
 exact h9.apart h.r.f (by decide) rfl
theorem KpR.row {T g N:Nat} {f:Nat→Value} (k:KpR R w w') (h:RwI w B R s P sv dn tl L ad bf) (hr:RowF w T g N f) (hT:T≠5) (hg:g≠R):RowF w' T g N f:=
 hr.keep k.k (fun e=>by
  rcases e with e|e
  ·exact hg e
  ·obtain ⟨f9,h9⟩:=owns_rowF h.o (h.owr e)
   exact h9.apart hr (fun x=>hT x.symm) rfl)
theorem KpR.below (k:KpR R w w') (h:RwI w B R s P sv dn tl L ad bf) (hR:B≤R) (hB:B≤w.heap.size):Below B w w':=
 k.k.below hB (fun b e=>by
  rcases e with e|e
  ·omega
  ·exact (owns_blt h.o (h.owr e)).1)
theorem RwI.low (h:RwI w B R s P sv dn tl L ad bf) (k:Keeps w w' (fun _=>False)):RwI w' B R s P sv dn tl L ad bf:=
 ⟨h.r.same (k.block R h.r.f.lt (fun x=>x)),h.a,owns_keep h.o k (fun _ x=>x.elim)⟩
theorem KpR.new (h:RwI w B R s P sv dn tl L ad bf) (k:Keeps w w' (fun _=>False)):KpR R w w':=by
 refine ⟨k.mono (fun _ x=>x.elim),fun b hb hl=>?_⟩
 have h2:=(h.low k).owr hb
 exact ⟨bf,h.c14,h2⟩
theorem KpR.cell (h:RwI w B R s P sv dn tl L ad bf) {j:Nat} (hj:j≠14) (x:Value):KpR R w (w.setCell ⟨R,j,none⟩ x):=by
 refine ⟨(Keeps.refl w (fun b=>b=R∨OwR R w b)).setCell (.inl rfl) x,fun b hb hl=>?_⟩
 obtain ⟨v,h1,h2⟩:=hb
 have h3:=(h.r.f)
 by_cases hjN:j<16
 ·have h4:=(h3.set hjN x).cell (j:=14) (by omega)
  rw [if_neg (fun e=>hj e.symm)] at h4
  rw [h4] at h1
  cases h1
  exact ⟨_,h.c14,h2⟩
 ·obtain ⟨cur,e1,e2,e3⟩:=h.r
  have e:=heap_setCell_same w R j _ _ x e1
  have:(w.setCell ⟨R,j,none⟩ x).cell? ⟨R,14,none⟩=some bf:=by
   have hs:cur.setIfInBounds j x=cur:=by
    apply Array.ext_getElem?
    intro i
    rw [Array.getElem?_setIfInBounds]
    split
    ·rename_i hij
     rw [if_neg (by omega),Array.getElem?_eq_none (by omega)]
    ·rfl
   simp [World.cell?,e,hs]
   exact e3 14 (by omega)
  rw [this] at h1
  cases h1
  exact ⟨_,h.c14,h2⟩
end
end Go.Proofs.YtlgodacccilabaaGreatDoor
namespace Go.Proofs.YtlgodacccilabaaGreatDoor
open Go Go.RowKit
set_option linter.unusedVariables false
theorem info_bu:(Tryz.prog.info? 62).map (·.size)=some 2:=by kernel_rfl
theorem lies_bu:liesAt Tryz.prog Tryz.prog.depth 64 (16/Tryz.prog.cellsOf 64) 13 62 1=true:=by kernel_rfl
theorem rw_ad {s P:ByteArray} {sv:Nat→Value} {dn:Nat} {ad bf:Value} {tl:Bool} (x:Value):∀ j,j<16→(if j=13 then x else rwF s P sv dn ad bf tl j)=rwF s P sv dn x bf tl j:=fun j hj=>by
 by_cases e:j=13
 ·subst e;simp [rwF]
 ·rw [if_neg e];simp only [rwF,if_neg e]
theorem rw_bf {s P:ByteArray} {sv:Nat→Value} {dn:Nat} {ad bf:Value} {tl:Bool} (x:Value):∀ j,j<16→(if j=14 then x else rwF s P sv dn ad bf tl j)=rwF s P sv dn ad x tl j:=fun j hj=>by
 by_cases e:j=14
 ·subst e;simp [rwF]
 ·rw [if_neg e];simp only [rwF,if_neg e]
theorem rw_dn {s P:ByteArray} {sv:Nat→Value} {dn:Nat} {ad bf:Value} {tl:Bool} (x:Nat):∀ j,j<16→(if j=12 then .int .i64 (x:Int) else rwF s P sv dn ad bf tl j)=rwF s P sv x ad bf tl j:=fun j hj=>by
 by_cases e:j=12
 ·subst e;simp [rwF]
 ·rw [if_neg e];simp only [rwF,if_neg e]
theorem rw_tl {s P:ByteArray} {sv:Nat→Value} {dn:Nat} {ad bf:Value} {tl:Bool} (x:Bool):∀ j,j<16→(if j=15 then .bool x else rwF s P sv dn ad bf tl j)=rwF s P sv dn ad bf x j:=fun j hj=>by
 by_cases e:j=15
 ·subst e;simp [rwF]
 ·rw [if_neg e]
  simp only [rwF]
  repeat (split;rfl)
  omega
theorem owb_past {w w':World} {B:Nat} {bf:Value} {L:List UInt8} {S:Nat→Prop} (h:OwB w B bf L) (k:Keeps w w' S) (hS:∀ g,bf.ownBlock=some g→¬ S g):OwB w' B bf L:=
 owns_stay h (fun g hg=>k.block g (owns_blt h hg).2 (hS g hg))
section
variable {w : World} {B R : Nat} {s P : ByteArray} {sv : Nat → Value} {dn : Nat} {tl : Bool} {L : List UInt8} {ad bf : Value}
theorem RwI.setC (h:RwI w B R s P sv dn tl L ad bf) (j:Nat) (x:Value):OwB (w.setCell ⟨R,j,none⟩ x) B bf L:=
 owb_past h.o ((Keeps.refl w (fun b=>b=R)).setCell (S:=fun b=>b=R) (j:=j) rfl x) (fun g hg e=>h.ne (e ▸ hg))
end
set_option maxHeartbeats 1600000 in
set_option maxRecDepth 100000 in
theorem copyCheck_any (w:World) (B R:Nat) (s P:ByteArray) (sv:Nat→Value) (dn:Nat) (tl:Bool) (L:List UInt8) (ad bf:Value) (h:RwI w B R s P sv dn tl L ad bf):
 Calls Tryz.prog 60 #[.pointer (some ⟨R,13,none⟩)] w fun e w'=>e=.returned (.tuple #[])∧RwI w' B R s P sv dn tl L (.pointer (some ⟨R,13,none⟩)) bf∧KpR R w w'∧w'.heap.size=w.heap.size:=by
 obtain ⟨j,hj,hjs⟩:=Option.map_eq_some_iff.1 info_bu
 have c13:w.cell? ⟨R,13,none⟩=some ad:=h.r.f.cell (j:=13) (by omega)
 rcases h.a with rfl|rfl
 ·have z13:w.frozen? ⟨R,13,none⟩=false:=h.r.f.frz 13
  have hsh:=h.r.shape
  have H1:=hide (show RwI (w.setCell ⟨R,13,none⟩ (.pointer (some ⟨R,13,none⟩))) B R s P sv dn tl L (.pointer (some ⟨R,13,none⟩)) bf from ⟨(h.r.set (j:=13) (by omega) _).congr (rw_ad _),.inr rfl,h.setC 13 _⟩)
  have H2:=hide (KpR.cell h (j:=13) (by omega) (.pointer (some ⟨R,13,none⟩)))
  have hsz:(w.setCell ⟨R,13,none⟩ (.pointer (some ⟨R,13,none⟩))).heap.size=w.heap.size:=by simp
  have HZ:=hide hsz
  clear h hsz
  go_enter Tryz.func60,Tryz.ntmps60
  go_wp2
  rw [Lib.run_to_unsafe w ⟨R,13,none⟩ Tryz.underlying60 Tryz.underlying141 hj (by rw [hjs];decide) hsh (by show 13<16;omega)]
  simp only [Result.andThen]
  rw [Oper.upon_value]
  go_wp2
  rw [run_callFunc_extern Tryz.func80 (by kernel_rfl) (by kernel_rfl) (by kernel_rfl) (e:=Extern.AbiNoEscape.same) (by kernel_rfl)]
  rw [Lib.run_noEscape]
  simp only [Result.andThen]
  rw [Oper.upon_value]
  go_wp2
  rw [Lib.run_from_unsafe w ⟨R,13,none⟩ Tryz.underlying141 Tryz.underlying60 hj hsh lies_bu]
  simp only [Result.andThen]
  rw [Oper.upon_value]
  go_wp2
  go_end0
  exact ⟨rfl,H1.out,H2.out,HZ.out⟩
 ·have H1:=hide h
  clear h
  go_enter Tryz.func60,Tryz.ntmps60
  go_wp2
  rw [Lib.run_neq_ptr_same w _ Tryz.underlying60 hj]
  go_wp2
  go_end0
  exact ⟨rfl,H1.out,KpR.refl R w,rfl⟩
theorem str_where {P:Program} (w:World) (base:Nat) (t u ty e:TypeId) (i:TypeInfo) (ht:P.underlying t=some (.slice e)) (hu:P.underlying u=some .string) (hi:P.info? e=some i) (hz:i.zero=some (.int .u8 0))
 (hsize:i.size=1) (hby:i.bytes=1) (v:Value) (n:Nat) (xs:List Value) (hown:w.ownsRow base e 1 v n xs) (s:ByteArray) (hbytes:n+s.size≤140737488355328) {v':Value} {w':World}
 (hr:(Builtin.append_ #[t,u] ty #[v,.string s]).run P w=.ok v' w'):∀ g,v'.ownBlock=some g→v.ownBlock=some g∨w.heap.size≤g:=by
 intro g hg
 have hxl:xs.length=n:=by simpa using hown.1
 rcases hown.2 with ⟨rfl,rfl⟩|⟨g',cap,cur,rfl,hbg,hgg,hnc,hcm,hcs,htake⟩
 ·by_cases hm:s.size=0
  ·have hf:=Lib.run_firstCells_string (P:=P) w 1 s
   rw [hm] at hf
   simp [Builtin.append_,run_underlying ht,run_underlying hu,sizeOf,typeInfo,hi,hsize,Builtin.lenOf,hm,hf] at hr
   obtain ⟨rfl,-⟩:=hr
   simp [Value.ownBlock] at hg
  ·have hr2:=run_append_nil_string (P:=P) w t u ty e i (.int .u8 0) ht hu hi hz s (by omega) (by omega) (by rw [hby];omega)
   rw [hr2] at hr
   simp only [Result.ok.injEq] at hr
   obtain ⟨rfl,-⟩:=hr
   right
   simp [Value.ownBlock] at hg
   omega
 ·by_cases hroom:n+s.size≤cap
  ·have hcs':cur.size=cap:=by simpa using hcs
   have hr2:=Lib.run_append_room_string (P:=P) w t u ty e i ht hu hi hsize g' n cap cur hgg s hroom (by omega)
   rw [hr2] at hr
   simp only [Result.ok.injEq] at hr
   obtain ⟨rfl,-⟩:=hr
   left
   simpa [Value.ownBlock] using hg
  ·have holds:∀ j u,xs[j]?=some u→w.cell? ((⟨g',0,none⟩:Addr).add j)=some u:=hown.cells (g:=g') rfl
   have hr2:=Lib.run_append_grow_string (P:=P) w t u ty e i (.int .u8 0) ht hu hi hz ⟨g',0,none⟩ n cap xs (by rw [hsize];simpa using hxl) holds s (by omega) (by omega) (by rw [hby];exact growslice_fits (by omega) (by omega))
   rw [hr2] at hr
   simp only [Result.ok.injEq] at hr
   obtain ⟨rfl,-⟩:=hr
   right
   simp [Value.ownBlock] at hg
   omega
theorem app_str_at {wr:World} {ops:Array Oper} {rest:List Oper} {o:Oper} {a:Act} {Q:Exit→Act→World→Prop} (hgd:o.guard=none) (sl x:Operand)
 (ho:o.op=.call { callee:=.builtin .append,args:=#[sl,x],argTypes:=#[43,9] }) (base:Nat) (v:Value) (L:List UInt8) (s:ByteArray) (hown:OwB wr base v L) (hs:a.eval sl=v) (hx:a.eval x=.string s)
 (hlen:L.length+s.size≤140737488355328) (hbase:base≤wr.heap.size)
 (h:∀ v' w',OwB w' base v' (L++s.data.toList)→(∀ g,v'.ownBlock=some g→v.ownBlock=some g∨wr.heap.size≤g)→(∀ B w0,Below B w0 wr→B≤base→Below B w0 w')→(∀ gx,gx<wr.heap.size→v.ownBlock≠some gx→w'.heap[gx]?=wr.heap[gx]?)→wpList Tryz.prog ops Q rest (a.put o.dst v') w'):
 wpList Tryz.prog ops Q (o::rest) a wr:=by
 obtain ⟨i0,hi,hz0,hz1,hz2⟩:=info_parts info_u8
 refine wpList_plain hgd fun _ hK=>?_
 obtain ⟨v',w',hr,h2,h3,h4⟩:=Lib.run_append_own_string (P:=Tryz.prog) wr base 43 9 o.type 5 i0 Tryz.underlying43 Tryz.underlying9 hi hz0 hz1 hz2 v L.length (Lib.byteCells L) hown s (by unfold maxLen;omega) hlen hbase
 have h5:=str_where (P:=Tryz.prog) wr base 43 9 o.type 5 i0 Tryz.underlying43 Tryz.underlying9 hi hz0 hz1 hz2 v L.length (Lib.byteCells L) hown s hlen hr
 obtain ⟨g1,g2⟩:=app_grown hown hbase h3
 unfold Oper.wp execOp
 simp only [ho,resolve,invoke,builtin,Sem.run_bind,Sem.run_pure,Result.andThen_ok,List.map_toArray,List.map_cons,List.map_nil,hs,hx,hr]
 exact hK _ _ (h v' w' (app_cells h2) h5 g1 g2)
set_option maxHeartbeats 1600000 in
set_option maxRecDepth 100000 in
theorem writeS_any (w:World) (B R:Nat) (s P:ByteArray) (sv:Nat→Value) (dn:Nat) (tl:Bool) (L:List UInt8) (ad bf:Value) (x:ByteArray) (h:RwI w B R s P sv dn tl L ad bf) (hB:B≤w.heap.size) (hl:L.length+x.size≤140737488355328):
 Calls Tryz.prog 39 #[.pointer (some ⟨R,13,none⟩),.string x] w fun e w'=>e=.returned (.tuple #[.int .i64 x.size,.nilIface])∧(∃ bf',RwI w' B R s P sv dn tl (L++x.data.toList) (.pointer (some ⟨R,13,none⟩)) bf')∧KpR R w w':=by
 have HC:=hide (copyCheck_any w B R s P sv dn tl L ad bf h)
 clear h
 go_enter Tryz.func39,Tryz.ntmps39
 go_wp2_with fail
 refine HC.out.mono ?_
 rintro e w1 ⟨rfl,h1,k1,hz1⟩
 have c14:=h1.c14
 have H1:=hide h1
 have K1:=hide k1
 have hB1:B≤w1.heap.size:=by omega
 clear h1 k1 HC hz1
 go_wp2_with (first
  |(have _z:=H1
    at_builtin
    clear _z
    refine app_str_at rfl _ _ rfl B _ L x H1.out.o rfl rfl hl hB1 ?_
    intro v5 w5 g1 gn g2 g3
    have hRl:R<w1.heap.size:=H1.out.r.f.lt
    have hr5:=H1.out.r.same (g3 R hRl H1.out.ne)
    have d14:w5.cell? ⟨R,14,none⟩=some bf:=hr5.f.cell (j:=14) (by omega)
    have f14:w5.frozen? ⟨R,14,none⟩=false:=hr5.f.frz 14
    have hne5:v5.ownBlock≠some R:=fun e=>by
     obtain ⟨f9,h9⟩:=owns_rowF g1 e
     exact h9.apart hr5.f (by decide) rfl
    have HI5:=hide (show RwI (w5.setCell ⟨R,14,none⟩ v5) B R s P sv dn tl (L++x.data.toList) (.pointer (some ⟨R,13,none⟩)) v5 from ⟨(hr5.set (j:=14) (by omega) v5).congr (rw_bf _),.inr rfl,
     owb_past g1 ((Keeps.refl w5 (fun b=>b=R)).setCell (S:=fun b=>b=R) (j:=14) rfl v5) (fun g hg e=>hne5 (e ▸ hg))⟩)
    have hbl:=g2 _ _ (Below.refl B w1) (Nat.le_refl _)
    have HK5:=hide (show KpR R w1 (w5.setCell ⟨R,14,none⟩ v5) from by
     have hsz:(w5.setCell ⟨R,14,none⟩ v5).heap.size=w5.heap.size:=by simp
     refine ⟨⟨hbl.os,hbl.tape,hbl.output,by rw [hsz];exact hbl.size,fun b hb hn=>?_⟩,fun b hb hlt=>?_⟩
     ·rw [heap_setCell_other w5 ⟨R,14,none⟩ b v5 (fun e=>hn (.inl e))]
      exact g3 b hb (fun e=>hn (.inr ⟨bf,H1.out.c14,e⟩))
     ·have hv:=HI5.out.owr hb
      refine ⟨bf,H1.out.c14,?_⟩
      rcases gn b hv with e|e
      ·exact e
      ·omega)
    have hL5:(L++x.data.toList).length=L.length+x.size:=by rw [List.length_append,Array.length_toList];rfl
    obtain ⟨a5,k5,hv5⟩:=owns_val g1
    rw [hL5] at hv5
    clear hL5
    clear g1 gn g2 g3 hr5 hbl hne5
    subst hv5)
  |fail)
 refine bodyPost_ret (v:=.tuple #[.int .i64 x.size,.nilIface]) ?_ rfl ⟨rfl,⟨_,HI5.out⟩,K1.out.trans HK5.out⟩
 simp [results,Tryz.results39,go_sem]
end Go.Proofs.YtlgodacccilabaaGreatDoor
namespace Go.Proofs.YtlgodacccilabaaGreatDoor
open Go Go.RowKit
set_option linter.unusedVariables false
section
variable {w w' w1 w2 : World} {B R : Nat} {s P : ByteArray} {sv : Nat → Value} {dn : Nat} {tl : Bool} {L : List UInt8} {ad bf : Value}
theorem RwI.past {T g N:Nat} {f:Nat→Value} (h:RwI w B R s P sv dn tl L ad bf) (k:Keeps w w' (fun b=>b=g)) (hr:RowF w T g N f) (hT:T≠5) (hg:g≠R):RwI w' B R s P sv dn tl L ad bf:=
 ⟨h.r.same (k.block R h.r.f.lt (fun e=>hg e.symm)),h.a,owb_past h.o k (fun b hb e=>by
  obtain ⟨f9,h9⟩:=owns_rowF h.o hb
  exact h9.apart hr (fun x=>hT x.symm) e)⟩
theorem KpR.more {S:Nat→Prop} (h:KpR R w w1) (hR:R<w.heap.size) (k:Keeps w1 w2 S) (hS:∀ b,S b→w.heap.size≤b):KpR R w w2:=by
 have hz:=h.k.size
 have hn:∀ b,b<w.heap.size→¬ S b:=fun b hb e=>by have:=hS b e;omega
 refine ⟨⟨k.os.trans h.k.os,k.tape.trans h.k.tape,k.output.trans h.k.output,Nat.le_trans hz k.size,fun b hb hx=>(k.block b (by omega) (hn b hb)).trans (h.k.block b hb hx)⟩,fun b hb hl=>h.o b ?_ hl⟩
 obtain ⟨v,h1,h2⟩:=hb
 exact ⟨v,by rw [←h1];exact (World.cell?_of_block (a:=⟨R,14,none⟩) (k.block R (by omega) (hn R hR))).symm,h2⟩
end
structure WrI (w wr:World) (B R:Nat) (s P:ByteArray) (sv:Nat→Value) (dn:Nat) (tl:Bool) (H:Nat→List UInt8) (HB:Nat→ByteArray) (L0:List UInt8) (A0 B0:List Pc) (av:Nat→Value):Prop where
 i:∃ ad bf,RwI wr B R s P sv dn tl (L0++fil H A0) ad bf
 h:RowF wr 109 w.heap.size 10 (hvV HB)
 a:RowF wr 48 (w.heap.size+1) 10 av
 v:∀ i,i<10→AhV wr (av i) (ahd H B0 (nsl A0) (pla A0).length i)
 k:KpR R w wr
 z:w.heap.size+2≤wr.heap.size
section
variable {w wr w' : World} {B R : Nat} {s P : ByteArray} {sv : Nat → Value} {dn : Nat} {tl : Bool} {H : Nat → List UInt8} {HB : Nat → ByteArray} {L0 : List UInt8} {A0 B0 : List Pc} {av : Nat → Value}
theorem WrI.low (h:WrI w wr B R s P sv dn tl H HB L0 A0 B0 av) (hR:R<w.heap.size) (k:Below wr.heap.size wr w'):WrI w w' B R s P sv dn tl H HB L0 A0 B0 av:=by
 have kk:=Keeps.of k (Nat.le_refl _) (fun _=>False)
 obtain ⟨ad,bf,hi⟩:=h.i
 exact ⟨⟨ad,bf,hi.low kk⟩,h.h.keep kk (fun x=>x),h.a.keep kk (fun x=>x),fun i hj=>(h.v i hj).low k,h.k.more hR kk (fun _ x=>x.elim),Nat.le_trans h.z k.size⟩
theorem WrI.take (h:WrI w wr B R s P sv dn tl H HB L0 A0 B0 av) (hR:R<w.heap.size) {m:Nat} (hm:m<10) (x:Value) {B1 B2:List Pc}
 (hx:AhV wr x (ahd H B2 (nsl A0+nsl B1+1) ((pla A0).length+(pla B1).length) m)) (ho:∀ n,n≠m→ahd H B0 (nsl A0) (pla A0).length n=ahd H B2 (nsl A0+nsl B1+1) ((pla A0).length+(pla B1).length) n):
 ∃ ad bf,RwI (wr.setCell ⟨w.heap.size+1,m,none⟩ x) B R s P sv dn tl (L0++fil H A0) ad bf∧RowF (wr.setCell ⟨w.heap.size+1,m,none⟩ x) 109 w.heap.size 10 (hvV HB)∧
   RowF (wr.setCell ⟨w.heap.size+1,m,none⟩ x) 48 (w.heap.size+1) 10 (fun i=>if i=m then x else av i)∧
   (∀ i,i<10→AhV (wr.setCell ⟨w.heap.size+1,m,none⟩ x) (if i=m then x else av i) (ahd H B2 (nsl A0+nsl B1+1) ((pla A0).length+(pla B1).length) i))∧KpR R w (wr.setCell ⟨w.heap.size+1,m,none⟩ x)∧w.heap.size+2≤(wr.setCell ⟨w.heap.size+1,m,none⟩ x).heap.size:=by
 have kk:Keeps wr (wr.setCell ⟨w.heap.size+1,m,none⟩ x) (fun b=>b=w.heap.size+1):=(Keeps.refl wr (fun b=>b=w.heap.size+1)).setCell (S:=fun b=>b=w.heap.size+1) (j:=m) rfl x
 obtain ⟨ad,bf,hi⟩:=h.i
 have hst:∀ g N f,RowF wr 83 g N f→RowF (wr.setCell ⟨w.heap.size+1,m,none⟩ x) 83 g N f:=fun g N f hr=>hr.keep kk (fun e=>RowF.apart hr h.a (by decide) e)
 refine ⟨ad,bf,hi.past kk h.a (by decide) (by omega),h.h.keep kk (fun e=>by omega),h.a.set hm x,fun i hj=>?_,h.k.more hR kk (fun b (e:b=w.heap.size+1)=>by omega),by simpa using h.z⟩
 by_cases e:i=m
 ·subst e;rw [if_pos rfl];exact hx.stay hst
 ·rw [if_neg e,←ho i e];exact (h.v i hj).stay hst
end
def WtR (w:World) (B R:Nat) (s P:ByteArray) (sv:Nat→Value) (dn:Nat) (tl:Bool) (T:List UInt8) (e:Ending) (w':World):Prop:=
 (∃ v,e=.returned v)∧(∃ ad bf,RwI w' B R s P sv dn tl T ad bf)∧KpR R w w'
end Go.Proofs.YtlgodacccilabaaGreatDoor
namespace Go.Proofs.YtlgodacccilabaaGreatDoor
open Go Go.RowKit
set_option linter.unusedVariables false
def slA:Value→Option Addr
 | .slice a _ _=>a
 |_=>none
def slN:Value→Nat
 | .slice _ n _=>n
 |_=>0
def slC:Value→Nat
 | .slice _ _ c=>c
 |_=>0
theorem sl_eq {v:Value} (h:∃ a n c,v=.slice a n c):v=.slice (slA v) (slN v) (slC v):=by
 obtain ⟨a,n,c,rfl⟩:=h
 rfl
def svK (H:Nat→List UInt8) (sv:Nat→Value) (i:Nat):Nat→Value:=fun n=>if n<i∧H n=[] then nilS else sv n
structure W1I (w wr:World) (B R:Nat) (s P:ByteArray) (sv:Nat→Value) (dn:Nat) (tl:Bool) (H:Nat→List UInt8) (HB:Nat→ByteArray) (L0:List UInt8) (i:Nat):Prop where
 rw:∃ ad bf,RwI wr B R s P sv dn tl L0 ad bf
 h:RowF wr 109 w.heap.size 10 (hvV HB)
 a:RowF wr 48 (w.heap.size+1) 10 (svK H sv i)
 k:KpR R w wr
 z:w.heap.size+2≤wr.heap.size
theorem W1I.put {w wr:World} {B R:Nat} {s P:ByteArray} {sv:Nat→Value} {dn:Nat} {tl:Bool} {H:Nat→List UInt8} {HB:Nat→ByteArray} {L0:List UInt8} {i:Nat} (h:W1I w wr B R s P sv dn tl H HB L0 i) (hR:R<w.heap.size) (hi:i<10) (he:H i=[]):
 W1I w (wr.setCell ⟨w.heap.size+1,i,none⟩ nilS) B R s P sv dn tl H HB L0 (i+1):=by
 have kk:Keeps wr (wr.setCell ⟨w.heap.size+1,i,none⟩ nilS) (fun b=>b=w.heap.size+1):=(Keeps.refl wr (fun b=>b=w.heap.size+1)).setCell (S:=fun b=>b=w.heap.size+1) (j:=i) rfl nilS
 obtain ⟨ad,bf,hi9⟩:=h.rw
 refine ⟨⟨ad,bf,hi9.past kk h.a (by decide) (by omega)⟩,h.h.keep kk (fun e=>by omega),(h.a.set hi nilS).congr (fun n hn=>?_),h.k.more hR kk (fun b (e:b=w.heap.size+1)=>by omega),by simpa using h.z⟩
 by_cases e:n=i
 ·subst e;rw [if_pos rfl];simp [svK,he]
 ·rw [if_neg e]
  simp only [svK]
  by_cases e2:H n=[]
  ·by_cases e3:n<i
   ·rw [if_pos ⟨e3,e2⟩,if_pos ⟨by omega,e2⟩]
   ·rw [if_neg (fun x=>e3 x.1),if_neg (fun x=>by have:=x.1;omega)]
  ·rw [if_neg (fun x=>e2 x.2),if_neg (fun x=>e2 x.2)]
theorem W1I.pass {w wr:World} {B R:Nat} {s P:ByteArray} {sv:Nat→Value} {dn:Nat} {tl:Bool} {H:Nat→List UInt8} {HB:Nat→ByteArray} {L0:List UInt8} {i:Nat} (h:W1I w wr B R s P sv dn tl H HB L0 i) (he:H i≠[]):W1I w wr B R s P sv dn tl H HB L0 (i+1):=by
 refine ⟨h.rw,h.h,h.a.congr (fun n hn=>?_),h.k,h.z⟩
 simp only [svK]
 by_cases e2:H n=[]
 ·by_cases e3:n<i
  ·rw [if_pos ⟨e3,e2⟩,if_pos ⟨by omega,e2⟩]
  ·rw [if_neg (fun x=>e3 x.1),if_neg (fun x=>by
    have h1:=x.1
    have:n=i:=by omega
    subst this
    exact he e2)]
 ·rw [if_neg (fun x=>e2 x.2),if_neg (fun x=>e2 x.2)]
theorem W1I.fin {w wr:World} {B R:Nat} {s P:ByteArray} {sv:Nat→Value} {dn:Nat} {tl:Bool} {H:Nat→List UInt8} {HB:Nat→ByteArray} {L0:List UInt8} {ps:List Pc} (h:W1I w wr B R s P sv dn tl H HB L0 10) (hv:∀ i,i<10→AhV wr (sv i) (slF i ps 0 0)):
 WrI w wr B R s P sv dn tl H HB L0 [] ps (svK H sv 10):=by
 obtain ⟨ad,bf,hi9⟩:=h.rw
 refine ⟨⟨ad,bf,by simpa [fil] using hi9⟩,h.h,h.a,fun i hi=>?_,h.k,h.z⟩
 simp only [svK,nsl,pla,List.length_nil,ahd]
 by_cases e:H i=[]
 ·rw [if_pos ⟨hi,e⟩,if_pos e];exact AhV.nil wr
 ·rw [if_neg (fun x=>e x.2),if_neg e];exact hv i hi
theorem ext_list (P:ByteArray) (a b:Nat):(P.extract a b).data.toList=(P.data.toList.drop a).take (b-a):=by simp
theorem info_sl1:(Tryz.prog.info? 83).map (fun i=>(i.zero,i.size,i.bytes))=some (some (.agg #[.int .i64 0,.int .i64 0]),2,16):=by kernel_rfl
theorem sl_one (a:Addr) (n cap:Nat) (w:World):(Instr.slice 47 (.slice (some a) (n+1) cap) (some (.int .i64 1)) none none).run Tryz.prog w=.ok (.slice (if cap=1 then some a else some (a.add 2)) n (cap-1)) w:=by
 obtain ⟨i0,hi,hz0,hz1,hz2⟩:=info_parts info_sl1
 have h1:(1:Int)≤((n+1:Nat):Int):=by omega
 have h2:(Instr.sliceBound (.int .i64 1) (n+1) BoundsCode.sliceB).run Tryz.prog w=.ok 1 w:=by
  rw [run_sliceBound w .i64 1 (n+1) BoundsCode.sliceB (by omega) (by omega)]
  rfl
 simp [Instr.slice,run_underlying Tryz.underlying47,Instr.sliceBounds,sizeOf,typeInfo,hi,hz1,h2]
def sum10 (f:Nat→Nat):Nat:=f 0+f 1+f 2+f 3+f 4+f 5+f 6+f 7+f 8+f 9
def msr (g:Nat) (w:World):Nat:=sum10 (fun k=>slN ((w.cell? ⟨g,k,none⟩).getD (.bool false)))
theorem sum10_congr {f f':Nat→Nat} (h:∀ n,n<10→f n=f' n):sum10 f=sum10 f':=by
 unfold sum10
 rw [h 0 (by omega),h 1 (by omega),h 2 (by omega),h 3 (by omega),h 4 (by omega),h 5 (by omega),h 6 (by omega),h 7 (by omega),h 8 (by omega),h 9 (by omega)]
theorem sum10_lt {f f':Nat→Nat} {m:Nat} (hm:m<10) (h1:f' m<f m) (h2:∀ n,n≠m→f' n=f n):sum10 f'<sum10 f:=by
 unfold sum10
 rcases ten_cases hm with rfl|rfl|rfl|rfl|rfl|rfl|rfl|rfl|rfl|rfl
 ·rw [h2 1 (by omega),h2 2 (by omega),h2 3 (by omega),h2 4 (by omega),h2 5 (by omega),h2 6 (by omega),h2 7 (by omega),h2 8 (by omega),h2 9 (by omega)];omega
 ·rw [h2 0 (by omega),h2 2 (by omega),h2 3 (by omega),h2 4 (by omega),h2 5 (by omega),h2 6 (by omega),h2 7 (by omega),h2 8 (by omega),h2 9 (by omega)];omega
 ·rw [h2 0 (by omega),h2 1 (by omega),h2 3 (by omega),h2 4 (by omega),h2 5 (by omega),h2 6 (by omega),h2 7 (by omega),h2 8 (by omega),h2 9 (by omega)];omega
 ·rw [h2 0 (by omega),h2 1 (by omega),h2 2 (by omega),h2 4 (by omega),h2 5 (by omega),h2 6 (by omega),h2 7 (by omega),h2 8 (by omega),h2 9 (by omega)];omega
 ·rw [h2 0 (by omega),h2 1 (by omega),h2 2 (by omega),h2 3 (by omega),h2 5 (by omega),h2 6 (by omega),h2 7 (by omega),h2 8 (by omega),h2 9 (by omega)];omega
 ·rw [h2 0 (by omega),h2 1 (by omega),h2 2 (by omega),h2 3 (by omega),h2 4 (by omega),h2 6 (by omega),h2 7 (by omega),h2 8 (by omega),h2 9 (by omega)];omega
 ·rw [h2 0 (by omega),h2 1 (by omega),h2 2 (by omega),h2 3 (by omega),h2 4 (by omega),h2 5 (by omega),h2 7 (by omega),h2 8 (by omega),h2 9 (by omega)];omega
 ·rw [h2 0 (by omega),h2 1 (by omega),h2 2 (by omega),h2 3 (by omega),h2 4 (by omega),h2 5 (by omega),h2 6 (by omega),h2 8 (by omega),h2 9 (by omega)];omega
 ·rw [h2 0 (by omega),h2 1 (by omega),h2 2 (by omega),h2 3 (by omega),h2 4 (by omega),h2 5 (by omega),h2 6 (by omega),h2 7 (by omega),h2 9 (by omega)];omega
 ·rw [h2 0 (by omega),h2 1 (by omega),h2 2 (by omega),h2 3 (by omega),h2 4 (by omega),h2 5 (by omega),h2 6 (by omega),h2 7 (by omega),h2 8 (by omega)];omega
theorem msr_eq {w:World} {T g:Nat} {av:Nat→Value} {A:Nat→List (Nat × Nat)} (h:RowF w T g 10 av) (hv:∀ i,i<10→AhV w (av i) (A i)):msr g w=sum10 (fun k=>(A k).length):=by
 refine sum10_congr (fun n hn=>?_)
 rw [h.cell hn]
 obtain ⟨a,cap,e,_⟩:=hv n hn
 rw [e]
 rfl
set_option maxHeartbeats 1600000 in
set_option maxRecDepth 100000 in
theorem write_any (w:World) (B R:Nat) (s P:ByteArray) (sv:Nat→Value) (dn:Nat) (tl:Bool) (L0:List UInt8) (ad bf:Value) (ps:List Pc) (H:Nat→List UInt8) (HB:Nat→ByteArray) (hI:RwI w B R s P sv dn tl L0 ad bf) (hB:B≤w.heap.size) (hR:R<w.heap.size)
 (hP:P.data.toList=pla ps) (hHB:∀ i,i<10→HB i=⟨(H i).toArray⟩) (hok:∀ n,Pc.s n∈ps→n<10) (hv:∀ i,i<10→AhV w (sv i) (slF i ps 0 0)) (hlen:L0.length+(fil H ps).length≤140737488355328) (hpl:ps.length≤1048576):
 Calls Tryz.prog 40 #[.pointer (some ⟨R,1,none⟩),.pointer (some ⟨R,13,none⟩),.agg (arT (hvV HB))] w fun e w'=>WtR w B R s P sv dn tl (L0++fil H ps) e w':=by
 have hse:∀ i,i<10→sv i=.slice (slA (sv i)) (slN (sv i)) (slC (sv i)):=fun i hi=>by
  obtain ⟨a,cap,e,_⟩:=hv i hi
  exact sl_eq ⟨_,_,_,e⟩
 have hb0:=b_2 w (.cells #[.string (HB 0),.string (HB 1),.string (HB 2),.string (HB 3),.string (HB 4),.string (HB 5),.string (HB 6),.string (HB 7),.string (HB 8),.string (HB 9)] 109) (.cells #[.slice (slA (sv 0)) (slN (sv 0)) (slC (sv 0)),.slice (slA (sv 1)) (slN (sv 1)) (slC (sv 1)),.slice (slA (sv 2)) (slN (sv 2)) (slC (sv 2)),.slice (slA (sv 3)) (slN (sv 3)) (slC (sv 3)),.slice (slA (sv 4)) (slN (sv 4)) (slC (sv 4)),.slice (slA (sv 5)) (slN (sv 5)) (slC (sv 5)),.slice (slA (sv 6)) (slN (sv 6)) (slC (sv 6)),.slice (slA (sv 7)) (slN (sv 7)) (slC (sv 7)),.slice (slA (sv 8)) (slN (sv 8)) (slC (sv 8)),.slice (slA (sv 9)) (slN (sv 9)) (slC (sv 9))] 48)
 have kk:=Keeps.of hb0 (Nat.le_refl _) (fun _=>False)
 have H1:=hide (show W1I w ((w.alloc (.cells #[.string (HB 0),.string (HB 1),.string (HB 2),.string (HB 3),.string (HB 4),.string (HB 5),.string (HB 6),.string (HB 7),.string (HB 8),.string (HB 9)] 109)).alloc (.cells #[.slice (slA (sv 0)) (slN (sv 0)) (slC (sv 0)),.slice (slA (sv 1)) (slN (sv 1)) (slC (sv 1)),.slice (slA (sv 2)) (slN (sv 2)) (slC (sv 2)),.slice (slA (sv 3)) (slN (sv 3)) (slC (sv 3)),.slice (slA (sv 4)) (slN (sv 4)) (slC (sv 4)),.slice (slA (sv 5)) (slN (sv 5)) (slC (sv 5)),.slice (slA (sv 6)) (slN (sv 6)) (slC (sv 6)),.slice (slA (sv 7)) (slN (sv 7)) (slC (sv 7)),.slice (slA (sv 8)) (slN (sv 8)) (slC (sv 8)),.slice (slA (sv 9)) (slN (sv 9)) (slC (sv 9))] 48)) B R s P sv dn tl H HB L0 0 from by
  refine ⟨⟨ad,bf,hI.low kk⟩,?_,?_,(KpR.refl R w).more hR kk (fun _ x=>x.elim),by simp⟩
  ·exact (arT_row (v:=hvV HB) (heap_alloc_new w _)).keep (Keeps.of (b_1 _ _) (Nat.le_refl _) (fun _=>False)) (fun x=>x)
  ·refine (arT_row (v:=fun i=>.slice (slA (sv i)) (slN (sv i)) (slC (sv i))) ?_).congr (fun n hn=>by rw [←hse n hn];simp [svK])
   have:=heap_alloc_new (w.alloc (.cells #[.string (HB 0),.string (HB 1),.string (HB 2),.string (HB 3),.string (HB 4),.string (HB 5),.string (HB 6),.string (HB 7),.string (HB 8),.string (HB 9)] 109)) (.cells #[.slice (slA (sv 0)) (slN (sv 0)) (slC (sv 0)),.slice (slA (sv 1)) (slN (sv 1)) (slC (sv 1)),.slice (slA (sv 2)) (slN (sv 2)) (slC (sv 2)),.slice (slA (sv 3)) (slN (sv 3)) (slC (sv 3)),.slice (slA (sv 4)) (slN (sv 4)) (slC (sv 4)),.slice (slA (sv 5)) (slN (sv 5)) (slC (sv 5)),.slice (slA (sv 6)) (slN (sv 6)) (slC (sv 6)),.slice (slA (sv 7)) (slN (sv 7)) (slC (sv 7)),.slice (slA (sv 8)) (slN (sv 8)) (slC (sv 8)),.slice (slA (sv 9)) (slN (sv 9)) (slC (sv 9))] 48)
   simpa [arT] using this)
 have HS:=hide (show ∀ i,i<10→(w.alloc (.cells #[.string (HB 0),.string (HB 1),.string (HB 2),.string (HB 3),.string (HB 4),.string (HB 5),.string (HB 6),.string (HB 7),.string (HB 8),.string (HB 9)] 109)).cell? ⟨R,i+2,none⟩=some (.slice (slA (sv i)) (slN (sv i)) (slC (sv i))) from fun i hi=>by
  rw [←hse i hi]
  have h0:=((hI.low (Keeps.of (b_1 w (.cells #[.string (HB 0),.string (HB 1),.string (HB 2),.string (HB 3),.string (HB 4),.string (HB 5),.string (HB 6),.string (HB 7),.string (HB 8),.string (HB 9)] 109)) (Nat.le_refl _) (fun _=>False))).r.f.cell (j:=i+2) (by omega))
  rw [h0]
  simp only [rwF]
  rw [if_neg (by omega),if_neg (by omega),if_pos (by omega),Nat.add_sub_cancel])
 have HVv:=hide hv
 have HPx:=hide hP
 have HHB:=hide hHB
 have HOK:=hide hok
 have HSE:=hide hse
 have HI0:=hide hI
 clear hb0 kk hI hv hP hHB hok hse
 dsimp only [arT,hvV]
 have c0:(w.alloc (.cells #[.string (HB 0),.string (HB 1),.string (HB 2),.string (HB 3),.string (HB 4),.string (HB 5),.string (HB 6),.string (HB 7),.string (HB 8),.string (HB 9)] 109)).cell? ⟨R,2,none⟩=some (.slice (slA (sv 0)) (slN (sv 0)) (slC (sv 0))):=HS.out 0 (by omega)
 have c1:(w.alloc (.cells #[.string (HB 0),.string (HB 1),.string (HB 2),.string (HB 3),.string (HB 4),.string (HB 5),.string (HB 6),.string (HB 7),.string (HB 8),.string (HB 9)] 109)).cell? ⟨R,3,none⟩=some (.slice (slA (sv 1)) (slN (sv 1)) (slC (sv 1))):=HS.out 1 (by omega)
 have c2:(w.alloc (.cells #[.string (HB 0),.string (HB 1),.string (HB 2),.string (HB 3),.string (HB 4),.string (HB 5),.string (HB 6),.string (HB 7),.string (HB 8),.string (HB 9)] 109)).cell? ⟨R,4,none⟩=some (.slice (slA (sv 2)) (slN (sv 2)) (slC (sv 2))):=HS.out 2 (by omega)
 have c3:(w.alloc (.cells #[.string (HB 0),.string (HB 1),.string (HB 2),.string (HB 3),.string (HB 4),.string (HB 5),.string (HB 6),.string (HB 7),.string (HB 8),.string (HB 9)] 109)).cell? ⟨R,5,none⟩=some (.slice (slA (sv 3)) (slN (sv 3)) (slC (sv 3))):=HS.out 3 (by omega)
 have c4:(w.alloc (.cells #[.string (HB 0),.string (HB 1),.string (HB 2),.string (HB 3),.string (HB 4),.string (HB 5),.string (HB 6),.string (HB 7),.string (HB 8),.string (HB 9)] 109)).cell? ⟨R,6,none⟩=some (.slice (slA (sv 4)) (slN (sv 4)) (slC (sv 4))):=HS.out 4 (by omega)
 have c5:(w.alloc (.cells #[.string (HB 0),.string (HB 1),.string (HB 2),.string (HB 3),.string (HB 4),.string (HB 5),.string (HB 6),.string (HB 7),.string (HB 8),.string (HB 9)] 109)).cell? ⟨R,7,none⟩=some (.slice (slA (sv 5)) (slN (sv 5)) (slC (sv 5))):=HS.out 5 (by omega)
 have c6:(w.alloc (.cells #[.string (HB 0),.string (HB 1),.string (HB 2),.string (HB 3),.string (HB 4),.string (HB 5),.string (HB 6),.string (HB 7),.string (HB 8),.string (HB 9)] 109)).cell? ⟨R,8,none⟩=some (.slice (slA (sv 6)) (slN (sv 6)) (slC (sv 6))):=HS.out 6 (by omega)
 have c7:(w.alloc (.cells #[.string (HB 0),.string (HB 1),.string (HB 2),.string (HB 3),.string (HB 4),.string (HB 5),.string (HB 6),.string (HB 7),.string (HB 8),.string (HB 9)] 109)).cell? ⟨R,9,none⟩=some (.slice (slA (sv 7)) (slN (sv 7)) (slC (sv 7))):=HS.out 7 (by omega)
 have c8:(w.alloc (.cells #[.string (HB 0),.string (HB 1),.string (HB 2),.string (HB 3),.string (HB 4),.string (HB 5),.string (HB 6),.string (HB 7),.string (HB 8),.string (HB 9)] 109)).cell? ⟨R,10,none⟩=some (.slice (slA (sv 8)) (slN (sv 8)) (slC (sv 8))):=HS.out 8 (by omega)
 have c9:(w.alloc (.cells #[.string (HB 0),.string (HB 1),.string (HB 2),.string (HB 3),.string (HB 4),.string (HB 5),.string (HB 6),.string (HB 7),.string (HB 8),.string (HB 9)] 109)).cell? ⟨R,11,none⟩=some (.slice (slA (sv 9)) (slN (sv 9)) (slC (sv 9))):=HS.out 9 (by omega)
 go_enter Tryz.func40,Tryz.ntmps40
 go_wp2_with fail
 clear c0 c1 c2 c3 c4 c5 c6 c7 c8 c9
 generalize ((w.alloc (.cells #[.string (HB 0),.string (HB 1),.string (HB 2),.string (HB 3),.string (HB 4),.string (HB 5),.string (HB 6),.string (HB 7),.string (HB 8),.string (HB 9)] 109)).alloc (.cells #[.slice (slA (sv 0)) (slN (sv 0)) (slC (sv 0)),.slice (slA (sv 1)) (slN (sv 1)) (slC (sv 1)),.slice (slA (sv 2)) (slN (sv 2)) (slC (sv 2)),.slice (slA (sv 3)) (slN (sv 3)) (slC (sv 3)),.slice (slA (sv 4)) (slN (sv 4)) (slC (sv 4)),.slice (slA (sv 5)) (slN (sv 5)) (slC (sv 5)),.slice (slA (sv 6)) (slN (sv 6)) (slC (sv 6)),.slice (slA (sv 7)) (slN (sv 7)) (slC (sv 7)),.slice (slA (sv 8)) (slN (sv 8)) (slC (sv 8)),.slice (slA (sv 9)) (slN (sv 9)) (slC (sv 9))] 48))=w0 at *
 go_loopw [15] (fun iv wr=>∃ i:Nat,iv=.int .i64 i∧i≤10∧Hid (W1I w wr B R s P sv dn tl H HB L0 i)) (fun iv _=>11-ivN iv)
 case atStart=>exact ⟨0,rfl,by omega,H1⟩
 case round=>
  clear H1
  obtain ⟨i,rfl,hi9,HI⟩:=hrel
  by_cases hi:i<10
  ·have hi2:(i:Int)<10:=by omega
   have hh:wr.cell? ⟨w.heap.size,i,none⟩=some (.string (HB i)):=HI.out.h.cell (j:=i) hi
   by_cases he:H i=[]
   ·have hbe:HB i=⟨#[]⟩:=by rw [HHB.out i hi,he]
    rw [hbe] at hh
    have d0:wr.cell? ⟨w.heap.size+1,i,none⟩=some (svK H sv i i):=HI.out.a.cell (j:=i) hi
    have d1:wr.frozen? ⟨w.heap.size+1,i,none⟩=false:=HI.out.a.frz i
    have HI2:=hide (HI.out.put hR hi he)
    clear HI hbe he
    go_wp2_with fail
    go_roundw
    case rel=>exact ⟨i+1,by simp,by omega,HI2⟩
    case measure=>simp [ivN];omega
   ·have hbe:(HB i).toList.isEmpty=false:=by
     rw [HHB.out i hi,ByteArray.toList_eq]
     cases hq:H i with
     |nil=>exact absurd hq he
     |cons=>rfl
    have HI2:=hide (HI.out.pass he)
    clear HI he
    generalize HB i=Hi at *
    go_wp2_with fail
    go_roundw
    case rel=>exact ⟨i+1,by simp,by omega,HI2⟩
    case measure=>simp [ivN];omega
  ·obtain rfl:i=10:=by omega
   have HW0:=hide (HI.out.fin (ps:=ps) (fun i hi=>(HVv.out i hi).stay (fun g N f hr=>HI.out.k.row HI0.out hr (by decide) (fun e=>RowF.apart hr HI0.out.r.f (by decide) e))))
   clear HI
   rw [show ((10:Nat):Int)=(10:Int) from rfl]
   go_wp2_with fail
   go_loopw [8] (fun dv wr=>∃ (A0 B0:List Pc) (av:Nat→Value),dv=.int .i64 ((pla A0).length:Int)∧Hid (ps=A0++B0∧WrI w wr B R s P sv dn tl H HB L0 A0 B0 av)) (fun _ wr=>msr (w.heap.size+1) wr)
   case atStart=>exact ⟨[],ps,svK H sv 10,rfl,hide ⟨rfl,HW0.out⟩⟩
   case round=>
    clear HW0
    obtain ⟨A0,B0,av,rfl,HI⟩:=hrel
    have hpA:(pla A0).length≤1048576:=by
     have h1:=pla_len A0
     have h2:=HI.out.1
     rw [h2,List.length_append] at hpl
     omega
    have hok2:∀ n,Pc.s n∈B0→n<10:=fun n hn=>HOK.out n (by rw [HI.out.1];exact List.mem_append_right _ hn)
    have HOK2:=hide hok2
    clear hok2
    have HN:=hide (show Calls Tryz.prog 61 #[.agg #[av 0,av 1,av 2,av 3,av 4,av 5,av 6,av 7,av 8,av 9]] wr _ from nextSlot_any av (ahd H B0 (nsl A0) (pla A0).length) wr HI.out.2.v)
    have HM:=hide (msr_eq HI.out.2.a HI.out.2.v)
    have c0:wr.cell? ⟨w.heap.size+1,0,none⟩=some (av 0):=HI.out.2.a.cell (j:=0) (by omega)
    have c1:wr.cell? ⟨w.heap.size+1,1,none⟩=some (av 1):=HI.out.2.a.cell (j:=1) (by omega)
    have c2:wr.cell? ⟨w.heap.size+1,2,none⟩=some (av 2):=HI.out.2.a.cell (j:=2) (by omega)
    have c3:wr.cell? ⟨w.heap.size+1,3,none⟩=some (av 3):=HI.out.2.a.cell (j:=3) (by omega)
    have c4:wr.cell? ⟨w.heap.size+1,4,none⟩=some (av 4):=HI.out.2.a.cell (j:=4) (by omega)
    have c5:wr.cell? ⟨w.heap.size+1,5,none⟩=some (av 5):=HI.out.2.a.cell (j:=5) (by omega)
    have c6:wr.cell? ⟨w.heap.size+1,6,none⟩=some (av 6):=HI.out.2.a.cell (j:=6) (by omega)
    have c7:wr.cell? ⟨w.heap.size+1,7,none⟩=some (av 7):=HI.out.2.a.cell (j:=7) (by omega)
    have c8:wr.cell? ⟨w.heap.size+1,8,none⟩=some (av 8):=HI.out.2.a.cell (j:=8) (by omega)
    have c9:wr.cell? ⟨w.heap.size+1,9,none⟩=some (av 9):=HI.out.2.a.cell (j:=9) (by omega)
    go_wp2_with fail
    clear c0 c1 c2 c3 c4 c5 c6 c7 c8 c9
    refine HN.out.mono ?_
    rintro e w2 ⟨hb2,x,rfl,hx⟩
    have HI2:=hide (HI.out.2.low hR hb2)
    have HPS:=hide HI.out.1
    clear HN HI hb2
    rcases hx with ⟨rfl,hall⟩|⟨m,rfl,hm,hne,hmin⟩
    ·have HF:=hide (nxR_none HOK2.out hall)
     clear hall
     obtain ⟨ad2,bf2,hi2⟩:=HI2.out.i
     have p1:w2.cell? ⟨R,1,none⟩=some (.string P):=hi2.r.f.cell (j:=1) (by omega)
     have HPz:=hide (show P.size=(pla A0).length+(pla B0).length by
      have h1:P.data.toList.length=P.size:=Array.length_toList
      rw [←h1,HPx.out,HPS.out,pla_app,List.length_append])
     have hdn:(pla A0).length≤P.size:=by have:=HPz.out;omega
     have HE:=hide (show (P.extract (pla A0).length P.size).data.toList=pla B0 by
      rw [ext_list,HPx.out,HPS.out,pla_app,HPz.out,List.drop_left,Nat.add_sub_cancel_left,List.take_length])
     have hsl:∀ w':World,(Instr.slice 9 (.string P) (some (.int .i64 ((pla A0).length:Int))) none none).run Tryz.prog w'=.ok (.string (P.extract (pla A0).length P.size)) w':=fun w'=>by
      rw [run_slice_string_l w' 9 P Tryz.underlying9 .i64 _ (by omega) (by omega),Int.toNat_natCast]
     have HFL:=hide (show fil H ps=fil H A0++pla B0 by rw [HPS.out,fil_app,HF.out])
     have HLn:=hide (show (L0++fil H A0).length+(P.extract (pla A0).length P.size).size≤140737488355328 by
      have h1:(P.extract (pla A0).length P.size).data.toList.length=(P.extract (pla A0).length P.size).size:=Array.length_toList
      have h2:=hlen
      rw [HFL.out,List.length_append] at h2
      rw [←h1,HE.out,List.length_append]
      omega)
     have hB2:B≤w2.heap.size:=by have:=HI2.out.k.k.size;omega
     have HWs:=hide (writeS_any w2 B R s P sv dn tl _ _ _ _ hi2 hB2 HLn.out)
     have HK2:=hide HI2.out.k
     clear hi2 HI2
     generalize P.extract (pla A0).length P.size=E at *
     go_wp2_with fail
     refine HWs.out.mono ?_
     rintro e w3 ⟨rfl,⟨bf3,h3⟩,k3⟩
     have HFin:=hide (show WtR w B R s P sv dn tl (L0++fil H ps) (.returned (.tuple #[])) w3 from ⟨⟨_,rfl⟩,⟨_,bf3,by rw [HFL.out,←List.append_assoc,←HE.out];exact h3⟩,HK2.out.trans k3⟩)
     clear h3 k3 HWs HK2
     go_wp2_with fail
     go_end0
     exact HFin.out
    ·obtain ⟨b1,b2,e1,e2,e3,e4⟩:=nxR_some HOK2.out hm hne hmin
     clear hne hmin
     have hm0:¬ ((m:Int)<0):=by omega
     have hm10:(m:Int)<10:=by omega
     have hav:=HI2.out.v m hm
     rw [e3] at hav
     obtain ⟨g,o,cap,hgv,hcap,k0,k1,t1,t2⟩:=hav.head
     have am:w2.cell? ⟨w.heap.size+1,m,none⟩=some (.slice (some ⟨g,o,none⟩) ((ahd H b2 (nsl A0+nsl b1+1) ((pla A0).length+(pla b1).length) m).length+1) cap):=(HI2.out.a.cell (j:=m) hm).trans (by rw [hgv])
     have az:w2.frozen? ⟨w.heap.size+1,m,none⟩=false:=HI2.out.a.frz m
     have HMs:=hide (show sum10 (fun k=>(ahd H b2 (nsl A0+nsl b1+1) ((pla A0).length+(pla b1).length) k).length)<sum10 (fun k=>(ahd H B0 (nsl A0) (pla A0).length k).length) from sum10_lt hm (by rw [e3];simp) (fun n hn=>by rw [e4 n hn]))
     have HPz:=hide (show P.size=(pla A0).length+(pla b1).length+(pla b2).length by
      have h1:P.data.toList.length=P.size:=Array.length_toList
      rw [←h1,HPx.out,HPS.out,pla_app,e1,pla_app,List.length_append,List.length_append]
      simp only [pla]
      omega)
     have hdn:(pla A0).length+(pla b1).length≤P.size:=by have:=HPz.out;omega
     have HE:=hide (show (P.extract (pla A0).length ((pla A0).length+(pla b1).length)).data.toList=pla b1 by
      rw [ext_list,HPx.out,HPS.out,pla_app,List.drop_left,Nat.add_sub_cancel_left,e1,pla_app,List.take_left])
     have hsl:∀ w':World,(Instr.slice 9 (.string P) (some (.int .i64 ((pla A0).length:Int))) (some (.int .i64 ((pla A0).length+(pla b1).length:Nat))) none).run Tryz.prog w'=.ok (.string (P.extract (pla A0).length ((pla A0).length+(pla b1).length))) w':=fun w'=>sl_run P _ _ (by omega) hdn w'
     have HA2:=hide (show fil H (A0++(b1++[.s m]))=fil H A0++pla b1++H m by rw [fil_app,fil_app,e2];simp [fil])
     have HP2:=hide (show pla (A0++(b1++[.s m]))=pla A0++pla b1 by rw [pla_app,pla_app];simp [pla])
     have HN2:=hide (show nsl (A0++(b1++[.s m]))=nsl A0+nsl b1+1 by rw [nsl_app,nsl_app];simp [nsl];omega)
     have HPS2:=hide (show ps=(A0++(b1++[.s m]))++b2 by rw [HPS.out,e1];simp)
     have HLn:=hide (show (L0++fil H A0).length+(pla b1).length+(H m).length≤140737488355328 by
      have h2:=hlen
      rw [HPS2.out,fil_app,HA2.out] at h2
      simp only [List.length_append] at h2 ⊢
      omega)
     have HOth:=hide e4
     have hsum:((pla A0).length+(pla b1).length:Nat)=(pla A0).length+(pla b1).length:=rfl
     clear hgv e1 e2 e3 e4 hav hsum
     obtain ⟨x',hx',hslx⟩:∃ x',AhV w2 x' (ahd H b2 (nsl A0+nsl b1+1) ((pla A0).length+(pla b1).length) m)∧(∃ a9 n9 c9,x'=.slice a9 n9 c9)∧∀ w',(Instr.slice 47 (.slice (some ⟨g,o,none⟩) ((ahd H b2 (nsl A0+nsl b1+1) ((pla A0).length+(pla b1).length) m).length+1) cap) (some (.int .i64 1)) none none).run Tryz.prog w'=.ok x' w':=by
      by_cases hc1:cap=1
      ·exact ⟨_,t1 hc1,⟨_,_,_,rfl⟩,fun w'=>by rw [sl_one,if_pos hc1,hc1]⟩
      ·exact ⟨_,t2 hc1,⟨_,_,_,rfl⟩,fun w'=>by rw [sl_one,if_neg hc1,add_none']⟩
     obtain ⟨⟨a9,n9,c9,rfl⟩,hslx⟩:=hslx
     clear t1 t2
     have p0:w2.cell? ⟨R,1,none⟩=some (.string P):=by
      obtain ⟨ad9,bf9,h9⟩:=HI2.out.i
      exact h9.r.f.cell (j:=1) (by omega)
     have hRne:¬ (R=w.heap.size+1):=by omega
     obtain ⟨ad3,bf3,q1,q2,q3,q4,q5,q6⟩:=HI2.out.take hR hm (.slice a9 n9 c9) hx' HOth.out
     have p1:(w2.setCell ⟨w.heap.size+1,m,none⟩ (.slice a9 n9 c9)).cell? ⟨R,1,none⟩=some (.string P):=q1.r.f.cell (j:=1) (by omega)
     have hB3:B≤(w2.setCell ⟨w.heap.size+1,m,none⟩ (.slice a9 n9 c9)).heap.size:=by omega
     have HQ:=hide (And.intro q1 (And.intro q2 (And.intro q3 (And.intro q4 (And.intro q5 q6)))))
     have HEz:=hide (show (P.extract (pla A0).length ((pla A0).length+(pla b1).length)).size=(pla b1).length by
      have h1:(P.extract (pla A0).length ((pla A0).length+(pla b1).length)).data.toList.length=(P.extract (pla A0).length ((pla A0).length+(pla b1).length)).size:=Array.length_toList
      rw [←h1,HE.out])
     have HW1:=hide (writeS_any _ B R s P sv dn tl _ _ _ (P.extract (pla A0).length ((pla A0).length+(pla b1).length)) q1 hB3 (by rw [HEz.out];have:=HLn.out;omega))
     clear q1 q2 q3 q4 q5 q6 hx' HI2
     have hcast:(((pla A0).length+(pla b1).length:Nat):Int)=((pla A0).length:Int)+((pla b1).length:Int):=by omega
     rw [hcast] at k1
     generalize hlenm:(ahd H b2 (nsl A0+nsl b1+1) ((pla A0).length+(pla b1).length) m).length=nm at am hslx
     have HLM:=hide hlenm
     clear hlenm
     go_wp2_with fail
     generalize w2.setCell ⟨w.heap.size+1,m,none⟩ (.slice a9 n9 c9)=w3 at *
     refine HW1.out.mono ?_
     rintro e w4 ⟨rfl,⟨bf4,h4⟩,k4⟩
     obtain ⟨q1,q2,q3,q4,q5,q6⟩:=HQ.out
     have hr4:=k4.row q1 q2 (by decide) (by omega)
     have ha4:=k4.row q1 q3 (by decide) (by omega)
     have hv4:=fun i hi=>(q4 i hi).stay (fun g N f hr=>k4.row q1 hr (by decide) (fun e=>RowF.apart hr q1.r.f (by decide) e))
     have hk4:=q5.trans k4
     have hz4:w.heap.size+2≤w4.heap.size:=Nat.le_trans q6 k4.k.size
     have hm4:w4.cell? ⟨w.heap.size,m,none⟩=some (.string (HB m)):=hr4.cell (j:=m) hm
     have hBm:HB m=⟨(H m).toArray⟩:=HHB.out m hm
     rw [hBm] at hm4
     have HB4:=hide hBm
     have HW2:=hide (writeS_any w4 B R s P sv dn tl _ _ _ ⟨(H m).toArray⟩ h4 (by omega) (by
      have h1:=HLn.out
      have h2:(⟨(H m).toArray⟩:ByteArray).size=(H m).length:=by show (H m).toArray.size=_;simp
      rw [h2,List.length_append,HE.out]
      omega))
     have HQ4:=hide (And.intro h4 (And.intro hr4 (And.intro ha4 (And.intro hv4 (And.intro hk4 hz4)))))
     clear q1 q2 q3 q4 q5 q6 HQ HW1 h4 k4 hr4 ha4 hv4 hk4 hBm p0 p1
     go_wp2_with fail
     refine HW2.out.mono ?_
     rintro e w5 ⟨rfl,⟨bf5,h5⟩,k5⟩
     obtain ⟨q1,q2,q3,q4,q5,q6⟩:=HQ4.out
     have ha5:=k5.row q1 q3 (by decide) (by omega)
     have hv5:=fun i hi=>(q4 i hi).stay (fun g N f hr=>k5.row q1 hr (by decide) (fun e=>RowF.apart hr q1.r.f (by decide) e))
     have HI5:=hide (show WrI w w5 B R s P sv dn tl H HB L0 (A0++(b1++[.s m])) b2 (fun i=>if i=m then .slice a9 n9 c9 else av i) from
      ⟨⟨_,bf5,by rw [HA2.out,←List.append_assoc,←List.append_assoc,←HE.out];exact h5⟩,k5.row q1 q2 (by decide) (by omega),ha5,by rw [HN2.out,HP2.out,List.length_append];exact hv5,q5.trans k5,Nat.le_trans q6 k5.k.size⟩)
     have HM5:=hide (msr_eq ha5 hv5)
     clear q1 q2 q3 q4 q5 q6 HQ4 HW2 h5 k5 ha5 hv5
     go_wp2_with fail
     go_roundw
     case rel=>exact ⟨A0++(b1++[.s m]),b2,_,by rw [HP2.out,List.length_append];simp,hide ⟨HPS2.out,HI5.out⟩⟩
     case measure=>show msr _ _<msr _ _;rw [HM.out,HM5.out];exact HMs.out
end Go.Proofs.YtlgodacccilabaaGreatDoor
namespace Go.Proofs.YtlgodacccilabaaGreatDoor
open Go Go.RowKit
set_option linter.unusedVariables false
set_option maxHeartbeats 1600000 in
set_option maxRecDepth 100000 in
theorem len_any (w:World) (B R:Nat) (s P:ByteArray) (sv:Nat→Value) (dn:Nat) (tl:Bool) (L:List UInt8) (ad bf:Value) (h:RwI w B R s P sv dn tl L ad bf):
 Calls Tryz.prog 59 #[.pointer (some ⟨R,13,none⟩)] w fun e w'=>e=.returned (.int .i64 L.length)∧w'=w:=by
 have c14:=h.c14
 obtain ⟨a,c,rfl⟩:=owns_val h.o
 clear h
 go_enter Tryz.func59,Tryz.ntmps59
 go_wp2_with fail
 refine bodyPost_ret (v:=.int .i64 L.length) ?_ rfl ⟨rfl,rfl⟩
 simp [results,Tryz.results59,go_sem]
def HrR (w:World) (B R:Nat) (s P:ByteArray) (sv:Nat→Value) (dn:Nat) (tl:Bool) (L:List UInt8) (ad bf:Value) (w':World):Prop:=
 RwI w' B R s P sv dn tl L ad bf∧KpR R w w'∧w'.heap.size=w.heap.size
theorem RwI.tooLong {w:World} {B R:Nat} {s P:ByteArray} {sv:Nat→Value} {dn:Nat} {tl:Bool} {L:List UInt8} {ad bf:Value} (h:RwI w B R s P sv dn tl L ad bf) (x:Bool):HrR w B R s P sv dn x L ad bf (w.setCell ⟨R,15,none⟩ (.bool x)):=
 ⟨⟨(h.r.set (j:=15) (by omega) _).congr (rw_tl _),h.a,h.setC 15 _⟩,KpR.cell h (by omega) _,by simp⟩
set_option maxHeartbeats 1600000 in
set_option maxRecDepth 100000 in
theorem hasRoom_any (w:World) (B R:Nat) (s P:ByteArray) (sv:Nat→Value) (dn:Nat) (tl:Bool) (L:List UInt8) (ad bf:Value) (n:Int) (h:RwI w B R s P sv dn tl L ad bf) (hn: -1000000000000≤n∧n≤1000000000000) (hL:L.length≤1000000000000):
 Calls Tryz.prog 37 #[.pointer (some ⟨R,0,none⟩),.int .i64 n] w fun e w'=>e=.returned (.bool (!(tl||decide ((65536:Int)<(L.length:Int)+n))))∧HrR w B R s P sv dn (tl||decide ((65536:Int)<(L.length:Int)+n)) L ad bf w':=by
 have c15:w.cell? ⟨R,15,none⟩=some (.bool tl):=h.r.f.cell (j:=15) (by omega)
 have z15:w.frozen? ⟨R,15,none⟩=false:=h.r.f.frz 15
 have HL:=hide (len_any w B R s P sv dn tl L ad bf h)
 obtain ⟨x,hx⟩:∃ x,(tl||decide ((65536:Int)<(L.length:Int)+n))=x:=⟨_,rfl⟩
 rw [hx]
 have HT:=hide (h.tooLong x)
 have d15:(w.setCell ⟨R,15,none⟩ (.bool x)).cell? ⟨R,15,none⟩=some (.bool x):=HT.out.1.r.f.cell (j:=15) (by omega)
 have HX:=hide hx
 clear h hx
 cases tl with
 |true=>
  obtain rfl:x=true:=by rw [←HX.out];rfl
  go_enter Tryz.func37,Tryz.ntmps37
  go_wp2_with fail
  refine bodyPost_ret (v:=.bool false) ?_ rfl ⟨rfl,HT.out⟩
  simp [results,Tryz.results37,go_sem]
 |false=>
  have hxx:decide ((65536:Int)<(L.length:Int)+n)=x:=by rw [←HX.out];rfl
  go_enter Tryz.func37,Tryz.ntmps37
  go_wp2_with fail
  refine HL.out.mono ?_
  rintro e w1 ⟨rfl,hw⟩
  obtain rfl:=hw.symm
  go_wp2_with fail
  refine bodyPost_ret (v:=.bool (!x)) ?_ rfl ⟨rfl,HT.out⟩
  simp [results,Tryz.results37,go_sem]
end Go.Proofs.YtlgodacccilabaaGreatDoor
namespace Go.Proofs.YtlgodacccilabaaGreatDoor
open Go Go.RowKit
set_option linter.unusedVariables false
theorem KpR.drew {R:Nat} {w w':World} (k:KpR R w.drew w'):KpR R w w':=⟨⟨k.k.os,k.k.tape,k.k.output,k.k.size,k.k.block⟩,k.o⟩
theorem RwI.drew {w:World} {B R:Nat} {s P:ByteArray} {sv:Nat→Value} {dn:Nat} {tl:Bool} {L:List UInt8} {ad bf:Value} (h:RwI w B R s P sv dn tl L ad bf):RwI w.drew B R s P sv dn tl L ad bf:=⟨h.r,h.a,h.o⟩
def FnR (w:World) (B R:Nat) (s P:ByteArray) (sv:Nat→Value) (dn:Nat) (tl:Bool) (L:List UInt8) (e:Ending) (w':World):Prop:=
 (∃ v,e=.returned v)∧KpR R w w'∧((tl=true∨65536<L.length+(s.size-dn))∧(∃ ad bf,RwI w' B R s P sv dn true L ad bf)∨(tl=false∧L.length+(s.size-dn)≤65536∧∃ ad bf,RwI w' B R s P sv dn false (L++cutL s dn s.size) ad bf))
set_option maxHeartbeats 1600000 in
set_option maxRecDepth 100000 in
theorem finish_any (w:World) (B R:Nat) (s P:ByteArray) (sv:Nat→Value) (dn:Nat) (tl:Bool) (L:List UInt8) (ad bf:Value) (h:RwI w B R s P sv dn tl L ad bf) (hs:s.size≤65536) (hd:dn≤s.size) (hL:L.length≤1000000000) (hB:B≤w.heap.size):
 Calls Tryz.prog 24 #[.pointer (some ⟨R,0,none⟩)] w fun e w'=>FnR w B R s P sv dn tl L e w':=by
 have c0:w.drew.cell? ⟨R,0,none⟩=some (.string s):=h.r.f.cell (j:=0) (by omega)
 have c12:w.drew.cell? ⟨R,12,none⟩=some (.int .i64 (dn:Int)):=h.r.f.cell (j:=12) (by omega)
 have e0:w.cell? ⟨R,0,none⟩=some (.string s):=c0
 have e12:w.cell? ⟨R,12,none⟩=some (.int .i64 (dn:Int)):=c12
 have HC:=hide (hasRoom_any w.drew B R s P sv dn tl L ad bf ((s.size:Int)-(dn:Int)) h.drew (by omega) (by omega))
 obtain ⟨x,hx⟩:∃ x,(tl||decide ((65536:Int)<(L.length:Int)+((s.size:Int)-(dn:Int))))=x:=⟨_,rfl⟩
 rw [hx] at HC
 have HX:=hide hx
 have hwr:IntKind.i64.wrap ((s.size:Int)-(dn:Int))=(s.size:Int)-(dn:Int):=IntWalk.i64_in _ (by omega)
 clear h hx
 go_enter Tryz.func24,Tryz.ntmps24
 go_wp2_with fail
 go_region_with (go_at_call 37;refine HC.out.mono ?_;rintro e w2 ⟨rfl,h2⟩;have H2:=hide h2;clear h2)
 all_goals
  clear HC c0 c12 e0 e12
  cases x with
  |true=>
   have hc:tl=true∨65536<L.length+(s.size-dn):=by
    have:=HX.out
    cases tl with
    |true=>exact .inl rfl
    |false=>simp at this;right;omega
   have HF:=hide (show FnR w B R s P sv dn tl L (.returned (.tuple #[])) w2 from ⟨⟨_,rfl⟩,H2.out.2.1.drew,.inl ⟨hc,ad,bf,H2.out.1⟩⟩)
   clear hc
   go_wp2_with fail
   go_end0
   exact HF.out
  |false=>
   have hc:tl=false∧L.length+(s.size-dn)≤65536:=by
    have:=HX.out
    cases tl with
    |true=>simp at this
    |false=>simp at this;exact ⟨rfl,by omega⟩
   have HCC:=hide hc
   clear hc
   have hB2:B≤w2.drew.heap.size:=by have:=H2.out.2.2;show B≤w2.heap.size;rw [this];exact hB
   have q0:w2.cell? ⟨R,0,none⟩=some (.string s):=H2.out.1.r.f.cell (j:=0) (by omega)
   have q12:w2.cell? ⟨R,12,none⟩=some (.int .i64 (dn:Int)):=H2.out.1.r.f.cell (j:=12) (by omega)
   have r0:w2.drew.cell? ⟨R,0,none⟩=some (.string s):=q0
   have r12:w2.drew.cell? ⟨R,12,none⟩=some (.int .i64 (dn:Int)):=q12
   have hez:(s.extract dn s.size).size=s.size-dn:=by rw [ByteArray.size_extract];omega
   have HW:=hide (writeS_any w2.drew B R s P sv dn false L ad bf (s.extract dn s.size) H2.out.1.drew hB2 (by rw [hez];omega))
   clear hez
   have hsl:∀ w':World,(Instr.slice 9 (.string s) (some (.int .i64 (dn:Int))) none none).run Tryz.prog w'=.ok (.string (s.extract dn s.size)) w':=fun w'=>by
    rw [run_slice_string_l w' 9 s Tryz.underlying9 .i64 _ (by omega) (by omega),Int.toNat_natCast]
   go_wp2_with fail
   go_region_with (go_at_call 39;refine HW.out.mono ?_;rintro e w3 ⟨rfl,h3,k3⟩;have H3:=hide (And.intro h3 k3);clear h3 k3)
   all_goals
    obtain ⟨⟨bf3,h3⟩,k3⟩:=H3.out
    have HF:=hide (show FnR w B R s P sv dn tl L (.returned (.tuple #[])) w3 from ⟨⟨_,rfl⟩,H2.out.2.1.drew.trans k3.drew,.inr ⟨HCC.out.1,HCC.out.2,_,bf3,h3⟩⟩)
    clear h3 k3 H3 HW
    go_wp2_with fail
    go_end0
    exact HF.out
end Go.Proofs.YtlgodacccilabaaGreatDoor
