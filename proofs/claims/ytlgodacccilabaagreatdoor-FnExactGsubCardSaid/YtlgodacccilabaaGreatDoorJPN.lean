import Derived.Test.YtlgodacccilabaaGreatDoorJPF
namespace Go.Proofs.YtlgodacccilabaaGreatDoor
open Go Go.RowKit
set_option linter.unusedVariables false
theorem ret_b {a b:Bool} (h:a=b):Ending.returned (.bool a)=.returned (.bool b):=by rw [h]
abbrev nilS:Value:=.slice none 0 0
def itC (u:It × Value):List Value:=[.int .i64 u.1.kind,u.2,.int .u8 u.1.sign,.int .i64 u.1.n,.int .u8 u.1.x,.int .u8 u.1.y]
def itsC (us:List (It × Value)):List Value:=us.flatMap itC
def itF (us:List (It × Value)) (j:Nat):Value:=(itsC us).getD j (.bool false)
theorem itF_at:∀ {us:List (It × Value)} {k:Nat} {u:It × Value},us[k]?=some u→∀ j,j<6→itF us (k*6+j)=(itC u).getD j (.bool false)
 | [],k,u,h,_,_=>by simp at h
 |x::us,0,u,h,j,hj=>by
  obtain rfl:x=u:=by simpa using h
  rw [itF,itsC,List.flatMap_cons,List.getD_eq_getElem?_getD,List.getElem?_append_left (by simp [itC];omega),List.getD_eq_getElem?_getD,Nat.zero_mul,Nat.zero_add]
 |x::us,k+1,u,h,j,hj=>by
  have ih:=itF_at (us:=us) (k:=k) (u:=u) (by simpa using h) j hj
  rw [itF,itsC,List.flatMap_cons,List.getD_eq_getElem?_getD,List.getElem?_append_right (by simp [itC];omega)]
  rw [itF,itsC,List.getD_eq_getElem?_getD] at ih
  rw [←ih]
  congr 2
  simp [itC]
  omega
def SetV (w:World) (u:It × Value):Prop:=(u.2=nilS∧u.1.kind≠0∧u.1.kind≠6)∨∃ g,u.2=.slice (some ⟨g,0,none⟩) 256 256∧SetF w g u.1.set
def mcells (s:ByteArray) (vi vp:Value) (st:Bool) (vf vt:Value) (n:Nat):Nat→Value
 |0=>.string s
 |1=>vi
 |2=>vp
 |3=>.bool st
 |4=>vf
 |5=>vt
 |_=>.int .i64 n
structure MS (w:World) (M:Nat) (s:ByteArray) (t:Pt) (us:List (It × Value)) (vi vp vf vt:Value) (σ:Ms):Prop where
 m:RowF w 39 M 7 (mcells s vi vp t.start vf vt σ.steps)
 i:SlF w 91 6 vi us.length (itF us)
 p:SlF w 4 1 vp t.caps (fun j=>.bool (t.place j))
 f:SlF w 3 1 vf t.caps (fun j=>.int .i64 (σ.fr j))
 t:SlF w 3 1 vt t.caps (fun j=>.int .i64 (σ.tt j))
 a:∀ g,vf.ownBlock=some g→vt.ownBlock≠some g
 s:∀ u∈us,SetV w u
def MW (M:Nat) (vf vt:Value):Nat→Prop:=fun b=>b=M∨vf.ownBlock=some b∨vt.ownBlock=some b
section
variable {w w' : World} {M : Nat} {s : ByteArray} {t : Pt} {us : List (It × Value)} {vi vp vf vt : Value} {σ : Ms}
theorem SetV.keep {u:It × Value} {S:Nat→Prop} (h:SetV w u) (k:Keeps w w' S) (hn:∀ g,SetF w g u.1.set→¬ S g):SetV w' u:=by
 rcases h with h|⟨g,h1,h2⟩
 ·exact .inl h
 ·exact .inr ⟨g,h1,h2.keep k (hn g h2)⟩
theorem MS.low (h:MS w M s t us vi vp vf vt σ) (k:Keeps w w' (fun _=>False)):MS w' M s t us vi vp vf vt σ:=
 ⟨h.m.keep k (fun x=>x),h.i.keep k (fun _ _ x=>x),h.p.keep k (fun _ _ x=>x),h.f.keep k (fun _ _ x=>x),h.t.keep k (fun _ _ x=>x),h.a,fun u hu=>(h.s u hu).keep k (fun _ _ x=>x)⟩
theorem MS.set (h:MS w M s t us vi vp vf vt σ) {u:It × Value} (hu:u∈us) (hk:u.1.kind=0∨u.1.kind=6):∃ g,u.2=.slice (some ⟨g,0,none⟩) 256 256∧SetF w g u.1.set:=by
 rcases h.s u hu with ⟨_,h1,h2⟩|h1
 ·omega
 ·exact h1
theorem MS.stat (h:MS w M s t us vi vp vf vt σ) (k:Keeps w w' (MW M vf vt)):SlF w' 91 6 vi us.length (itF us)∧SlF w' 4 1 vp t.caps (fun j=>.bool (t.place j))∧∀ u∈us,SetV w' u:=by
 refine ⟨h.i.keep k ?_,h.p.keep k ?_,fun u hu=>(h.s u hu).keep k ?_⟩
 ·rintro b hb (rfl|hv|hv)
  ·exact (h.i.own hb).apart h.m (by decide) rfl
  ·exact (h.i.own hb).apart (h.f.own hv) (by decide) rfl
  ·exact (h.i.own hb).apart (h.t.own hv) (by decide) rfl
 ·rintro b hb (rfl|hv|hv)
  ·exact (h.p.own hb).apart h.m (by decide) rfl
  ·exact (h.p.own hb).apart (h.f.own hv) (by decide) rfl
  ·exact (h.p.own hb).apart (h.t.own hv) (by decide) rfl
 ·rintro g hg (rfl|hv|hv)
  ·exact RowF.apart hg h.m (by decide) rfl
  ·exact RowF.apart hg (h.f.own hv) (by decide) rfl
  ·exact RowF.apart hg (h.t.own hv) (by decide) rfl
theorem MS.step (h:MS w M s t us vi vp vf vt σ) (n:Nat):MS (w.setCell ⟨M,6,none⟩ (.int .i64 n)) M s t us vi vp vf vt { σ with steps:=n }:=by
 have k:Keeps w (w.setCell ⟨M,6,none⟩ (.int .i64 n)) (fun b=>b=M):=(Keeps.refl w (fun b=>b=M)).setCell (S:=fun b=>b=M) (j:=6) rfl _
 obtain ⟨h1,h2,h3⟩:=h.stat (k.mono (fun b hb=>.inl hb))
 refine ⟨(h.m.set (j:=6) (by omega) _).congr fun j hj=>?_,h1,h2,h.f.pastG k h.m (by decide),h.t.pastG k h.m (by decide),h.a,h3⟩
 rcases j with _|_|_|_|_|_|_|j
 all_goals simp [mcells]
 all_goals omega
theorem MS.kstep (n:Nat):Keeps w (w.setCell ⟨M,6,none⟩ (.int .i64 n)) (MW M vf vt):=(Keeps.refl w _).setCell (S:=MW M vf vt) (j:=6) (.inl rfl) _
theorem SlF.slot {T n:Nat} {v:Value} {f:Nat→Value} (h:SlF w T 1 v n f) {j:Nat} (hj:j<n):∃ g cap,v=.slice (some ⟨g,0,none⟩) n cap∧v.ownBlock=some g∧RowF w T g n f:=by
 obtain ⟨a,cap,rfl,h1,⟨rfl,h2⟩|⟨g,rfl,h3⟩⟩:=h
 ·omega
 ·exact ⟨g,cap,rfl,rfl,by rw [Nat.mul_one] at h3;exact h3⟩
theorem SlF.upd {T n:Nat} {v:Value} {f f':Nat→Value} {g j:Nat} {x:Value} (h:SlF w T 1 v n f) (hv:v.ownBlock=some g) (hj:j<n) (hf:∀ i,i<n→(if i=j then x else f i)=f' i):SlF (w.setCell ⟨g,j,none⟩ x) T 1 v n f':=by
 have h3:=h.own hv
 obtain ⟨a,cap,rfl,h1,⟨rfl,h2⟩|⟨g',rfl,_⟩⟩:=h
 ·omega
 ·have e:g'=g:=by simpa [Value.ownBlock] using hv
  subst e
  exact ⟨_,cap,rfl,h1,.inr ⟨g',rfl,(h3.set (j:=j) (by omega) x).congr fun i hi=>hf i (by omega)⟩⟩
theorem MS.setF (h:MS w M s t us vi vp vf vt σ) {g j:Nat} (hv:vf.ownBlock=some g) (hj:j<t.caps) (v:Nat):MS (w.setCell ⟨g,j,none⟩ (.int .i64 v)) M s t us vi vp vf vt { σ with fr:=upd σ.fr j v }:=by
 have k:Keeps w (w.setCell ⟨g,j,none⟩ (.int .i64 v)) (fun b=>b=g):=(Keeps.refl w (fun b=>b=g)).setCell (S:=fun b=>b=g) (j:=j) rfl _
 obtain ⟨h1,h2,h3⟩:=h.stat (k.mono (fun b hb=>.inr (.inl (by rw [hb];exact hv))))
 refine ⟨h.m.keep k (fun e=>h.m.apart (h.f.own hv) (by decide) e),h1,h2,h.f.upd hv hj (fun i hi=>?_),h.t.keep k (fun b hb e=>h.a g hv (by rw [←e];exact hb)),h.a,h3⟩
 by_cases e:i=j<;>simp [e,Go.Proofs.YtlgodacccilabaaGreatDoor.upd]
theorem MS.setT (h:MS w M s t us vi vp vf vt σ) {g j:Nat} (hv:vt.ownBlock=some g) (hj:j<t.caps) (v:Nat):MS (w.setCell ⟨g,j,none⟩ (.int .i64 v)) M s t us vi vp vf vt { σ with tt:=upd σ.tt j v }:=by
 have k:Keeps w (w.setCell ⟨g,j,none⟩ (.int .i64 v)) (fun b=>b=g):=(Keeps.refl w (fun b=>b=g)).setCell (S:=fun b=>b=g) (j:=j) rfl _
 obtain ⟨h1,h2,h3⟩:=h.stat (k.mono (fun b hb=>.inr (.inr (by rw [hb];exact hv))))
 refine ⟨h.m.keep k (fun e=>h.m.apart (h.t.own hv) (by decide) e),h1,h2,h.f.keep k (fun b hb e=>h.a b hb (by rw [e];exact hv)),h.t.upd hv hj (fun i hi=>?_),h.a,h3⟩
 by_cases e:i=j<;>simp [e,Go.Proofs.YtlgodacccilabaaGreatDoor.upd]
end
set_option maxHeartbeats 800000 in
set_option maxRecDepth 100000 in
theorem has_any (M:Nat) (s:ByteArray) (fm:Nat→Value) (g:Nat) (f:Nat→Bool) (at_:Nat) (w:World) (ha:at_≤1000000) (hs:s.size≤65536) (hm:RowF w 39 M 7 fm) (h0:fm 0=.string s) (h:SetF w g f):
 Calls Tryz.prog 63 #[.pointer (some ⟨M,0,none⟩),.int .i64 at_,.slice (some ⟨g,0,none⟩) 256 256] w fun e w'=>e=.returned (.bool (has s f at_))∧w'=w:=by
 have c0:w.cell? ⟨M,0,none⟩=some (.string s):=by rw [←h0];exact RowF.cell hm (j:=0) (by omega)
 clear hm h0
 by_cases hin:at_<s.size
 ·have hx:∀ w':World,(Instr.index 9 (.string s) (.int .i64 (at_:Int))).run Tryz.prog w'=.ok (.int .u8 (hb s at_)) w':=fun w'=>by
   rw [idx_str s (i:=(at_:Int)) w' (by omega) (by omega),Int.toNat_natCast]
  have hlt:(at_:Int)<(s.size:Int):=by omega
  have b0:=(hb_rng s at_).1
  have b1:=(hb_rng s at_).2
  have c1:=RowF.cell h (j:=(hb s at_).toNat) (by omega)
  have HH:=hide (show has s f at_=f (hb s at_).toNat by rw [has,decide_eq_true hin];rfl)
  clear h
  go_enter Tryz.func63,Tryz.ntmps63
  go_wp2_with fail
  go_ret
  exact ⟨ret_b HH.out.symm,rfl⟩
 ·have hlt:¬ ((at_:Int)<(s.size:Int)):=by omega
  have HH:=hide (show has s f at_=false by rw [has,decide_eq_false hin];rfl)
  clear h
  go_enter Tryz.func63,Tryz.ntmps63
  go_wp2_with fail
  go_ret
  exact ⟨ret_b HH.out.symm,rfl⟩
set_option maxHeartbeats 800000 in
set_option maxRecDepth 100000 in
theorem spent_any (M:Nat) (fm:Nat→Value) (n:Nat) (w:World) (hm:RowF w 39 M 7 fm) (h0:fm 6=.int .i64 n):
 Calls Tryz.prog 9 #[.pointer (some ⟨M,0,none⟩)] w fun e w'=>e=.returned (.bool (decide (50000<n)))∧w'=w:=by
 have c0:w.cell? ⟨M,6,none⟩=some (.int .i64 n):=by rw [←h0];exact RowF.cell hm (j:=6) (by omega)
 clear hm h0
 go_enter Tryz.func9,Tryz.ntmps9
 go_wp2_with fail
 go_ret
 exact ⟨ret_b (decide_eq_decide.2 (by omega)),rfl⟩
theorem MS.spentC {w:World} {M:Nat} {s:ByteArray} {t:Pt} {us:List (It × Value)} {vi vp vf vt:Value} {σ:Ms} (h:MS w M s t us vi vp vf vt σ):
 Calls Tryz.prog 9 #[.pointer (some ⟨M,0,none⟩)] w fun e w'=>e=.returned (.bool σ.spent)∧w'=w:=spent_any M _ σ.steps w h.m rfl
theorem MS.hasC {w:World} {M:Nat} {s:ByteArray} {t:Pt} {us:List (It × Value)} {vi vp vf vt:Value} {σ:Ms} (h:MS w M s t us vi vp vf vt σ) (hs:s.size≤65536) {g:Nat} {f:Nat→Bool} (hg:SetF w g f) {at_:Nat} (ha:at_≤1000000):
 Calls Tryz.prog 63 #[.pointer (some ⟨M,0,none⟩),.int .i64 at_,.slice (some ⟨g,0,none⟩) 256 256] w fun e w'=>e=.returned (.bool (has s f at_))∧w'=w:=has_any M s _ g f at_ w ha hs h.m rfl hg
end Go.Proofs.YtlgodacccilabaaGreatDoor
namespace Go.Proofs.YtlgodacccilabaaGreatDoor
open Go Go.RowKit
set_option linter.unusedVariables false
def resI:Option Nat→Int
 |none=> -1
 |some e=>e
def TrR (M:Nat) (s:ByteArray) (t:Pt) (us:List (It × Value)) (vi vp vf vt:Value) (w:World) (r:Option Nat × Ms) (e:Ending) (w':World):Prop:=
 e=.returned (.int .i64 (resI r.1))∧Keeps w w' (MW M vf vt)∧MS w' M s t us vi vp vf vt r.2
def NxOk (M:Nat) (s:ByteArray) (t:Pt) (us:List (It × Value)) (vi vp vf vt:Value) (k:Nat) (pre:List It) (nx:Nx):Prop:=
 ∀ (at_:Nat) (ai:Int) (σ:Ms) (w:World),ai=at_→MS w M s t us vi vp vf vt σ→at_≤s.size→σ.steps≤50000→Cap pre σ at_→
   Calls Tryz.prog 26 #[.pointer (some ⟨M,0,none⟩),.int .i64 ((k:Int)+1),.int .i64 ai] w fun e w'=>TrR M s t us vi vp vf vt w (nx at_ σ) e w'
theorem TrR.mk {M:Nat} {s:ByteArray} {t:Pt} {us:List (It × Value)} {vi vp vf vt:Value} {w w':World} {r r':Option Nat × Ms} {x:Int} (hr:r'=r) (hx:x=resI r.1) (h1:Keeps w w' (MW M vf vt)) (h2:MS w' M s t us vi vp vf vt r.2):TrR M s t us vi vp vf vt w r' (.returned (.int .i64 x)) w':=by
 subst hr
 exact ⟨by rw [hx],h1,h2⟩
abbrev boxC (it:It) (v:Value):Array Value:=#[.int .i64 it.kind,v,.int .u8 it.sign,.int .i64 it.n,.int .u8 it.x,.int .u8 it.y]
def BoxF (w:World) (X:Nat) (it:It) (v:Value):Prop:=RowF w 91 X 6 (fun j=>(boxC it v).getD j (.bool false))
theorem BoxF.keep {w w':World} {M X:Nat} {s:ByteArray} {t:Pt} {us:List (It × Value)} {vi vp vf vt:Value} {σ:Ms} {it:It} {v:Value} (h:BoxF w X it v) (hm:MS w M s t us vi vp vf vt σ) (k:Keeps w w' (MW M vf vt)):BoxF w' X it v:=by
 refine RowF.keep h k ?_
 rintro (rfl|hv|hv)
 ·exact RowF.apart h hm.m (by decide) rfl
 ·exact RowF.apart h (hm.f.own hv) (by decide) rfl
 ·exact RowF.apart h (hm.t.own hv) (by decide) rfl
theorem SetF.keepM {w w':World} {M g:Nat} {s:ByteArray} {t:Pt} {us:List (It × Value)} {vi vp vf vt:Value} {σ:Ms} {f:Nat→Bool} (h:SetF w g f) (hm:MS w M s t us vi vp vf vt σ) (k:Keeps w w' (MW M vf vt)):SetF w' g f:=by
 refine SetF.keep h k ?_
 rintro (rfl|hv|hv)
 ·exact RowF.apart h hm.m (by decide) rfl
 ·exact RowF.apart h (hm.f.own hv) (by decide) rfl
 ·exact RowF.apart h (hm.t.own hv) (by decide) rfl
def SameC (τ σ:Ms):Prop:=τ.fr=σ.fr∧τ.tt=σ.tt
theorem SameC.rfl (σ:Ms):SameC σ σ:=⟨Eq.refl _,Eq.refl _⟩
def SameW (a b:World):Prop:=a=b
theorem spent_no {σ:Ms} (h:σ.spent=false):σ.steps≤50000:=by
 unfold Ms.spent at h
 simpa using h
theorem downM_stop {nx:Nx} {at_ least n:Nat} {σ:Ms} (h:n<least∨σ.spent=true):downM nx at_ least n σ=(none,σ):=by
 cases n with
 |zero=>rw [downM,if_pos h]
 |succ n=>rw [downM,if_pos h]
theorem downM_hit {nx:Nx} {at_ least n e:Nat} {σ σ':Ms} (h:¬ n<least) (h1:σ.spent=false) (h2:nx (at_+n) σ=(some e,σ')):downM nx at_ least n σ=(some e,σ'):=by
 cases n with
 |zero=>rw [downM,if_neg (by rw [h1];simp;omega)];exact h2
 |succ n=>rw [downM,if_neg (by rw [h1];simp;omega),h2]
theorem downM_miss {nx:Nx} {at_ least n:Nat} {σ σ':Ms} (h:¬ n+1<least) (h1:σ.spent=false) (h2:nx (at_+(n+1)) σ=(none,σ')):downM nx at_ least (n+1) σ=downM nx at_ least n σ':=by
 rw [downM,if_neg (by rw [h1];simp;omega),h2]
theorem downM_last {nx:Nx} {at_ least:Nat} {σ σ':Ms} (h:¬ 0<least) (h1:σ.spent=false) (h2:nx (at_+0) σ=(none,σ')):downM nx at_ least 0 σ=(none,σ'):=by
 rw [downM,if_neg (by rw [h1];simp;omega)];exact h2
theorem lazyM_stop {s:ByteArray} {f:Nat→Bool} {nx:Nx} {k n:Nat} {σ:Ms} (h:σ.spent=true):lazyM s f nx (k+1) n σ=(none,σ):=by rw [lazyM,if_pos h]
theorem lazyM_hit {s:ByteArray} {f:Nat→Bool} {nx:Nx} {k n e:Nat} {σ σ':Ms} (h:σ.spent=false) (h2:nx n σ=(some e,σ')):lazyM s f nx (k+1) n σ=(some e,σ'):=by rw [lazyM,if_neg (by rw [h];simp),h2]
theorem lazyM_end {s:ByteArray} {f:Nat→Bool} {nx:Nx} {k n:Nat} {σ σ':Ms} (h:σ.spent=false) (h2:nx n σ=(none,σ')) (h3:has s f n=false):lazyM s f nx (k+1) n σ=(none,σ'):=by rw [lazyM,if_neg (by rw [h];simp),h2];simp [h3]
theorem lazyM_next {s:ByteArray} {f:Nat→Bool} {nx:Nx} {k n:Nat} {σ σ':Ms} (h:σ.spent=false) (h2:nx n σ=(none,σ')) (h3:has s f n=true):lazyM s f nx (k+1) n σ=lazyM s f nx k (n+1) (σ'.more 1):=by rw [lazyM,if_neg (by rw [h];simp),h2];simp [h3]
set_option maxHeartbeats 1600000 in
set_option maxRecDepth 100000 in
theorem one_0 (M:Nat) (s:ByteArray) (t:Pt) (us:List (It × Value)) (vi vp vf vt:Value) (k:Nat) (pre:List It) (nx:Nx) (c:Nat) (it:It) (g at_:Nat) (σ:Ms) (w:World) (hs:s.size≤65536) (hk9:k≤1000) (hc9:c≤1000)
 (hx:NxOk M s t us vi vp vf vt k pre nx) (hre:Rest nx) (hst:StN s nx c) (hm:MS w M s t us vi vp vf vt σ) (hg:SetF w g it.set) (ha:at_≤s.size) (h5:σ.steps≤50000) (hcap:Cap pre σ at_) (hs0:it.sign=0):
 Calls Tryz.prog 44 #[.pointer (some ⟨M,0,none⟩),.agg (boxC it (.slice (some ⟨g,0,none⟩) 256 256)),.int .i64 k,.int .i64 at_] w fun e w'=>TrR M s t us vi vp vf vt w (oneM s it nx at_ σ) e w':=by
 have HS0:=hide hs0
 have hs0b:(it.sign==0)=true:=beq_iff_eq.2 hs0
 clear hs0
 have kb:Keeps w (w.alloc (.cells (boxC it (.slice (some ⟨g,0,none⟩) 256 256)) 91)) (fun _=>False):=Keeps.of (b_1 w _) (Nat.le_refl _) _
 have HM:=hide (hm.low kb)
 have HG:=hide (SetF.keep hg kb (fun x=>x))
 have HB:=hide (show BoxF (w.alloc (.cells (boxC it (.slice (some ⟨g,0,none⟩) 256 256)) 91)) w.heap.size it (.slice (some ⟨g,0,none⟩) 256 256) from RowF.mk' w 91 (boxC it (.slice (some ⟨g,0,none⟩) 256 256)))
 have HK:=hide (kb.mono (S':=MW M vf vt) (fun b hb=>hb.elim))
 have HX:=hide hx
 have HC:=hide hcap
 clear hm hg kb hx hcap
 go_enter Tryz.func44,Tryz.ntmps44
 go_wp2_with fail
 generalize w.alloc (.cells (boxC it (.slice (some ⟨g,0,none⟩) 256 256)) 91)=w1 at *
 generalize w.heap.size=X at *
 refine (MS.hasC HM.out hs HG.out (at_:=at_) (by omega)).mono ?_
 rintro e w2 ⟨rfl,hw⟩
 obtain rfl:=hw.symm
 cases hh:has s it.set at_ with
 |false=>
  have HO:=hide (show oneM s it nx at_ σ=(none,σ) by rw [oneM,if_pos HS0.out,if_neg (by rw [hh];simp)])
  go_wp2_with fail
  refine bodyPost_ret (v:=.int .i64 (-1)) ?_ rfl (TrR.mk HO.out rfl HK.out HM.out)
  simp [results,Tryz.results44,go_sem]
 |true=>
  have hlt:=has_lt hh
  have HO:=hide (show oneM s it nx at_ σ=nx (at_+1) σ by rw [oneM,if_pos HS0.out,if_pos hh])
  go_wp2_with fail
  refine (HX.out (at_+1) _ σ _ (by omega) HM.out (by omega) h5 (HC.out.le (by omega) rfl rfl)).mono ?_
  rintro e w3 ⟨rfl,h1,h2⟩
  go_wp2_with fail
  refine bodyPost_ret (v:=.int .i64 (resI (nx (at_+1) σ).1)) ?_ rfl (TrR.mk HO.out rfl (HK.out.trans h1) h2)
  simp [results,Tryz.results44,go_sem]
set_option maxHeartbeats 1600000 in
set_option maxRecDepth 100000 in
theorem one_l (M:Nat) (s:ByteArray) (t:Pt) (us:List (It × Value)) (vi vp vf vt:Value) (k:Nat) (pre:List It) (nx:Nx) (c:Nat) (it:It) (g at_:Nat) (σ:Ms) (w:World) (hs:s.size≤65536) (hk9:k≤1000) (hc9:c≤1000)
 (hx:NxOk M s t us vi vp vf vt k pre nx) (hre:Rest nx) (hst:StN s nx c) (hm:MS w M s t us vi vp vf vt σ) (hg:SetF w g it.set) (ha:at_≤s.size) (h5:σ.steps≤50000) (hcap:Cap pre σ at_) (hs0:it.sign=45):
 Calls Tryz.prog 44 #[.pointer (some ⟨M,0,none⟩),.agg (boxC it (.slice (some ⟨g,0,none⟩) 256 256)),.int .i64 k,.int .i64 at_] w fun e w'=>TrR M s t us vi vp vf vt w (oneM s it nx at_ σ) e w':=by
 have hs0b:(it.sign==45)=true:=beq_iff_eq.2 hs0
 have hs1b:(it.sign==0)=false:=beq_eq_false_iff_ne.2 (by omega)
 have hs2b:(it.sign==63)=false:=beq_eq_false_iff_ne.2 (by omega)
 have HO:=hide (show oneM s it nx at_ σ=lazyM s it.set nx (s.size+1) at_ σ by rw [oneM,if_neg (by omega),if_neg (by omega),if_pos hs0])
 clear hs0
 have kb:Keeps w (w.alloc (.cells (boxC it (.slice (some ⟨g,0,none⟩) 256 256)) 91)) (fun _=>False):=Keeps.of (b_1 w _) (Nat.le_refl _) _
 have HM:=hide (hm.low kb)
 have HG:=hide (SetF.keep hg kb (fun x=>x))
 have HB:=hide (show BoxF (w.alloc (.cells (boxC it (.slice (some ⟨g,0,none⟩) 256 256)) 91)) w.heap.size it (.slice (some ⟨g,0,none⟩) 256 256) from RowF.mk' w 91 (boxC it (.slice (some ⟨g,0,none⟩) 256 256)))
 have HK:=hide (kb.mono (S':=MW M vf vt) (fun b hb=>hb.elim))
 have HX:=hide hx
 have HC:=hide hcap
 clear hm hg kb hx hcap
 go_enter Tryz.func44,Tryz.ntmps44
 go_wp2_with fail
 generalize w.alloc (.cells (boxC it (.slice (some ⟨g,0,none⟩) 256 256)) 91)=w1 at *
 generalize w.heap.size=X at *
 go_loopw [11] (fun iv wr=>∃ (n q:Nat) (τ:Ms),iv=.int .i64 n∧n≤s.size∧at_≤n∧s.size+1+at_=q+n∧τ.steps≤200000∧SameC τ σ∧Hid (MS wr M s t us vi vp vf vt τ)∧Hid (SetF wr g it.set)∧Hid (BoxF wr X it (.slice (some ⟨g,0,none⟩) 256 256))∧Hid (Keeps w wr (MW M vf vt))∧Hid (oneM s it nx at_ σ=lazyM s it.set nx q n τ)) (fun iv _=>s.size+1-ivN iv)
 case atStart=>exact ⟨at_,s.size+1,σ,rfl,ha,Nat.le_refl _,by omega,by omega,SameC.rfl σ,HM,HG,HB,HK,HO⟩
 case round=>
  clear HM HG HB HK HO
  obtain ⟨n,q0,τ,rfl,hn1,hn2,hq,hτ,HF,HM,HG,HB,HK,HO⟩:=hrel
  obtain ⟨q,rfl⟩:∃ q,q0=q+1:=⟨q0-1,by omega⟩
  go_wp2_with fail
  refine (MS.spentC HM.out).mono ?_
  rintro e w2 ⟨rfl,hw⟩
  obtain rfl:=hw.symm
  cases hsp:τ.spent with
  |true=>
   have HR:=hide (HO.out.trans (lazyM_stop hsp))
   go_wp2_with fail
   refine bodyPost_ret (v:=.int .i64 (-1)) ?_ rfl (TrR.mk HR.out rfl HK.out HM.out)
   simp [results,Tryz.results44,go_sem]
  |false=>
   have hτ5:=spent_no hsp
   go_wp2_with fail
   refine (HX.out n _ τ _ rfl HM.out hn1 hτ5 (HC.out.le hn2 HF.1 HF.2)).mono ?_
   rintro e w3 ⟨rfl,h1,h2⟩
   have HM3:=hide h2
   have HG3:=hide (HG.out.keepM HM.out h1)
   have HB3:=hide (HB.out.keep HM.out h1)
   have HK3:=hide (HK.out.trans h1)
   have hst3:=hst n τ hτ5
   have HRE:=hide (hre n τ)
   clear h1 h2 HM HG HB HK
   obtain ⟨r,hr⟩:∃ r,nx n τ=r:=⟨_,rfl⟩
   rw [hr] at HM3 hst3 HRE ⊢
   have HNX:=hide hr
   clear hr
   obtain ⟨o,τ'⟩:=r
   cases o with
   |some e=>
    have HR:=hide (HO.out.trans (lazyM_hit (s:=s) (f:=it.set) (k:=q) hsp HNX.out))
    simp only [resI] at *
    have he0:(0:Int)≤(e:Int):=by omega
    go_wp2_with fail
    refine bodyPost_ret (v:=.int .i64 (e:Int)) ?_ rfl (TrR.mk HR.out rfl HK3.out HM3.out)
    simp [results,Tryz.results44,go_sem]
   |none=>
    simp only [resI] at *
    have c1:w3.cell? ⟨X,1,none⟩=some (.slice (some ⟨g,0,none⟩) 256 256):=RowF.cell HB3.out (j:=1) (by omega)
    go_wp2_with fail
    refine (MS.hasC HM3.out hs HG3.out (at_:=n) (by omega)).mono ?_
    rintro e w4 ⟨rfl,hw⟩
    obtain rfl:=hw.symm
    clear c1
    cases hh:has s it.set n with
    |false=>
     have HR:=hide (HO.out.trans (lazyM_end (s:=s) (f:=it.set) (k:=q) hsp HNX.out hh))
     go_wp2_with fail
     refine bodyPost_ret (v:=.int .i64 (-1)) ?_ rfl (TrR.mk HR.out rfl HK3.out HM3.out)
     simp [results,Tryz.results44,go_sem]
    |true=>
     have hlt:=has_lt hh
     have HR:=hide (HO.out.trans (lazyM_next (s:=s) (f:=it.set) (k:=q) hsp HNX.out hh))
     have c6:w3.cell? ⟨M,6,none⟩=some (.int .i64 τ'.steps):=RowF.cell HM3.out.m (j:=6) (by omega)
     have z6:w3.frozen? ⟨M,6,none⟩=false:=RowF.frz HM3.out.m 6
     have HM5:=hide (HM3.out.step (τ'.steps+1))
     have HK5:=hide (HK3.out.trans (MS.kstep (w:=w3) (M:=M) (vf:=vf) (vt:=vt) (τ'.steps+1)))
     have HG5:=hide (HG3.out.keepM HM3.out (MS.kstep (τ'.steps+1)))
     have HB5:=hide (HB3.out.keep HM3.out (MS.kstep (τ'.steps+1)))
     have HF5:SameC (τ'.more 1) σ:=⟨(HRE.out trivial).1.trans HF.1,(HRE.out trivial).2.trans HF.2⟩
     rw [show ((τ'.steps+1:Nat):Int)=(τ'.steps:Int)+1 by omega] at HM5 HK5 HG5 HB5
     clear HM3 HG3 HB3 HK3
     go_wp2_with fail
     go_roundw
     case rel=>exact ⟨n+1,q,τ'.more 1,by simp,by omega,by omega,by omega,by show τ'.steps+1≤200000;omega,HF5,HM5,HG5,HB5,HK5,HR⟩
     case measure=>show s.size+1-ivN (.int .i64 _)<s.size+1-ivN (.int .i64 _);simp [ivN];omega
set_option maxHeartbeats 1600000 in
set_option maxRecDepth 100000 in
theorem one_q (M:Nat) (s:ByteArray) (t:Pt) (us:List (It × Value)) (vi vp vf vt:Value) (k:Nat) (pre:List It) (nx:Nx) (c:Nat) (it:It) (g at_:Nat) (σ:Ms) (w:World) (hs:s.size≤65536) (hk9:k≤1000) (hc9:c≤1000)
 (hx:NxOk M s t us vi vp vf vt k pre nx) (hre:Rest nx) (hst:StN s nx c) (hm:MS w M s t us vi vp vf vt σ) (hg:SetF w g it.set) (ha:at_≤s.size) (h5:σ.steps≤50000) (hcap:Cap pre σ at_) (hs0:it.sign=63):
 Calls Tryz.prog 44 #[.pointer (some ⟨M,0,none⟩),.agg (boxC it (.slice (some ⟨g,0,none⟩) 256 256)),.int .i64 k,.int .i64 at_] w fun e w'=>TrR M s t us vi vp vf vt w (oneM s it nx at_ σ) e w':=by
 have hs0b:(it.sign==63)=true:=beq_iff_eq.2 hs0
 have hs1b:(it.sign==0)=false:=beq_eq_false_iff_ne.2 (by omega)
 have HQ:=hide (show oneM s it nx at_ σ=downM nx at_ 0 (if has s it.set at_=true then 1 else 0) σ by rw [oneM,if_neg (by omega),if_pos hs0])
 clear hs0
 have kb:Keeps w (w.alloc (.cells (boxC it (.slice (some ⟨g,0,none⟩) 256 256)) 91)) (fun _=>False):=Keeps.of (b_1 w _) (Nat.le_refl _) _
 have HM:=hide (hm.low kb)
 have HG:=hide (SetF.keep hg kb (fun x=>x))
 have HB:=hide (show BoxF (w.alloc (.cells (boxC it (.slice (some ⟨g,0,none⟩) 256 256)) 91)) w.heap.size it (.slice (some ⟨g,0,none⟩) 256 256) from RowF.mk' w 91 (boxC it (.slice (some ⟨g,0,none⟩) 256 256)))
 have HK:=hide (kb.mono (S':=MW M vf vt) (fun b hb=>hb.elim))
 have HX:=hide hx
 have HC:=hide hcap
 clear hm hg kb hx hcap
 go_enter Tryz.func44,Tryz.ntmps44
 go_wp2_with fail
 generalize w.alloc (.cells (boxC it (.slice (some ⟨g,0,none⟩) 256 256)) 91)=w1 at *
 generalize w.heap.size=X at *
 refine (MS.hasC HM.out hs HG.out (at_:=at_) (by omega)).mono ?_
 rintro e w2 ⟨rfl,hw⟩
 obtain rfl:=hw.symm
 have hst0:σ.steps≤200000:=by omega
 have HF0:=SameC.rfl σ
 clear HG HB
 cases hh:has s it.set at_ with
 |false=>
  have HO:=hide (HQ.out.trans (by rw [hh,if_neg (by simp)]))
  have hmst:at_+0≤s.size:=by omega
  clear HQ
  go_wp2_with fail
  go_loopw [13] (fun iv wr=>∃ τ:Ms,τ.steps≤200000∧SameC τ σ∧Hid (MS wr M s t us vi vp vf vt τ)∧Hid (Keeps w wr (MW M vf vt))∧((∃ n:Nat,iv=.int .i64 n∧at_+n≤s.size∧Hid (oneM s it nx at_ σ=downM nx at_ 0 n τ))∨(iv=.int .i64 (-1)∧0=0∧Hid (oneM s it nx at_ σ=(none,τ))))) (fun iv _=>match iv with | .int _ x=>(x+1).toNat|_=>0)
  case atStart=>exact ⟨_,hst0,HF0,HM,HK,.inl ⟨0,rfl,hmst,HO⟩⟩
  case round=>
   clear HM HK HO HF0 hst0 hmst
   obtain ⟨τ,hτ,HF,HM,HK,⟨n,rfl,hn,HO⟩|⟨rfl,hl0,HO⟩⟩:=hrel
   ·have hl2:(0:Int)≤(n:Int):=by omega
    go_wp2_with fail
    refine (MS.spentC HM.out).mono ?_
    rintro e w2 ⟨rfl,hw⟩
    obtain rfl:=hw.symm
    cases hsp:τ.spent with
    |true=>
     have HR:=hide (HO.out.trans (downM_stop (.inr hsp)))
     go_wp2_with fail
     refine bodyPost_ret (v:=.int .i64 (-1)) ?_ rfl (TrR.mk HR.out rfl HK.out HM.out)
     simp [results,Tryz.results44,go_sem]
    |false=>
     have hτ5:=spent_no hsp
     go_wp2_with fail
     refine (HX.out (at_+n) _ τ _ (by omega) HM.out hn hτ5 (HC.out.le (by omega) HF.1 HF.2)).mono ?_
     rintro e w3 ⟨rfl,h1,h2⟩
     have HM3:=hide h2
     have HK3:=hide (HK.out.trans h1)
     have hst3:=hst (at_+n) τ hτ5
     have HRE:=hide (hre (at_+n) τ)
     clear h1 h2 HM HK
     obtain ⟨r,hr⟩:∃ r,nx (at_+n) τ=r:=⟨_,rfl⟩
     rw [hr] at HM3 hst3 HRE ⊢
     have HNX:=hide hr
     clear hr
     obtain ⟨o,τ'⟩:=r
     cases o with
     |some e=>
      have HR:=hide (HO.out.trans (downM_hit (by omega) hsp HNX.out))
      simp only [resI] at *
      have he0:(0:Int)≤(e:Int):=by omega
      go_wp2_with fail
      refine bodyPost_ret (v:=.int .i64 (e:Int)) ?_ rfl (TrR.mk HR.out rfl HK3.out HM3.out)
      simp [results,Tryz.results44,go_sem]
     |none=>
      simp only [resI] at *
      have HF5:SameC τ' σ:=⟨(HRE.out trivial).1.trans HF.1,(HRE.out trivial).2.trans HF.2⟩
      cases n with
      |zero=>
       have HR:=hide (HO.out.trans (downM_last (by omega) hsp HNX.out))
       go_wp2_with fail
       go_roundw
       case rel=>exact ⟨τ',by omega,HF5,HM3,HK3,.inr ⟨by simp,by omega,HR⟩⟩
       case measure=>simp
      |succ n=>
       have HR:=hide (HO.out.trans (downM_miss (by omega) hsp HNX.out))
       go_wp2_with fail
       go_roundw
       case rel=>exact ⟨τ',by omega,HF5,HM3,HK3,.inl ⟨n,by simp,by omega,HR⟩⟩
       case measure=>simp;omega
   ·have hl2:¬ ((0:Int)≤ -1):=by omega
    go_wp2_with fail
    refine bodyPost_ret (v:=.int .i64 (-1)) ?_ rfl (TrR.mk HO.out rfl HK.out HM.out)
    simp [results,Tryz.results44,go_sem]
 |true=>
  have hlt:=has_lt hh
  have HO:=hide (HQ.out.trans (by rw [hh,if_pos rfl]))
  have hmst:at_+1≤s.size:=by omega
  clear HQ
  go_wp2_with fail
  go_loopw [13] (fun iv wr=>∃ τ:Ms,τ.steps≤200000∧SameC τ σ∧Hid (MS wr M s t us vi vp vf vt τ)∧Hid (Keeps w wr (MW M vf vt))∧((∃ n:Nat,iv=.int .i64 n∧at_+n≤s.size∧Hid (oneM s it nx at_ σ=downM nx at_ 0 n τ))∨(iv=.int .i64 (-1)∧0=0∧Hid (oneM s it nx at_ σ=(none,τ))))) (fun iv _=>match iv with | .int _ x=>(x+1).toNat|_=>0)
  case atStart=>exact ⟨_,hst0,HF0,HM,HK,.inl ⟨1,rfl,hmst,HO⟩⟩
  case round=>
   clear HM HK HO HF0 hst0 hmst
   obtain ⟨τ,hτ,HF,HM,HK,⟨n,rfl,hn,HO⟩|⟨rfl,hl0,HO⟩⟩:=hrel
   ·have hl2:(0:Int)≤(n:Int):=by omega
    go_wp2_with fail
    refine (MS.spentC HM.out).mono ?_
    rintro e w2 ⟨rfl,hw⟩
    obtain rfl:=hw.symm
    cases hsp:τ.spent with
    |true=>
     have HR:=hide (HO.out.trans (downM_stop (.inr hsp)))
     go_wp2_with fail
     refine bodyPost_ret (v:=.int .i64 (-1)) ?_ rfl (TrR.mk HR.out rfl HK.out HM.out)
     simp [results,Tryz.results44,go_sem]
    |false=>
     have hτ5:=spent_no hsp
     go_wp2_with fail
     refine (HX.out (at_+n) _ τ _ (by omega) HM.out hn hτ5 (HC.out.le (by omega) HF.1 HF.2)).mono ?_
     rintro e w3 ⟨rfl,h1,h2⟩
     have HM3:=hide h2
     have HK3:=hide (HK.out.trans h1)
     have hst3:=hst (at_+n) τ hτ5
     have HRE:=hide (hre (at_+n) τ)
     clear h1 h2 HM HK
     obtain ⟨r,hr⟩:∃ r,nx (at_+n) τ=r:=⟨_,rfl⟩
     rw [hr] at HM3 hst3 HRE ⊢
     have HNX:=hide hr
     clear hr
     obtain ⟨o,τ'⟩:=r
     cases o with
     |some e=>
      have HR:=hide (HO.out.trans (downM_hit (by omega) hsp HNX.out))
      simp only [resI] at *
      have he0:(0:Int)≤(e:Int):=by omega
      go_wp2_with fail
      refine bodyPost_ret (v:=.int .i64 (e:Int)) ?_ rfl (TrR.mk HR.out rfl HK3.out HM3.out)
      simp [results,Tryz.results44,go_sem]
     |none=>
      simp only [resI] at *
      have HF5:SameC τ' σ:=⟨(HRE.out trivial).1.trans HF.1,(HRE.out trivial).2.trans HF.2⟩
      cases n with
      |zero=>
       have HR:=hide (HO.out.trans (downM_last (by omega) hsp HNX.out))
       go_wp2_with fail
       go_roundw
       case rel=>exact ⟨τ',by omega,HF5,HM3,HK3,.inr ⟨by simp,by omega,HR⟩⟩
       case measure=>simp
      |succ n=>
       have HR:=hide (HO.out.trans (downM_miss (by omega) hsp HNX.out))
       go_wp2_with fail
       go_roundw
       case rel=>exact ⟨τ',by omega,HF5,HM3,HK3,.inl ⟨n,by simp,by omega,HR⟩⟩
       case measure=>simp;omega
   ·have hl2:¬ ((0:Int)≤ -1):=by omega
    go_wp2_with fail
    refine bodyPost_ret (v:=.int .i64 (-1)) ?_ rfl (TrR.mk HO.out rfl HK.out HM.out)
    simp [results,Tryz.results44,go_sem]
theorem runL_snoc {s:ByteArray} {f:Nat→Bool}:∀ {n k:Nat},k<n→∀ a,has s f a=true→runL s f n a=runL s f (n-1) (a+1)+1
 |0,k,h,_,_=>by omega
 |n+1,k,h,a,ha=>by rw [runL,if_pos ha];rfl
theorem runL_0 {s:ByteArray} {f:Nat→Bool} {n a:Nat} (h:has s f a=false):runL s f n a=0:=by
 cases n with
 |zero=>rfl
 |succ n=>rw [runL,if_neg (by rw [h];simp)]
set_option maxHeartbeats 1600000 in
set_option maxRecDepth 100000 in
theorem one_d (M:Nat) (s:ByteArray) (t:Pt) (us:List (It × Value)) (vi vp vf vt:Value) (k:Nat) (pre:List It) (nx:Nx) (c:Nat) (it:It) (g at_:Nat) (σ:Ms) (w:World) (hs:s.size≤65536) (hk9:k≤1000) (hc9:c≤1000)
 (hx:NxOk M s t us vi vp vf vt k pre nx) (hre:Rest nx) (hst:StN s nx c) (hm:MS w M s t us vi vp vf vt σ) (hg:SetF w g it.set) (ha:at_≤s.size) (h5:σ.steps≤50000) (hcap:Cap pre σ at_) (h0:it.sign≠0) (h63:it.sign≠63) (h45:it.sign≠45):
 Calls Tryz.prog 44 #[.pointer (some ⟨M,0,none⟩),.agg (boxC it (.slice (some ⟨g,0,none⟩) 256 256)),.int .i64 k,.int .i64 at_] w fun e w'=>TrR M s t us vi vp vf vt w (oneM s it nx at_ σ) e w':=by
 have hs0b:(it.sign==63)=false:=beq_eq_false_iff_ne.2 h63
 have hs1b:(it.sign==0)=false:=beq_eq_false_iff_ne.2 h0
 have hs2b:(it.sign==45)=false:=beq_eq_false_iff_ne.2 h45
 have HQ:=hide (show oneM s it nx at_ σ=downM nx at_ (if it.sign=43 then 1 else 0) (runL s it.set s.size at_) (σ.more (runL s it.set s.size at_)) by rw [oneM,if_neg h0,if_neg h63,if_neg h45])
 clear h0 h63 h45
 have kb:Keeps w (w.alloc (.cells (boxC it (.slice (some ⟨g,0,none⟩) 256 256)) 91)) (fun _=>False):=Keeps.of (b_1 w _) (Nat.le_refl _) _
 have HM:=hide (hm.low kb)
 have HG:=hide (SetF.keep hg kb (fun x=>x))
 have HB:=hide (show BoxF (w.alloc (.cells (boxC it (.slice (some ⟨g,0,none⟩) 256 256)) 91)) w.heap.size it (.slice (some ⟨g,0,none⟩) 256 256) from RowF.mk' w 91 (boxC it (.slice (some ⟨g,0,none⟩) 256 256)))
 have HK:=hide (kb.mono (S':=MW M vf vt) (fun b hb=>hb.elim))
 have HX:=hide hx
 have HC:=hide hcap
 clear hm hg kb hx hcap
 go_enter Tryz.func44,Tryz.ntmps44
 go_wp2_with fail
 generalize w.alloc (.cells (boxC it (.slice (some ⟨g,0,none⟩) 256 256)) 91)=w1 at *
 generalize w.heap.size=X at *
 go_loopw [10] (fun iv wr=>SameW w1 wr∧∃ j:Nat,iv=.int .i64 j∧at_+j≤s.size∧Hid (runL s it.set s.size at_=j+runL s it.set (s.size-j) (at_+j))) (fun iv _=>s.size+1-ivN iv)
 case atStart=>exact ⟨Eq.refl _,0,rfl,by omega,hide (by simp)⟩
 case round=>
  obtain ⟨hw,j,rfl,hj,HJ⟩:=hrel
  obtain rfl:w1=wr:=hw
  have c1:w1.cell? ⟨X,1,none⟩=some (.slice (some ⟨g,0,none⟩) 256 256):=RowF.cell HB.out (j:=1) (by omega)
  have hai:(at_:Int)+(j:Int)=((at_+j:Nat):Int):=by omega
  have HH9:=hide (MS.hasC HM.out hs HG.out (at_:=at_+j) (by omega))
  rw [←hai] at HH9
  clear hai
  go_wp2_with fail
  refine HH9.out.mono ?_
  rintro e w2 ⟨rfl,hw⟩
  obtain rfl:=hw.symm
  clear HH9
  cases hh:has s it.set (at_+j) with
  |true=>
   have hlt:=has_lt hh
   have HJ2:=hide (HJ.out.trans (by rw [runL_snoc (n:=s.size-j) (k:=0) (by omega) (at_+j) hh]))
   go_wp2_with fail
   go_roundw
   case rel=>exact ⟨Eq.refl _,j+1,by simp,by omega,hide (HJ2.out.trans (by rw [show s.size-j-1=s.size-(j+1) by omega,show at_+j+1=at_+(j+1) by omega];omega))⟩
   case measure=>show s.size+1-ivN (.int .i64 _)<s.size+1-ivN (.int .i64 _);simp [ivN];omega
  |false=>
   have HJ2:=hide (HJ.out.trans (by rw [runL_0 hh]))
   have HQ2:=hide (HQ.out)
   rw [HJ2.out,Nat.add_zero] at HQ2
   clear HJ HQ
   have c2:w1.cell? ⟨X,2,none⟩=some (.int .u8 it.sign):=RowF.cell HB.out (j:=2) (by omega)
   have c6:w1.cell? ⟨M,6,none⟩=some (.int .i64 σ.steps):=RowF.cell HM.out.m (j:=6) (by omega)
   have z6:w1.frozen? ⟨M,6,none⟩=false:=RowF.frz HM.out.m 6
   have HM5:=hide (HM.out.step (σ.steps+j))
   have HK5:=hide (HK.out.trans (MS.kstep (w:=w1) (M:=M) (vf:=vf) (vt:=vt) (σ.steps+j)))
   have HB5:=hide (HB.out.keep HM.out (MS.kstep (σ.steps+j)))
   rw [show ((σ.steps+j:Nat):Int)=(σ.steps:Int)+(j:Int) by omega] at HM5 HK5 HB5
   have c22:(w1.setCell ⟨M,6,none⟩ (.int .i64 ((σ.steps:Int)+(j:Int)))).cell? ⟨X,2,none⟩=some (.int .u8 it.sign):=RowF.cell HB5.out (j:=2) (by omega)
   have hst0:(σ.more j).steps≤200000:=by show σ.steps+j≤200000;omega
   have HF0:SameC (σ.more j) σ:=⟨rfl,rfl⟩
   have hmst:at_+j≤s.size:=hj
   clear HM HK HG HB
   have HM:=HM5
   have HK:=HK5
   clear HM5 HK5 HB5
   by_cases h43:it.sign=43
   ·have h43b:(it.sign==43)=true:=beq_iff_eq.2 h43
    have HO:=hide (HQ2.out.trans (by rw [if_pos h43]))
    clear h43 HQ2 HJ2
    go_wp2_with fail
    go_loopw [13] (fun iv wr=>∃ τ:Ms,τ.steps≤200000∧SameC τ σ∧Hid (MS wr M s t us vi vp vf vt τ)∧Hid (Keeps w wr (MW M vf vt))∧((∃ n:Nat,iv=.int .i64 n∧at_+n≤s.size∧Hid (oneM s it nx at_ σ=downM nx at_ 1 n τ))∨(iv=.int .i64 (-1)∧1=0∧Hid (oneM s it nx at_ σ=(none,τ))))) (fun iv _=>match iv with | .int _ x=>(x+1).toNat|_=>0)
    case atStart=>exact ⟨_,hst0,HF0,HM,HK,.inl ⟨j,rfl,hmst,HO⟩⟩
    case round=>
     clear HM HK HO HF0 hst0 hmst
     obtain ⟨τ,hτ,HF,HM,HK,⟨n,rfl,hn,HO⟩|⟨rfl,hl0,HO⟩⟩:=hrel
     ·by_cases hl:n<1
      ·have HR:=hide (HO.out.trans (downM_stop (.inl hl)))
       go_wp2_with fail
       refine bodyPost_ret (v:=.int .i64 (-1)) ?_ rfl (TrR.mk HR.out rfl HK.out HM.out)
       simp [results,Tryz.results44,go_sem]
      ·have hl2:(1:Int)≤(n:Int):=by omega
       go_wp2_with fail
       refine (MS.spentC HM.out).mono ?_
       rintro e w2 ⟨rfl,hw⟩
       obtain rfl:=hw.symm
       cases hsp:τ.spent with
       |true=>
        have HR:=hide (HO.out.trans (downM_stop (.inr hsp)))
        go_wp2_with fail
        refine bodyPost_ret (v:=.int .i64 (-1)) ?_ rfl (TrR.mk HR.out rfl HK.out HM.out)
        simp [results,Tryz.results44,go_sem]
       |false=>
        have hτ5:=spent_no hsp
        go_wp2_with fail
        refine (HX.out (at_+n) _ τ _ (by omega) HM.out hn hτ5 (HC.out.le (by omega) HF.1 HF.2)).mono ?_
        rintro e w3 ⟨rfl,h1,h2⟩
        have HM3:=hide h2
        have HK3:=hide (HK.out.trans h1)
        have hst3:=hst (at_+n) τ hτ5
        have HRE:=hide (hre (at_+n) τ)
        clear h1 h2 HM HK
        obtain ⟨r,hr⟩:∃ r,nx (at_+n) τ=r:=⟨_,rfl⟩
        rw [hr] at HM3 hst3 HRE ⊢
        have HNX:=hide hr
        clear hr
        obtain ⟨o,τ'⟩:=r
        cases o with
        |some e=>
         have HR:=hide (HO.out.trans (downM_hit (by omega) hsp HNX.out))
         simp only [resI] at *
         have he0:(0:Int)≤(e:Int):=by omega
         go_wp2_with fail
         refine bodyPost_ret (v:=.int .i64 (e:Int)) ?_ rfl (TrR.mk HR.out rfl HK3.out HM3.out)
         simp [results,Tryz.results44,go_sem]
        |none=>
         simp only [resI] at *
         have HF5:SameC τ' σ:=⟨(HRE.out trivial).1.trans HF.1,(HRE.out trivial).2.trans HF.2⟩
         cases n with
         |zero=>
          have HR:=hide (HO.out.trans (downM_last (by omega) hsp HNX.out))
          go_wp2_with fail
          go_roundw
          case rel=>exact ⟨τ',by omega,HF5,HM3,HK3,.inr ⟨by simp,by omega,HR⟩⟩
          case measure=>simp
         |succ n=>
          have HR:=hide (HO.out.trans (downM_miss (by omega) hsp HNX.out))
          go_wp2_with fail
          go_roundw
          case rel=>exact ⟨τ',by omega,HF5,HM3,HK3,.inl ⟨n,by simp,by omega,HR⟩⟩
          case measure=>simp;omega
     ·have hl2:¬ ((1:Int)≤ -1):=by omega
      go_wp2_with fail
      refine bodyPost_ret (v:=.int .i64 (-1)) ?_ rfl (TrR.mk HO.out rfl HK.out HM.out)
      simp [results,Tryz.results44,go_sem]
   ·have h43b:(it.sign==43)=false:=beq_eq_false_iff_ne.2 h43
    have HO:=hide (HQ2.out.trans (by rw [if_neg h43]))
    clear h43 HQ2 HJ2
    go_wp2_with fail
    go_loopw [13] (fun iv wr=>∃ τ:Ms,τ.steps≤200000∧SameC τ σ∧Hid (MS wr M s t us vi vp vf vt τ)∧Hid (Keeps w wr (MW M vf vt))∧((∃ n:Nat,iv=.int .i64 n∧at_+n≤s.size∧Hid (oneM s it nx at_ σ=downM nx at_ 0 n τ))∨(iv=.int .i64 (-1)∧0=0∧Hid (oneM s it nx at_ σ=(none,τ))))) (fun iv _=>match iv with | .int _ x=>(x+1).toNat|_=>0)
    case atStart=>exact ⟨_,hst0,HF0,HM,HK,.inl ⟨j,rfl,hmst,HO⟩⟩
    case round=>
     clear HM HK HO HF0 hst0 hmst
     obtain ⟨τ,hτ,HF,HM,HK,⟨n,rfl,hn,HO⟩|⟨rfl,hl0,HO⟩⟩:=hrel
     ·have hl2:(0:Int)≤(n:Int):=by omega
      go_wp2_with fail
      refine (MS.spentC HM.out).mono ?_
      rintro e w2 ⟨rfl,hw⟩
      obtain rfl:=hw.symm
      cases hsp:τ.spent with
      |true=>
       have HR:=hide (HO.out.trans (downM_stop (.inr hsp)))
       go_wp2_with fail
       refine bodyPost_ret (v:=.int .i64 (-1)) ?_ rfl (TrR.mk HR.out rfl HK.out HM.out)
       simp [results,Tryz.results44,go_sem]
      |false=>
       have hτ5:=spent_no hsp
       go_wp2_with fail
       refine (HX.out (at_+n) _ τ _ (by omega) HM.out hn hτ5 (HC.out.le (by omega) HF.1 HF.2)).mono ?_
       rintro e w3 ⟨rfl,h1,h2⟩
       have HM3:=hide h2
       have HK3:=hide (HK.out.trans h1)
       have hst3:=hst (at_+n) τ hτ5
       have HRE:=hide (hre (at_+n) τ)
       clear h1 h2 HM HK
       obtain ⟨r,hr⟩:∃ r,nx (at_+n) τ=r:=⟨_,rfl⟩
       rw [hr] at HM3 hst3 HRE ⊢
       have HNX:=hide hr
       clear hr
       obtain ⟨o,τ'⟩:=r
       cases o with
       |some e=>
        have HR:=hide (HO.out.trans (downM_hit (by omega) hsp HNX.out))
        simp only [resI] at *
        have he0:(0:Int)≤(e:Int):=by omega
        go_wp2_with fail
        refine bodyPost_ret (v:=.int .i64 (e:Int)) ?_ rfl (TrR.mk HR.out rfl HK3.out HM3.out)
        simp [results,Tryz.results44,go_sem]
       |none=>
        simp only [resI] at *
        have HF5:SameC τ' σ:=⟨(HRE.out trivial).1.trans HF.1,(HRE.out trivial).2.trans HF.2⟩
        cases n with
        |zero=>
         have HR:=hide (HO.out.trans (downM_last (by omega) hsp HNX.out))
         go_wp2_with fail
         go_roundw
         case rel=>exact ⟨τ',by omega,HF5,HM3,HK3,.inr ⟨by simp,by omega,HR⟩⟩
         case measure=>simp
        |succ n=>
         have HR:=hide (HO.out.trans (downM_miss (by omega) hsp HNX.out))
         go_wp2_with fail
         go_roundw
         case rel=>exact ⟨τ',by omega,HF5,HM3,HK3,.inl ⟨n,by simp,by omega,HR⟩⟩
         case measure=>simp;omega
     ·have hl2:¬ ((0:Int)≤ -1):=by omega
      go_wp2_with fail
      refine bodyPost_ret (v:=.int .i64 (-1)) ?_ rfl (TrR.mk HO.out rfl HK.out HM.out)
      simp [results,Tryz.results44,go_sem]
theorem one_try (M:Nat) (s:ByteArray) (t:Pt) (us:List (It × Value)) (vi vp vf vt:Value) (k:Nat) (pre:List It) (nx:Nx) (c:Nat) (it:It) (g at_:Nat) (σ:Ms) (w:World) (hs:s.size≤65536) (hk9:k≤1000) (hc9:c≤1000)
 (hx:NxOk M s t us vi vp vf vt k pre nx) (hre:Rest nx) (hst:StN s nx c) (hm:MS w M s t us vi vp vf vt σ) (hg:SetF w g it.set) (ha:at_≤s.size) (h5:σ.steps≤50000) (hcap:Cap pre σ at_):
 Calls Tryz.prog 44 #[.pointer (some ⟨M,0,none⟩),.agg (boxC it (.slice (some ⟨g,0,none⟩) 256 256)),.int .i64 k,.int .i64 at_] w fun e w'=>TrR M s t us vi vp vf vt w (oneM s it nx at_ σ) e w':=by
 by_cases h0:it.sign=0
 ·exact one_0 M s t us vi vp vf vt k pre nx c it g at_ σ w hs hk9 hc9 hx hre hst hm hg ha h5 hcap h0
 by_cases h63:it.sign=63
 ·exact one_q M s t us vi vp vf vt k pre nx c it g at_ σ w hs hk9 hc9 hx hre hst hm hg ha h5 hcap h63
 by_cases h45:it.sign=45
 ·exact one_l M s t us vi vp vf vt k pre nx c it g at_ σ w hs hk9 hc9 hx hre hst hm hg ha h5 hcap h45
 exact one_d M s t us vi vp vf vt k pre nx c it g at_ σ w hs hk9 hc9 hx hre hst hm hg ha h5 hcap h0 h63 h45
end Go.Proofs.YtlgodacccilabaaGreatDoor
namespace Go.Proofs.YtlgodacccilabaaGreatDoor
open Go Go.RowKit
set_option linter.unusedVariables false
theorem pairM_end {s:ByteArray} {x y:Int} {nx:Nx} {q i n:Nat} {σ:Ms} (h:¬ i<s.size):pairM s x y nx q i n σ=(none,σ):=by
 cases q with
 |zero=>rfl
 |succ q=>rw [pairM,if_pos h]
theorem pairM_hit {s:ByteArray} {x y:Int} {nx:Nx} {q i:Nat} {σ:Ms} (h:i<s.size) (hy:hb s i=y) (hs:(σ.more 1).spent=false):pairM s x y nx (q+1) i 1 σ=nx (i+1) (σ.more 1):=by
 rw [pairM,if_neg (by omega),if_pos hy,if_pos rfl,if_neg (by rw [hs];simp)]
theorem pairM_sp {s:ByteArray} {x y:Int} {nx:Nx} {q i:Nat} {σ:Ms} (h:i<s.size) (hy:hb s i=y) (hs:(σ.more 1).spent=true):pairM s x y nx (q+1) i 1 σ=(none,σ.more 1):=by
 rw [pairM,if_neg (by omega),if_pos hy,if_pos rfl,if_pos hs]
theorem pairM_shut {s:ByteArray} {x y:Int} {nx:Nx} {q i n:Nat} {σ:Ms} (h:i<s.size) (hy:hb s i=y) (hn:n≠1):pairM s x y nx (q+1) i n σ=pairM s x y nx q (i+1) (n-1) (σ.more 1):=by
 rw [pairM,if_neg (by omega),if_pos hy,if_neg hn]
theorem pairM_open {s:ByteArray} {x y:Int} {nx:Nx} {q i n:Nat} {σ:Ms} (h:i<s.size) (hy:hb s i≠y) (hx:hb s i=x):pairM s x y nx (q+1) i n σ=pairM s x y nx q (i+1) (n+1) (σ.more 1):=by
 rw [pairM,if_neg (by omega),if_neg hy,if_pos hx]
theorem pairM_past {s:ByteArray} {x y:Int} {nx:Nx} {q i n:Nat} {σ:Ms} (h:i<s.size) (hy:hb s i≠y) (hx:hb s i≠x):pairM s x y nx (q+1) i n σ=pairM s x y nx q (i+1) n (σ.more 1):=by
 rw [pairM,if_neg (by omega),if_neg hy,if_neg hx]
def pairR (s:ByteArray) (it:It) (nx:Nx) (at_:Nat) (σ:Ms):Option Nat × Ms:=if ¬ at_<s.size∨hb s at_≠it.x then (none,σ) else pairM s it.x it.y nx s.size (at_+1) 1 σ
set_option maxHeartbeats 3200000 in
set_option maxRecDepth 100000 in
theorem pair_any (M:Nat) (s:ByteArray) (t:Pt) (us:List (It × Value)) (vi vp vf vt:Value) (k:Nat) (pre:List It) (nx:Nx) (it:It) (a9:Option Addr) (n9 c9 at_:Nat) (σ:Ms) (w:World) (hs:s.size≤65536) (hk9:k≤1000)
 (hx:NxOk M s t us vi vp vf vt k pre nx) (hm:MS w M s t us vi vp vf vt σ) (ha:at_≤s.size) (h5:σ.steps≤50000) (hcap:Cap pre σ at_):
 Calls Tryz.prog 45 #[.pointer (some ⟨M,0,none⟩),.agg (boxC it (.slice a9 n9 c9)),.int .i64 k,.int .i64 at_] w fun e w'=>TrR M s t us vi vp vf vt w (pairR s it nx at_ σ) e w':=by
 have kb:Keeps w (w.alloc (.cells (boxC it (.slice a9 n9 c9)) 91)) (fun _=>False):=Keeps.of (b_1 w _) (Nat.le_refl _) _
 have HM:=hide (hm.low kb)
 have HB:=hide (show BoxF (w.alloc (.cells (boxC it (.slice a9 n9 c9)) 91)) w.heap.size it (.slice a9 n9 c9) from RowF.mk' w 91 (boxC it (.slice a9 n9 c9)))
 have HK:=hide (kb.mono (S':=MW M vf vt) (fun b hb=>hb.elim))
 have HX:=hide hx
 have HC:=hide hcap
 clear hm kb hx hcap
 go_enter Tryz.func45,Tryz.ntmps45
 go_wp2_with fail
 generalize w.alloc (.cells (boxC it (.slice a9 n9 c9)) 91)=w1 at *
 generalize w.heap.size=X at *
 have c0:w1.cell? ⟨M,0,none⟩=some (.string s):=RowF.cell HM.out.m (j:=0) (by omega)
 have c4:w1.cell? ⟨X,4,none⟩=some (.int .u8 it.x):=RowF.cell HB.out (j:=4) (by omega)
 by_cases hin:at_<s.size
 ·have hi0:∀ w':World,(Instr.index 9 (.string s) (.int .i64 (at_:Int))).run Tryz.prog w'=.ok (.int .u8 (hb s at_)) w':=fun w'=>by
   rw [idx_str s (i:=(at_:Int)) w' (by omega) (by omega),Int.toNat_natCast]
  have hlt:¬ ((s.size:Int)≤(at_:Int)):=by omega
  by_cases hxx:hb s at_=it.x
  ·have hxb:(hb s at_ !=it.x)=false:=by simp [hxx]
   have HO:=hide (show pairR s it nx at_ σ=pairM s it.x it.y nx s.size (at_+1) 1 σ by rw [pairR,if_neg (by rw [hxx];simp;omega)])
   clear hxx
   go_quiet (fail)
   have HM:=hide (HM.out.low ((Keeps.refl _ _).drewN nq))
   have HB:=hide (show BoxF (w1.drewN nq) X it (.slice a9 n9 c9) from RowF.keep HB.out ((Keeps.refl w1 (fun _=>False)).drewN nq) (fun x=>x))
   have HK:=hide (HK.out.drewN nq)
   generalize w1.drewN nq=w2 at *
   clear c0 c4 hi0
   go_wp2_with fail
   go_loopw [9,10] (fun nv iv wr=>∃ (n i q:Nat) (τ:Ms),nv=.int .i64 n∧iv=.int .i64 i∧i≤s.size∧at_<i∧1≤n∧n≤i∧s.size+at_+1=q+i∧τ.steps≤50000+i∧SameC τ σ∧Hid (MS wr M s t us vi vp vf vt τ)∧Hid (BoxF wr X it (.slice a9 n9 c9))∧Hid (Keeps w wr (MW M vf vt))∧Hid (pairR s it nx at_ σ=pairM s it.x it.y nx q i n τ)) (fun _ iv _=>s.size+1-ivN iv)
   case atStart=>exact ⟨1,at_+1,s.size,σ,rfl,by simp,by omega,by omega,by omega,by omega,by omega,by omega,SameC.rfl σ,HM,HB,HK,HO⟩
   case round=>
    clear HM HB HK HO
    obtain ⟨n,i,q0,τ,rfl,rfl,hi1,hi2,hn1,hn2,hq,hτ,HF,HM,HB,HK,HO⟩:=hrel
    obtain ⟨q,rfl⟩:∃ q,q0=q+1:=⟨q0-1,by omega⟩
    have c0:wr.cell? ⟨M,0,none⟩=some (.string s):=RowF.cell HM.out.m (j:=0) (by omega)
    by_cases hin2:i<s.size
    ·have hi0:∀ w':World,(Instr.index 9 (.string s) (.int .i64 (i:Int))).run Tryz.prog w'=.ok (.int .u8 (hb s i)) w':=fun w'=>by
      rw [idx_str s (i:=(i:Int)) w' (by omega) (by omega),Int.toNat_natCast]
     have c6:wr.cell? ⟨M,6,none⟩=some (.int .i64 τ.steps):=RowF.cell HM.out.m (j:=6) (by omega)
     have z6:wr.frozen? ⟨M,6,none⟩=false:=RowF.frz HM.out.m 6
     have HM5:=hide (HM.out.step (τ.steps+1))
     have HK5:=hide (HK.out.trans (MS.kstep (w:=wr) (M:=M) (vf:=vf) (vt:=vt) (τ.steps+1)))
     have HB5:=hide (HB.out.keep HM.out (MS.kstep (τ.steps+1)))
     rw [show ((τ.steps+1:Nat):Int)=(τ.steps:Int)+1 by omega] at HM5 HK5 HB5
     go_wp2_with fail
     clear HM HB HK c0 c6 z6
     have HM:=HM5
     have HB:=HB5
     have HK:=HK5
     clear HM5 HB5 HK5
     generalize wr.setCell ⟨M,6,none⟩ (.int .i64 ((τ.steps:Int)+1))=w3 at *
     have c0:w3.cell? ⟨M,0,none⟩=some (.string s):=RowF.cell HM.out.m (j:=0) (by omega)
     have c5:w3.cell? ⟨X,5,none⟩=some (.int .u8 it.y):=RowF.cell HB.out (j:=5) (by omega)
     by_cases hy:hb s i=it.y
     ·have hyb:(hb s i==it.y)=true:=beq_iff_eq.2 hy
      have HY:=hide hy
      clear hy
      go_quiet (fail)
      have HM:=hide (HM.out.low ((Keeps.refl _ _).drewN nq))
      have HB:=hide (show BoxF (w3.drewN nq) X it (.slice a9 n9 c9) from RowF.keep HB.out ((Keeps.refl w3 (fun _=>False)).drewN nq) (fun x=>x))
      have HK:=hide (HK.out.drewN nq)
      generalize w3.drewN nq=w4 at *
      clear c0 c5
      by_cases hn:n=1
      ·subst hn
       go_wp2_with fail
       refine (MS.spentC HM.out).mono ?_
       rintro e w5 ⟨rfl,hw⟩
       obtain rfl:=hw.symm
       rw [show ({ τ with steps:=τ.steps+1 }:Ms)=τ.more 1 from rfl] at *
       cases hsp:(τ.more 1).spent with
       |true=>
        have HR:=hide (HO.out.trans (pairM_sp hin2 HY.out hsp))
        go_wp2_with fail
        refine bodyPost_ret (v:=.int .i64 (-1)) ?_ rfl (TrR.mk HR.out rfl HK.out HM.out)
        simp [results,Tryz.results45,go_sem]
       |false=>
        have HR:=hide (HO.out.trans (pairM_hit hin2 HY.out hsp))
        go_wp2_with fail
        refine (HX.out (i+1) _ (τ.more 1) _ (by omega) HM.out (by omega) (spent_no hsp) (HC.out.le (by omega) HF.1 HF.2)).mono ?_
        rintro e w6 ⟨rfl,h1,h2⟩
        go_wp2_with fail
        refine bodyPost_ret (v:=.int .i64 (resI (nx (i+1) (τ.more 1)).1)) ?_ rfl (TrR.mk HR.out rfl (HK.out.trans h1) h2)
        simp [results,Tryz.results45,go_sem]
      ·have HR:=hide (HO.out.trans (pairM_shut hin2 HY.out hn))
       have hnb:(((n:Int)-1)==0)=false:=beq_eq_false_iff_ne.2 (by omega)
       have HF5:SameC (τ.more 1) σ:=⟨HF.1,HF.2⟩
       go_wp2_with fail
       go_roundw
       case rel=>exact ⟨n-1,i+1,q,τ.more 1,by congr 1;omega,by simp,by omega,by omega,by omega,by omega,by omega,by show τ.steps+1≤50000+(i+1);omega,HF5,HM,HB,HK,HR⟩
       case measure=>show s.size+1-ivN (.int .i64 _)<s.size+1-ivN (.int .i64 _);simp [ivN];omega
     ·have hyb:(hb s i==it.y)=false:=beq_eq_false_iff_ne.2 hy
      have HY:=hide hy
      clear hy
      go_quiet (fail)
      have HM:=hide (HM.out.low ((Keeps.refl _ _).drewN nq))
      have HB:=hide (show BoxF (w3.drewN nq) X it (.slice a9 n9 c9) from RowF.keep HB.out ((Keeps.refl w3 (fun _=>False)).drewN nq) (fun x=>x))
      have HK:=hide (HK.out.drewN nq)
      generalize w3.drewN nq=w4 at *
      clear c0 c5
      have c0:w4.cell? ⟨M,0,none⟩=some (.string s):=RowF.cell HM.out.m (j:=0) (by omega)
      have c4:w4.cell? ⟨X,4,none⟩=some (.int .u8 it.x):=RowF.cell HB.out (j:=4) (by omega)
      have HF5:SameC (τ.more 1) σ:=⟨HF.1,HF.2⟩
      go_wp2_with fail
      by_cases hx2:hb s i=it.x
      ·have hxb2:(hb s i==it.x)=true:=beq_iff_eq.2 hx2
       have HR:=hide (HO.out.trans (pairM_open hin2 HY.out hx2))
       clear hx2
       go_quiet (fail)
       have HM:=hide (HM.out.low ((Keeps.refl _ _).drewN nq))
       have HB:=hide (show BoxF (w4.drewN nq) X it (.slice a9 n9 c9) from RowF.keep HB.out ((Keeps.refl w4 (fun _=>False)).drewN nq) (fun x=>x))
       have HK:=hide (HK.out.drewN nq)
       generalize w4.drewN nq=w5 at *
       go_wp2_with fail
       go_roundw
       case rel=>exact ⟨n+1,i+1,q,τ.more 1,by simp,by simp,by omega,by omega,by omega,by omega,by omega,by show τ.steps+1≤50000+(i+1);omega,HF5,HM,HB,HK,HR⟩
       case measure=>show s.size+1-ivN (.int .i64 _)<s.size+1-ivN (.int .i64 _);simp [ivN];omega
      ·have hxb2:(hb s i==it.x)=false:=beq_eq_false_iff_ne.2 hx2
       have HR:=hide (HO.out.trans (pairM_past hin2 HY.out hx2))
       clear hx2
       go_quiet (fail)
       have HM:=hide (HM.out.low ((Keeps.refl _ _).drewN nq))
       have HB:=hide (show BoxF (w4.drewN nq) X it (.slice a9 n9 c9) from RowF.keep HB.out ((Keeps.refl w4 (fun _=>False)).drewN nq) (fun x=>x))
       have HK:=hide (HK.out.drewN nq)
       generalize w4.drewN nq=w5 at *
       go_wp2_with fail
       go_roundw
       case rel=>exact ⟨n,i+1,q,τ.more 1,rfl,by simp,by omega,by omega,by omega,by omega,by omega,by show τ.steps+1≤50000+(i+1);omega,HF5,HM,HB,HK,HR⟩
       case measure=>show s.size+1-ivN (.int .i64 _)<s.size+1-ivN (.int .i64 _);simp [ivN];omega
    ·have HR:=hide (HO.out.trans (pairM_end hin2))
     go_wp2_with fail
     refine bodyPost_ret (v:=.int .i64 (-1)) ?_ rfl (TrR.mk HR.out rfl HK.out HM.out)
     simp [results,Tryz.results45,go_sem]
  ·have hxb:(hb s at_ !=it.x)=true:=by simp [hxx]
   have HO:=hide (show pairR s it nx at_ σ=(none,σ) by rw [pairR,if_pos (.inr hxx)])
   clear hxx
   go_quiet (fail)
   have HM:=hide (HM.out.low ((Keeps.refl _ _).drewN nq))
   have HB:=hide (show BoxF (w1.drewN nq) X it (.slice a9 n9 c9) from RowF.keep HB.out ((Keeps.refl w1 (fun _=>False)).drewN nq) (fun x=>x))
   have HK:=hide (HK.out.drewN nq)
   generalize w1.drewN nq=w2 at *
   go_wp2_with fail
   refine bodyPost_ret (v:=.int .i64 (-1)) ?_ rfl (TrR.mk HO.out rfl HK.out HM.out)
   simp [results,Tryz.results45,go_sem]
 ·have hlt:(s.size:Int)≤(at_:Int):=by omega
  have HO:=hide (show pairR s it nx at_ σ=(none,σ) by rw [pairR,if_pos (.inl hin)])
  go_quiet (fail)
  have HM:=hide (HM.out.low ((Keeps.refl _ _).drewN nq))
  have HB:=hide (show BoxF (w1.drewN nq) X it (.slice a9 n9 c9) from RowF.keep HB.out ((Keeps.refl w1 (fun _=>False)).drewN nq) (fun x=>x))
  have HK:=hide (HK.out.drewN nq)
  generalize w1.drewN nq=w2 at *
  go_wp2_with fail
  refine bodyPost_ret (v:=.int .i64 (-1)) ?_ rfl (TrR.mk HO.out rfl HK.out HM.out)
  simp [results,Tryz.results45,go_sem]
end Go.Proofs.YtlgodacccilabaaGreatDoor
