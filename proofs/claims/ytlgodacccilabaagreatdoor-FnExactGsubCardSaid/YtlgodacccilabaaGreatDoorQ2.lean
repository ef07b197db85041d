import Derived.Test.YtlgodacccilabaaGreatDoorJQH
import Derived.Test.YtlgodacccilabaaGreatDoorPP
namespace Go.Proofs.YtlgodacccilabaaGreatDoor
open Go Go.RowKit Go.Shelf
set_option linter.unusedVariables false
def Ag (pre:List It) (nt:Nt) (σ:Ms):Prop:=∀ j∈pre,(j.kind=1→nt j.n=(true,σ.fr j.n,σ.fr j.n))∧(j.kind=2→(nt j.n).1=false∧(nt j.n).2.1=σ.fr j.n)∧(j.kind=3→(nt j.n).2.2=σ.tt j.n)
def Sm (pre:List It) (nt nt':Nt):Prop:=∀ j∈pre,(j.kind=1→nt' j.n=nt j.n)∧(j.kind=2→(nt' j.n).1=(nt j.n).1∧(nt' j.n).2.1=(nt j.n).2.1)∧(j.kind=3→(nt' j.n).2.2=(nt j.n).2.2)
theorem Sm.rfl' (pre:List It) (nt:Nt):Sm pre nt nt:=fun j _=>⟨fun _=>rfl,fun _=>⟨rfl,rfl⟩,fun _=>rfl⟩
theorem Sm.trans {pre:List It} {a b c:Nt} (h:Sm pre a b) (k:Sm pre b c):Sm pre a c:=fun j hj=>
 ⟨fun x=>((k j hj).1 x).trans ((h j hj).1 x),fun x=>⟨((k j hj).2.1 x).1.trans ((h j hj).2.1 x).1,((k j hj).2.1 x).2.trans ((h j hj).2.1 x).2⟩,fun x=>((k j hj).2.2 x).trans ((h j hj).2.2 x)⟩
theorem Sm.sub {pre:List It} {it:It} {a b:Nt} (h:Sm (pre++[it]) a b):Sm pre a b:=fun j hj=>h j (List.mem_append_left _ hj)
theorem Ag.same {pre:List It} {nt nt':Nt} {σ σ':Ms} (h:Ag pre nt σ) (k:Sm pre nt nt') (h1:σ'.fr=σ.fr) (h2:σ'.tt=σ.tt):Ag pre nt' σ':=fun j hj=>
 ⟨fun x=>by rw [(k j hj).1 x,h1];exact (h j hj).1 x,fun x=>by rw [((k j hj).2.1 x).1,((k j hj).2.1 x).2,h1];exact (h j hj).2.1 x,fun x=>by rw [(k j hj).2.2 x,h2];exact (h j hj).2.2 x⟩
theorem Ag.other {pre:List It} {it:It} {nt:Nt} {σ σ':Ms} (h:Ag pre nt σ) (hk:it.kind=0∨3<it.kind) (h1:σ'.fr=σ.fr) (h2:σ'.tt=σ.tt):Ag (pre++[it]) nt σ':=fun j hj=>by
 rcases List.mem_append.1 hj with hj|hj
 ·exact h.same (Sm.rfl' _ _) h1 h2 j hj
 ·rw [List.mem_singleton.1 hj]
  exact ⟨fun x=>by omega,fun x=>by omega,fun x=>by omega⟩
structure Sx where
 S:Nat
 s:ByteArray
 fx:Bool
 cn:Nat
 wh:Value
 its:List It
def WyR (X:Sx) (pre:List It) (w:World) (nt:Nt) (r:Option Nat × Ms) (e:Ending) (w':World):Prop:=
 Keeps w w' (fun b=>b=X.S)∧∃ n' nt' to',SB w' X.S X.s X.fx X.cn X.wh n' nt' to'∧
  ((r.2.spent=true∧e=.returned (.int .i64 2)∧50000<n'∧n'≤1000000)∨
   (r.2.spent=false∧(∃ x,r.1=some x∧to'=x)∧e=.returned (.int .i64 1)∧n'=r.2.steps∧Ag X.its nt' r.2)∨
   (r.2.spent=false∧r.1=none∧e=.returned (.int .i64 0)∧n'=r.2.steps∧Sm pre nt nt'))
theorem WyR.sub {X:Sx} {pre:List It} {it:It} {w w1 w':World} {nt nt1:Nt} {r r':Option Nat × Ms} {e:Ending} (h:WyR X (pre++[it]) w1 nt1 r e w') (hr:r'=r) (k:Keeps w w1 (fun b=>b=X.S)) (hs:Sm pre nt nt1):WyR X pre w nt r' e w':=by
 subst hr
 obtain ⟨h1,n',nt',to',h2,h3|h3|⟨a,b,c,d,h3⟩⟩:=h
 ·exact ⟨k.trans h1,n',nt',to',h2,.inl h3⟩
 ·exact ⟨k.trans h1,n',nt',to',h2,.inr (.inl h3)⟩
 ·exact ⟨k.trans h1,n',nt',to',h2,.inr (.inr ⟨a,b,c,d,hs.trans h3.sub⟩)⟩
theorem WyR.fail {X:Sx} {pre:List It} {w w':World} {nt nt':Nt} {to':Nat} {r:Option Nat × Ms} {σ:Ms} (hr:r=(none,σ)) (k:Keeps w w' (fun b=>b=X.S)) (hb:SB w' X.S X.s X.fx X.cn X.wh σ.steps nt' to') (hσ:σ.steps≤50000) (hs:Sm pre nt nt'):WyR X pre w nt r (.returned (.int .i64 0)) w':=by
 subst hr
 exact ⟨k,_,nt',to',hb,.inr (.inr ⟨by unfold Ms.spent;simpa using hσ,rfl,rfl,rfl,hs⟩)⟩
theorem WyR.out {X:Sx} {pre:List It} {w w':World} {nt nt':Nt} {n' to':Nat} {r:Option Nat × Ms} (hr:r.2.spent=true) (k:Keeps w w' (fun b=>b=X.S)) (hb:SB w' X.S X.s X.fx X.cn X.wh n' nt' to') (h1:50000<n') (h2:n'≤1000000):WyR X pre w nt r (.returned (.int .i64 2)) w':=
 ⟨k,n',nt',to',hb,.inl ⟨hr,rfl,h1,h2⟩⟩
structure WyOk (X:Sx) (pre:List It) (nx:Nx) (fn:Nat) (bd cs:Array Value) (D:World→Prop):Prop where
 en:∀ (args:Array Value) (w:World),(callFunc fn args).run Tryz.prog w=.ok (.enter fn args) w
 keep:∀ w w',D w→Keeps w w' (fun b=>b=X.S)→D w'
 go:∀ (at_:Nat) (ai:Int) (σ:Ms) (nt:Nt) (to_:Nat) (w:World),ai=at_→D w→SB w X.S X.s X.fx X.cn X.wh σ.steps nt to_→at_≤X.s.size→σ.steps≤50000→Cap pre σ at_→Ag pre nt σ→
  Calls Tryz.prog fn (bd.push (.int .i64 ai)++cs) w fun e w'=>WyR X pre w nt (nx at_ σ) e w'
theorem WyR.val {X:Sx} {pre:List It} {w w':World} {nt:Nt} {r:Option Nat × Ms} {e:Ending} (h:WyR X pre w nt r e w'):∃ v:Int,e=.returned (.int .i64 v):=by
 obtain ⟨_,_,_,_,_,⟨_,rfl,_⟩|⟨_,_,rfl,_⟩|⟨_,_,rfl,_⟩⟩:=h
 ·exact ⟨2,rfl⟩
 ·exact ⟨1,rfl⟩
 ·exact ⟨0,rfl⟩
def openM (it:It) (nx:Nx) (at_:Nat) (σ:Ms):Option Nat × Ms:=match nx at_ { σ with fr:=upd σ.fr it.n at_ } with
 |(some e,σ')=>(some e,σ')
 |(none,σ')=>(none,{ σ' with fr:=upd σ'.fr it.n (σ.fr it.n) })
def shutM (it:It) (nx:Nx) (at_:Nat) (σ:Ms):Option Nat × Ms:=match nx at_ { σ with tt:=upd σ.tt it.n at_ } with
 |(some e,σ')=>(some e,σ')
 |(none,σ')=>(none,{ σ' with tt:=upd σ'.tt it.n (σ.tt it.n) })
def endM (s:ByteArray) (nx:Nx) (at_:Nat) (σ:Ms):Option Nat × Ms:=if at_≠s.size then (none,σ) else nx at_ σ
def edgeM (s:ByteArray) (it:It) (nx:Nx) (at_:Nat) (σ:Ms):Option Nat × Ms:=if it.set (hbB s at_).toNat=true∨it.set (hb s at_).toNat=false then (none,σ) else nx at_ σ
theorem WyR.capF {X:Sx} {pre:List It} {it:It} {nx:Nx} {at_:Nat} {σ:Ms} {w w1 w':World} {nt nt1:Nt} {e:Ending} (h:WyR X (pre++[it]) w1 nt1 (nx at_ { σ with fr:=upd σ.fr it.n at_ }) e w') (k:Keeps w w1 (fun b=>b=X.S)) (hs:Sm pre nt nt1):WyR X pre w nt (openM it nx at_ σ) e w':=by
 unfold openM
 generalize nx at_ { σ with fr:=upd σ.fr it.n at_ }=r at h ⊢
 obtain ⟨o,σ'⟩:=r
 obtain ⟨h1,n',nt',to',h2,h3|⟨a,⟨x,b,c⟩,h3⟩|⟨a,b,c,d,h3⟩⟩:=h
 ·cases o with
  |none=>exact ⟨k.trans h1,n',nt',to',h2,.inl h3⟩
  |some x=>exact ⟨k.trans h1,n',nt',to',h2,.inl h3⟩
 ·simp only at b
  subst b
  exact ⟨k.trans h1,n',nt',to',h2,.inr (.inl ⟨a,⟨x,rfl,c⟩,h3⟩)⟩
 ·simp only at b
  subst b
  exact ⟨k.trans h1,n',nt',to',h2,.inr (.inr ⟨a,rfl,c,d,hs.trans h3.sub⟩)⟩
theorem WyR.capT {X:Sx} {pre:List It} {it:It} {nx:Nx} {at_:Nat} {σ:Ms} {w w1 w':World} {nt nt1:Nt} {e:Ending} (h:WyR X (pre++[it]) w1 nt1 (nx at_ { σ with tt:=upd σ.tt it.n at_ }) e w') (k:Keeps w w1 (fun b=>b=X.S)) (hs:Sm pre nt nt1):WyR X pre w nt (shutM it nx at_ σ) e w':=by
 unfold shutM
 generalize nx at_ { σ with tt:=upd σ.tt it.n at_ }=r at h ⊢
 obtain ⟨o,σ'⟩:=r
 obtain ⟨h1,n',nt',to',h2,h3|⟨a,⟨x,b,c⟩,h3⟩|⟨a,b,c,d,h3⟩⟩:=h
 ·cases o with
  |none=>exact ⟨k.trans h1,n',nt',to',h2,.inl h3⟩
  |some x=>exact ⟨k.trans h1,n',nt',to',h2,.inl h3⟩
 ·simp only at b
  subst b
  exact ⟨k.trans h1,n',nt',to',h2,.inr (.inl ⟨a,⟨x,rfl,c⟩,h3⟩)⟩
 ·simp only at b
  subst b
  exact ⟨k.trans h1,n',nt',to',h2,.inr (.inr ⟨a,rfl,c,d,hs.trans h3.sub⟩)⟩
theorem SB.setN2 {w:World} {S:Nat} {s:ByteArray} {fx:Bool} {cn:Nat} {wh:Value} {n:Nat} {nt:Nt} {to_:Nat} (h:SB w S s fx cn wh n nt to_) {k:Nat} (hk:k<16) (y:Nat):
 SB (w.setCell ⟨S,5+k*3+2,none⟩ (.int .i64 y)) S s fx cn wh n (updN nt k ((nt k).1,(nt k).2.1,y)) to_:=
 (RowF.set h (j:=5+k*3+2) (by omega) _).congr fun j hj=>by
   by_cases e2:j=5+k*3+2
   ·rw [if_pos e2];subst e2
    simp only [scells]
    rw [if_neg (by omega),if_neg (by omega),if_neg (by omega),if_neg (by omega),if_neg (by omega),if_neg (by omega),if_neg (by omega),if_neg (by omega),show (5+k*3+2-5)/3=k by omega,updN_same]
   rw [if_neg e2]
   simp only [scells]
   by_cases h5:j<5
   ·have:j=0∨j=1∨j=2∨j=3∨j=4:=by omega
    rcases this with rfl|rfl|rfl|rfl|rfl<;>rfl
   ·by_cases h53:j=53
    ·subst h53;rfl
    ·by_cases ek:(j-5)/3=k
     ·rw [ek,updN_same]
      by_cases m0:(j-5)%3=0
      ·simp only [m0,if_true]
      ·have m1:(j-5)%3=1:=by omega
       simp only [m1];rfl
     ·rw [updN_other nt _ ek]
set_option maxHeartbeats 1600000 in
set_option maxRecDepth 100000 in
theorem it_single (X:Sx) (pre:List It) (it:It) (nx:Nx) (fn:Nat) (bd cs:Array Value) (D:World→Prop) (at_:Nat) (σ:Ms) (nt:Nt) (to_:Nat) (w:World) (hs:X.s.size≤65536)
 (hx:WyOk X (pre++[it]) nx fn bd cs D) (hD:D w) (hb:SB w X.S X.s X.fx X.cn X.wh σ.steps nt to_) (ha:at_≤X.s.size) (h5:σ.steps≤50000) (hc:Cap (pre++[it]) σ at_) (hg:Ag (pre++[it]) nt σ) (C:Nat) (hCl:ClF w C it.set) (hC:C≠X.S) (h0:it.sign=0):
 Calls Tryz.prog 96 #[.pointer (some ⟨X.S,0,none⟩),.int .i64 at_,.func (.func fn) bd cs,.pointer (some ⟨C,0,none⟩)] w fun e w'=>WyR X pre w nt (oneM X.s it nx at_ σ) e w':=by
 obtain ⟨S,s,fx,cn,wh,its⟩:=X
 dsimp only at *
 have e1:=hx.en
 have HX:=hide hx
 have HD:=hide hD
 have HB:=hide hb
 have HC:=hide hc
 have HG:=hide hg
 have c0:=hb.subj
 clear hx hD hb hc hg
 have HCl:=hide hCl
 clear hCl
 go_enter Tryz.func96,Tryz.ntmps96
 go_wp2_with fail
 refine (stands_any C it.set s at_ w (by omega) hs HCl.out).mono ?_
 rintro e w1 ⟨rfl,hk1⟩
 have HD:=hide (HX.out.keep _ _ HD.out (hk1.mono (fun b hb=>hb.elim)))
 have HB:=hide (HB.out.keep hk1 (fun x=>x))
 have HK1:=hide (hk1.mono (S':=fun b=>b=S) (fun b hb=>hb.elim))
 have HCl:=hide (show ClF w1 C it.set from RowF.keep HCl.out hk1 (fun x=>x))
 clear hk1 c0
 cases hh:has s it.set at_ with
 |false=>
  have HO:=hide (show oneM s it nx at_ σ=(none,σ) by rw [oneM,if_pos h0,if_neg (by rw [hh];simp)])
  go_wp2_with fail
  refine bodyPost_ret (v:=.int .i64 0) ?_ rfl (WyR.fail HO.out HK1.out HB.out h5 (Sm.rfl' _ _))
  simp [results,Tryz.results96,go_sem]
 |true=>
  have hlt:=has_lt hh
  have HO:=hide (show oneM s it nx at_ σ=nx (at_+1) σ by rw [oneM,if_pos h0,if_pos hh])
  go_wp2_with fail
  refine (HX.out.go (at_+1) _ σ nt to_ _ (by omega) HD.out HB.out (show at_+1≤s.size by omega) h5 (HC.out.le (by omega) rfl rfl) HG.out).mono ?_
  rintro e w2 hw
  have HW:=hide (hw.sub (nt:=nt) HO.out HK1.out (Sm.rfl' _ _))
  obtain ⟨v,hv⟩:=WyR.val hw
  obtain rfl:=hv
  clear hw
  go_wp2_with fail
  refine bodyPost_ret (v:=.int .i64 v) ?_ rfl (HW.out)
  simp [results,Tryz.results96,go_sem]
set_option maxHeartbeats 1600000 in
set_option maxRecDepth 100000 in
theorem it_end (X:Sx) (pre:List It) (it:It) (nx:Nx) (fn:Nat) (bd cs:Array Value) (D:World→Prop) (at_:Nat) (σ:Ms) (nt:Nt) (to_:Nat) (w:World) (hs:X.s.size≤65536)
 (hx:WyOk X (pre++[it]) nx fn bd cs D) (hD:D w) (hb:SB w X.S X.s X.fx X.cn X.wh σ.steps nt to_) (ha:at_≤X.s.size) (h5:σ.steps≤50000) (hc:Cap (pre++[it]) σ at_) (hg:Ag (pre++[it]) nt σ):
 Calls Tryz.prog 47 #[.pointer (some ⟨X.S,0,none⟩),.int .i64 at_,.func (.func fn) bd cs] w fun e w'=>WyR X pre w nt (endM X.s nx at_ σ) e w':=by
 obtain ⟨S,s,fx,cn,wh,its⟩:=X
 dsimp only at *
 have e1:=hx.en
 have HX:=hide hx
 have HD:=hide hD
 have HB:=hide hb
 have HC:=hide hc
 have HG:=hide hg
 have c0:=hb.subj
 clear hx hD hb hc hg
 by_cases he:at_=s.size
 ·have HO:=hide (show endM s nx at_ σ=nx at_ σ by rw [endM,if_neg (by simp [he])])
  have hlt:¬ ((at_:Int)<(s.size:Int)):=by omega
  clear he
  go_enter Tryz.func47,Tryz.ntmps47
  go_wp2_with fail
  refine (HX.out.go at_ _ σ nt to_ _ rfl HD.out HB.out ha h5 HC.out HG.out).mono ?_
  rintro e w2 hw
  have HW:=hide (hw.sub (nt:=nt) HO.out (Keeps.refl _ _) (Sm.rfl' _ _))
  obtain ⟨v,hv⟩:=WyR.val hw
  obtain rfl:=hv
  clear hw
  go_wp2_with fail
  refine bodyPost_ret (v:=.int .i64 v) ?_ rfl (HW.out)
  simp [results,Tryz.results47,go_sem]
 ·have HO:=hide (show endM s nx at_ σ=(none,σ) by rw [endM,if_pos he])
  have hlt:(at_:Int)<(s.size:Int):=by omega
  clear he
  go_enter Tryz.func47,Tryz.ntmps47
  go_wp2_with fail
  refine bodyPost_ret (v:=.int .i64 0) ?_ rfl (WyR.fail HO.out (Keeps.refl _ _) HB.out h5 (Sm.rfl' _ _))
  simp [results,Tryz.results47,go_sem]
end Go.Proofs.YtlgodacccilabaaGreatDoor
