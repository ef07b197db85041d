import Derived.Test.YtjibjahfbblieaaGreatDoorKBO
namespace Go.Proofs.YtjibjahfbblieaaGreatDoor.F
open Go Go.RowKit
def nY (c:Int):Bool:=dQ c||c==46
def aX (s:List Int × Nat × Nat) (c:Int):List Int × Nat × Nat:=if c=46 then (s.1,s.2.1,s.2.2+1) else (s.1++[c],s.2.1+s.2.2,s.2.2)
def aY (l:List Int):List Int × Nat × Nat:=l.foldl aX ([],0,0)
theorem ng {l:List Int} {k:Nat} (h:k<l.length):aY (l.take (k+1))=aX (aY (l.take k)) (l.getD k 0):=by
 unfold aY
 rw [List.take_succ_eq_append_getElem h,List.foldl_append,getD_lt h]
 rfl
def lF:List Int->Nat
 | []=>0
 |c::r=>if nY c=true then lF r+1 else 0
theorem LJ {l:List Int} {k:Nat} (hk:k<=l.length) (h:∀ j,j<k->nY (l.getD j 0)=true) (he:k=l.length∨nY (l.getD k 0)=false):lF l=k:=by
 induction l generalizing k with
 |nil=>simp at hk;subst hk;rfl
 |cons c r ih=>
  cases k with
  |zero=>
   rcases he with he|he
   ·simp at he
   ·have:nY c=false:=by simpa using he
    simp [lF,this]
  |succ k=>
   have h0:nY c=true:=by simpa using h 0 (by omega)
   have hr:=ih (k:=k) (by simpa using hk) (fun j hj=>by simpa using h (j+1) (by omega)) (by
    rcases he with he|he
    ·left;simpa using he
    ·right;simpa using he)
   simp [lF,h0,hr]
theorem Ec (l:List Int):(aY l).1.length<=l.length/\(aY l).2.2<=l.length:=by
 have key:∀ (l:List Int) (s:List Int × Nat × Nat),(l.foldl aX s).1.length<=s.1.length+l.length/\(l.foldl aX s).2.2<=s.2.2+l.length:=by
  intro l
  induction l with
  |nil=>intro s;simp
  |cons c r ih=>
   intro s
   have:=ih (aX s c)
   simp only [List.foldl_cons,List.length_cons]
   unfold aX at this ⊢
   split at this
   ·rename_i h;rw [if_pos h];simp at this ⊢;omega
   ·rename_i h;rw [if_neg h];simp at this ⊢;omega
 have:=key l ([],0,0)
 unfold aY
 simpa using this
theorem vR {l:List Int} (h:∀ c∈l,nY c=true):∀ c∈(aY l).1,48<=c/\c<=57:=by
 have key:∀ (l:List Int) (s:List Int × Nat × Nat),(∀ c∈l,nY c=true)->(∀ c∈s.1,48<=c/\c<=57)->∀ c∈(l.foldl aX s).1,48<=c/\c<=57:=by
  intro l
  induction l with
  |nil=>intro s _ hs;exact hs
  |cons c r ih=>
   intro s hl hs
   refine ih (aX s c) (fun x hx=>hl x (by simp [hx])) ?_
   unfold aX
   split
   ·exact hs
   ·rename_i hc
    intro x hx
    rcases List.mem_append.1 hx with hx|hx
    ·exact hs x hx
    ·have hxc:x=c:=by simpa using hx
     have h1:=hl c (by simp)
     rw [hxc]
     simp [nY,dQ,hc] at h1
     exact h1
 exact key l ([],0,0) h (fun c hc=>by cases hc)
theorem sH {l:List Int} (h:(aY l).2.2<=1):(aY l).2.1<=(aY l).1.length:=by
 have key:∀ (l:List Int) (s:List Int × Nat × Nat),(l.foldl aX s).2.2<=1->s.2.1<=s.1.length->s.2.2<=(l.foldl aX s).2.2/\(l.foldl aX s).2.1<=(l.foldl aX s).1.length:=by
  intro l
  induction l with
  |nil=>intro s _ h;exact ⟨Nat.le_refl _,h⟩
  |cons c r ih=>
   intro s h1 h2
   have mono:∀ (r:List Int) (s:List Int × Nat × Nat),s.2.2<=(r.foldl aX s).2.2:=by
    intro r
    induction r with
    |nil=>intro s;exact Nat.le_refl _
    |cons c r ih=>intro s;refine Nat.le_trans ?_ (ih (aX s c));unfold aX;split<;>simp
   have hm:=mono r (aX s c)
   simp only [List.foldl_cons] at h1 ⊢
   have h3:(aX s c).2.1<=(aX s c).1.length:=by
    unfold aX at hm ⊢
    split
    ·exact h2
    ·rename_i hc;rw [if_neg hc] at hm;simp at hm ⊢;have:s.2.2<=1:=by unfold aX at h1;rw [if_neg hc] at h1;omega
     omega
   have h4:=ih (aX s c) h1 h3
   refine ⟨Nat.le_trans ?_ h4.1,h4.2⟩
   unfold aX;split<;>simp
 exact (key l ([],0,0) h (by simp)).2
end Go.Proofs.YtjibjahfbblieaaGreatDoor.F
