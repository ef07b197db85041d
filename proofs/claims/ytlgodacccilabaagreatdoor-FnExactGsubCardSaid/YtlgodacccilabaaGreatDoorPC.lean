import Derived.Test.YtlgodacccilabaaGreatDoorJPB
namespace Go.Proofs.YtlgodacccilabaaGreatDoor
open Go Go.RowKit
set_option linter.unusedVariables false
theorem has_lt {s:ByteArray} {f:Nat→Bool} {k:Nat} (h:has s f k=true):k<s.size:=by
 unfold has at h
 simp only [Bool.and_eq_true,decide_eq_true_eq] at h
 exact h.1
theorem runL_le (s:ByteArray) (f:Nat→Bool):∀ n k,k≤s.size→runL s f n k≤n∧k+runL s f n k≤s.size
 |0,k,h=>by simp [runL,h]
 |n+1,k,h=>by
  rw [runL]
  split
  ·rename_i hh
   have h1:=has_lt hh
   have h2:=runL_le s f n (k+1) h1
   omega
  ·omega
def RngN (s:ByteArray) (nx:Nx):Prop:=∀ at_ σ e,at_≤s.size→(nx at_ σ).1=some e→at_≤e∧e≤s.size
theorem lazyM_rng {s:ByteArray} {f:Nat→Bool} {nx:Nx} (h:RngN s nx):∀ k n σ e,n≤s.size→(lazyM s f nx k n σ).1=some e→n≤e∧e≤s.size
 |0,n,σ,e,hn,he=>by simp [lazyM] at he
 |k+1,n,σ,e,hn,he=>by
  rw [lazyM] at he
  split at he
  ·simp at he
  ·have hr:=h n σ
   generalize nx n σ=r at *
   obtain ⟨o,σ'⟩:=r
   cases o with
   |some e'=>
    simp only [Option.some.injEq] at he
    subst he
    exact hr e' hn rfl
   |none=>
    simp only at he
    split at he
    ·rename_i hh
     have h1:=has_lt hh
     have:=lazyM_rng h k (n+1) (σ'.more 1) e h1 he
     omega
    ·simp at he
theorem downM_rng {s:ByteArray} {nx:Nx} (h:RngN s nx) (at_ least:Nat):∀ n σ e,at_+n≤s.size→(downM nx at_ least n σ).1=some e→at_≤e∧e≤s.size
 |0,σ,e,hn,he=>by
  rw [downM] at he
  split at he
  ·simp at he
  ·exact h at_ σ e (by omega) he
 |n+1,σ,e,hn,he=>by
  rw [downM] at he
  split at he
  ·simp at he
  ·have hr:=h (at_+(n+1)) σ
   generalize nx (at_+(n+1)) σ=r at *
   obtain ⟨o,σ'⟩:=r
   cases o with
   |some e'=>
    simp only [Option.some.injEq] at he
    subst he
    have:=hr e' hn rfl
    omega
   |none=>exact downM_rng h at_ least n σ' e (by omega) he
theorem pairM_rng {s:ByteArray} {x y:Int} {nx:Nx} (h:RngN s nx):∀ k i n σ e,(pairM s x y nx k i n σ).1=some e→i≤e∧e≤s.size
 |0,i,n,σ,e,he=>by simp [pairM] at he
 |k+1,i,n,σ,e,he=>by
  rw [pairM] at he
  split at he
  ·simp at he
  rename_i h1
  split at he
  ·split at he
   ·split at he
    ·simp at he
    ·have:=h (i+1) _ e (by omega) he;omega
   ·have:=pairM_rng h k _ _ _ e he;omega
  ·split at he
   ·have:=pairM_rng h k _ _ _ e he;omega
   ·have:=pairM_rng h k _ _ _ e he;omega
theorem oneM_rng {s:ByteArray} {it:It} {nx:Nx} (h:RngN s nx) (at_:Nat) (σ:Ms) (e:Nat) (ha:at_≤s.size) (he:(oneM s it nx at_ σ).1=some e):at_≤e∧e≤s.size:=by
 unfold oneM at he
 split at he
 ·split at he
  ·rename_i h2
   have:=h (at_+1) σ e (has_lt h2) he
   omega
  ·simp at he
 ·split at he
  ·refine downM_rng h at_ 0 _ σ e ?_ he
   split
   ·rename_i h2;exact has_lt h2
   ·omega
  ·split at he
   ·exact lazyM_rng h _ _ σ e ha he
   ·exact downM_rng h at_ _ _ _ e (runL_le s it.set s.size at_ ha).2 he
theorem tryM_rng (s:ByteArray) (pl:Nat→Bool):∀ its,RngN s (tryM s pl its)
 | []=>fun at_ σ e ha he=>by
   simp only [tryM,Option.some.injEq] at he
   omega
 |it::rest=>fun at_ σ0 e ha he=>by
  have ih:=tryM_rng s pl rest
  rw [tryM] at he
  simp only at he
  split at he
  ·simp at he
  split at he
  ·exact oneM_rng ih at_ _ e ha he
  split at he
  ·have hr:=ih at_ { σ0.more 1 with fr:=upd σ0.fr it.n at_ }
   generalize tryM s pl rest at_ { σ0.more 1 with fr:=upd σ0.fr it.n at_ }=r at *
   obtain ⟨o,σ'⟩:=r
   cases o with
   |some e'=>
    simp only [Option.some.injEq] at he
    subst he
    exact hr e' ha rfl
   |none=>simp at he
  split at he
  ·have hr:=ih at_ { σ0.more 1 with tt:=upd σ0.tt it.n at_ }
   generalize tryM s pl rest at_ { σ0.more 1 with tt:=upd σ0.tt it.n at_ }=r at *
   obtain ⟨o,σ'⟩:=r
   cases o with
   |some e'=>
    simp only [Option.some.injEq] at he
    subst he
    exact hr e' ha rfl
   |none=>simp at he
  split at he
  ·split at he
   ·simp at he
   ·split at he
    ·simp at he
    ·rename_i h7
     have:=ih _ _ e (by omega) he
     omega
  split at he
  ·split at he
   ·simp at he
   ·have:=pairM_rng ih _ _ _ _ e he
    omega
  split at he
  ·split at he
   ·simp at he
   ·exact ih _ _ e ha he
  split at he
  ·simp at he
  ·exact ih _ _ e ha he
def StN (s:ByteArray) (nx:Nx) (c:Nat):Prop:=∀ at_ σ,σ.steps≤50000→(nx at_ σ).2.steps≤50000+s.size+c
theorem not_spent {σ:Ms} (h:¬ σ.spent=true):σ.steps≤50000:=by
 unfold Ms.spent at h
 simp only [decide_eq_true_eq] at h
 omega
theorem lazyM_st {s:ByteArray} {f:Nat→Bool} {nx:Nx} {c:Nat} (h:StN s nx c):∀ k n σ,σ.steps≤50000+s.size+c+1→(lazyM s f nx k n σ).2.steps≤50000+s.size+c+1
 |0,n,σ,hn=>by simpa [lazyM] using hn
 |k+1,n,σ,hn=>by
  rw [lazyM]
  split
  ·exact hn
  ·rename_i hs
   have hr:=h n σ (not_spent hs)
   generalize nx n σ=r at *
   obtain ⟨o,σ'⟩:=r
   cases o with
   |some e'=>simp only at hr ⊢;omega
   |none=>
    simp only at hr ⊢
    split
    ·exact lazyM_st h k (n+1) _ (by show σ'.steps+1≤_;omega)
    ·simp only;omega
theorem downM_st {s:ByteArray} {nx:Nx} {c:Nat} (h:StN s nx c) (at_ least:Nat):∀ n σ,σ.steps≤50000+s.size+c→(downM nx at_ least n σ).2.steps≤50000+s.size+c
 |0,σ,hn=>by
  rw [downM]
  split
  ·exact hn
  ·rename_i hs;exact h at_ σ (not_spent (fun x=>hs (.inr x)))
 |n+1,σ,hn=>by
  rw [downM]
  split
  ·exact hn
  ·rename_i hs
   have hr:=h (at_+(n+1)) σ (not_spent (fun x=>hs (.inr x)))
   generalize nx (at_+(n+1)) σ=r at *
   obtain ⟨o,σ'⟩:=r
   cases o with
   |some e'=>exact hr
   |none=>exact downM_st h at_ least n σ' hr
theorem pairM_st {s:ByteArray} {x y:Int} {nx:Nx} {c:Nat} (h:StN s nx c):∀ k i n σ,σ.steps≤50000+i→i≤s.size→(pairM s x y nx k i n σ).2.steps≤50000+s.size+c
 |0,i,n,σ,hn,hi=>by simp only [pairM];omega
 |k+1,i,n,σ,hn,hi=>by
  have h1:(σ.more 1).steps=σ.steps+1:=rfl
  rw [pairM]
  split
  ·simp only;omega
  rename_i h2
  split
  ·split
   ·split
    ·simp only;omega
    ·rename_i h5;exact h _ _ (not_spent h5)
   ·exact pairM_st h k _ _ _ (by omega) (by omega)
  ·split
   ·exact pairM_st h k _ _ _ (by omega) (by omega)
   ·exact pairM_st h k _ _ _ (by omega) (by omega)
theorem oneM_st {s:ByteArray} {it:It} {nx:Nx} {c:Nat} (h:StN s nx c) (at_:Nat) (σ:Ms) (ha:σ.steps≤50000):(oneM s it nx at_ σ).2.steps≤50000+s.size+c+1:=by
 unfold oneM
 split
 ·split
  ·have:=h (at_+1) σ ha;omega
  ·simp only;omega
 ·split
  ·have:=downM_st h at_ 0 (if has s it.set at_=true then 1 else 0) σ (by omega);omega
  ·split
   ·exact lazyM_st h _ _ σ (by omega)
   ·have hl:runL s it.set s.size at_≤s.size:=by
     rcases Nat.lt_or_ge s.size at_ with g|g
     ·have:∀ n k,s.size<k→runL s it.set n k=0:=fun n k hk=>by
       cases n with
       |zero=>rfl
       |succ n=>
        rw [runL,if_neg]
        intro hh
        have:=has_lt hh
        omega
      rw [this _ _ g];omega
     ·exact (runL_le s it.set s.size at_ g).1
    have h9:(σ.more (runL s it.set s.size at_)).steps=σ.steps+runL s it.set s.size at_:=rfl
    have:=downM_st h at_ (if it.sign=43 then 1 else 0) (runL s it.set s.size at_) (σ.more (runL s it.set s.size at_)) (by omega)
    omega
theorem tryM_st (s:ByteArray) (pl:Nat→Bool):∀ its,StN s (tryM s pl its) (its.length+1)
 | []=>fun at_ σ h=>by simp only [tryM,List.length_nil];omega
 |it::rest=>fun at_ σ0 h=>by
  have ih:=tryM_st s pl rest
  have h1:(σ0.more 1).steps=σ0.steps+1:=rfl
  rw [tryM,List.length_cons]
  simp only
  split
  ·simp only;omega
  rename_i hs
  have hs':=not_spent hs
  split
  ·have:=oneM_st (it:=it) ih at_ _ hs';omega
  split
  ·have hr:=ih at_ { σ0.more 1 with fr:=upd σ0.fr it.n at_ } hs'
   generalize tryM s pl rest at_ { σ0.more 1 with fr:=upd σ0.fr it.n at_ }=r at *
   obtain ⟨o,σ'⟩:=r
   cases o<;>simp only at hr ⊢<;>omega
  split
  ·have hr:=ih at_ { σ0.more 1 with tt:=upd σ0.tt it.n at_ } hs'
   generalize tryM s pl rest at_ { σ0.more 1 with tt:=upd σ0.tt it.n at_ }=r at *
   obtain ⟨o,σ'⟩:=r
   cases o<;>simp only at hr ⊢<;>omega
  split
  ·split
   ·simp only;omega
   ·split
    ·simp only;omega
    ·have:=ih (at_+(σ0.tt it.n-σ0.fr it.n)) _ hs';omega
  split
  ·split
   ·simp only;omega
   ·rename_i h7
    have:=pairM_st (x:=it.x) (y:=it.y) ih s.size (at_+1) 1 (σ0.more 1) (by omega) (by omega)
    omega
  split
  ·split
   ·simp only;omega
   ·have:=ih at_ _ hs';omega
  split
  ·simp only;omega
  ·have:=ih at_ _ hs';omega
def wfAt (N:Nat) (pre:List It) (it:It):Prop:=
 (it.kind=1∨it.kind=2→it.n<N∧∀ j∈pre,j.kind=1∨j.kind=2∨j.kind=3→j.n≠it.n)∧
 (it.kind=3→it.n<N∧∃ j∈pre,j.kind=2∧j.n=it.n)∧
 (it.kind=4→it.n<N∧∃ j∈pre,(j.kind=1∨j.kind=3)∧j.n=it.n)
theorem wfAt.mono {N N':Nat} {pre:List It} {it:It} (h:wfAt N pre it) (hN:N≤N'):wfAt N' pre it:=
 ⟨fun k=>⟨Nat.lt_of_lt_of_le (h.1 k).1 hN,(h.1 k).2⟩,fun k=>⟨Nat.lt_of_lt_of_le (h.2.1 k).1 hN,(h.2.1 k).2⟩,fun k=>⟨Nat.lt_of_lt_of_le (h.2.2 k).1 hN,(h.2.2 k).2⟩⟩
def WF (N:Nat) (its:List It):Prop:=∀ k (hk:k<its.length),wfAt N (its.take k) its[k]
theorem WF.snoc {N N':Nat} {its:List It} {it:It} (h:WF N its) (hN:N≤N') (hi:wfAt N' its it):WF N' (its++[it]):=fun k hk=>by
 rw [List.length_append,List.length_singleton] at hk
 rcases Nat.lt_or_ge k its.length with c|c
 ·rw [List.take_append_of_le_length (Nat.le_of_lt c),List.getElem_append_left c]
  exact (h k c).mono hN
 ·obtain rfl:k=its.length:=by omega
  rw [List.take_append_of_le_length (Nat.le_refl _),List.take_length,List.getElem_append_right (Nat.le_refl _)]
  simpa using hi
theorem wfAt_other {N:Nat} {pre:List It} {it:It} (h:it.kind=0∨4<it.kind):wfAt N pre it:=
 ⟨fun k=>by omega,fun k=>by omega,fun k=>by omega⟩
structure RdJ (R:Rd):Prop where
 wf:WF R.done.length R.items
 opn:∀ n∈R.opn,∃ j∈R.items,j.kind=2∧j.n=n
 done:∀ n,R.done.getD n false=true→∃ j∈R.items,(j.kind=1∨j.kind=3)∧j.n=n
 lt:∀ j∈R.items,1≤j.kind→j.kind≤4→j.n<R.done.length
theorem RdJ.more {R:Rd} {it:It} (h:RdJ R) (q:Nat) (hk:it.kind=0∨4<it.kind):RdJ ⟨q,R.items++[it],R.opn,R.done⟩:=
 ⟨h.wf.snoc (Nat.le_refl _) (wfAt_other hk),fun n hn=>by
  obtain ⟨j,hj,h1⟩:=h.opn n hn
  exact ⟨j,List.mem_append_left _ hj,h1⟩,fun n hn=>by
  obtain ⟨j,hj,h1⟩:=h.done n hn
  exact ⟨j,List.mem_append_left _ hj,h1⟩,fun j hj h1 h2=>by
  rcases List.mem_append.1 hj with hj|hj
  ·exact h.lt j hj h1 h2
  ·obtain rfl:=List.mem_singleton.1 hj
   omega⟩
theorem getD_snoc {l:List Bool} {b:Bool} {n:Nat} (h:(l++[b]).getD n false=true):l.getD n false=true∨(n=l.length∧b=true):=by
 rw [List.getD_eq_getElem?_getD] at h ⊢
 rcases Nat.lt_or_ge n l.length with c|c
 ·rw [List.getElem?_append_left c] at h
  exact .inl h
 ·rw [List.getElem?_append_right c] at h
  rcases Nat.eq_zero_or_pos (n-l.length) with e|e
  ·rw [e] at h
   exact .inr ⟨by omega,by simpa using h⟩
  ·rw [List.getElem?_eq_none (by simp;omega)] at h
   simp at h
theorem rdItem_j {p:ByteArray} {R R':Rd} (h:RdJ R) (e:rdItem p R=some R'):RdJ R':=by
 unfold rdItem at e
 split at e
 ·have hnew:∀ it:It,(it.kind=1∨it.kind=2)→it.n=R.done.length→wfAt (R.done.length+1) R.items it:=fun it hk hn=>
   ⟨fun _=>⟨by omega,fun j hj hk2=>by have:=h.lt j hj (by omega) (by omega);omega⟩,fun k=>by omega,fun k=>by omega⟩
  split at e
  ·cases e
   refine ⟨?_,fun n hn=>?_,fun n hn=>?_,fun j hj h1 h2=>?_⟩
   ·show WF (R.done++[true]).length (R.items++[itPlace R.done.length])
    rw [List.length_append]
    exact h.wf.snoc (Nat.le_add_right _ _) (hnew _ (.inl rfl) rfl)
   ·obtain ⟨j,hj,h1⟩:=h.opn n hn
    exact ⟨j,List.mem_append_left _ hj,h1⟩
   ·rcases getD_snoc hn with c|⟨c,_⟩
    ·obtain ⟨j,hj,h1⟩:=h.done n c
     exact ⟨j,List.mem_append_left _ hj,h1⟩
    ·exact ⟨_,List.mem_append_right _ (List.mem_singleton.2 rfl),.inl rfl,c.symm⟩
   ·simp only [List.length_append,List.length_singleton]
    rcases List.mem_append.1 hj with hj|hj
    ·have:=h.lt j hj h1 h2;omega
    ·obtain rfl:=List.mem_singleton.1 hj
     show R.done.length<_
     omega
  ·cases e
   refine ⟨?_,fun n hn=>?_,fun n hn=>?_,fun j hj h1 h2=>?_⟩
   ·show WF (R.done++[false]).length (R.items++[itOpen R.done.length])
    rw [List.length_append]
    exact h.wf.snoc (Nat.le_add_right _ _) (hnew _ (.inr rfl) rfl)
   ·rcases List.mem_append.1 hn with hn|hn
    ·obtain ⟨j,hj,h1⟩:=h.opn n hn
     exact ⟨j,List.mem_append_left _ hj,h1⟩
    ·obtain rfl:=List.mem_singleton.1 hn
     exact ⟨_,List.mem_append_right _ (List.mem_singleton.2 rfl),rfl,rfl⟩
   ·rcases getD_snoc hn with c|⟨_,c⟩
    ·obtain ⟨j,hj,h1⟩:=h.done n c
     exact ⟨j,List.mem_append_left _ hj,h1⟩
    ·cases c
   ·simp only [List.length_append,List.length_singleton]
    rcases List.mem_append.1 hj with hj|hj
    ·have:=h.lt j hj h1 h2;omega
    ·obtain rfl:=List.mem_singleton.1 hj
     show R.done.length<_
     omega
 split at e
 ·split at e
  ·cases e
  ·rename_i n hn
   cases e
   have hm:n∈R.opn:=List.mem_of_getLast? hn
   obtain ⟨j0,hj0,hk0,hn0⟩:=h.opn n hm
   have hlt:=h.lt j0 hj0 (by omega) (by omega)
   refine ⟨?_,fun m hm=>?_,fun m hm=>?_,fun j hj h1 h2=>?_⟩
   ·show WF (R.done.set n true).length (R.items++[itShut n])
    rw [List.length_set]
    exact h.wf.snoc (Nat.le_refl _) ⟨fun k=>by simp [itShut] at k,fun _=>⟨by show n<_;omega,j0,hj0,hk0,hn0⟩,fun k=>by simp [itShut] at k⟩
   ·obtain ⟨j,hj,h1⟩:=h.opn m ((List.dropLast_sublist _).subset hm)
    exact ⟨j,List.mem_append_left _ hj,h1⟩
   ·by_cases hmn:m=n
    ·subst hmn
     exact ⟨_,List.mem_append_right _ (List.mem_singleton.2 rfl),.inr rfl,rfl⟩
    ·have hm2:R.done.getD m false=true:=by
      have:=hm
      simp only [List.getD_eq_getElem?_getD] at this ⊢
      rwa [List.getElem?_set_ne (fun e=>hmn e.symm)] at this
     obtain ⟨j,hj,h1⟩:=h.done m hm2
     exact ⟨j,List.mem_append_left _ hj,h1⟩
   ·simp only [List.length_set]
    rcases List.mem_append.1 hj with hj|hj
    ·exact h.lt j hj h1 h2
    ·obtain rfl:=List.mem_singleton.1 hj
     show n<_
     omega
 split at e
 ·split at e
  ·cases e
  ·rename_i hd
   cases e
   have hdn:R.done.getD (hb p (R.pos+1)-49).toNat false=true:=by
    cases hq:R.done.getD (hb p (R.pos+1)-49).toNat false
    ·exact absurd (.inr hq) hd
    ·rfl
   obtain ⟨j0,hj0,hk0,hn0⟩:=h.done _ hdn
   have hlt:=h.lt j0 hj0 (by omega) (by omega)
   refine ⟨h.wf.snoc (Nat.le_refl _) ⟨fun k=>by simp [itBack] at k,fun k=>by simp [itBack] at k,fun _=>⟨by show (hb p (R.pos+1)-49).toNat<_;rw [←hn0];exact hlt,j0,hj0,hk0,hn0⟩⟩,fun m hm=>?_,fun m hm=>?_,fun j hj h1 h2=>?_⟩
   ·obtain ⟨j,hj,h1⟩:=h.opn m hm
    exact ⟨j,List.mem_append_left _ hj,h1⟩
   ·obtain ⟨j,hj,h1⟩:=h.done m hm
    exact ⟨j,List.mem_append_left _ hj,h1⟩
   ·rcases List.mem_append.1 hj with hj|hj
    ·exact h.lt j hj h1 h2
    ·obtain rfl:=List.mem_singleton.1 hj
     show (hb p (R.pos+1)-49).toNat<_
     rw [←hn0]
     exact hlt
 split at e
 ·split at e
  ·cases e;exact h.more _ (.inr (by simp [itPair]))
  ·cases e
 split at e
 ·split at e
  ·obtain ⟨r,_,rfl⟩:=Option.map_eq_some_iff.1 e
   exact h.more _ (.inr (by simp [itEdge]))
  ·cases e
 split at e
 ·cases e;exact h.more _ (.inr (by simp [itEnd]))
 ·obtain ⟨r,_,rfl⟩:=Option.map_eq_some_iff.1 e
  split
  ·exact h.more _ (.inl rfl)
  ·exact h.more _ (.inl rfl)
theorem rdAll_j {p:ByteArray}:∀ {k:Nat} {R R':Rd},RdJ R→rdAll p k R=some R'→RdJ R'
 |0,R,R',h,e=>by
  rw [rdAll] at e
  split at e
  ·cases e
  ·cases e;exact h
 |k+1,R,R',h,e=>by
  rw [rdAll] at e
  split at e
  ·obtain ⟨R1,e1,e2⟩:=Option.bind_eq_some_iff.1 e
   exact rdAll_j (rdItem_j h e1) e2
  ·cases e;exact h
theorem rdPat_wf {p:ByteArray} {t:Pt} (e:rdPat p=some t):WF t.caps t.items∧t.caps≤16∧t.place=isPl t.items:=by
 unfold rdPat at e
 split at e
 ·cases e
 ·obtain ⟨R,e1,e2⟩:=Option.bind_eq_some_iff.1 e
  split at e2
  ·rename_i h
   cases e2
   have hj:=rdAll_j (R:=⟨if hb p 0=94 then 1 else 0,[],[],[]⟩) ⟨fun k hk=>by simp at hk,fun n hn=>by simp at hn,fun n hn=>by simp at hn,fun j hj=>by simp at hj⟩ e1
   exact ⟨hj.wf,h.2,rfl⟩
  ·cases e2
def Cap (pre:List It) (σ:Ms) (at_:Nat):Prop:=(∀ j∈pre,j.kind=1∨j.kind=2→σ.fr j.n≤at_)∧(∀ j∈pre,j.kind=3→σ.fr j.n≤σ.tt j.n∧σ.tt j.n≤at_)
theorem Cap.le {pre:List It} {σ σ':Ms} {a b:Nat} (h:Cap pre σ a) (hab:a≤b) (h1:σ'.fr=σ.fr) (h2:σ'.tt=σ.tt):Cap pre σ' b:=by
 refine ⟨fun j hj hk=>?_,fun j hj hk=>?_⟩
 ·rw [h1];have:=h.1 j hj hk;omega
 ·rw [h1,h2];have:=h.2 j hj hk;omega
theorem Cap.other {pre:List It} {σ:Ms} {a:Nat} {it:It} (h:Cap pre σ a) (hk:it.kind=0∨3<it.kind):Cap (pre++[it]) σ a:=by
 refine ⟨fun j hj hk2=>?_,fun j hj hk2=>?_⟩<;>rcases List.mem_append.1 hj with hj|hj
 ·exact h.1 j hj hk2
 ·obtain rfl:=List.mem_singleton.1 hj;omega
 ·exact h.2 j hj hk2
 ·obtain rfl:=List.mem_singleton.1 hj;omega
theorem Cap.open {N:Nat} {pre:List It} {σ:Ms} {a:Nat} {it:It} (h:Cap pre σ a) (hw:wfAt N pre it) (hk:it.kind=1∨it.kind=2):Cap (pre++[it]) { σ with fr:=upd σ.fr it.n a } a:=by
 have hn:=(hw.1 hk).2
 refine ⟨fun j hj hk2=>?_,fun j hj hk2=>?_⟩<;>rcases List.mem_append.1 hj with hj|hj
 ·show upd σ.fr it.n a j.n≤a
  rw [upd_other _ _ (hn j hj (by omega))];exact h.1 j hj hk2
 ·obtain rfl:=List.mem_singleton.1 hj
  show upd σ.fr j.n a j.n≤a
  rw [upd_same];exact Nat.le_refl _
 ·show upd σ.fr it.n a j.n≤_∧_
  rw [upd_other _ _ (hn j hj (by omega))];exact h.2 j hj hk2
 ·obtain rfl:=List.mem_singleton.1 hj;omega
theorem Cap.shut {N:Nat} {pre:List It} {σ:Ms} {a:Nat} {it:It} (h:Cap pre σ a) (hw:wfAt N pre it) (hk:it.kind=3):Cap (pre++[it]) { σ with tt:=upd σ.tt it.n a } a:=by
 obtain ⟨_,j0,hj0,hk0,hn0⟩:=hw.2.1 hk
 have hf:=h.1 j0 hj0 (.inr hk0)
 refine ⟨fun j hj hk2=>?_,fun j hj hk2=>?_⟩<;>rcases List.mem_append.1 hj with hj|hj
 ·exact h.1 j hj hk2
 ·obtain rfl:=List.mem_singleton.1 hj;omega
 ·show σ.fr j.n≤upd σ.tt it.n a j.n∧upd σ.tt it.n a j.n≤a
  by_cases e:j.n=it.n
  ·rw [e,upd_same,←hn0];exact ⟨hf,Nat.le_refl _⟩
  ·rw [upd_other _ _ e];exact h.2 j hj hk2
 ·obtain rfl:=List.mem_singleton.1 hj
  show σ.fr j.n≤upd σ.tt j.n a j.n∧upd σ.tt j.n a j.n≤a
  rw [upd_same,←hn0];exact ⟨hf,Nat.le_refl _⟩
theorem isPl_of {its:List It} {j:It} (hj:j∈its) (hk:j.kind=1):isPl its j.n=true:=by
 unfold isPl
 rw [List.any_eq_true]
 exact ⟨j,hj,by simp [hk]⟩
theorem Cap.back {N:Nat} {its pre:List It} {σ:Ms} {a:Nat} {it:It} (h:Cap pre σ a) (hw:wfAt N pre it) (hk:it.kind=4) (hs:∀ j∈pre,j∈its) (hp:¬ isPl its it.n=true):σ.fr it.n≤σ.tt it.n∧σ.tt it.n≤a:=by
 obtain ⟨_,j0,hj0,hk0,hn0⟩:=hw.2.2 hk
 rcases hk0 with hk0|hk0
 ·exact absurd (hn0 ▸ isPl_of (hs j0 hj0) hk0) hp
 ·rw [←hn0];exact h.2 j0 hj0 hk0
end Go.Proofs.YtlgodacccilabaaGreatDoor
