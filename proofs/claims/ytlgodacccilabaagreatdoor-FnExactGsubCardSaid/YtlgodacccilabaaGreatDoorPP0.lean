import Derived.Test.YtlgodacccilabaaGreatDoorPO
namespace Go.Proofs.YtlgodacccilabaaGreatDoor
open Go Go.RowKit
set_option linter.unusedVariables false
def HitN (nx:Nx):Prop:=∀ at_ σ e,σ.steps≤50000→(nx at_ σ).1=some e→(nx at_ σ).2.steps≤50000
theorem lazyM_hn {s:ByteArray} {f:Nat→Bool} {nx:Nx} (h:HitN nx):∀ k n σ e,(lazyM s f nx k n σ).1=some e→(lazyM s f nx k n σ).2.steps≤50000
 |0,n,σ,e=>fun hn=>by simp [lazyM] at hn
 |k+1,n,σ,e=>by
  intro hn
  rw [lazyM] at hn ⊢
  split at hn
  ·simp at hn
  ·rename_i hs
   rw [if_neg hs]
   have hr:=h n σ
   generalize nx n σ=r at *
   obtain ⟨o,σ'⟩:=r
   cases o with
   |some e'=>exact hr e' (not_spent hs) rfl
   |none=>
    simp only at hn ⊢
    split at hn
    ·rename_i hh
     rw [if_pos hh]
     exact lazyM_hn h k (n+1) (σ'.more 1) e hn
    ·simp at hn
theorem downM_hn {nx:Nx} (h:HitN nx) (at_ least:Nat):∀ n σ e,(downM nx at_ least n σ).1=some e→(downM nx at_ least n σ).2.steps≤50000
 |0,σ,e=>by
  intro hn
  rw [downM] at hn ⊢
  split at hn
  ·simp at hn
  ·rename_i hs
   rw [if_neg hs]
   exact h at_ σ e (not_spent (fun x=>hs (.inr x))) hn
 |n+1,σ,e=>by
  intro hn
  rw [downM] at hn ⊢
  split at hn
  ·simp at hn
  ·rename_i hs
   rw [if_neg hs]
   have hr:=h (at_+(n+1)) σ
   generalize nx (at_+(n+1)) σ=r at *
   obtain ⟨o,σ'⟩:=r
   cases o with
   |some e'=>exact hr e' (not_spent (fun x=>hs (.inr x))) rfl
   |none=>exact downM_hn h at_ least n σ' e hn
theorem pairM_hn {s:ByteArray} {x y:Int} {nx:Nx} (h:HitN nx):∀ k i n σ e,(pairM s x y nx k i n σ).1=some e→(pairM s x y nx k i n σ).2.steps≤50000
 |0,i,n,σ,e=>fun hn=>by simp [pairM] at hn
 |k+1,i,n,σ,e=>by
  intro hn
  rw [pairM] at hn ⊢
  split at hn
  ·simp at hn
  ·rename_i h1
   rw [if_neg h1]
   split at hn
   ·rename_i h2
    rw [if_pos h2]
    split at hn
    ·rename_i h3
     rw [if_pos h3]
     split at hn
     ·simp at hn
     ·rename_i h4
      rw [if_neg h4]
      exact h _ _ e (not_spent h4) hn
    ·rename_i h3
     rw [if_neg h3]
     exact pairM_hn h k _ _ _ e hn
   ·rename_i h2
    rw [if_neg h2]
    split at hn
    ·rename_i h3
     rw [if_pos h3]
     exact pairM_hn h k _ _ _ e hn
    ·rename_i h3
     rw [if_neg h3]
     exact pairM_hn h k _ _ _ e hn
theorem oneM_hn {s:ByteArray} {it:It} {nx:Nx} (h:HitN nx) (at_:Nat) (σ:Ms) (e:Nat) (hσ:σ.steps≤50000) (hn:(oneM s it nx at_ σ).1=some e):(oneM s it nx at_ σ).2.steps≤50000:=by
 rw [oneM] at hn ⊢
 split at hn
 ·rename_i h1
  rw [if_pos h1]
  split at hn
  ·rename_i h2
   rw [if_pos h2]
   exact h _ _ e hσ hn
  ·simp at hn
 ·rename_i h1
  rw [if_neg h1]
  split at hn
  ·rename_i h2
   rw [if_pos h2]
   exact downM_hn h _ _ _ _ e hn
  ·rename_i h2
   rw [if_neg h2]
   split at hn
   ·rename_i h3
    rw [if_pos h3]
    exact lazyM_hn h _ _ _ e hn
   ·rename_i h3
    rw [if_neg h3]
    exact downM_hn h _ _ _ _ e hn
theorem tryM_hn (s:ByteArray) (pl:Nat→Bool):∀ its,HitN (tryM s pl its)
 | []=>fun at_ σ e h _=>h
 |it::rest=>fun at_ σ0 e h hn=>by
  have ih:=tryM_hn s pl rest
  rw [tryM] at hn ⊢
  simp only at hn ⊢
  split at hn
  ·simp at hn
  rename_i hs
  have hs':=not_spent hs
  rw [if_neg hs]
  split at hn
  ·rename_i h1
   rw [if_pos h1]
   exact oneM_hn ih _ _ e hs' hn
  rename_i h1
  rw [if_neg h1]
  split at hn
  ·rename_i h2
   rw [if_pos h2]
   have hr:=ih at_ { σ0.more 1 with fr:=upd σ0.fr it.n at_ }
   generalize tryM s pl rest at_ { σ0.more 1 with fr:=upd σ0.fr it.n at_ }=r at *
   obtain ⟨o,σ'⟩:=r
   cases o with
   |some e'=>exact hr e' hs' rfl
   |none=>simp at hn
  rename_i h2
  rw [if_neg h2]
  split at hn
  ·rename_i h3
   rw [if_pos h3]
   have hr:=ih at_ { σ0.more 1 with tt:=upd σ0.tt it.n at_ }
   generalize tryM s pl rest at_ { σ0.more 1 with tt:=upd σ0.tt it.n at_ }=r at *
   obtain ⟨o,σ'⟩:=r
   cases o with
   |some e'=>exact hr e' hs' rfl
   |none=>simp at hn
  rename_i h3
  rw [if_neg h3]
  split at hn
  ·rename_i h4
   rw [if_pos h4]
   split at hn
   ·simp at hn
   ·rename_i h5
    rw [if_neg h5]
    split at hn
    ·simp at hn
    ·rename_i h6
     rw [if_neg h6]
     exact ih _ _ e hs' hn
  rename_i h4
  rw [if_neg h4]
  split at hn
  ·rename_i h5
   rw [if_pos h5]
   split at hn
   ·simp at hn
   ·rename_i h6
    rw [if_neg h6]
    exact pairM_hn ih _ _ _ _ e hn
  rename_i h5
  rw [if_neg h5]
  split at hn
  ·rename_i h6
   rw [if_pos h6]
   split at hn
   ·simp at hn
   ·rename_i h7
    rw [if_neg h7]
    exact ih _ _ e hs' hn
  rename_i h6
  rw [if_neg h6]
  split at hn
  ·simp at hn
  ·rename_i h7
   rw [if_neg h7]
   exact ih _ _ e hs' hn
structure Fd where
 fr:Nat
 en:Nat
 caps:List (Bool × Nat × Nat)
def capAt (t:Pt) (σ:Ms) (n:Nat):Bool × Nat × Nat:=(t.place n,σ.fr n,if t.place n=true then σ.fr n else σ.tt n)
def capsOf (t:Pt) (σ:Ms):List (Bool × Nat × Nat):=(List.range t.caps).map (capAt t σ)
def s0 (n:Nat):Ms:=⟨n,fun _=>0,fun _=>0⟩
def srM (s:ByteArray) (t:Pt):Nat→Nat→Nat→Option Fd × Nat
 |0,_,n=>(none,n)
 |k+1,at_,n=>
  if at_≤s.size∧n≤50000 then
   match tryM s t.place t.items at_ (s0 n) with
   |(some e,σ)=>(some ⟨at_,e,capsOf t σ⟩,σ.steps)
   |(none,σ)=>if t.start=true then (none,σ.steps) else srM s t k (at_+1) σ.steps
  else (none,n)
theorem srM_out {s:ByteArray} {t:Pt} {k at_ n:Nat} (h:¬ (at_≤s.size∧n≤50000)):srM s t k at_ n=(none,n):=by
 cases k with
 |zero=>rfl
 |succ k=>rw [srM,if_neg h]
theorem srM_hit {s:ByteArray} {t:Pt} {k at_ n e:Nat} {σ:Ms} (h:at_≤s.size∧n≤50000) (h1:tryM s t.place t.items at_ (s0 n)=(some e,σ)):srM s t (k+1) at_ n=(some ⟨at_,e,capsOf t σ⟩,σ.steps):=by rw [srM,if_pos h,h1]
theorem srM_fix {s:ByteArray} {t:Pt} {k at_ n:Nat} {σ:Ms} (h:at_≤s.size∧n≤50000) (h1:tryM s t.place t.items at_ (s0 n)=(none,σ)) (h2:t.start=true):srM s t (k+1) at_ n=(none,σ.steps):=by rw [srM,if_pos h,h1];simp only;rw [if_pos h2]
theorem srM_on {s:ByteArray} {t:Pt} {k at_ n:Nat} {σ:Ms} (h:at_≤s.size∧n≤50000) (h1:tryM s t.place t.items at_ (s0 n)=(none,σ)) (h2:t.start=false):srM s t (k+1) at_ n=srM s t k (at_+1) σ.steps:=by rw [srM,if_pos h,h1];simp only;rw [if_neg (by rw [h2];simp)]
structure MB (w:World) (M:Nat) (s:ByteArray) (t:Pt) (us:List (It × Value)) (vi vp:Value) (n:Nat):Prop where
 m:∃ a1 n1 c1 a2 n2 c2,RowF w 39 M 7 (mcells s vi vp t.start (.slice a1 n1 c1) (.slice a2 n2 c2) n)
 i:SlF w 91 6 vi us.length (itF us)
 p:SlF w 4 1 vp t.caps (fun j=>.bool (t.place j))
 s:∀ u∈us,SetV w u
theorem MS.mb {w:World} {M:Nat} {s:ByteArray} {t:Pt} {us:List (It × Value)} {vi vp vf vt:Value} {σ:Ms} (h:MS w M s t us vi vp vf vt σ):MB w M s t us vi vp σ.steps:=by
 obtain ⟨a1,c1,rfl⟩:=h.f.form
 obtain ⟨a2,c2,rfl⟩:=h.t.form
 exact ⟨⟨_,_,_,_,_,_,h.m⟩,h.i,h.p,h.s⟩
theorem MB.stat {w w':World} {M:Nat} {s:ByteArray} {t:Pt} {us:List (It × Value)} {vi vp:Value} {n:Nat} (h:MB w M s t us vi vp n) (k:Keeps w w' (fun b=>b=M)):SlF w' 91 6 vi us.length (itF us)∧SlF w' 4 1 vp t.caps (fun j=>.bool (t.place j))∧∀ u∈us,SetV w' u:=by
 obtain ⟨a1,n1,c1,a2,n2,c2,hm⟩:=h.m
 refine ⟨h.i.pastG k hm (by decide),h.p.pastG k hm (by decide),fun u hu=>(h.s u hu).keep k ?_⟩
 rintro g hg rfl
 exact RowF.apart hg hm (by decide) rfl
theorem MB.low {w w':World} {M:Nat} {s:ByteArray} {t:Pt} {us:List (It × Value)} {vi vp:Value} {n:Nat} (h:MB w M s t us vi vp n) (k:Keeps w w' (fun _=>False)):MB w' M s t us vi vp n:=by
 obtain ⟨a1,n1,c1,a2,n2,c2,hm⟩:=h.m
 exact ⟨⟨_,_,_,_,_,_,hm.keep k (fun x=>x)⟩,h.i.keep k (fun _ _ x=>x),h.p.keep k (fun _ _ x=>x),fun u hu=>(h.s u hu).keep k (fun _ _ x=>x)⟩
theorem MB.start {w w1 w2:World} {M g1 g2:Nat} {s:ByteArray} {t:Pt} {us:List (It × Value)} {vi vp:Value} {n:Nat} (h:MB w M s t us vi vp n) (k1:Keeps w w1 (fun _=>False)) (r1:RowF w1 3 g1 t.caps (fun _=>.int .i64 0))
 (k2:Keeps (w1.setCell ⟨M,4,none⟩ (.slice (some ⟨g1,0,none⟩) t.caps t.caps)) w2 (fun _=>False)) (r2:RowF w2 3 g2 t.caps (fun _=>.int .i64 0)) (hg:g1≠g2):
 MS (w2.setCell ⟨M,5,none⟩ (.slice (some ⟨g2,0,none⟩) t.caps t.caps)) M s t us vi vp (.slice (some ⟨g1,0,none⟩) t.caps t.caps) (.slice (some ⟨g2,0,none⟩) t.caps t.caps) (s0 n):=by
 have h1:=h.low k1
 have ka:Keeps w1 (w1.setCell ⟨M,4,none⟩ (.slice (some ⟨g1,0,none⟩) t.caps t.caps)) (fun b=>b=M):=(Keeps.refl w1 (fun b=>b=M)).setCell (S:=fun b=>b=M) (j:=4) rfl _
 have kb:Keeps w2 (w2.setCell ⟨M,5,none⟩ (.slice (some ⟨g2,0,none⟩) t.caps t.caps)) (fun b=>b=M):=(Keeps.refl w2 (fun b=>b=M)).setCell (S:=fun b=>b=M) (j:=5) rfl _
 have kk:Keeps w1 (w2.setCell ⟨M,5,none⟩ (.slice (some ⟨g2,0,none⟩) t.caps t.caps)) (fun b=>b=M):=(ka.trans (k2.mono (fun b hb=>hb.elim))).trans kb
 obtain ⟨s1,s2,s3⟩:=h1.stat kk
 obtain ⟨a1,n1,c1,a2,n2,c2,hm⟩:=h1.m
 have hm2:=((hm.set (j:=4) (by omega) (.slice (some ⟨g1,0,none⟩) t.caps t.caps)).keep k2 (fun x=>x)).set (j:=5) (by omega) (.slice (some ⟨g2,0,none⟩) t.caps t.caps)
 refine ⟨hm2.congr fun j hj=>?_,s1,s2,⟨_,_,rfl,Nat.le_refl _,.inr ⟨g1,rfl,?_⟩⟩,⟨_,_,rfl,Nat.le_refl _,.inr ⟨g2,rfl,?_⟩⟩,fun g hg1 hg2=>?_,s3⟩
 ·rcases j with _|_|_|_|_|_|_|j
  all_goals simp [mcells,s0]
  all_goals omega
 ·rw [Nat.mul_one]
  exact r1.keep kk (fun e=>RowF.apart r1 hm (by decide) e)
 ·rw [Nat.mul_one]
  exact r2.keep kb (fun e=>RowF.apart r2 ((hm.set (j:=4) (by omega) (.slice (some ⟨g1,0,none⟩) t.caps t.caps)).keep k2 (fun x=>x)) (by decide) e)
 ·simp [Value.ownBlock] at hg1 hg2
  omega
def capC (l:List (Bool × Nat × Nat)):List Value:=l.flatMap fun c=>[.bool c.1,.int .i64 c.2.1,.int .i64 c.2.2]
theorem capC_1 (l:List (Bool × Nat × Nat)) (c:Bool × Nat × Nat):capC (l++[c])=capC l++[.bool c.1,.int .i64 c.2.1,.int .i64 c.2.2]:=by simp [capC]
theorem one_cap (c:Bool × Nat × Nat):∀ v∈[Value.bool c.1,.int .i64 c.2.1,.int .i64 c.2.2],v.oneCell'=true:=by
 intro v hv
 simp only [List.mem_cons,List.not_mem_nil,or_false] at hv
 rcases hv with rfl|rfl|rfl<;>rfl
theorem range_take_1 (t:Pt) (σ:Ms) (j:Nat):(List.range (j+1)).map (capAt t σ)=(List.range j).map (capAt t σ)++[capAt t σ j]:=by rw [List.range_succ,List.map_append];rfl
theorem Tryz.info3:(Tryz.prog.info? 3).map (fun i=>(i.zero,i.size,i.bytes))=some (some (.int .i64 0),1,8):=by kernel_rfl
theorem Tryz.info56:(Tryz.prog.info? 56).map (fun i=>(i.zero,i.size,i.bytes))=some (some (.agg #[.bool false,.int .i64 0,.int .i64 0]),3,24):=by kernel_rfl
def SrR (M:Nat) (s:ByteArray) (t:Pt) (us:List (It × Value)) (vi vp:Value) (w:World) (r:Option Fd × Nat) (e:Ending) (w':World):Prop:=
 Keeps w w' (fun b=>b=M)∧MB w' M s t us vi vp r.2∧r.2≤200000∧((r.1=none∧e=.returned (.tuple #[.agg #[.int .i64 0,.int .i64 0,nilS],.bool false]))∨
  ∃ f v,r.1=some f∧e=.returned (.tuple #[.agg #[.int .i64 f.fr,.int .i64 f.en,v],.bool true])∧w'.ownsRow w.heap.size 56 3 v f.caps.length (capC f.caps))
end Go.Proofs.YtlgodacccilabaaGreatDoor
