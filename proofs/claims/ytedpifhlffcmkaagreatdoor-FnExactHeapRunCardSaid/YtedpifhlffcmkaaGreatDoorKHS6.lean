import Derived.Test.YtedpifhlffcmkaaGreatDoorKHN
import Derived.Test.YtedpifhlffcmkaaGreatDoorKHS0
namespace Go.Proofs.YtedpifhlffcmkaaGreatDoor
set_option linter.unusedVariables false
section
variable {e:En} {es es':List En} {n:Nat} {o:Ob}
def Hp.back (h:Hp) (n:Nat):Hp:=match h.ob n with
 |some o=>if o.col=3/\h.state=1 then { h.upd n (fun o=>{ o with col:=2 }) with again:=h.again++[n] } else h
 |none=>h
def aK (es:List En):Nat:=(es.filter fun e=>e.2.isNone).length
def aI (es:List En):List En:=if es.length<16∨2*aK es<=es.length then es else es.filter fun e=>e.2.isSome
def jJ (es:List En) (k:HV):Option Nat:=es.findIdx? (fun e=>e.1==k)
def Hp.putAt (h:Hp) (n i:Nat) (v:HV):Hp:=(h.upd n fun o=>{ o with es:=o.es.modify i fun e=>(e.1,v) }).back n
def Hp.Er (h:Hp) (n:Nat) (o:Ob) (k v:HV):Hp:=
 Hp.back { h.upd n (fun o=>{ o with es:=aI o.es++[(k,v)] }) with bytes:=h.bytes-40*(o.es.length-(aI o.es).length)+40,D6:=h.D6+40 } n
def Hp.put (h:Hp) (n:Nat) (k v:HV):Hp:=match h.ob n with
 |none=>h
 |some o=>match jJ o.es k with
  |some i=>h.putAt n i v
  |none=>if v.isNone then h else h.Er n o k v
theorem Hp.Fu (h:Hp) (x:Option Ob) (m:Nat):Hp.ob { h with objs:=h.objs++[x] } m=if m=h.objs.length then x else h.ob m:=by
 simp only [Hp.ob]
 rcases Nat.lt_trichotomy m h.objs.length with c|c|c
 ·rw [List.getElem?_append_left c,if_neg (by omega)]
 ·subst c
  simp
 ·rw [if_neg (by omega),List.getElem?_eq_none (by simp;omega),List.getElem?_eq_none (by omega)]
theorem Hp.G8 {h g:Hp} (ho:h.ob n=some o) (hg:∀ m,g.ob m=if n=m then some { o with es:=es' } else h.ob m) (hs:g.state=h.state):
 (∀ m,(g.back n).ob m=if n=m then some ⟨if o.col=3/\h.state=1 then 2 else o.col,o.mode,es',o.fin⟩ else h.ob m)/\(g.back n).again=(if o.col=3/\h.state=1 then g.again++[n] else g.again):=by
 have h1:g.ob n=some { o with es:=es' }:=by rw [hg,if_pos rfl]
 unfold Hp.back
 rw [h1]
 simp only [hs]
 by_cases c:o.col=3/\h.state=1
 ·rw [if_pos c,if_pos c,if_pos c]
  refine ⟨fun m=>?_,rfl⟩
  show (g.upd n fun o=>{ o with col:=2 }).ob m=_
  rw [Hp.Ed,hg]
  by_cases x:n=m
  ·subst x;simp
  ·simp [x]
 ·rw [if_neg c,if_neg c,if_neg c]
  exact ⟨hg,rfl⟩
theorem Hp.Ew (g:Hp) (n:Nat):(g.back n).objs.length=g.objs.length/\(g.back n).grey=g.grey/\(g.back n).weak=g.weak/\(g.back n).D8=g.D8/\(g.back n).white=g.white/\(g.back n).state=g.state/\(g.back n).D7=g.D7/\(g.back n).roots=g.roots/\(g.back n).pending=g.pending/\(g.back n).finals=g.finals/\(g.back n).bytes=g.bytes/\(g.back n).D6=g.D6/\(g.back n).live=g.live/\(g.back n).limit=g.limit/\(g.back n).freed=g.freed:=by
 unfold Hp.back
 split
 ·split
  ·exact ⟨by simp [Hp.upd],rfl,rfl,rfl,rfl,rfl,rfl,rfl,rfl,rfl,rfl,rfl,rfl,rfl,rfl⟩
  ·exact ⟨rfl,rfl,rfl,rfl,rfl,rfl,rfl,rfl,rfl,rfl,rfl,rfl,rfl,rfl,rfl⟩
 ·exact ⟨rfl,rfl,rfl,rfl,rfl,rfl,rfl,rfl,rfl,rfl,rfl,rfl,rfl,rfl,rfl⟩
theorem jI (h:e∈aI es):e∈es:=by
 unfold aI at h
 split at h
 ·exact h
 ·exact (List.mem_filter.1 h).1
theorem Inv.putAt {h:Hp} (i:Inv h) {n j:Nat} {o:Ob} {v:HV} (ho:h.ob n=some o) (hok:h.Ok n) (hv:∀ r∈bn v,h.Ok r):Inv (h.putAt n j v):=by
 have hg:∀ m,(h.upd n fun o=>{ o with es:=o.es.modify j fun e=>(e.1,v) }).ob m=if n=m then some { o with es:=o.es.modify j fun e=>(e.1,v) } else h.ob m:=by
  intro m
  rw [Hp.Ed]
  by_cases x:n=m
  ·subst x;rw [if_pos rfl,if_pos rfl,ho];rfl
  ·rw [if_neg x,if_neg x]
 obtain ⟨h1,h2⟩:=Hp.G8 ho hg rfl
 obtain ⟨k1,k2,k3,k4,k5,k6,k7,k8,k9,k10,_⟩:=Hp.Ew (h.upd n fun o=>{ o with es:=o.es.modify j fun e=>(e.1,v) }) n
 obtain ⟨o',e',nd⟩:=id hok
 rw [ho] at e';cases e'
 refine i.re ho hok (fun e he r hr=>?_) h1 (k1.trans (h.El n _)) k2 h2 k3 k4 k5 k6 k7 k8 k9 k10
 rw [List.mem_iff_getElem?] at he
 obtain ⟨q,hq⟩:=he
 rw [List.getElem?_modify] at hq
 cases hb:o.es[q]? with
 |none=>rw [hb] at hq;simp at hq
 |some e0=>
  rw [hb] at hq
  have hm:e0∈o.es:=List.mem_of_getElem? hb
  by_cases x:j=q
  ·simp [x] at hq
   subst hq
   rcases List.mem_append.1 hr with y|y
   ·exact i.nc n o ho nd e0 hm r (List.mem_append_left _ y)
   ·exact hv r y
  ·simp [x] at hq
   subst hq
   exact i.nc n o ho nd e0 hm r hr
theorem Inv.Er {h:Hp} (i:Inv h) {n:Nat} {o:Ob} {k v:HV} (ho:h.ob n=some o) (hok:h.Ok n) (hk:∀ r∈bn k,h.Ok r) (hv:∀ r∈bn v,h.Ok r):Inv (h.Er n o k v):=by
 have hg:∀ m,Hp.ob { h.upd n (fun o=>{ o with es:=aI o.es++[(k,v)] }) with bytes:=h.bytes-40*(o.es.length-(aI o.es).length)+40,D6:=h.D6+40 } m=if n=m then some { o with es:=aI o.es++[(k,v)] } else h.ob m:=by
  intro m
  show (h.upd n fun o=>{ o with es:=aI o.es++[(k,v)] }).ob m=_
  rw [Hp.Ed]
  by_cases x:n=m
  ·subst x;rw [if_pos rfl,if_pos rfl,ho];rfl
  ·rw [if_neg x,if_neg x]
 obtain ⟨h1,h2⟩:=Hp.G8 ho hg rfl
 obtain ⟨k1,k2,k3,k4,k5,k6,k7,k8,k9,k10,_⟩:=Hp.Ew { h.upd n (fun o=>{ o with es:=aI o.es++[(k,v)] }) with bytes:=h.bytes-40*(o.es.length-(aI o.es).length)+40,D6:=h.D6+40 } n
 obtain ⟨o',e',nd⟩:=id hok
 rw [ho] at e';cases e'
 refine i.re ho hok (fun e he r hr=>?_) h1 (k1.trans (h.El n _)) k2 h2 k3 k4 k5 k6 k7 k8 k9 k10
 rcases List.mem_append.1 he with x|x
 ·exact i.nc n o ho nd e (jI x) r hr
 ·simp at x
  subst x
  rcases List.mem_append.1 hr with y|y
  ·exact hk r y
  ·exact hv r y
theorem Inv.put {h:Hp} (i:Inv h) {n:Nat} {k v:HV} (hok:h.Ok n) (hk:∀ r∈bn k,h.Ok r) (hv:∀ r∈bn v,h.Ok r):Inv (h.put n k v):=by
 unfold Hp.put
 split
 ·exact i
 ·rename_i o ho
  split
  ·exact i.putAt ho hok hv
  ·split
   ·exact i
   ·exact i.Er ho hok hk hv
theorem Inv.make {h:Hp} (i:Inv h) {m:Nat} (hm:m<=3):Inv (h.make m)/\(h.make m).Ok h.objs.length:=by
 have hob:∀ n,(h.make m).ob n=if n=h.objs.length then some ⟨h.white,m,[],false⟩ else h.ob n:=fun n=>h.Fu _ n
 have hw:=i.w1
 have hx:h.ob h.objs.length=none:=by simp [Hp.ob]
 have hok:∀ n,h.Ok n->(h.make m).Ok n:=by
  rintro n ⟨o,e,nd⟩
  refine ⟨o,?_,nd⟩
  rw [hob,if_neg (by intro c;subst c;rw [hx] at e;cases e)]
  exact e
 have hLv:∀ n,h.Lv n->(h.make m).Lv n:=by
  rintro n ⟨o,e⟩
  refine ⟨o,?_⟩
  rw [hob,if_neg (by intro c;subst c;rw [hx] at e;cases e)]
  exact e
 have get:∀ n o,(h.make m).ob n=some o->(n=h.objs.length/\o=⟨h.white,m,[],false⟩)∨h.ob n=some o:=by
  intro n o e
  rw [hob] at e
  split at e
  ·rename_i c;simp at e;exact .inl ⟨c,e.symm⟩
  ·exact .inr e
 have hW:∀ n,(h.make m).JK n=h.JK n:=by
  intro n
  unfold Hp.JK
  rw [hob]
  by_cases c:n=h.objs.length
  ·subst c
   rw [if_pos rfl,hx]
   show eP h.white=true
   rcases (by omega:h.white=0∨h.white=1) with z|z<;>rw [z]<;>rfl
  ·rw [if_neg c]
 refine ⟨⟨i.w1,i.st,?_,?_,fun n o e=>?_,fun n hn=>hok n (i.ls n hn),fun n o e nd en he r hr=>?_,fun hs n o e=>?_,fun hs=>?_,fun hs=>?_⟩,?_⟩
 ·rw [hob,if_neg (by have:=i.ps;omega)]
  exact i.zero
 ·show 1<=(h.objs++[_]).length
  simp
 ·rcases get n o e with ⟨_,rfl⟩|x
  ·exact hm
  ·exact i.md n o x
 ·rcases get n o e with ⟨_,rfl⟩|x
  ·simp at he
  ·exact hok r (i.nc n o x nd en he r hr)
 ·rcases get n o e with ⟨_,rfl⟩|x
  ·rfl
  ·exact i.s0 hs n o x
 ·have t:=i.s1 hs
  refine ⟨fun n o e=>?_,fun n o e k=>?_,fun n o e k hS=>?_,fun n o e w=>?_,fun n hn=>hLv n (t.ll n hn),fun n o e en he r hr=>?_⟩
  ·rcases get n o e with ⟨_,rfl⟩|x
   ·show h.white<=3
    omega
   ·exact t.col n o x
  ·rcases get n o e with ⟨_,rfl⟩|x
   ·have:h.white=2:=k
    omega
   ·exact t.Jq n o x k
  ·rcases get n o e with ⟨_,rfl⟩|x
   ·have:h.white=3:=k
    omega
   ·exact (t.blk n o x k hS).mono rfl rfl (fun r y=>by rw [hW] at y;exact y) (fun _ y=>y) (fun _ y=>y)
  ·rcases get n o e with ⟨_,rfl⟩|x
   ·rfl
   ·exact t.wc n o x w
  ·rcases get n o e with ⟨_,rfl⟩|x
   ·simp at he
   ·exact hLv r (t.cl n o x en he r hr)
 ·obtain ⟨a,b,c,d,e⟩:=i.s2 hs
  refine ⟨a,b,?_,fun n o x=>?_,fun n o x hn=>?_⟩
  ·show h.D7<=(h.objs++[_]).length
   simp;omega
  ·rcases get n o x with ⟨_,rfl⟩|y
   ·show h.white<=3
    omega
   ·exact d n o y
  ·rcases get n o x with ⟨_,rfl⟩|y
   ·rfl
   ·exact e n o y hn
 ·refine ⟨⟨h.white,m,[],false⟩,?_,fun d=>d.2.2 rfl⟩
  rw [hob,if_pos rfl]
def Hp.Eb (h:Hp) (l:List Nat):Hp:={ h with roots:=l }
theorem Inv.Eb {h:Hp} (i:Inv h) {l:List Nat} (hl:∀ n∈l,h.Ok n):Inv (h.Eb l):=
 i.same (fun _=>rfl) rfl rfl rfl rfl rfl rfl rfl rfl (fun n hn=>by
  rcases hn with x|x|x
  ·exact hl n x
  ·exact i.ls n (.inr (.inl x))
  ·exact i.ls n (.inr (.inr x)))
def Hp.EK (h:Hp) (n:Nat):Hp:={ h.upd n (fun o=>{ o with fin:=true }) with finals:=h.finals++[n] }
theorem Inv.EK {h:Hp} (i:Inv h) {n:Nat} (hok:h.Ok n):Inv (h.EK n):=by
 refine i.same (fun m=>?_) (h.El n _) rfl rfl rfl rfl rfl rfl rfl (fun m hm=>?_)
 ·show ((h.upd n fun o=>{ o with fin:=true }).ob m).map _=_
  rw [Hp.Ed]
  split
  ·cases h.ob m<;>rfl
  ·rfl
 ·rcases hm with x|x|x
  ·exact i.ls m (.inl x)
  ·exact i.ls m (.inr (.inl x))
  ·have x':m∈h.finals++[n]:=x
   rcases List.mem_append.1 x' with y|y
   ·exact i.ls m (.inr (.inr y))
   ·simp at y;subst y;exact hok
def Hp.pop (h:Hp):Hp:={ h with pending:=h.pending.dropLast }
theorem Inv.pop {h:Hp} (i:Inv h):Inv h.pop:=i.same (fun _=>rfl) rfl rfl rfl rfl rfl rfl rfl rfl (fun n hn=>by
 rcases hn with x|x|x
 ·exact i.ls n (.inl x)
 ·exact i.ls n (.inr (.inl (List.dropLast_subset _ x)))
 ·exact i.ls n (.inr (.inr x)))
def Hp.forget (h:Hp):Hp:={ h with freed:=[] }
theorem Inv.forget {h:Hp} (i:Inv h):Inv h.forget:=i.same (fun _=>rfl) rfl rfl rfl rfl rfl rfl rfl rfl (fun n hn=>i.ls n hn)
theorem Inv.new:Inv Hp.new:=by
 have hob:∀ n,Hp.new.ob n=none:=by
  intro n
  simp only [Hp.ob,Hp.new]
  cases n<;>rfl
 refine ⟨by decide,by decide,hob 0,by decide,fun n o e=>?_,fun n hn=>?_,fun n o e=>?_,fun _ n o e=>?_,fun hs=>?_,fun hs=>?_⟩
 ·rw [hob] at e;cases e
 ·simp [Hp.new] at hn
 ·rw [hob] at e;cases e
 ·rw [hob] at e;cases e
 ·cases hs
 ·cases hs
end
section
variable {n:Nat} {o:Ob}
def bG (h:Hp):List (Option Nat):=h.objs.map (Option.map fun o=>o.es.length)
def eY (f:Option Nat->Nat) (l:List (Option Nat)):Nat:=(l.map f).sum
def wt:Option Nat->Nat
 |some k=>40+40*k
 |none=>0
def on:Option Nat->Nat
 |some _=>1
 |none=>0
theorem iD (f:Option Nat->Nat):∀ (l:List (Option Nat)) (n:Nat) (x y:Option Nat),l[n]?=some y->eY f (l.set n x)+f y=eY f l+f x
 | [],n,x,y,h=>by simp at h
 |a::l,0,x,y,h=>by simp at h;subst h;simp [eY];omega
 |a::l,n+1,x,y,h=>by
  have:=iD f l n x y (by simpa using h)
  simp [eY] at this ⊢
  omega
theorem pV (f:Option Nat->Nat) (l:List (Option Nat)) (x:Option Nat):eY f (l++[x])=eY f l+f x:=by simp [eY]
theorem oq (f:Option Nat->Nat):∀ (l:List (Option Nat)) (n:Nat) (y:Option Nat),l[n]?=some y->f y<=eY f l
 | [],n,y,h=>by simp at h
 |a::l,0,y,h=>by simp at h;subst h;simp [eY]
 |a::l,n+1,y,h=>by
  have:=oq f l n y (by simpa using h)
  simp [eY] at this ⊢
  omega
theorem Bq:∀ l:List (Option Nat),eY on l<=l.length
 | []=>by simp [eY]
 |a::l=>by
  have:=Bq l
  cases a<;>simp [eY,on] at this ⊢<;>omega
theorem fC (h:Hp) (n:Nat):(bG h)[n]?=if n<h.objs.length then some ((h.ob n).map fun o=>o.es.length) else none:=by
 unfold bG
 rw [List.getElem?_map]
 split
 ·rename_i c
  have:h.ob n=h.objs[n]:=by simp [Hp.ob,c]
  rw [this]
  simp [c]
 ·rename_i c
  rw [List.getElem?_eq_none (by omega)]
  rfl
theorem gP {h g:Hp} (hl:g.objs.length=h.objs.length) (he:∀ n,(g.ob n).map (fun o=>o.es.length)=(h.ob n).map (fun o=>o.es.length)):bG g=bG h:=by
 refine List.ext_getElem? (fun n=>?_)
 rw [fC,fC,hl,he n]
theorem JM.lens {h g:Hp} (x:JM h g):Go.Proofs.YtedpifhlffcmkaaGreatDoor.bG g=Go.Proofs.YtedpifhlffcmkaaGreatDoor.bG h:=by
 refine gP x.len (fun n=>?_)
 have:=x.cont n
 cases e1:g.ob n<;>cases e2:h.ob n<;>simp [e1,e2,Ob.cont] at this ⊢
 rw [this.2.1]
theorem J2.lens {h g:Hp} (x:J2 h g):Go.Proofs.YtedpifhlffcmkaaGreatDoor.bG g=Go.Proofs.YtedpifhlffcmkaaGreatDoor.bG h:=by
 refine gP x.len (fun n=>?_)
 rcases x.ob n with ⟨h1,h2⟩|⟨o,o',h1,h2,_,_,_,c,_,h5⟩
 ·rw [h1,h2]
 ·rw [h1,h2]
  simp [h5]
theorem vI {h g:Hp} (hl:g.objs.length=h.objs.length) (hob:∀ n,(g.ob n).map (fun o=>(o.col,o.mode,o.es))=(h.ob n).map (fun o=>(o.col,o.mode,o.es))):bG g=bG h:=by
 refine gP hl (fun n=>?_)
 have:=hob n
 cases e1:g.ob n<;>cases e2:h.ob n<;>simp [e1,e2] at this ⊢
 rw [this.2.2]
theorem qB (h:Hp):bG h.Ei=bG h:=by
 obtain ⟨_,_,_,h4,_,h6⟩:=bY h.finals (h,[])
 exact vI (g:=h.Ei) h6 h4
theorem qW (h:Hp):bG h.atomic=bG h:=by
 have c5:=(J2.at4 h.JY.at2.at3).trans (J2.Jp _)
 show bG h.JY.at2.at3.at4.Jp=_
 rw [c5.lens,(JM.at3 h.JY.at2).lens]
 show bG (h.JY.weak.foldl Hp.Jk h.JY).Ei=_
 rw [qB]
 exact (J2.fold bq bI h.JY.weak h.JY).lens.trans (show bG h.JY=bG { h with again:=h.JY.again } from JM.lens (iW.JY h))
def jY (h:Hp):Prop:=h.bytes=eY wt (bG h)/\h.live=eY on (bG h)
theorem jY.of {h g:Hp} (x:jY h) (hl:bG g=bG h) (hb:g.bytes=h.bytes) (hv:g.live=h.live):jY g:=by
 unfold jY
 rw [hl,hb,hv]
 exact x
theorem jY.free {h:Hp} (x:jY h) (e:h.ob n=some o):o.size<=h.bytes/\1<=h.live/\o.es.length*40<=h.bytes/\h.bytes-o.size=eY wt ((bG h).set n none)/\h.live-1=eY on ((bG h).set n none):=by
 have hl:=Hp.Es e
 have hg:(bG h)[n]?=some (some o.es.length):=by rw [fC,if_pos hl,e];rfl
 have h1:=iD wt (bG h) n none _ hg
 have h2:=iD on (bG h) n none _ hg
 have h3:=oq wt (bG h) n _ hg
 have h4:=oq on (bG h) n _ hg
 rw [<-x.1] at h1 h3
 rw [<-x.2] at h2 h4
 simp only [wt,on] at h1 h2 h3 h4
 unfold Ob.size
 refine ⟨h3,h4,?_,?_,?_⟩<;>omega
theorem pz (h:Hp) (n:Nat):bG { h with objs:=h.objs.set n none }=(bG h).set n none:=by
 unfold bG
 simp [List.map_set]
theorem jY.D9 {h:Hp} (x:jY h):jY h.D9/\h.D9.freed.length+h.D9.live=h.freed.length+h.live/\h.D9.bytes<=h.bytes:=by
 unfold Hp.D9
 split
 ·rename_i o ho
  split
  ·obtain ⟨h1,h2,h3,h4,h5⟩:=x.free ho
   refine ⟨⟨?_,?_⟩,?_,?_⟩
   ·show h.bytes-o.size=eY wt (bG { h with objs:=h.objs.set h.D7 none })
    rw [pz];exact h4
   ·show h.live-1=eY on (bG { h with objs:=h.objs.set h.D7 none })
    rw [pz];exact h5
   ·simp;omega
   ·simp
  ·refine ⟨x.of ?_ rfl rfl,rfl,Nat.le_refl _⟩
   refine gP (h.El h.D7 _) (fun n=>?_)
   show ((h.upd h.D7 fun o=>{ o with col:=h.white }).ob n).map _=_
   rw [Hp.Ed]
   split
   ·cases h.ob n<;>rfl
   ·rfl
 ·exact ⟨x,rfl,Nat.le_refl _⟩
theorem Au {h:Hp} (x:jY h) (i:Inv h):h.live+1<=h.objs.length:=by
 have h0:(bG h)[0]?=some none:=by rw [fC,if_pos (show 0<h.objs.length from i.ps),i.zero];rfl
 cases e:bG h with
 |nil=>rw [e] at h0;simp at h0
 |cons a l=>
  rw [e] at h0
  simp at h0
  have h1:=Bq l
  have h2:(bG h).length=h.objs.length:=by simp [bG]
  have h3:=x.2
  rw [e,h0] at h3
  rw [e] at h2
  simp [eY,on] at h3 h1 h2
  omega
structure Sm (h:Hp):Prop where
 len:h.objs.length<=5001
 nu:h.nu+h.again.length<=20000
 fp:h.finals.length+h.pending.length<=5000
 fr:h.freed.length+h.live<=10000
 JQ:h.bytes<=200000
 cr:h.D6<=200000
 lim:h.limit<=404096
 rt:h.roots.length<=5001
 es:∀ n o,h.ob n=some o->o.es.length<=5000
theorem Sm.JF {h g:Hp} (s:Sm h) (x:JM h g) (hn:g.nu<=h.nu):Sm g:=by
 refine ⟨by rw [x.len];exact s.len,?_,by rw [x.finals,x.pending];exact s.fp,by rw [x.freed,x.live];exact s.fr,by rw [x.bytes];exact s.JQ,by rw [x.D6];exact s.cr,by rw [x.limit];exact s.lim,by rw [x.roots];exact s.rt,fun n o e=>?_⟩
 ·have:=s.nu
  rw [x.again]
  omega
 ·obtain ⟨o',h1,_,h2,_⟩:=x.ob e
  rw [<-h2];exact s.es n o' h1
theorem Hp.EC (h:Hp) (n:Nat):(h.mark n).nu=h.nu:=by
 simp only [Hp.nu,h.GV n,(h.FP n).1,(h.FP n).2]
theorem Sm.mark {h:Hp} (s:Sm h) (n:Nat):Sm (h.mark n):=s.JF (JM.mark h n) (Nat.le_of_eq (h.EC n))
theorem Sm.Eo {h:Hp} (s:Sm h) (v:HV):Sm (h.Eo v):=by
 unfold Hp.Eo
 split
 ·exact s.mark _
 ·exact s
theorem Sm.foldM {h:Hp} (s:Sm h) {α:Type} (f:Hp->α->Hp) (hf:∀ h x,Sm h->Sm (f h x)):∀ (l:List α) (h:Hp),Sm h->Sm (l.foldl f h)
 | [],h,s=>s
 |a::l,h,s=>Sm.foldM s f hf l (f h a) (hf h a s)
theorem Sm.Eh {h:Hp} (s:Sm h) (l:List Nat):Sm (h.Eh l):=s.foldM Hp.mark (fun h x s=>s.mark x) l h s
theorem Sm.alive {h:Hp} (s:Sm h):Sm h.alive:=(s.Eh _).Eh _
theorem Sm.spread {h:Hp} (s:Sm h) (es:List En):Sm (h.spread es).1:=s.JF (JM.spread h es) (Nat.le_of_eq (h.EO es))
theorem Sm.take {h:Hp} (s:Sm h) (hg:h.grey≠[]):Sm h.take.1:=s.JF (JM.take h) (h.F8 hg)
theorem Sm.drain {h:Hp} (s:Sm h):Sm h.drain:=s.JF (JM.drain h) h.FJ
theorem Hp.FX (k:Nat) (p:Hp × Bool):(Hp.over k p).1.nu<=p.1.nu:=by
 refine Hp.EJ (P:=fun k p q=>q.1.nu<=p.1.nu) (fun k p _=>Nat.le_refl _) ?_ ?_ k p
 ·intro k p q hk hs x
  refine Nat.le_trans x (Nat.le_trans (Hp.FJ _) (Nat.le_of_eq (Hp.EO _ _)))
 ·intro k p q hk hs x
  exact Nat.le_trans x (Nat.le_of_eq (Hp.EO _ _))
theorem Hp.Gx (h:Hp):h.turns.nu<=h.nu:=Hp.EX (P:=fun h g=>g.nu<=h.nu) (fun h g _ _ x=>Nat.le_trans x (Hp.FX 0 (h,false))) (fun h _=>Hp.FX 0 (h,false)) h
theorem Hp.Gq (h:Hp):h.settle.nu<=h.nu:=Nat.le_trans (Hp.Gx _) h.FJ
theorem Sm.over {p:Hp × Bool} {k:Nat} (s:Sm p.1):Sm (Hp.over k p).1:=s.JF (JM.over k p) (Hp.FX k p)
theorem Sm.settle {h:Hp} (s:Sm h):Sm h.settle:=s.JF (JM.settle h) h.Gq
theorem Sm.turns {h:Hp} (s:Sm h):Sm h.turns:=s.JF (JM.turns h) h.Gx
theorem vC (h:Hp) (n:Nat):(h.Ef n).nu<=h.nu+1:=by
 have:=h.Gw n 2 rfl
 have e:(h.Ef n).wn=(h.upd n fun o=>{ o with col:=2 }).wn:=rfl
 show (h.Ef n).wn+(h.grey++[n]).length+h.D8.length+h.weak.length<=h.wn+h.grey.length+h.D8.length+h.weak.length+1
 rw [e]
 simp
 omega
theorem kW:∀ (l:List Nat) (h:Hp),(l.foldl Hp.Ef h).nu<=h.nu+l.length
 | [],h=>by simp
 |a::l,h=>by
  have h1:=kW l (h.Ef a)
  have h2:=vC h a
  simp only [List.foldl_cons,List.length_cons]
  omega
theorem nV (h:Hp):h.D_.nu<=h.nu+h.again.length:=kW h.again h
theorem Sm.D_ {h:Hp} (s:Sm h):Sm h.D_:=by
 have x:=JM.fold _ JM.Ef h.again h
 refine ⟨by rw [show h.D_.objs.length=_ from x.len];exact s.len,?_,by rw [show h.D_.finals=_ from x.finals,show h.D_.pending=_ from x.pending];exact s.fp,by rw [show h.D_.freed=_ from x.freed,show h.D_.live=_ from x.live];exact s.fr,by rw [show h.D_.bytes=_ from x.bytes];exact s.JQ,by rw [show h.D_.D6=_ from x.D6];exact s.cr,by rw [show h.D_.limit=_ from x.limit];exact s.lim,by rw [show h.D_.roots=_ from x.roots];exact s.rt,fun n o e=>?_⟩
 ·have h1:=s.nu
  have h2:=nV h
  have h3:h.D_.again.length=0:=rfl
  omega
 ·obtain ⟨o',h1,_,h2,_⟩:=x.ob e
  rw [<-h2];exact s.es n o' h1
end
end Go.Proofs.YtedpifhlffcmkaaGreatDoor
namespace Go.Proofs.YtedpifhlffcmkaaGreatDoor
open Go Go.RowKit
set_option linter.unusedVariables false
section
variable {B B' N T T' base g n n' s s' size:Nat} {S:Nat->Prop} {f:Nat->Value} {h h':Hp} {o:Ob} {v v':Value} {w w':World} {xs xs':List Value}
def vk (v:HV):Int:=match v with
 |none=>0
 |some (.inl _)=>2
 |some (.inr _)=>5
def vi (v:HV):Int:=match v with
 |some (.inl z)=>z
 |_=>0
def vr (v:HV):Nat:=match v with
 |some (.inr n)=>n
 |_=>0
def uL (v:HV):List Value:=[.int .i64 (vk v),.int .i64 (vi v),.int .u64 0,.string ByteArray.empty,.int .i64 (vr v)]
def gD (e:En):List Value:=uL e.1++uL e.2
def iO (es:List En):List Value:=es.flatMap gD
def Bh (l:List Nat):List Value:=l.flatMap fun n=>uL (some (.inr n))
theorem lM {α:Type} (f:α->List Value) (s:Nat) (hf:∀ x,(f x).length=s):∀ l:List α,(l.flatMap f).length=l.length*s
 | []=>by simp
 |a::l=>by
  rw [List.flatMap_cons,List.length_append,hf,lM f s hf l,List.length_cons,Nat.add_mul]
  omega
theorem dw {α:Type} (f:α->List Value) (s:Nat) (hf:∀ x,(f x).length=s):∀ (l:List α) (i j:Nat) (x:α),l[i]?=some x->j<s->(l.flatMap f)[i*s+j]?=(f x)[j]?
 | [],i,j,x,h,_=>by simp at h
 |a::l,0,j,x,h,hj=>by
  simp at h;subst h
  rw [List.flatMap_cons,List.getElem?_append_left (by rw [hf];omega)]
  simp
 |a::l,i+1,j,x,h,hj=>by
  rw [List.flatMap_cons,List.getElem?_append_right (by rw [hf,Nat.add_mul];omega),hf]
  have e:(i+1)*s+j-s=i*s+j:=by rw [Nat.add_mul];omega
  rw [e]
  exact dw f s hf l i j x (by simpa using h) hj
theorem kT (es:List En):(iO es).length=es.length*10:=lM gD 10 (fun _=>rfl) es
structure SM where
 H:Nat
 oS:Value
 ob:Nat->Nat
 es:Nat->Value
 li:Nat->Value
 rS:Value
def cB (k:Nat):Prop:=k=7∨k=8∨k=9∨k=10∨k=11∨k=12∨k=15
def eX (h:Hp) (k:Nat):List Nat:=if k=7 then h.grey else if k=8 then h.again else if k=9 then h.weak else if k=10 then h.D8 else if k=11 then h.finals else if k=12 then h.pending else h.freed
def bL (h:Hp) (k:Nat) (l:List Nat):Hp:=if k=7 then { h with grey:=l } else if k=8 then { h with again:=l } else if k=9 then { h with weak:=l } else if k=10 then { h with D8:=l } else if k=11 then { h with finals:=l } else if k=12 then { h with pending:=l } else { h with freed:=l }
def qZ (h:Hp) (L:SM) (k:Nat):Value:=
 if k=0 then L.oS else if k=1 then .int .i64 h.bytes else if k=2 then .int .i64 h.live else if k=3 then .int .i64 h.limit else if k=4 then .int .i64 h.D6 else if k=5 then .int .i64 h.state else if k=6 then .int .i64 h.white
 else if k=13 then L.rS else if k=14 then .int .i64 h.D7 else if k=16 then .bool false else if k=17 then .int .i64 64 else L.li k
def jw (r:Nat->Value) (kd col:Nat) (dd:Bool) (md:Nat) (ev:Value) (fn:Bool) (k:Nat):Value:=
 if k=0 then .int .i64 kd else if k=1 then .int .i64 col else if k=2 then .bool dd else if k=3 then .int .i64 0 else if k=4 then .int .i64 md else if k=5 then ev else if k=22 then .bool fn else r k
def bU (l:List Nat):List Value:=l.map fun (n:Nat)=>Value.int .i64 (n:Int)
structure JU (base:Nat) (S:Nat->Prop) (h:Hp) (L:SM) (w:World):Prop where
 hp:aD w 105 L.H 18 (qZ h L)
 oo:w.ownsRow base 90 1 L.oS h.objs.length ((List.range h.objs.length).map fun n=>.pointer (some ⟨L.ob n,0,none⟩))
 ob:∀ n o,h.ob n=some o->∃ r,aD w 101 (L.ob n) 25 (jw r 5 o.col false o.mode (L.es n) o.fin)
 dd:∀ n,n<h.objs.length->h.ob n=none->∃ r c,eP c=true/\aD w 101 (L.ob n) 25 (jw r 0 c true 0 (.slice none 0 0) false)
 en:∀ n o,h.ob n=some o->w.ownsRow base 122 10 (L.es n) o.es.length (iO o.es)
 li:∀ k,cB k->w.ownsRow base 3 1 (L.li k) (eX h k).length (bU (eX h k))
 ro:w.ownsRow base 95 5 L.rS h.roots.length (Bh h.roots)
 ij:∀ n m,n<h.objs.length->m<h.objs.length->L.ob n=L.ob m->n=m
 ei:∀ n m o o' g,h.ob n=some o->h.ob m=some o'->(L.es n).ownBlock=some g->(L.es m).ownBlock=some g->n=m
 lj:∀ k k' g,cB k->cB k'->(L.li k).ownBlock=some g->(L.li k').ownBlock=some g->k=k'
 bH:base<=L.H
 bo:∀ n,n<h.objs.length->base<=L.ob n
 bs:base<=w.heap.size
 sH:S L.H
 so:∀ n,n<h.objs.length->S (L.ob n)
 sO:∀ g,L.oS.ownBlock=some g->S g
 se:∀ n o g,h.ob n=some o->(L.es n).ownBlock=some g->S g
 sl:∀ k g,cB k->(L.li k).ownBlock=some g->S g
 sr:∀ g,L.rS.ownBlock=some g->S g
 up:∀ b,w.heap.size<=b->S b
theorem au (h:w.ownsRow B T s v n xs) (hv:v.ownBlock=some g):aD w T g (n*s) (fun j=>xs.getD j (.bool false)):=by
 obtain ⟨h1,⟨rfl,h2⟩|⟨g',cap,cur,rfl,hb,hg,hr⟩⟩:=h
 ·simp [Value.ownBlock] at hv
 ·have e:g'=g:=by simpa [Value.ownBlock] using hv
  subst e
  exact fQ ⟨h1,.inr ⟨g',cap,cur,rfl,hb,hg,hr⟩⟩
theorem ak (h:w.ownsRow B T s v n xs) (h':aD w T' g N f) (hT:T≠T'):v.ownBlock≠some g:=fun e=>(au h e).apart h' hT rfl
theorem aV (h:w.ownsRow B T s v n xs) (h':w.ownsRow B' T' s' v' n' xs') (hT:T≠T') (e:v'.ownBlock=some g):v.ownBlock≠some g:=ak h (au h' e) hT
theorem aj {e:Nat} (h:w.ownsRow base e size v n xs) (k:Keeps w w' S) (hS:∀ g,v.ownBlock=some g->¬ S g):w'.ownsRow base e size v n xs:=by
 obtain ⟨h1,h2|⟨g,cap,cur,rfl,hBg,hh,hr⟩⟩:=h
 ·exact ⟨h1,.inl h2⟩
 ·have hg:g<w.heap.size:=by
   rcases Nat.lt_or_ge g w.heap.size with c|c
   ·exact c
   ·rw [Array.getElem?_eq_none c] at hh;cases hh
  exact ⟨h1,.inr ⟨g,cap,cur,rfl,hBg,(k.block g hg (hS g (by simp [Value.ownBlock]))).trans hh,hr⟩⟩
theorem JU.out {L:SM} (a:JU base S h L w) (k:Keeps w w' (fun b=>¬ S b)):JU base S h L w':=by
 refine ⟨a.hp.keep k (fun x=>x a.sH),aj a.oo k (fun g hg x=>x (a.sO g hg)),fun n o e=>?_,fun n hn e=>?_,fun n o e=>aj (a.en n o e) k (fun g hg x=>x (a.se n o g e hg)),fun j hj=>aj (a.li j hj) k (fun g hg x=>x (a.sl j g hj hg)),aj a.ro k (fun g hg x=>x (a.sr g hg)),a.ij,a.ei,a.lj,a.bH,a.bo,Nat.le_trans a.bs k.size,a.sH,a.so,a.sO,a.se,a.sl,a.sr,fun b hb=>a.up b (Nat.le_trans k.size hb)⟩
 ·obtain ⟨r,hr⟩:=a.ob n o e
  exact ⟨r,hr.keep k (fun x=>x (a.so n (Hp.Es e)))⟩
 ·obtain ⟨r,c,hc,hr⟩:=a.dd n hn e
  exact ⟨r,c,hc,hr.keep k (fun x=>x (a.so n hn))⟩
theorem JU.low {L:SM} (a:JU base S h L w) (k:Below w.heap.size w w'):JU base S h L w':=a.out (Keeps.of k (Nat.le_refl _) _)
theorem JU.alloc {base:Nat} {S:Nat->Prop} {h:Hp} {L:SM} {w:World} (a:JU base S h L w) (o:Obj):JU base S h L (w.alloc o):=a.low (aJ w o)
theorem JU.hdr {L:SM} (a:JU base S h L w) (k:Nat) (x:Value) (hk:k<18) (hob:h'.objs=h.objs) (hl:∀ k,cB k->eX h' k=eX h k) (hr:h'.roots=h.roots) (hc:∀ i,i<18->(if i=k then x else qZ h L i)=qZ h' L i):
 JU base S h' L (w.setCell ⟨L.H,k,none⟩ x)/\Keeps w (w.setCell ⟨L.H,k,none⟩ x) S:=by
 have kk:Keeps w (w.setCell ⟨L.H,k,none⟩ x) (fun b=>b=L.H):=Keeps.setCell (S:=fun b=>b=L.H) (Keeps.refl w _) rfl x
 have hb:∀ n,h'.ob n=h.ob n:=fun n=>by unfold Hp.ob;rw [hob]
 have hH:∀ {T s n:Nat} {v:Value} {xs:List Value},w.ownsRow base T s v n xs->T≠105->∀ g,v.ownBlock=some g->¬ g=L.H:=fun h1 h2 g h3 h4=>ak h1 a.hp h2 (h4 ▸ h3)
 refine ⟨⟨(a.hp.set hk x).congr hc,?_,fun n o e=>?_,fun n hn e=>?_,fun n o e=>?_,fun j hj=>?_,?_,?_,?_,a.lj,a.bH,?_,Nat.le_trans a.bs kk.size,a.sH,?_,a.sO,?_,a.sl,a.sr,fun b hb=>a.up b (Nat.le_trans kk.size hb)⟩,kk.mono (fun b e=>e ▸ a.sH)⟩
 ·rw [hob];exact aj a.oo kk (hH a.oo (by decide))
 ·rw [hb] at e
  obtain ⟨r,hr⟩:=a.ob n o e
  exact ⟨r,hr.keep kk (fun e=>hr.apart a.hp (by decide) e)⟩
 ·rw [hb] at e
  rw [hob] at hn
  obtain ⟨r,c,hc,hr⟩:=a.dd n hn e
  exact ⟨r,c,hc,hr.keep kk (fun e=>hr.apart a.hp (by decide) e)⟩
 ·rw [hb] at e;exact aj (a.en n o e) kk (hH (a.en n o e) (by decide))
 ·rw [hl j hj];exact aj (a.li j hj) kk (hH (a.li j hj) (by decide))
 ·rw [hr];exact aj a.ro kk (hH a.ro (by decide))
 ·rw [hob];exact a.ij
 ·intro n m o o' g;rw [hb,hb];exact a.ei n m o o' g
 ·rw [hob];exact a.bo
 ·rw [hob];exact a.so
 ·intro n o g;rw [hb];exact a.se n o g
theorem JU.JE {L:SM} (a:JU base S h L w) (n:Nat) (k:Nat) (x:Value) (f:Ob->Ob) (hk:k<25) (ho:h.ob n=some o) (hf:(f o).mode=o.mode/\(f o).es=o.es)
 (hc:∀ r i,(if i=k then x else jw r 5 o.col false o.mode (L.es n) o.fin i)=jw r 5 (f o).col false o.mode (L.es n) (f o).fin i):
 JU base S (h.upd n f) L (w.setCell ⟨L.ob n,k,none⟩ x)/\Keeps w (w.setCell ⟨L.ob n,k,none⟩ x) S:=by
 have kk:Keeps w (w.setCell ⟨L.ob n,k,none⟩ x) (fun b=>b=L.ob n):=Keeps.setCell (S:=fun b=>b=L.ob n) (Keeps.refl w _) rfl x
 have hl:(h.upd n f).objs.length=h.objs.length:=h.El n f
 obtain ⟨r0,hr0⟩:=a.ob n o ho
 have hn:=Hp.Es ho
 have hH:∀ {T s n':Nat} {v:Value} {xs:List Value},w.ownsRow base T s v n' xs->T≠101->∀ g,v.ownBlock=some g->¬ g=L.ob n:=fun h1 h2 g h3 h4=>ak h1 hr0 h2 (h4 ▸ h3)
 have get:∀ m o',(h.upd n f).ob m=some o'->∃ o2,h.ob m=some o2/\o'.es=o2.es/\(m=n->o2=o/\o'=f o)/\(m≠n->o'=o2):=by
  intro m o' e
  rw [Hp.Ed] at e
  split at e
  ·rename_i c
   subst c
   rw [ho] at e
   simp at e
   subst e
   exact ⟨o,ho,hf.2,fun _=>⟨rfl,rfl⟩,fun c=>absurd rfl c⟩
  ·rename_i c
   exact ⟨o',e,rfl,fun d=>absurd d.symm c,fun _=>rfl⟩
 refine ⟨⟨a.hp.keep kk (fun e=>a.hp.apart hr0 (by decide) e),?_,fun m o' e=>?_,fun m hm e=>?_,fun m o' e=>?_,fun j hj=>aj (a.li j hj) kk (hH (a.li j hj) (by decide)),aj a.ro kk (hH a.ro (by decide)),?_,?_,a.lj,a.bH,?_,Nat.le_trans a.bs kk.size,a.sH,?_,a.sO,?_,a.sl,a.sr,fun b hb=>a.up b (Nat.le_trans kk.size hb)⟩,kk.mono (fun b e=>e ▸ a.so n hn)⟩
 ·rw [hl];exact aj a.oo kk (hH a.oo (by decide))
 ·obtain ⟨o2,e2,h3,h4,h5⟩:=get m o' e
  by_cases c:m=n
  ·subst c
   obtain ⟨rfl,rfl⟩:=h4 rfl
   refine ⟨r0,?_⟩
   rw [hf.1]
   exact (hr0.set hk x).congr (fun i _=>hc r0 i)
  ·obtain rfl:=h5 c
   obtain ⟨r,hr⟩:=a.ob m o' e2
   exact ⟨r,hr.keep kk (fun e=>c (a.ij m n (Hp.Es e2) hn e))⟩
 ·rw [hl] at hm
  rw [Hp.Ed] at e
  have e2:h.ob m=none/\m≠n:=by
   split at e
   ·rename_i c
    subst c
    rw [ho] at e
    simp at e
   ·rename_i c;exact ⟨e,fun d=>c d.symm⟩
  obtain ⟨r,c,hcw,hr⟩:=a.dd m hm e2.1
  exact ⟨r,c,hcw,hr.keep kk (fun e=>e2.2 (a.ij m n hm hn e))⟩
 ·obtain ⟨o2,e2,h3,_⟩:=get m o' e
  rw [h3]
  exact aj (a.en m o2 e2) kk (hH (a.en m o2 e2) (by decide))
 ·rw [hl];exact a.ij
 ·intro m m' o1 o2 g e1 e2
  obtain ⟨p1,q1,_⟩:=get m o1 e1
  obtain ⟨p2,q2,_⟩:=get m' o2 e2
  exact a.ei m m' p1 p2 g q1 q2
 ·rw [hl];exact a.bo
 ·rw [hl];exact a.so
 ·intro m o' g e
  obtain ⟨p1,q1,_⟩:=get m o' e
  exact a.se m p1 g q1
end
section
variable {Q:Exit->Act->World->Prop} {S:Nat->Prop} {ac:Act} {base j k:Nat} {h:Hp} {ops:Array Oper} {rest:List Oper} {w w1 wr:World}
theorem ug (h:Hp) (L:SM) (hk:cB k) (v':Value) (l':List Nat):∀ i,i<18->(if i=k then v' else qZ h L i)=qZ (bL h k l') { L with li:=fun j=>if j=k then v' else L.li j } i:=by
 intro i hi
 have:i=0∨i=1∨i=2∨i=3∨i=4∨i=5∨i=6∨i=7∨i=8∨i=9∨i=10∨i=11∨i=12∨i=13∨i=14∨i=15∨i=16∨i=17:=by omega
 rcases hk with rfl|rfl|rfl|rfl|rfl|rfl|rfl<;>rcases this with rfl|rfl|rfl|rfl|rfl|rfl|rfl|rfl|rfl|rfl|rfl|rfl|rfl|rfl|rfl|rfl|rfl|rfl<;>rfl
theorem oD (h:Hp) (hk:cB k) (hj:cB j) (l':List Nat):eX (bL h k l') j=if j=k then l' else eX h j:=by
 rcases hk with rfl|rfl|rfl|rfl|rfl|rfl|rfl<;>rcases hj with rfl|rfl|rfl|rfl|rfl|rfl|rfl<;>rfl
theorem fJ (h:Hp) (k:Nat) (l':List Nat):(bL h k l').objs=h.objs/\(bL h k l').roots=h.roots:=by
 unfold bL
 split
 ·exact ⟨rfl,rfl⟩
 split
 ·exact ⟨rfl,rfl⟩
 split
 ·exact ⟨rfl,rfl⟩
 split
 ·exact ⟨rfl,rfl⟩
 split
 ·exact ⟨rfl,rfl⟩
 split
 ·exact ⟨rfl,rfl⟩
 ·exact ⟨rfl,rfl⟩
theorem JU.Gm {L:SM} (a:JU base S h L w) (k:Nat) (hk:cB k) (kk:Keeps w w1 (fun b=>(L.li k).ownBlock=some b)) (v':Value) (l':List Nat) (hown:w1.ownsRow base 3 1 v' l'.length (bU l')) (hv:∀ g,v'.ownBlock=some g->(L.li k).ownBlock=some g∨w.heap.size<=g):
 aD w1 105 L.H 18 (qZ h L)/\JU base S (bL h k l') { L with li:=fun j=>if j=k then v' else L.li j } (w1.setCell ⟨L.H,k,none⟩ v')/\Keeps w (w1.setCell ⟨L.H,k,none⟩ v') S:=by
 have hk18:k<18:=by rcases hk with rfl|rfl|rfl|rfl|rfl|rfl|rfl<;>decide
 obtain ⟨ho,hro⟩:=fJ h k l'
 have hob:∀ n,(bL h k l').ob n=h.ob n:=fun n=>by unfold Hp.ob;rw [ho]
 have hr1:aD w1 105 L.H 18 (qZ h L):=a.hp.keep kk (fun e=>ak (a.li k hk) a.hp (by decide) e)
 have k2:Keeps w (w1.setCell ⟨L.H,k,none⟩ v') (fun b=>(L.li k).ownBlock=some b∨b=L.H):=(kk.mono (fun b e=>Or.inl e)).trans (Keeps.setCell (S:=fun b=>(L.li k).ownBlock=some b∨b=L.H) (Keeps.refl w1 _) (.inr rfl) v')
 have hT:∀ {T s n:Nat} {v:Value} {xs:List Value},w.ownsRow base T s v n xs->T≠105->T≠3->∀ g,v.ownBlock=some g->¬ ((L.li k).ownBlock=some g∨g=L.H):=by
  intro T s n v xs h1 h2 h3 g h4 h5
  rcases h5 with h5|h5
  ·exact aV h1 (a.li k hk) h3 h5 h4
  ·exact ak h1 a.hp h2 (h5 ▸ h4)
 have hR:∀ {T g N:Nat} {f:Nat->Value},aD w T g N f->T≠105->T≠3->¬ ((L.li k).ownBlock=some g∨g=L.H):=by
  intro T g N f h1 h2 h3 h5
  rcases h5 with h5|h5
  ·exact ak (a.li k hk) h1 (Ne.symm h3) h5
  ·exact h1.apart a.hp h2 h5
 refine ⟨hr1,⟨(hr1.set hk18 v').congr (ug h L hk v' l'),?_,fun n o e=>?_,fun n hn e=>?_,fun n o e=>?_,fun j hj=>?_,?_,?_,?_,?_,a.bH,?_,Nat.le_trans a.bs k2.size,a.sH,?_,a.sO,?_,?_,a.sr,fun b hb=>a.up b (Nat.le_trans k2.size hb)⟩,?_⟩
 ·rw [ho];exact aj a.oo k2 (hT a.oo (by decide) (by decide))
 ·rw [hob] at e
  obtain ⟨r,hr⟩:=a.ob n o e
  exact ⟨r,hr.keep k2 (hR hr (by decide) (by decide))⟩
 ·rw [hob] at e
  rw [ho] at hn
  obtain ⟨r,c,hc,hr⟩:=a.dd n hn e
  exact ⟨r,c,hc,hr.keep k2 (hR hr (by decide) (by decide))⟩
 ·rw [hob] at e;exact aj (a.en n o e) k2 (hT (a.en n o e) (by decide) (by decide))
 ·rw [oD h hk hj]
  by_cases c:j=k
  ·simp only [c,if_true]
   exact aj hown (Keeps.setCell (S:=fun b=>b=L.H) (Keeps.refl w1 _) rfl v') (fun g hg e=>ak hown hr1 (by decide) (e ▸ hg))
  ·simp only [c,if_false]
   refine aj (a.li j hj) k2 (fun g hg e=>?_)
   rcases e with e|e
   ·exact c (a.lj j k g hj hk hg e)
   ·exact ak (a.li j hj) a.hp (by decide) (e ▸ hg)
 ·rw [hro];exact aj a.ro k2 (hT a.ro (by decide) (by decide))
 ·rw [ho];exact a.ij
 ·intro n m o o' g;rw [hob,hob];exact a.ei n m o o' g
 ·intro j j' g hj hj' e e'
  have hlt:∀ q,cB q->(L.li q).ownBlock=some g->g<w.heap.size:=fun q hq e=>(au (a.li q hq) e).lt
  by_cases c:j=k<;>by_cases c':j'=k
  ·rw [c,c']
  ·simp only [c,c',if_true,if_false] at e e'
   rcases hv g e with x|x
   ·rw [c];exact a.lj k j' g hk hj' x e'
   ·have:=hlt j' hj' e';omega
  ·simp only [c,c',if_true,if_false] at e e'
   rcases hv g e' with x|x
   ·rw [c'];exact a.lj j k g hj hk e x
   ·have:=hlt j hj e;omega
  ·simp only [c,c',if_false] at e e'
   exact a.lj j j' g hj hj' e e'
 ·rw [ho];exact a.bo
 ·rw [ho];exact a.so
 ·intro n o g;rw [hob];exact a.se n o g
 ·intro j g hj e
  by_cases c:j=k
  ·simp only [c,if_true] at e
   rcases hv g e with x|x
   ·exact a.sl k g hk x
   ·exact a.up g x
  ·simp only [c,if_false] at e
   exact a.sl j g hj e
 ·refine k2.mono (fun b e=>?_)
  rcases e with e|e
  ·exact a.sl k b hk e
  ·exact e ▸ a.sH
theorem iK:(Tryz.prog.info? 3).map (fun i=>(i.zero,i.size,i.bytes))=some (some (.int .i64 0),1,8):=by kernel_rfl
theorem JU.app {L:SM} (a:JU base S h L wr) (k:Nat) (hk:cB k) (n:Nat) {o:Oper} (hgd:o.guard=none) (s x:Operand)
 (ho:o.op=.call { callee:=.builtin .append,args:=#[s,x],argTypes:=#[30,30] }) (hs:ac.eval s=L.li k) (hx:ac.eval x=.slice (some ⟨wr.heap.size,0,none⟩) 1 1) (hlen:(eX h k).length<=1000000)
 (hK:∀ (g cap:Nat) (w':World),aD w' 105 L.H 18 (qZ h L)->JU base S (bL h k (eX h k++[n])) { L with li:=fun j=>if j=k then .slice (some ⟨g,0,none⟩) ((eX h k).length+1) cap else L.li j } (w'.setCell ⟨L.H,k,none⟩ (.slice (some ⟨g,0,none⟩) ((eX h k).length+1) cap))->Keeps wr (w'.setCell ⟨L.H,k,none⟩ (.slice (some ⟨g,0,none⟩) ((eX h k).length+1) cap)) S->wpList Tryz.prog ops Q rest (ac.put o.dst (.slice (some ⟨g,0,none⟩) ((eX h k).length+1) cap)) w'):
 wpList Tryz.prog ops Q (o::rest) ac (wr.alloc (.cells #[.int .i64 (n:Int)] 3)):=by
 have hb:=a.bs
 refine iF hgd s x 30 3 1 8 (.int .i64 0) ho Tryz.underlying30 iK rfl (by decide) base (L.li k) (eX h k).length (bU (eX h k)) [.int .i64 (n:Int)] (a.li k hk) hs hx rfl (fun u hu=>by simp at hu;subst hu;rfl) (by omega) (by decide) hb ?_
 intro v' w' h1 h2 h3 h4
 have hw:Below base wr w':=h2 base wr (Below.refl _ _) (Nat.le_refl _)
 have kk:Keeps wr w' (fun b=>(L.li k).ownBlock=some b):=⟨hw.os,hw.tape,hw.output,hw.size,fun b hb' hn=>h3 b hb' hn⟩
 have hvf:∃ g cap,v'=.slice (some ⟨g,0,none⟩) ((eX h k).length+1) cap:=by
  rcases h1.2 with ⟨_,h9⟩|⟨g,cap,cur,hv,_⟩
  ·omega
  ·exact ⟨g,cap,hv⟩
 obtain ⟨g,cap,rfl⟩:=hvf
 have h1':w'.ownsRow base 3 1 (.slice (some ⟨g,0,none⟩) ((eX h k).length+1) cap) (eX h k++[n]).length (bU (eX h k++[n])):=by
  simpa [bU] using h1
 obtain ⟨p1,p2,p3⟩:=a.Gm k hk kk _ _ h1' (fun g' e=>by
  by_cases c:(L.li k).ownBlock=some g'
  ·exact .inl c
  ·right
   rcases Nat.lt_or_ge g' wr.heap.size with d|d
   ·exact absurd e (h4 g' d c)
   ·exact d)
 exact hK g cap w' p1 p2 p3
end
set_option maxHeartbeats 6400000
set_option maxRecDepth 100000
section
variable {S:Nat->Prop} {base n:Nat} {h:Hp} {w:World}
structure Lm (L L':SM):Prop where
 H:L'.H=L.H
 oS:L'.oS=L.oS
 ob:L'.ob=L.ob
 es:L'.es=L.es
 rS:L'.rS=L.rS
 li:∀ k,k≠7->k≠9->k≠10->L'.li k=L.li k
theorem Lm.refl (L:SM):Lm L L:=⟨rfl,rfl,rfl,rfl,rfl,fun _ _ _ _=>rfl⟩
theorem Lm.trans {a b c:SM} (x:Lm a b) (y:Lm b c):Lm a c:=
 ⟨y.H.trans x.H,y.oS.trans x.oS,y.ob.trans x.ob,y.es.trans x.es,y.rS.trans x.rS,fun k h1 h2 h3=>(y.li k h1 h2 h3).trans (x.li k h1 h2 h3)⟩
theorem Lm.set (L:SM) (k:Nat) (hk:k=7∨k=9∨k=10) (v:Value):Lm L { L with li:=fun j=>if j=k then v else L.li j }:=by
 refine ⟨rfl,rfl,rfl,rfl,rfl,fun j h1 h2 h3=>?_⟩
 have:j≠k:=by omega
 simp [this]
theorem JU.slot {L:SM} (a:JU base S h L w) (hp:1<=h.objs.length):∃ g cap,L.oS=.slice (some ⟨g,0,none⟩) h.objs.length cap/\h.objs.length<=cap/\∀ n,n<h.objs.length->w.cell? ⟨g,n,none⟩=some (.pointer (some ⟨L.ob n,0,none⟩)):=by
 rcases a.oo.2 with ⟨_,h9⟩|⟨g,cap,cur,hv,_,_,hc,_⟩
 ·omega
 ·refine ⟨g,cap,hv,hc,fun n hn=>?_⟩
  have hr:=au a.oo (g:=g) (by rw [hv];simp [Value.ownBlock])
  rw [hr.cell (j:=n) (by omega)]
  simp [List.getD_eq_getElem?_getD,hn]
theorem JU.any {L:SM} (a:JU base S h L w) (hn:n<h.objs.length):∃ r kd c md ev fn,aD w 101 (L.ob n) 25 (jw r kd c ((h.ob n).isNone) md ev fn)/\eP c=h.JK n/\(∀ o,h.ob n=some o->kd=5/\c=o.col/\md=o.mode/\ev=L.es n/\fn=o.fin):=by
 cases e:h.ob n with
 |none=>
  obtain ⟨r,c,hc,hr⟩:=a.dd n hn e
  exact ⟨r,0,c,0,_,false,hr,by rw [hc];unfold Hp.JK;rw [e],fun o x=>by cases x⟩
 |some o=>
  obtain ⟨r,hr⟩:=a.ob n o e
  exact ⟨r,5,o.col,o.mode,_,o.fin,hr,(Hp.FU e).symm,fun o' x=>by cases x;exact ⟨rfl,rfl,rfl,rfl,rfl⟩⟩
theorem nM (c:Nat):(eP c=true/\(c=0∨c=1))∨(eP c=false/\c≠0/\c≠1):=by
 by_cases h0:c=0
 ·exact .inl ⟨by rw [h0];rfl,.inl h0⟩
 ·by_cases h1:c=1
  ·exact .inl ⟨by rw [h1];rfl,.inr h1⟩
  ·exact .inr ⟨by simp [eP,h0,h1],h0,h1⟩
theorem eF (w:World) (b c:Nat) (hc:w.cell? ⟨b,1,none⟩=some (.int .i64 c)):Calls Tryz.prog 91 #[.pointer (some ⟨b,0,none⟩)] w fun e w'=>e=.returned (.bool (eP c))/\w'=w:=by
 have hr:eP c=(((c:Int)==0)||((c:Int)==1)):=by
  unfold eP
  rcases nM c with ⟨_,h|h⟩|⟨_,h1,h2⟩
  ·subst h;rfl
  ·subst h;rfl
  ·have e1:((c:Int)==0)=false:=by simp;omega
   have e2:((c:Int)==1)=false:=by simp;omega
   rw [e1,e2];simp [h1,h2]
 rw [hr]
 clear hr
 go_enter Tryz.func91,Tryz.ntmps91
 by_cases h0:((c:Int)==0)=true
 ·go_wp2
  go_ret
  exact ⟨by simp [h0],rfl⟩
 ·have h0':((c:Int)==0)=false:=by simpa using h0
  go_wp2
  go_ret
  exact ⟨by simp [h0'],rfl⟩
theorem h_ {L:SM} (a:JU base S h L w) (s:Sm h) (hz:h.ob 0=none) (n:Nat) (hn:n<h.objs.length):
 Calls Tryz.prog 89 #[.pointer (some ⟨L.H,0,none⟩),.int .i64 (n:Int)] w fun e w'=>e=.returned (.tuple #[])/\∃ L',Lm L L'/\JU base S (h.mark n) L' w'/\Keeps w w' S:=by
 have HA:=ah a
 have hb9:=a.bs
 have hl9:=s.len
 have hgl:(eX h 7).length<=1000000:=by
  have:=s.nu
  simp only [Hp.nu,Hp.mu] at this
  show h.grey.length<=_
  omega
 by_cases h0:n=0
 ·subst h0
  have hm:h.mark 0=h:=by unfold Hp.mark;rw [hz]
  rw [hm]
  go_enter Tryz.func89,Tryz.ntmps89
  go_wp2
  ((try simp only [Exit.inBlock,Exit.then]);refine bodyPost_ret (results_none rfl _ _ _) rfl ?_)
  exact ⟨rfl,L,Lm.refl L,HA.o,Keeps.refl _ _⟩
 ·obtain ⟨g,cap,hoS,hcap,hcell⟩:=a.slot (by omega)
  have hcn:=hcell n hn
  obtain ⟨r,kd,c,md,ev,fn,hrow,hcw,hsome⟩:=a.any hn
  have c0:w.cell? ⟨L.H,0,none⟩=some (.slice (some ⟨g,0,none⟩) h.objs.length cap):=by rw [<-hoS];exact a.hp.cell (j:=0) (by omega)
  have c1:w.cell? ⟨L.ob n,1,none⟩=some (.int .i64 c):=hrow.cell (j:=1) (by omega)
  have c2:w.cell? ⟨L.ob n,2,none⟩=some (.bool (h.ob n).isNone):=hrow.cell (j:=2) (by omega)
  have z1:=hrow.Jv 1
  have hne:((n:Int)==0)=false:=by simp;omega
  have HI:=ah (eF w (L.ob n) c c1)
  have HS:=ah hsome
  have HW:=ah hcw
  clear a hcell hsome hcw hrow
  go_enter Tryz.func89,Tryz.ntmps89
  go_wp2_with fail
  refine HI.out.mono ?_
  rintro e w' ⟨rfl,hw⟩
  obtain rfl:=hw.symm
  cases hd:h.ob n with
  |none=>
   have hx:(h.ob n).isNone=true:=by rw [hd];rfl
   have hm:h.mark n=h:=by unfold Hp.mark;rw [hd]
   rw [hx] at c2
   have HM:=ah hm
   clear hm
   clear hx
   have HD:=ah hd
   clear hd
   rcases hv:eP c with _|_
   ·go_wp2
    go_end0
    exact ⟨rfl,L,Lm.refl L,by rw [HM.o];exact HA.o,Keeps.refl _ _⟩
   ·go_wp2
    go_end0
    exact ⟨rfl,L,Lm.refl L,by rw [HM.o];exact HA.o,Keeps.refl _ _⟩
  |some o=>
   have hx:(h.ob n).isNone=false:=by rw [hd];rfl
   rw [hx] at c2
   clear hx
   rcases hv:eP c with _|_
   ·have hm:h.mark n=h:=by
     unfold Hp.mark;rw [hd];simp only
     rw [if_neg (by rw [<-(HS.o o hd).2.1,hv];decide)]
    have HM:=ah hm
    clear hm
    have HD:=ah hd
    clear hd
    go_wp2
    go_end0
    exact ⟨rfl,L,Lm.refl L,by rw [HM.o];exact HA.o,Keeps.refl _ _⟩
   ·have hm:h.mark n=h.Ef n:=by
     unfold Hp.mark;rw [hd];simp only
     rw [if_pos (by rw [<-(HS.o o hd).2.1,hv])]
     rfl
    have HM:=ah hm
    clear hm
    have HD:=ah hd
    clear hd
    have HB:=ah (HA.o.JE n 1 (.int .i64 2) (fun o=>{ o with col:=2 }) (by decide) HD.o ⟨rfl,rfl⟩ (fun r i=>by
     unfold jw
     by_cases x:i=1
     ·subst x;simp
     ·simp [x]))
    obtain ⟨ag,ng,cg,hgv⟩:∃ ag ng cg,L.li 7=.slice ag ng cg:=by
     obtain ⟨x,y,z⟩:=aF (HA.o.li 7 (by simp [cB]))
     exact ⟨x,_,y,z⟩
    have c7:(w.setCell ⟨L.ob n,1,none⟩ (.int .i64 2)).cell? ⟨L.H,7,none⟩=some (.slice ag ng cg):=by rw [<-hgv];exact HB.o.1.hp.cell (j:=7) (by omega)
    have HG:=ah hgv
    clear hgv
    go_upto_region 4 with (fail)
    generalize w.setCell ⟨L.ob n,1,none⟩ (.int .i64 2)=w5 at *
    go_wp2_with (first
     |(at_builtin;refine HB.o.1.app 7 (by simp [cB]) n rfl _ _ rfl HG.o.symm rfl hgl ?_;intro gq cq w1 hrow1 hat1 hk1;have cR:=hrow1.cell (j:=7) (by omega);have zR:=hrow1.Jv 7;have H1:=ah hat1;have K1:=ah hk1;clear hrow1 hat1 hk1)
     |go_in)
    go_end0
    exact ⟨rfl,_,Lm.set L 7 (.inl rfl) _,by rw [HM.o];exact H1.o,HB.o.2.trans K1.o⟩
end
section
variable {S:Nat->Prop} {b base:Nat} {h:Hp} {v:Value} {w:World}
theorem kM {o:Nat} {sp:Option Nat} (h:w.cell? ⟨b,o,sp⟩=some v):b<w.heap.size:=by
 rcases Nat.lt_or_ge b w.heap.size with g|g
 ·exact g
 ·exfalso
  unfold World.cell? at h
  rw [Array.getElem?_eq_none g] at h
  cases h
theorem wY (hz:h.ob 0=none) (v:HV):h.Eo v=h.mark (vr v):=by
 have hm:h.mark 0=h:=by unfold Hp.mark;rw [hz]
 unfold Hp.Eo vr
 split<;>simp_all
def Rg (h:Hp) (v:HV):Prop:=∀ r∈bn v,1<=r/\r<h.objs.length
theorem Rg.vr {h:Hp} {v:HV} (r:Rg h v) (hp:1<=h.objs.length):vr v<h.objs.length:=by
 unfold Go.Proofs.YtedpifhlffcmkaaGreatDoor.vr
 split
 ·exact (r _ (by simp [bn])).2
 ·omega
theorem Rg.of {v:HV} (hz:h.ob 0=none) (hl:∀ r∈bn v,h.Lv r):Rg h v:=by
 intro r hr
 obtain ⟨o,e⟩:=hl r hr
 refine ⟨?_,Hp.Es e⟩
 rcases Nat.eq_zero_or_pos r with c|c
 ·subst c;rw [hz] at e;cases e
 ·exact c
theorem Bw {v:HV} (r:Rg h v):h.JG v=(if vr v=0 then false else h.JK (vr v)):=by
 unfold Hp.JG vr
 split
 ·rename_i n
  have:=(r n (by simp [bn])).1
  show h.JK n=if n=0 then false else h.JK n
  rw [if_neg (by omega)]
 ·simp
def vA (v:HV):Value:=.agg #[.int .i64 (vk v),.int .i64 (vi v),.int .u64 0,.string ByteArray.empty,.int .i64 (vr v)]
theorem dD {L:SM} (a:JU base S h L w) (s:Sm h) (hz:h.ob 0=none) (v:HV) (hv:vr v<h.objs.length):
 Calls Tryz.prog 88 #[.pointer (some ⟨L.H,0,none⟩),.agg #[.int .i64 (vk v),.int .i64 (vi v),.int .u64 0,.string ByteArray.empty,.int .i64 (vr v)]] w fun e w'=>e=.returned (.tuple #[])/\∃ L',Lm L L'/\JU base S (h.Eo v) L' w'/\Keeps w w' S:=by
 rw [wY hz]
 generalize vr v=n at *
 have HM:=ah (h_ (a.alloc (.cells #[.int .i64 (vk v),.int .i64 (vi v),.int .u64 0,.string ByteArray.empty,.int .i64 (n:Int)] 95)) s hz n hv)
 have HU:=ah a.up
 clear a
 go_enter Tryz.func88,Tryz.ntmps88
 go_wp2_with fail
 refine HM.o.mono ?_
 rintro e w1 ⟨rfl,L1,h1,h2,h3⟩
 have H1:=ah h1
 have H2:=ah h2
 have H3:=ah h3
 clear h1 h2 h3
 go_wp2
 go_end0
 exact ⟨rfl,L1,H1.o,H2.o,(Keeps.of (aJ w _) (Nat.le_refl _) S).trans H3.o⟩
theorem dO {L:SM} (a:JU base S h L w) (v:HV) (hr:Rg h v) (hl9:h.objs.length<=5001) (hp:1<=h.objs.length):
 Calls Tryz.prog 119 #[.pointer (some ⟨L.H,0,none⟩),.agg #[.int .i64 (vk v),.int .i64 (vi v),.int .u64 0,.string ByteArray.empty,.int .i64 (vr v)]] w fun e w'=>e=.returned (.bool (h.JG v))/\Below w.heap.size w w':=by
 rw [Bw hr]
 have hv:=hr.vr hp
 clear hr
 generalize vr v=n at *
 have hb1:=aJ w (.cells #[.int .i64 (vk v),.int .i64 (vi v),.int .u64 0,.string ByteArray.empty,.int .i64 (n:Int)] 95)
 have HB:=ah hb1
 by_cases h0:n=0
 ·subst h0
  clear hb1
  go_enter Tryz.func119,Tryz.ntmps119
  go_wp2_with fail
  go_quiet (fail)
  go_wp2
  go_ret
  exact ⟨rfl,ay HB.o _⟩
 ·obtain ⟨g,cap,hoS,hcap,hcell⟩:=a.slot (by omega)
  have hcn:=hcell n hv
  obtain ⟨r,kd,c,md,ev,fn,hrow,hcw,hsome⟩:=a.any hv
  have c0:w.cell? ⟨L.H,0,none⟩=some (.slice (some ⟨g,0,none⟩) h.objs.length cap):=by rw [<-hoS];exact a.hp.cell (j:=0) (by omega)
  have c1:w.cell? ⟨L.ob n,1,none⟩=some (.int .i64 c):=hrow.cell (j:=1) (by omega)
  have hH:=a.hp.lt
  have hg:=kM hcn
  have hO:=hrow.lt
  have d0:=(hb1.cell (p:=⟨L.H,0,none⟩) hH).trans c0
  have d1:=(hb1.cell (p:=⟨L.ob n,1,none⟩) hO).trans c1
  have dn:=(hb1.cell (p:=⟨g,n,none⟩) hg).trans hcn
  have hne:((n:Int) !=0)=true:=by simp;omega
  rw [if_neg h0,<-hcw]
  have HI:=ah (fun (w9:World) h=>eF w9 (L.ob n) c h)
  clear hcell hsome hcw hrow a hb1 c0 c1 hcn
  go_enter Tryz.func119,Tryz.ntmps119
  go_wp2_with fail
  go_quiet ((go_at_call 91;exact Calls.quiet_of_same (HI.out _ (by assumption))))
  go_wp2
  go_ret
  exact ⟨rfl,ay HB.o _⟩
end
section
variable {S:Nat->Prop} {base i n:Nat} {e:En} {h:Hp} {o:Ob} {w:World}
theorem JU.ents {L:SM} (a:JU base S h L w) (ho:h.ob n=some o):∃ A cap,L.es n=.slice A o.es.length cap/\o.es.length<=cap/\∀ i e,o.es[i]?=some e->∃ g,A=some ⟨g,0,none⟩/\g<w.heap.size/\∀ j u,(gD e)[j]?=some u->w.cell? ⟨g,i*10+j,none⟩=some u:=by
 have he:=a.en n o ho
 rcases he.2 with ⟨h1,h2⟩|⟨g,cap,cur,hv,_,_,hc,_⟩
 ·refine ⟨none,0,by rw [h1,h2],by omega,fun i e hi=>?_⟩
  have:=(List.getElem?_eq_some_iff.1 hi).1
  omega
 ·refine ⟨_,cap,hv,hc,fun i e hi=>⟨g,rfl,?_⟩⟩
  have hr:=au he (g:=g) (by rw [hv];simp [Value.ownBlock])
  refine ⟨hr.lt,fun j u hj=>?_⟩
  have hil:=(List.getElem?_eq_some_iff.1 hi).1
  have hjl:j<10:=(List.getElem?_eq_some_iff.1 hj).1
  rw [hr.cell (j:=i*10+j) (by omega),List.getD_eq_getElem?_getD,show (iO o.es)[i*10+j]?=(gD e)[j]? from dw gD 10 (fun _=>rfl) o.es i j e hi hjl,hj]
  rfl
theorem jR (wr:World) (e:En):aD (wr.alloc (.cells #[.int .i64 (vk e.1),.int .i64 (vi e.1),.int .u64 0,.string ByteArray.empty,.int .i64 (vr e.1),.int .i64 (vk e.2),.int .i64 (vi e.2),.int .u64 0,.string ByteArray.empty,.int .i64 (vr e.2)] 122)) 122 wr.heap.size 10 (fun j=>(gD e).getD j (.bool false)):=by
 have h:=aD.mk' wr 122 #[.int .i64 (vk e.1),.int .i64 (vi e.1),.int .u64 0,.string ByteArray.empty,.int .i64 (vr e.1),.int .i64 (vk e.2),.int .i64 (vi e.2),.int .u64 0,.string ByteArray.empty,.int .i64 (vr e.2)]
 refine aD.congr (show aD _ _ _ 10 _ from h) (fun j hj=>?_)
 have:j=0∨j=1∨j=2∨j=3∨j=4∨j=5∨j=6∨j=7∨j=8∨j=9:=by omega
 rcases this with rfl|rfl|rfl|rfl|rfl|rfl|rfl|rfl|rfl|rfl<;>rfl
def uo (h:Hp) (es:List En):Prop:=∀ e∈es,Rg h e.1/\Rg h e.2
theorem uo.of {h:Hp} (hz:h.ob 0=none) (hc:h.Closed) {n:Nat} {o:Ob} (ho:h.ob n=some o):uo h o.es:=fun e he=>
 ⟨Rg.of hz (fun r hr=>hc n o ho e he r (List.mem_append_left _ hr)),Rg.of hz (fun r hr=>hc n o ho e he r (List.mem_append_right _ hr))⟩
theorem Rg.mono {g:Hp} {v:HV} (r:Rg h v) (hl:g.objs.length=h.objs.length):Rg g v:=fun x hx=>by rw [hl];exact r x hx
theorem aO {α:Type} {l:List α} {x:α} (h:l[i]?=some x):l.take (i+1)=l.take i++[x]:=by
 rw [List.take_add_one,h]
 rfl
theorem nN {p:Hp × Bool} (h:p.1.JG e.1=true):Hp.Ea p e=p:=by unfold Hp.Ea;rw [h];rfl
theorem nJ {p:Hp × Bool} (h:p.1.JG e.2=false):Hp.Ea p e=p:=by unfold Hp.Ea;rw [h];simp
theorem nI {p:Hp × Bool} (h:p.1.JG e.1=false) (h':p.1.JG e.2=true):Hp.Ea p e=(p.1.Eo e.2,true):=by unfold Hp.Ea;rw [h,h'];rfl
theorem aN {α β:Type} (f:β->α->β) (b:β) (l:List α) (x:α):(l++[x]).foldl f b=f (l.foldl f b) x:=by simp
theorem l9 {L:SM} (a:JU base S h L w) (s:Sm h) (hz:h.ob 0=none) (hp:1<=h.objs.length) (n:Nat) (o:Ob) (ho:h.ob n=some o) (hrg:uo h o.es):
 Calls Tryz.prog 118 #[.pointer (some ⟨L.H,0,none⟩),.pointer (some ⟨L.ob n,0,none⟩)] w fun e w'=>e=.returned (.bool (h.spread o.es).2)/\∃ L',Lm L L'/\JU base S (h.spread o.es).1 L' w'/\Keeps w w' S:=by
 obtain ⟨A,cap,hev,hcap,hent⟩:=a.ents ho
 obtain ⟨r0,hr0⟩:=a.ob n o ho
 have c5:w.cell? ⟨L.ob n,5,none⟩=some (.slice A o.es.length cap):=by rw [<-hev];exact hr0.cell (j:=5) (by omega)
 have hl9:=s.len
 have he9:=s.es n o ho
 have HA:=ah a
 have HS:=ah s
 have HR:=ah hrg
 have HO:=ah ho
 have HE:=ah hev
 clear a s hrg ho hev hent hr0
 go_enter Tryz.func118,Tryz.ntmps118
 go_wp2
 go_loopw [5,13,7] (fun bv iv ev wr=>∃ (i:Nat) (b:Bool),i<=o.es.length/\iv=.int .i64 i/\bv=.bool b/\Hq (b=((o.es.take i).foldl Hp.Ea (h,false)).2/\∃ L',Lm L L'/\JU base S ((o.es.take i).foldl Hp.Ea (h,false)).1 L' wr/\Keeps w wr S)) (fun _ iv _ _=>o.es.length-aU iv)
 case atStart=>exact ⟨0,false,by omega,rfl,rfl,rfl,L,Lm.refl L,HA.o,Keeps.refl _ _⟩
 case round=>
  obtain ⟨i,b,hi9,rfl,rfl,HI⟩:=hrel
  by_cases hin:i<o.es.length
  ·obtain ⟨e,he⟩:∃ e,o.es[i]?=some e:=⟨_,List.getElem?_eq_getElem hin⟩
   have hts:=aO he
   obtain ⟨hbE,L1,hLm,hat,hkp⟩:=HI.out
   have hmk:=JM.Fa (o.es.take i) (h,false)
   have hnu:((o.es.take i).foldl Hp.Ea (h,false)).1.nu<=h.nu:=Nat.le_of_eq (Hp.EO h (o.es.take i))
   obtain ⟨q,hq⟩:∃ q,(o.es.take i).foldl Hp.Ea (h,false)=q:=⟨_,rfl⟩
   rw [hq] at hbE hat hmk hnu
   simp only at hmk
   obtain ⟨o1,ho1,hes1⟩:∃ o1,q.1.ob n=some o1/\o1.es=o.es:=by
    have:=hmk.cont n
    rw [HO.o] at this
    cases e9:q.1.ob n with
    |none=>rw [e9] at this;simp at this
    |some o1=>rw [e9] at this;simp [Ob.cont] at this;exact ⟨o1,rfl,this.2.1⟩
   obtain ⟨A1,cap1,hev1,hcap1,hent1⟩:=hat.ents ho1
   rw [hes1] at hev1 hent1
   have:A1=A/\cap1=cap:=by
    have h9:=hev1.symm.trans ((congrFun hLm.es n).trans HE.o)
    simp at h9
    exact h9
   obtain ⟨rfl,rfl⟩:=this
   obtain ⟨g,rfl,hglt,hcells⟩:=hent1 i e he
   have d0:=hcells 0 _ rfl
   have d1:=hcells 1 _ rfl
   have d2:=hcells 2 _ rfl
   have d3:=hcells 3 _ rfl
   have d4:=hcells 4 _ rfl
   have d5:=hcells 5 _ rfl
   have d6:=hcells 6 _ rfl
   have d7:=hcells 7 _ rfl
   have d8:=hcells 8 _ rfl
   have d9:=hcells 9 _ rfl
   simp only [Nat.add_zero] at d0
   have hrk:=HR.o e (List.mem_of_getElem? he)
   have HQ:=ah hq
   have HQM:=ah hmk
   have HTS:=ah hts
   have HL1:=ah hLm
   have HAT:=ah (hat.alloc (.cells #[.int .i64 (vk e.1),.int .i64 (vi e.1),.int .u64 0,.string ByteArray.empty,.int .i64 (vr e.1),.int .i64 (vk e.2),.int .i64 (vi e.2),.int .u64 0,.string ByteArray.empty,.int .i64 (vr e.2)] 122))
   have HKP:=ah (hkp.trans (Keeps.of (aJ wr (.cells #[.int .i64 (vk e.1),.int .i64 (vi e.1),.int .u64 0,.string ByteArray.empty,.int .i64 (vr e.1),.int .i64 (vk e.2),.int .i64 (vi e.2),.int .u64 0,.string ByteArray.empty,.int .i64 (vr e.2)] 122)) (Nat.le_refl _) S))
   have HRK:=ah (show Rg q.1 e.1/\Rg q.1 e.2 from ⟨hrk.1.mono hmk.len,hrk.2.mono hmk.len⟩)
   have HSQ:=ah (HS.o.JF hmk hnu)
   have HBE:=ah hbE
   have HOQ:=ah (show q.1.objs.length<=5001/\1<=q.1.objs.length/\q.1.ob 0=none from by rw [hmk.len];exact ⟨hl9,hp,hmk.zero hz⟩)
   have HH1:=ah hLm.H
   clear hq hmk hts hLm hat hkp hrk hbE ho1 hes1 hev1 hent1 hcells HI hnu he
   have HX:=ah (jR wr e)
   go_upto_region 5 with (fail)
   generalize wr.alloc (.cells #[.int .i64 (vk e.1),.int .i64 (vi e.1),.int .u64 0,.string ByteArray.empty,.int .i64 (vr e.1),.int .i64 (vk e.2),.int .i64 (vi e.2),.int .u64 0,.string ByteArray.empty,.int .i64 (vr e.2)] 122)=w3 at *
   generalize wr.heap.size=X at *
   have x0:w3.cell? ⟨X,0,none⟩=some (.int .i64 (vk e.1)):=HX.o.cell (j:=0) (by omega)
   have x1:w3.cell? ⟨X,1,none⟩=some (.int .i64 (vi e.1)):=HX.o.cell (j:=1) (by omega)
   have x2:w3.cell? ⟨X,2,none⟩=some (.int .u64 0):=HX.o.cell (j:=2) (by omega)
   have x3:w3.cell? ⟨X,3,none⟩=some (.string ByteArray.empty):=HX.o.cell (j:=3) (by omega)
   have x4:w3.cell? ⟨X,4,none⟩=some (.int .i64 (vr e.1)):=HX.o.cell (j:=4) (by omega)
   have hlt3:=HX.o.lt
   have HWK:=ah (dO HAT.o e.1 HRK.o.1 HOQ.o.1 HOQ.o.2.1)
   rw [HH1.o] at HWK
   have HF:Hq ((o.es.take (i+1)).foldl Hp.Ea (h,false)=Hp.Ea q e):=ah (by rw [HTS.o,aN,HQ.o])
   clear d0 d1 d2 d3 d4 d5 d6 d7 d8 d9
   cases hb1:q.1.JG e.1 with
   |true=>
    rw [hb1] at HWK
    have HB1:=ah hb1
    clear hb1
    go_wp2_with (first
     |(refine HWK.o.mono ?_
       rintro e9 w4 ⟨rfl,hb4⟩
       have HB4:=ah hb4
       clear hb4)
     |fail)
    go_roundw
    case rel=>
     refine ⟨i+1,b,by omega,by simp,rfl,?_⟩
     have hF:=HF.o
     rw [nN HB1.o] at hF
     exact ⟨by rw [hF];exact HBE.o,L1,HL1.o,by rw [hF];exact HAT.o.low HB4.o,HKP.o.trans (Keeps.of HB4.o (Nat.le_refl _) S)⟩
    case measure=>simp [aU];omega
   |false=>
    rw [hb1] at HWK
    have HB1:=ah hb1
    clear hb1
    have HWV:=ah (fun (w4:World) (hb4:Below w3.heap.size w3 w4)=>dO (HAT.o.low hb4) e.2 HRK.o.2 HOQ.o.1 HOQ.o.2.1)
    rw [HH1.o] at HWV
    cases hb2:q.1.JG e.2 with
    |false=>
     rw [hb2] at HWV
     have HB2:=ah hb2
     clear hb2
     go_wp2_with (first
      |(have _z:=HB5;fail)
      |(have _z:=HB4
        refine (HWV.o w4 HB4.o).mono ?_
        clear _z
        rintro e9 w5 ⟨rfl,hb5⟩
        have HB5:=ah hb5
        clear hb5)
      |(refine HWK.o.mono ?_
        rintro e9 w4 ⟨rfl,hb4⟩
        have x5:w4.cell? ⟨X,5,none⟩=some (.int .i64 (vk e.2)):=(hb4.cell (p:=⟨X,5,none⟩) hlt3).trans (HX.o.cell (j:=5) (by omega))
        have x6:w4.cell? ⟨X,6,none⟩=some (.int .i64 (vi e.2)):=(hb4.cell (p:=⟨X,6,none⟩) hlt3).trans (HX.o.cell (j:=6) (by omega))
        have x7:w4.cell? ⟨X,7,none⟩=some (.int .u64 0):=(hb4.cell (p:=⟨X,7,none⟩) hlt3).trans (HX.o.cell (j:=7) (by omega))
        have x8:w4.cell? ⟨X,8,none⟩=some (.string ByteArray.empty):=(hb4.cell (p:=⟨X,8,none⟩) hlt3).trans (HX.o.cell (j:=8) (by omega))
        have x9:w4.cell? ⟨X,9,none⟩=some (.int .i64 (vr e.2)):=(hb4.cell (p:=⟨X,9,none⟩) hlt3).trans (HX.o.cell (j:=9) (by omega))
        have HB4:=ah hb4
        clear hb4)
      |fail)
     go_roundw
     case rel=>
      refine ⟨i+1,b,by omega,by simp,rfl,?_⟩
      have hF:=HF.o
      rw [nJ HB2.o] at hF
      have hb:=HB4.o.trans (HB5.o.mono HB4.o.size)
      exact ⟨by rw [hF];exact HBE.o,L1,HL1.o,by rw [hF];exact HAT.o.low hb,HKP.o.trans (Keeps.of hb (Nat.le_refl _) S)⟩
     case measure=>simp [aU];omega
    |true=>
     rw [hb2] at HWV
     have HB2:=ah hb2
     clear hb2
     have HMV:=ah (fun (w5:World) (hb5:Below w3.heap.size w3 w5)=>dD (HAT.o.low hb5) HSQ.o HOQ.o.2.2 e.2 (HRK.o.2.vr HOQ.o.2.1))
     rw [HH1.o] at HMV
     go_wp2_with (first
      |(have _z:=HB5
        refine (HMV.o _ (HB4.o.trans (HB5.o.mono HB4.o.size))).mono ?_
        clear _z
        rintro e9 w6 ⟨rfl,L6,hl6,ha6,hk6⟩
        have HL6:=ah hl6
        have HA6:=ah ha6
        have HK6:=ah hk6
        clear hl6 ha6 hk6)
      |(have _z:=HB4
        refine (HWV.o w4 HB4.o).mono ?_
        clear _z
        rintro e9 w5 ⟨rfl,hb5⟩
        have y5:=(hb5.cell (p:=⟨X,5,none⟩) hlt4).trans x5
        have y6:=(hb5.cell (p:=⟨X,6,none⟩) hlt4).trans x6
        have y7:=(hb5.cell (p:=⟨X,7,none⟩) hlt4).trans x7
        have y8:=(hb5.cell (p:=⟨X,8,none⟩) hlt4).trans x8
        have y9:=(hb5.cell (p:=⟨X,9,none⟩) hlt4).trans x9
        have HB5:=ah hb5
        clear hb5)
      |(refine HWK.o.mono ?_
        rintro e9 w4 ⟨rfl,hb4⟩
        have hlt4:=Nat.lt_of_lt_of_le hlt3 hb4.size
        have x5:w4.cell? ⟨X,5,none⟩=some (.int .i64 (vk e.2)):=(hb4.cell (p:=⟨X,5,none⟩) hlt3).trans (HX.o.cell (j:=5) (by omega))
        have x6:w4.cell? ⟨X,6,none⟩=some (.int .i64 (vi e.2)):=(hb4.cell (p:=⟨X,6,none⟩) hlt3).trans (HX.o.cell (j:=6) (by omega))
        have x7:w4.cell? ⟨X,7,none⟩=some (.int .u64 0):=(hb4.cell (p:=⟨X,7,none⟩) hlt3).trans (HX.o.cell (j:=7) (by omega))
        have x8:w4.cell? ⟨X,8,none⟩=some (.string ByteArray.empty):=(hb4.cell (p:=⟨X,8,none⟩) hlt3).trans (HX.o.cell (j:=8) (by omega))
        have x9:w4.cell? ⟨X,9,none⟩=some (.int .i64 (vr e.2)):=(hb4.cell (p:=⟨X,9,none⟩) hlt3).trans (HX.o.cell (j:=9) (by omega))
        have HB4:=ah hb4
        clear hb4)
      |fail)
     go_roundw
     case rel=>
      refine ⟨i+1,true,by omega,by simp,rfl,?_⟩
      have hF:=HF.o
      rw [nI HB1.o HB2.o] at hF
      have hb:=HB4.o.trans (HB5.o.mono HB4.o.size)
      exact ⟨by rw [hF],L6,HL1.o.trans HL6.o,by rw [hF];exact HA6.o,(HKP.o.trans (Keeps.of hb (Nat.le_refl _) S)).trans HK6.o⟩
     case measure=>simp [aU];omega
  ·obtain rfl:i=o.es.length:=by omega
   have HX:=HI.out
   rw [List.take_length] at HX
   obtain ⟨hbE,L1,hLm,hat,hkp⟩:=HX
   have HT:=ah (And.intro hbE (And.intro hLm (And.intro hat hkp)))
   clear hbE hLm hat hkp HI
   go_wp2
   go_ret
   exact ⟨by rw [HT.o.1];rfl,L1,HT.o.2.1,HT.o.2.2.1,HT.o.2.2.2⟩
end
section
variable {S S':Nat->Prop} {base n:Nat} {e:En} {o:Ob} {w:World}
theorem dB (v:HV):(vk v !=0)=v.isSome:=by
 cases v with
 |none=>rfl
 |some x=>cases x<;>rfl
theorem Sm.Jb {h:Hp} (s:Sm h) (n:Nat) (hn:h.nu+h.again.length+1<=20000):Sm { h with D8:=h.D8++[n] }:=by
 refine ⟨s.len,?_,s.fp,s.fr,s.JQ,s.cr,s.lim,s.rt,s.es⟩
 have e:Hp.nu { h with D8:=h.D8++[n] }=h.nu+1:=by
  show h.mu+(h.D8++[n]).length+h.weak.length=h.mu+h.D8.length+h.weak.length+1
  simp
  omega
 rw [e]
 show h.nu+1+h.again.length<=20000
 omega
theorem JM.Jg {h g:Hp} (x:JM h g) (e:h.ob n=some o):∃ o',g.ob n=some o'/\o'.mode=o.mode/\o'.es=o.es/\o'.fin=o.fin:=by
 have:=x.cont n
 rw [e] at this
 cases e9:g.ob n with
 |none=>rw [e9] at this;simp at this
 |some o1=>rw [e9] at this;simp [Ob.cont] at this;exact ⟨o1,rfl,this.1,this.2.1,this.2.2⟩
theorem uw {h:Hp} (hs:e.2.isSome=false):h.key1 e=h:=by unfold Hp.key1;rw [hs];rfl
theorem pW {h:Hp} (hs:e.2.isSome=true):h.key1 e=h.Eo e.1:=by unfold Hp.key1;rw [if_pos hs]
theorem zV {h:Hp} (hm:o.mode=0):h.Ey n o=o.es.foldl Hp.Em h:=by unfold Hp.Ey;rw [if_pos hm]
theorem z_ {h:Hp} (hm:o.mode=1):h.Ey n o=({ h with D8:=h.D8++[n] }.spread o.es).1:=by unfold Hp.Ey;rw [if_neg (by omega),if_pos hm]
theorem Ah {h:Hp} (hm:o.mode=2):h.Ey n o={ o.es.foldl Hp.key1 h with weak:=(o.es.foldl Hp.key1 h).weak++[n] }:=by unfold Hp.Ey;rw [if_neg (by omega),if_neg (by omega),if_pos hm]
theorem AB {h:Hp} (hm:o.mode=3):h.Ey n o={ h with weak:=h.weak++[n] }:=by unfold Hp.Ey;rw [if_neg (by omega),if_neg (by omega),if_neg (by omega)]
theorem JU.mono {h:Hp} {L:SM} (a:JU base S h L w) (hs:∀ b,S b->S' b):JU base S' h L w:=
 ⟨a.hp,a.oo,a.ob,a.dd,a.en,a.li,a.ro,a.ij,a.ei,a.lj,a.bH,a.bo,a.bs,hs _ a.sH,fun n h=>hs _ (a.so n h),fun g h=>hs _ (a.sO g h),fun n o g h h'=>hs _ (a.se n o g h h'),fun k g h h'=>hs _ (a.sl k g h h'),fun g h=>hs _ (a.sr g h),fun b h=>hs _ (a.up b h)⟩
theorem JU.hole {h:Hp} {L:SM} (a:JU base S h L w) (x:Obj):JU base (fun b=>S b/\b≠w.heap.size) h L (w.alloc x):=by
 have b:=a.alloc x
 have hob:∀ n,n<h.objs.length->L.ob n<w.heap.size:=by
  intro n hn
  cases e:h.ob n with
  |none=>obtain ⟨r,c,_,hr⟩:=a.dd n hn e;exact hr.lt
  |some o=>obtain ⟨r,hr⟩:=a.ob n o e;exact hr.lt
 refine ⟨b.hp,b.oo,b.ob,b.dd,b.en,b.li,b.ro,b.ij,b.ei,b.lj,b.bH,b.bo,b.bs,⟨a.sH,?_⟩,fun n hn=>⟨a.so n hn,?_⟩,fun g hg=>⟨a.sO g hg,?_⟩,fun n o g hn hg=>⟨a.se n o g hn hg,?_⟩,fun k g hk hg=>⟨a.sl k g hk hg,?_⟩,fun g hg=>⟨a.sr g hg,?_⟩,fun c hc=>⟨b.up c hc,?_⟩⟩
 ·have:=a.hp.lt;omega
 ·have:=hob n hn;omega
 ·have:=(au a.oo hg).lt;omega
 ·have:=(au (a.en n o hn) hg).lt;omega
 ·have:=(au (a.li k hk) hg).lt;omega
 ·have:=(au a.ro hg).lt;omega
 ·simp at hc;omega
theorem bQ {α:Type} (f:Hp->α->Hp) (hf:∀ h x,(f h x).nu=h.nu):∀ (l:List α) (h:Hp),(l.foldl f h).nu=h.nu
 | [],h=>rfl
 |a::l,h=>(bQ f hf l (f h a)).trans (hf h a)
theorem Hp.Hl (h:Hp) (e:En):(h.key1 e).nu=h.nu:=by
 unfold Hp.nu
 rw [h.Gu e,(h.EN e).1,(h.EN e).2]
theorem Hp.Hr (h:Hp) (e:En):(h.Em e).nu=h.nu:=by
 unfold Hp.nu
 rw [h.GH e,(h.E8 e).1,(h.E8 e).2]
theorem Hp.H_ (h:Hp) (v:HV):(h.Eo v).nu=h.nu:=by
 unfold Hp.nu
 rw [h.FH v,(h.EF v).1,(h.EF v).2]
theorem qK {h:Hp} {L:SM} (a:JU base S h L w) (s:Sm h) (hn9:h.nu+h.again.length+1<=20000) (hz:h.ob 0=none) (hp:1<=h.objs.length) (n:Nat) (o:Ob) (ho:h.ob n=some o) (hrg:uo h o.es) (hm:o.mode=0):
 Calls Tryz.prog 97 #[.pointer (some ⟨L.H,0,none⟩),.int .i64 n,.pointer (some ⟨L.ob n,0,none⟩)] w fun e w'=>e=.returned (.tuple #[])/\∃ L',Lm L L'/\JU base S (h.Ey n o) L' w'/\Keeps w w' S:=by
 obtain ⟨A,cap,hev,hcap,hent⟩:=a.ents ho
 obtain ⟨r0,hr0⟩:=a.ob n o ho
 have c4:w.cell? ⟨L.ob n,4,none⟩=some (.int .i64 o.mode):=hr0.cell (j:=4) (by omega)
 have c5:w.cell? ⟨L.ob n,5,none⟩=some (.slice A o.es.length cap):=by rw [<-hev];exact hr0.cell (j:=5) (by omega)
 rw [hm] at c4
 have hl9:=s.len
 have he9:=s.es n o ho
 have HA:=ah a
 have HS:=ah s
 have HR:=ah hrg
 have HO:=ah ho
 have HE:=ah hev
 have HMo:=ah hm
 clear a s hrg ho hev hent hr0 hm
 go_enter Tryz.func97,Tryz.ntmps97
 go_wp2
 go_loopw [21,7] (fun iv ev wr=>∃ i:Nat,i<=o.es.length/\iv=.int .i64 i/\Hq (∃ L',Lm L L'/\JU base S ((o.es.take i).foldl Hp.Em h) L' wr/\Keeps w wr S)) (fun iv _ _=>o.es.length-aU iv)
 case atStart=>exact ⟨0,by omega,rfl,L,Lm.refl L,HA.o,Keeps.refl _ _⟩
 case round=>
  obtain ⟨i,hi9,rfl,HI⟩:=hrel
  by_cases hin:i<o.es.length
  ·obtain ⟨e,he⟩:∃ e,o.es[i]?=some e:=⟨_,List.getElem?_eq_getElem hin⟩
   obtain ⟨L1,hLm,hat,hkp⟩:=HI.out
   have hmk:=JM.fold Hp.Em JM.Em (o.es.take i) h
   have hnu:((o.es.take i).foldl Hp.Em h).nu=h.nu:=bQ Hp.Em Hp.Hr (o.es.take i) h
   have HF:Hq ((o.es.take (i+1)).foldl Hp.Em h=Hp.Em ((o.es.take i).foldl Hp.Em h) e):=ah (by rw [aO he,aN])
   generalize (o.es.take i).foldl Hp.Em h=q at *
   obtain ⟨o1,ho1,_,hes1,_⟩:=hmk.Jg HO.o
   obtain ⟨A1,cap1,hev1,hcap1,hent1⟩:=hat.ents ho1
   rw [hes1] at hev1 hent1
   have:A1=A/\cap1=cap:=by
    have h9:=hev1.symm.trans ((congrFun hLm.es n).trans HE.o)
    simp at h9
    exact h9
   obtain ⟨rfl,rfl⟩:=this
   obtain ⟨g,rfl,hglt,hcells⟩:=hent1 i e he
   have d0:=hcells 0 _ rfl
   have d1:=hcells 1 _ rfl
   have d2:=hcells 2 _ rfl
   have d3:=hcells 3 _ rfl
   have d4:=hcells 4 _ rfl
   have d5:=hcells 5 _ rfl
   have d6:=hcells 6 _ rfl
   have d7:=hcells 7 _ rfl
   have d8:=hcells 8 _ rfl
   have d9:=hcells 9 _ rfl
   simp only [Nat.add_zero] at d0
   have hrk:=HR.o e (List.mem_of_getElem? he)
   have HL1:=ah hLm
   have HAT:=ah (hat.hole (.cells #[.int .i64 (vk e.1),.int .i64 (vi e.1),.int .u64 0,.string ByteArray.empty,.int .i64 (vr e.1),.int .i64 (vk e.2),.int .i64 (vi e.2),.int .u64 0,.string ByteArray.empty,.int .i64 (vr e.2)] 122))
   have HUP:=ah hat.up
   have HKP:=ah (hkp.trans (Keeps.of (aJ wr (.cells #[.int .i64 (vk e.1),.int .i64 (vi e.1),.int .u64 0,.string ByteArray.empty,.int .i64 (vr e.1),.int .i64 (vk e.2),.int .i64 (vi e.2),.int .u64 0,.string ByteArray.empty,.int .i64 (vr e.2)] 122)) (Nat.le_refl _) S))
   have HRK:=ah (show Rg q e.1/\Rg q e.2 from ⟨hrk.1.mono hmk.len,hrk.2.mono hmk.len⟩)
   have HSQ:=ah (HS.o.JF hmk (Nat.le_of_eq hnu))
   have HOQ:=ah (show q.objs.length<=5001/\1<=q.objs.length/\q.ob 0=none from by rw [hmk.len];exact ⟨hl9,hp,hmk.zero hz⟩)
   have HH1:=ah hLm.H
   have HX:=ah (jR wr e)
   clear hmk hLm hat hkp hrk ho1 hes1 hev1 hent1 hcells HI hnu he
   go_upto_region 5 with (fail)
   generalize wr.alloc (.cells #[.int .i64 (vk e.1),.int .i64 (vi e.1),.int .u64 0,.string ByteArray.empty,.int .i64 (vr e.1),.int .i64 (vk e.2),.int .i64 (vi e.2),.int .u64 0,.string ByteArray.empty,.int .i64 (vr e.2)] 122)=w3 at *
   generalize wr.heap.size=X at *
   have hlt3:=HX.o.lt
   have x0:w3.cell? ⟨X,0,none⟩=some (.int .i64 (vk e.1)):=HX.o.cell (j:=0) (by omega)
   have x1:w3.cell? ⟨X,1,none⟩=some (.int .i64 (vi e.1)):=HX.o.cell (j:=1) (by omega)
   have x2:w3.cell? ⟨X,2,none⟩=some (.int .u64 0):=HX.o.cell (j:=2) (by omega)
   have x3:w3.cell? ⟨X,3,none⟩=some (.string ByteArray.empty):=HX.o.cell (j:=3) (by omega)
   have x4:w3.cell? ⟨X,4,none⟩=some (.int .i64 (vr e.1)):=HX.o.cell (j:=4) (by omega)
   have x5:w3.cell? ⟨X,5,none⟩=some (.int .i64 (vk e.2)):=HX.o.cell (j:=5) (by omega)
   have x6:w3.cell? ⟨X,6,none⟩=some (.int .i64 (vi e.2)):=HX.o.cell (j:=6) (by omega)
   have x7:w3.cell? ⟨X,7,none⟩=some (.int .u64 0):=HX.o.cell (j:=7) (by omega)
   have x8:w3.cell? ⟨X,8,none⟩=some (.string ByteArray.empty):=HX.o.cell (j:=8) (by omega)
   have x9:w3.cell? ⟨X,9,none⟩=some (.int .i64 (vr e.2)):=HX.o.cell (j:=9) (by omega)
   clear d0 d1 d2 d3 d4 d5 d6 d7 d8 d9
   cases hs:e.2.isSome with
   |false=>
    have hvk:(vk e.2 !=0)=false:=by rw [dB,hs]
    have HV:=ah (dD HAT.o HSQ.o HOQ.o.2.2 e.2 (HRK.o.2.vr HOQ.o.2.1))
    rw [HH1.o] at HV
    have HSO:=ah hs
    clear hs
    go_wp2_with (first
     |(refine HV.out.mono ?_
       rintro e9 w4 ⟨rfl,L4,hl4,ha4,hk4⟩
       have H4:=ah (And.intro hl4 (And.intro ha4 hk4))
       clear hl4 ha4 hk4)
     |fail)
    go_roundw
    case rel=>
     refine ⟨i+1,by omega,by simp,?_⟩
     have hF:=HF.o
     unfold Hp.Em at hF
     rw [uw HSO.o] at hF
     exact ⟨L4,HL1.o.trans H4.o.1,by show JU base S ((o.es.take (i+1)).foldl Hp.Em h) L4 w4;rw [show (o.es.take (i+1)).foldl Hp.Em h=q.Eo e.2 from hF];exact H4.o.2.1.mono (fun b z=>z.1),HKP.o.trans (H4.o.2.2.mono (fun b z=>z.1))⟩
    case measure=>simp [aU];omega
   |true=>
    have hvk:(vk e.2 !=0)=true:=by rw [dB,hs]
    have HK:=ah (dD HAT.o HSQ.o HOQ.o.2.2 e.1 (HRK.o.1.vr HOQ.o.2.1))
    rw [HH1.o] at HK
    have HV:=ah (fun (L4:SM) (w4:World) (hh:L4.H=L.H) (a4:JU base (fun b=>S b/\b≠X) (q.Eo e.1) L4 w4)=>(by
     have h9:=dD a4 (HSQ.o.JF (JM.Eo q e.1) (Nat.le_of_eq (q.H_ e.1))) ((JM.Eo q e.1).zero HOQ.o.2.2) e.2 (by rw [(JM.Eo q e.1).len];exact HRK.o.2.vr HOQ.o.2.1)
     rw [hh] at h9
     exact h9))
    have HSO:=ah hs
    clear hs
    go_wp2_with (first
     |(have _z:=H4
       refine (HV.out L4 w4 (H4.o.1.H.trans HH1.o) H4.o.2.1).mono ?_
       clear _z
       rintro e9 w5 ⟨rfl,L5,hl5,ha5,hk5⟩
       have H5:=ah (And.intro hl5 (And.intro ha5 hk5))
       clear hl5 ha5 hk5)
     |(refine HK.o.mono ?_
       rintro e9 w4 ⟨rfl,L4,hl4,ha4,hk4⟩
       have hx4:=HX.o.keep hk4 (fun z=>z.2 rfl)
       have y5:w4.cell? ⟨X,5,none⟩=some (.int .i64 (vk e.2)):=hx4.cell (j:=5) (by omega)
       have y6:w4.cell? ⟨X,6,none⟩=some (.int .i64 (vi e.2)):=hx4.cell (j:=6) (by omega)
       have y7:w4.cell? ⟨X,7,none⟩=some (.int .u64 0):=hx4.cell (j:=7) (by omega)
       have y8:w4.cell? ⟨X,8,none⟩=some (.string ByteArray.empty):=hx4.cell (j:=8) (by omega)
       have y9:w4.cell? ⟨X,9,none⟩=some (.int .i64 (vr e.2)):=hx4.cell (j:=9) (by omega)
       have H4:=ah (And.intro hl4 (And.intro ha4 hk4))
       clear hl4 ha4 hk4 hx4)
     |fail)
    go_roundw
    case rel=>
     refine ⟨i+1,by omega,by simp,?_⟩
     have hF:=HF.o
     unfold Hp.Em at hF
     rw [pW HSO.o] at hF
     exact ⟨L5,HL1.o.trans (H4.o.1.trans H5.o.1),by show JU base S ((o.es.take (i+1)).foldl Hp.Em h) L5 w5;rw [show (o.es.take (i+1)).foldl Hp.Em h=(q.Eo e.1).Eo e.2 from hF];exact H5.o.2.1.mono (fun b z=>z.1),(HKP.o.trans (H4.o.2.2.mono (fun b z=>z.1))).trans (H5.o.2.2.mono (fun b z=>z.1))⟩
    case measure=>simp [aU];omega
  ·obtain rfl:i=o.es.length:=by omega
   have HT:=HI.out
   rw [List.take_length] at HT
   obtain ⟨L1,hLm,hat,hkp⟩:=HT
   have H9:=ah (And.intro hLm (And.intro hat hkp))
   clear hLm hat hkp HI
   go_wp2
   go_end0
   exact ⟨rfl,L1,H9.o.1,by rw [zV HMo.o];exact H9.o.2.1,H9.o.2.2⟩
end
end Go.Proofs.YtedpifhlffcmkaaGreatDoor
