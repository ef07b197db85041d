import Derived.Test.YtlgodacccilabaaGreatDoorJPF
import Derived.Test.YtlgodacccilabaaGreatDoorJPB
import Derived.Test.YtlgodacccilabaaGreatDoorPC
namespace Go.Proofs.YtlgodacccilabaaGreatDoor
open Go Go.RowKit
set_option linter.unusedVariables false
theorem append_where {P:Program} (w:World) (base:Nat) (t ty e:TypeId) (i:TypeInfo) (z:Value) (size bytes:Nat) (ht:P.underlying t=some (.slice e)) (hi:P.info? e=some i) (hz:i.zero=some z)
 (hsize:i.size=size) (hby:i.bytes=bytes) (hzs:z.cells.size=size) (hsz:0<size)
 (v:Value) (n:Nat) (xs:List Value) (hown:w.ownsRow base e size v n xs)
 (a:Addr) (m c:Nat) (news:List Value) (hl:news.length=m*size) (hnews:∀ j u,news[j]?=some u→w.cell? (a.add j)=some u) (h1:∀ u∈news,u.oneCell'=true)
 (h63:n+m≤maxLen) (hbytes:(n+m)*bytes≤140737488355328) (hm:0<m) {v':Value} {w':World} (hr:(Builtin.append_ #[t,t] ty #[v,.slice (some a) m c]).run P w=.ok v' w'):
 ∀ g,v'.ownBlock=some g→v.ownBlock=some g∨w.heap.size≤g:=by
 subst hsize
 subst hby
 have hsmall:n+m≤9223372036854775807:=by simp only [maxLen] at h63;omega
 intro g hg
 rcases hown.2 with ⟨rfl,rfl⟩|⟨g',cap,cur,rfl,hbg,hgg,hnc,hcm,hcs,htake⟩
 ·have hr2:=run_append_nil (P:=P) w t ty e i z ht hi hz a m c news hl hnews (by omega) (by omega) (by have hb:=hbytes;simp only [Nat.zero_add] at hb;omega)
  rw [hr2] at hr
  simp only [Result.ok.injEq] at hr
  obtain ⟨rfl,-⟩:=hr
  right
  simp [Value.ownBlock] at hg
  omega
 ·by_cases hroom:n+m≤cap
  ·have hfit:n*i.size+news.length≤cur.size:=by rw [hl,hcs,←Nat.add_mul];exact Nat.mul_le_mul_right _ hroom
   have hr2:=run_append_room (P:=P) w t ty e i ht hi g' n cap cur hgg a m c news hl hnews h1 hroom hfit
   rw [hr2] at hr
   simp only [Result.ok.injEq] at hr
   obtain ⟨rfl,-⟩:=hr
   left
   simpa [Value.ownBlock] using hg
  ·have holds:∀ j u,xs[j]?=some u→w.cell? ((⟨g',0,none⟩:Addr).add j)=some u:=hown.cells (g:=g') rfl
   have hr2:=run_append_grow (P:=P) w t ty e i z ht hi hz ⟨g',0,none⟩ n cap xs hown.1 holds a m c news hl hnews (by omega) (by omega) (growslice_fits (by omega) hbytes)
   rw [hr2] at hr
   simp only [Result.ok.injEq] at hr
   obtain ⟨rfl,-⟩:=hr
   right
   simp [Value.ownBlock] at hg
   omega
theorem wpList_append_at {P:Program} (w:World) {ops:Array Oper} {rest:List Oper} {o:Oper} {a:Act} {Q:Exit→Act→World→Prop} (hgd:o.guard=none) (s x:Operand) (t:TypeId)
 (ho:o.op=.call { callee:=.builtin .append,args:=#[s,x],argTypes:=#[t,t] })
 (base:Nat) (e:TypeId) (i:TypeInfo) (z:Value) (size bytes:Nat) (ht:P.underlying t=some (.slice e)) (hi:P.info? e=some i) (hz:i.zero=some z)
 (hsize:i.size=size) (hby:i.bytes=bytes) (hzs:z.cells.size=size) (hsz:0<size)
 (v:Value) (n:Nat) (xs:List Value) (hs:a.eval s=v) (hown:w.ownsRow base e size v n xs)
 (ad:Addr) (m c:Nat) (news:List Value) (hx:a.eval x=.slice (some ad) m c) (hl:news.length=m*size) (hnews:∀ j u,news[j]?=some u→w.cell? (ad.add j)=some u) (h1:∀ u∈news,u.oneCell'=true)
 (h63:n+m≤maxLen) (hbytes:(n+m)*bytes≤140737488355328) (hbase:base≤w.heap.size) (hm:0<m)
 (h:∀ v' w',w'.ownsRow base e size v' (n+m) (xs++news)→w.grownBy w' v.ownBlock→(∀ g,v'.ownBlock=some g→v.ownBlock=some g∨w.heap.size≤g)→wpList P ops Q rest (a.put o.dst v') w'):wpList P ops Q (o::rest) a w:=
 wpList_plain hgd fun _ hK=>by
  obtain ⟨v',w',hr,h2,h3,h4⟩:=run_append_own (P:=P) w base t o.type e i z size bytes ht hi hz hsize hby hzs hsz v n xs hown ad m c news hl hnews h1 h63 hbytes hbase
  have h5:=append_where w base t o.type e i z size bytes ht hi hz hsize hby hzs hsz v n xs hown ad m c news hl hnews h1 h63 hbytes hm hr
  unfold Oper.wp execOp
  simp only [ho,resolve,invoke,builtin,Sem.run_bind,Sem.run_pure,Result.andThen_ok,List.map_toArray,List.map_cons,List.map_nil,hs,hx,hr]
  exact hK _ _ (h v' w' h2 h3 h5)
theorem app_at {wr:World} {ops:Array Oper} {rest:List Oper} {o:Oper} {a:Act} {Q:Exit→Act→World→Prop} (hgd:o.guard=none) (s x:Operand) (TS T size bytes:Nat) (z:Value)
 (ho:o.op=.call { callee:=.builtin .append,args:=#[s,x],argTypes:=#[TS,TS] }) (hU:Tryz.prog.underlying TS=some (.slice T)) (hI:(Tryz.prog.info? T).map (fun i=>(i.zero,i.size,i.bytes))=some (some z,size,bytes)) (hz:z.cells.size=size) (hsz:0<size)
 (base:Nat) (v:Value) (n:Nat) (xs cs:List Value) (hown:wr.ownsRow base T size v n xs) (hs:a.eval s=v) (hx:a.eval x=.slice (some ⟨wr.heap.size,0,none⟩) 1 1) (hcs:cs.length=size) (h1:∀ u∈cs,u.oneCell'=true)
 (hlen:(n+1)*bytes≤140737488355328) (hb0:0<bytes) (hbase:base≤wr.heap.size)
 (h:∀ v' w',w'.ownsRow base T size v' (n+1) (xs++cs)→(∀ B w0,Below B w0 wr→B≤base→Below B w0 w')→(∀ gx,gx<wr.heap.size→v.ownBlock≠some gx→w'.heap[gx]?=wr.heap[gx]?)→(∀ gx,gx<wr.heap.size→v.ownBlock≠some gx→v'.ownBlock≠some gx)→wpList Tryz.prog ops Q rest (a.put o.dst v') w'):
 wpList Tryz.prog ops Q (o::rest) a (wr.alloc (.cells cs.toArray T)):=by
 obtain ⟨i0,hi,hz0,hz1,hz2⟩:=info_parts hI
 have hn:n+1≤140737488355328:=Nat.le_trans (Nat.le_mul_of_pos_right _ hb0) hlen
 refine wpList_append_at _ hgd s x TS ho base T i0 z size bytes hU hi hz0 hz1 hz2 hz hsz v n xs hs (hown.alloc _) ⟨wr.heap.size,0,none⟩ 1 1 cs hx (by omega)
  (fun j u hj=>?_) h1 (by unfold maxLen;omega) hlen (by simp;omega) (by omega) ?_
 ·rw [add_none',Nat.zero_add]
  obtain ⟨hl,rfl⟩:=List.getElem?_eq_some_iff.1 hj
  have:=(RowF.mk' wr T cs.toArray).cell (j:=j) (by simpa using hl)
  rw [this]
  simp [hl]
 ·intro v' w' h1 h2 h3
  refine h v' w' h1 (fun B w0 hb hB=>(hb.alloc (by omega) _).grown h2 (by simp;omega) (fun q hq=>?_))
   (fun gx hgx hne=>(h2.block gx (by simp;omega) (fun e=>hne e.symm)).trans ((b_1 wr _).block gx hgx)) (fun gx hgx hne e=>?_)
  ·have:=(hown.lt q hq).1
   omega
  ·rcases h3 gx e with x|x
   ·exact hne x
   ·simp at x;omega
end Go.Proofs.YtlgodacccilabaaGreatDoor
namespace Go.Proofs.YtlgodacccilabaaGreatDoor
open Go Go.RowKit
set_option linter.unusedVariables false
inductive Pc where
 |b (x:UInt8)
 |s (n:Nat)
def nmd (caps c:Nat):Option Nat:=if c=49∧caps=0 then some 0 else if 48≤c∧c-48≤min caps 9 then some (c-48) else none
theorem nmd_lt {caps c n:Nat} (h:nmd caps c=some n):n<10∧n≤caps:=by
 unfold nmd at h
 split at h
 ·cases h;omega
 ·split at h
  ·cases h;omega
  ·cases h
def rdRp (t:ByteArray) (caps:Nat):Nat→Nat→Option (List Pc)
 |0,_=>some []
 |f+1,k=>
  if h:k<t.size then
   if t[k].toNat=37 then
    if h2:k+1<t.size then
     if t[k+1].toNat=37 then (rdRp t caps f (k+2)).map (Pc.b 37::·)
     else match nmd caps t[k+1].toNat with
      |none=>none
      |some n=>(rdRp t caps f (k+2)).map (Pc.s n::·)
    else none
   else (rdRp t caps f (k+1)).map (Pc.b t[k]::·)
  else some []
theorem rdRp_end {t:ByteArray} {caps f k:Nat} (h:¬ k<t.size):rdRp t caps f k=some []:=by
 cases f with
 |zero=>rfl
 |succ f=>rw [rdRp,dif_neg h]
theorem hb_nat {t:ByteArray} {k:Nat} (h:k<t.size):hb t k=((t[k].toNat:Nat):Int):=hb_in h
theorem rdRp_byte {t:ByteArray} {caps f k:Nat} (h:k<t.size) (h1:hb t k≠37):rdRp t caps (f+1) k=(rdRp t caps f (k+1)).map (Pc.b t[k]::·):=by
 rw [hb_nat h] at h1
 rw [rdRp,dif_pos h,if_neg (by omega)]
theorem rdRp_cut {t:ByteArray} {caps f k:Nat} (h:k<t.size) (h1:hb t k=37) (h2:¬ k+1<t.size):rdRp t caps (f+1) k=none:=by
 rw [hb_nat h] at h1
 rw [rdRp,dif_pos h,if_pos (by omega),dif_neg h2]
theorem rdRp_pct {t:ByteArray} {caps f k:Nat} (h:k<t.size) (h1:hb t k=37) (h2:k+1<t.size) (h3:hb t (k+1)=37):rdRp t caps (f+1) k=(rdRp t caps f (k+2)).map (Pc.b 37::·):=by
 rw [hb_nat h] at h1
 rw [hb_nat h2] at h3
 rw [rdRp,dif_pos h,if_pos (by omega),dif_pos h2,if_pos (by omega)]
theorem rdRp_bad {t:ByteArray} {caps f k:Nat} (h:k<t.size) (h1:hb t k=37) (h2:k+1<t.size) (h3:hb t (k+1)≠37) (h4:nmd caps (hb t (k+1)).toNat=none):rdRp t caps (f+1) k=none:=by
 rw [hb_nat h] at h1
 rw [hb_nat h2] at h3 h4
 rw [rdRp,dif_pos h,if_pos (by omega),dif_pos h2,if_neg (by omega)]
 simp only [Int.toNat_natCast] at h4
 rw [h4]
theorem rdRp_slot {t:ByteArray} {caps f k n:Nat} (h:k<t.size) (h1:hb t k=37) (h2:k+1<t.size) (h3:hb t (k+1)≠37) (h4:nmd caps (hb t (k+1)).toNat=some n):rdRp t caps (f+1) k=(rdRp t caps f (k+2)).map (Pc.s n::·):=by
 rw [hb_nat h] at h1
 rw [hb_nat h2] at h3 h4
 rw [rdRp,dif_pos h,if_pos (by omega),dif_pos h2,if_neg (by omega)]
 simp only [Int.toNat_natCast] at h4
 rw [h4]
theorem rdRp_len {t:ByteArray} {caps:Nat}:∀ {f k:Nat} {ps:List Pc},rdRp t caps f k=some ps→ps.length+k≤max t.size k
 |0,k,ps,h=>by simp [rdRp] at h;subst h;simp;omega
 |f+1,k,ps,h=>by
  rw [rdRp] at h
  split at h
  ·split at h
   ·split at h
    ·split at h
     ·obtain ⟨r,hr,rfl⟩:=Option.map_eq_some_iff.1 h
      have:=rdRp_len hr
      simp only [List.length_cons];omega
     ·split at h
      ·cases h
      ·rename_i m hm
       obtain ⟨r,hr,rfl⟩:=Option.map_eq_some_iff.1 h
       have:=rdRp_len hr
       simp only [List.length_cons];omega
    ·cases h
   ·obtain ⟨r,hr,rfl⟩:=Option.map_eq_some_iff.1 h
    have:=rdRp_len hr
    simp only [List.length_cons];omega
  ·cases h;simp;omega
def fil (h:Nat→List UInt8):List Pc→List UInt8
 | []=>[]
 | .b x::r=>x::fil h r
 | .s n::r=>h n++fil h r
theorem fil_app (h:Nat→List UInt8) (a b:List Pc):fil h (a++b)=fil h a++fil h b:=by
 induction a with
 |nil=>rfl
 |cons x l ih=>cases x<;>simp [fil,ih]
def pla:List Pc→List UInt8
 | []=>[]
 | .b x::r=>x::pla r
 | .s _::r=>pla r
theorem pla_app (a b:List Pc):pla (a++b)=pla a++pla b:=by
 induction a with
 |nil=>rfl
 |cons x l ih=>cases x<;>simp [pla,ih]
theorem pla_len (a:List Pc):(pla a).length≤a.length:=by
 induction a with
 |nil=>simp [pla]
 |cons x l ih=>cases x<;>simp [pla]<;>omega
def nsl:List Pc→Nat
 | []=>0
 | .b _::r=>nsl r
 | .s _::r=>nsl r+1
theorem nsl_app (a b:List Pc):nsl (a++b)=nsl a+nsl b:=by
 induction a with
 |nil=>simp [nsl]
 |cons x l ih=>cases x<;>simp [nsl,ih]<;>omega
theorem nsl_len (a:List Pc):nsl a≤a.length:=by
 induction a with
 |nil=>simp [nsl]
 |cons x l ih=>cases x<;>simp [nsl]<;>omega
def slF (n:Nat):List Pc→Nat→Nat→List (Nat × Nat)
 | [],_,_=>[]
 | .b _::r,t,a=>slF n r t (a+1)
 | .s m::r,t,a=>if m=n then (t,a)::slF n r (t+1) a else slF n r (t+1) a
theorem slF_app (n:Nat) (a b:List Pc):∀ t q,slF n (a++b) t q=slF n a t q++slF n b (t+nsl a) (q+(pla a).length):=by
 induction a with
 |nil=>intro t q;simp [slF,nsl,pla]
 |cons x l ih=>
  intro t q
  cases x with
  |b x=>
   simp only [List.cons_append,slF,nsl,pla,List.length_cons,ih]
   rw [show q+1+(pla l).length=q+((pla l).length+1) by omega]
  |s m=>
   simp only [List.cons_append,slF,nsl,pla,ih]
   rw [show t+1+nsl l=t+(nsl l+1) by omega]
   split<;>simp
theorem slF_len (n:Nat) (a:List Pc):∀ t q,(slF n a t q).length≤a.length:=by
 induction a with
 |nil=>intro t q;simp [slF]
 |cons x l ih=>
  intro t q
  cases x with
  |b x=>simp only [slF,List.length_cons];have:=ih t (q+1);omega
  |s m=>
   simp only [slF]
   have:=ih (t+1) q
   split<;>simp only [List.length_cons]<;>omega
theorem slF_ge (n:Nat) (a:List Pc):∀ t q x,x∈slF n a t q→t≤x.1∧x.1<t+nsl a∧q≤x.2∧x.2≤q+(pla a).length:=by
 induction a with
 |nil=>intro t q x hx;simp [slF] at hx
 |cons y l ih=>
  intro t q x hx
  cases y with
  |b y=>
   simp only [slF] at hx
   have:=ih _ _ _ hx
   simp only [nsl,pla,List.length_cons];omega
  |s m=>
   simp only [slF] at hx
   split at hx
   ·rcases List.mem_cons.1 hx with e|e
    ·subst e;simp only [nsl,pla];omega
    ·have:=ih _ _ _ e
     simp only [nsl,pla];omega
   ·have:=ih _ _ _ hx
    simp only [nsl,pla];omega
def lnU (h:Nat→List UInt8) (ps:List Pc):Nat→Nat
 |0=>(pla ps).length
 |k+1=>lnU h ps k+(slF k ps 0 0).length*(h k).length
theorem slF_any_len (n:Nat) (a:List Pc):∀ t q t' q',(slF n a t q).length=(slF n a t' q').length:=by
 induction a with
 |nil=>intro t q t' q';rfl
 |cons x l ih=>
  intro t q t' q'
  cases x with
  |b x=>simp only [slF];exact ih _ _ _ _
  |s m=>
   simp only [slF]
   split
   ·simp only [List.length_cons];rw [ih]
   ·exact ih _ _ _ _
theorem lnU_b (h:Nat→List UInt8) (x:UInt8) (r:List Pc):∀ k,lnU h (.b x::r) k=lnU h r k+1
 |0=>by simp [lnU,pla]
 |k+1=>by
  simp only [lnU,slF]
  rw [lnU_b h x r k,slF_any_len k r 0 (0+1) 0 0];omega
theorem lnU_s (h:Nat→List UInt8) (m:Nat) (r:List Pc):∀ k,lnU h (.s m::r) k=lnU h r k+(if m<k then (h m).length else 0)
 |0=>by simp [lnU,pla]
 |k+1=>by
  simp only [lnU,slF]
  rw [lnU_s h m r k]
  by_cases e:m=k
  ·subst e
   rw [if_pos rfl,if_neg (by omega),if_pos (by omega),List.length_cons,slF_any_len m r (0+1) 0 0 0,Nat.succ_mul];omega
  ·rw [if_neg e,slF_any_len k r (0+1) 0 0 0]
   by_cases e2:m<k
   ·rw [if_pos e2,if_pos (by omega)];omega
   ·rw [if_neg e2,if_neg (by omega)];omega
theorem lnU_fil (h:Nat→List UInt8) (ps:List Pc) (hs:∀ n,Pc.s n∈ps→n<10):lnU h ps 10=(fil h ps).length:=by
 induction ps with
 |nil=>simp [lnU,pla,fil,slF]
 |cons x r ih=>
  have ih':=ih (fun n hn=>hs n (List.mem_cons_of_mem _ hn))
  cases x with
  |b x=>rw [lnU_b,ih'];simp [fil]
  |s m=>rw [lnU_s,ih',if_pos (hs m (List.mem_cons_self ..))];simp [fil];omega
def ahd (h:Nat→List UInt8) (ps:List Pc) (t q:Nat):Nat→List (Nat × Nat):=fun n=>if h n=[] then [] else slF n ps t q
def NxR (A:Nat→List (Nat × Nat)) (k:Nat) (x:Int):Prop:=
 (x= -1∧∀ n,n<k→A n=[])∨∃ m:Nat,x=m∧m<k∧A m≠[]∧∀ n,n<k→A n=[]∨((A m).headD (0,0)).1≤((A n).headD (0,0)).1
theorem nxR_none {h:Nat→List UInt8}:∀ {ps:List Pc} {t q:Nat},(∀ n,Pc.s n∈ps→n<10)→(∀ n,n<10→ahd h ps t q n=[])→fil h ps=pla ps
 | [],t,q,_,_=>rfl
 | .b x::r,t,q,hs,ha=>by
   simp only [fil,pla]
   rw [nxR_none (ps:=r) (t:=t) (q:=q+1) (fun n hn=>hs n (List.mem_cons_of_mem _ hn)) (fun n hn=>by have:=ha n hn;simpa [ahd,slF] using this)]
 | .s m::r,t,q,hs,ha=>by
   have hm:h m=[]:=by
    have:=ha m (hs m (List.mem_cons_self ..))
    unfold ahd at this
    split at this
    ·assumption
    ·simp [slF] at this
   simp only [fil,pla]
   rw [hm,List.nil_append,nxR_none (ps:=r) (t:=t+1) (q:=q) (fun n hn=>hs n (List.mem_cons_of_mem _ hn)) (fun n hn=>by
    have:=ha n hn
    unfold ahd at this ⊢
    split at this
    ·rename_i e;rw [if_pos e]
    ·rename_i e
     rw [if_neg e]
     simp only [slF] at this
     split at this
     ·cases this
     ·exact this)]
theorem nxR_some {h:Nat→List UInt8} {m:Nat}:∀ {ps:List Pc} {t q:Nat},(∀ n,Pc.s n∈ps→n<10)→m<10→ahd h ps t q m≠[]→(∀ n,n<10→ahd h ps t q n=[]∨((ahd h ps t q m).headD (0,0)).1≤((ahd h ps t q n).headD (0,0)).1)→
 ∃ b1 b2,ps=b1++ .s m::b2∧fil h b1=pla b1∧ahd h ps t q m=(t+nsl b1,q+(pla b1).length)::ahd h b2 (t+nsl b1+1) (q+(pla b1).length) m∧∀ n,n≠m→ahd h ps t q n=ahd h b2 (t+nsl b1+1) (q+(pla b1).length) n
 | [],t,q,hs,hm,h1,h2=>by simp [ahd,slF] at h1
 | .b x::r,t,q,hs,hm,h1,h2=>by
   have e:∀ n,ahd h (.b x::r) t q n=ahd h r t (q+1) n:=fun n=>rfl
   simp only [e] at h1 h2 ⊢
   obtain ⟨b1,b2,c1,c2,c3,c4⟩:=nxR_some (ps:=r) (t:=t) (q:=q+1) (fun n hn=>hs n (List.mem_cons_of_mem _ hn)) hm h1 h2
   have ea:q+1+(pla b1).length=q+(pla (.b x::b1)).length:=by simp [pla];omega
   refine ⟨.b x::b1,b2,by rw [c1];rfl,by simp only [fil,pla];rw [c2],?_,fun n hn=>?_⟩
   ·rw [c3,ea];rfl
   ·rw [c4 n hn,ea];rfl
 | .s y::r,t,q,hs,hm,h1,h2=>by
   by_cases hy:h y=[]
   ·have e:∀ n,ahd h (.s y::r) t q n=ahd h r (t+1) q n:=fun n=>by
     unfold ahd
     by_cases hn:h n=[]
     ·rw [if_pos hn,if_pos hn]
     ·rw [if_neg hn,if_neg hn,slF,if_neg (by rintro rfl;exact hn hy)]
    simp only [e] at h1 h2 ⊢
    obtain ⟨b1,b2,c1,c2,c3,c4⟩:=nxR_some (ps:=r) (t:=t+1) (q:=q) (fun n hn=>hs n (List.mem_cons_of_mem _ hn)) hm h1 h2
    have ea:t+1+nsl b1=t+nsl (.s y::b1):=by simp [nsl];omega
    refine ⟨.s y::b1,b2,by rw [c1];rfl,by simp only [fil,pla];rw [hy,List.nil_append,c2],?_,fun n hn=>?_⟩
    ·rw [c3,ea];rfl
    ·rw [c4 n hn,ea];rfl
   ·have ey:ahd h (.s y::r) t q y=(t,q)::ahd h r (t+1) q y:=by
     unfold ahd
     rw [if_neg hy,if_neg hy,slF,if_pos rfl]
    have en:∀ n,n≠y→ahd h (.s y::r) t q n=ahd h r (t+1) q n:=fun n hn=>by
     unfold ahd
     by_cases hn2:h n=[]
     ·rw [if_pos hn2,if_pos hn2]
     ·rw [if_neg hn2,if_neg hn2,slF,if_neg (fun e=>hn e.symm)]
    have hmy:m=y:=by
     by_cases c:m=y
     ·exact c
     ·exfalso
      rw [en m c] at h1 h2
      rcases h2 y (hs y (List.mem_cons_self ..)) with d|d
      ·rw [ey] at d;cases d
      ·rw [ey] at d
       cases hl:ahd h r (t+1) q m with
       |nil=>exact h1 hl
       |cons z zs=>
        rw [hl] at d
        simp only [List.headD_cons] at d
        have hz:z∈slF m r (t+1) q:=by
         unfold ahd at hl
         split at hl
         ·cases hl
         ·rw [hl];exact List.mem_cons_self ..
        have:=(slF_ge m r _ _ _ hz).1
        omega
    subst hmy
    exact ⟨[],r,rfl,rfl,by rw [ey];simp [nsl,pla],fun n hn=>by rw [en n hn];simp [nsl,pla]⟩
end Go.Proofs.YtlgodacccilabaaGreatDoor
namespace Go.Proofs.YtlgodacccilabaaGreatDoor
open Go Go.RowKit
set_option linter.unusedVariables false
def CapN (pre all:List It) (nx:Nx):Prop:=∀ at_ σ e,Cap pre σ at_→(nx at_ σ).1=some e→Cap all (nx at_ σ).2 e
theorem lazyM_cp {s:ByteArray} {f:Nat→Bool} {nx:Nx} {pre all:List It} (hr:Rest nx) (h:CapN pre all nx):∀ k n σ e,Cap pre σ n→(lazyM s f nx k n σ).1=some e→Cap all (lazyM s f nx k n σ).2 e
 |0,n,σ,e=>fun _ hn=>by simp [lazyM] at hn
 |k+1,n,σ,e=>by
  intro hc hn
  rw [lazyM] at hn ⊢
  split at hn
  ·simp at hn
  ·rename_i hs
   rw [if_neg hs]
   have h1:=h n σ
   have h2:=hr n σ
   generalize nx n σ=r at *
   obtain ⟨o,σ'⟩:=r
   cases o with
   |some e'=>simp only [Option.some.injEq] at hn;subst hn;exact h1 e' hc rfl
   |none=>
    simp only at hn ⊢
    split at hn
    ·rename_i hh
     rw [if_pos hh]
     obtain ⟨e1,e2⟩:=h2 rfl
     exact lazyM_cp hr h k (n+1) (σ'.more 1) e (hc.le (by omega) e1 e2) hn
    ·simp at hn
theorem downM_cp {nx:Nx} {pre all:List It} (hr:Rest nx) (h:CapN pre all nx) (at_ least:Nat):∀ n σ e,Cap pre σ at_→(downM nx at_ least n σ).1=some e→Cap all (downM nx at_ least n σ).2 e
 |0,σ,e=>by
  intro hc hn
  rw [downM] at hn ⊢
  split at hn
  ·simp at hn
  ·rename_i hs
   rw [if_neg hs]
   exact h at_ σ e hc hn
 |n+1,σ,e=>by
  intro hc hn
  rw [downM] at hn ⊢
  split at hn
  ·simp at hn
  ·rename_i hs
   rw [if_neg hs]
   have h1:=h (at_+(n+1)) σ
   have h2:=hr (at_+(n+1)) σ
   generalize nx (at_+(n+1)) σ=r at *
   obtain ⟨o,σ'⟩:=r
   cases o with
   |some e'=>simp only [Option.some.injEq] at hn;subst hn;exact h1 e' (hc.le (by omega) rfl rfl) rfl
   |none=>
    obtain ⟨e1,e2⟩:=h2 rfl
    exact downM_cp hr h at_ least n σ' e (hc.le (Nat.le_refl _) e1 e2) hn
theorem pairM_cp {s:ByteArray} {x y:Int} {nx:Nx} {pre all:List It} (h:CapN pre all nx):∀ k i n σ e,Cap pre σ i→(pairM s x y nx k i n σ).1=some e→Cap all (pairM s x y nx k i n σ).2 e
 |0,i,n,σ,e=>fun _ hn=>by simp [pairM] at hn
 |k+1,i,n,σ,e=>by
  intro hc hn
  rw [pairM] at hn ⊢
  split at hn
  ·simp at hn
  ·rename_i h1
   rw [if_neg h1]
   split at hn
   ·rename_i h2
    rw [if_pos h2]
    split at hn
    ·rename_i h3
     rw [if_pos h3]
     split at hn
     ·simp at hn
     ·rename_i h4
      rw [if_neg h4]
      exact h _ _ e (hc.le (by omega) rfl rfl) hn
    ·rename_i h3
     rw [if_neg h3]
     exact pairM_cp h k _ _ _ e (hc.le (by omega) rfl rfl) hn
   ·rename_i h2
    rw [if_neg h2]
    split at hn
    ·rename_i h3
     rw [if_pos h3]
     exact pairM_cp h k _ _ _ e (hc.le (by omega) rfl rfl) hn
    ·rename_i h3
     rw [if_neg h3]
     exact pairM_cp h k _ _ _ e (hc.le (by omega) rfl rfl) hn
theorem oneM_cp {s:ByteArray} {it:It} {nx:Nx} {pre all:List It} (hr:Rest nx) (h:CapN pre all nx) (at_:Nat) (σ:Ms) (e:Nat) (hc:Cap pre σ at_) (hn:(oneM s it nx at_ σ).1=some e):Cap all (oneM s it nx at_ σ).2 e:=by
 rw [oneM] at hn ⊢
 split at hn
 ·rename_i h1
  rw [if_pos h1]
  split at hn
  ·rename_i h2
   rw [if_pos h2]
   exact h _ _ e (hc.le (by omega) rfl rfl) hn
  ·simp at hn
 ·rename_i h1
  rw [if_neg h1]
  split at hn
  ·rename_i h2
   rw [if_pos h2]
   exact downM_cp hr h _ _ _ _ e (hc.le (Nat.le_refl _) rfl rfl) hn
  ·rename_i h2
   rw [if_neg h2]
   split at hn
   ·rename_i h3
    rw [if_pos h3]
    exact lazyM_cp hr h _ _ _ e (hc.le (Nat.le_refl _) rfl rfl) hn
   ·rename_i h3
    rw [if_neg h3]
    exact downM_cp hr h _ _ _ _ e (hc.le (Nat.le_refl _) rfl rfl) hn
theorem tryM_cp (s:ByteArray) (pl:Nat→Bool) (N:Nat):∀ its pre,(∀ k (hk:k<its.length),wfAt N (pre++its.take k) its[k])→CapN pre (pre++its) (tryM s pl its)
 | [],pre,_=>fun at_ σ e hc hn=>by simp only [tryM,Option.some.injEq] at hn;subst hn;simpa [tryM] using hc
 |it::rest,pre,hw=>fun at_ σ0 e hc hn=>by
  have hw0:wfAt N pre it:=by have h9:=hw 0 (by simp);simp only [List.take_zero,List.append_nil] at h9;exact h9
  have ih:=tryM_cp s pl N rest (pre++[it]) (fun k hk=>by have h9:=hw (k+1) (by simpa using hk);simp only [List.take_succ_cons] at h9;rw [List.append_assoc];exact h9)
  have hrs:=tryM_rest s pl rest
  rw [List.append_assoc] at ih
  simp only [List.singleton_append] at ih
  rw [tryM] at hn ⊢
  simp only at hn ⊢
  split at hn
  ·simp at hn
  rename_i hs
  rw [if_neg hs]
  have hc1:Cap pre (σ0.more 1) at_:=hc.le (Nat.le_refl _) rfl rfl
  split at hn
  ·rename_i h1
   rw [if_pos h1]
   have ih2:CapN pre (pre++it::rest) (tryM s pl rest):=fun a σ e hc2 hn2=>ih a σ e (hc2.other (.inl h1)) hn2
   exact oneM_cp hrs ih2 _ _ e hc1 hn
  rename_i h1
  rw [if_neg h1]
  split at hn
  ·rename_i h2
   rw [if_pos h2]
   have h3:=ih at_ { σ0.more 1 with fr:=upd σ0.fr it.n at_ } e (hc1.open hw0 h2)
   generalize tryM s pl rest at_ { σ0.more 1 with fr:=upd σ0.fr it.n at_ }=r at *
   obtain ⟨o,σ'⟩:=r
   cases o with
   |some e'=>exact h3 hn
   |none=>simp at hn
  rename_i h2
  rw [if_neg h2]
  split at hn
  ·rename_i h3
   rw [if_pos h3]
   have h4:=ih at_ { σ0.more 1 with tt:=upd σ0.tt it.n at_ } e (hc1.shut hw0 h3)
   generalize tryM s pl rest at_ { σ0.more 1 with tt:=upd σ0.tt it.n at_ }=r at *
   obtain ⟨o,σ'⟩:=r
   cases o with
   |some e'=>exact h4 hn
   |none=>simp at hn
  rename_i h3
  rw [if_neg h3]
  have ih2:CapN pre (pre++it::rest) (tryM s pl rest):=fun a σ e hc2 hn2=>ih a σ e (hc2.other (.inr (by omega))) hn2
  split at hn
  ·rename_i h4
   rw [if_pos h4]
   split at hn
   ·simp at hn
   ·rename_i h5
    rw [if_neg h5]
    split at hn
    ·simp at hn
    ·rename_i h6
     rw [if_neg h6]
     exact ih2 _ _ e (hc1.le (by omega) rfl rfl) hn
  rename_i h4
  rw [if_neg h4]
  split at hn
  ·rename_i h5
   rw [if_pos h5]
   split at hn
   ·simp at hn
   ·rename_i h6
    rw [if_neg h6]
    exact pairM_cp ih2 _ _ _ _ e (hc1.le (by omega) rfl rfl) hn
  rename_i h5
  rw [if_neg h5]
  split at hn
  ·rename_i h6
   rw [if_pos h6]
   split at hn
   ·simp at hn
   ·rename_i h7
    rw [if_neg h7]
    exact ih2 _ _ e hc1 hn
  rename_i h6
  rw [if_neg h6]
  split at hn
  ·simp at hn
  ·rename_i h7
   rw [if_neg h7]
   exact ih2 _ _ e hc1 hn
end Go.Proofs.YtlgodacccilabaaGreatDoor
