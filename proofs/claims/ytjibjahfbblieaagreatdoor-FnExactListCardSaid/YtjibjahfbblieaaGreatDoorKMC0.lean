import Derived.Test.YtjibjahfbblieaaGreatDoorRows
import Derived.WalkKit
import Derived.ProofKit
import Derived.OpenShut
import Derived.WalkSpells
import Derived.Deep.QuietTactic
import Derived.BigQuiet
import Derived.OwnWalk
import Derived.Laws.OwnMore
import Derived.RangeFuncNested
import Derived.RangeFuncBound
namespace Go.Proofs.YtjibjahfbblieaaGreatDoor
open Go Go.RowKit
set_option linter.unusedVariables false
theorem hide {p:Prop} (h:p):Hid p:=h
def LM (w:World) (v:Value) (n:Nat) (f:Nat->Nat):Prop:=
 (n=0/\∃ a cap,v=.slice a 0 cap)∨∃ b o cap,v=.slice (some ⟨b,o,none⟩) n cap/\b<w.heap.size/\n<=cap/\∀ j,j<n->f j<=255/\w.cell? ⟨b,o+j,none⟩=some (.int .u8 (f j))
theorem LM.low {w w':World} {v:Value} {n B:Nat} {f:Nat->Nat} (h:LM w v n f) (hb:Below B w w') (hB:w.heap.size<=B):LM w' v n f:=by
 rcases h with h|⟨b,o,cap,rfl,hbB,hcap,hc⟩
 ·exact .inl h
 ·refine .inr ⟨b,o,cap,rfl,Nat.lt_of_lt_of_le hbB hb.size,hcap,fun j hj=>⟨(hc j hj).1,(hb.cell (p:=⟨b,o+j,none⟩) (Nat.lt_of_lt_of_le hbB hB)).trans (hc j hj).2⟩⟩
def pol:Nat:=3988292384
def mO (r:Nat):Nat:=if r%2=1 then (r/2)^^^pol else r/2
def iV:Nat->Nat->Nat
 |0,r=>r
 |k+1,r=>mO (iV k r)
def mD (f:Nat->Nat):Nat->Nat
 |0=>4294967295
 |k+1=>iV 8 (mD f k^^^f k)
theorem gQ (a b:Nat) (ha:a<4294967296) (hb:b<4294967296):bits .xor .u32 (a:Int) (b:Int)=((a^^^b:Nat):Int):=by
 have h:=Nat.xor_lt_two_pow (n:=32) (show a<2^32 from ha) (show b<2^32 from hb)
 have h1:(BitVec.ofInt 32 (a:Int)).toNat=a:=by simp;omega
 have h2:(BitVec.ofInt 32 (b:Int)).toNat=b:=by simp;omega
 show IntKind.u32.wrap (((BitVec.ofInt 32 (a:Int))^^^(BitVec.ofInt 32 (b:Int))).toNat)=_
 rw [BitVec.toNat_xor,h1,h2,IntKind.wrap_u32]
 generalize a^^^b=c at h ⊢
 omega
theorem Jb {r:Nat} (h:r<4294967296):mO r<4294967296:=by
 unfold mO
 split
 ·exact Nat.xor_lt_two_pow (n:=32) (by omega) (by decide)
 ·omega
theorem uh {r:Nat} (k:Nat) (h:r<4294967296):iV k r<4294967296:=by
 induction k with
 |zero=>exact h
 |succ k ih=>exact Jb ih
theorem K_ (f:Nat->Nat) (n:Nat) (hf:∀ j,j<n->f j<=255):mD f n<4294967296:=by
 induction n with
 |zero=>simp [mD]
 |succ n ih=>
  refine uh 8 (Nat.xor_lt_two_pow (n:=32) (ih (fun j hj=>hf j (by omega))) ?_)
  have:=hf n (by omega)
  omega
theorem LQ {r:Nat} (h:r%2=1):mO r=(r/2)^^^pol:=by simp [mO,h]
theorem K5 {r:Nat} (h:r%2=0):mO r=r/2:=by simp [mO,h]
theorem QX {S Y:Nat} (h:S=mO Y) (hl:Y<4294967296) (hb:((Y:Int)%2==1)=true):Value.int .u32 (bits BinOp.xor IntKind.u32 ((Y:Int)/2%4294967296) 3988292384)=Value.int .u32 (S:Int):=by
 have hb':(Y:Int)%2=1:=by simpa using hb
 have h2:Y%2=1:=by omega
 have e:(Y:Int)/2%4294967296=((Y/2:Nat):Int):=by omega
 rw [h,LQ h2,e]
 exact congrArg (Value.int .u32) (gQ (Y/2) 3988292384 (by omega) (by decide))
theorem Qs {S Y:Nat} (h:S=mO Y) (hl:Y<4294967296) (hb:((Y:Int)%2==1)=false):Value.int .u32 ((Y:Int)/2%4294967296)=Value.int .u32 (S:Int):=by
 have hb':¬ (Y:Int)%2=1:=by simpa using hb
 have h2:Y%2=0:=by omega
 rw [h,K5 h2]
 exact congrArg (Value.int .u32) (by omega)
set_option maxHeartbeats 400000 in
set_option maxRecDepth 100000 in
theorem yN (v:Value) (n:Nat) (f:Nat->Nat) (w:World) (hn:n<=1099511627776) (h:LM w v n f):
 Calls Tryz.prog 29 #[v] w fun e w'=>e=.returned (.int .u32 ((mD f n^^^4294967295:Nat):Int))/\Below w.heap.size w w':=by
 have hfin:∀ m:Nat,m<4294967296->bits .xor .u32 (m:Int) 4294967295=((m^^^4294967295:Nat):Int):=fun m hm=>gQ m 4294967295 hm (by decide)
 have h00:bits .xor .u32 4294967295 4294967295=((mD f 0^^^4294967295:Nat):Int):=by
  rw [mD]
  exact hfin 4294967295 (by decide)
 rcases h with ⟨rfl,a,cap,rfl⟩|⟨b,o,cap,rfl,hb,hcap,hc⟩
 ·go_enter Tryz.func29,Tryz.ntmps29
  go_wp2
  go_loopw [3,10] (fun rv iv wr=>rv=.int .u32 4294967295/\iv=.int .i64 0/\wr=w) (fun _ _ _=>0)
  case atStart=>exact ⟨rfl,rfl,rfl⟩
  case round=>
   obtain ⟨rfl,rfl,rfl⟩:=hrel
   go_wp2
   go_ret
   refine ⟨?_,Below.refl _ _⟩
   rfl
 ·go_enter Tryz.func29,Tryz.ntmps29
  go_wp2
  go_loopw [3,10] (fun rv iv wr=>∃ i:Nat,i<=n/\rv=.int .u32 (mD f i)/\iv=.int .i64 i/\wr=w) (fun _ iv _=>match iv with | .int _ x=>n-x.toNat|_=>0)
  case atStart=>exact ⟨0,by omega,rfl,rfl,rfl⟩
  case round=>
   obtain ⟨i,hi,rfl,rfl,rfl⟩:=hrel
   have hl:=K_ f i (fun j hj=>(hc j (by omega)).1)
   by_cases hin:i<n
   ·obtain ⟨hf,hcell⟩:=hc i hin
    have hx:=gQ (mD f i) (f i) hl (by omega)
    have hxl:mD f i^^^f i<4294967296:=Nat.xor_lt_two_pow (n:=32) hl (by omega)
    have hcN:mD f (i+1)=iV 8 (mD f i^^^f i):=rfl
    generalize mD f i^^^f i=X at hx hxl hcN
    have HX:=hide hcN
    clear hcN
    go_wp2
    go_loopw [3,6] (fun rv kv wr2=>∃ k:Nat,k<=8/\rv=.int .u32 (iV k X)/\kv=.int .i64 k/\wr2=wr) (fun _ kv _=>match kv with | .int _ x=>8-x.toNat|_=>0)
    case atStart=>exact ⟨0,by omega,rfl,rfl,rfl⟩
    case round=>
     obtain ⟨k,hk,rfl,rfl,rfl⟩:=hrel
     have hkl:=uh k hxl
     by_cases hk8:k<8
     ·have hs:iV (k+1) X=mO (iV k X):=rfl
      have HS:=hide hs
      clear hs
      generalize iV k X=Y at hkl HS
      have HL:=hide hkl
      clear hkl hxl hx hl hfin h00 hcap hb hc hcell hn hf
      go_wp2
      ·rename_i hbit
       go_roundw
       case rel=>exact ⟨k+1,by omega,QX HS.out HL.out hbit,by simp,trivial⟩
       case measure=>simp;omega
      ·rename_i hbit
       go_roundw
       case rel=>exact ⟨k+1,by omega,Qs HS.out HL.out hbit,by simp,trivial⟩
       case measure=>simp;omega
     ·have hk9:¬ ((k:Int)<8):=by omega
      have HX2:Hid (iV k X=mD f (i+1)):=hide (by rw [HX.out,show k=8 by omega])
      generalize iV k X=Y at HX2 hkl
      clear HX
      go_wp2
      go_roundw
      case rel=>exact ⟨i+1,by omega,by rw [HX2.out],by simp,trivial⟩
      case measure=>simp;omega
   ·obtain rfl:i=n:=by omega
    have he:=hfin _ hl
    go_wp2
    go_ret
    exact ⟨rfl,Below.refl _ _⟩
theorem Tryz.info5:(Tryz.prog.info? 5).map (fun i=>(i.zero,i.size,i.bytes))=some (some (.int .u8 0),1,1):=by kernel_rfl
def NC (f:Nat->Nat) (n i:Nat):List Value:=(List.range n).map fun j=>if j<i then .int .u8 (f j) else .int .u8 0
theorem F3 (f:Nat->Nat) {n j:Nat} (h:j<n):(NC f n n)[j]?=some (.int .u8 (f j)):=by
 simp [NC,h]
def eG (w:World) (B:Nat) (v:Value) (n:Nat) (f:Nat->Nat):Prop:=
 ∃ g,v=.slice (some ⟨g,0,none⟩) n n/\B<=g/\g<w.heap.size/\(∀ j,j<n->f j<=255)/\w.ownsRow B 5 1 v n (NC f n n)
theorem Lj {w:World} {B e s g n cap:Nat} {xs:List Value} (h:w.ownsRow B e s (.slice (some ⟨g,0,none⟩) n cap) n xs):B<=g/\g<w.heap.size:=by
 rcases h.2 with ⟨h',_⟩|⟨g',cap',cur,h',hb,hg,_⟩
 ·simp at h'
 ·simp only [Value.slice.injEq,Option.some.injEq,Addr.mk.injEq,and_true,true_and] at h'
  obtain ⟨rfl,rfl⟩:=h'
  refine ⟨hb,?_⟩
  rcases Nat.lt_or_ge g w.heap.size with c|c
  ·exact c
  ·rw [Array.getElem?_eq_none c] at hg;cases hg
theorem eG.by {w:World} {B:Nat} {v:Value} {n:Nat} {f:Nat->Nat} (h:eG w B v n f):LM w v n f:=by
 obtain ⟨g,rfl,h1,h2,h3,h4⟩:=h
 refine .inr ⟨g,0,n,rfl,h2,Nat.le_refl _,fun j hj=>⟨h3 j hj,?_⟩⟩
 rw [Nat.zero_add,h4.cellAt j (by omega),F3 f hj]
theorem bF {B:Nat} {a w:World} (h:Below B a w) (n:Nat):Below B a (w.drewN n):=⟨h.os,h.tape,h.output,h.size,h.block⟩
end Go.Proofs.YtjibjahfbblieaaGreatDoor
namespace Go.Proofs.YtjibjahfbblieaaGreatDoor.F
def dig (n:Nat):List Int:=if h:n=0 then [] else ((n%10000:Nat):Int)::dig (n/10000)
termination_by n
decreasing_by omega
def nval:List Int->Nat
 | []=>0
 |d::r=>d.toNat+10000*nval r
def Ei (l:List Int):Prop:=∀ d∈l,0<=d/\d<10000
theorem dz:dig 0=[]:=by rw [dig];simp
theorem fT {n:Nat} (h:n≠0):dig n=((n%10000:Nat):Int)::dig (n/10000):=by rw [dig];simp [h]
theorem Ir (n:Nat):Ei (dig n):=by
 induction n using Nat.strongRecOn with
 |ind n ih=>
  by_cases h:n=0
  ·subst h;rw [dz];intro d hd;cases hd
  ·rw [fT h]
   intro d hd
   rcases List.mem_cons.1 hd with rfl|hd
   ·omega
   ·exact ih (n/10000) (by omega) d hd
theorem xY (n:Nat):nval (dig n)=n:=by
 induction n using Nat.strongRecOn with
 |ind n ih=>
  by_cases h:n=0
  ·subst h;rw [dz];rfl
  ·rw [fT h]
   simp only [nval]
   rw [ih (n/10000) (by omega)]
   omega
theorem iI (a b:List Int):nval (a++b)=nval a+10000^a.length*nval b:=by
 induction a with
 |nil=>simp [nval]
 |cons d r ih=>simp only [List.cons_append,nval,ih,List.length_cons,Nat.pow_succ];grind
theorem Cb {l:List Int} (h:Ei l):nval l<10000^l.length:=by
 induction l with
 |nil=>simp [nval]
 |cons d r ih=>
  have h1:=h d (by simp)
  have h2:=ih (fun x hx=>h x (by simp [hx]))
  simp only [nval,List.length_cons,Nat.pow_succ]
  omega
theorem Gu {l:List Int} (h:Ei l) (ht:l=[]∨l.getLastD 1≠0):dig (nval l)=l:=by
 induction l with
 |nil=>simp [nval,dz]
 |cons d r ih=>
  have h1:=h d (by simp)
  have h2:Ei r:=fun x hx=>h x (by simp [hx])
  have ht':r=[]∨r.getLastD 1≠0:=by
   cases r with
   |nil=>left;rfl
   |cons e s=>right;rcases ht with ht|ht<;>simp_all
  have ih':=ih h2 ht'
  have hne:nval (d::r)≠0:=by
   simp only [nval]
   cases r with
   |nil=>rcases ht with ht|ht<;>simp_all [nval];omega
   |cons e s=>
    intro hz
    have:nval (e::s)=0:=by omega
    rw [this,dz] at ih'
    cases ih'
  rw [fT hne]
  simp only [nval]
  have e1:(d.toNat+10000*nval r)/10000=nval r:=by omega
  have e2:(d.toNat+10000*nval r)%10000=d.toNat:=by omega
  rw [e1,e2,ih']
  congr 1
  omega
theorem bJ {n k:Nat} (h:n<10000^k):(dig n).length<=k:=by
 induction k generalizing n with
 |zero=>have:n=0:=by simpa using h
        subst this;rw [dz];simp
 |succ k ih=>
  by_cases hn:n=0
  ·subst hn;rw [dz];simp
  ·rw [fT hn,List.length_cons]
   have:n/10000<10000^k:=by rw [Nat.pow_succ] at h;omega
   have:=ih this
   omega
theorem dR (n:Nat):n<10000^(dig n).length:=by
 have:=Cb (Ir n);rwa [xY] at this
theorem jT (n j:Nat):(dig n).getD j 0=((n/10000^j%10000:Nat):Int):=by
 induction j generalizing n with
 |zero=>
  by_cases h:n=0
  ·subst h;rw [dz];simp
  ·rw [fT h];simp
 |succ j ih=>
  by_cases h:n=0
  ·subst h;rw [dz];simp
  ·rw [fT h,List.getD_cons_succ,ih,Nat.div_div_eq_div_mul,Nat.pow_succ,Nat.mul_comm]
theorem aQ {a b:Nat} (h:a<=b):(dig a).length<=(dig b).length:=
 bJ (Nat.lt_of_le_of_lt h (dR b))
theorem jD {a b:Nat} (h:(dig a).length<(dig b).length):a<b:=by
 rcases Nat.lt_or_ge a b with h1|h1
 ·exact h1
 ·have:=aQ h1;omega
theorem getD_lt {α:Type} {l:List α} {j:Nat} {d:α} (h:j<l.length):l.getD j d=l[j]:=by
 rw [List.getD_eq_getElem?_getD,List.getElem?_eq_getElem h];rfl
theorem Aw {l:List Int} (h:∀ d∈l,d=0):nval l=0:=by
 induction l with
 |nil=>rfl
 |cons d r ih=>
  simp only [nval]
  rw [ih (fun x hx=>h x (by simp [hx])),h d (by simp)];rfl
theorem EH {l:List Int} {k:Nat} (h:Ei l) (hk:k<=l.length) (hz:∀ j,k<=j->j<l.length->l.getD j 0=0) (ht:k=0∨l.getD (k-1) 0≠0):
 l.take k=dig (nval l):=by
 have hd:nval (l.drop k)=0:=by
  refine Aw fun d hd=>?_
  obtain ⟨i,hi,rfl⟩:=List.getElem_of_mem hd
  have hi':k+i<l.length:=by rw [List.length_drop] at hi;omega
  rw [List.getElem_drop]
  have:=hz (k+i) (by omega) hi'
  rwa [getD_lt hi'] at this
 have hv:nval l=nval (l.take k):=by
  conv=>lhs;rw [<-List.take_append_drop k l]
  rw [iI,hd];omega
 rw [hv]
 refine (Gu (fun d hd=>h d (List.mem_of_mem_take hd)) ?_).symm
 rcases ht with ht|ht
 ·left;subst ht;simp
 ·by_cases hk0:k=0
  ·left;subst hk0;simp
  ·right
   have hlt:k-1<l.length:=by omega
   have hne:l.take k≠[]:=by
    intro e
    rw [List.take_eq_nil_iff] at e
    rcases e with e|e
    ·omega
    ·subst e;simp at hlt
   rw [List.getLastD_eq_getLast?,List.getLast?_eq_some_getLast hne,Option.getD_some,List.getLast_eq_getElem]
   rw [getD_lt hlt] at ht
   have hmin:min k l.length=k:=by omega
   simpa [hmin] using ht
end Go.Proofs.YtjibjahfbblieaaGreatDoor.F
namespace Go.Proofs.YtjibjahfbblieaaGreatDoor.F
theorem jM {l:List Int} {d:Int} (h:Ei l) (h0:0<=d) (h1:d<10000):Ei (l++[d]):=by
 intro x hx
 rcases List.mem_append.1 hx with hx|hx
 ·exact h x hx
 ·simp at hx;subst hx;exact ⟨h0,h1⟩
theorem mod_pow_succ (n k:Nat):n%10000^(k+1)=n%10000^k+10000^k*(n/10000^k%10000):=by
 rw [Nat.pow_succ,Nat.mod_mul]
theorem AB {n m c0 k:Nat} {L:List Int} {c d:Nat} (hL:L.length=k) (hd:n/10000^k%10000=d)
 (h:nval L+10000^k*c=n%10000^k*m+c0):
 nval (L++[(((c+d*m)%10000:Nat):Int)])+10000^(k+1)*((c+d*m)/10000)=n%10000^(k+1)*m+c0:=by
 rw [iI,hL,mod_pow_succ,hd]
 simp only [nval,Nat.pow_succ,Int.toNat_natCast]
 have e:=Nat.mod_add_div (c+d*m) 10000
 generalize (c+d*m)%10000=r at *
 generalize (c+d*m)/10000=q at *
 generalize n%10000^k=x at *
 generalize 10000^k=p at *
 grind
theorem Ae {N k:Nat} {L:List Int} {c:Nat} (hL:L.length=k) (h:nval L+10000^k*c=N):
 nval (L++[((c%10000:Nat):Int)])+10000^(k+1)*(c/10000)=N:=by
 rw [iI,hL]
 simp only [nval,Nat.pow_succ,Int.toNat_natCast]
 have e:=Nat.mod_add_div c 10000
 generalize c%10000=r at *
 generalize c/10000=q at *
 generalize 10000^k=p at *
 grind
theorem Ch (n:Nat):n%10000^(dig n).length=n:=Nat.mod_eq_of_lt (dR n)
end Go.Proofs.YtjibjahfbblieaaGreatDoor.F
namespace Go.Proofs.YtjibjahfbblieaaGreatDoor.F
def qh (x len:Nat):List Int:=(List.range len).map fun i=>((x/10000^i%10000:Nat):Int)
theorem pI (x len:Nat):(qh x len).length=len:=by simp [qh]
theorem LA (x len:Nat):Ei (qh x len):=by
 intro d hd
 simp only [qh,List.mem_map] at hd
 obtain ⟨i,_,rfl⟩:=hd
 omega
theorem DN (x len:Nat):nval (qh x len)=x%10000^len:=by
 induction len with
 |zero=>simp [qh,nval,Nat.mod_one]
 |succ k ih=>
  have e:qh x (k+1)=qh x k++[((x/10000^k%10000:Nat):Int)]:=by simp [qh,List.range_succ]
  rw [e,iI,ih,pI,mod_pow_succ]
  simp only [nval,Int.toNat_natCast,Nat.mul_zero,Nat.add_zero]
def fV (n len j:Nat):List Int:=(List.range len).map fun i=>if i<j then (0:Int) else ((n/2/10000^i%10000:Nat):Int)
theorem mE (n len j:Nat):(fV n len j).length=len:=by simp [fV]
theorem vg (n len:Nat):fV n len len=List.replicate len 0:=by
 apply List.ext_getElem
 ·simp [fV]
 ·intro i h1 h2
  simp [fV] at h1 ⊢
  omega
theorem zC (n len j:Nat):(fV n len (j+1)).set j ((n/2/10000^j%10000:Nat):Int)=fV n len j:=by
 apply List.ext_getElem
 ·simp [fV]
 ·intro i h1 h2
  simp only [fV,List.getElem_set,List.getElem_map,List.getElem_range]
  by_cases e:j=i
  ·subst e;simp
  ·rw [if_neg e]
   by_cases e2:i<j
   ·rw [if_pos (by omega),if_pos e2]
   ·rw [if_neg (by omega),if_neg e2]
theorem Bo (n len:Nat):fV n len 0=qh (n/2) len:=by simp [fV,qh]
theorem AJ (n j:Nat):(n/10000^(j+1)%2*10000+n/10000^j%10000)/2=n/2/10000^j%10000:=by
 have e1:n/10000^(j+1)=n/10000^j/10000:=by rw [Nat.pow_succ,Nat.div_div_eq_div_mul]
 have e2:n/2/10000^j=n/10000^j/2:=by rw [Nat.div_div_eq_div_mul,Nat.div_div_eq_div_mul,Nat.mul_comm]
 rw [e1,e2];omega
theorem BH (n j:Nat):(n/10000^(j+1)%2*10000+n/10000^j%10000)%2=n/10000^j%2:=by omega
theorem H_ {a b j:Nat} (h:a/10000^(j+1)=b/10000^(j+1)) (hd:a/10000^j%10000<b/10000^j%10000):a<b:=by
 have e1:∀ x:Nat,x/10000^(j+1)=x/10000^j/10000:=fun x=>by rw [Nat.pow_succ,Nat.div_div_eq_div_mul]
 rw [e1,e1] at h
 have:a/10000^j<b/10000^j:=by omega
 exact Nat.lt_of_not_le fun hh=>by have:=Nat.div_le_div_right (c:=10000^j) hh;omega
theorem cmp_eq {a b j:Nat} (h:a/10000^(j+1)=b/10000^(j+1)) (hd:a/10000^j%10000=b/10000^j%10000):a/10000^j=b/10000^j:=by
 have e1:∀ x:Nat,x/10000^(j+1)=x/10000^j/10000:=fun x=>by rw [Nat.pow_succ,Nat.div_div_eq_div_mul]
 rw [e1,e1] at h
 omega
def mQ (a b:Nat):Int:=if a<b then -1 else if b<a then 1 else 0
theorem mP (n:Nat):n/10000^(dig n).length=0:=Nat.div_eq_of_lt (dR n)
theorem Af {a b k bo x y d bo':Nat} {L:List Int} (hL:L.length=k) (hx:a/10000^k%10000=x) (hy:b/10000^k%10000=y)
 (h:nval L+b%10000^k=a%10000^k+10000^k*bo) (hd:d+y+bo=x+10000*bo'):
 nval (L++[(d:Int)])+b%10000^(k+1)=a%10000^(k+1)+10000^(k+1)*bo':=by
 rw [iI,hL,mod_pow_succ,mod_pow_succ,hx,hy]
 simp only [nval,Nat.pow_succ,Int.toNat_natCast]
 generalize a%10000^k=p at *
 generalize b%10000^k=q at *
 generalize 10000^k=t at *
 grind
end Go.Proofs.YtjibjahfbblieaaGreatDoor.F
namespace Go.Proofs.YtjibjahfbblieaaGreatDoor.F
open Go Go.RowKit
set_option linter.unusedVariables false
theorem hide {p:Prop} (h:p):Hid p:=h
def MQ (c:Int):Bool:=decide (48<=c/\c<=57)
theorem dD {k:IntKind} {a b:Int} (h:a=b):Ending.returned (.int k a)=.returned (.int k b):=by rw [h]
end Go.Proofs.YtjibjahfbblieaaGreatDoor.F
namespace Go.Proofs.YtjibjahfbblieaaGreatDoor.F
open Go Go.RowKit
set_option linter.unusedVariables false
def Big (w:World) (v:Value) (l:List Int):Prop:=
 ∃ g cap,v=.slice (some ⟨g,0,none⟩) l.length cap/\l.length<=cap/\cap<=maxLen/\g<w.heap.size/\
   ∀ j,j<l.length->w.cell? ⟨g,j,none⟩=some (.int .i64 (l.getD j 0))
theorem Big.below {w w':World} {v:Value} {l:List Int} (h:Big w v l) (hb:Below w.heap.size w w'):Big w' v l:=by
 obtain ⟨g,cap,h1,h2,h3,h4,h5⟩:=h
 exact ⟨g,cap,h1,h2,h3,Nat.lt_of_lt_of_le h4 hb.size,fun j hj=>(hb.cell (p:=⟨g,j,none⟩) h4).trans (h5 j hj)⟩
theorem xM {l:List Int} {k g cap:Nat} {w:World} (hd:Ei l) (hk:k<=l.length) (hz:∀ j,k<=j->j<l.length->l.getD j 0=0) (ht:k=0∨l.getD (k-1) 0≠0)
 (h2:l.length<=cap) (h3:cap<=2^63-1) (h4:g<w.heap.size) (h5:∀ j,j<l.length->w.cell? ⟨g,j,none⟩=some (.int .i64 (l.getD j 0))):
 Big w (.slice (some ⟨g,0,none⟩) k cap) (dig (nval l)):=by
 have e:=EH hd hk hz ht
 have el:(dig (nval l)).length=k:=by rw [<-e,List.length_take];omega
 refine ⟨g,cap,by rw [el],by omega,by unfold maxLen;exact h3,h4,fun j hj=>?_⟩
 rw [h5 j (by omega),<-e]
 rw [List.getD_eq_getElem?_getD,List.getD_eq_getElem?_getD,List.getElem?_take_of_lt (by omega)]
set_option maxHeartbeats 400000 in
theorem om (l:List Int) (v:Value) (w:World) (h:Big w v l) (hl:l.length<=1000000000) (hd:Ei l):
 Calls Tryz.prog 135 #[v] w fun e w'=>∃ v',e=.returned v'/\Big w v' (dig (nval l))/\w'=w:=by
 obtain ⟨g,cap,rfl,h2,h3,h4,h5⟩:=h
 unfold maxLen at h3
 go_enter Tryz.func135,Tryz.ntmps135
 go_wp2
 go_loop [0] (fun a=>∃ k:Nat,k<=l.length/\a=.slice (some ⟨g,0,none⟩) k cap/\∀ j,k<=j->j<l.length->l.getD j 0=0) (fun a=>match a with | .slice _ k _=>k|_=>0)
 case atStart=>exact ⟨l.length,Nat.le_refl _,rfl,fun j h1 h2=>by omega⟩
 case round=>
  obtain ⟨k,hk,rfl,hz⟩:=hrel
  by_cases hk0:0<k
  ·have hc:=h5 (k-1) (by omega)
   have hk1:((k:Int)-1).toNat=k-1:=by omega
   go_wp2
   ·have hv:(l[k-1]?.getD 0==0)=true:=by assumption
    have hv':l.getD (k-1) 0=0:=by rw [List.getD_eq_getElem?_getD];simpa using hv
    go_round
    case rel=>exact ⟨k-1,by omega,rfl,fun j h1 h2=>by
     by_cases e:j=k-1
     ·subst e;exact hv'
     ·exact hz j (by omega) h2⟩
    case measure=>simp;omega
   ·have hv:(l[k-1]?.getD 0==0)=false:=by assumption
    have hv':l.getD (k-1) 0≠0:=by rw [List.getD_eq_getElem?_getD];simpa using hv
    go_ret
    exact ⟨_,rfl,xM hd hk hz (.inr hv') h2 h3 h4 h5,rfl⟩
  ·go_wp2
   go_ret
   exact ⟨_,rfl,xM hd hk hz (.inl (by omega)) h2 h3 h4 h5,rfl⟩
end Go.Proofs.YtjibjahfbblieaaGreatDoor.F
namespace Go.Proofs.YtjibjahfbblieaaGreatDoor
open Go Go.RowKit
set_option linter.unusedVariables false
theorem zM {α:Type} {F:Fence} {n:Nat} {P:Program} {g:Operand} {ps:Array Tmp} {assign body:Code} {Q:Exit->Act->World->Prop} {a:Act} {w:World}
 (hro:F.round=none) (h1:1<=n) {gf:Nat} {bd lb:Array Value} (hg:a.eval g=.func (.func gf) bd lb) (hFg:F.fn gf) (eg:∀ args w,(callFunc gf args).run P w=.ok (.enter gf args) w)
 {encs:α->Array Value} (hps:∀ x,(encs x).size=ps.size) {Kp:World->World->Prop} {S:List α->World->Prop} {Sp:List α->Prop} {N:Nat} (hS:OwnFrom w.heap.size S)
 (hKt:∀ {A B C:World},Kp A B->Kp B C->Kp A C) (hKb:∀ (W:World) (o o':Obj),W.heap[w.heap.size+1]?=some o->o.isCells=false->o.isWalk=false->Kp W (W.putObj (w.heap.size+1) o'))
 (I:List α->World->Prop) (Ix:Code->List α->World->Prop) (hI:OwnFrom w.heap.size I) (hIx:∀ c,OwnFrom w.heap.size (Ix c)) (h0:I [] w) (V:List α->α->World->Prop) (Ax:List α->α->Act->World->Prop) (hAx:∀ pre x a',OwnFrom w.heap.size (fun (_:Unit) W=>Ax pre x a' W))
 (hseq:∀ (l:Nat) (J Jx:List α->World->Prop) (W:World),(∀ pre A,J pre A->I pre A/\w.heap.size+2<=A.heap.size)->
   (∀ pre A B,J pre A->I pre B->(∀ b,w.heap.size<=b->b<w.heap.size+2->B.heap[b]?=A.heap[b]?)->J pre B)->
   (∀ pre x W1,J pre W1->V pre x W1->pre.length<N->YieldAt F (n-1-1) P l (encs x) W1 fun e W'=>(e=.returned (.bool true)/\J (pre++[x]) W'/\Kp W1 W')∨(e=.returned (.bool false)/\Jx (pre++[x]) W'/\KeepsFrom (w.heap.size+2) W1 W'))->
   (∀ pre A B row,Jx pre A->A.grownBy B row->(∀ r,row=some r->w.heap.size+2<=r/\∃ o:Obj,A.heap[r]?=some o/\o.isCells=false)->Jx pre B)->
   J [] W->(∀ b,b<w.heap.size->W.heap[b]?=w.heap[b]?)->CallsIn F (n-1) P gf (bd++#[.func (.yield l) #[] #[]]++lb) W fun e W'=>(∃ v,e=.returned v)/\((∃ xs,S xs W'/\J xs W')∨(∃ pre,Sp pre/\Jx pre W')))
 (hassign:∀ (l:Nat) (pre:List α) (x:α) (W:World) (K:Act->World->Prop),I pre W->V pre x W->(∀ a' W',KeepsFrom w.heap.size W W'->Kp W W'->I pre W'->Ax pre x a' W'->K a' W')->
   assign.wpIn (F.inRound l) (n-1-1) P (Exit.then K (fun _ _ _=>False)) { tmps:=(ps.zip (encs x)).foldl (fun t (p,v)=>t.setIfInBounds p v) a.tmps,defers:=[] } W)
 (hbody:∀ (l:Nat) (pre:List α) (x:α) (a':Act) (W:World),I pre W->Ax pre x a' W->pre.length<N->body.wpIn (F.inRound l) (n-1-1) P (ownPostG w.heap.size Kp I Ix (pre++[x]) W) a' W)
 (hdone:∀ (D:Nat) (xs:List α) (W:World),w.heap.size<=D->S xs W->I xs W->W.heap[D]?=some (.deferred (some []))->Q .normal { a with defers:={ target:=.collected D,args:=#[] }::a.defers } W)
 (hstop:∀ (D:Nat) (c:Code) (pre:List α) (W:World),w.heap.size<=D->Sp pre->Ix c pre W->W.heap[D]?=some (.deferred (some []))->c.wpIn F n P Q { a with defers:={ target:=.collected D,args:=#[] }::a.defers } W):
 (Code.rangeFunc g ps assign body).wpIn F n P Q a w:=by
 refine wpIn_rangeFunc ?_
 intro fn hfn
 rw [hro]
 obtain ⟨rec,hrec⟩:∃ rec:LoopState->Option Code->Loop,rec=fun st pe=>{ state:=st,pending:=pe,fn,tmps:=a.tmps,params:=ps,assign,body,defers:=w.heap.size }:=⟨_,rfl⟩
 obtain ⟨W1,hW1⟩:∃ W1,(w.alloc (.deferred (some []))).alloc (.loop (rec .ready none))=W1:=⟨_,rfl⟩
 have hL1:W1.heap[w.heap.size+1]?=some (.loop (rec .ready none)):=by
  rw [<-hW1];have:=World.alloc_heap_new (w.alloc (.deferred (some []))) (.loop (rec .ready none));rwa [World.size_alloc] at this
 have hK1:W1.heap[w.heap.size]?=some (.deferred (some [])):=by
  rw [<-hW1];exact (Below.heap_alloc _ _ _ (by simp)).trans (World.alloc_heap_new w _)
 have hI1:I [] W1:=by rw [<-hW1];exact hI.alloc _ (hI.alloc _ h0)
 have hOld:∀ b,b<w.heap.size->W1.heap[b]?=w.heap[b]?:=fun b hb=>by
  rw [<-hW1];exact (Below.heap_alloc _ _ b (by simp;omega)).trans (Below.heap_alloc _ _ b hb)
 refine ⟨w.heap.size+1,[{ target:=.collected w.heap.size,args:=#[] }],W1,{ target:=.fn (.func gf) lb,args:=bd++#[.func (.yield (w.heap.size+1)) #[] #[]] },W1,gf,
  bd++#[.func (.yield (w.heap.size+1)) #[] #[]]++lb,W1,?_,?_,?_,?_,fun _=>h1,?_⟩
 ·rw [<-hW1,hrec];exact run_enterLoop_outer _ _ _ _ _
 ·simp only [resolve,hg]
  simp [go_sem]
 ·intro f' hf';simp [Target.leads] at hf';subst hf';exact hFg
 ·simp [invoke,go_sem,eg]
 ·refine (hseq (w.heap.size+1)
   (fun pre W=>I pre W/\W.heap[w.heap.size+1]?=some (.loop (rec .ready none))/\W.heap[w.heap.size]?=some (.deferred (some [])))
   (fun pre W=>∃ c,Ix c pre W/\W.heap[w.heap.size+1]?=some (.loop (rec .done (some c)))/\W.heap[w.heap.size]?=some (.deferred (some [])))
   W1 (fun pre A h=>⟨h.1,(Array.getElem?_eq_some_iff.1 h.2.1).1⟩)
   (fun pre A B h hi hb=>⟨hi,(hb _ (by omega) (by omega)).trans h.2.1,(hb _ (Nat.le_refl _) (by omega)).trans h.2.2⟩)
   ?_ (fun pre A B row hs hg hr=>by
    obtain ⟨c,hc,hl,hk⟩:=hs
    exact ⟨c,hIx c pre A B row hc hg (fun r e=>⟨by have:=(hr r e).1;omega,(hr r e).2⟩),(hg.block _ (Array.getElem?_eq_some_iff.1 hl).1 (fun e=>by have:=(hr _ e.symm).1;omega)).trans hl,(hg.block _ (Array.getElem?_eq_some_iff.1 hk).1 (fun e=>by have:=(hr _ e.symm).1;omega)).trans hk⟩) ⟨hI1,hL1,hK1⟩ hOld).mono ?_
  ·rintro pre x W ⟨hi,hl,hk⟩ hv hlen
   have hy:=run_yield (P:=P) (args:=encs x) hl (by rw [hrec];exact hps x)
   rw [hrec] at hy
   refine ⟨fn,_,assign,body,hy,roundIn_of_wpIn hfn (hassign _ pre x W _ hi hv ?_)⟩
   clear hy
   intro a' Wa hkf hkpa hia hax
   have hla:=hkf.same _ _ (by omega) hl rfl
   have hka:=hkf.same _ _ (Nat.le_refl _) hk rfl
   have hlt:w.heap.size+1<Wa.heap.size:=(Array.getElem?_eq_some_iff.1 hla).1
   refine ⟨_,run_beginRound hla (by rw [hrec]),?_⟩
   have hl2:(Wa.putObj (w.heap.size+1) (.loop { rec .ready none with state:=.busy })).heap[w.heap.size+1]?=some (.loop { rec .ready none with state:=.busy }):=World.putObj_heap_same hlt
   have hk2:(Wa.putObj (w.heap.size+1) (.loop { rec .ready none with state:=.busy })).heap[w.heap.size]?=some (.deferred (some [])):=(World.putObj_heap_other (by omega)).trans hka
   refine wpIn_mono (hbody _ pre x a' _ (hI.putObj _ hia (by omega) hla rfl) ((hAx pre x a').putObj (s:=()) _ hax (by omega) hla rfl) hlen) ?_
   have fin:∀ (jump:Option Code) (W3:World),KeepsFrom w.heap.size (Wa.putObj (w.heap.size+1) (.loop { rec .ready none with state:=.busy })) W3->
    (Instr.endRound (w.heap.size+1) jump).run P W3=.ok (.bool jump.isNone) (W3.putObj (w.heap.size+1) (.loop (rec (if jump.isNone then .ready else .done) jump)))/\
    W3.heap[w.heap.size+1]?=some (.loop { rec .ready none with state:=.busy })/\
    (W3.putObj (w.heap.size+1) (.loop (rec (if jump.isNone then .ready else .done) jump))).heap[w.heap.size+1]?=some (.loop (rec (if jump.isNone then .ready else .done) jump))/\
    (W3.putObj (w.heap.size+1) (.loop (rec (if jump.isNone then .ready else .done) jump))).heap[w.heap.size]?=some (.deferred (some []))/\
    KeepsFrom (w.heap.size+2) W (W3.putObj (w.heap.size+1) (.loop (rec (if jump.isNone then .ready else .done) jump))):=fun jump W3 hk3=>by
    have hl3:=hk3.same _ _ (by omega) hl2 rfl
    have:=run_endRound (P:=P) jump hl3
    rw [hrec] at this ⊢
    exact ⟨this,by rw [hrec] at hl3;exact hl3,World.putObj_heap_same (Array.getElem?_eq_some_iff.1 hl3).1,(World.putObj_heap_other (by omega)).trans (hk3.same _ _ (Nat.le_refl _) hk2 rfl),⟨by
     have e1:=hkf.size
     have e2:=hk3.size
     simp only [World.putObj_size] at e2 ⊢
     omega,fun g o hg ho hc=>by
     have g1:=hkf.same g o (by omega) ho hc
     have g2:=hk3.same g o (by omega) ((World.putObj_heap_other (by omega)).trans g1) hc
     exact (World.putObj_heap_other (by omega)).trans g2⟩⟩
   rintro e a3 W3 hp
   cases e with
   |normal=>
    obtain ⟨hk3,hkp3,hi3⟩:=hp
    obtain ⟨hr,hl3,hl4,hk4,hkf4⟩:=fin none W3 hk3
    exact ⟨_,_,hr,.inl ⟨rfl,⟨hI.putObj _ hi3 (by omega) hl3 rfl,hl4,hk4⟩,hKt hkpa (hKt (hKt (hKb _ _ _ hla rfl rfl) hkp3) (hKb _ _ _ hl3 rfl rfl))⟩⟩
   |ret=>
    obtain ⟨hk3,hi3⟩:=hp
    obtain ⟨hr,hl3,hl4,hk4,hkf4⟩:=fin (some .ret) W3 hk3
    exact ⟨_,_,hr,.inr ⟨rfl,⟨.ret,(hIx _).putObj _ hi3 (by omega) hl3 rfl,hl4,hk4⟩,hkf4⟩⟩
   |exit id=>
    obtain ⟨hk3,hi3⟩:=hp
    obtain ⟨hr,hl3,hl4,hk4,hkf4⟩:=fin (some (.exit id)) W3 hk3
    exact ⟨_,_,hr,.inr ⟨rfl,⟨.exit id,(hIx _).putObj _ hi3 (by omega) hl3 rfl,hl4,hk4⟩,hkf4⟩⟩
   |goto t=>
    obtain ⟨hk3,hi3⟩:=hp
    obtain ⟨hr,hl3,hl4,hk4,hkf4⟩:=fin (some (.goto t)) W3 hk3
    exact ⟨_,_,hr,.inr ⟨rfl,⟨.goto t,(hIx _).putObj _ hi3 (by omega) hl3 rfl,hl4,hk4⟩,hkf4⟩⟩
   |panic ch=>exact hp.elim
   |outgrown=>exact hp.elim
  ·rintro e W2 ⟨⟨v,rfl⟩,(⟨xs,hSx,hi,hl,hk⟩|⟨pre,hSp,c,hi,hl,hk⟩)⟩
   ·exact ⟨none,_,by have:=run_endLoop (P:=P) hl (by rw [hrec];simp);rw [hrec] at this;exact this,hdone _ xs _ (Nat.le_refl _) (hS.putObj _ hSx (by omega) hl rfl) (hI.putObj _ hi (by omega) hl rfl) ((World.putObj_heap_other (by omega)).trans hk)⟩
   ·exact ⟨some c,_,by have:=run_endLoop (P:=P) hl (by rw [hrec];simp);rw [hrec] at this;exact this,hstop _ c pre _ (Nat.le_refl _) hSp ((hIx c).putObj _ hi (by omega) hl rfl) ((World.putObj_heap_other (by omega)).trans hk)⟩
end Go.Proofs.YtjibjahfbblieaaGreatDoor
