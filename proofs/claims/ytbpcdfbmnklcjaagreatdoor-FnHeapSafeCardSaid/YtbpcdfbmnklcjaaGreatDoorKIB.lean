import Derived.Test.YtbpcdfbmnklcjaaGreatDoorKJF
import Derived.Test.YtbpcdfbmnklcjaaGreatDoorKHZS
import Derived.Laws.IdiomCopy
import Derived.Lib.Overlaps
import Derived.Lib.AppendZerosOnto
import Derived.Laws.NewBlocks
import Derived.Test.YtbpcdfbmnklcjaaGreatDoorKHXB0
namespace Go.Proofs.YtbpcdfbmnklcjaaGreatDoor
open Go Go.RowKit
set_option maxHeartbeats 6400000
set_option maxRecDepth 100000
set_option linter.unusedVariables false
section
variable {B n:Nat} {v:Value} {w w0:World}
def Dn (B S:Nat) (v:Value) (n:Nat) (f:Nat->Nat) (w:World) (s:Nat × Int) (w':World):Prop:=DS B w' S v n f s/\Keeps w w' (fun b=>b=S)
theorem Dn.refl {B S n:Nat} {v:Value} {f:Nat->Nat} {w:World} {s:Nat × Int} (h:DS B w S v n f s):Dn B S v n f w s w:=⟨h,Keeps.refl w _⟩
theorem dB {S:Nat} {f:Nat->Nat} {s:Nat × Int} (k:Int) (hk:1<=k) (a:k<=9223372036854775807) (h:Dn B S v n f w0 s w):
 Calls Tryz.prog 21 #[.pointer (some ⟨S,0,none⟩),.int .i64 k] w fun e w'=>∃ r s',e=.returned (.int .i64 r)/\Hq (dS f n s=s'/\dV k s'=r)/\0<=r/\r<k/\Hq (Dn B S v n f w0 s' w'):=by
 refine (Ch B S v n f s k w hk a h.1).mono ?_;rintro e w' ⟨rfl,hd,b⟩;have hr:=sM (k:=k) hd.x0 hd.x1 hk a;exact ⟨_,_,rfl,ah ⟨rfl,rfl⟩,hr.1,hr.2,ah ⟨hd,h.2.trans b⟩⟩
theorem vN {S:Nat} {f:Nat->Nat} {s:Nat × Int} (k:Int) (hk:1<=k) (a:k<=9223372036854775807) (h:Dn B S v n f w0 s w):
 Calls Tryz.prog 12 #[.pointer (some ⟨S,0,none⟩),.int .i64 k] w fun e w'=>∃ b s',e=.returned (.bool b)/\Hq (dS f n s=s'/\(dV k s'==0)=b)/\Hq (Dn B S v n f w0 s' w'):=by
 have c:=ah (dB k hk a h);clear h;go_enter Tryz.func12,Tryz.ntmps12;go_wp2_with fail;refine c.o.mono ?_;rintro e w1 ⟨r,s',rfl,hr,g,d,hd⟩;clear c;go_wp2;go_ret;refine ⟨_,s',rfl,ah ⟨hr.out.1,?_⟩,hd⟩;rw [hr.out.2]
def dW (f:Nat->Nat) (n:Nat) (s:Nat × Int):Int × (Nat × Int):=
 if dV 7 (dS f n s)=0 then (-1,dS f n s) else if dV 7 (dS f n s)=1 then (9223372036854775807,dS f n s) else if dV 7 (dS f n s)=2 then (-9223372036854775808,dS f n s)
 else if dV 7 (dS f n s)=3 then (dV 100000 (dS f n (dS f n s)),dS f n (dS f n s)) else if dV 7 (dS f n s)=4 then (-(dV 1000 (dS f n (dS f n s))),dS f n (dS f n s))
 else if dV 7 (dS f n s)=5 then (wrap64 (wrap64 (dV 2000000000 (dS f n (dS f n s))*dV 2000000000 (dS f n (dS f n (dS f n s))))*3),dS f n (dS f n (dS f n s)))
 else (9223372036854775807-dV 20 (dS f n (dS f n s)),dS f n (dS f n s))
theorem rO (x:Int): -9223372036854775808<=wrap64 x/\wrap64 x<=9223372036854775807:=by
 simp only [wrap64];omega
theorem DN {S:Nat} {f:Nat->Nat} {s:Nat × Int} (h:Dn B S v n f w0 s w):
 Calls Tryz.prog 22 #[.pointer (some ⟨S,0,none⟩)] w fun e w'=>∃ r s',e=.returned (.int .i64 r)/\Hq (dW f n s=(r,s'))/\ -9223372036854775808<=r/\r<=9223372036854775807/\Hq (Dn B S v n f w0 s' w'):=by
 have i:=ah (fun (s:Nat × Int) (w:World) (k:Int) hk hk2 (h:Dn B S v n f w0 s w)=>dB k hk hk2 h);have x:=ah h;clear h;go_enter Tryz.func22,Tryz.ntmps22;go_wp2_with fail;refine (i.o _ _ _ (by omega) (by omega) x.o).mono ?_;rintro e w1 ⟨r,s1,rfl,c,g,d,hd⟩;clear x;have hr:r=0∨r=1∨r=2∨r=3∨r=4∨r=5∨r=6:=by omega
 clear g d;rcases hr with rfl|rfl|rfl|rfl|rfl|rfl|rfl
 ·go_wp2
  go_ret;refine ⟨_,_,rfl,ah ?_,by omega,by omega,hd⟩;unfold dW;rw [c.out.1,c.out.2];rfl
 ·go_wp2
  go_ret;refine ⟨_,_,rfl,ah ?_,by omega,by omega,hd⟩;unfold dW;rw [c.out.1,c.out.2];simp
 ·go_wp2
  go_ret;refine ⟨_,_,rfl,ah ?_,by omega,by omega,hd⟩;unfold dW;rw [c.out.1,c.out.2];simp
 ·go_wp2_with fail
  refine (i.o _ _ _ (by omega) (by omega) hd.out).mono ?_;rintro e m ⟨p,s2,rfl,a,g,d,b⟩;go_wp2;go_ret;refine ⟨_,_,rfl,ah ?_,by omega,by omega,b⟩;unfold dW;rw [c.out.1,c.out.2,a.out.1,a.out.2];simp
 ·go_wp2_with fail
  refine (i.o _ _ _ (by omega) (by omega) hd.out).mono ?_;rintro e m ⟨p,s2,rfl,a,g,d,b⟩;go_wp2;go_ret;refine ⟨_,_,rfl,ah ?_,by omega,by omega,b⟩;unfold dW;rw [c.out.1,c.out.2,a.out.1,a.out.2];simp
 ·go_wp2_with fail
  refine (i.o _ _ _ (by omega) (by omega) hd.out).mono ?_;rintro e m ⟨p,s2,rfl,a,g,d,b⟩;go_wp2_with fail;refine (i.o _ _ _ (by omega) (by omega) b.out).mono ?_;rintro e w3 ⟨z,y,rfl,j,u,t,q⟩;have A:=ah (l.intro (l.intro g d) (l.intro u t));clear g d u t;go_wp2;go_ret;refine ⟨_,_,rfl,ah ?_,(rO _).1,(rO _).2,q⟩;unfold dW;rw [c.out.1,c.out.2,a.out.1,a.out.2,j.out.1,j.out.2];simp
 ·go_wp2_with fail
  refine (i.o _ _ _ (by omega) (by omega) hd.out).mono ?_;rintro e m ⟨p,s2,rfl,a,g,d,b⟩;go_wp2;go_ret;refine ⟨_,_,rfl,ah ?_,by omega,by omega,b⟩;unfold dW;rw [c.out.1,c.out.2,a.out.1,a.out.2];simp
end
section
variable {K:Act->World->Prop} {Q:Exit->Act->World->Prop} {a:Act} {base i:Nat} {v:Value} {w w':World}
attribute [local go_sem] bW
theorem vY {o:Oper} (s x:Operand) (t:TypeId)
 (ho:o.op=.call { callee:=.builtin .append,args:=#[s,x],argTypes:=#[t,t] }) (c b v':Value) (d:a.eval s=c) (hx:a.eval x=b) (hr:(Builtin.append_ #[t,t] o.type #[c,b]).run Tryz.prog w=.ok v' w')
 (h:K (a.put o.dst v') w'):Oper.wp Tryz.prog o a w K Q:=by
 unfold Oper.wp execOp;simp only [ho,resolve,invoke,builtin,Sem.run_bind,Sem.run_pure,Result.andThen_ok,List.map_toArray,List.map_cons,List.map_nil,d,hx,hr];exact h
theorem zK {l:List Value} (hown:w.ownsRow base 67 1 v l.length l) (h1:∀ u∈l,u.oneCell'=true) (hl:l.length<=1000000) (hi:i<l.length):
 Calls Tryz.prog 78 #[v,.int .i64 (i:Int),.int .i64 ((i:Int)+1)] w fun e w'=>∃ v',e=.returned v'/\w'.ownsRow base 67 1 v' (l.length-1) (l.eraseIdx i)/\Keeps w w' (fun c=>v.ownBlock=some c)/\v'.ownBlock=v.ownBlock:=by
 rcases hown.2 with ⟨rfl,h0⟩|⟨g,d,p,rfl,h2,h3,h4,h5,h6,h7⟩
 ·omega
 ·have A:w.drew.heap[g]?=some (.cells p 67 (0,0)):=h3
  have J:=ay hown (g:=g) (by simp [Value.ownBlock]);obtain ⟨U,C,Z,q,Y⟩:=info_parts gY
  m [n.mul_one] at h6 h7
  have r:(l.drop (i+1)).length=l.length-(i+1):=List.length_drop ..;have a7:((i:Int)==(i:Int)+1)=false:=by simp;omega
  have b4:(i:Int)+1<=(l.length:Int):=by omega
  have b5:(i:Int)+1<=(d:Int):=by omega
  have b1:(l.length:Int)<=(d:Int):=by omega
  have y:∀ (j:n) (u:Value),(l.drop (i+1))[j]?=some u->w.drew.cell? ((⟨g,i+1,f⟩:T).add j)=some u:=by
   intro j u G
   m [bL]
   m [List.getElem?_drop] at G
   have b3:=(aJ.1 G).1;show w.cell? ⟨g,i+1+j,f⟩=some u
   m [J.c (i+1+j),bq,G]
   rfl
  have h:p.toList.length=d:=by simpa using h6
  obtain ⟨t,x⟩:∃ t,t=(p.toList.take (i*U.size)++l.drop (i+1)++p.toList.drop (i*U.size+(l.drop (i+1)).length)).toArray:=⟨_,rfl⟩
  have B:t.toList.length=d:=by
   m [x,q]
   simp only [aT,bX,List.length_drop,h,n.mul_one];omega
  have hW:(w.drew.setRow g t).ownsRow base 67 1 (.slice (some ⟨g,0,f⟩) l.length d) l.length (t.toList.take l.length):=⟨by m [bX,B];omega,.inr ⟨g,d,t,rfl,h2,setRow_heap w.drew g p t 67 (0,0) A,h4,h5,by m [n.mul_one];simpa using B,by m [n.mul_one]⟩⟩
  have H:(t.toList.take l.length).take (l.length-1)=l.eraseIdx i:=by
   m [List.take_take,n.min_eq_left (by omega),x,q,n.mul_one,List.toList_toArray,List.take_append_of_le_length (by simp only [aT,bX,List.length_drop,h];omega)]
   have e1:p.toList.take i=l.take i:=by
    m [<-h7,List.take_take,n.min_eq_left (by omega)]
   m [e1,List.eraseIdx_eq_take_drop_succ]
   exact List.take_of_length_le (by simp only [aT,bX,List.length_drop];omega)
  obtain ⟨w1,a3,z,M,a0⟩:=mo (w:=w.drew.setRow g t) (c:=d-(l.length-1)) (k:=l.length-1) Tryz.underlying70 t_ (s:=1) rfl (fun u hu=>by simp [Value.cells] at hu;subst hu;rfl) hW (by omega) 0
  m [n.mul_one] at z a3
  m [H] at z
  have kk:Keeps w (w.drew.setRow g t) (fun c=>(Value.slice (some ⟨g,0,f⟩) l.length d).ownBlock=some c):=⟨rfl,rfl,rfl,aO (setRow_size w.drew g _).symm,fun b hb hn=>setRow_other w.drew g b _ (fun c=>hn (by m [c];simp [Value.ownBlock]))⟩
  have X:=ah (And.intro z (kk.trans (M.mono (fun c e=>by m [e];simp [Value.ownBlock]))));obtain ⟨W,V,L,D⟩:∃ (W:T) (V:n),(S.append_ #[70,70] 70 #[.slice (some ⟨g,0,f⟩) i d,.slice (some W) (l.length-(i+1)) V]).run Tryz.prog w.drew=.ok (.slice (some ⟨g,0,f⟩) (l.length-1) d) (w.drew.setRow g t)/\((d=i+1/\W=⟨g,0,f⟩/\V=0/\l.length=i+1)∨(d≠i+1/\W=⟨g,i+1,f⟩/\V=d-(i+1))):=by
   by_cases N:d=i+1
   ·have hr:=run_append_room (P:=Tryz.prog) w.drew 70 70 67 U Tryz.underlying70 C g i d p A ⟨g,0,f⟩ (l.length-(i+1)) 0 (l.drop (i+1)) (by m [q,r];omega) (fun j u G=>by m [List.drop_eq_nil_of_le (by omega)] at G;simp at G) (fun u hu=>h1 u (List.mem_of_mem_drop hu)) (by omega) (by m [q,r];simp at h;omega)
    refine ⟨⟨g,0,f⟩,0,?_,.inl ⟨N,rfl,rfl,by omega⟩⟩
    m [hr,x,show i+(l.length-(i+1))=l.length-1 by omega]
   ·have hr:=run_append_room (P:=Tryz.prog) w.drew 70 70 67 U Tryz.underlying70 C g i d p A ⟨g,i+1,f⟩ (l.length-(i+1)) (d-(i+1)) (l.drop (i+1)) (by m [q,r];omega) y (fun u hu=>h1 u (List.mem_of_mem_drop hu)) (by omega) (by m [q,r];simp at h;omega)
    refine ⟨⟨g,i+1,f⟩,d-(i+1),?_,.inr ⟨N,rfl,rfl⟩⟩
    m [hr,x,show i+(l.length-(i+1))=l.length-1 by omega]
  have F:=ah L;have a8:(d:Int)<=9223372036854775807:=by unfold maxLen at h5;omega
  generalize w.drew.setRow g t=w2 at *;clear L kk M a0 z hW H B x y h hown h3 h7 A J C Z q Y h6 h1 h5 h2;have b0:(l.length:Int)-1=((l.length-1:n):Int):=by omega
  rcases D with ⟨E,rfl,rfl,R⟩|⟨E,rfl,rfl⟩
  ·subst E
   have b8:=ah R;have a2:i+1<=l.length:=by omega
   have b2:l.length<=i+1:=by omega
   have a1:(0:Int)<=(i:Int)+1:=by omega
   have a6:i<=i+1:=by omega
   have a5:(i:Int)<=(i:Int)+1:=by omega
   m [show l.length-(i+1)=0 by omega] at F
   clear R;go_enter Tryz.func78,Tryz.ntmps78;go_wp2_with fail
   go_region_law (
    refine vY (.tmp 22) (.tmp 25) 70 rfl _ _ _ rfl rfl F.o ?_)
   all_goals
    go_wp2;go_ret;exact ⟨_,rfl,X.o.1,X.o.2,rfl⟩
  ·have b7:i<=d:=by omega
   have b6:i+1<=d:=by omega
   have a2:i+1<=l.length:=by omega
   have a4:¬ d=i+1:=E;have a1:(0:Int)<=(i:Int)+1:=by omega
   go_enter Tryz.func78,Tryz.ntmps78;go_wp2_with fail
   go_region_law (
    refine vY (.tmp 22) (.tmp 25) 70 rfl _ _ _ rfl rfl F.o ?_)
   all_goals
    go_wp2;go_ret;exact ⟨_,rfl,X.o.1,X.o.2,rfl⟩
end
section
variable {K:Act->World->Prop} {N T base i j n vb:Nat} {Q:Exit->Act->World->Prop} {a:Act} {f':Nat->Value} {v:Value} {w:World}
attribute [local go_sem] bW
def g_ (w:World) (T g N:Nat) (f:Nat->Value):Prop:=∃ cur:Array Value,w.heap[g]?=some (.cells cur T (0,0))/\cur.size=N/\∀ j,j<N->cur[j]?=some (f j)
theorem g_.f {w:World} {T g N:Nat} {f:Nat->Value} (h:g_ w T g N f):aD w T g N f:=by
 obtain ⟨b,e,d,c⟩:=h;exact ⟨b,e,aO d.symm,c⟩
theorem g_.set {g:Nat} {f:Nat->Value} (h:g_ w T g N f) (o:j<N) (x:Value):g_ (w.setCell ⟨g,j,none⟩ x) T g N (fun i=>if i=j then x else f i):=by
 obtain ⟨c,m,l,k⟩:=h;have e:=heap_setCell_same w g j _ _ x m;refine ⟨_,e,by simpa using l,fun i hi=>?_⟩;by_cases b:i=j
 ·subst b
  have d:i<c.size:=by omega
  simp [d]
 ·have:=k i hi
  simp [b,Ne.symm b,this]
theorem g_.congr {g:Nat} {f:Nat->Value} (h:g_ w T g N f) (c:∀ j,j<N->f j=f' j):g_ w T g N f':=by
 obtain ⟨b,k,e,d⟩:=h;exact ⟨b,k,e,fun j hj=>by rw [d j hj,c j hj]⟩
theorem g_.sets {T g N:Nat}:∀ (b:List Value) (o:Nat) (w:World) (f:Nat->Value),g_ w T g N f->o+b.length<=N->g_ (w.setCells g o b) T g N (fun j=>if o<=j/\j<o+b.length then b.getD (j-o) (.bool false) else f j)
 | [],o,w,f,h,_=>h.congr (fun j _=>by rw [if_neg (by simp only [List.length_nil];omega)])
 |v::r,o,w,f,h,hl=>by
  rw [fZ] at hl;refine (g_.sets r (o+1) _ _ (h.set (j:=o) (by omega) v) (by omega)).congr (fun j hj=>?_);rw [fZ];by_cases c:j=o
  ·subst c
   rw [if_neg (by omega),if_pos rfl,if_pos (by omega),Nat.sub_self];rfl
  ·by_cases c2:o+1<=j/\j<o+1+r.length
   ·rw [if_pos c2,if_pos (by omega),show j-o=(j-(o+1))+1 by omega]
    rfl
   ·rw [if_neg c2,if_neg c,if_neg (by omega)]
theorem gJ (g:Nat):∀ (b:List Value) (o:Nat) (w:World),Keeps w (w.setCells g o b) (fun c=>c=g)
 | [],o,w=>Keeps.refl w _
 |v::r,o,w=>(Keeps.setCell (S:=fun c=>c=g) (Keeps.refl w _) rfl v).trans (gJ g r (o+1) _)
theorem g_.own {g:Nat} {f:Nat->Value} (h:g_ w T g N f) (hb:base<=g) (e:n<=N) (hm:N<=maxLen) {l:List Value} (b:l.length=n) (k:∀ j,j<n->l[j]?=some (f j)):w.ownsRow base T 1 (.slice (some ⟨g,0,none⟩) n N) n l:=by
 obtain ⟨d,p,o,m⟩:=h;refine ⟨by rw [Nat.mul_one];exact b,.inr ⟨g,N,d,rfl,hb,p,e,hm,by rw [Nat.mul_one];exact o,?_⟩⟩;rw [Nat.mul_one];refine List.ext_getElem? (fun j=>?_);rw [List.getElem?_take];split
 ·rename_i c
  rw [k j c,Array.getElem?_toList];exact m j (by omega)
 ·rw [fD (by omega)]
theorem wD {l:List Value} {x:Value} (hi:i<=l.length) (f:Nat->Value) (d:∀ j,j<i->l[j]?=some (f j)):∀ j,j<l.length+1->(l.take i++x::l.drop i)[j]?=some (if i<=j/\j<i+[x].length then [x].getD (j-i) (.bool false) else if i+1<=j/\j<i+1+(l.drop i).length then (l.drop i).getD (j-(i+1)) (.bool false) else f j):=by
 intro j e;have b:(l.take i).length=i:=by rw [bX];omega
 rcases Nat.lt_trichotomy j i with c|c|c
 ·rw [dF (by omega),List.getElem?_take,if_pos c,if_neg (by omega),if_neg (by omega)]
  exact d j c
 ·subst c
  rw [fI (by omega),b,Nat.sub_self,if_pos (by simp)];rfl
 ·rw [fI (by omega),b,show j-i=(j-(i+1))+1 by omega,List.getElem?_cons_succ,if_neg (by simp;omega),if_pos (by rw [List.length_drop];omega)]
  rw [bq,List.getElem?_drop];rw [aN (by omega)];rfl
theorem mM {o:Oper} (d s:Operand) (t:TypeId)
 (ho:o.op=.call { callee:=.builtin .copy,args:=#[d,s],argTypes:=#[t,t] }) (v u:Value) (hd:a.eval d=v) (b:a.eval s=u) {v':Value} {w':World}
 (hr:(Builtin.copy_ #[t,t] o.type #[v,u]).run Tryz.prog w=.ok v' w') (h:K (a.put o.dst v') w'):Oper.wp Tryz.prog o a w K Q:=by
 unfold Oper.wp execOp;simp only [ho,resolve,invoke,builtin,Sem.run_bind,Sem.run_pure,Result.andThen_ok,List.map_toArray,List.map_cons,List.map_nil,hd,b,hr];exact h
def uW (base i:Nat) (v x:Value) (l:List Value) (w:World) (e:Ending) (w':World):Prop:=∃ v',e=.returned v'/\w'.ownsRow base 67 1 v' (l.length+1) (l.take i++x::l.drop i)/\Keeps w w' (fun c=>v.ownBlock=some c)/\∀ q,v'.ownBlock=some q->v.ownBlock=some q∨w.heap.size<=q
theorem zV {x:Value} {l:List Value} (hown:w.ownsRow base 67 1 v l.length l) (Z:l.length<=1000000) (s:x.oneCell'=true) (R:aD w 67 vb 1 (fun _=>x)) (H:base<=w.heap.size):
 Calls Tryz.prog 79 #[v,.int .i64 (l.length:Int),.slice (some ⟨vb,0,none⟩) 1 1] w (uW base l.length v x l w):=by
 obtain ⟨V,y,r,p,m⟩:=info_parts gY;obtain ⟨v',w',hr,ho,k,-,t⟩:=run_append_own_at (P:=Tryz.prog) w base 70 70 67 V .nilIface 1 16 Tryz.underlying70 y r p m rfl (by decide) v l.length l hown ⟨vb,0,none⟩ 1 1 [x] rfl (fun j u hj=>by
  have E:j=0:=by have:=(aJ.1 hj).1;simp at this;omega
  subst E;simp at hj;rw [bL,Nat.zero_add,R.c 0,hj]) (fun u hu=>by simp at hu;rw [hu];exact s) (by unfold maxLen;omega) (by omega) H
 have U:Hq (uW base l.length v x l w (.returned v') w'):=ah (by
  refine ⟨v',rfl,?_,⟨k.os,k.tape,k.output,k.size,fun b hb hn=>k.block b hb (fun e=>hn e.symm)⟩,fun q hq=>?_⟩
  ·rw [bf,List.drop_length];exact ho
  ·rcases t with c|c
   ·exact .inl (c ▸ hq)
   ·rw [c] at hq;simp at hq;exact .inr (aO hq))
 have h:=ah hr;obtain ⟨S,A,C⟩:=aF hown;subst C;have f:S=none->l.length=0/\A=0:=fun c=>by
  subst c;rcases hown.2 with ⟨d,B⟩|⟨g,z,J,d,_⟩
  ·simp only [Value.slice.injEq] at d;exact ⟨B,d.2.2⟩
  ·simp at d
 have G:l.length<=A:=by
  rcases hown.2 with ⟨d,B⟩|⟨g,z,J,d,_,_,h4,_⟩
  ·omega
  ·simp only [Value.slice.injEq] at d;omega
 have W:((1:Int)==0)=false:=rfl;have F:((l.length:Int)==(l.length:Int))=true:=by simp
 clear hown ho k t hr y r p m R s;cases S with
 |none=>
  obtain ⟨d,B⟩:=f rfl;subst B;rw [d] at h;have L:=ah d;obtain ⟨M,D⟩:∃ M,l.length=M:=⟨_,rfl⟩
  rw [d] at F ⊢;clear d f G D;go_enter Tryz.func79,Tryz.ntmps79;go_wp2_with (first
   |(at_builtin
     refine vL rfl (.tmp 23) (.tmp 24) 70 rfl _ _ v' rfl rfl h.o ?_)
   |fail)
  go_ret;have:=U.o;rw [L.o] at this;exact this
 |some ad=>
  obtain ⟨ab,Y,X⟩:=ad;clear f;go_enter Tryz.func79,Tryz.ntmps79;go_wp2_with (first
   |(at_builtin
     refine vL rfl (.tmp 23) (.tmp 24) 70 rfl _ _ v' rfl rfl h.o ?_)
   |fail)
  all_goals
   go_ret;exact U.o
end
section
variable {base cap i vb:Nat} {w:World}
attribute [local go_sem] bW
theorem lK:(Tryz.prog.info? 67).map (·.size)=some 1:=by
 obtain ⟨e,b,d,a,c⟩:=info_parts gY;rw [b];simp [a]
theorem Ew (w:World):(Go.sizeOf 67).run Tryz.prog w=.ok 1 w:=by kernel_rfl
theorem vJ {g:Nat} {x:Value} {l:List Value} (hown:w.ownsRow base 67 1 (.slice (some ⟨g,0,none⟩) l.length cap) l.length l) (R:∀ u∈l,u.oneCell'=true) (hl:l.length<=1000000) (y:x.oneCell'=true) (E:g_ w 67 vb 1 (fun _=>x)) (A:vb≠g) (hi:i<l.length) (G:l.length+1<=cap):
 Calls Tryz.prog 79 #[.slice (some ⟨g,0,none⟩) l.length cap,.int .i64 (i:Int),.slice (some ⟨vb,0,none⟩) 1 1] w (uW base i (.slice (some ⟨g,0,none⟩) l.length cap) x l w):=by
 rcases hown.2 with ⟨h0,_⟩|⟨g',S,a,z,Q,N,h4,M,F,L⟩
 ·cases h0
 ·simp only [Value.slice.injEq,Option.some.injEq,Addr.mk.injEq,true_and,and_true] at z
  obtain ⟨rfl,rfl⟩:=z;rw [Nat.mul_one] at F L;have B:g_ w 67 g cap (fun j=>a.toList.getD j (.bool false)):=⟨a,N,F,fun j hj=>by
   show a[j]?=some (a.toList.getD j (.bool false));rw [bq,Array.getElem?_toList,Array.getElem?_eq_getElem (by omega)];rfl⟩
  have p:∀ j,j<l.length->l[j]?=some (a.toList.getD j (.bool false)):=fun j hj=>by
   rw [<-L,List.getElem?_take,if_pos hj,bq];cases hc:a.toList[j]? with
   |none=>have:=List.getElem?_eq_none_iff.1 hc;simp at this;omega
   |some u=>rfl
  have s:(l.drop i).length=l.length-i:=List.length_drop ..;have h:=g_.sets (l.drop i) (i+1) w.drew _ (show g_ w.drew 67 g cap _ from B) (by rw [s];omega);have t:=g_.sets [x] i _ _ h (by show i+1<=cap;omega);have d:∀ (j:Nat) (u:Value),l[j]?=some u->w.cell? ⟨g,j,none⟩=some u:=fun j u hj=>by
   have J:=(aJ.1 hj).1;rw [B.f.c j];rw [p j J] at hj;exact hj
  have b:∀ ty dc sc,(Builtin.copy_ #[70,70] ty #[.slice (some ⟨g,i+1,none⟩) (l.length-i) dc,.slice (some ⟨g,i,none⟩) (l.length+1-i) sc]).run Tryz.prog w.drew=.ok (goInt (l.drop i).length) (w.drew.setCells g (i+1) (l.drop i)):=fun ty dc sc=>
   run_copy_cells w.drew _ _ ty 67 g (i+1) (l.length-i) dc ⟨g,i,none⟩ (l.length+1-i) sc (l.drop i) Tryz.underlying70 lK (by rw [s];simp only [Nat.min_def];split<;>omega)
    (fun j u hj=>by rw [bL];exact d (i+j) u (by rwa [List.getElem?_drop] at hj))
    (fun j hj=>by show (w.cell? _).isSome=true;rw [B.f.cell (j:=i+1+j) (by rw [s] at hj;omega)];rfl) (fun j hj=>B.f.Nq _) (fun u hu=>R u (List.mem_of_mem_drop hu))
  obtain ⟨k,v⟩:∃ k,k=w.drew.setCells g (i+1) (l.drop i):=⟨_,rfl⟩
  rw [<-v] at b h t;have r:Keeps w k (fun c=>c=g):=by
   rw [v];have:=gJ g (l.drop i) (i+1) w.drew;exact ⟨this.os,this.tape,this.output,this.size,this.block⟩
  have n:=E.f.keep r A;have m:∀ ty dc,(Builtin.copy_ #[70,70] ty #[.slice (some ⟨g,i,none⟩) (l.length+1-i) dc,.slice (some ⟨vb,0,none⟩) 1 1]).run Tryz.prog k=.ok (goInt [x].length) (k.setCells g i [x]):=fun ty dc=>
   run_copy_cells k _ _ ty 67 g i (l.length+1-i) dc ⟨vb,0,none⟩ 1 1 [x] Tryz.underlying70 lK (by simp only [Nat.min_def,List.length_singleton];split<;>omega)
    (fun j u hj=>by
      have K:j=0:=by have:=(aJ.1 hj).1;simp at this;omega
      subst K;simp at hj;rw [bL,Nat.zero_add,n.c 0,hj])
    (fun j hj=>by simp at hj;rw [h.f.c (i+j)];rfl) (fun j hj=>h.f.Nq _) (fun u hu=>by simp at hu;rw [hu];exact y)
  have H:∀ lb cb,(callFunc 109 #[.slice (some ⟨vb,0,none⟩) 1 1,.slice (some ⟨g,i+1,none⟩) lb cb]).run Tryz.prog w=.ok (.value (.bool false)) w:=fun lb cb=>by
   obtain ⟨cv,q1,T,q3⟩:=E;rw [run_callFunc_extern Tryz.func109 (by kernel_rfl) (by kernel_rfl) (by kernel_rfl) (e:=Extern.SlicesOverlaps.overlaps #[70,70] #[4]) (by kernel_rfl),
    Lib.run_overlaps_apart w 70 4 67 Tryz.underlying70 1 Ew ⟨vb,0,none⟩ ⟨g,i+1,none⟩ 1 1 lb cb A 67 67 1 cap (by simp [World.shape?,q1,T]) (by simp [World.shape?,N,F]) (by omega) (by simp [World.frozen?,q1]) (by simp [World.frozen?,q1])]
   rfl
  have HF:Hq (uW base i (.slice (some ⟨g,0,none⟩) l.length cap) x l w (.returned (.slice (some ⟨g,0,none⟩) (l.length+1) cap)) (k.setCells g i [x])):=ah (by
   refine ⟨_,rfl,?_,?_,fun q hq=>.inl (by simpa [Value.ownBlock] using hq)⟩
   ·refine t.own Q (by omega) M (by simp;omega) (wD (by omega) _ (fun j hj=>p j (by omega)))
   ·exact (r.trans (gJ g [x] i k)).mono (fun c e=>by rw [e];simp [Value.ownBlock]))
  have D:=ah b;have C:=ah m;have U:((i:Int)==(l.length:Int))=false:=by simp;omega
  have W:¬ ((l.length:Int)+1 > (cap:Int)):=by omega
  have a6:(0:Int)<=(i:Int)+1:=by omega
  have a5:¬ (cap=i+1):=by omega
  have a4:¬ (cap=i):=by omega
  have a3:(i:Int)<=(l.length:Int)+1:=by omega
  have a2:i<=l.length:=by omega
  have a1:i+1<=l.length+1:=by omega
  have a0:(l.length:Int)+1<=(cap:Int):=by omega
  have Z:(i:Int)<=(l.length:Int):=by omega
  have X:(cap:Int)<=9223372036854775807:=by unfold maxLen at M;omega
  have V:=IntWalk.i64_in ((i:Int)+1) (by omega);have a7:w.cell? ⟨vb,0,none⟩=some x:=E.f.c 0;have P:k.cell? ⟨vb,0,none⟩=some x:=n.c 0;clear b m B h t p d v r n hown N L E R y F Q M;go_enter Tryz.func79,Tryz.ntmps79;go_wp2_with (simp only [H])
  go_region_held3 (fun w'=>w'.cell? ⟨vb,0,none⟩=some x) (go_keep)
   (first
     |(refine mM (.tmp 73) (.tmp 76) 70 rfl (.slice (some ⟨g,i+1,none⟩) (l.length-i) (cap-(i+1))) (.slice (some ⟨g,i,none⟩) (l.length+1-i) (cap-i)) rfl rfl (D.o _ _ _) ?_
       have t1:=P))
  have Y:=C.o 3 (cap-i);go_wp2;go_ret;exact HF.o
end
section
variable {Q:Exit->Act->World->Prop} {a:Act} {base cap i vb:Nat} {ops:Array Oper} {rest:List Oper} {v:Value} {w w':World}
attribute [local go_sem] bW
theorem Cj {o:Oper} (b:o.guard=none) (s x:Operand) (t e:TypeId)
 (ho:o.op=.call { callee:=.builtin .append,args:=#[s,x],argTypes:=#[t,e] }) (d c v':Value) (f:a.eval s=d) (hx:a.eval x=c) (hr:(Builtin.append_ #[t,e] o.type #[d,c]).run Tryz.prog w=.ok v' w')
 (h:wpList Tryz.prog ops Q rest (a.put o.dst v') w'):wpList Tryz.prog ops Q (o::rest) a w:=
 wpList_plain b fun _ hK=>by
  unfold Oper.wp execOp;simp only [ho,resolve,invoke,builtin,Sem.run_bind,Sem.run_pure,Result.andThen_ok,List.map_toArray,List.map_cons,List.map_nil,f,hx,hr];exact hK _ _ h
theorem vW (n:Nat):(Builtin.zeroCells (Value.nilIface).cells n).size=n:=by simp [Builtin.zeroCells,Value.cells]
theorem xR {g:Nat} {x:Value} {l:List Value} (hown:w.ownsRow base 67 1 (.slice (some ⟨g,0,none⟩) l.length cap) l.length l) (h1:∀ u∈l,u.oneCell'=true) (hl:l.length<=1000000) (X:x.oneCell'=true) (hv:g_ w 67 vb 1 (fun _=>x)) (hi:i<l.length) (K:cap<l.length+1) (a7:base<=w.heap.size):
 Calls Tryz.prog 79 #[.slice (some ⟨g,0,none⟩) l.length cap,.int .i64 (i:Int),.slice (some ⟨vb,0,none⟩) 1 1] w (uW base i (.slice (some ⟨g,0,none⟩) l.length cap) x l w):=by
 have L:=ay hown (g:=g) (by simp [Value.ownBlock]);have b1:l.length<=cap:=by
  rcases hown.2 with ⟨h0,_⟩|⟨g',b5,d2,a5,_,_,h4,_⟩
  ·cases h0
  ·simp only [Value.slice.injEq] at a5;omega
 obtain ⟨i0,Z,W,V,J⟩:=info_parts gY;have n:∀ (j:Nat) (u:Value),l[j]?=some u->w.cell? ⟨g,j,none⟩=some u:=fun j u hj=>by
  have c0:=(aJ.1 hj).1;rw [L.c j,bq,hj];rfl
 have D:=L.lt;have Y:=hv.f.lt;have F:(b.firstCells i0.size i (.slice (some ⟨g,0,none⟩) i cap)).run Tryz.prog w.drew=.ok (l.take i).toArray w.drew:=by
  rw [V];exact run_firstCells_some w.drew 1 i ⟨g,0,none⟩ i cap (l.take i) (by rw [bX];omega) (fun j u hj=>by
   rw [bL,Nat.zero_add];rw [List.getElem?_take] at hj;split at hj
   ·exact n j u hj
   ·cases hj)
 obtain ⟨G,hG⟩:∃ G,G=T w (l.length+1) cap 67:=⟨_,rfl⟩
 have d1:l.length+1<=G:=by rw [hG];exact grownCap_ge w _ _ _
 have S:G<=maxLen:=by rw [hG];exact grownCap_le_maxLen w _ _ _ (by unfold maxLen;omega)
 have B:∀ ty,(b.append_ #[70,3] ty #[.slice (some ⟨g,0,none⟩) i cap,.int .i64 ((l.length+1-i:Nat):Int)]).run Tryz.prog w=.ok (.slice (some ⟨w.heap.size,0,none⟩) (l.length+1) G) (w.drew.alloc (.cells ((l.take i).toArray++b.zeroCells (Value.nilIface).cells (l.length+1-i)++b.zeroCells (Value.nilIface).cells (G-(l.length+1))) 67)):=fun ty=>by
  have h:=Lib.run_append_grow_zeros w 70 3 ty 67 i0 _ .i64 .i64 Tryz.underlying70 Tryz.underlying3 Z W (some ⟨g,0,none⟩) i cap (l.take i) F (l.length+1-i) (by omega) (by omega) (by omega) (by omega) (by rw [J];omega) (by rw [J,show i+(l.length+1-i)=l.length+1 by omega];exact growslice_fits K (by omega));rw [show i+(l.length+1-i)=l.length+1 by omega,<-hG] at h;exact h
 obtain ⟨k,s⟩:∃ k:d Value,k=(l.take i).toArray++b.zeroCells (Value.nilIface).cells (l.length+1-i)++b.zeroCells (Value.nilIface).cells (G-(l.length+1)):=⟨_,rfl⟩
 rw [<-s] at B;have a0:k.size=G:=by
  rw [s,d.size_append,d.size_append,vW,vW,List.size_toArray,bX];omega
 have a1:∀ j,j<i->k[j]?=l[j]?:=fun j hj=>by
  have ht:j<(l.take i).toArray.size:=by rw [List.size_toArray,bX];omega
  rw [s,d.getElem?_append_left (by rw [d.size_append];omega),d.getElem?_append_left ht,List.getElem?_toArray,List.getElem?_take,if_pos hj]
 obtain ⟨y,E⟩:∃ y,y=w.drew.alloc (.cells k 67):=⟨_,rfl⟩
 rw [<-E] at B;have t:Below w.heap.size w y:=by
  rw [E];have:=aU w.drew (.cells k 67);exact ⟨this.os,this.tape,this.output,this.size,this.block⟩
 have hX:g_ y 67 w.heap.size G (fun j=>k.toList.getD j (.bool false)):=⟨k,by rw [E];exact d.getElem?_push_size ..,a0,fun j hj=>by
  show k[j]?=some (k.toList.getD j (.bool false));rw [bq,d.getElem?_toList,d.getElem?_eq_getElem (by omega)];rfl⟩
 have M:(l.drop i).length=l.length-i:=List.length_drop ..;have A:=g_.sets [x] i y _ hX (by show i+1<=G;omega);have P:=g_.sets (l.drop i) (i+1) (y.setCells w.heap.size i [x]).drew _ (show g_ (y.setCells w.heap.size i [x]).drew 67 w.heap.size G _ from A) (by rw [M];omega);have z:∀ ty dc,(b.copy_ #[70,70] ty #[.slice (some ⟨w.heap.size,i,none⟩) (l.length+1-i) dc,.slice (some ⟨vb,0,none⟩) 1 1]).run Tryz.prog y=.ok (goInt [x].length) (y.setCells w.heap.size i [x]):=fun ty dc=>
  run_copy_cells y _ _ ty 67 w.heap.size i (l.length+1-i) dc ⟨vb,0,none⟩ 1 1 [x] Tryz.underlying70 lK (by simp only [Nat.min_def,List.length_singleton];split<;>omega)
   (fun j u hj=>by
     have a6:j=0:=by have:=(aJ.1 hj).1;simp at this;omega
     subst a6;simp at hj;rw [bL,Nat.zero_add,t.cell (p:=⟨vb,0,none⟩) Y,hv.f.c 0,hj])
   (fun j hj=>by simp at hj;rw [hX.f.c (i+j)];rfl) (fun j hj=>hX.f.Nq _) (fun u hu=>by simp at hu;rw [hu];exact X)
 obtain ⟨r,R⟩:∃ r,r=y.setCells w.heap.size i [x]:=⟨_,rfl⟩
 rw [<-R] at z A P;have C:Keeps y r (fun c=>c=w.heap.size):=by rw [R];exact gJ _ _ _ _
 have m:∀ (j:Nat) (u:Value),l[j]?=some u->r.cell? ⟨g,j,none⟩=some u:=fun j u hj=>by
  rw [aM (a:=⟨g,j,none⟩) (C.block g (aX D t.size) (by show ¬ g=w.heap.size;omega)),t.cell (p:=⟨g,j,none⟩) D];exact n j u hj
 have H:∀ ty dc sc,(b.copy_ #[70,70] ty #[.slice (some ⟨w.heap.size,i+1,none⟩) (l.length-i) dc,.slice (some ⟨g,i,none⟩) (l.length-i) sc]).run Tryz.prog r.drew=.ok (goInt (l.drop i).length) (r.drew.setCells w.heap.size (i+1) (l.drop i)):=fun ty dc sc=>
  run_copy_cells r.drew _ _ ty 67 w.heap.size (i+1) (l.length-i) dc ⟨g,i,none⟩ (l.length-i) sc (l.drop i) Tryz.underlying70 lK (by rw [M];simp only [Nat.min_def];split<;>omega)
   (fun j u hj=>by rw [bL];exact m (i+j) u (by rwa [List.getElem?_drop] at hj))
   (fun j hj=>by show (r.cell? _).isSome=true;rw [A.f.cell (j:=i+1+j) (by rw [M] at hj;omega)];rfl) (fun j hj=>A.f.Nq _) (fun u hu=>h1 u (List.mem_of_mem_drop hu))
 have HF:Hq (uW base i (.slice (some ⟨g,0,none⟩) l.length cap) x l w (.returned (.slice (some ⟨w.heap.size,0,none⟩) (l.length+1) G)) (r.drew.setCells w.heap.size (i+1) (l.drop i))):=ah (by
  refine ⟨_,rfl,?_,?_,fun q hq=>.inr (by simp [Value.ownBlock] at hq;omega)⟩
  ·refine (P.congr (fun j hj=>?_)).own a7 (by omega) S (by simp;omega) (wD (by omega) (fun j=>k.toList.getD j (.bool false)) (fun j hj=>?_))
   ·by_cases c:i<=j/\j<i+[x].length
    ·rw [if_neg (by simp at c;omega),if_pos c,if_pos c]
    ·rw [if_neg c,if_neg c]
   ·rw [<-a1 j hj,bq,d.getElem?_toList]
    rw [d.getElem?_eq_getElem (by omega)];rfl
  ·have U:=gJ w.heap.size (l.drop i) (i+1) r.drew
   have a4:Keeps r (r.drew.setCells w.heap.size (i+1) (l.drop i)) (fun c=>c=w.heap.size):=⟨U.os,U.tape,U.output,U.size,U.block⟩
   exact Keeps.into (Keeps.into (Keeps.of t (au _) _) C (fun c e=>.inr (by omega))) a4 (fun c e=>.inr (by omega)))
 have b0:=ah B;have a3:=ah z;have a2:=ah H;have b6:((i:Int)==(l.length:Int))=false:=by simp;omega
 have b8:(l.length:Int)+1 > (cap:Int):=by omega
 have b3:(0:Int)<=(i:Int)+1:=by omega
 have d0:¬ (cap=i):=by omega
 have c9:(i:Int)<=(cap:Int):=by omega
 have c8:i<=l.length:=by omega
 have b2:i<=cap:=by omega
 have c7:i+1<=l.length+1:=by omega
 have c6:(i:Int)<=(l.length:Int):=by omega
 have c4:¬ (G=i):=by omega
 have c3:¬ (G=i+1):=by omega
 have c2:(i:Int)<=(l.length:Int)+1:=by omega
 have c1:i<=l.length+1:=by omega
 have b9:(l.length:Int)+1-(i:Int)=((l.length+1-i:Nat):Int):=by omega
 have b4:(G:Int)<=9223372036854775807:=by unfold maxLen at S;omega
 have b7:=IntWalk.i64_in ((i:Int)+1) (by omega);have a9:r.cell? ⟨g,0,none⟩=some l[0]:=m 0 _ (aN (by omega));have a8:(r.drew.setCells w.heap.size (i+1) (l.drop i)).cell? ⟨g,0,none⟩=some l[0]:=by
  rw [aM (a:=⟨g,0,none⟩) ((gJ w.heap.size (l.drop i) (i+1) r.drew).block g (aX D (aI t.size C.size)) (by show ¬ g=w.heap.size;omega))];exact a9
 clear z H hX A P n m E C t R hown hv h1 X B a1 a0 s F Z W V J hG L S D Y;generalize w.heap.size=N at *;go_enter Tryz.func79,Tryz.ntmps79;have c5:=a3.o 3 (G-i);go_wp2_with (first
  |(at_builtin
    refine Cj rfl (.tmp 34) (.tmp 39) 70 3 rfl _ _ _ rfl rfl (b0.o _) ?_)
  |fail)
 go_region_held3 (fun w'=>w'.cell? ⟨g,0,none⟩=some l[0]) (go_keep)
  (first
    |(refine mM (.tmp 50) (.tmp 53) 70 rfl (.slice (some ⟨N,i+1,none⟩) (l.length-i) (G-(i+1))) (.slice (some ⟨g,i,none⟩) (l.length-i) (cap-i)) rfl rfl (a2.o _ _ _) ?_
      have t1:=a8))
 go_wp2;go_ret;exact HF.o
theorem zQ {x:Value} {l:List Value} (hown:w.ownsRow base 67 1 v l.length l) (o:∀ u∈l,u.oneCell'=true) (m:l.length<=1000000) (b:x.oneCell'=true) (k:g_ w 67 vb 1 (fun _=>x)) (j:v.ownBlock≠some vb) (hi:i<=l.length) (h:base<=w.heap.size):
 Calls Tryz.prog 79 #[v,.int .i64 (i:Int),.slice (some ⟨vb,0,none⟩) 1 1] w (uW base i v x l w):=by
 rcases Nat.eq_or_lt_of_le hi with c|c
 ·subst c
  exact zV hown m b k.f h
 ·obtain ⟨g,cap,rfl⟩:∃ g cap,v=.slice (some ⟨g,0,none⟩) l.length cap:=by
   rcases hown.2 with ⟨_,n⟩|⟨g,cap,p,n,_⟩
   ·omega
   ·exact ⟨g,cap,n⟩
  rcases Nat.lt_or_ge cap (l.length+1) with d|d
  ·exact xR hown o m b k c d h
  ·exact vJ hown o m b k (fun e=>j (by rw [e];simp [Value.ownBlock])) c d
end
section
variable {L:PM} {R base hand k q z:Nat} {S:Nat->Prop} {h:Hp} {l:List Nat} {root:List Bool} {w:World}
attribute [local go_sem] bW
theorem mJ:∀ (l:List Bool) (i:Nat),(dR i l).Pairwise (·< ·)
 | [],i=>by simp [dR]
 |a::l,i=>by
  rw [dR,List.pairwise_append];refine ⟨by split<;>simp,mJ l (i+1),fun x hx y hy=>?_⟩;have h2:=(rE l (i+1) y).1 hy;split at hx
  ·simp at hx;omega
  ·simp at hx
theorem rC:∀ (a b:List Nat),a.Pairwise (·< ·)->b.Pairwise (·< ·)->(∀ n,n∈a↔n∈b)->a=b
 | [],[],_,_,_=>rfl
 | [],y::b,_,_,h=>absurd ((h y).2 (List.mem_cons_self ..)) (by simp)
 |x::a,[],_,_,h=>absurd ((h x).1 (List.mem_cons_self ..)) (by simp)
 |x::a,y::b,ha,hb,h=>by
  rw [List.pairwise_cons] at ha hb;have hxy:x=y:=by
   rcases eT.1 ((h x).1 (List.mem_cons_self ..)) with c|c
   ·exact c
   ·have i:=hb.1 x c
    rcases eT.1 ((h y).2 (List.mem_cons_self ..)) with d|d
    ·exact d.symm
    ·have g:=ha.1 y d;omega
  subst hxy;rw [rC a b ha.2 hb.2 (fun n=>?_)];have e:=h n;rw [eT,eT] at e;constructor
  ·intro c
   have f:=ha.1 n c;exact (e.1 (.inr c)).resolve_left (by omega)
  ·intro c
   have f:=hb.1 n c;exact (e.2 (.inr c)).resolve_left (by omega)
theorem wY (up:l.Pairwise (·< ·)) (b:MK l z q):oV l z q=true↔z∈l:=by
 unfold oV;rw [decide_eq_true_eq];constructor
 ·exact fun e=>aW e
 ·intro e
  obtain ⟨p,hp⟩:=List.mem_iff_getElem?.1 e;rcases Nat.lt_trichotomy p q with c|c|c
  ·have:=b.lo p z hp c;omega
  ·rw [<-c];exact hp
  ·have d:q<l.length:=Nat.lt_trans c (aJ.1 hp).1
   obtain ⟨m,hm⟩:∃ m,l[q]?=a m:=⟨_,aN d⟩
   have g:=b.hi q m hm (au _);have f:=List.pairwise_iff_getElem.1 up q p d (aJ.1 hp).1 c;rw [(aJ.1 hm).2,(aJ.1 hp).2] at f;omega
theorem yh (m:z<root.length) (b:MK (dR 0 root) z q) (hm:z∈dR 0 root):(dR 0 root).eraseIdx q=dR 0 (root.set z false):=by
 have up:=mJ root 0;refine rC _ _ (up.sublist (List.eraseIdx_sublist _ _)) (mJ _ _) (fun n=>?_);have a:=(wY up b).2 hm;unfold oV at a;rw [decide_eq_true_eq] at a;rw [List.mem_eraseIdx_iff_getElem?,dP,bY];constructor
 ·rintro ⟨p,hp,g⟩
  have f:z≠n:=by
   intro c;subst c;have j:=(aJ.1 g).1;have i:=(aJ.1 a).1;have e1:=(aJ.1 g).2;have o:=(aJ.1 a).2;rcases Nat.lt_or_ge p q with c|c
   ·have:=List.pairwise_iff_getElem.1 up p q j i c
    omega
   ·have:=List.pairwise_iff_getElem.1 up q p i j (by omega)
    omega
  rw [if_neg f];exact dP.1 (aW g)
 ·intro c
  split at c
  ·simp at c
  ·rename_i d
   obtain ⟨p,hp⟩:=List.mem_iff_getElem?.1 (dP.2 c);refine ⟨p,fun e=>?_,hp⟩;rw [e,a] at hp;simp at hp;exact d hp
theorem yE (j:z<root.length) (b:MK (dR 0 root) z q) (hm:z ∉ dR 0 root):(dR 0 root).take q++z::(dR 0 root).drop q=dR 0 (root.set z true):=by
 have up:=mJ root 0;refine rC _ _ ?_ (mJ _ _) (fun n=>?_)
 ·rw [List.pairwise_append,List.pairwise_cons]
  refine ⟨up.sublist (List.take_sublist _ _),⟨fun y hy=>?_,up.sublist (List.drop_sublist _ _)⟩,fun x hx y hy=>?_⟩
  ·obtain ⟨p,hp⟩:=List.mem_iff_getElem?.1 hy
   rw [List.getElem?_drop] at hp;have e:=b.hi _ y hp (by omega);rcases Nat.eq_or_lt_of_le e with c|c
   ·subst c;exact absurd (aW hp) hm
   ·exact c
  ·obtain ⟨p,hp⟩:=List.mem_iff_getElem?.1 hx
   rw [List.getElem?_take] at hp;split at hp
   ·rename_i c
    have e:=b.lo p x hp c;rcases eT.1 hy with d|d
    ·omega
    ·obtain ⟨i,a⟩:=List.mem_iff_getElem?.1 d
     rw [List.getElem?_drop] at a;have m:=b.hi _ y a (by omega);omega
   ·cases hp
 ·rw [aY,eT,dP,bY]
  have g:n∈dR 0 root↔n∈(dR 0 root).take q∨n∈(dR 0 root).drop q:=by
   conv=>lhs;rw [<-List.take_append_drop q (dR 0 root)]
   rw [aY]
  have f:=dP (l:=root) (n:=n);split
  ·rename_i c
   exact ⟨fun _=>rfl,fun _=>.inr (.inl c.symm)⟩
  ·rename_i c
   rw [<-f,g];constructor
   ·rintro (d|d|d)
    ·exact .inl d
    ·exact absurd d.symm c
    ·exact .inr d
   ·rintro (d|d)
    ·exact .inl d
    ·exact .inr (.inr d)
theorem oq {bb:Bool} (h:root[z]?=some bb):root.set z bb=root:=by
 refine List.ext_getElem? (fun n=>?_);rw [bY];split
 ·rename_i c
  subst c;rw [if_pos (aJ.1 h).1,h]
 ·rfl
theorem kL (x:PW base S h L R hand w) (ok:Jl k h root hand) (hk:k<=5000) (b:MG h) (A B:Int) (code:Int) (h':Hp) (a6:fJ h hand A->(B=0∨B=1)->code=0/\h'=h.G9 (dR 0 (dJ root A.toNat B))) (a7:fJ h hand A->¬ (B=0∨B=1)->code=2/\h'=h) (c3:¬ fJ h hand A->code=3/\h'=h):
 Calls Tryz.prog 51 #[.pointer (some ⟨R,0,none⟩),.int .i64 A,.int .i64 B] w (jk base S L.H w (.int .i64 code) h'):=by
 have J:=ah a6;have K:=ah a7;have a2:=ah c3;clear a6 c3 a7;have HD:=ah (jU x.p ok.g ok.g.s.len x.r ok.hd ok.g.s.rt);have HX:=ah x;have a1:=ah ok;have h2:=ah b;have g7:=ok.g.s.len;have vE:=ok.g.i.ps;clear x ok b;go_enter Tryz.func51,Tryz.ntmps51;go_wp2_with fail;refine HD.o.mono ?_;rintro e1 w1 ⟨F,sn,rfl,b1,V,f0,b0,b8⟩;have a0:=ah V;have T:=ah b8;have hN:sn.length<=1000000:=by omega
 have f1:1<=sn.length:=by omega
 have d3:=ah (lT b1 b0);have h1:=ah b0;have c8:=ah (HX.o.hole b8 f0 V.lt);have e8:=V.lt;have f4:=ah b1;clear V b8 b0 HD b1;have HH:=ah (iU a0.o f1 hN A);cases hA:iR sn A with
 |false=>
  rw [hA] at HH;obtain ⟨rfl,rfl⟩:=a2.o (fun c=>by rw [(d3.o A).2 c] at hA;cases hA);clear hA a2 J K;go_wp2_with fail;refine HH.o.mono ?_;rintro e2 w2 ⟨rfl,rfl⟩;go_wp2;go_ret;exact jk.same HX.o.p T.o
 |true=>
  rw [hA] at HH;have W:=(d3.o _).1 hA;have Y:=ah (gI w1 B 0 1);by_cases N:B=0∨B=1
  ·rw [show (decide ((0:Int)<=B)&&decide (B<=1))=true by simp;omega] at Y
   obtain ⟨n,rfl,g6,e0,c5⟩:=jN hA;obtain ⟨rfl,rfl⟩:=J.o W N;obtain ⟨px,py,G,X,rP⟩:=id c8.o.p;have b3:=X.li 10 (by simp [eF]);obtain ⟨Aa,C,c0⟩:=aF b3;have f:L.li 10=.slice Aa h.roots.length C:=c0;have c6:=a1.o.l;have b2:=a1.o.o;have b4:h.roots.length<=5001:=a1.o.g.s.rt;have U:w1.ownsRow base 67 1 (.slice Aa h.roots.length C) (h.roots.map (eP L.tb 10)).length (h.roots.map (eP L.tb 10)):=by rw [bI,<-f];exact b3
   have b7:h.roots.length<=C:=by
    rcases U.2 with ⟨d1,d2⟩|⟨g9,f9,f8,d1,_,_,d4,_⟩
    ·rw [bI] at d2;omega
    ·simp only [Value.slice.injEq] at d1;rw [bI] at d4;omega
   have a9:h.roots.Pairwise (·< ·):=by rw [b2];exact mJ _ _
   have c7:∀ p m:Nat,h.roots[p]?=some m->∃ g,Aa=some ⟨g,0,none⟩/\w1.cell? ⟨g,p,none⟩=some (.iface 127 (.pointer (some ⟨L.tb m,0,none⟩)))/\w1.cell? ⟨L.tb m,1,none⟩=some (.int .i64 (m:Int)):=by
    d8 p m hm
    obtain ⟨A2,g0,e1,e2,e3⟩:=X.IC (k:=10) (by simp [eF]);have e4:=e1.symm.trans f;simp only [Value.slice.injEq] at e4;obtain ⟨g,e5,e6,e7⟩:=e3 p m hm;obtain ⟨om,d9,-⟩:=a1.o.g.i.ls m (.inl (aW hm));exact ⟨g,e4.1.symm.trans e5,e7,(X.ob m om d9).c 1⟩
   have f7:=ah (Cv a9 b4 b7 c7 n);have r0:w1.cell? ⟨R,0,none⟩=some (.pointer (some ⟨L.H,0,none⟩)):=c8.o.r.c 0;have f2:w1.cell? ⟨L.H,10,none⟩=some (.slice Aa h.roots.length C):=by rw [X.hp.c 10];exact congrArg some f
   have d7:=X.hp.Nq 10;have E:=ah X;have c9:=ah rP;have P:=ah f;have Q:=ah U;have Z:=ah (a4.intro c6 b2);have c4:n<root.length:=by have:=f4.o;omega
   have fn:=a0.o.cell (j:=n) e0;rw [nE c5] at fn;have g5:(n:Int)<(sn.length:Int):=by omega
   have g8:=X.hp.lt;have e9:F≠L.H:=fun c=>a0.o.apart X.hp (by decide) c;have h0:L.H≠F:=fun c=>e9 c.symm;have d0:Hq (∀ u∈h.roots.map (eP L.tb 10),u.oneCell'=true):=ah (fun u hu=>by
    obtain ⟨m,_,rfl⟩:=List.mem_map.1 hu;rfl)
   have f3:=ah a9;clear hA a2 J K W X rP b3 c0 f U c7 c6 b2 c5 a9;go_wp2_with fail;refine HH.o.mono ?_;rintro e2 w2 ⟨rfl,rfl⟩;go_wp2_with fail;refine Y.o.mono ?_;rintro e3 w3 ⟨rfl,rfl⟩;go_wp2_with fail;refine f7.o.mono ?_;rintro e4 w4 ⟨q,rfl,hq,rfl⟩;have HQ:=ah hq;have c1:=hq.le;have d5:=ah (wY f3.o hq);cases hhit:oV h.roots n q with
   |true=>
    have d:=d5.o.1 hhit;rcases N with N|N
    ·subst N
     have D:Hq (h.roots.eraseIdx q=dR 0 (dJ root n 0)):=ah (by
      have e1:=Z.o.2;have:=yh c4 (q:=q) (by rw [<-e1];exact HQ.o) (by rw [<-e1];exact d);rw [<-e1] at this;exact this)
     have c2:q<h.roots.length:=by
      unfold oV at hhit;rw [decide_eq_true_eq] at hhit;exact (aJ.1 hhit).1
     have d6:=ah (zK Q.o d0.o (by rw [bI];omega) (i:=q) (by rw [bI];exact c2));rw [bI] at d6;clear hhit d hq;go_wp2_with fail;refine d6.o.mono ?_;rintro e5 w5 ⟨v5,rfl,v,M,t⟩;obtain ⟨a5,k5,a8⟩:=aF v;subst a8;have y:=E.o.hp.keep M (fun e=>ak Q.o E.o.hp (by decide) e);have g4:w5.cell? ⟨L.H,10,none⟩=some (.slice Aa h.roots.length C):=by rw [y.c 10];exact congrArg some P.o
     have b9:=y.Nq 10;have H5:=ah (a4.intro v (a4.intro M t));clear v M t y f2 d7;go_wp2;go_ret;obtain ⟨g1,g2,g3⟩:=H5.o;have b6:(h.roots.map (eP L.tb 10)).eraseIdx q=(h.roots.eraseIdx q).map (eP L.tb 10):=by rw [List.eraseIdx_eq_take_drop_succ,List.eraseIdx_eq_take_drop_succ,List.map_append,List.map_take,List.map_drop]
     have b5:(h.roots.eraseIdx q).length=h.roots.length-1:=by rw [List.length_eraseIdx_of_lt c2]
     obtain ⟨-,p2,p3⟩:=E.o.JV (h':=iM (h.wk px py) 10 (h.roots.eraseIdx q)) (G':=G) (w1:=w5) 10 (by simp [eF]) (by rw [P.o];exact g2) (.slice a5 (h.roots.length-1) k5) (by rw [lJ (by simp [kG]),b5,<-b6];exact g1) (fun g hg=>.inl (by rw [P.o,<-g3];exact hg)) (jE _ 10 _) (fun j hj hn=>jB (by simp [kG]) hj hn _) (kU (by simp [kG]) _ _);show jk base S L.H w _ (h.G9 (dR 0 (dJ root n 0))) _ _;rw [<-D.o];exact jk.mk' (L':={ L with li:=fun j=>if j=10 then .slice a5 (h.roots.length-1) k5 else L.li j }) T.o (fun b e=>e.1) rfl ⟨px,py,G,p2,c9.o.same rfl rfl rfl rfl rfl rfl (fun _=>Iff.rfl)⟩ p3
    ·subst N
     have D:Hq (h.G9 (dR 0 (dJ root n 1))=h):=ah (by
      have e1:=Z.o.2;rw [e1] at d;have e2:dJ root n 1=root:=oq (dP.1 d);rw [e2,<-e1];rfl)
     clear hhit d hq;go_wp2;go_ret;show jk base S L.H w _ (h.G9 (dR 0 (dJ root n 1))) _ _;rw [D.o];exact jk.same HX.o.p T.o
   |false=>
    have d:n ∉ h.roots:=fun c=>by rw [d5.o.2 c] at hhit;cases hhit
    rcases N with N|N
    ·subst N
     have D:Hq (h.G9 (dR 0 (dJ root n 0))=h):=ah (by
      have e1:=Z.o.2;have e2:dJ root n 0=root:=oq (by
       cases hb9:root[n]? with
       |none=>have:=List.getElem?_eq_none_iff.1 hb9;omega
       |some bb=>
        cases bb with
        |false=>rfl
        |true=>rw [e1] at d;exact absurd (dP.2 hb9) d)
      rw [e2,<-e1];rfl)
     clear hhit d hq;go_wp2;go_ret;show jk base S L.H w _ (h.G9 (dR 0 (dJ root n 0))) _ _;rw [D.o];exact jk.same HX.o.p T.o
    ·subst N
     have D:Hq (h.roots.take q++n::h.roots.drop q=dR 0 (dJ root n 1)):=ah (by
      have e1:=Z.o.2;have:=yE c4 (q:=q) (by rw [<-e1];exact HQ.o) (by rw [<-e1];exact d);rw [<-e1] at this;exact this)
     have a3:Hq (Below w4.heap.size w4 (w4.alloc (.cells #[.iface 127 (.pointer (some ⟨L.tb n,0,none⟩))] 67)).drew):=ah (aU w4 _).drew;have f5:=ah (Keeps.of a3.o (au _) (fun c=>(Value.slice Aa h.roots.length C).ownBlock=some c));have f6:=ah (zQ (i:=q) (vb:=w4.heap.size) (x:=.iface 127 (.pointer (some ⟨L.tb n,0,none⟩))) (aj Q.o (Keeps.of a3.o (au _) (fun _=>False)) (fun _ _ e=>e)) d0.o (by rw [bI];omega) rfl ⟨#[.iface 127 (.pointer (some ⟨L.tb n,0,none⟩))],Array.getElem?_push_size ..,rfl,fun j hj=>by rw [show j=0 by omega];rfl⟩ (fun e=>by have:=(ay Q.o e).lt;omega) (by rw [bI];exact c1) (aI E.o.bs a3.o.size));clear hhit d hq;go_wp2_with fail
     go_region_with (
      (go_at_call 79
       refine f6.o.mono ?_;rintro e5 w5 ⟨v5,rfl,v,M,t⟩;obtain ⟨a5,k5,a8⟩:=aF v;subst a8;have H5:=ah (a4.intro v (a4.intro (f5.o.trans M) t));have y:=E.o.hp.keep H5.o.2.1 (fun e=>ak Q.o E.o.hp (by decide) e);have t1:w5.cell? ⟨L.H,10,none⟩=some (.slice Aa h.roots.length C):=by rw [y.c 10];exact congrArg some P.o
       have b9:=y.Nq 10;have t2:w5.cell? ⟨F,n,none⟩=some (.pointer (some ⟨L.tb n,0,none⟩)):=(aM (a:=⟨F,n,none⟩) (H5.o.2.1.block F e8 (fun e=>ak Q.o a0.o (by decide) e))).trans fn;clear v M t y))
     all_goals
      go_wp2;go_ret;obtain ⟨g1,g2,g3⟩:=H5.o;have b6:(h.roots.map (eP L.tb 10)).take q++(.iface 127 (.pointer (some ⟨L.tb n,0,none⟩)))::(h.roots.map (eP L.tb 10)).drop q=(h.roots.take q++n::h.roots.drop q).map (eP L.tb 10):=by rw [List.map_append,List.map_cons,List.map_take,List.map_drop];rfl
      have b5:(h.roots.take q++n::h.roots.drop q).length=h.roots.length+1:=by rw [aT,fZ,bX,List.length_drop];omega
      rw [b6,bI] at g1;obtain ⟨-,p2,p3⟩:=E.o.JV (h':=iM (h.wk px py) 10 (h.roots.take q++n::h.roots.drop q)) (G':=G) (w1:=w5) 10 (by simp [eF]) (by rw [P.o];exact g2) (.slice a5 (h.roots.length+1) k5) (by rw [lJ (by simp [kG]),b5];exact g1) (fun g hg=>(g3 g (by rw [bI];exact hg)).imp (fun e=>by rw [P.o];exact e) (fun e=>aI a3.o.size e)) (jE _ 10 _) (fun j hj hn=>jB (by simp [kG]) hj hn _) (kU (by simp [kG]) _ _);show jk base S L.H w _ (h.G9 (dR 0 (dJ root n 1))) _ _;rw [<-D.o];exact jk.mk' (L':={ L with li:=fun j=>if j=10 then .slice a5 (h.roots.length+1) k5 else L.li j }) T.o (fun b e=>e.1) rfl ⟨px,py,G,p2,c9.o.same rfl rfl rfl rfl rfl rfl (fun _=>Iff.rfl)⟩ p3
  ·rw [show (decide ((0:Int)<=B)&&decide (B<=1))=false by simp;omega] at Y
   obtain ⟨rfl,rfl⟩:=K.o W N;clear hA a2 J K W N;go_wp2_with fail;refine HH.o.mono ?_;rintro e2 w2 ⟨rfl,rfl⟩;go_wp2_with fail;refine Y.o.mono ?_;rintro e3 w3 ⟨rfl,rfl⟩;go_wp2;go_ret;exact jk.same HX.o.p T.o
end
section
variable {L:PM} {R base hand:Nat} {S:Nat->Prop} {h:Hp} {w:World}
attribute [local go_sem] bW
def nS (base:Nat) (S:Nat->Prop) (H R:Nat) (w:World) (kd code id:Int) (h':Hp) (e:Ending) (w':World):Prop:=
 e=.returned (.tuple #[.int .i64 id,.int .i64 code])/\∃ L' pv,L'.H=H/\PS base S h' L' w'/\aD w' 69 R 2 (EO H pv)/\(kd=8->code=0->pv=aK L'.tb (cO id.toNat))/\Keeps w w' (fun b=>S b∨b=R)
theorem nS.of {base:Nat} {S:Nat->Prop} {H R:Nat} {w w1 w':World} {kd code id:Int} {h':Hp} {v:Value} {e:Ending} {pv:Value} (hk:kd≠8) (r:aD w1 69 R 2 (EO H pv)) (n:¬ S R) (hb:Below w.heap.size w w1) (x:jk base S H w1 v h' e w'):nS base S H R w kd code id h' (.returned (.tuple #[.int .i64 id,.int .i64 code])) w':=by
 obtain ⟨-,L',f,d,a⟩:=x;exact ⟨rfl,L',pv,f,d,r.keep a n,fun c=>absurd c hk,(Keeps.of hb (au _) _).trans (a.mono (fun b e=>Or.inl e))⟩
theorem EP (x:PW base S h L R hand w) (A B C code:Int) (h':Hp) (e:∀ w',PW base S h L R hand w'->Calls Tryz.prog 49 #[.pointer (some ⟨R,0,none⟩),.int .i64 A,.int .i64 B,.int .i64 C] w' (jk base S L.H w' (.int .i64 code) h')):
 Calls Tryz.prog 35 #[.pointer (some ⟨R,0,none⟩),.agg #[.int .i64 2,.int .i64 A,.int .i64 B,.int .i64 C]] w (nS base S L.H R w 2 code 0 h'):=by
 have b:=ah (fK w 2 A B C);have k:=ah (aU w (.cells #[.int .i64 2,.int .i64 A,.int .i64 B,.int .i64 C] 39));have d:=ah (x.low (aU w (.cells #[.int .i64 2,.int .i64 A,.int .i64 B,.int .i64 C] 39)));have j:=ah (e _ d.o);clear x e;go_enter Tryz.func35,Tryz.ntmps35;go_upto_region 1 with (fail)
 generalize w.alloc (.cells #[.int .i64 2,.int .i64 A,.int .i64 B,.int .i64 C] 39)=w1 at *;generalize i:w.heap.size=X at *;have x0:w1.cell? ⟨X,0,none⟩=some (.int .i64 2):=b.o.c 0;have x1:w1.cell? ⟨X,1,none⟩=some (.int .i64 A):=b.o.c 1;have g:w1.cell? ⟨X,2,none⟩=some (.int .i64 B):=b.o.c 2;have f:w1.cell? ⟨X,3,none⟩=some (.int .i64 C):=b.o.c 3;go_wp2_with fail;refine j.o.mono ?_;intro p m a;have l:=ah a;obtain ⟨rfl,-⟩:=a;clear x0 x1 g f;go_wp2
 ((try simp only [Exit.inBlock,Exit.then]);refine bodyPost_ret (results_tmp2 rfl _ _ _) rfl ?_)
 exact nS.of (by decide) d.o.r d.o.n (by rw [i];exact k.o) l.o
theorem E8 (x:PW base S h L R hand w) (A B C code:Int) (h':Hp) (e:∀ w',PW base S h L R hand w'->Calls Tryz.prog 50 #[.pointer (some ⟨R,0,none⟩),.int .i64 A,.int .i64 B,.int .i64 C] w' (jk base S L.H w' (.int .i64 code) h')):
 Calls Tryz.prog 35 #[.pointer (some ⟨R,0,none⟩),.agg #[.int .i64 3,.int .i64 A,.int .i64 B,.int .i64 C]] w (nS base S L.H R w 3 code 0 h'):=by
 have b:=ah (fK w 3 A B C);have k:=ah (aU w (.cells #[.int .i64 3,.int .i64 A,.int .i64 B,.int .i64 C] 39));have d:=ah (x.low (aU w (.cells #[.int .i64 3,.int .i64 A,.int .i64 B,.int .i64 C] 39)));have j:=ah (e _ d.o);clear x e;go_enter Tryz.func35,Tryz.ntmps35;go_upto_region 1 with (fail)
 generalize w.alloc (.cells #[.int .i64 3,.int .i64 A,.int .i64 B,.int .i64 C] 39)=w1 at *;generalize i:w.heap.size=X at *;have x0:w1.cell? ⟨X,0,none⟩=some (.int .i64 3):=b.o.c 0;have x1:w1.cell? ⟨X,1,none⟩=some (.int .i64 A):=b.o.c 1;have g:w1.cell? ⟨X,2,none⟩=some (.int .i64 B):=b.o.c 2;have f:w1.cell? ⟨X,3,none⟩=some (.int .i64 C):=b.o.c 3;go_wp2_with fail;refine j.o.mono ?_;intro p m a;have l:=ah a;obtain ⟨rfl,-⟩:=a;clear x0 x1 g f;go_wp2
 ((try simp only [Exit.inBlock,Exit.then]);refine bodyPost_ret (results_tmp2 rfl _ _ _) rfl ?_)
 exact nS.of (by decide) d.o.r d.o.n (by rw [i];exact k.o) l.o
theorem DF (x:PW base S h L R hand w) (A B C code:Int) (h':Hp) (e:∀ w',PW base S h L R hand w'->Calls Tryz.prog 51 #[.pointer (some ⟨R,0,none⟩),.int .i64 A,.int .i64 B] w' (jk base S L.H w' (.int .i64 code) h')):
 Calls Tryz.prog 35 #[.pointer (some ⟨R,0,none⟩),.agg #[.int .i64 4,.int .i64 A,.int .i64 B,.int .i64 C]] w (nS base S L.H R w 4 code 0 h'):=by
 have b:=ah (fK w 4 A B C);have k:=ah (aU w (.cells #[.int .i64 4,.int .i64 A,.int .i64 B,.int .i64 C] 39));have d:=ah (x.low (aU w (.cells #[.int .i64 4,.int .i64 A,.int .i64 B,.int .i64 C] 39)));have j:=ah (e _ d.o);clear x e;go_enter Tryz.func35,Tryz.ntmps35;go_upto_region 1 with (fail)
 generalize w.alloc (.cells #[.int .i64 4,.int .i64 A,.int .i64 B,.int .i64 C] 39)=w1 at *;generalize i:w.heap.size=X at *;have x0:w1.cell? ⟨X,0,none⟩=some (.int .i64 4):=b.o.c 0;have x1:w1.cell? ⟨X,1,none⟩=some (.int .i64 A):=b.o.c 1;have g:w1.cell? ⟨X,2,none⟩=some (.int .i64 B):=b.o.c 2;have f:w1.cell? ⟨X,3,none⟩=some (.int .i64 C):=b.o.c 3;go_wp2_with fail;refine j.o.mono ?_;intro p m a;have l:=ah a;obtain ⟨rfl,-⟩:=a;clear x0 x1 g f;go_wp2
 ((try simp only [Exit.inBlock,Exit.then]);refine bodyPost_ret (results_tmp2 rfl _ _ _) rfl ?_)
 exact nS.of (by decide) d.o.r d.o.n (by rw [i];exact k.o) l.o
theorem Eu (x:PW base S h L R hand w) (A B C code:Int) (h':Hp) (e:∀ w',PW base S h L R hand w'->Calls Tryz.prog 52 #[.pointer (some ⟨R,0,none⟩),.int .i64 A] w' (jk base S L.H w' (.int .i64 code) h')):
 Calls Tryz.prog 35 #[.pointer (some ⟨R,0,none⟩),.agg #[.int .i64 5,.int .i64 A,.int .i64 B,.int .i64 C]] w (nS base S L.H R w 5 code 0 h'):=by
 have b:=ah (fK w 5 A B C);have k:=ah (aU w (.cells #[.int .i64 5,.int .i64 A,.int .i64 B,.int .i64 C] 39));have d:=ah (x.low (aU w (.cells #[.int .i64 5,.int .i64 A,.int .i64 B,.int .i64 C] 39)));have j:=ah (e _ d.o);clear x e;go_enter Tryz.func35,Tryz.ntmps35;go_upto_region 1 with (fail)
 generalize w.alloc (.cells #[.int .i64 5,.int .i64 A,.int .i64 B,.int .i64 C] 39)=w1 at *;generalize i:w.heap.size=X at *;have x0:w1.cell? ⟨X,0,none⟩=some (.int .i64 5):=b.o.c 0;have x1:w1.cell? ⟨X,1,none⟩=some (.int .i64 A):=b.o.c 1;have g:w1.cell? ⟨X,2,none⟩=some (.int .i64 B):=b.o.c 2;have f:w1.cell? ⟨X,3,none⟩=some (.int .i64 C):=b.o.c 3;go_wp2_with fail;refine j.o.mono ?_;intro p m a;have l:=ah a;obtain ⟨rfl,-⟩:=a;clear x0 x1 g f;go_wp2
 ((try simp only [Exit.inBlock,Exit.then]);refine bodyPost_ret (results_tmp2 rfl _ _ _) rfl ?_)
 exact nS.of (by decide) d.o.r d.o.n (by rw [i];exact k.o) l.o
theorem Fh (x:PW base S h L R hand w) (A B C code:Int) (h':Hp) (e:∀ w',PW base S h L R hand w'->Calls Tryz.prog 53 #[.pointer (some ⟨R,0,none⟩),.int .i64 A] w' (jk base S L.H w' (.int .i64 code) h')):
 Calls Tryz.prog 35 #[.pointer (some ⟨R,0,none⟩),.agg #[.int .i64 6,.int .i64 A,.int .i64 B,.int .i64 C]] w (nS base S L.H R w 6 code 0 h'):=by
 have b:=ah (fK w 6 A B C);have k:=ah (aU w (.cells #[.int .i64 6,.int .i64 A,.int .i64 B,.int .i64 C] 39));have d:=ah (x.low (aU w (.cells #[.int .i64 6,.int .i64 A,.int .i64 B,.int .i64 C] 39)));have j:=ah (e _ d.o);clear x e;go_enter Tryz.func35,Tryz.ntmps35;go_upto_region 1 with (fail)
 generalize w.alloc (.cells #[.int .i64 6,.int .i64 A,.int .i64 B,.int .i64 C] 39)=w1 at *;generalize i:w.heap.size=X at *;have x0:w1.cell? ⟨X,0,none⟩=some (.int .i64 6):=b.o.c 0;have x1:w1.cell? ⟨X,1,none⟩=some (.int .i64 A):=b.o.c 1;have g:w1.cell? ⟨X,2,none⟩=some (.int .i64 B):=b.o.c 2;have f:w1.cell? ⟨X,3,none⟩=some (.int .i64 C):=b.o.c 3;go_wp2_with fail;refine j.o.mono ?_;intro p m a;have l:=ah a;obtain ⟨rfl,-⟩:=a;clear x0 x1 g f;go_wp2
 ((try simp only [Exit.inBlock,Exit.then]);refine bodyPost_ret (results_tmp2 rfl _ _ _) rfl ?_)
 exact nS.of (by decide) d.o.r d.o.n (by rw [i];exact k.o) l.o
theorem FE (x:PW base S h L R hand w) (A B C code:Int) (id:Int) (h':Hp) (e:∀ w',PW base S h L R hand w'->Calls Tryz.prog 48 #[.pointer (some ⟨R,0,none⟩),.int .i64 A] w' (jk base S L.H w' (.tuple #[.int .i64 id,.int .i64 code]) h')):
 Calls Tryz.prog 35 #[.pointer (some ⟨R,0,none⟩),.agg #[.int .i64 1,.int .i64 A,.int .i64 B,.int .i64 C]] w (nS base S L.H R w 1 code id h'):=by
 have b:=ah (fK w 1 A B C);have k:=ah (aU w (.cells #[.int .i64 1,.int .i64 A,.int .i64 B,.int .i64 C] 39));have d:=ah (x.low (aU w (.cells #[.int .i64 1,.int .i64 A,.int .i64 B,.int .i64 C] 39)));have j:=ah (e _ d.o);clear x e;go_enter Tryz.func35,Tryz.ntmps35;go_upto_region 1 with (fail)
 generalize w.alloc (.cells #[.int .i64 1,.int .i64 A,.int .i64 B,.int .i64 C] 39)=w1 at *;generalize i:w.heap.size=X at *;have x0:w1.cell? ⟨X,0,none⟩=some (.int .i64 1):=b.o.c 0;have x1:w1.cell? ⟨X,1,none⟩=some (.int .i64 A):=b.o.c 1;have g:w1.cell? ⟨X,2,none⟩=some (.int .i64 B):=b.o.c 2;have f:w1.cell? ⟨X,3,none⟩=some (.int .i64 C):=b.o.c 3;go_wp2_with fail;refine j.o.mono ?_;intro p m a;have l:=ah a;obtain ⟨rfl,-⟩:=a;clear x0 x1 g f;go_wp2
 ((try simp only [Exit.inBlock,Exit.then]);refine bodyPost_ret (results_tmp2 rfl _ _ _) rfl ?_)
 exact nS.of (by decide) d.o.r d.o.n (by rw [i];exact k.o) l.o
theorem Gc (x:PW base S h L R hand w) (g:Gd h) (A B C:Int):
 Calls Tryz.prog 35 #[.pointer (some ⟨R,0,none⟩),.agg #[.int .i64 7,.int .i64 A,.int .i64 B,.int .i64 C]] w (nS base S L.H R w 7 0 0 h.full):=by
 have f:=ah (fK w 7 A B C);have u:=ah (aU w (.cells #[.int .i64 7,.int .i64 A,.int .i64 B,.int .i64 C] 39));have i:=ah (x.low (aU w (.cells #[.int .i64 7,.int .i64 A,.int .i64 B,.int .i64 C] 39)));have t:=ah (xH i.o.p g);clear x g;go_enter Tryz.func35,Tryz.ntmps35;go_upto_region 1 with (fail)
 generalize w.alloc (.cells #[.int .i64 7,.int .i64 A,.int .i64 B,.int .i64 C] 39)=w1 at *;generalize q:w.heap.size=X at *;have x0:w1.cell? ⟨X,0,none⟩=some (.int .i64 7):=f.o.c 0;have x1:w1.cell? ⟨X,1,none⟩=some (.int .i64 A):=f.o.c 1;have m:w1.cell? ⟨X,2,none⟩=some (.int .i64 B):=f.o.c 2;have l:w1.cell? ⟨X,3,none⟩=some (.int .i64 C):=f.o.c 3;have r0:w1.cell? ⟨R,0,none⟩=some (.pointer (some ⟨L.H,0,none⟩)):=i.o.r.c 0;go_wp2_with fail;refine t.o.mono ?_;rintro z y ⟨rfl,s,b,a,d⟩;have j:=ah (k.intro b (k.intro a d));clear x0 x1 m l b a d r0;go_wp2
 ((try simp only [Exit.inBlock,Exit.then]);refine bodyPost_ret (results_tmp2 rfl _ _ _) rfl ?_)
 exact nS.of (v:=.tuple #[]) (e:=.returned (.tuple #[])) (by decide) i.o.r i.o.n (by rw [q];exact u.o) ⟨rfl,s,j.o.1.H,j.o.2.1,j.o.2.2⟩
theorem Gl (x:PW base S h L R hand w) (g:Gd h) (A B C:Int) (code:Int) (id:Nat) (i:h.pending=[]->code=4/\id=0) (f:∀ gs n,h.pending=gs++[n]->code=0/\id=n):
 Calls Tryz.prog 35 #[.pointer (some ⟨R,0,none⟩),.agg #[.int .i64 8,.int .i64 A,.int .i64 B,.int .i64 C]] w (nS base S L.H R w 8 code (id:Int) h.pop):=by
 have b:=ah (fK w 8 A B C);have z:=ah (aU w (.cells #[.int .i64 8,.int .i64 A,.int .i64 B,.int .i64 C] 39));have m:=ah (x.low (aU w (.cells #[.int .i64 8,.int .i64 A,.int .i64 B,.int .i64 C] 39)));have y:=ah (yI m.o g);have s:=ah i;have q:=ah f;clear x g i f;rcases List.eq_nil_or_concat h.pending with hp|⟨gs,n,hp⟩
 ·obtain ⟨rfl,rfl⟩:=s.o hp
  have e:=ah hp;have d:Hq (h.pop=h):=ah (by unfold Hp.pop;rw [hp];show { h with pending:=[] }=h;rw [<-hp]);clear hp;go_enter Tryz.func35,Tryz.ntmps35;go_upto_region 1 with (fail)
  generalize w.alloc (.cells #[.int .i64 8,.int .i64 A,.int .i64 B,.int .i64 C] 39)=w1 at *;generalize l:w.heap.size=X at *;have x0:w1.cell? ⟨X,0,none⟩=some (.int .i64 8):=b.o.c 0;have x1:w1.cell? ⟨X,1,none⟩=some (.int .i64 A):=b.o.c 1;have k:w1.cell? ⟨X,2,none⟩=some (.int .i64 B):=b.o.c 2;have j:w1.cell? ⟨X,3,none⟩=some (.int .i64 C):=b.o.c 3;go_wp2_with fail;refine y.o.mono ?_;intro G E a;obtain ⟨rfl,rfl⟩:=a.1 e.o;clear x0 x1 k j a;go_wp2
  ((try simp only [Exit.inBlock,Exit.then]);refine bodyPost_ret (results_tmp2 rfl _ _ _) rfl ?_)
  rw [d.o];exact ⟨rfl,L,_,rfl,m.o.p,m.o.r,fun _ c=>absurd c (by decide),Keeps.of z.o (aO l) _⟩
 ·rw [List.concat_eq_append] at hp
  obtain ⟨rfl,rfl⟩:=q.o gs n hp;have e:=ah hp;have d:Hq (h.pop={ h with pending:=gs }):=ah (by unfold Hp.pop;rw [hp,List.dropLast_concat]);clear hp;go_enter Tryz.func35,Tryz.ntmps35;go_upto_region 1 with (fail)
  generalize w.alloc (.cells #[.int .i64 8,.int .i64 A,.int .i64 B,.int .i64 C] 39)=w1 at *;generalize l:w.heap.size=X at *;have x0:w1.cell? ⟨X,0,none⟩=some (.int .i64 8):=b.o.c 0;have x1:w1.cell? ⟨X,1,none⟩=some (.int .i64 A):=b.o.c 1;have k:w1.cell? ⟨X,2,none⟩=some (.int .i64 B):=b.o.c 2;have j:w1.cell? ⟨X,3,none⟩=some (.int .i64 C):=b.o.c 3;go_wp2_with fail;refine y.o.mono ?_;intro G E a;have D:=ah (a.2 gs id e.o);obtain ⟨rfl,-⟩:=D.o;clear x0 x1 k j a;go_wp2
  ((try simp only [Exit.inBlock,Exit.then]);refine bodyPost_ret (results_tmp2 rfl _ _ _) rfl ?_)
  obtain ⟨-,v,u,t,F⟩:=D.o;rw [d.o];refine ⟨rfl,v,aK v.tb (cO id),u,t.p,by rw [<-u];exact t.r,fun _ _=>by rw [Int.toNat_natCast],(Keeps.of z.o (aO l) _).trans F⟩
theorem Gb (x:PW base S h L R hand w) (A B C:Int):
 Calls Tryz.prog 35 #[.pointer (some ⟨R,0,none⟩),.agg #[.int .i64 9,.int .i64 A,.int .i64 B,.int .i64 C]] w (nS base S L.H R w 9 0 0 h):=by
 have a:=ah (fK w 9 A B C);have e:=ah (aU w (.cells #[.int .i64 9,.int .i64 A,.int .i64 B,.int .i64 C] 39));have b:=ah (x.low (aU w (.cells #[.int .i64 9,.int .i64 A,.int .i64 B,.int .i64 C] 39)));clear x;go_enter Tryz.func35,Tryz.ntmps35;go_upto_region 1 with (fail)
 generalize w.alloc (.cells #[.int .i64 9,.int .i64 A,.int .i64 B,.int .i64 C] 39)=w1 at *;generalize d:w.heap.size=X at *;have x0:w1.cell? ⟨X,0,none⟩=some (.int .i64 9):=a.o.c 0;have x1:w1.cell? ⟨X,1,none⟩=some (.int .i64 A):=a.o.c 1;have g:w1.cell? ⟨X,2,none⟩=some (.int .i64 B):=a.o.c 2;have f:w1.cell? ⟨X,3,none⟩=some (.int .i64 C):=a.o.c 3;go_wp2
 ((try simp only [Exit.inBlock,Exit.then]);refine bodyPost_ret (results_tmp2 rfl _ _ _) rfl ?_)
 exact ⟨rfl,L,_,rfl,b.o.p,b.o.r,fun c=>absurd c (by decide),Keeps.of e.o (aO d) _⟩
theorem FJ (x:PW base S h L R hand w) (kd A B C:Int) (hk:kd<1∨9<kd):
 Calls Tryz.prog 35 #[.pointer (some ⟨R,0,none⟩),.agg #[.int .i64 kd,.int .i64 A,.int .i64 B,.int .i64 C]] w (nS base S L.H R w kd 1 0 h):=by
 have a:=ah (fK w kd A B C);have f:=ah (aU w (.cells #[.int .i64 kd,.int .i64 A,.int .i64 B,.int .i64 C] 39));have d:=ah (x.low (aU w (.cells #[.int .i64 kd,.int .i64 A,.int .i64 B,.int .i64 C] 39)));clear x;go_enter Tryz.func35,Tryz.ntmps35;go_upto_region 1 with (fail)
 generalize w.alloc (.cells #[.int .i64 kd,.int .i64 A,.int .i64 B,.int .i64 C] 39)=w1 at *;generalize e:w.heap.size=X at *;have x0:w1.cell? ⟨X,0,none⟩=some (.int .i64 kd):=a.o.c 0;have x1:w1.cell? ⟨X,1,none⟩=some (.int .i64 A):=a.o.c 1;have i:w1.cell? ⟨X,2,none⟩=some (.int .i64 B):=a.o.c 2;have g:w1.cell? ⟨X,3,none⟩=some (.int .i64 C):=a.o.c 3;have t:(kd==1)=false:=by simp;omega
 have s:(kd==2)=false:=by simp;omega
 have q:(kd==3)=false:=by simp;omega
 have n:(kd==4)=false:=by simp;omega
 have k5:(kd==5)=false:=by simp;omega
 have m:(kd==6)=false:=by simp;omega
 have l:(kd==7)=false:=by simp;omega
 have k:(kd==8)=false:=by simp;omega
 have j:(kd==9)=false:=by simp;omega
 have b:Hq (kd≠8):=ah (by omega);go_wp2
 ((try simp only [Exit.inBlock,Exit.then]);refine bodyPost_ret (results_tmp2 rfl _ _ _) rfl ?_)
 exact ⟨rfl,L,_,rfl,d.o.p,d.o.r,fun c=>absurd c b.out,Keeps.of f.o (aO e) _⟩
theorem Ak (x:PW base S h L R hand w) (A:Int) (hA:A<0∨3<A):
 Calls Tryz.prog 48 #[.pointer (some ⟨R,0,none⟩),.int .i64 A] w (jk base S L.H w (.tuple #[.int .i64 0,.int .i64 2]) h):=by
 have a:=ah (gI w A 0 3);rw [show (decide ((0:Int)<=A)&&decide (A<=3))=false by simp;omega] at a;have b:=ah x.p;clear x hA;go_enter Tryz.func48,Tryz.ntmps48;go_wp2_with fail;refine a.o.mono ?_;rintro d c ⟨rfl,rfl⟩;go_wp2
 ((try simp only [Exit.inBlock,Exit.then]);refine bodyPost_ret (results_tmp2 rfl _ _ _) rfl ?_)
 exact jk.same b.o (aG _ _)
end
section
variable {A C kd:Int} {g h:Hp} {hand k:Nat} {r:Rn} {root:List Bool}
theorem MG.MH (b:MG h) (x:kJ h g) (q:g.objs.length=h.objs.length):MG g:=by
 refine ⟨fun n o ho e he r hr=>?_,fun n o ho e he hs=>?_⟩
 ·obtain ⟨a,m,s,l⟩:=x n o ho
  obtain ⟨j,d⟩:=List.mem_iff_getElem?.1 he;obtain ⟨p,i,f⟩:=l j e d;rw [q];refine b.r n a m p (aW i) r ?_;rcases f with c|c|c
  ·rw [<-c];exact hr
  ·rw [c] at hr
   simp [dw,bQ] at hr;unfold dw;rw [aY];left;exact hr
  ·rw [c] at hr
   simp [dw,bQ] at hr
 ·obtain ⟨a,m,s,l⟩:=x n o ho
  obtain ⟨j,d⟩:=List.mem_iff_getElem?.1 he;obtain ⟨p,i,f⟩:=l j e d;rcases f with c|c|c
  ·rw [c] at hs ⊢;exact b.k n a m p (aW i) hs
  ·rw [c] at hs;simp at hs
  ·rw [c] at hs;simp at hs
theorem MG.cl (b:MG h) (x:Cl h g):MG g:=b.MH x.es x.len
theorem MG.same {h g:Hp} (b:MG h) (a:∀ n,(g.ob n).map Ob.es=(h.ob n).map Ob.es) (c:g.objs.length=h.objs.length):MG g:=b.MH (kJ.same (fun n o e=>by
 have:=a n;rw [e] at this;cases e2:h.ob n with
 |none=>rw [e2] at this;simp at this
 |some o2=>rw [e2] at this;simp at this;exact ⟨o2,rfl,this.symm⟩)) c
theorem MG.new:MG Hp.new:=by
 have a:∀ n,Hp.new.ob n=none:=by
  intro n;simp only [Hp.ob,Hp.new];cases n<;>rfl
 exact ⟨fun n o e=>(by rw [a] at e;cases e),fun n o e=>(by rw [a] at e;cases e)⟩
theorem MG.make {h:Hp} (b:MG h) (m:Nat):MG (h.make m):=by
 have a:(h.make m).objs.length=h.objs.length+1:=by show (h.objs++[_]).length=_;simp
 refine ⟨fun n o ho e he r hr=>?_,fun n o ho e he hs=>?_⟩
 ·rw [gU] at ho
  split at ho
  ·simp at ho;rw [<-ho] at he;simp at he
  ·have:=b.r n o ho e he r hr;omega
 ·rw [gU] at ho
  split at ho
  ·simp at ho;rw [<-ho] at he;simp at he
  ·exact b.k n o ho e he hs
theorem MG.put {h:Hp} (b:MG h) (n:Nat) {k v:HV} (x:k.isSome=true) (hk:∀ r∈bQ k,r<h.objs.length) (w:∀ r∈bQ v,r<h.objs.length):MG (h.put n k v):=by
 have key:∀ (es':Ob->List En) (g:Hp),(∀ m,(g.ob m).map Ob.es=if n=m then (h.ob m).map es' else (h.ob m).map Ob.es)->g.objs.length=h.objs.length->(∀ o,h.ob n=some o->∀ e∈es' o,(∀ r∈dw e,r<h.objs.length)/\(e.2.isSome=true->e.1.isSome=true))->MG g:=by
  intro es' g B z p;have s:∀ m o,g.ob m=some o->∃ o2,h.ob m=some o2/\((n=m/\o.es=es' o2)∨(n≠m/\o.es=o2.es)):=by
   intro m o e;have:=B m;rw [e] at this;split at this
   ·rename_i c
    cases e2:h.ob m with
    |none=>rw [e2] at this;simp at this
    |some o2=>rw [e2] at this;simp at this;exact ⟨o2,rfl,.inl ⟨c,this⟩⟩
   ·rename_i c
    cases e2:h.ob m with
    |none=>rw [e2] at this;simp at this
    |some o2=>rw [e2] at this;simp at this;exact ⟨o2,rfl,.inr ⟨c,this⟩⟩
  refine ⟨fun m o ho e hm r hr=>?_,fun m o ho e hm hs'=>?_⟩
  ·rw [z]
   obtain ⟨o2,q,⟨c,l⟩|⟨c,l⟩⟩:=s m o ho
   ·subst c;rw [l] at hm;exact (p o2 q e hm).1 r hr
   ·rw [l] at hm;exact b.r m o2 q e hm r hr
  ·obtain ⟨o2,q,⟨c,l⟩|⟨c,l⟩⟩:=s m o ho
   ·subst c;rw [l] at hm;exact (p o2 q e hm).2 hs'
   ·rw [l] at hm;exact b.k m o2 q e hm hs'
 unfold Hp.put;split
 ·exact b
 ·rename_i o ho
  split
  ·rename_i i hi
   obtain ⟨y,u,t⟩:=uJ hi;refine key (fun o=>o.es.modify i fun e=>(e.1,v)) _ (fun m=>?_) ((Hp.Ib _ n).1.trans (h.Hu n _)) (fun o2 ho2 e p=>?_)
   ·unfold Hp.putAt
    rw [lW,Hp.Hf];split
    ·cases h.ob m<;>rfl
    ·rfl
   ·rw [ho] at ho2;cases ho2
    obtain ⟨j,a⟩:=List.mem_iff_getElem?.1 p;rw [List.getElem?_modify] at a;cases hb:o.es[j]? with
    |none=>rw [hb] at a;simp at a
    |some e1=>
     rw [hb] at a;have f:=aW hb;by_cases c:i=j
     ·simp [c] at a
      subst a;subst c;rw [u] at hb;cases hb;refine ⟨fun r hr=>?_,fun _=>by show y.1.isSome=true;rw [t];exact x⟩;rcases aY.1 hr with d|d
      ·exact b.r n o ho y f r (List.mem_append_left _ d)
      ·exact w r d
     ·simp [c] at a
      subst a;exact ⟨b.r n o ho e1 f,b.k n o ho e1 f⟩
  ·split
   ·exact b
   ·refine key (fun o=>aS o.es++[(k,v)]) _ (fun m=>?_) ((Hp.Ib _ n).1.trans (h.Hu n _)) (fun o2 ho2 e p=>?_)
    ·unfold Hp.H_
     rw [lW];show ((h.upd n _).ob m).map Ob.es=_;rw [Hp.Hf];split
     ·cases h.ob m<;>rfl
     ·rfl
    ·rw [ho] at ho2;cases ho2
     rcases aY.1 p with c|c
     ·exact ⟨b.r n o ho e (jg c),b.k n o ho e (jg c)⟩
     ·simp at c
      subst c;refine ⟨fun r hr=>?_,fun _=>x⟩;rcases aY.1 hr with d|d
      ·exact hk r d
      ·exact w r d
theorem MG.act {B:Int} (b:MG h) (x:Jl k h root hand) (hk:k+1<=5000) (z:h.freed=[]) (y:bG h hand kd A B C):MG (fH h root kd A B C).h:=by
 have a:∀ n,h.Ok n->n<h.objs.length:=fun n hn=>by obtain ⟨o,ho,-⟩:=hn;exact Hp.Hy ho
 unfold fH;by_cases w:kd=1
 ·subst w
  rw [if_pos rfl];split
  ·exact b
  ·rename_i hA
   have hm:A.toNat<=3:=by omega
   obtain ⟨H,b1⟩:=x.g.make x.b hk z hm;have d:(root++[true]).length=root.length+1:=by simp
   obtain ⟨G,b2⟩:=H.G9 b1 hk z (iB x.g.i hm x.l x.o) (by
    have F:=gT (root++[true]) 0;rw [d,x.l] at F;have L:=b1.len;have E:(h.make A.toNat).objs.length=h.objs.length+1:=by show (h.objs++[_]).length=_;simp
    omega)
   exact MG.cl ((b.make A.toNat).same (g:=(h.make A.toNat).G9 (dR 0 (root++[true]))) (fun _=>rfl) rfl) G.JQ
 rw [if_neg w];by_cases v:kd=2
 ·subst v
  rw [if_pos rfl];obtain ⟨J,f⟩:=bG.two.1 y;obtain ⟨c,rfl,e⟩:=jm x f;exact b.put _ rfl (fun r hr=>by simp [bQ] at hr) (fun r hr=>a r (e r (by simpa using hr)))
 rw [if_neg v];by_cases t:kd=3
 ·subst t
  rw [if_pos rfl];obtain ⟨J,D,f⟩:=bG.three.1 y;obtain ⟨m,rfl,hm⟩:=jm x (.inr D);obtain ⟨c,rfl,e⟩:=jm x f;obtain ⟨K,e1,P,N,M⟩:=D.ok x;exact b.put _ (by rw [Int.toNat_natCast,gM (by omega)];rfl) (fun r hr=>a r (hm r (by simpa using hr))) (fun r hr=>a r (e r (by simpa using hr)))
 rw [if_neg t];by_cases s:kd=4
 ·subst s
  rw [if_pos rfl];split
  ·exact b
  ·exact b.same (fun _=>rfl) rfl
 rw [if_neg s];by_cases k5:kd=5
 ·subst k5
  rw [if_pos rfl];split
  ·exact b
  ·refine b.same (fun m=>?_) (fP h _).1
   show ((h.upd _ fun o=>{ o with fin:=true }).ob m).map _=_;rw [Hp.Hf];split
   ·cases h.ob m<;>rfl
   ·rfl
 rw [if_neg k5];by_cases q:kd=6
 ·subst q
  rw [if_pos rfl];split
  ·exact b
  ·exact b.cl (x.g.JL (u:=A))
 rw [if_neg q];by_cases p:kd=7
 ·subst p
  rw [if_pos rfl];exact b.cl x.g.Kt
 rw [if_neg p];by_cases j:kd=8
 ·subst j
  rw [if_pos rfl];exact b.same (fun _=>rfl) rfl
 rw [if_neg j];split<;>exact b
theorem yQ (b:MG r.h) (x:r.Ok k) (hk:k+1<=5000) (kd A B C:Int):MG (cK r kd A B C).2.h:=by
 unfold cK;split
 ·rename_i a
  have c:=MG.act (b.same (g:=r.h.forget) (fun _=>rfl) rfl) (x.forget (by omega)) hk rfl (dO.2 a);simp only;split<;>exact c
 ·exact b
end
section
variable {L:PM} {R base hand k:Nat} {S:Nat->Prop} {h:Hp} {root:List Bool} {w:World}
attribute [local go_sem] bW
theorem Eb (x:PW base S h L R hand w) (ok:Jl k h root hand) (hk:k+1<=5000) (r:h.freed=[]) (b:MG h) (kd A B C:Int) (s: -9223372036854775808<=B/\B<=9223372036854775807) (d:bG h hand kd A B C):
 Calls Tryz.prog 35 #[.pointer (some ⟨R,0,none⟩),.agg #[.int .i64 kd,.int .i64 A,.int .i64 B,.int .i64 C]] w (nS base S L.H R w kd (fH h root kd A B C).code (fH h root kd A B C).id (fH h root kd A B C).h):=by
 unfold fH;by_cases q:kd=1
 ·subst q
  rw [if_pos rfl];split
  ·rename_i hA
   exact FE x A B C 2 0 h (fun w' x'=>Ak x' A hA)
  ·rename_i hA
   obtain ⟨m,rfl⟩:∃ m:t,A=(m:Int):=⟨A.toNat,by omega⟩
   have:=FE x (m:Int) B C 0 (h.objs.length:Int) ((h.make m).G9 (dR 0 (root++[true]))).I6 (fun w' x'=>xW x' ok hk r b m (by omega))
   simpa using this
 rw [if_neg q];by_cases p:kd=2
 ·subst p
  rw [if_pos rfl];have a:=bG.two.1 d;exact EP x A B C 0 _ (fun w' x'=>qw x' ok (by omega) b A B C s 0 _ (fun _=>⟨rfl,rfl⟩) (fun c=>absurd a c))
 rw [if_neg p];by_cases o:kd=3
 ·subst o
  rw [if_pos rfl];have a:=bG.three.1 d;exact E8 x A B C 0 _ (fun w' x'=>pE x' ok (by omega) b A B C 0 _ (fun _=>⟨rfl,rfl⟩) (fun c=>absurd a c))
 rw [if_neg o];by_cases l:kd=4
 ·subst l
  rw [if_pos rfl];have a:=(bG.four (.inl rfl)).1 d;split
  ·rename_i hb
   exact DF x A B C 2 _ (fun w' x'=>kL x' ok (by omega) b A B 2 _ (fun _ c=>by omega) (fun _ _=>⟨rfl,rfl⟩) (fun c=>absurd a c))
  ·rename_i hb
   exact DF x A B C 0 _ (fun w' x'=>kL x' ok (by omega) b A B 0 _ (fun _ _=>⟨rfl,rfl⟩) (fun _ c=>by omega) (fun c=>absurd a c))
 rw [if_neg l];by_cases k5:kd=5
 ·subst k5
  rw [if_pos rfl];have a:=(bG.four (.inr rfl)).1 d;split
  ·rename_i hb
   exact Eu x A B C 4 _ (fun w' x'=>mH x' ok (by omega) b A 4 _ (fun _ c=>by rw [hb] at c;cases c) (fun _ _=>⟨rfl,rfl⟩) (fun c=>absurd a c))
  ·rename_i hb
   exact Eu x A B C 0 _ (fun w' x'=>mH x' ok (by omega) b A 0 _ (fun _ _=>⟨rfl,rfl⟩) (fun _ c=>absurd c hb) (fun c=>absurd a c))
 rw [if_neg k5];by_cases j:kd=6
 ·subst j
  rw [if_pos rfl];split
  ·rename_i hA
   exact Fh x A B C 2 _ (fun w' x'=>by simpa [if_pos hA] using nH x' ok.g A)
  ·rename_i hA
   exact Fh x A B C 0 _ (fun w' x'=>by simpa [if_neg hA] using nH x' ok.g A)
 rw [if_neg j];by_cases i:kd=7
 ·subst i
  rw [if_pos rfl];exact Gc x ok.g A B C
 rw [if_neg i];by_cases f:kd=8
 ·subst f
  rw [if_pos rfl];exact Gl x ok.g A B C _ _ (fun hp=>by rw [hp];exact ⟨rfl,rfl⟩) (fun gs n hp=>by rw [hp];exact ⟨if_neg (by simp),by simp⟩)
 rw [if_neg f];by_cases e:kd=9
 ·subst e
  rw [if_pos rfl];exact Gb x A B C
 rw [if_neg e];exact FJ x kd A B C (by omega)
theorem D7 (x:PW base S h L R hand w) (ok:Jl k h root hand) (hk:k+1<=5000) (b:MG h) (kd A B C:Int) (i: -9223372036854775808<=B/\B<=9223372036854775807) (d:¬ bG h hand kd A B C):
 kd≠8/\Calls Tryz.prog 35 #[.pointer (some ⟨R,0,none⟩),.agg #[.int .i64 kd,.int .i64 A,.int .i64 B,.int .i64 C]] w (nS base S L.H R w kd 3 0 h):=by
 by_cases g:kd=2
 ·subst g
  have a:¬ (fJ h hand A/\(C=0∨fJ h hand C)):=fun c=>d (bG.two.2 c);exact ⟨by decide,EP x A B C 3 _ (fun w' x'=>qw x' ok (by omega) b A B C i 3 _ (fun c=>absurd c a) (fun _=>⟨rfl,rfl⟩))⟩
 by_cases f:kd=3
 ·subst f
  have a:¬ (fJ h hand A/\fJ h hand B/\(C=0∨fJ h hand C)):=fun c=>d (bG.three.2 c);exact ⟨by decide,E8 x A B C 3 _ (fun w' x'=>pE x' ok (by omega) b A B C 3 _ (fun c=>absurd c a) (fun _=>⟨rfl,rfl⟩))⟩
 by_cases e:kd=4
 ·subst e
  have a:¬ fJ h hand A:=fun c=>d ((bG.four (.inl rfl)).2 c);exact ⟨by decide,DF x A B C 3 _ (fun w' x'=>kL x' ok (by omega) b A B 3 _ (fun c=>absurd c a) (fun c=>absurd c a) (fun _=>⟨rfl,rfl⟩))⟩
 by_cases k5:kd=5
 ·subst k5
  have a:¬ fJ h hand A:=fun c=>d ((bG.four (.inr rfl)).2 c);exact ⟨by decide,Eu x A B C 3 _ (fun w' x'=>mH x' ok (by omega) b A 3 _ (fun c=>absurd c a) (fun c=>absurd c a) (fun _=>⟨rfl,rfl⟩))⟩
 exact absurd (bG.rest g f e k5) d
end
end Go.Proofs.YtbpcdfbmnklcjaaGreatDoor
