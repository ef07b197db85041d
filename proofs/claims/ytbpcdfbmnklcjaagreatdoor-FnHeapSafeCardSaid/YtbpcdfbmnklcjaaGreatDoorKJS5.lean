import Derived.Test.YtbpcdfbmnklcjaaGreatDoorKIB
import Derived.Test.YtbpcdfbmnklcjaaGreatDoorKHXD
import Derived.Test.YtbpcdfbmnklcjaaGreatDoorKHZD
import Derived.Test.YtbpcdfbmnklcjaaGreatDoorKHD
import Derived.Test.YtbpcdfbmnklcjaaGreatDoorRows
import Derived.Test.YtbpcdfbmnklcjaaGreatDoorCards
import Derived.Lay
import Derived.SevenTiedAt
namespace Go.Proofs.YtbpcdfbmnklcjaaGreatDoor
open Go Go.RowKit
set_option linter.unusedVariables false
section
variable {base i n:Nat} {ov v v':Value} {w w' w0 wr:World}
def nT (o:dA):List Value:=[.int .i64 o.1,.int .i64 o.2.1,.int .i64 o.2.2.1,.int .i64 o.2.2.2]
def oC (l:List dA):List Value:=l.flatMap nT
theorem zu (l:List dA) (o:dA):oC (l++[o])=oC l++nT o:=by simp [oC]
theorem BZ (l:List dA):(oC l).length=l.length*4:=lu nT 4 (fun _=>rfl) l
theorem Al {l:List dA} {e:dA} (h:l[i]?=some e):∀ j x,(nT e)[j]?=some x->(oC l)[i*4+j]?=some x:=by
 intro j x c;have b:j<4:=(aJ.1 c).1
 induction l generalizing i with
 |nil=>cases h
 |cons a l ih=>
  rcases i with _|i
  ·obtain rfl:a=e:=by simpa using h
   show (nT a++oC l)[0*4+j]?=_;rw [Nat.zero_mul,Nat.zero_add,dF (show j<(nT a).length from b)];exact c
  ·have h':l[i]?=some e:=h
   show (nT a++oC l)[(i+1)*4+j]?=_;rw [fI (by show 4<=_;omega),show (i+1)*4+j-(nT a).length=i*4+j by show _-4=_;omega];exact ih h'
theorem rA {l:List dA} (h:w.ownsRow base 39 4 v l.length (oC l)):yw w v l:=by
 obtain ⟨a,q,rfl⟩:=aF h;refine ⟨a,q,rfl,?_,fun i o hi=>?_⟩
 ·obtain ⟨_,m|⟨g,e,p,f,_,_,k,_⟩⟩:=id h
  ·rw [m.2];exact Nat.zero_le _
  ·simp only [Value.slice.injEq] at f;omega
 ·have t:=(aJ.1 hi).1
  obtain ⟨_,m|⟨g,e,p,f,_,_,k,_⟩⟩:=id h
  ·have:=m.2;omega
  ·simp only [Value.slice.injEq] at f
   obtain ⟨rfl,-,rfl⟩:=f;have d:=ay h (g:=g) (by simp [Value.ownBlock]);have b:∀ j x,(nT o)[j]?=some x->w.cell? ⟨g,i*4+j,none⟩=some x:=by
    intro j x r;have s:j<4:=(aJ.1 r).1;have:=d.c (i*4+j);rw [this,bq,Al hi j x r];rfl
   exact ⟨g,rfl,d.lt,b 0 _ rfl,b 1 _ rfl,b 2 _ rfl,b 3 _ rfl⟩
def dK (f:Nat->Nat) (n made:Nat) (a b k:Int) (s:Nat × Int):List dA × Nat × (Nat × Int):=
 if k<4 then ([(1,([0,0,0,0,1,1,2,3]:List Int).getD (dV 8 (dS f n s)).toNat 0,0,0)],made+1,dS f n s)
 else if k<7 then ([(2,a,dV 12 (dS f n s),wrap64 (b*(dV 4 (dS f n (dS f n s))%2)))],made,dS f n (dS f n s))
 else if k<10 then ([(3,a,b,wrap64 ((1+dV ((made:Int)+1) (dS f n s))*dV 2 (dS f n (dS f n s))))],made,dS f n (dS f n s))
 else if k<12 then ([(4,a,dV 8 (dS f n s)/7,0)],made,dS f n s)
 else if k<13 then ([(5,a,0,0)],made,s)
 else if k<14 then ([(6,([1,3,10,40,0,1000000,1000001]:List Int).getD (dV 7 (dS f n s)).toNat 0,0,0)],made,dS f n s)
 else if k<15 then ([(([7,9,8,6]:List Int).getD (dV 4 (dS f n s)).toNat 0,1+dV 20 (dS f n (dS f n s)),0,0)],made,dS f n (dS f n s))
 else ((([8,8,9,0,10,(dW f n s).1]:List Int).getD (dV 6 (dS f n (dW f n s).2)).toNat 0,dV 3 (dS f n (dS f n (dW f n s).2)),0,0)::(if (dV 2 (dS f n (dS f n (dS f n (dW f n s).2)))==0)=true then [(4,a,1,0)] else []),made,dS f n (dS f n (dS f n (dW f n s).2)))
def eY (f:Nat->Nat) (n made:Nat) (s:Nat × Int):List dA × Nat × (Nat × Int):=
 if (dV 3 (dS f n (dS f n (dS f n s)))==0)=true/\4<made then dK f n made ((made:Int)-dV 4 (dS f n (dS f n (dS f n (dS f n s))))) (1+dV ((made:Int)+1) (dS f n (dS f n s))) (dV 16 (dS f n (dS f n (dS f n (dS f n (dS f n s)))))) (dS f n (dS f n (dS f n (dS f n (dS f n s)))))
 else dK f n made (1+dV ((made:Int)+1) (dS f n s)) (1+dV ((made:Int)+1) (dS f n (dS f n s))) (dV 16 (dS f n (dS f n (dS f n (dS f n s))))) (dS f n (dS f n (dS f n (dS f n s))))
def dI (f:Nat->Nat) (n:Nat) (s:Nat × Int):Nat->List dA × Nat × (Nat × Int)
 |0=>([],0,s)
 |i+1=>((dI f n s i).1++(eY f n (dI f n s i).2.1 (dI f n s i).2.2).1,(eY f n (dI f n s i).2.1 (dI f n s i).2.2).2.1,(eY f n (dI f n s i).2.1 (dI f n s i).2.2).2.2)
def dN (n:Nat):Nat:=if 400<2+n/2 then 400 else 2+n/2
def gV (f:Nat->Nat) (n:Nat):List dA:=
 if (dV 60 (dS f n (0,88172645463325252+(n:Int)))==0)=true then List.replicate (5000+dV 2 (dS f n (dS f n (0,88172645463325252+(n:Int))))).toNat (0,0,0,0)
 else (dI f n (dS f n (0,88172645463325252+(n:Int))) (2*dN n)).1
structure DM (w0:World) (S:Nat) (v:Value) (n:Nat) (f:Nat->Nat) (s:Nat × Int) (ov:Value) (ops:List dA) (w:World):Prop where
 d:DS w0.heap.size w S v n f s
 o:w.ownsRow w0.heap.size 39 4 ov ops.length (oC ops)
 b:Below w0.heap.size w0 w
theorem DM.draw {S:Nat} {f:Nat->Nat} {s s':Nat × Int} {ops:List dA} (x:DM w0 S v n f s ov ops w) (h:Dn w0.heap.size S v n f w s' w'):DM w0 S v n f s' ov ops w':=
 ⟨h.1,aj x.o h.2 (fun g hg e=>ak x.o x.d.r (by decide) (e ▸ hg)),x.b.trans (h.2.below x.b.size (fun b e=>by rw [e];exact x.d.b))⟩
theorem DM.low {w0 w w':World} {S n:Nat} {v ov:Value} {f:Nat->Nat} {s:Nat × Int} {ops:List dA} (x:DM w0 S v n f s ov ops w) (h:Below w.heap.size w w'):DM w0 S v n f s ov ops w':=by
 have k:=Keeps.of h (au _) (fun _=>False);exact ⟨⟨x.d.c.keep k x.b.size (fun _ e=>e.elim),x.d.n1,x.d.b,x.d.r.low h x.d.r.lt,x.d.x0,x.d.x1,x.d.i⟩,aj x.o k (fun _ _ e=>e),x.b.trans (h.mono x.b.size)⟩
theorem DM.app {S:Nat} {f:Nat->Nat} {s:Nat × Int} {ops:List dA} {o:dA} (x:DM w0 S v n f s ov ops w) (g:w'.ownsRow w0.heap.size 39 4 v' (ops.length+1) (oC ops++nT o)) (a:Keeps w w' (fun b=>ov.ownBlock=some b)):DM w0 S v n f s v' (ops++[o]) w':=by
 have hk:∀ b,ov.ownBlock=some b->w0.heap.size<=b:=fun b e=>(x.o.lt b e).1;refine ⟨⟨x.d.c.keep a x.b.size hk,x.d.n1,x.d.b,x.d.r.keep a (fun e=>ak x.o x.d.r (by decide) e),x.d.x0,x.d.x1,x.d.i⟩,?_,x.b.trans (a.below x.b.size hk)⟩;rw [aT,zu];exact g
theorem CU (w:World) (l:List Int):aD (w.alloc (.cells (l.map (fun x=>Value.int .i64 x)).toArray 3)) 3 w.heap.size l.length (fun j=>.int .i64 (l.getD j 0)):=by
 have h:=aD.mk' w 3 (l.map (fun x=>Value.int .i64 x)).toArray;simp only [List.size_toArray,bI] at h;refine h.congr (fun j hj=>?_);simp [bq,hj]
theorem gL (a:Below base wr w') (c:∀ gx,gx<wr.heap.size->ov.ownBlock≠some gx->w'.heap[gx]?=wr.heap[gx]?):Keeps wr w' (fun b=>ov.ownBlock=some b):=⟨a.os,a.tape,a.output,a.size,fun b hb hn=>c b hb hn⟩
theorem gy (o:dA):∀ u∈nT o,u.oneCell'=true:=fun u hu=>by
 simp [nT] at hu;rcases hu with rfl|rfl|rfl|rfl<;>rfl
end
set_option maxHeartbeats 6400000
set_option maxRecDepth 100000
section
variable {B n:Nat} {K:Act->World->Prop} {Q:Exit->Act->World->Prop} {a:Act} {v:Value} {w wr:World}
theorem Gq (w:World) (v:Value) (x:Int):aD (w.alloc (.cells #[v,.int .i64 0,.int .u64 x] 83)) 83 w.heap.size 3 (fun j=>if j=0 then v else if j=1 then .int .i64 ((0:Nat):Int) else .int .u64 x):=by
 have h:=aD.mk' w 83 #[v,.int .i64 0,.int .u64 x];refine aD.congr (show aD _ _ _ 3 _ from h) (fun j hj=>?_);have:j=0∨j=1∨j=2:=by omega
 rcases this with rfl|rfl|rfl<;>rfl
theorem iw.form {f:Nat->Nat} (h:iw B w v n f):∃ a cap,v=.slice a n cap:=by
 rcases h with ⟨rfl,a,cap,rfl⟩|⟨b,o,cap,rfl,_⟩
 ·exact ⟨a,cap,rfl⟩
 ·exact ⟨_,cap,rfl⟩
theorem AV {f:Nat->Nat} (h:iw w.heap.size w v n f) (d:n<=1048576):Calls Tryz.prog 11 #[v] w fun e w'=>e=.returned (.pointer (some ⟨w.heap.size,0,none⟩))/\Hq (DS w.heap.size w' w.heap.size v n f (0,88172645463325252+(n:Int))/\Below w.heap.size w w'):=by
 obtain ⟨a,b,rfl⟩:=h.form;have k:=ah h;have j:=ah (Gq w (.slice a n b) (88172645463325252+(n:Int)));have g:=ah (aU w (.cells #[.slice a n b,.int .i64 0,.int .u64 (88172645463325252+(n:Int))] 83));have l:IntKind.u64.wrap (88172645463325252+(n:Int))=88172645463325252+(n:Int):=lD (by omega) (by omega);have i:IntKind.u64.wrap (n:Int)=(n:Int):=lD (by omega) (by omega);have c:=ah d;clear h d;go_enter Tryz.func11,Tryz.ntmps11;go_wp2;go_ret;refine ⟨rfl,ah ⟨⟨k.o.keep (Keeps.of g.o (au _) (fun _=>False)) (au _) (fun _ e=>e.elim),c.o,au _,j.o,?_,?_,Nat.zero_le _⟩,g.o⟩⟩
 ·have:=c.o
  show (0:Int)<=88172645463325252+(n:Int);omega
 ·have:=c.o
  show 88172645463325252+(n:Int)<18446744073709551616;omega
theorem xO {f:Nat->Nat} (h:iw w.heap.size w v n f) (g:n<=1048576):Calls Tryz.prog 20 #[v,.int .i64 400] w fun e w'=>e=.returned (.int .i64 (dN n:Int))/\w'=w:=by
 obtain ⟨a,b,rfl⟩:=h.form;clear h;have hd:((n:Int).tdiv 2)=((n/2:Nat):Int):=by rw [Int.tdiv_eq_ediv_of_nonneg (by omega)];omega
 unfold dN;by_cases c:400<2+n/2
 ·rw [if_pos c]
  have d:(2+((n/2:Nat):Int) > 400):=by omega
  go_enter Tryz.func20,Tryz.ntmps20;go_wp2;go_ret;exact ⟨rfl,rfl⟩
 ·rw [if_neg c]
  have d:¬ (2+((n/2:Nat):Int) > 400):=by omega
  go_enter Tryz.func20,Tryz.ntmps20;go_wp2;go_ret;exact ⟨by simp,rfl⟩
theorem iN {o:Oper} {K:Act->World->Prop} {Q:Exit->Act->World->Prop} (x y:Operand)
 (ho:o.op=.call { callee:=.value (.func 21),args:=#[x,y],argTypes:=#[42,3] }) (c b:Value) (hx:a.eval x=c) (d:a.eval y=b) {E:Ending->World->Prop} (i:Calls Tryz.prog 21 #[c,b] w E)
 (h:∀ e w',E e w'->∃ v,e=.returned v/\K (a.put o.dst v) w'):Oper.wp Tryz.prog o a w K Q:=by
 unfold Oper.wp;have f:a.eval (.func 21)=.func (.func 21) #[] #[]:=rfl;generalize a.eval=ev at hx d f ⊢;simp [execOp,ho,resolve,invoke,hx,d,f,go_sem];refine i.mono ?_;intro e w' g;obtain ⟨v,rfl,hk⟩:=h e w' g;exact hk
theorem Et {o:Oper} {K:Act->World->Prop} {Q:Exit->Act->World->Prop} (x:Operand)
 (ho:o.op=.call { callee:=.value (.func 22),args:=#[x],argTypes:=#[42] }) (b:Value) (hx:a.eval x=b) {E:Ending->World->Prop} (f:Calls Tryz.prog 22 #[b] w E)
 (h:∀ e w',E e w'->∃ v,e=.returned v/\K (a.put o.dst v) w'):Oper.wp Tryz.prog o a w K Q:=by
 unfold Oper.wp;have c:a.eval (.func 22)=.func (.func 22) #[] #[]:=rfl;generalize a.eval=ev at hx c ⊢;simp [execOp,ho,resolve,invoke,hx,c,go_sem];refine f.mono ?_;intro e w' d;obtain ⟨v,rfl,hk⟩:=h e w' d;exact hk
theorem fV:(Tryz.prog.info? 39).map (fun i=>(i.zero,i.size,i.bytes))=some (some (.agg #[.int .i64 0,.int .i64 0,.int .i64 0,.int .i64 0]),4,32):=by kernel_rfl
theorem nC {o:Oper} (s x:Operand)
 (ho:o.op=.call { callee:=.builtin .append,args:=#[s,x],argTypes:=#[23,23] })
 (base:Nat) (v:Value) (n:Nat) (m c:List Value) (hown:wr.ownsRow base 39 4 v n m) (C:a.eval s=v) (hx:a.eval x=.slice (some ⟨wr.heap.size,0,none⟩) 1 1) (k:c.length=4) (F:∀ u∈c,u.oneCell'=true) (y:n<=10000) (g:base<=wr.heap.size)
 (h:∀ v' w',w'.ownsRow base 39 4 v' (n+1) (m++c)->Keeps wr w' (fun b=>v.ownBlock=some b)->K (a.put o.dst v') w'):
 Oper.wp Tryz.prog o a (wr.alloc (.cells c.toArray 39)) K Q:=by
 obtain ⟨A,hi,r,q,p⟩:=info_parts fV;have hb:=aU wr (.cells c.toArray 39);have d:=aj hown (Keeps.of hb (au _) (fun _=>False)) (fun _ _ e=>e);have i:aD (wr.alloc (.cells c.toArray 39)) 39 wr.heap.size 4 (fun j=>c.toArray.getD j (.bool false)):=by
  have:=aD.mk' wr 39 c.toArray;rw [show c.toArray.size=4 from (List.size_toArray).trans k] at this;exact this
 have f:∀ j u,c[j]?=some u->(wr.alloc (.cells c.toArray 39)).cell? ((⟨wr.heap.size,0,none⟩:Addr).add j)=some u:=by
  intro j u z;have t:j<4:=by have:=(aJ.1 z).1;omega
  rw [bL];have:=i.cell (j:=j) t;rw [show (⟨wr.heap.size,0+j,none⟩:Addr)=⟨wr.heap.size,j,none⟩ by rw [Nat.zero_add],this];obtain ⟨D,rfl⟩:=aJ.1 z;simp [Array.getD,D]
 obtain ⟨v',w',hr,E,l,G⟩:=run_append_own (P:=Tryz.prog) _ base 23 o.type 39 A (.agg #[.int .i64 0,.int .i64 0,.int .i64 0,.int .i64 0]) 4 32 Tryz.underlying23 hi r q p rfl (by decide) v n m d ⟨wr.heap.size,0,none⟩ 1 1 c (by rw [k]) f F (by unfold maxLen;omega) (by omega) (aI g hb.size);unfold Oper.wp execOp;simp only [ho,resolve,invoke,builtin,Sem.run_bind,Sem.run_pure,Result.andThen_ok,List.map_toArray,List.map_cons,List.map_nil,C,hx,hr];refine h v' w' E ((Keeps.of hb (au _) _).trans ⟨l.os,l.tape,l.output,l.size,fun b hb hn=>l.block b hb (fun e=>hn e.symm)⟩)
end
end Go.Proofs.YtbpcdfbmnklcjaaGreatDoor
namespace Go.Proofs.YtbpcdfbmnklcjaaGreatDoor
open Go
set_option maxRecDepth 100000
theorem Bg:joinedFacts Tryz.prog 3 Tryz.f3 (OpenSpec.ofChange Rows.fnHeapSafeSpec).bare Rows.fnHeapSafeRow=true:=by kernel_rfl
end Go.Proofs.YtbpcdfbmnklcjaaGreatDoor
