import Derived.Test.YtbpcdfbmnklcjaaGreatDoorKHYN
import Derived.Deep.RegionLaw
import Derived.Deep.RegionHeld3
namespace Go.Proofs.YtbpcdfbmnklcjaaGreatDoor
open Go Go.RowKit
set_option maxHeartbeats 6400000
set_option maxRecDepth 100000
set_option linter.unusedVariables false
section
variable {X:Nat} {w w3 w7:World}
attribute [local go_sem] bW
def kC (a b c:Int):List Value:=[.int .i64 a,.int .i64 b,.int .u64 0,.string ByteArray.empty,.int .i64 c]
theorem Gp (wr:World) (a b c:Int):aD (wr.alloc (.cells #[.int .i64 a,.int .i64 b,.int .u64 0,.string ByteArray.empty,.int .i64 c] 194)) 194 wr.heap.size 5 (fun j=>(kC a b c).getD j (.bool false)):=by
 have h:=aD.mk' wr 194 #[.int .i64 a,.int .i64 b,.int .u64 0,.string ByteArray.empty,.int .i64 c];refine aD.congr (show aD _ _ _ 5 _ from h) (fun j hj=>?_);have:j=0∨j=1∨j=2∨j=3∨j=4:=by omega
 rcases this with rfl|rfl|rfl|rfl|rfl<;>rfl
theorem wC {a b c:Int} (f:aD w3 194 (X+1) 5 (fun j=>(kC 0 0 0).getD j (.bool false))) (i:X+1<=w3.heap.size) (h:Below X w w3)
 (d:w7=((((w3.setCell ⟨X+1,0,none⟩ (.int .i64 a)).setCell ⟨X+1,1,none⟩ (.int .i64 b)).setCell ⟨X+1,2,none⟩ (.int .u64 0)).setCell ⟨X+1,3,none⟩ (.string ByteArray.empty)).setCell ⟨X+1,4,none⟩ (.int .i64 c)):
 aD w7 194 (X+1) 5 (fun j=>(kC a b c).getD j (.bool false))/\Below X w w7:=by
 subst d;refine ⟨?_,?_⟩
 ·refine (((((f.set (j:=0) (by omega) (.int .i64 a)).set (j:=1) (by omega) (.int .i64 b)).set (j:=2) (by omega) (.int .u64 0)).set (j:=3) (by omega) (.string ByteArray.empty)).set (j:=4) (by omega) (.int .i64 c)).congr (fun j hj=>?_)
  have:j=0∨j=1∨j=2∨j=3∨j=4:=by omega
  rcases this with rfl|rfl|rfl|rfl|rfl<;>rfl
 ·exact h.trans ((((((Keeps.setCell (S:=fun b=>b=X+1) (Keeps.refl w3 _) (g:=X+1) (j:=0) rfl (.int .i64 a)).setCell (g:=X+1) (j:=1) rfl (.int .i64 b)).setCell (g:=X+1) (j:=2) rfl (.int .u64 0)).setCell (g:=X+1) (j:=3) rfl (.string ByteArray.empty)).setCell (g:=X+1) (j:=4) rfl (.int .i64 c)).below (B:=X) (by omega) (fun b e=>by omega))
theorem Ai (w:World) (tb:Nat->Nat) (v:HV) (m:∀ n,v=some (.inr n)->w.cell? ⟨tb n,1,none⟩=some (.int .i64 (n:Int))):
 Calls Tryz.prog 122 #[.agg #[.int .i64 (vk v),.int .i64 (vi v),.int .u64 0,.string ByteArray.empty,aK tb v]] w fun e w'=>e=.returned (jR v)/\Below w.heap.size w w':=by
 have a:=ah (Gp (w.alloc (.cells #[.int .i64 (vk v),.int .i64 (vi v),.int .u64 0,.string ByteArray.empty,aK tb v] 143)) 0 0 0);have d:=ah ((d_ w tb v).keep (Keeps.of (aU (w.alloc (.cells #[.int .i64 (vk v),.int .i64 (vi v),.int .u64 0,.string ByteArray.empty,aK tb v] 143)) (.cells #[.int .i64 0,.int .i64 0,.int .u64 0,.string ByteArray.empty,.int .i64 0] 194)) (au _) (fun _=>False)) (fun x=>x));have y:=ah ((aU w (.cells #[.int .i64 (vk v),.int .i64 (vi v),.int .u64 0,.string ByteArray.empty,aK tb v] 143)).trans ((aU (w.alloc (.cells #[.int .i64 (vk v),.int .i64 (vi v),.int .u64 0,.string ByteArray.empty,aK tb v] 143)) (.cells #[.int .i64 0,.int .i64 0,.int .u64 0,.string ByteArray.empty,.int .i64 0] 194)).mono (aU w (.cells #[.int .i64 (vk v),.int .i64 (vi v),.int .u64 0,.string ByteArray.empty,aK tb v] 143)).size));have B:(w.alloc (.cells #[.int .i64 (vk v),.int .i64 (vi v),.int .u64 0,.string ByteArray.empty,aK tb v] 143)).heap.size=w.heap.size+1:=bM _;rw [B] at a;clear B;cases h5:(vk v==5) with
 |false=>
  have t:Hq (jR v=.agg #[.int .i64 (vk v),.int .i64 (vi v),.int .u64 0,.string ByteArray.empty,.int .i64 0]):=ah (by
   cases v with
   |none=>rfl
   |some x=>cases x with
    |inl z=>rfl
    |inr n=>simp [vk] at h5)
  clear m;go_enter Tryz.func122,Tryz.ntmps122;go_upto_region 1 with (fail)
  change Code.wp _ _ _ _ ((w.alloc (.cells #[.int .i64 (vk v),.int .i64 (vi v),.int .u64 0,.string ByteArray.empty,aK tb v] 143)).alloc (.cells #[.int .i64 0,.int .i64 0,.int .u64 0,.string ByteArray.empty,.int .i64 0] 194));generalize (w.alloc (.cells #[.int .i64 (vk v),.int .i64 (vi v),.int .u64 0,.string ByteArray.empty,aK tb v] 143)).alloc (.cells #[.int .i64 0,.int .i64 0,.int .u64 0,.string ByteArray.empty,.int .i64 0] 194)=w3 at *;generalize r:w.heap.size=X at *;have x0:w3.cell? ⟨X,0,none⟩=some (.int .i64 (vk v)):=d.o.c 0;have x1:w3.cell? ⟨X,1,none⟩=some (.int .i64 (vi v)):=d.o.c 1;have P:w3.cell? ⟨X,2,none⟩=some (.int .u64 0):=d.o.c 2;have N:w3.cell? ⟨X,3,none⟩=some (.string ByteArray.empty):=d.o.c 3;have M:=a.o.c 0;have L:=a.o.c 1;have K:=a.o.c 2;have J:=a.o.c 3;have H:=a.o.c 4;have G:=a.o.ME 0;have F:=a.o.ME 1;have E:=a.o.ME 2;have D:=a.o.ME 3;have C:=a.o.ME 4;go_wp2;obtain ⟨w7,g⟩:∃ w7,w7=((((w3.setCell ⟨X+1,0,none⟩ (.int .i64 (vk v))).setCell ⟨X+1,1,none⟩ (.int .i64 (vi v))).setCell ⟨X+1,2,none⟩ (.int .u64 0)).setCell ⟨X+1,3,none⟩ (.string ByteArray.empty)).setCell ⟨X+1,4,none⟩ (.int .i64 0):=⟨_,rfl⟩
  have f:=ah (wC a.o (dh a.o.lt) y.o g);rw [<-g];clear g;have l:w7.cell? ⟨X+1,0,none⟩=some (.int .i64 (vk v)):=f.o.1.c 0;have q1:w7.cell? ⟨X+1,1,none⟩=some (.int .i64 (vi v)):=f.o.1.c 1;have k:w7.cell? ⟨X+1,2,none⟩=some (.int .u64 0):=f.o.1.c 2;have j:w7.cell? ⟨X+1,3,none⟩=some (.string ByteArray.empty):=f.o.1.c 3;have i:w7.cell? ⟨X+1,4,none⟩=some (.int .i64 0):=f.o.1.c 4;refine bodyPost_ret (v:=jR v) ?_ rfl ⟨rfl,by rw [r];exact f.o.2⟩;rw [t.o];simp [results,Tryz.results122,go_sem,l,q1,k,j,i]
 |true=>
  obtain ⟨n,rfl⟩:=FX h5;have q:=m n rfl;have h:=mY q;have s:=ah (y.o.cell (p:=⟨tb n,1,none⟩) h|>.trans q);have Q:=iO (tb n);have u:=ah (fun A=>gV A (tb n));clear m h5 q h;go_enter Tryz.func122,Tryz.ntmps122;go_upto_region 1 with (fail)
  change Code.wp _ _ _ _ ((w.alloc (.cells #[.int .i64 (vk (some (.inr n):HV)),.int .i64 (vi (some (.inr n):HV)),.int .u64 0,.string ByteArray.empty,aK tb (some (.inr n):HV)] 143)).alloc (.cells #[.int .i64 0,.int .i64 0,.int .u64 0,.string ByteArray.empty,.int .i64 0] 194));generalize (w.alloc (.cells #[.int .i64 (vk (some (.inr n):HV)),.int .i64 (vi (some (.inr n):HV)),.int .u64 0,.string ByteArray.empty,aK tb (some (.inr n):HV)] 143)).alloc (.cells #[.int .i64 0,.int .i64 0,.int .u64 0,.string ByteArray.empty,.int .i64 0] 194)=w3 at *;generalize r:w.heap.size=X at *;have x0:w3.cell? ⟨X,0,none⟩=some (.int .i64 5):=d.o.c 0;have x1:w3.cell? ⟨X,1,none⟩=some (.int .i64 0):=d.o.c 1;have P:w3.cell? ⟨X,2,none⟩=some (.int .u64 0):=d.o.c 2;have N:w3.cell? ⟨X,3,none⟩=some (.string ByteArray.empty):=d.o.c 3;have R:w3.cell? ⟨X,4,none⟩=some (.iface 127 (.pointer (some ⟨tb n,0,none⟩))):=d.o.c 4;have S:=s.o;have M:=a.o.c 0;have L:=a.o.c 1;have K:=a.o.c 2;have J:=a.o.c 3;have H:=a.o.c 4;have G:=a.o.ME 0;have F:=a.o.ME 1;have E:=a.o.ME 2;have D:=a.o.ME 3;have C:=a.o.ME 4;go_wp2_with fail
  go_region_with (go_at_call 181;refine (u.o _).mono ?_;rintro T A ⟨rfl,rfl⟩)
  all_goals
   obtain ⟨w7,g⟩:∃ w7,w7=((((w3.setCell ⟨X+1,0,none⟩ (.int .i64 5)).setCell ⟨X+1,1,none⟩ (.int .i64 0)).setCell ⟨X+1,2,none⟩ (.int .u64 0)).setCell ⟨X+1,3,none⟩ (.string ByteArray.empty)).setCell ⟨X+1,4,none⟩ (.int .i64 (n:Int)):=⟨_,rfl⟩
   have f:=ah (wC a.o (dh a.o.lt) y.o g);rw [<-g];clear g;have b:=ah (And.intro (f.o.1.keep (Keeps.of ((aG w7.heap.size w7).drew) (au _) (fun _=>False)) (fun x=>x)) f.o.2.drew);generalize w7.drew=w8 at *;go_wp2;have l:w8.cell? ⟨X+1,0,none⟩=some (.int .i64 5):=b.o.1.c 0;have q1:w8.cell? ⟨X+1,1,none⟩=some (.int .i64 0):=b.o.1.c 1;have k:w8.cell? ⟨X+1,2,none⟩=some (.int .u64 0):=b.o.1.c 2;have j:w8.cell? ⟨X+1,3,none⟩=some (.string ByteArray.empty):=b.o.1.c 3;have i:w8.cell? ⟨X+1,4,none⟩=some (.int .i64 (n:Int)):=b.o.1.c 4;refine bodyPost_ret (v:=jR (some (.inr n))) ?_ rfl ⟨rfl,by rw [r];exact b.o.2⟩;show _=_;simp [results,Tryz.results122,go_sem,l,q1,k,j,i,jR,vk,vi,vr]
end
section
variable {G:Gh} {K:Act->World->Prop} {L:PM} {Q:Exit->Act->World->Prop} {S:Nat->Prop} {a:Act} {base i n:Nat} {e:En} {h:Hp} {o:Ob} {w:World}
attribute [local go_sem] bW
theorem iD {w:World} {o:Oper} {K:Act->World->Prop} {Q:Exit->Act->World->Prop} (x:Operand)
 (ho:o.op=.call { callee:=.value (.func 122),args:=#[x],argTypes:=#[143] }) (tb:Nat->Nat) (v:HV) (hx:a.eval x=.agg #[.int .i64 (vk v),.int .i64 (vi v),.int .u64 0,.string ByteArray.empty,aK tb v])
 (c:∀ n,v=some (.inr n)->w.cell? ⟨tb n,1,none⟩=some (.int .i64 (n:Int)))
 (h:∀ w',Below w.heap.size w w'->K (a.put o.dst (jR v)) w'):Oper.wp Tryz.prog o a w K Q:=by
 unfold Oper.wp;have b:a.eval (.func 122)=.func (.func 122) #[] #[]:=rfl;generalize a.eval=ev at hx b ⊢;simp [execOp,ho,resolve,invoke,hx,b,go_sem];refine (Ai w tb v c).mono ?_;rintro e w' ⟨rfl,hb⟩;exact h w' hb
theorem zq {o:Oper} (m x:Operand)
 (ho:o.op=.call { callee:=.builtin .delete,args:=#[m,x],argTypes:=#[132,194] }) (mv:Value) (es:List En) (i:Nat) (e:En) (hm:a.eval m=mv) (hx:a.eval x=jR e.1) (c:ni w mv es) (hi:es[i]?=some e)
 (h:∀ w',ni w' mv (es.set i (none,e.2))->Keeps w w' (fun b=>dx mv=some b)->w'.heap.size=w.heap.size->K (a.put o.dst (.tuple #[])) w'):Oper.wp Tryz.prog o a w K Q:=by
 obtain ⟨w1,j,g,f,d⟩:=El c hi o.type;unfold Oper.wp execOp;simp only [ho,resolve,invoke,builtin,Sem.run_bind,Sem.run_pure,Result.andThen_ok,List.map_toArray,List.map_cons,List.map_nil,hm,hx,j];exact h w1 g f d
theorem wG (a:M0 base S h G L w) (ho:h.ob n=some o) (hi:o.es[i]?=some e) (J:o.es.length<=5000) (D:iP h e.1):
 Calls Tryz.prog 137 #[.pointer (some ⟨L.tb n,0,none⟩),.int .i64 (i:Int)] w fun e' w'=>e'=.returned (.tuple #[])/\M0 base S (h.ents n (o.es.set i (none,e.2))) G L w'/\Keeps w w' S:=by
 have a0:i<o.es.length:=(aJ.1 hi).1;have M:(i:Int)<(o.es.length:Int):=by omega
 obtain ⟨A,z,s,N,u⟩:=a.ents ho;obtain ⟨g,rfl,f,d⟩:=u i e hi;have t:=(a.ob n o ho).lt;have HT:=ah (fun (w':World) (hb:Below w.heap.size w w') (m:Nat) (hm:e.1=some (.inr m))=>(show w'.cell? ⟨L.tb m,1,none⟩=some (.int .i64 (m:Int)) by
  obtain ⟨om,F⟩:=D m hm;exact ((a.low hb).ob m om F).c 1))
 have HM:=ah (fun (w':World) (hb:Below w.heap.size w w')=>(a.low hb).mp n o ho);have a1:g≠L.tb n:=fun c=>(ay (a.en n o ho) (g:=g) (by rw [s];simp [Value.ownBlock])).apart (a.ob n o ho) (by decide) c;have r:Hq (dx (L.mp n)≠some g/\dx (L.mp n)≠some (L.tb n)):=ah ⟨(a.mp n o ho).apart (ay (a.en n o ho) (g:=g) (by rw [s];simp [Value.ownBlock])),(a.mp n o ho).apart (a.ob n o ho)⟩;have V:w.cell? ⟨L.tb n,7,none⟩=some (.slice (some ⟨g,0,none⟩) o.es.length z):=by rw [<-s];exact (a.ob n o ho).c 7
 have U:w.cell? ⟨L.tb n,8,none⟩=some (L.mp n):=(a.ob n o ho).c 8;have d0:=d 0 _ rfl;have d1:=d 1 _ rfl;have T:=d 2 _ rfl;have R:=d 3 _ rfl;have P:=d 4 _ rfl;simp only [Nat.add_zero] at d0;have Y:=ah a;have W:=ah ho;have HI:=ah hi;have X:=ah s;have HC:=ah d;have HV:=ah D;clear a ho hi s d u D;go_enter Tryz.func137,Tryz.ntmps137;go_wp2_with fail
 go_region_held3 (fun w'=>w'.cell? ⟨L.tb n,7,none⟩=some (.slice (some ⟨g,0,none⟩) o.es.length z)/\w'.cell? ⟨L.tb n,8,none⟩=some (L.mp n)/\w'.cell? ⟨g,i*10,none⟩=some (.int .i64 (vk e.1))/\w'.cell? ⟨g,i*10+1,none⟩=some (.int .i64 (vi e.1))/\w'.cell? ⟨g,i*10+2,none⟩=some (.int .u64 0)/\w'.cell? ⟨g,i*10+3,none⟩=some (.string ByteArray.empty)/\w'.cell? ⟨g,i*10+4,none⟩=some (aK L.tb e.1)) (go_keep)
  (first
    |(refine iD (.tmp 15) rfl L.tb e.1 rfl (HT.o _ (aC (aG _ _) _)) ?_
      intro Z v;have l:Below w.heap.size w Z:=(aC (aG w.heap.size w) _).trans v;have q:=ah l;have t0:=(l.cell (p:=⟨L.tb n,7,none⟩) t).trans V;have t1:=(l.cell (p:=⟨L.tb n,8,none⟩) t).trans U;have t2:=(l.cell (p:=⟨g,i*10,none⟩) f).trans d0;have t3:=(l.cell (p:=⟨g,i*10+1,none⟩) f).trans d1;have t4:=(l.cell (p:=⟨g,i*10+2,none⟩) f).trans T;have t5:=(l.cell (p:=⟨g,i*10+3,none⟩) f).trans R;have t6:=(l.cell (p:=⟨g,i*10+4,none⟩) f).trans P;clear l v)
    |(refine zq (.tmp 7) (.tmp 16) rfl (L.mp n) o.es i e rfl rfl (HM.o _ q.o) HI.out ?_
      intro C y k E;have u0:=(aM (a:=⟨L.tb n,7,none⟩) (k.block _ (aW t q.o.size) r.o.2)).trans t0;have u1:=(aM (a:=⟨L.tb n,8,none⟩) (k.block _ (aW t q.o.size) r.o.2)).trans t1;have u2:=(aM (a:=⟨g,i*10,none⟩) (k.block _ (aW f q.o.size) r.o.1)).trans t2;have u3:=(aM (a:=⟨g,i*10+1,none⟩) (k.block _ (aW f q.o.size) r.o.1)).trans t3;have u4:=(aM (a:=⟨g,i*10+2,none⟩) (k.block _ (aW f q.o.size) r.o.1)).trans t4;have u5:=(aM (a:=⟨g,i*10+3,none⟩) (k.block _ (aW f q.o.size) r.o.1)).trans t5;have u6:=(aM (a:=⟨g,i*10+4,none⟩) (k.block _ (aW f q.o.size) r.o.1)).trans t6;have H:=ah (show ni C (L.mp n) (o.es.set i (none,e.2))/\Keeps w C (fun b=>dx (L.mp n)=some b) from ⟨y,(Keeps.of q.o (au _) _).trans k⟩);clear y k E))
 have x:=ay (Y.o.en n o W.o) (g:=g) (by rw [X.o];simp [Value.ownBlock]);have zz:∀ j,C.frozen? ⟨g,j,none⟩=false:=fun j=>(x.keep H.o.2 r.o.1).ME j;have B:=ah (Y.o.tkey W.o HI.out X.o H.o.2 H.o.1);clear x V U d0 d1 T R P;go_wp2;go_end0;exact ⟨rfl,B.o.1,B.o.2⟩
end
section
variable {G:Gh} {L:PM} {S:Nat->Prop} {base n:Nat} {o:Ob} {w:World}
attribute [local go_sem] bW
theorem iP.ents {q:Hp} {v:HV} (h:iP q v) (n:Nat) (es:List En):iP (q.ents n es) v:=by
 intro m hm;obtain ⟨o,ho⟩:=h m hm;unfold Hp.ents;rw [Hp.Ho];split
 ·rw [ho];exact ⟨_,rfl⟩
 ·exact ⟨o,ho⟩
theorem uN {q:Hp} (a:M0 base S q G L w) (ho:q.ob n=some o) (v:∀ e∈o.es,iP q e.1/\iP q e.2) (H:o.es.length<=5000):
 Calls Tryz.prog 152 #[.pointer (some ⟨L.tb n,0,none⟩)] w fun e w'=>e=.returned (.tuple #[])/\M0 base S (q.ents n (o.es.map (bU q))) G L w'/\Keeps w w' S:=by
 obtain ⟨A,B,p,T,-⟩:=a.ents ho;have c7:w.cell? ⟨L.tb n,7,none⟩=some (.slice A o.es.length B):=by rw [<-p];exact (a.ob n o ho).c 7
 have HA:=ah a;have V:=ah ho;have HE:=ah p;have HK:=ah v;clear a ho p v;go_enter Tryz.func152,Tryz.ntmps152;go_wp2;go_loopw [9] (fun iv wr=>∃ i:Nat,i<=o.es.length/\iv=.int .i64 i/\Hq (M0 base S (q.ents n (bg (bU q) i o.es)) G L wr/\Keeps w wr S)) (fun iv _=>o.es.length-bF iv)
 case atStart=>
  refine ⟨0,by omega,rfl,?_,Keeps.refl _ _⟩;rw [gK,Hp.Io V.o];exact HA.o
 case round=>
  obtain ⟨i,a0,rfl,HI⟩:=hrel;by_cases E:i<o.es.length
  ·obtain ⟨e,u⟩:∃ e,o.es[i]?=some e:=⟨_,aN E⟩
   have m:=Hp.Ij V.o (bg (bU q) i o.es);obtain ⟨A1,z,f,r,h⟩:=HI.out.1.ents m;simp only [cB] at f r;obtain ⟨rfl,rfl⟩:A1=A/\z=B:=by
    have J:=f.symm.trans HE.o;simp only [Value.slice.injEq] at J;exact ⟨J.1,J.2.2⟩
   obtain ⟨g,rfl,R,b⟩:=h i e (dH _ u);have d0:=b 0 _ rfl;have d1:=b 1 _ rfl;have d2:=b 2 _ rfl;have d3:=b 3 _ rfl;have d4:=b 4 _ rfl;have d5:=b 5 _ rfl;have d6:=b 6 _ rfl;have d7:=b 7 _ rfl;have d8:=b 8 _ rfl;have d9:=b 9 _ rfl;simp only [Nat.add_zero] at d0;have k:=HK.o e (aX u);have K:=ah (And.intro (k.1.ents n (bg (bU q) i o.es)) (k.2.ents n (bg (bU q) i o.es)));have a1:=ah k;have t:=ah (HI.out.1.low (aU wr (.cells #[.int .i64 (vk e.1),.int .i64 (vi e.1),.int .u64 0,.string ByteArray.empty,aK L.tb e.1,.int .i64 (vk e.2),.int .i64 (vi e.2),.int .u64 0,.string ByteArray.empty,aK L.tb e.2] 167)));have D:=ah (HI.out.2.trans (Keeps.of (aU wr (.cells #[.int .i64 (vk e.1),.int .i64 (vi e.1),.int .u64 0,.string ByteArray.empty,aK L.tb e.1,.int .i64 (vk e.2),.int .i64 (vi e.2),.int .u64 0,.string ByteArray.empty,aK L.tb e.2] 167)) (au _) S));have C:=ah (mV wr L.tb e);have P:=ah m;have W:Hq ((bg (bU q) i o.es)[i]?=some e/\(bg (bU q) i o.es).length<=5000):=ah ⟨dH _ u,by rw [cB];exact H⟩;have M:=ah (fK (bU q) u);have N:=ah (fM (bU q) u);clear m f h b k u;go_upto_region 3 with (fail)
   generalize wr.alloc (.cells #[.int .i64 (vk e.1),.int .i64 (vi e.1),.int .u64 0,.string ByteArray.empty,aK L.tb e.1,.int .i64 (vk e.2),.int .i64 (vi e.2),.int .u64 0,.string ByteArray.empty,aK L.tb e.2] 167)=w3 at *;generalize wr.heap.size=X at *;clear d0 d1 d2 d3 d4 d5 d6 d7 d8 d9;have y5:w3.cell? ⟨X,5,none⟩=some (.int .i64 (vk e.2)):=C.o.c 5;have y6:w3.cell? ⟨X,6,none⟩=some (.int .i64 (vi e.2)):=C.o.c 6;have y7:w3.cell? ⟨X,7,none⟩=some (.int .u64 0):=C.o.c 7;have y8:w3.cell? ⟨X,8,none⟩=some (.string ByteArray.empty):=C.o.c 8;have Z:w3.cell? ⟨X,9,none⟩=some (aK L.tb e.2):=C.o.c 9;have j:=ah (lC t.o e.2 K.o.2);rw [Hp.I9] at j;cases hb:q.MO e.2 with
   |false=>
    rw [hb] at j;have s:Hq (bU q e=e):=ah (by unfold bU;rw [hb];rfl);clear hb;go_wp2_with fail;refine j.o.mono ?_;rintro U w4 ⟨rfl,d⟩;have l:=ah d;clear d;go_wp2;go_roundw
    case rel=>exact ⟨i+1,by omega,by simp,by rw [N.o s.o];exact t.o.low l.o,D.o.trans (Keeps.of l.o (au _) S)⟩
    case measure=>simp [bF];omega
   |true=>
    rw [hb] at j;have s:Hq (bU q e=(e.1,none)):=ah (by unfold bU;rw [hb];rfl);clear hb;go_wp2_with fail;refine j.o.mono ?_;rintro U w4 ⟨rfl,d⟩;have l:=ah d;have Q:=ah (t.o.low d);have HP:=ah (oL Q.o P.o W.o.1 none W.o.2);clear d y5 y6 y7 y8 Z;go_wp2_with fail;refine HP.o.mono ?_;rintro U w5 ⟨rfl,y,x⟩;have Y:=ah (And.intro y x);clear y x;go_wp2;go_roundw
    case rel=>
     refine ⟨i+1,by omega,by simp,?_,(D.o.trans (Keeps.of l.o (au _) S)).trans Y.o.2⟩;rw [M.o,s.o,<-Hp.Iz q n (bg (bU q) i o.es)];exact Y.o.1
    case measure=>simp [bF];omega
  ·have F:i=o.es.length:=by omega
   subst F;rw [ig] at HI;go_wp2;go_end0;exact ⟨rfl,HI.out.1,HI.out.2⟩
theorem nX {q:Hp} (a:M0 base S q G L w) (ho:q.ob n=some o) (x:∀ e∈o.es,iP q e.1/\iP q e.2) (N:o.es.length<=5000):
 Calls Tryz.prog 153 #[.pointer (some ⟨L.tb n,0,none⟩)] w fun e w'=>e=.returned (.tuple #[])/\M0 base S (q.ents n (o.es.map (b_ q))) G L w'/\Keeps w w' S:=by
 obtain ⟨A,F,r,a2,-⟩:=a.ents ho;have c7:w.cell? ⟨L.tb n,7,none⟩=some (.slice A o.es.length F):=by rw [<-r];exact (a.ob n o ho).c 7
 have HA:=ah a;have Y:=ah ho;have HE:=ah r;have HK:=ah x;clear a ho r x;go_enter Tryz.func153,Tryz.ntmps153;go_wp2;go_loopw [9] (fun iv wr=>∃ i:Nat,i<=o.es.length/\iv=.int .i64 i/\Hq (M0 base S (q.ents n (bg (b_ q) i o.es)) G L wr/\Keeps w wr S)) (fun iv _=>o.es.length-bF iv)
 case atStart=>
  refine ⟨0,by omega,rfl,?_,Keeps.refl _ _⟩;rw [gK,Hp.Io Y.o];exact HA.o
 case round=>
  obtain ⟨i,a3,rfl,HI⟩:=hrel;by_cases B:i<o.es.length
  ·obtain ⟨e,v⟩:∃ e,o.es[i]?=some e:=⟨_,aN B⟩
   have p:=Hp.Ij Y.o (bg (b_ q) i o.es);obtain ⟨A1,E,f,s,h⟩:=HI.out.1.ents p;simp only [cB] at f s;obtain ⟨rfl,rfl⟩:A1=A/\E=F:=by
    have P:=f.symm.trans HE.o;simp only [Value.slice.injEq] at P;exact ⟨P.1,P.2.2⟩
   obtain ⟨g,rfl,a1,b⟩:=h i e (dH _ v);have d0:=b 0 _ rfl;have d1:=b 1 _ rfl;have d2:=b 2 _ rfl;have d3:=b 3 _ rfl;have d4:=b 4 _ rfl;have d5:=b 5 _ rfl;have d6:=b 6 _ rfl;have d7:=b 7 _ rfl;have d8:=b 8 _ rfl;have d9:=b 9 _ rfl;simp only [Nat.add_zero] at d0;have k:=HK.o e (aX v);have T:=ah (And.intro (k.1.ents n (bg (b_ q) i o.es)) (k.2.ents n (bg (b_ q) i o.es)));have R:=ah k;have u:=ah (HI.out.1.low (aU wr (.cells #[.int .i64 (vk e.1),.int .i64 (vi e.1),.int .u64 0,.string ByteArray.empty,aK L.tb e.1,.int .i64 (vk e.2),.int .i64 (vi e.2),.int .u64 0,.string ByteArray.empty,aK L.tb e.2] 167)));have K:=ah (HI.out.2.trans (Keeps.of (aU wr (.cells #[.int .i64 (vk e.1),.int .i64 (vi e.1),.int .u64 0,.string ByteArray.empty,aK L.tb e.1,.int .i64 (vk e.2),.int .i64 (vi e.2),.int .u64 0,.string ByteArray.empty,aK L.tb e.2] 167)) (au _) S));have H:=ah (mV wr L.tb e);have W:=ah p;have Z:Hq ((bg (b_ q) i o.es)[i]?=some e/\(bg (b_ q) i o.es).length<=5000):=ah ⟨dH _ v,by rw [cB];exact N⟩;have U:=ah (fK (b_ q) v);have V:=ah (fM (b_ q) v);clear p f h b k v;go_upto_region 3 with (fail)
   generalize wr.alloc (.cells #[.int .i64 (vk e.1),.int .i64 (vi e.1),.int .u64 0,.string ByteArray.empty,aK L.tb e.1,.int .i64 (vk e.2),.int .i64 (vi e.2),.int .u64 0,.string ByteArray.empty,aK L.tb e.2] 167)=w3 at *;generalize wr.heap.size=X at *;clear d0 d1 d2 d3 d4 d5 d6 d7 d8 d9;have x0:w3.cell? ⟨X,0,none⟩=some (.int .i64 (vk e.1)):=H.o.c 0;have x1:w3.cell? ⟨X,1,none⟩=some (.int .i64 (vi e.1)):=H.o.c 1;have x2:w3.cell? ⟨X,2,none⟩=some (.int .u64 0):=H.o.c 2;have x3:w3.cell? ⟨X,3,none⟩=some (.string ByteArray.empty):=H.o.c 3;have x4:w3.cell? ⟨X,4,none⟩=some (aK L.tb e.1):=H.o.c 4;have j:=ah (lC u.o e.1 T.o.1);rw [Hp.I9] at j;cases hb:q.MO e.1 with
   |false=>
    rw [hb] at j;have t:Hq (b_ q e=e):=ah (by unfold b_;rw [hb];rfl);clear hb;go_wp2_with fail;refine j.o.mono ?_;rintro Q w4 ⟨rfl,d⟩;have m:=ah d;clear d;go_wp2;go_roundw
    case rel=>exact ⟨i+1,by omega,by simp,by rw [V.o t.o];exact u.o.low m.o,K.o.trans (Keeps.of m.o (au _) S)⟩
    case measure=>simp [bF];omega
   |true=>
    rw [hb] at j;have t:Hq (b_ q e=(none,none)):=ah (by unfold b_;rw [hb];rfl);clear hb;go_wp2_with fail;refine j.o.mono ?_;rintro Q w4 ⟨rfl,d⟩;have m:=ah d;have a0:=ah (u.o.low d);have HP:=ah (oL a0.o W.o Z.o.1 none Z.o.2);clear d x0 x1 x2 x3 x4;go_wp2_with fail;refine HP.o.mono ?_;rintro Q w5 ⟨rfl,l,z⟩;rw [Hp.Iz] at l;have H5:=ah (And.intro l z);have C:i<(bg (b_ q) i o.es).length:=by rw [cB];exact B
    have J:=ah (wG l (Hp.Ij Y.o _) (i:=i) (e:=(e.1,none)) (dY C) (by simp only [bN];exact Z.o.2) (R.o.1.ents n _));rw [Hp.Iz,List.set_set] at J;clear l z C;go_wp2_with fail;refine J.o.mono ?_;rintro Q w6 ⟨rfl,D,y⟩;have H6:=ah (And.intro D y);clear D y;go_wp2;go_roundw
    case rel=>
     refine ⟨i+1,by omega,by simp,?_,((K.o.trans (Keeps.of m.o (au _) S)).trans H5.o.2).trans H6.o.2⟩;rw [U.o,t.o];exact H6.o.1
    case measure=>simp [bF];omega
  ·have M:i=o.es.length:=by omega
   subst M;rw [ig] at HI;go_wp2;go_end0;exact ⟨rfl,HI.out.1,HI.out.2⟩
theorem vL {q:Hp} (a:M0 base S q G L w) (ho:q.ob n=some o) (E:∀ e∈o.es,iP q e.1/\iP q e.2) (a0:o.es.length<=5000):
 Calls Tryz.prog 155 #[.pointer (some ⟨L.tb n,0,none⟩)] w fun e w'=>e=.returned (.tuple #[])/\M0 base S (q.ents n (o.es.map (dG q))) G L w'/\Keeps w w' S:=by
 obtain ⟨A,K,v,a5,-⟩:=a.ents ho;have c7:w.cell? ⟨L.tb n,7,none⟩=some (.slice A o.es.length K):=by rw [<-v];exact (a.ob n o ho).c 7
 have HA:=ah a;have HO:=ah ho;have HE:=ah v;have HK:=ah E;clear a ho v E;go_enter Tryz.func155,Tryz.ntmps155;go_wp2;go_loopw [9] (fun iv wr=>∃ i:Nat,i<=o.es.length/\iv=.int .i64 i/\Hq (M0 base S (q.ents n (bg (dG q) i o.es)) G L wr/\Keeps w wr S)) (fun iv _=>o.es.length-bF iv)
 case atStart=>
  refine ⟨0,by omega,rfl,?_,Keeps.refl _ _⟩;rw [gK,Hp.Io HO.o];exact HA.o
 case round=>
  obtain ⟨i,a6,rfl,HI⟩:=hrel;by_cases Y:i<o.es.length
  ·obtain ⟨e,D⟩:∃ e,o.es[i]?=some e:=⟨_,aN Y⟩
   have u:=Hp.Ij HO.o (bg (dG q) i o.es);obtain ⟨A1,J,h,x,j⟩:=HI.out.1.ents u;simp only [cB] at h x;obtain ⟨rfl,rfl⟩:A1=A/\J=K:=by
    have h9:=h.symm.trans HE.o;simp only [Value.slice.injEq] at h9;exact ⟨h9.1,h9.2.2⟩
   obtain ⟨g,rfl,a4,b⟩:=j i e (dH _ D);have d0:=b 0 _ rfl;have d1:=b 1 _ rfl;have d2:=b 2 _ rfl;have d3:=b 3 _ rfl;have d4:=b 4 _ rfl;have d5:=b 5 _ rfl;have d6:=b 6 _ rfl;have d7:=b 7 _ rfl;have d8:=b 8 _ rfl;have d9:=b 9 _ rfl;simp only [Nat.add_zero] at d0;have s:=HK.o e (aX D);have M:=ah (And.intro (s.1.ents n (bg (dG q) i o.es)) (s.2.ents n (bg (dG q) i o.es)));have a7:=ah s;have Q:=ah (HI.out.1.low (aU wr (.cells #[.int .i64 (vk e.1),.int .i64 (vi e.1),.int .u64 0,.string ByteArray.empty,aK L.tb e.1,.int .i64 (vk e.2),.int .i64 (vi e.2),.int .u64 0,.string ByteArray.empty,aK L.tb e.2] 167)));have B:=ah (HI.out.2.trans (Keeps.of (aU wr (.cells #[.int .i64 (vk e.1),.int .i64 (vi e.1),.int .u64 0,.string ByteArray.empty,aK L.tb e.1,.int .i64 (vk e.2),.int .i64 (vi e.2),.int .u64 0,.string ByteArray.empty,aK L.tb e.2] 167)) (au _) S));have l:=ah (mV wr L.tb e);have a2:=ah u;have HG:Hq ((bg (dG q) i o.es)[i]?=some e/\(bg (dG q) i o.es).length<=5000):=ah ⟨dH _ D,by rw [cB];exact a0⟩;have a1:=ah (fK (dG q) D);have N:=ah (fM (dG q) D);clear u h j b s D;go_upto_region 3 with (fail)
   generalize wr.alloc (.cells #[.int .i64 (vk e.1),.int .i64 (vi e.1),.int .u64 0,.string ByteArray.empty,aK L.tb e.1,.int .i64 (vk e.2),.int .i64 (vi e.2),.int .u64 0,.string ByteArray.empty,aK L.tb e.2] 167)=w3 at *;generalize wr.heap.size=X at *;clear d0 d1 d2 d3 d4 d5 d6 d7 d8 d9;have y5:w3.cell? ⟨X,5,none⟩=some (.int .i64 (vk e.2)):=l.o.c 5;have y6:w3.cell? ⟨X,6,none⟩=some (.int .i64 (vi e.2)):=l.o.c 6;have y7:w3.cell? ⟨X,7,none⟩=some (.int .u64 0):=l.o.c 7;have y8:w3.cell? ⟨X,8,none⟩=some (.string ByteArray.empty):=l.o.c 8;have y9:w3.cell? ⟨X,9,none⟩=some (aK L.tb e.2):=l.o.c 9;have x0:w3.cell? ⟨X,0,none⟩=some (.int .i64 (vk e.1)):=l.o.c 0;have x1:w3.cell? ⟨X,1,none⟩=some (.int .i64 (vi e.1)):=l.o.c 1;have W:w3.cell? ⟨X,2,none⟩=some (.int .u64 0):=l.o.c 2;have V:w3.cell? ⟨X,3,none⟩=some (.string ByteArray.empty):=l.o.c 3;have U:w3.cell? ⟨X,4,none⟩=some (aK L.tb e.1):=l.o.c 4;have T:=ah (bT w3 L.tb e.2);cases hn:e.2.isNone with
   |false=>
    rw [hn] at T;have p:Hq (dG q e=e):=ah (by unfold dG;rw [hn];rfl);clear hn;go_wp2_with fail;refine T.o.mono ?_;rintro R w4 ⟨rfl,d⟩;have r:=ah d;clear d;go_wp2;go_roundw
    case rel=>exact ⟨i+1,by omega,by simp,by rw [N.o p.o];exact Q.o.low r.o,B.o.trans (Keeps.of r.o (au _) S)⟩
    case measure=>simp [bF];omega
   |true=>
    rw [hn] at T;have z:=ah hn;clear hn;go_wp2_with fail;refine T.o.mono ?_;rintro R w4 ⟨rfl,d⟩;have r:=ah d;have C:=ah (Q.o.low d);have k:=ah (l.o.keep (Keeps.of d (au _) (fun _=>False)) (fun y=>y));clear d y5 y6 y7 y8 y9 x0 x1 W V U;have x0:w4.cell? ⟨X,0,none⟩=some (.int .i64 (vk e.1)):=k.o.c 0;have x1:w4.cell? ⟨X,1,none⟩=some (.int .i64 (vi e.1)):=k.o.c 1;have W:w4.cell? ⟨X,2,none⟩=some (.int .u64 0):=k.o.c 2;have V:w4.cell? ⟨X,3,none⟩=some (.string ByteArray.empty):=k.o.c 3;have U:w4.cell? ⟨X,4,none⟩=some (aK L.tb e.1):=k.o.c 4;have m:=ah (lC C.o e.1 M.o.1);rw [Hp.I9] at m;cases hb:q.MO e.1 with
    |false=>
     rw [hb] at m;have p:Hq (dG q e=e):=ah (by unfold dG;rw [z.o,hb];rfl);clear hb;go_wp2_with fail;refine m.o.mono ?_;rintro R w5 ⟨rfl,f⟩;have t:=ah f;clear f;go_wp2;go_roundw
     case rel=>exact ⟨i+1,by omega,by simp,by rw [N.o p.o];exact C.o.low t.o,(B.o.trans (Keeps.of r.o (au _) S)).trans (Keeps.of t.o (au _) S)⟩
     case measure=>simp [bF];omega
    |true=>
     rw [hb] at m;have p:Hq (dG q e=(none,e.2)):=ah (by
      unfold dG;rw [z.o,hb];have:e.2=none:=by simpa using z.o
      rw [this];rfl)
     clear hb;go_wp2_with fail;refine m.o.mono ?_;rintro R w5 ⟨rfl,f⟩;have t:=ah f;have a3:=ah (C.o.low f);have P:=ah (wG a3.o a2.o HG.o.1 HG.o.2 M.o.1);rw [Hp.Iz] at P;clear f x0 x1 W V U;go_wp2_with fail;refine P.o.mono ?_;rintro R w6 ⟨rfl,H,F⟩;have H6:=ah (And.intro H F);clear H F;go_wp2;go_roundw
     case rel=>
      refine ⟨i+1,by omega,by simp,?_,((B.o.trans (Keeps.of r.o (au _) S)).trans (Keeps.of t.o (au _) S)).trans H6.o.2⟩;rw [a1.o,p.o];exact H6.o.1
     case measure=>simp [bF];omega
  ·have Z:i=o.es.length:=by omega
   subst Z;rw [ig] at HI;go_wp2;go_end0;exact ⟨rfl,HI.out.1,HI.out.2⟩
end
section
variable {G:Gh} {L:PM} {S:Nat->Prop} {base:Nat} {h:Hp} {w:World}
attribute [local go_sem] bW
theorem nW (c:Hp->En->En):∀ (l:List Nat) (h:Hp),l.foldl (Hp.Nb c) h={ h with objs:=(l.foldl (Hp.Nb c) h).objs }
 | [],h=>rfl
 |a::l,h=>by
  rw [List.foldl_cons,nW c l];rfl
theorem AO (a b:List Nat) (h:Hp):(a++b).foldl Hp.Ml h=(b++a).foldl Hp.Ml h:=by
 rw [Bh,nW b_ (a++b) h,nW b_ (b++a) h];have d:=Np.fold b_ gu (a++b) h;have c:=Np.fold b_ gu (b++a) h;rw [tQ (h:=(b++a).foldl (Hp.Nb b_) h) (g:=(a++b).foldl (Hp.Nb b_) h) (by rw [d.len,c.len]) (fun n=>?_)];rw [<-Bh,lM,lM];simp only [aY,Or.comm]
theorem uw (a:M0 base S h G L w) (k:Wk h):
 Calls Tryz.prog 144 #[.pointer (some ⟨L.H,0,none⟩)] w fun e w'=>e=.returned (.tuple #[])/\M0 base S (h.weak.foldl Hp.MN h) G L w'/\Keeps w w' S:=by
 obtain ⟨A,m,z,N,-⟩:=a.II (k:=13) (by simp [eF]);have ck:w.cell? ⟨L.H,13,none⟩=some (.slice A h.weak.length m):=by
  have:=a.hp.c 13;rw [this];exact congrArg some z
 have R:h.weak.length<=20000:=by
  have:=k.s.nu;simp only [Hp.nu] at this;omega
 have W:=ah a;have P:=ah k;have HV:Hq (L.li 13=.slice A h.weak.length m):=ah z;clear a k z;go_enter Tryz.func144,Tryz.ntmps144;go_wp2;go_loopw [10] (fun iv wr=>∃ i:Nat,i<=h.weak.length/\iv=.int .i64 i/\Hq (M0 base S ((h.weak.take i).foldl Hp.MN h) G L wr/\Keeps w wr S)) (fun iv _=>h.weak.length-bF iv)
 case atStart=>exact ⟨0,by omega,rfl,W.o,Keeps.refl _ _⟩
 case round=>
  obtain ⟨i,T,rfl,HI⟩:=hrel;by_cases C:i<h.weak.length
  ·obtain ⟨n,y⟩:∃ n,h.weak[i]?=some n:=⟨_,aN C⟩
   have p:=bD y;have d:Np h ((h.weak.take i).foldl Hp.MN h):=Np.fold bU bZ (h.weak.take i) h;have f:=P.o.cnt d;obtain ⟨q,B⟩:∃ q,(h.weak.take i).foldl Hp.MN h=q:=⟨_,rfl⟩
   rw [B] at d HI f;obtain ⟨X,x,j,E,b⟩:=HI.out.1.II (k:=13) (by simp [eF]);have r:eU q G 13=h.weak:=d.weak;rw [r] at j b;obtain ⟨rfl,rfl⟩:X=A/\x=m:=by
    have F:=j.symm.trans HV.out;simp only [Value.slice.injEq] at F;exact ⟨F.1,F.2.2⟩
   obtain ⟨g,rfl,K,u⟩:=b i n y;have M:wr.cell? ⟨g,i,none⟩=some (.pointer (some ⟨L.tb n,0,none⟩)):=u;obtain ⟨o,ho⟩:=(d.lv n).2 (P.o.l n (.inr <| .inr <| .inl <| (aX y)));have U:=ah (uN HI.out.1 ho (iP.of f.c ho) (f.s.es n o ho));have V:Hq ((h.weak.take (i+1)).foldl Hp.MN h=q.ents n (o.es.map (bU q))):=ah (by rw [p,bE,B];exact jN bU ho);have J:=ah HI.out.2;clear B d p u b j r ho HI y f;go_wp2_with fail;refine U.o.mono ?_;rintro Z Y ⟨rfl,v,t⟩;have Q:=ah (And.intro v t);clear v t;go_wp2;go_roundw
   case rel=>exact ⟨i+1,by omega,by simp,by rw [V.o];exact Q.o.1,J.o.trans Q.o.2⟩
   case measure=>simp [bF];omega
  ·have D:i=h.weak.length:=by omega
   subst D;rw [bf] at HI;go_wp2;go_end0;exact ⟨rfl,HI.out.1,HI.out.2⟩
theorem yV (a:M0 base S h G L w) (k:Wk h):
 Calls Tryz.prog 146 #[.pointer (some ⟨L.H,0,none⟩)] w fun e w'=>e=.returned (.tuple #[])/\M0 base S h.at4 G L w'/\Keeps w w' S:=by
 obtain ⟨A,J,T,a2,-⟩:=a.II (k:=13) (by simp [eF]);have ck:w.cell? ⟨L.H,13,none⟩=some (.slice A h.weak.length J):=by
  have:=a.hp.c 13;rw [this];exact congrArg some T
 have a3:h.weak.length<=20000:=by
  have:=k.s.nu;simp only [Hp.nu] at this;omega
 have HA:=ah a;have Y:=ah k;have HV:Hq (L.li 13=.slice A h.weak.length J):=ah T;clear a k T;go_enter Tryz.func146,Tryz.ntmps146;go_wp2;go_loopw [12] (fun iv wr=>∃ i:Nat,i<=h.weak.length/\iv=.int .i64 i/\Hq (M0 base S ((h.weak.take i).foldl Hp.Ml h) G L wr/\Keeps w wr S)) (fun iv _=>h.weak.length-bF iv)
 case atStart=>exact ⟨0,by omega,rfl,HA.o,Keeps.refl _ _⟩
 case round=>
  obtain ⟨i,U,rfl,HI⟩:=hrel;by_cases C:i<h.weak.length
  ·obtain ⟨n,y⟩:∃ n,h.weak[i]?=some n:=⟨_,aN C⟩
   have m:=bD y;have b:Np h ((h.weak.take i).foldl Hp.Ml h):=Np.fold b_ gu (h.weak.take i) h;have f:=Y.o.cnt b;obtain ⟨q,B⟩:∃ q,(h.weak.take i).foldl Hp.Ml h=q:=⟨_,rfl⟩
   rw [B] at b HI f;obtain ⟨A1,x,j,E,d⟩:=HI.out.1.II (k:=13) (by simp [eF]);have p:eU q G 13=h.weak:=b.weak;rw [p] at j d;obtain ⟨rfl,rfl⟩:A1=A/\x=J:=by
    have F:=j.symm.trans HV.out;simp only [Value.slice.injEq] at F;exact ⟨F.1,F.2.2⟩
   obtain ⟨g,rfl,N,t⟩:=d i n y;have P:wr.cell? ⟨g,i,none⟩=some (.pointer (some ⟨L.tb n,0,none⟩)):=t;obtain ⟨o,ho⟩:=(b.lv n).2 (Y.o.l n (.inr <| .inr <| .inl <| (aX y)));have X:=ah (nX HI.out.1 ho (iP.of f.c ho) (f.s.es n o ho));have Z:Hq ((h.weak.take (i+1)).foldl Hp.Ml h=q.ents n (o.es.map (b_ q))):=ah (by rw [m,bE,B];exact jN b_ ho);have K:=ah HI.out.2;clear B b m t d j p ho HI y f;go_wp2_with fail;refine X.o.mono ?_;rintro e9 w6 ⟨rfl,u,r⟩;have R:=ah (And.intro u r);clear u r;go_wp2;go_roundw
   case rel=>exact ⟨i+1,by omega,by simp,by rw [Z.o];exact R.o.1,K.o.trans R.o.2⟩
   case measure=>simp [bF];omega
  ·have D:i=h.weak.length:=by omega
   subst D;rw [bf] at HI;have b:Np h (h.weak.foldl Hp.Ml h):=Np.fold b_ gu h.weak h;have M:=ah (Y.o.cnt b);have a0:Hq (h.at4=(h.weak.foldl Hp.Ml h).G8.foldl Hp.Ml (h.weak.foldl Hp.Ml h)):=ah (by
    rw [b.G8,<-List.foldl_append];exact AO h.G8 h.weak h)
   generalize h.weak.foldl Hp.Ml h=q2 at *;obtain ⟨A2,v,z,V,-⟩:=HI.out.1.II (k:=14) (by simp [eF]);have a4:wr.cell? ⟨L.H,14,none⟩=some (.slice A2 q2.G8.length v):=by
    have:=HI.out.1.hp.c 14;rw [this];exact congrArg some z
   have a1:q2.G8.length<=20000:=by
    have:=M.o.s.nu;simp only [Hp.nu] at this;omega
   have W:Hq (L.li 14=.slice A2 q2.G8.length v):=ah z;have Q:=ah HI.out;clear z b HI;go_wp2;go_loopw [25] (fun iv wr=>∃ i:Nat,i<=q2.G8.length/\iv=.int .i64 i/\Hq (M0 base S ((q2.G8.take i).foldl Hp.Ml q2) G L wr/\Keeps w wr S)) (fun iv _=>q2.G8.length-bF iv)
   case atStart=>exact ⟨0,by omega,rfl,Q.o.1,Q.o.2⟩
   case round=>
    obtain ⟨i,U,rfl,HI⟩:=hrel;by_cases C:i<q2.G8.length
    ·obtain ⟨n,y⟩:∃ n,q2.G8[i]?=some n:=⟨_,aN C⟩
     have m:=bD y;have b:Np q2 ((q2.G8.take i).foldl Hp.Ml q2):=Np.fold b_ gu (q2.G8.take i) q2;have f:=M.o.cnt b;obtain ⟨q,B⟩:∃ q,(q2.G8.take i).foldl Hp.Ml q2=q:=⟨_,rfl⟩
     rw [B] at b HI f;obtain ⟨A1,x,j,E,d⟩:=HI.out.1.II (k:=14) (by simp [eF]);have p:eU q G 14=q2.G8:=b.G8;rw [p] at j d;obtain ⟨rfl,rfl⟩:A1=A2/\x=v:=by
      have F:=j.symm.trans W.o;simp only [Value.slice.injEq] at F;exact ⟨F.1,F.2.2⟩
     obtain ⟨g,rfl,N,t⟩:=d i n y;have P:wr.cell? ⟨g,i,none⟩=some (.pointer (some ⟨L.tb n,0,none⟩)):=t;obtain ⟨o,ho⟩:=(b.lv n).2 (M.o.l n (.inr <| .inr <| .inr <| (aX y)));have X:=ah (nX HI.out.1 ho (iP.of f.c ho) (f.s.es n o ho));have Z:Hq ((q2.G8.take (i+1)).foldl Hp.Ml q2=q.ents n (o.es.map (b_ q))):=ah (by rw [m,bE,B];exact jN b_ ho);have K:=ah HI.out.2;clear B b m t d j p ho HI y f;go_wp2_with fail;refine X.o.mono ?_;rintro e9 w6 ⟨rfl,u,r⟩;have R:=ah (And.intro u r);clear u r;go_wp2;go_roundw
     case rel=>exact ⟨i+1,by omega,by simp,by rw [Z.o];exact R.o.1,K.o.trans R.o.2⟩
     case measure=>simp [bF];omega
    ·have D:i=q2.G8.length:=by omega
     subst D;rw [bf] at HI;go_wp2;go_end0;exact ⟨rfl,by rw [a0.o];exact HI.out.1,HI.out.2⟩
end
section
variable {G:Gh} {L:PM} {S:Nat->Prop} {base i k m n:Nat} {es:List En} {h:Hp} {o:Ob} {w:World}
structure MX (G:Gh) (h:Hp):Prop where
 up:G.Ns.Pairwise (·< ·)
 lv:∀ n,n∈G.Ns↔h.Lv n
theorem vC (v:Value) (w:World):(Instr.typeAssert (.iface 127 v) 67 127 true).run Tryz.prog w=.ok (.tuple #[v,.bool true]) w:=by kernel_rfl
theorem yP (h:aZ es=0) (q:Hp):es.map (dG q)=es:=by
 unfold aZ at h;rw [List.length_eq_zero_iff,List.filter_eq_nil_iff] at h
 conv=>rhs;rw [<-List.map_id es]
 refine List.map_congr_left (fun e he=>?_);have:=h e he;unfold dG;cases hn:e.2.isNone with
 |false=>rfl
 |true=>exact absurd hn this
theorem kM {q:Hp} (d:k<=m) (h:∀ n,k<=n->n<m->¬ q.Lv n):bn m q=bn k q:=by
 induction m with
 |zero=>rw [show k=0 by omega]
 |succ m ih=>
  by_cases c:k=m+1
  ·rw [c]
  ·rw [iJ (fun o e=>absurd ⟨o,e⟩ (h m (by omega) (by omega))),ih (by omega) (fun n a b=>h n a (by omega))]
theorem uR {q:Hp} (h:∀ n,q.Lv n->n<k):bn k q=q.Im:=by
 rw [<-nT];rcases Nat.le_total k q.objs.length with c|c
 ·exact (kM c (fun n a _ l=>by have:=h n l;omega)).symm
 ·refine kM c (fun n a _ l=>?_)
  obtain ⟨o,ho⟩:=l;have:=Hp.Ia ho;omega
theorem vE {q:Hp} (h:q.ob n=some o) (a:i<=n):(bn i q).ob n=some o:=by
 rw [gN,if_neg (by omega),h]
theorem Bl (a:M0 base S h G L w) (k:Wk h) (gl:MX G h) (a8:G.Ns.length<=20000):
 Calls Tryz.prog 147 #[.pointer (some ⟨L.H,0,none⟩)] w fun e w'=>e=.returned (.tuple #[])/\M0 base S h.Im G L w'/\Keeps w w' S:=by
 obtain ⟨A,E,X,a6,-⟩:=a.II (k:=7) (by simp [eF]);have ck:w.cell? ⟨L.H,7,none⟩=some (.slice A G.Ns.length E):=by
  have:=a.hp.c 7;rw [this];exact congrArg some X
 have HA:=ah a;have HK:=ah k;have HG:=ah gl;have HV:Hq (L.li 7=.slice A G.Ns.length E):=ah X;have a7:=vC;clear a k gl X;go_enter Tryz.func147,Tryz.ntmps147;go_wp2;go_loopw [11] (fun iv wr=>∃ i:Nat,i<=G.Ns.length/\iv=.int .i64 i/\Hq (∃ m,M0 base S (bn m h) G L wr/\Keeps w wr S/\(∀ j n,i<=j->G.Ns[j]?=some n->m<=n)/\∀ n,h.Lv n->n<m∨∃ j,i<=j/\G.Ns[j]?=some n)) (fun iv _=>G.Ns.length-bF iv)
 case atStart=>
  refine ⟨0,by omega,rfl,0,?_,Keeps.refl _ _,fun j n _ _=>Nat.zero_le _,fun n hn=>.inr ?_⟩
  ·rw [mR];exact HA.o
  ·obtain ⟨j,C,e⟩:=List.getElem_of_mem ((HG.o.lv n).2 hn)
   exact ⟨j,Nat.zero_le _,by rw [aN C,e]⟩
 case round=>
  obtain ⟨i,a9,rfl,HI⟩:=hrel;obtain ⟨m,b,t,z,p⟩:=HI.out;by_cases P:i<G.Ns.length
  ·obtain ⟨n,D⟩:∃ n,G.Ns[i]?=some n:=⟨_,aN P⟩
   obtain ⟨o,ho⟩:=(HG.o.lv n).1 (aX D);have r:∀ j u,i<j->G.Ns[j]?=some u->n<u:=by
    intro j u Z C;have Y:=(aJ.1 C).1;have e1:=(aJ.1 C).2;have e2:=(aJ.1 D).2;have:=List.pairwise_iff_getElem.1 HG.o.up i j P Y Z;rw [e1,e2] at this;exact this
   have M:=z i n (au _) D;have v:bn n h=bn m h:=kM M (fun x h1 h2 hl=>by
    rcases p x hl with c|⟨j,C,c⟩
    ·omega
    ·rcases Nat.lt_or_ge i j with d|d
     ·have:=r j x d c;omega
     ·rw [show j=i by omega,D] at c;cases c;omega)
   rw [<-v] at b;have l:(bn n h).ob n=some o:=vE ho (au _);have B:=HK.o.cnt (jC n h);have J:Hq ((∀ j u,i+1<=j->G.Ns[j]?=some u->n+1<=u)/\∀ x,h.Lv x->x<n+1∨∃ j,i+1<=j/\G.Ns[j]?=some x):=ah ⟨fun j u h1 h2=>r j u h1 h2,fun x hl=>by
    rcases p x hl with c|⟨j,C,c⟩
    ·exact .inl (by omega)
    ·rcases Nat.lt_or_ge i j with d|d
     ·exact .inr ⟨j,d,c⟩
     ·rw [show j=i by omega,D] at c;cases c;exact .inl (by omega)⟩
   obtain ⟨A1,T,y,a1,q⟩:=b.II (k:=7) (by simp [eF]);have K:eU (bn n h) G 7=G.Ns:=rfl;rw [K] at y q;obtain ⟨rfl,rfl⟩:A1=A/\T=E:=by
    have h9:=y.symm.trans HV.out;simp only [Value.slice.injEq] at h9;exact ⟨h9.1,h9.2.2⟩
   obtain ⟨g,rfl,a4,Q⟩:=q i n D;have a5:wr.cell? ⟨g,i,none⟩=some (.iface 127 (.pointer (some ⟨L.tb n,0,none⟩))):=Q;have t0:wr.cell? ⟨L.tb n,0,none⟩=some (.int .i64 (o.col:Int)):=(b.ob n o l).c 0;have t9:wr.cell? ⟨L.tb n,9,none⟩=some (.int .i64 ((aZ o.es:Nat):Int)):=(b.ob n o l).c 9;have U:=ah (lY wr (L.tb n) o.col t0);have HB:=ah (vL b l (iP.of B.c l) (B.s.es n o l));have f:=ah (And.intro b t);have V:=ah ho;have a3:=ah l;clear b t z p HI D ho l r v B q Q y K M;cases hw:fU o.col with
   |true=>
    rw [hw] at U;have F:Hq (bn (n+1) h=bn n h):=ah (iJ (fun o' e=>by
     rw [V.o] at e;cases e;unfold Hp.drop1;rw [if_pos hw]))
    clear hw;go_wp2_with fail;refine U.o.mono ?_;rintro e1 w1 ⟨rfl,rfl⟩;go_wp2;go_roundw
    case rel=>exact ⟨i+1,by omega,by simp,n+1,by rw [F.o];exact f.o.1,f.o.2,J.o⟩
    case measure=>simp [bF];omega
   |false=>
    rw [hw] at U;have W:Hq (bn (n+1) h=(bn n h).ents n (o.es.map (dG (bn n h)))):=ah (qB V.o hw);clear hw;by_cases hb:aZ o.es=0
    ·have a2:¬ (((aZ o.es:Nat):Int) > 0):=by omega
     have F:Hq (bn (n+1) h=bn n h):=ah (by rw [W.o,yP hb,Hp.Io a3.o]);clear hb;go_wp2_with fail;refine U.o.mono ?_;rintro e1 w1 ⟨rfl,rfl⟩;go_wp2;go_roundw
     case rel=>exact ⟨i+1,by omega,by simp,n+1,by rw [F.o];exact f.o.1,f.o.2,J.o⟩
     case measure=>simp [bF];omega
    ·have a2:((aZ o.es:Nat):Int) > 0:=by omega
     clear hb;go_wp2_with fail;refine U.o.mono ?_;rintro e1 w1 ⟨rfl,rfl⟩;go_wp2_with fail;refine HB.o.mono ?_;rintro e9 w6 ⟨rfl,R,N⟩;have H6:=ah (And.intro R N);clear R N;go_wp2;go_roundw
     case rel=>exact ⟨i+1,by omega,by simp,n+1,by rw [W.o];exact H6.o.1,f.o.2.trans H6.o.2,J.o⟩
     case measure=>simp [bF];omega
  ·have a0:i=G.Ns.length:=by omega
   subst a0;have HD:Hq (bn m h=h.Im):=ah (uR (fun n hn=>by
    rcases p n hn with c|⟨j,C,c⟩
    ·exact c
    ·have:=(aJ.1 c).1;omega))
   have f:=ah (And.intro b t);clear b t z p HI;go_wp2;go_end0;exact ⟨rfl,by rw [<-HD.o];exact f.o.1,f.o.2⟩
end
end Go.Proofs.YtbpcdfbmnklcjaaGreatDoor
