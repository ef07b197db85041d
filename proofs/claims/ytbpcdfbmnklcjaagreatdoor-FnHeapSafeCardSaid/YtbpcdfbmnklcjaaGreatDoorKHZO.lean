import Derived.Test.YtbpcdfbmnklcjaaGreatDoorKHZK
import Derived.Maps.AppendAt
import Derived.Test.YtbpcdfbmnklcjaaGreatDoorKHUA
namespace Go.Proofs.YtbpcdfbmnklcjaaGreatDoor
open Go Go.RowKit
set_option maxHeartbeats 6400000
set_option maxRecDepth 100000
set_option linter.unusedVariables false
section
variable {G:Gh} {L:PM} {S S':Nat->Prop} {base n:Nat} {h:Hp} {o:Ob} {w w1 w2:World}
attribute [local go_sem] bW
theorem Keeps.into (h:Keeps w w1 S) (k:Keeps w1 w2 S') (hb:∀ c,S' c->S c∨w.heap.size<=c):Keeps w w2 S:=
 ⟨k.os.trans h.os,k.tape.trans h.tape,k.output.trans h.output,aI h.size k.size,fun c hc hn=>(k.block c (aX hc h.size) (fun e=>by
  rcases hb c e with x|x
  ·exact hn x
  ·omega)).trans (h.block c hc hn)⟩
def vF (m:Nat):Array Value:=#[.int .i64 0,.int .i64 0,.int .i64 0,.int .i64 0,.bool false,.int .i64 (m:Int),.pointer none,.slice none 0 0,.map none,.int .i64 0,.int .i64 0,.int .i64 0,.int .i64 0]
theorem zo (p:PS base S h L w) (g:Gd h) (b:MG h) (m:Nat):
 Calls Tryz.prog 68 #[.pointer (some ⟨L.H,0,none⟩),.int .i64 (m:Int)] w fun e w'=>∃ L',e=.returned (.pointer (some ⟨L'.tb h.objs.length,0,none⟩))/\L'.H=L.H/\PS base S (h.make m) L' w'/\Keeps w w' S:=by
 obtain ⟨x,y,G,a,r⟩:=p;have l:=aU w (.cells (vF m) 136);have J:=ah (show aD (w.alloc (.cells (vF m) 136)) 136 w.heap.size 13 (fun j=>(vF m).getD j (.bool false)) from aD.mk' w 136 (vF m));have U:=a.low l;have E:=U.li 7 (by simp [eF]);have k:(w.alloc (.cells (vF m) 136)).ownsRow base 67 1 (L.li 7) (G.Nl.map (eP L.tb 7)).length (G.Nl.map (eP L.tb 7)):=by rw [bI];exact E
 have C:G.Nl.length<=1000000:=by have:=r.ol;have:=g.s.len;omega
 have Y:=g.i.ps;have t:=vD (X:=w.heap.size) U.hp rfl rfl rfl rfl rfl rfl J.o rfl k U.bs (by rw [bI];exact C) (by have:=g.s.len;show 0<=(h.objs.length:Int)-1/\(h.objs.length:Int)-1<=1000000;omega) (by have:=g.s.fr;show 0<=(h.live:Int)/\(h.live:Int)<=1000000;omega) (by have:=g.s.Nh;show 0<=(h.bytes:Int)/\(h.bytes:Int)<=1000000;omega) (by have:=g.s.cr;show 0<=(h.GY:Int)/\(h.GY:Int)<=1000000;omega);rw [bI] at t;have a4:=ah t;have K:=ah l;have HA:=ah a;have HR:=ah r;have HG:=ah g;have a5:=ah b;clear t l a U r g b E k J C Y;go_enter Tryz.func68,Tryz.ntmps68;go_wp2_with fail;refine a4.o.mono ?_;rintro e2 w2 ⟨rfl,v',R,Q,P,N,M⟩;have H2:=ah (u.intro R (u.intro Q (u.intro P (u.intro N M))));clear R Q P N M;go_wp2;go_ret;obtain ⟨R,Q,P,N,M⟩:=H2.o;obtain ⟨B,a3⟩:=jT x;obtain ⟨A,a2⟩:=jT y;obtain ⟨z,a0⟩:=jT G.ag;obtain ⟨B4,Z⟩:=jT G.Nl;have T:=HG.o.i;have f:∀ n,h.Lv n->n<h.objs.length:=fun n d=>by obtain ⟨o,ho⟩:=d;exact Hp.Hy ho
 have D:∀ n,n∈h.roots∨n∈h.grey∨n∈h.finals∨n∈h.pending->n<h.objs.length:=by
  V n d
  rcases d with d|d|d|d
  ·exact f n (Hp.IB (T.ls n (.inl d)))
  ·by_cases hs:h.state=1
   ·exact f n ((T.s1 hs).ll n (.inl d))
   ·rw [(HG.o.e hs).1] at d;simp at d
  ·exact f n (Hp.IB (T.ls n (.inr (.inr d))))
  ·exact f n (Hp.IB (T.ls n (.inr (.inl d))))
 have kk:Keeps w w2 (fun c=>c=L.H∨(L.li 7).ownBlock=some c):=Keeps.into (Keeps.of K.o (au _) _) N (fun c e=>by
  rcases e with e|e|e
  ·exact .inl (.inl e)
  ·exact .inr (by omega)
  ·exact .inl (.inr e))
 have W:w.heap.size<=(w.alloc (.cells (vF m) 136)).heap.size:=K.o.size;have key:=HA.o.made (m:=m) (X:=w.heap.size) (N0:=h.objs.length+1+B+A+z+B4) (v:=v') a5.o D (by omega) (fun n d=>by
  rcases d with d|d|d|d
  ·have:=a3 n d;omega
  ·have:=a2 n d;omega
  ·have:=a0 n d;omega
  ·have:=Z n d;omega) kk (au _) (R.congr (fun j hj=>?_)) (Q.congr (fun j hj=>?_)) P (fun q hq=>(M q hq).imp id (aI W))
 ·refine ⟨L.mk1 h.objs.length (h.objs.length+1+B+A+z+B4) w.heap.size v',?_,rfl,⟨_,_,_,key.1,HR.o.made HG.o m _⟩,key.2⟩
  show _=Ending.returned (.pointer (some ⟨CJ L.tb h.objs.length _ w.heap.size h.objs.length,0,none⟩));unfold CJ;rw [if_pos rfl];rfl
 ·have F:(h.objs++[some (⟨h.white,m,[],false⟩:Ob)]).length=h.objs.length+1:=by simp
  refine bJ (fun j=>(if j=5 then (.int .i64 ((h.GY:Int)+40):Value) else if j=4 then .int .i64 ((h.bytes:Int)+40) else if j=7 then v' else if j=3 then .int .i64 ((h.live:Int)+1) else if j=2 then .int .i64 ((h.objs.length:Int)-1+1) else kI (h.wk x y) G L j)=kI ((h.make m).wk (x.map (mD h.objs.length (h.objs.length+1+B+A+z+B4))) (y.map (mD h.objs.length (h.objs.length+1+B+A+z+B4)))) (G.mk1 h.objs.length (h.objs.length+1+B+A+z+B4)) (L.mk1 h.objs.length (h.objs.length+1+B+A+z+B4) w.heap.size v') j) rfl rfl ?_ rfl rfl rfl rfl rfl rfl rfl rfl rfl rfl rfl rfl rfl rfl rfl rfl j hj;show Value.int .i64 ((h.objs.length:Int)-1+1)=Value.int .i64 (((h.objs++[some (⟨h.white,m,[],false⟩:Ob)]).length:Int)-1);rw [F];congr 1;omega
 ·refine dx (fun j=>(if j=2 then (.int .i64 (0+40):Value) else if j=0 then .int .i64 (h.white:Int) else if j=1 then .int .i64 ((h.objs.length:Int)-1+1) else (vF m).getD j (.bool false))=nM ⟨h.white,m,[],false⟩ h.objs.length (.slice none 0 0) (.map none) j) rfl ?_ rfl rfl rfl rfl rfl rfl rfl rfl rfl rfl rfl j hj
  show Value.int .i64 ((h.objs.length:Int)-1+1)=Value.int .i64 (h.objs.length:Int);congr 1;omega
theorem vB (p:PS base S h L w) (ho:h.ob n=some o) (D:h.finals.length<=20000):
 Calls Tryz.prog 80 #[.pointer (some ⟨L.H,0,none⟩),.iface 127 (.pointer (some ⟨L.tb n,0,none⟩))] w fun e w'=>e=.returned (.tuple #[])/\∃ L',MS L L'/\PS base S (h.Iu n) L' w'/\Keeps w w' S:=by
 obtain ⟨x,y,G,a,r⟩:=p;have C:w.cell? ⟨L.tb n,4,none⟩=some (.bool o.fin):=(a.ob n o ho).c 4;have B:=(a.ob n o ho).Nq 4;have b:=ah (a.M0 n 4 (.bool true) (fun o=>{ o with fin:=true }) (by decide) ho ⟨rfl,rfl⟩ (dx _ rfl rfl rfl rfl rfl rfl rfl rfl rfl rfl rfl rfl rfl));have t:=iO (L.tb n);have u:=ah (gQ w (L.tb n));have F:=ah r;clear a r ho;go_enter Tryz.func80,Tryz.ntmps80;go_wp2_with fail;refine u.o.mono ?_;rintro K w2 ⟨rfl,rfl⟩;go_upto_region 1 with (fail)
 generalize w2.setCell ⟨L.tb n,4,none⟩ (.bool true)=w3 at *;have q:w3.cell? ⟨L.H,15,none⟩=some (L.li 15):=b.o.1.hp.c 15;have g:=b.o.1.hp.Nq 15;have f:=b.o.1.li 15 (by simp [eF]);have d:((eU ((h.wk x y).upd n fun o=>{ o with fin:=true }) G 15).map (eP L.tb 15)).length=(eU ((h.wk x y).upd n fun o=>{ o with fin:=true }) G 15).length:=by simp
 rw [<-d] at f;have v:=ah (iy w3 base L.H 15 (L.li 15) ((eU ((h.wk x y).upd n fun o=>{ o with fin:=true }) G 15).map (eP L.tb 15)) (L.tb n) q g f (fun e=>ak f b.o.1.hp (by decide) e) (by rw [d];show h.finals.length<=1000000;omega) b.o.1.bs);clear f d q g C B t;go_wp2_with fail;refine v.o.mono ?_
 s J w4 i
 obtain ⟨rfl,E,j,m,l⟩:=b.o.1.add (k:=15) (by simp [kG]) i;have z:=ah (A.intro j (A.intro m l));clear i j m l;go_wp2;go_end0;exact ⟨rfl,E,z.o.1.x,⟨x,y,G,z.o.2.1,F.o.same rfl rfl rfl rfl rfl (h.Hu n _) (AZ h n _)⟩,b.o.2.trans z.o.2.2⟩
theorem MV.less (a:MV base S h G L w) (v:Value) (d:∀ g,v.ownBlock=some g->g<w.heap.size/\g≠L.H/\(∀ n o,h.ob n=some o->g≠L.tb n/\(L.es n).ownBlock≠some g/\dz (L.mp n)≠some g)/\∀ k,eF k->(L.li k).ownBlock≠some g):MV base (fun b=>S b/\v.ownBlock≠some b) h G L w:=
 ⟨a.hp,a.ob,a.en,a.mp,a.li,a.ij,a.ei,a.mi,a.lj,a.bH,a.bt,a.bm,a.bs,⟨a.sH,fun e=>(d _ e).2.1 rfl⟩,fun n o e=>⟨a.st n o e,fun c=>((d _ c).2.2.1 n o e).1 rfl⟩,fun n o g e hg=>⟨a.se n o g e hg,fun c=>((d _ c).2.2.1 n o e).2.1 hg⟩,fun n o g e hg=>⟨a.sm n o g e hg,fun c=>((d _ c).2.2.1 n o e).2.2 hg⟩,fun k g hk hg=>⟨a.sl k g hk hg,fun c=>(d _ c).2.2.2 k hk hg⟩,fun b hb=>⟨a.up b hb,fun c=>by have:=(d _ c).1;omega⟩⟩
end
section
variable {P base n:Nat} {Q:Exit->Act->World->Prop} {a:Act} {av v:Value} {ops:Array Oper} {rest:List Oper} {tb:Nat->Nat} {td:List Nat} {w w':World}
attribute [local go_sem] bW
theorem DR (w:World):(eqGuard .eql 70 (.tmp 3) (.const (.slice none 0 0)) (.slice none 0 0) (.slice none 0 0)).run Tryz.prog w=.ok () w:=by kernel_rfl
theorem EF (a:Addr) (n c:Nat) (w:World):(eqGuard .eql 70 (.tmp 3) (.const (.slice none 0 0)) (.slice (some a) n c) (.slice none 0 0)).run Tryz.prog w=.ok () w:=by kernel_rfl
theorem FP (w:World):(binOp .eql 70 (.slice none 0 0) (.slice none 0 0)).run Tryz.prog w=.ok (.bool true) w:=by kernel_rfl
theorem Fw (a:Addr) (n c:Nat) (w:World):(binOp .eql 70 (.slice (some a) n c) (.slice none 0 0)).run Tryz.prog w=.ok (.bool false) w:=by kernel_rfl
theorem vL {o:Oper} (b:o.guard=none) (s x:Operand) (t:TypeId)
 (ho:o.op=.call { callee:=.builtin .append,args:=#[s,x],argTypes:=#[t,t] }) (d c v':Value) (e:a.eval s=d) (hx:a.eval x=c) (hr:(Builtin.append_ #[t,t] o.type #[d,c]).run Tryz.prog w=.ok v' w')
 (h:wpList Tryz.prog ops Q rest (a.put o.dst v') w'):wpList Tryz.prog ops Q (o::rest) a w:=
 wpList_plain b fun _ hK=>by
  unfold Oper.wp execOp;simp only [ho,resolve,invoke,builtin,Sem.run_bind,Sem.run_pure,Result.andThen_ok,List.map_toArray,List.map_cons,List.map_nil,e,hx,hr];exact hK _ _ h
theorem vg {l:List Value} (hown:w.ownsRow base 67 1 v l.length l) (s:∀ u∈l,u.oneCell'=true) (D:l.length<=1000000):
 Calls Tryz.prog 101 #[v] w fun e w'=>∃ v',e=.returned v'/\w'.ownsRow w.heap.size 67 1 v' l.length l/\Below w.heap.size w w':=by
 have d:=hown;rcases hown.2 with ⟨rfl,z⟩|⟨g,h,K,rfl,S,J,R,N,M,H⟩
 ·have L:=ah z
  have G:=DR w;have F:=FP w;clear hown d z D s;go_enter Tryz.func101,Tryz.ntmps101;go_wp2;go_ret;refine ⟨_,rfl,?_,aG _ _⟩;have:l=[]:=List.length_eq_zero_iff.1 L.o;subst this;exact ⟨rfl,.inl ⟨rfl,rfl⟩⟩
 ·have G:=EF ⟨g,0,none⟩ l.length h w
  have F:=Fw ⟨g,0,none⟩ l.length h w;have hb:=aU w (.cells #[] 67);have f:=ay hown (g:=g) (by simp [Value.ownBlock]);obtain ⟨C,hi,q,m,k⟩:=info_parts gY;obtain ⟨v',w',hr,ho,y,-,r⟩:=run_append_own_at (P:=Tryz.prog) (w.alloc (.cells #[] 67)) w.heap.size 70 70 67 C .nilIface 1 16 Tryz.underlying70 hi q m k rfl (by decide) (.slice (some ⟨w.heap.size,0,none⟩) 0 0) 0 [] ⟨rfl,.inr ⟨w.heap.size,0,#[],rfl,au _,Array.getElem?_push_size ..,au _,Nat.zero_le _,rfl,rfl⟩⟩ ⟨g,0,none⟩ l.length h l (by simp) (fun j u hj=>by
   have E:=(aJ.1 hj).1;rw [bL,Nat.zero_add];rw [(hb.cell (p:=⟨g,j,none⟩) f.lt),f.c j,bq,hj];rfl) s (by unfold maxLen;omega) (by omega) hb.size
  have i:=ah (x.intro ho (x.intro y r));have A:=ah hb;have t:=ah hr;clear hr;clear ho y r hb f hown d J H hi q m k s;go_enter Tryz.func101,Tryz.ntmps101;go_wp2_with (first
   |(at_builtin
     refine vL rfl (.tmp 5) (.tmp 6) 70 rfl _ _ v' rfl rfl t.o ?_)
   |fail)
  go_ret;have ho:w'.ownsRow w.heap.size 67 1 v' l.length l:=by simpa using i.o.1
  have kk:Keeps (w.alloc (.cells #[] 67)) w' (fun b=>b=w.heap.size):=⟨i.o.2.1.os,i.o.2.1.tape,i.o.2.1.output,i.o.2.1.size,fun b hb hn=>i.o.2.1.block b hb (fun e=>hn (by simpa [Value.ownBlock] using e))⟩
  exact ⟨_,rfl,ho,A.o.trans (kk.below (B:=w.heap.size) A.o.size (fun b e=>aO e.symm))⟩
structure Md (base:Nat) (tb:Nat->Nat) (P:Nat) (av:Value) (td:List Nat) (w:World):Prop where
 r:aD w 72 P 1 (fun _=>av)
 o:w.ownsRow base 67 1 av td.length (td.map (jL tb))
 b:base<=w.heap.size
theorem Md.low (x:Md base tb P av td w) (hb:Below w.heap.size w w'):Md base tb P av td w':=
 have k:=Keeps.of hb (au _) (fun _=>False)
 ⟨x.r.keep k id,aj x.o k (fun _ _ e=>e),aI x.b hb.size⟩
theorem Md.keep {base:Nat} {tb:Nat->Nat} {P:Nat} {av:Value} {td:List Nat} {w w':World} {S:Nat->Prop} (x:Md base tb P av td w) (k:Keeps w w' S) (d:¬ S P) (c:∀ g,av.ownBlock=some g->¬ S g):Md base tb P av td w':=
 ⟨x.r.keep k d,aj x.o k c,aI x.b k.size⟩
def Gs (base:Nat) (tb:Nat->Nat) (P:Nat) (av:Value) (td:List Nat) (w:World) (e:Ending) (w':World):Prop:=
 e=.returned (.tuple #[])/\∃ av',Md base tb P av' td w'/\Keeps w w' (fun c=>c=P∨av.ownBlock=some c)/\∀ g,av'.ownBlock=some g->av.ownBlock=some g∨w.heap.size<=g
theorem Md.put (x:Md base tb P av td w) {e:Ending} (r:xX 67 base P 0 av (td.map (jL tb)) (jL tb n) w e w'):Gs base tb P av (td++[n]) w e w':=by
 obtain ⟨rfl,m,k,w1,rfl,i,h,l⟩:=r;rw [bI] at i l ⊢;have d:=x.r.keep h (fun c=>ak x.o x.r (by decide) c);have f:Keeps w1 (w1.setCell ⟨P,0,none⟩ (.slice m (td.length+1) k)) (fun c=>c=P):=Keeps.setCell (S:=fun c=>c=P) (Keeps.refl w1 _) rfl _;refine ⟨rfl,.slice m (td.length+1) k,⟨(d.set (j:=0) (by omega) _).congr (fun j hj=>by rw [if_pos (by omega)]),?_,aI x.b (aI h.size f.size)⟩,(h.mono (fun c e=>Or.inr e)).trans (f.mono (fun c e=>Or.inl e)),l⟩;have:=aj i f (fun g hg c=>ak i d (by decide) (c ▸ hg));rw [aT,List.map_append];exact this
theorem nL (x:Md base tb P av td w) (v:HV) (D:td.length<=999999):
 Calls Tryz.prog 103 #[.pointer (some ⟨P,0,none⟩),.agg #[.int .i64 (vk v),.int .i64 (vi v),.int .u64 0,.string ByteArray.empty,aK tb v]] w (Gs base tb P av (td++bQ v) w):=by
 have l:=ah (eu w tb v);have p:=ah (aU w (.cells #[.int .i64 (vk v),.int .i64 (vi v),.int .u64 0,.string ByteArray.empty,aK tb v] 143));have h:=ah (x.low (aU w (.cells #[.int .i64 (vk v),.int .i64 (vi v),.int .u64 0,.string ByteArray.empty,aK tb v] 143)));cases h5:(vk v==5) with
 |false=>
  have m:Hq (bQ v=[]):=ah (by
   cases v with
   |none=>rfl
   |some z=>cases z with
    |inl z=>rfl
    |inr n=>simp [vk] at h5)
  clear x;go_enter Tryz.func103,Tryz.ntmps103;go_upto_region 1 with (fail)
  generalize w.alloc (.cells #[.int .i64 (vk v),.int .i64 (vi v),.int .u64 0,.string ByteArray.empty,aK tb v] 143)=w1 at *;generalize j:w.heap.size=X at *;have x0:w1.cell? ⟨X,0,none⟩=some (.int .i64 (vk v)):=l.o.c 0;go_wp2;go_end0;refine ⟨rfl,av,by rw [m.o,List.append_nil];exact h.o,Keeps.of p.o (aO j) _,fun g hg=>.inl hg⟩
 |true=>
  obtain ⟨n,rfl⟩:=FW h5;have d:=h.o.o;obtain ⟨G,F,C⟩:=aF d;have f:(w.alloc (.cells #[.int .i64 (vk (some (.inr n):HV)),.int .i64 (vi (some (.inr n):HV)),.int .u64 0,.string ByteArray.empty,aK tb (some (.inr n):HV)] 143)).ownsRow base 67 1 av (td.map (jL tb)).length (td.map (jL tb)):=by rw [bI];exact d
  have q:=ah (iy (w.alloc (.cells #[.int .i64 (vk (some (.inr n):HV)),.int .i64 (vi (some (.inr n):HV)),.int .u64 0,.string ByteArray.empty,aK tb (some (.inr n):HV)] 143)) base P 0 av (td.map (jL tb)) (tb n) (h.o.r.c 0) (h.o.r.Nq 0) f (fun e=>ak d h.o.r (by decide) e) (by rw [bI];omega) h.o.b);clear x h5 d f;go_enter Tryz.func103,Tryz.ntmps103;go_upto_region 1 with (fail)
  generalize w.alloc (.cells #[.int .i64 (vk (some (.inr n):HV)),.int .i64 (vi (some (.inr n):HV)),.int .u64 0,.string ByteArray.empty,aK tb (some (.inr n):HV)] 143)=w1 at *;generalize j:w.heap.size=X at *;have x0:w1.cell? ⟨X,0,none⟩=some (.int .i64 5):=l.o.c 0;have A:w1.cell? ⟨X,4,none⟩=some (.iface 127 (.pointer (some ⟨tb n,0,none⟩))):=l.o.c 4;go_wp2_with fail;refine q.o.mono ?_;intro E B i;have s:=ah (h.o.put (n:=n) i);obtain ⟨rfl,-⟩:=s.o;clear i;go_wp2;go_end0;obtain ⟨-,k,y,u,t⟩:=s.o;refine ⟨rfl,k,y,(Keeps.of p.o (aO j) _).trans u,fun g hg=>(t g hg).imp id (fun z=>?_)⟩;have:=p.o.size;omega
end
section
variable {F n:Nat} {sn:List Bool} {tb:Nat->Nat} {w:World}
attribute [local go_sem] bW
def uE (tb:Nat->Nat) (sn:List Bool) (q:Nat):Value:=if sn.getD q false then oQ tb q else .pointer none
def iR (sn:List Bool) (z:Int):Bool:=decide (1<=z)&&decide (z<=(sn.length:Int)-1)&&sn.getD z.toNat false
theorem nE (h:sn[n]?=some true):uE tb sn n=.pointer (some ⟨tb n,0,none⟩):=by
 unfold uE oQ;rw [bq,h];rfl
theorem Dr (h:sn[n]?=some false):uE tb sn n=.pointer none:=by
 unfold uE;rw [bq,h];rfl
theorem jN {z:Int} (h:iR sn z=true):∃ n:Nat,z=(n:Int)/\1<=n/\n<sn.length/\sn[n]?=some true:=by
 unfold iR at h;simp only [Bool.and_eq_true,decide_eq_true_eq] at h;obtain ⟨⟨d,c⟩,a⟩:=h;refine ⟨z.toNat,by omega,by omega,by omega,?_⟩;rw [bq] at a;cases h4:sn[z.toNat]? with
 |none=>rw [h4] at a;simp at a
 |some b=>rw [h4] at a;simp at a;rw [a]
theorem Ag (c:1<=n) (a:sn[n]?=some true):iR sn (n:Int)=true:=by
 have b:=(aJ.1 a).1;unfold iR;simp only [Bool.and_eq_true,decide_eq_true_eq,Int.toNat_natCast,bq,a];exact ⟨⟨by omega,by omega⟩,rfl⟩
theorem iU (hr:aD w 127 F sn.length (uE tb sn)) (p:1<=sn.length) (m:sn.length<=1000000) (z:Int):
 Calls Tryz.prog 71 #[.slice (some ⟨F,0,none⟩) sn.length sn.length,.int .i64 z] w fun e w'=>e=.returned (.bool (iR sn z))/\w'=w:=by
 have c:=ah (gI w z 1 ((sn.length:Int)-1));by_cases d:1<=z/\z<=(sn.length:Int)-1
 ·rw [show (decide ((1:Int)<=z)&&decide (z<=(sn.length:Int)-1))=true by simp;omega] at c
  obtain ⟨n,rfl⟩:∃ n:l,z=(n:Int):=⟨z.toNat,by omega⟩
  have g:n<sn.length:=by omega
  have k:(n:Int)<(sn.length:Int):=by omega
  have h:=hr.cell (j:=n) g;have a:sn[n]?=some sn[n]:=aN g;cases hb:sn[n] with
  |true=>
   rw [hb] at a;rw [nE a] at h;rw [show iR sn (n:Int)=true from Ag (by omega) a];clear hr a hb d;go_enter Tryz.func71,Tryz.ntmps71;go_wp2_with fail;refine c.o.mono ?_;rintro i f ⟨rfl,rfl⟩;go_wp2;go_ret;exact ⟨rfl,rfl⟩
  |false=>
   rw [hb] at a;rw [Dr a] at h;rw [show iR sn (n:Int)=false by unfold iR;simp [bq,a]];clear hr a hb d;go_enter Tryz.func71,Tryz.ntmps71;go_wp2_with fail;refine c.o.mono ?_;rintro i f ⟨rfl,rfl⟩;go_wp2;go_ret;exact ⟨rfl,rfl⟩
 ·have b:(decide ((1:Int)<=z)&&decide (z<=(sn.length:Int)-1))=false:=by simp;omega
  rw [b] at c;rw [show iR sn z=false by unfold iR;rw [b];rfl];clear hr b d;go_enter Tryz.func71,Tryz.ntmps71;go_wp2_with fail;refine c.o.mono ?_;rintro i f ⟨rfl,rfl⟩;go_wp2;go_ret;exact ⟨rfl,rfl⟩
theorem pI (hr:aD w 127 F sn.length (uE tb sn)) (c:1<=sn.length) (a:sn.length<=1000000) (z:Int):
 Calls Tryz.prog 72 #[.slice (some ⟨F,0,none⟩) sn.length sn.length,.int .i64 z] w fun e w'=>e=.returned (.bool (z==0||iR sn z))/\w'=w:=by
 have d:=ah (iU hr c a z);clear hr c a;cases hz:(z==0) with
 |true=>
  rw [Bool.true_or];go_enter Tryz.func72,Tryz.ntmps72;go_wp2;go_ret;exact ⟨rfl,rfl⟩
 |false=>
  rw [Bool.false_or];obtain ⟨B,b⟩:∃ B,iR sn z=B:=⟨_,rfl⟩
  rw [b] at d ⊢;clear b;go_enter Tryz.func72,Tryz.ntmps72;go_wp2_with fail;refine d.o.mono ?_;rintro g f ⟨rfl,rfl⟩;go_wp2;go_ret;exact ⟨rfl,rfl⟩
theorem Av (w:World) (tb:Nat->Nat) (n:Nat):Calls Tryz.prog 107 #[.iface 127 (.pointer (some ⟨tb n,0,none⟩))] w fun e w'=>e=.returned (.agg #[.int .i64 (vk (some (.inr n):HV)),.int .i64 (vi (some (.inr n):HV)),.int .u64 0,.string ByteArray.empty,aK tb (some (.inr n):HV)])/\Below w.heap.size w w':=by
 have a:=ah (sV w);have m:=ah (aU w (.cells #[.int .i64 0,.int .i64 0,.int .u64 0,.string ByteArray.empty,.nilIface] 143));go_enter Tryz.func107,Tryz.ntmps107;go_upto_region 1 with (fail)
 change Code.wp _ _ _ _ (w.alloc (.cells #[.int .i64 0,.int .i64 0,.int .u64 0,.string ByteArray.empty,.nilIface] 143));generalize w.alloc (.cells #[.int .i64 0,.int .i64 0,.int .u64 0,.string ByteArray.empty,.nilIface] 143)=w3 at *;generalize l:w.heap.size=X at *;have A:=a.o.c 0;have t:=a.o.Nq 0;have z:=a.o.c 1;have s:=a.o.Nq 1;have y:=a.o.c 2;have r:=a.o.Nq 2;have x:=a.o.c 3;have q:=a.o.Nq 3;have u:=a.o.c 4;have p:=a.o.Nq 4;go_wp2;have d:=ah (show aD (((((w3.setCell ⟨X,0,none⟩ (.int .i64 5)).setCell ⟨X,1,none⟩ (.int .i64 0)).setCell ⟨X,2,none⟩ (.int .u64 0)).setCell ⟨X,3,none⟩ (.string { data:=#[] })).setCell ⟨X,4,none⟩ (.iface 127 (.pointer (some ⟨tb n,0,none⟩)))) 143 X 5 (fun j=>(kF tb (some (.inr n))).getD j (.bool false))/\Keeps w3 (((((w3.setCell ⟨X,0,none⟩ (.int .i64 5)).setCell ⟨X,1,none⟩ (.int .i64 0)).setCell ⟨X,2,none⟩ (.int .u64 0)).setCell ⟨X,3,none⟩ (.string { data:=#[] })).setCell ⟨X,4,none⟩ (.iface 127 (.pointer (some ⟨tb n,0,none⟩)))) (fun b=>b=X) from ug a.o tb (some (.inr n)));generalize (((((w3.setCell ⟨X,0,none⟩ (.int .i64 5)).setCell ⟨X,1,none⟩ (.int .i64 0)).setCell ⟨X,2,none⟩ (.int .u64 0)).setCell ⟨X,3,none⟩ (.string { data:=#[] })).setCell ⟨X,4,none⟩ (.iface 127 (.pointer (some ⟨tb n,0,none⟩))))=w7 at *;have k:w7.cell? ⟨X,0,none⟩=some (.int .i64 5):=d.o.1.c 0;have q1:w7.cell? ⟨X,1,none⟩=some (.int .i64 0):=d.o.1.c 1;have i:w7.cell? ⟨X,2,none⟩=some (.int .u64 0):=d.o.1.c 2;have h:w7.cell? ⟨X,3,none⟩=some (.string { data:=#[] }):=d.o.1.c 3;have g:w7.cell? ⟨X,4,none⟩=some (.iface 127 (.pointer (some ⟨tb n,0,none⟩))):=d.o.1.c 4;have f:=a.o.lt;refine bodyPost_ret (v:=.agg #[.int .i64 5,.int .i64 0,.int .u64 0,.string { data:=#[] },.iface 127 (.pointer (some ⟨tb n,0,none⟩))]) ?_ rfl ⟨rfl,by rw [l];exact m.o.trans (d.o.2.below (B:=X) (dh f) (fun b e=>aO e.symm))⟩;simp [results,Tryz.results107,go_sem,k,q1,i,h,g]
theorem uZ (w:World) (tb:Nat->Nat) (z:Int):Calls Tryz.prog 74 #[.int .i64 z] w fun e w'=>e=.returned (.agg #[.int .i64 (vk (some (.inl z):HV)),.int .i64 (vi (some (.inl z):HV)),.int .u64 0,.string ByteArray.empty,aK tb (some (.inl z):HV)])/\Below w.heap.size w w':=by
 have a:=ah (sV w);have m:=ah (aU w (.cells #[.int .i64 0,.int .i64 0,.int .u64 0,.string ByteArray.empty,.nilIface] 143));go_enter Tryz.func74,Tryz.ntmps74;go_upto_region 1 with (fail)
 change Code.wp _ _ _ _ (w.alloc (.cells #[.int .i64 0,.int .i64 0,.int .u64 0,.string ByteArray.empty,.nilIface] 143));generalize w.alloc (.cells #[.int .i64 0,.int .i64 0,.int .u64 0,.string ByteArray.empty,.nilIface] 143)=w3 at *;generalize l:w.heap.size=X at *;have C:=a.o.c 0;have t:=a.o.Nq 0;have A:=a.o.c 1;have s:=a.o.Nq 1;have y:=a.o.c 2;have r:=a.o.Nq 2;have x:=a.o.c 3;have q:=a.o.Nq 3;have u:=a.o.c 4;have p:=a.o.Nq 4;go_wp2;have d:=ah (show aD (((((w3.setCell ⟨X,0,none⟩ (.int .i64 2)).setCell ⟨X,1,none⟩ (.int .i64 z)).setCell ⟨X,2,none⟩ (.int .u64 0)).setCell ⟨X,3,none⟩ (.string { data:=#[] })).setCell ⟨X,4,none⟩ (.nilIface)) 143 X 5 (fun j=>(kF tb (some (.inl z))).getD j (.bool false))/\Keeps w3 (((((w3.setCell ⟨X,0,none⟩ (.int .i64 2)).setCell ⟨X,1,none⟩ (.int .i64 z)).setCell ⟨X,2,none⟩ (.int .u64 0)).setCell ⟨X,3,none⟩ (.string { data:=#[] })).setCell ⟨X,4,none⟩ (.nilIface)) (fun b=>b=X) from ug a.o tb (some (.inl z)));generalize (((((w3.setCell ⟨X,0,none⟩ (.int .i64 2)).setCell ⟨X,1,none⟩ (.int .i64 z)).setCell ⟨X,2,none⟩ (.int .u64 0)).setCell ⟨X,3,none⟩ (.string { data:=#[] })).setCell ⟨X,4,none⟩ (.nilIface))=w7 at *;have k:w7.cell? ⟨X,0,none⟩=some (.int .i64 2):=d.o.1.c 0;have q1:w7.cell? ⟨X,1,none⟩=some (.int .i64 z):=d.o.1.c 1;have i:w7.cell? ⟨X,2,none⟩=some (.int .u64 0):=d.o.1.c 2;have h:w7.cell? ⟨X,3,none⟩=some (.string { data:=#[] }):=d.o.1.c 3;have g:w7.cell? ⟨X,4,none⟩=some (.nilIface):=d.o.1.c 4;have f:=a.o.lt;refine bodyPost_ret (v:=.agg #[.int .i64 2,.int .i64 z,.int .u64 0,.string { data:=#[] },.nilIface]) ?_ rfl ⟨rfl,by rw [l];exact m.o.trans (d.o.2.below (B:=X) (dh f) (fun b e=>aO e.symm))⟩;simp [results,Tryz.results74,go_sem,k,q1,i,h,g]
theorem mK (hr:aD w 127 F sn.length (uE tb sn)) (n:Nat) (K:n=0∨sn[n]?=some true) (U:sn.length<=1000000):
 Calls Tryz.prog 75 #[.slice (some ⟨F,0,none⟩) sn.length sn.length,.int .i64 (n:Int)] w fun e w'=>e=.returned (.agg #[.int .i64 (vk (cO n)),.int .i64 (vi (cO n)),.int .u64 0,.string ByteArray.empty,aK tb (cO n)])/\Below w.heap.size w w':=by
 by_cases m:n=0
 ·subst m
  have k:cO 0=none:=rfl;rw [k];clear k hr K;have a:=ah (sV w);have l:=ah (aU w (.cells #[.int .i64 0,.int .i64 0,.int .u64 0,.string ByteArray.empty,.nilIface] 143));go_enter Tryz.func75,Tryz.ntmps75;go_upto_region 1 with (fail)
  change Code.wp _ _ _ _ (w.alloc (.cells #[.int .i64 0,.int .i64 0,.int .u64 0,.string ByteArray.empty,.nilIface] 143));generalize w.alloc (.cells #[.int .i64 0,.int .i64 0,.int .u64 0,.string ByteArray.empty,.nilIface] 143)=w3 at *;generalize N:w.heap.size=X at *;have C:=a.o.c 0;have u:=a.o.Nq 0;have A:=a.o.c 1;have t:=a.o.Nq 1;have z:=a.o.c 2;have s:=a.o.Nq 2;have y:=a.o.c 3;have r:=a.o.Nq 3;have x:=a.o.c 4;have q:=a.o.Nq 4;go_wp2;have f:=ah (show aD (((((w3.setCell ⟨X,0,none⟩ (.int .i64 0)).setCell ⟨X,1,none⟩ (.int .i64 0)).setCell ⟨X,2,none⟩ (.int .u64 0)).setCell ⟨X,3,none⟩ (.string { data:=#[] })).setCell ⟨X,4,none⟩ (.nilIface)) 143 X 5 (fun j=>(kF tb none).getD j (.bool false))/\Keeps w3 (((((w3.setCell ⟨X,0,none⟩ (.int .i64 0)).setCell ⟨X,1,none⟩ (.int .i64 0)).setCell ⟨X,2,none⟩ (.int .u64 0)).setCell ⟨X,3,none⟩ (.string { data:=#[] })).setCell ⟨X,4,none⟩ (.nilIface)) (fun b=>b=X) from ug a.o tb none);generalize (((((w3.setCell ⟨X,0,none⟩ (.int .i64 0)).setCell ⟨X,1,none⟩ (.int .i64 0)).setCell ⟨X,2,none⟩ (.int .u64 0)).setCell ⟨X,3,none⟩ (.string { data:=#[] })).setCell ⟨X,4,none⟩ (.nilIface))=w7 at *;have H:w7.cell? ⟨X,0,none⟩=some (.int .i64 0):=f.o.1.c 0;have q1:w7.cell? ⟨X,1,none⟩=some (.int .i64 0):=f.o.1.c 1;have G:w7.cell? ⟨X,2,none⟩=some (.int .u64 0):=f.o.1.c 2;have E:w7.cell? ⟨X,3,none⟩=some (.string { data:=#[] }):=f.o.1.c 3;have D:w7.cell? ⟨X,4,none⟩=some (.nilIface):=f.o.1.c 4;have i:=a.o.lt;refine bodyPost_ret (v:=.agg #[.int .i64 0,.int .i64 0,.int .u64 0,.string { data:=#[] },.nilIface]) ?_ rfl ⟨rfl,by rw [N];exact l.o.trans (f.o.2.below (B:=X) (dh i) (fun b e=>aO e.symm))⟩;simp [results,Tryz.results75,go_sem,H,q1,G,E,D]
 ·have g:=K.resolve_left m
  have J:=(aJ.1 g).1;have Q:(n:Int)<(sn.length:Int):=by omega
  have R:((n:Int)==0)=false:=by simp;omega
  rw [gM m];have M:=hr.cell (j:=n) J;rw [nE g] at M;have S:=hr.lt;clear m K hr g;have a:=ah (sV w);have l:=ah (aU w (.cells #[.int .i64 0,.int .i64 0,.int .u64 0,.string ByteArray.empty,.nilIface] 143));go_enter Tryz.func75,Tryz.ntmps75;go_upto_region 1 with (fail)
  change Code.wp _ _ _ _ (w.alloc (.cells #[.int .i64 0,.int .i64 0,.int .u64 0,.string ByteArray.empty,.nilIface] 143));generalize w.alloc (.cells #[.int .i64 0,.int .i64 0,.int .u64 0,.string ByteArray.empty,.nilIface] 143)=w3 at *;generalize N:w.heap.size=X at *;have C:=a.o.c 0;have u:=a.o.Nq 0;have A:=a.o.c 1;have t:=a.o.Nq 1;have z:=a.o.c 2;have s:=a.o.Nq 2;have y:=a.o.c 3;have r:=a.o.Nq 3;have x:=a.o.c 4;have q:=a.o.Nq 4;have L:w3.cell? ⟨F,n,none⟩=some (.pointer (some ⟨tb n,0,none⟩)):=(l.o.cell (p:=⟨F,n,none⟩) (by omega)).trans M;have T:=ah (Av w3 tb n);clear M;go_wp2_with fail;refine T.o.mono ?_;rintro V w4 ⟨rfl,h⟩;have d:=ah (a.o.keep (Keeps.of h (au _) (fun _=>False)) id);have P:=ah (l.o.trans (h.mono (dh a.o.lt)));clear h L C A z y x u t s r q a l;have C:=d.o.c 0;have u:=d.o.Nq 0;have A:=d.o.c 1;have t:=d.o.Nq 1;have z:=d.o.c 2;have s:=d.o.Nq 2;have y:=d.o.c 3;have r:=d.o.Nq 3;have x:=d.o.c 4;have q:=d.o.Nq 4;go_wp2;have f:=ah (ug d.o tb (some (.inr n):HV));generalize (((((w4.setCell ⟨X,0,none⟩ (.int .i64 (vk (some (.inr n):HV)))).setCell ⟨X,1,none⟩ (.int .i64 (vi (some (.inr n):HV)))).setCell ⟨X,2,none⟩ (.int .u64 0)).setCell ⟨X,3,none⟩ (.string ByteArray.empty)).setCell ⟨X,4,none⟩ (aK tb (some (.inr n):HV)))=w7 at *;have H:w7.cell? ⟨X,0,none⟩=some (.int .i64 (vk (some (.inr n):HV))):=f.o.1.c 0;have q1:w7.cell? ⟨X,1,none⟩=some (.int .i64 (vi (some (.inr n):HV))):=f.o.1.c 1;have G:w7.cell? ⟨X,2,none⟩=some (.int .u64 0):=f.o.1.c 2;have E:w7.cell? ⟨X,3,none⟩=some (.string ByteArray.empty):=f.o.1.c 3;have D:w7.cell? ⟨X,4,none⟩=some (aK tb (some (.inr n):HV)):=f.o.1.c 4;have i:=d.o.lt;refine bodyPost_ret (v:=.agg #[.int .i64 (vk (some (.inr n):HV)),.int .i64 (vi (some (.inr n):HV)),.int .u64 0,.string ByteArray.empty,aK tb (some (.inr n):HV)]) ?_ rfl ⟨rfl,by rw [N];exact P.o.trans (f.o.2.below (B:=X) (dh i) (fun b e=>aO e.symm))⟩;simp [results,Tryz.results75,go_sem,H,q1,G,E,D]
end
section
variable {P base k n:Nat} {av:Value} {dn:List En} {e:En} {h:Hp} {o:Ob} {sn:List Bool} {tb:Nat->Nat} {td:List Nat} {w:World}
structure Df (h:Hp) (sn:List Bool) (td:List Nat) (k:Nat) (dn:List En):Prop where
 len:sn.length=h.objs.length
 tr:∀ n∈td,h.Reach n
 re:∀ n:Nat,sn[n]?=some true->h.Reach n
 ro:∀ r∈h.roots,sn[r]?=some true∨r∈td
 ex:∀ (m:Nat) o,sn[m]?=some true->h.ob m=some o->m≠k->∀ e∈o.es,e.2.isSome=true->∀ r∈dw e,sn[r]?=some true∨r∈td
 kk:∀ e∈dn,e.2.isSome=true->∀ r∈dw e,sn[r]?=some true∨r∈td
theorem Df.start (h:Hp):Df h (List.replicate h.objs.length false) h.roots 0 []:=by
 have a:∀ n:Nat,(List.replicate h.objs.length false)[n]?≠some true:=by
  intro n c;rw [List.getElem?_replicate] at c;split at c<;>simp at c
 exact ⟨List.length_replicate ..,fun n hn=>Hp.Jz hn,fun n hn=>absurd hn (a n),fun r hr=>.inr hr,fun m o hm=>absurd hm (a m),fun e he=>by simp at he⟩
theorem Df.skip (d:Df h sn (td++[n]) 0 []) (a:sn[n]?=some true):Df h sn td 0 []:=by
 have hx:∀ r,sn[r]?=some true∨r∈td++[n]->sn[r]?=some true∨r∈td:=by
  intro r hr;rcases hr with c|c
  ·exact .inl c
  ·rcases aY.1 c with c|c
   ·exact .inr c
   ·simp at c;subst c;exact .inl a
 exact ⟨d.len,fun m hm=>d.tr m (List.mem_append_left _ hm),d.re,fun r hr=>hx r (d.ro r hr),fun m o hm ho hk e he hs r hr=>hx r (d.ex m o hm ho hk e he hs r hr),fun e he=>by simp at he⟩
theorem Df.take (i:Inv h) (d:Df h sn (td++[n]) 0 []) (a:n<sn.length):Df h (sn.set n true) td n []:=by
 have up:∀ r:Nat,sn[r]?=some true->(sn.set n true)[r]?=some true:=by
  intro r hr;rw [bY];split
  ·rename_i c;subst c;simp
  ·exact hr
 have dn:∀ r:Nat,(sn.set n true)[r]?=some true->r=n∨sn[r]?=some true:=by
  intro r hr;rw [bY] at hr;split at hr
  ·rename_i c;exact .inl c.symm
  ·exact .inr hr
 have hx:∀ r,sn[r]?=some true∨r∈td++[n]->(sn.set n true)[r]?=some true∨r∈td:=by
  intro r hr;rcases hr with c|c
  ·exact .inl (up r c)
  ·rcases aY.1 c with c|c
   ·exact .inr c
   ·simp at c;subst c;exact .inl (by simp [a])
 refine ⟨by rw [bN];exact d.len,fun m hm=>d.tr m (List.mem_append_left _ hm),fun r hr=>?_,fun r hr=>hx r (d.ro r hr),fun m o hm ho hk e he hs r hr=>?_,fun e he=>by simp at he⟩
 ·rcases dn r hr with c|c
  ·subst c;exact d.tr r (List.mem_append_right _ (List.mem_singleton.2 rfl))
  ·exact d.re r c
 ·rcases dn m hm with c|c
  ·exact absurd c hk
  ·exact hx r (d.ex m o c ho (fun z=>by subst z;rw [i.zero] at ho;cases ho) e he hs r hr)
theorem Df.more (d:Df h sn td k dn) (hk:h.Reach k) (ho:h.ob k=some o) (b:e∈o.es) (a:e.2.isSome=true):Df h sn (td++dw e) k (dn++[e]):=by
 have hx:∀ r,sn[r]?=some true∨r∈td->sn[r]?=some true∨r∈td++dw e:=fun r hr=>hr.imp id (List.mem_append_left _);refine ⟨d.len,fun n hn=>?_,d.re,fun r hr=>hx r (d.ro r hr),fun m o' hm ho' hk' e' he' hs' r hr=>hx r (d.ex m o' hm ho' hk' e' he' hs' r hr),fun e' he' hs' r hr=>?_⟩
 ·rcases aY.1 hn with c|c
  ·exact d.tr n c
  ·exact Hp.Ji hk ho b a c
 ·rcases aY.1 he' with c|c
  ·exact hx r (d.kk e' c hs' r hr)
  ·simp at c;subst c;exact .inr (List.mem_append_right _ hr)
theorem Df.pass (d:Df h sn td k dn) (a:e.2.isNone=true):Df h sn td k (dn++[e]):=by
 refine ⟨d.len,d.tr,d.re,d.ro,d.ex,fun e' he' hs' r hr=>?_⟩;rcases aY.1 he' with c|c
 ·exact d.kk e' c hs' r hr
 ·simp at c
  subst c;cases h9:e'.2 with
  |none=>rw [h9] at hs';cases hs'
  |some _=>rw [h9] at a;cases a
theorem Df.fin (d:Df h sn td k dn) (ho:h.ob k=some o) (hd:dn=o.es):Df h sn td 0 []:=by
 refine ⟨d.len,d.tr,d.re,d.ro,fun m o' hm ho' hk e he hs r hr=>?_,fun e he=>by simp at he⟩;by_cases c:m=k
 ·subst c
  rw [ho] at ho';cases ho';exact d.kk e (hd ▸ he) hs r hr
 ·exact d.ex m o' hm ho' c e he hs r hr
theorem Df.done (i:Inv h) (d:Df h sn [] 0 []) (n:Nat):sn[n]?=some true↔h.Reach n:=by
 have hx:∀ r:Nat,sn[r]?=some true∨r∈([]:List Nat)->sn[r]?=some true:=fun r hr=>hr.resolve_right (by simp);refine ⟨d.re n,fun r=>r (fun n=>sn[n]?=some true) (fun r hr=>hx r (d.ro r hr)) (fun m o e hm ho he hs q hq=>hx q (d.ex m o hm ho (fun c=>?_) e he hs q hq))⟩;subst c;rw [i.zero] at ho;cases ho
def wU (o:Option Ob):Nat:=match o with
 |some o=>o.es.length
 |none=>0
def dM:List (Option Ob)->List Bool->Nat
 |o::os,b::bs=>(if b then 0 else 2*wU o)+dM os bs
 |_,_=>0
theorem Ah:∀ (os:List (Option Ob)) (sn:List Bool) (r:Nat) (x:Option Ob),sn[r]?=some false->os[r]?=some x->dM os (sn.set r true)+2*wU x=dM os sn
 | [],_,_,_,_,h=>by simp at h
 |_::_,[],_,_,h,_=>by simp at h
 |o::os,b::bs,0,x,h1,h2=>by
  simp at h1 h2;subst h1 h2;simp [dM];omega
 |o::os,b::bs,r+1,x,h1,h2=>by
  have:=Ah os bs r x (by simpa using h1) (by simpa using h2);simp only [List.set_cons_succ,dM];omega
theorem Dp:∀ (os:List (Option Ob)) (sn:List Bool),20*dM os sn<=gZ wt (os.map fun o=>o.map fun o=>o.es.length)
 | [],_=>by simp [dM]
 |o::os,[]=>by simp [dM]
 |o::os,b::bs=>by
  have h1:=Dp os bs;rw [List.map_cons];have c:gZ wt ((o.map fun o=>o.es.length)::os.map fun o=>o.map fun o=>o.es.length)=wt (o.map fun o=>o.es.length)+gZ wt (os.map fun o=>o.map fun o=>o.es.length):=by simp [gZ]
  rw [c,dM];cases o with
  |none=>simp [wU];omega
  |some o=>
   have a:wt ((some o).map fun o:Ob=>o.es.length)=40+40*o.es.length:=rfl;rw [a];simp only [wU];split<;>omega
theorem vS (a:n<sn.length) (q:Nat):(if q=n then Value.pointer (some ⟨tb n,0,none⟩) else uE tb sn q)=uE tb (sn.set n true) q:=by
 unfold uE;by_cases c:q=n
 ·subst c;simp [bq,a,oQ]
 ·have:n≠q:=fun e=>c e.symm
  simp [bq,c,this]
theorem Md.pop (x:Md base tb P av (td++[n]) w):∃ g cap,av=.slice (some ⟨g,0,none⟩) (td.length+1) cap/\td.length+1<=cap/\w.cell? ⟨g,td.length,none⟩=some (.iface 127 (.pointer (some ⟨tb n,0,none⟩)))/\Md base tb P (.slice (some ⟨g,0,none⟩) td.length cap) td (w.setCell ⟨P,0,none⟩ (.slice (some ⟨g,0,none⟩) td.length cap)):=by
 have ho:=x.o;rw [aT,List.length_singleton,List.map_append] at ho;rcases ho.2 with ⟨_,v⟩|⟨g,cap,l,f,u,t,i,s,p,m⟩
 ·omega
 ·subst f
  have hr:=ay ho (g:=g) (by simp [Value.ownBlock]);have a:Keeps w (w.setCell ⟨P,0,none⟩ (.slice (some ⟨g,0,none⟩) td.length cap)) (fun c=>c=P):=Keeps.setCell (S:=fun c=>c=P) (Keeps.refl w _) rfl _;refine ⟨g,cap,rfl,i,?_,?_⟩
  ·rw [hr.c (td.length),bq,fI (by simp)]
   simp [jL,oQ]
  ·refine ⟨(x.r.set (j:=0) (by omega) _).congr (fun j hj=>by rw [if_pos (by omega)]),?_,aI x.b a.size⟩
   have d:=mE ho (k:=td.length) (by omega);rw [List.take_append_of_le_length (by simp),List.take_of_length_le (by simp)] at d;exact aj d a (fun q hq c=>by
    simp [Value.ownBlock] at hq;exact hr.apart x.r (by decide) (hq.trans c))
theorem DY (w:World) {MC:Array Value} (h:MC=madeCells #[Value.pointer none] n):aD (w.alloc (.cells MC 127)) 127 w.heap.size n (fun _=>.pointer none):=by
 have a:=aD.mk' w 127 MC;have b:MC.size=n:=by rw [h];exact size_madeCells _ _
 rw [b] at a;refine a.congr (fun j hj=>?_);have d:MC.toList=List.replicate n (Value.pointer none):=by rw [h];exact toList_madeCells_one _ _
 have c:MC[j]?=some (Value.pointer none):=by
  rw [<-Array.getElem?_toList,d];simp [hj]
 simp [Array.getD_eq_getD_getElem?,c]
theorem xJ (w:World) (n:Nat) (j:n<=6000) (f:Array Value) (d:f=madeCells #[Value.pointer none] n):(Instr.makeSlice 137 (.int .i64 (n:Int)) (.int .i64 (n:Int))).run Tryz.prog w=.ok (.slice (some ⟨w.heap.size,0,none⟩) n n) (w.alloc (.cells f 127)):=by
 obtain ⟨g,hi,c,b,a⟩:=info_parts tZ;have i:=run_make (P:=Tryz.prog) w 137 127 g (.pointer none) Tryz.underlying137 hi c .i64 .i64 n n (by omega) (Int.le_refl _) (by rw [a];omega) (by omega);rw [i,d];simp [b];rfl
end
section
variable {F P R base hand k:Nat} {L:PM} {S:Nat->Prop} {av av':Value} {dn:List En} {h:Hp} {sn:List Bool} {tb:Nat->Nat} {td td':List Nat} {w w' wr:World}
attribute [local go_sem] bW
def EO (H:Nat) (pv:Value) (k:Nat):Value:=if k=0 then .pointer (some ⟨H,0,none⟩) else pv
structure Mr (h:Hp) (tb:Nat->Nat) (F P:Nat) (w:World) (sn:List Bool) (td:List Nat) (k:Nat) (dn:List En) (av:Value) (wr:World):Prop where
 f:aD wr 127 F h.objs.length (uE tb sn)
 p:Md w.heap.size tb P av td wr
 d:Df h sn td k dn
 b:Below w.heap.size w wr
theorem Mr.ap (x:Mr h tb F P w sn td k dn av wr):F≠P/\av.ownBlock≠some F:=⟨fun c=>x.f.apart x.p.r (by decide) c,fun c=>ak x.p.o x.f (by decide) c⟩
theorem Mr.low {h:Hp} {tb:Nat->Nat} {F P:Nat} {w:World} {sn:List Bool} {td:List Nat} {k:Nat} {dn:List En} {av:Value} {wr w':World} (x:Mr h tb F P w sn td k dn av wr) (hb:Below wr.heap.size wr w'):Mr h tb F P w sn td k dn av w':=
 ⟨x.f.keep (Keeps.of hb (au _) (fun _=>False)) id,x.p.low hb,x.d,x.b.trans (hb.mono x.b.size)⟩
theorem Mr.pile (x:Mr h tb F P w sn td k dn av wr) (a:w.heap.size<=P) (p:Md w.heap.size tb P av' td' w') (kk:Keeps wr w' (fun c=>c=P∨av.ownBlock=some c)):aD w' 127 F h.objs.length (uE tb sn)/\Below w.heap.size w w':=by
 refine ⟨x.f.keep kk (fun c=>?_),x.b.trans (kk.below x.b.size (fun c e=>?_))⟩
 ·rcases c with c|c
  ·exact x.ap.1 c
  ·exact x.ap.2 c
 ·rcases e with e|e
  ·omega
  ·exact (x.p.o.lt c e).1
theorem um (v:HV):(bQ v).length<=1:=by
 cases v with
 |none=>simp [bQ]
 |some x=>cases x<;>simp [bQ]
def GN (h:Hp) (tb:Nat->Nat) (hand:Nat) (w:World) (e:Ending) (w':World):Prop:=
 ∃ F sn,e=.returned (.slice (some ⟨F,0,none⟩) sn.length sn.length)/\sn.length=h.objs.length/\aD w' 127 F sn.length (uE tb sn)/\w.heap.size<=F/\(∀ n:Nat,1<=n->(sn[n]?=some true↔(n=hand∨h.Reach n)))/\Below w.heap.size w w'
theorem DV (w:World):(Instr.typeAssert .nilIface 67 127 true).run Tryz.prog w=.ok (.tuple #[.pointer none,.bool false]) w:=by kernel_rfl
theorem jU (p:PS base S h L w) (g:Gd h) (m4:h.objs.length<=5001) (hR:aD w 69 R 2 (EO L.H (aK L.tb (cO hand)))) (f5:hand=0∨h.Ok hand) (m0:h.roots.length<=5001):
 Calls Tryz.prog 70 #[.pointer (some ⟨R,0,none⟩)] w (GN h L.tb hand w):=by
 obtain ⟨x,y,G,a,r⟩:=p;have hp:=g.i.ps;have h0:∀ n o,h.ob n=some o->o.es.length<=5000:=fun n o e=>by
  have h1:=g.n.es e;have h2:=g.s.Nh;omega
 have g2:∀ sn,dM h.objs sn<=15000:=fun sn=>by
  have h1:=Dp h.objs sn;have h2:h.bytes=gZ wt (h.objs.map fun o=>o.map fun o=>o.es.length):=g.n.1;have h3:=g.s.Nh;omega
 have r0:w.cell? ⟨R,0,none⟩=some (.pointer (some ⟨L.H,0,none⟩)):=hR.c 0;have c2:w.cell? ⟨L.H,2,none⟩=some (.int .i64 ((h.objs.length:Int)-1)):=a.hp.c 2;have b8:=a.li 10 (by simp [eF]);obtain ⟨ar,cr,b7⟩:=aF b8;have b2:w.ownsRow base 67 1 (.slice ar h.roots.length cr) (h.roots.map (jL L.tb)).length (h.roots.map (jL L.tb)):=by rw [bI,<-(show L.li 10=.slice ar h.roots.length cr from b7)];exact b8
 have m2:((h.objs.length:Int)-1+1)=(h.objs.length:Int):=by omega
 obtain ⟨MC,c8⟩:∃ MC,MC=b6 #[J.pointer none] h.objs.length:=⟨_,rfl⟩
 have j2:=fun w9:World=>xJ w9 h.objs.length (by omega) MC c8;have h6:=ah (DY w c8);have b1:=ah (aU w (.cells MC 127));have j8:=hR.lt;have n0:=a.hp.lt;have HA:=ah a;have HG:=ah g;have HR:=ah hR;have k1:=ah (show L.li 10=.slice ar h.roots.length cr from b7);have k3:=ah b2;have l3:=ah h0;have l4:=ah g2;have k7:=ah f5;clear a r g hR b8 b2 b7 h0 g2 f5 c8;go_enter Tryz.func70,Tryz.ntmps70;go_upto_region 2 with (fail)
 clear j2;have K1:=ah (Keeps.of b1.o (au _) (fun _=>False));generalize w.alloc (.cells MC 127)=w1 at *;have b4:=ah (aj k3.o K1.o (fun _ _ e=>e));have i1:=ah (HR.o.keep K1.o id);have i7:=ah (HA.o.low b1.o);clear r0 c2;have r0:w1.cell? ⟨R,0,none⟩=some (.pointer (some ⟨L.H,0,none⟩)):=i1.o.c 0;have j9:w1.cell? ⟨L.H,10,none⟩=some (.slice ar h.roots.length cr):=by rw [i7.o.hp.c 10];exact congrArg some k1.o
 have i6:=ah (vg b4.o (fun u hu=>by
  obtain ⟨n,_,rfl⟩:=List.mem_map.1 hu;rfl) (by rw [bI];omega))
 go_wp2_with fail;refine i6.o.mono ?_;rintro e2 w2 ⟨v2,rfl,a5,g6⟩;rw [bI] at a5;obtain ⟨a2,k2,i9⟩:=aF a5;subst i9;have i2:=ah a5;have b0:=ah g6;clear a5 g6 r0 j9 i6;go_upto_region 3 with (fail)
 have i0:=ah (show aD (w2.alloc (.cells #[.slice a2 h.roots.length k2] 72)) 72 w2.heap.size 1 _ from aD.mk' w2 _ #[.slice a2 h.roots.length k2]);have a9:=ah (aU w2 (.cells #[.slice a2 h.roots.length k2] 72));have g8:w.heap.size<=w1.heap.size:=b1.o.size;have m9:w1.heap.size<=w2.heap.size:=b0.o.size;have c9:Hq (Mr h L.tb w.heap.size w2.heap.size w (List.replicate h.objs.length false) h.roots 0 [] (.slice a2 h.roots.length k2) (w2.alloc (.cells #[.slice a2 h.roots.length k2] 72))):=ah (by
  have e3:=Keeps.of a9.o (au _) (fun _=>False);have f2:=((h6.o.keep (Keeps.of b0.o (au _) (fun _=>False)) id).keep e3 id)
  refine ⟨f2.congr (fun j hj=>?_),⟨i0.o.congr (fun j hj=>by rw [show j=0 by omega];rfl),iq (aj i2.o e3 (fun _ _ e=>e)) g8,by have:=a9.o.size;omega⟩,Df.start h,?_⟩
  ·unfold uE
   rw [bq,List.getElem?_replicate,if_pos hj];rfl
  ·exact (b1.o.trans (b0.o.mono g8)).trans (a9.o.mono (by omega)))
 generalize w2.alloc (.cells #[.slice a2 h.roots.length k2] 72)=w3 at *;obtain ⟨P,hP⟩:∃ P,w2.heap.size=P:=⟨_,rfl⟩
 have g7:w.heap.size<=P:=by omega
 rw [hP] at c9 ⊢;clear i0 a9 hP i2 b0 b4 i1 i7 K1 h6;have g9:h.roots.length+dM h.objs (List.replicate h.objs.length false)<=20001:=by
  have:=l4.o (List.replicate h.objs.length false);omega
 have i3:=ah g9;clear g9;go_wp2
 go_loopg [] (h.roots.length+dM h.objs (List.replicate h.objs.length false)) (fun m wr=>∃ (sn:List Bool) (td:List Nat) (av:J),m=td.length+dM h.objs sn/\m<=20001/\Hq (Mr h L.tb w.heap.size P w sn td 0 [] av wr))
 case atStart=>exact ⟨_,_,_,rfl,i3.o,c9.o⟩
 case round=>
  clear c9 i3;obtain ⟨sn,td,av,hm,m3,D⟩:=hrel;have f3:=D.o.d.len;rcases List.eq_nil_or_concat td with a3|⟨td',n,a3⟩
  ·subst a3
   obtain ⟨A,v,a6⟩:=aF D.o.p.o;have cP:wr.cell? ⟨P,0,none⟩=some (.slice A 0 v):=by rw [D.o.p.r.c 0];exact congrArg some a6
   have HE:=ah (fB wr P 0 A 0 v cP);rw [show (((0:Nat):Int)==0)=true from rfl] at HE;have i5:=ah (D.o.d.done HG.o.i);have r1:wr.cell? ⟨R,1,none⟩=some (aK L.tb (cO hand)):=(D.o.b.cell (p:=⟨R,1,none⟩) j8).trans (HR.o.c 1);have V:=ah f3;clear a6 hm cP f3;by_cases c6:hand=0
   ·rw [c6] at r1
    have f0:=DV wr;have i8:wr.cell? ⟨R,1,none⟩=some .nilIface:=r1;clear r1;go_wp2_with fail;refine HE.o.mono ?_;rintro e4 w4 ⟨rfl,rfl⟩;go_wp2;go_ret;refine ⟨w.heap.size,sn,by rw [V.o];rfl,V.o,by rw [V.o];exact D.o.f,au _,fun q hq=>?_,D.o.b⟩;rw [i5.o q];exact ⟨.inr,fun c=>c.resolve_left (by omega)⟩
   ·obtain ⟨oh,a4,-⟩:=k7.o.resolve_left c6
    have c5:=Hp.Hy a4;rw [gM c6] at r1;have i8:wr.cell? ⟨R,1,none⟩=some (.iface 127 (.pointer (some ⟨L.tb hand,0,none⟩))):=r1;have f0:=uM (.pointer (some ⟨L.tb hand,0,none⟩)) wr;have t1:wr.cell? ⟨L.tb hand,1,none⟩=some (.int .i64 (hand:Int)):=(D.o.b.cell (p:=⟨L.tb hand,1,none⟩) (HA.o.ob hand oh a4).lt).trans ((HA.o.ob hand oh a4).c 1);have f1:=D.o.f.cell (j:=hand) c5;have z1:=D.o.f.Nq hand;have m8:(hand:Int)<(h.objs.length:Int):=by omega
    have e0:=ah c5;clear r1 a4 c5;obtain ⟨fv,f7⟩:∃ fv,uE L.tb sn hand=fv:=⟨_,rfl⟩
    rw [f7] at f1;clear f7;go_wp2_with fail;refine HE.o.mono ?_;rintro e4 w4 ⟨rfl,rfl⟩;go_wp2;go_ret;have c1:(sn.set hand true).length=h.objs.length:=by rw [bN];exact V.o
    refine ⟨w.heap.size,sn.set hand true,by rw [c1];rfl,c1,by rw [c1];exact (D.o.f.set (j:=hand) e0.o _).congr (fun q hq=>vS (by rw [V.o];exact e0.o) q),au _,fun q hq=>?_,D.o.b.trans ((Keeps.setCell (S:=fun c=>c=w.heap.size) (Keeps.refl _ _) rfl _).below (B:=w.heap.size) D.o.b.size (fun c e=>aO e.symm))⟩;rw [bY];split
    ·rename_i c
     rw [if_pos (by rw [V.o];exact e0.o)];exact ⟨fun _=>.inl c.symm,fun _=>rfl⟩
    ·rename_i c
     rw [i5.o q];exact ⟨.inr,fun d=>d.resolve_left (fun e=>c e.symm)⟩
  ·rw [List.concat_eq_append] at a3
   subst a3;obtain ⟨gp,v,a6,g5,g4,W⟩:=D.o.p.pop;subst a6;have cP:wr.cell? ⟨P,0,none⟩=some (.slice (some ⟨gp,0,none⟩) (td'.length+1) v):=D.o.p.r.c 0;have E:=D.o.d.tr n (List.mem_append_right _ (List.mem_singleton.2 rfl));obtain ⟨o,ho,-⟩:=Hp.Jm HG.o.i E;have f6:=Hp.Hy ho;have l6:td'.length+1+dM h.objs sn<=20001:=by rw [aT,List.length_singleton] at hm;omega
   have HE:=ah (fB wr P 0 (some ⟨gp,0,none⟩) (td'.length+1) v cP);rw [show (((td'.length+1:Nat):Int)==0)=false by simp;omega] at HE;have HT:=ah (jV wr P 0 gp td'.length v (L.tb n) cP (D.o.p.r.Nq 0) g4 (by omega) g5);have f0:=fun w9=>uM (.pointer (some ⟨L.tb n,0,none⟩)) w9;have kP:Keeps wr (wr.setCell ⟨P,0,none⟩ (.slice (some ⟨gp,0,none⟩) td'.length v)) (fun c=>c=P∨(J.slice (some ⟨gp,0,none⟩) (td'.length+1) v).ownBlock=some c):=Keeps.setCell (S:=fun c=>c=P∨(J.slice (some ⟨gp,0,none⟩) (td'.length+1) v).ownBlock=some c) (Keeps.refl _ _) (.inl rfl) _;have z:=ah (D.o.pile g7 W kP);have a1:=ah W;have HD:=ah D.o.d;have HO:=ah ho;have k5:=ah E;rw [aT,List.length_singleton] at hm;clear W E ho g4 kP cP D;go_wp2_with fail;refine HE.o.mono ?_;rintro e4 w4 ⟨rfl,rfl⟩;go_wp2_with fail;refine HT.o.mono ?_;rintro e5 w5 ⟨rfl,rfl⟩;generalize w4.setCell ⟨P,0,none⟩ (.slice (some ⟨gp,0,none⟩) td'.length v)=w5 at *;have e6:=(HA.o.ob n o HO.o).lt;have t1:w5.cell? ⟨L.tb n,1,none⟩=some (.int .i64 (n:Int)):=(z.o.2.cell (p:=⟨L.tb n,1,none⟩) e6).trans ((HA.o.ob n o HO.o).c 1);have f1:=z.o.1.cell (j:=n) f6;have m1:(n:Int)<(h.objs.length:Int):=by omega
   have M:sn[n]?=some sn[n]:=aN (by omega);cases hb:sn[n] with
   |true=>
    rw [hb] at M;rw [nE M] at f1;have k0:=ah (HD.o.skip M);clear hb M;go_wp2
    go_roundg (td'.length+dM h.objs sn)
    case rel=>exact ⟨sn,td',_,rfl,by omega,z.o.1,a1.o,k0.o,z.o.2⟩
    case measure=>omega
   |false=>
    rw [hb] at M;rw [Dr M] at f1;have a0:=ah (HD.o.take HG.o.i (by omega));have g3:=Ah h.objs sn n (some o) M (Hp.I8 HO.o);have l8:=l3.o n o HO.o;have l9:dM h.objs (sn.set n true)+2*o.es.length=dM h.objs sn:=g3;have z1:=z.o.1.Nq n;have h7:=ah ((z.o.1.set (j:=n) f6 (.pointer (some ⟨L.tb n,0,none⟩))).congr (fun q hq=>vS (sn:=sn) (by omega) q));have K6:Hq (Keeps w5 (w5.setCell ⟨w.heap.size,n,none⟩ (.pointer (some ⟨L.tb n,0,none⟩))) (fun c=>c=w.heap.size)):=ah (Keeps.setCell (S:=fun c=>c=w.heap.size) (Keeps.refl _ _) rfl _);have b5:=ah (a1.o.keep K6.o (fun c=>z.o.1.apart a1.o.r (by decide) c.symm) (fun q hq c=>ak a1.o.o z.o.1 (by decide) (c ▸ hq)));have e1:=ah (z.o.2.trans (K6.o.below (B:=w.heap.size) z.o.2.size (fun c e=>aO e.symm)));clear hb M g3;go_upto_region 7 with (fail)
    generalize w5.setCell ⟨w.heap.size,n,none⟩ (.pointer (some ⟨L.tb n,0,none⟩))=w6 at *;clear t1 f1 z1;obtain ⟨A,h4,f8,j5,b3⟩:=HA.o.ents HO.o;have c7:w6.cell? ⟨L.tb n,7,none⟩=some (.slice A o.es.length h4):=by rw [<-f8];exact (e1.o.cell (p:=⟨L.tb n,7,none⟩) e6).trans ((HA.o.ob n o HO.o).c 7)
    have l1:=ah b3;have i4:Hq (Mr h L.tb w.heap.size P w (sn.set n true) td' n [] (.slice (some ⟨gp,0,none⟩) td'.length v) w6):=ah ⟨h7.o,b5.o,a0.o,e1.o⟩;clear b3 f8 h7 b5 a0 e1 a1 z K6;go_wp2;go_loopw [62] (fun iv ws=>∃ (i:Nat) (X:J) (K:List Nat),i<=o.es.length/\iv=.int .i64 i/\K.length<=td'.length+2*i/\Hq (Mr h L.tb w.heap.size P w (sn.set n true) K n (o.es.take i) X ws)) (fun iv _=>o.es.length-bF iv)
    case atStart=>exact ⟨0,_,td',by omega,rfl,by omega,i4.o⟩
    case round=>
     clear i4 c7;obtain ⟨i,X,K,m7,rfl,l5,Q⟩:=hrel;by_cases j3:i<o.es.length
     ·obtain ⟨e,he⟩:∃ e,o.es[i]?=some e:=⟨_,aN j3⟩
      obtain ⟨C,rfl,t,l⟩:=l1.o i e he;have g1:=aW he;have e7:o.es.take (i+1)=o.es.take i++[e]:=by rw [List.take_add_one,he];rfl
      have d0:wr.cell? ⟨C,i*10,none⟩=some (.int .i64 (vk e.1)):=(Q.o.b.cell (p:=⟨C,_,none⟩) t).trans (l 0 _ rfl);have d1:wr.cell? ⟨C,i*10+1,none⟩=some (.int .i64 (vi e.1)):=(Q.o.b.cell (p:=⟨C,_,none⟩) t).trans (l 1 _ rfl);have d2:wr.cell? ⟨C,i*10+2,none⟩=some (.int .u64 0):=(Q.o.b.cell (p:=⟨C,_,none⟩) t).trans (l 2 _ rfl);have d3:wr.cell? ⟨C,i*10+3,none⟩=some (.string ByteArray.empty):=(Q.o.b.cell (p:=⟨C,_,none⟩) t).trans (l 3 _ rfl);have d4:wr.cell? ⟨C,i*10+4,none⟩=some (aK L.tb e.1):=(Q.o.b.cell (p:=⟨C,_,none⟩) t).trans (l 4 _ rfl);have d5:wr.cell? ⟨C,i*10+5,none⟩=some (.int .i64 (vk e.2)):=(Q.o.b.cell (p:=⟨C,_,none⟩) t).trans (l 5 _ rfl);have d6:wr.cell? ⟨C,i*10+6,none⟩=some (.int .i64 (vi e.2)):=(Q.o.b.cell (p:=⟨C,_,none⟩) t).trans (l 6 _ rfl);have d7:wr.cell? ⟨C,i*10+7,none⟩=some (.int .u64 0):=(Q.o.b.cell (p:=⟨C,_,none⟩) t).trans (l 7 _ rfl);have d8:wr.cell? ⟨C,i*10+8,none⟩=some (.string ByteArray.empty):=(Q.o.b.cell (p:=⟨C,_,none⟩) t).trans (l 8 _ rfl);have d9:wr.cell? ⟨C,i*10+9,none⟩=some (aK L.tb e.2):=(Q.o.b.cell (p:=⟨C,_,none⟩) t).trans (l 9 _ rfl);have l7:(i:Int)<(o.es.length:Int):=by omega
      have HX:=ah (mR wr L.tb e);have n2:=ah (aU wr (.cells #[.int .i64 (vk e.1),.int .i64 (vi e.1),.int .u64 0,.string ByteArray.empty,aK L.tb e.1,.int .i64 (vk e.2),.int .i64 (vi e.2),.int .u64 0,.string ByteArray.empty,aK L.tb e.2] 167));have a8:=ah (Q.o.low (aU wr (.cells #[.int .i64 (vk e.1),.int .i64 (vi e.1),.int .u64 0,.string ByteArray.empty,aK L.tb e.1,.int .i64 (vk e.2),.int .i64 (vi e.2),.int .u64 0,.string ByteArray.empty,aK L.tb e.2] 167)));have a0:=ah e7;have l2:=ah g1;clear l he g1 e7 Q;go_upto_region 10 with (fail)
      generalize wr.alloc (.cells #[.int .i64 (vk e.1),.int .i64 (vi e.1),.int .u64 0,.string ByteArray.empty,aK L.tb e.1,.int .i64 (vk e.2),.int .i64 (vi e.2),.int .u64 0,.string ByteArray.empty,aK L.tb e.2] 167)=w7 at *;generalize wr.heap.size=Y at *;clear d0 d1 d2 d3 d4 d5 d6 d7 d8 d9;have y5:w7.cell? ⟨Y,5,none⟩=some (.int .i64 (vk e.2)):=HX.o.c 5;have y6:w7.cell? ⟨Y,6,none⟩=some (.int .i64 (vi e.2)):=HX.o.c 6;have y7:w7.cell? ⟨Y,7,none⟩=some (.int .u64 0):=HX.o.c 7;have y8:w7.cell? ⟨Y,8,none⟩=some (.string ByteArray.empty):=HX.o.c 8;have y9:w7.cell? ⟨Y,9,none⟩=some (aK L.tb e.2):=HX.o.c 9;have HN:=ah (bU w7 L.tb e.2);cases hb:e.2.isNone with
      |true=>
       rw [hb] at HN;have k6:=ah (a8.o.d.pass hb);clear hb;go_wp2_with fail;refine HN.o.mono ?_;rintro e8 w8 ⟨rfl,U⟩;have T:=ah (a8.o.low U);clear U;go_wp2;go_roundw
       case rel=>exact ⟨i+1,X,K,by omega,by simp,by omega,T.o.f,T.o.p,by rw [a0.o];exact k6.o,T.o.b⟩
       case measure=>simp [bF];omega
      |false=>
       rw [hb] at HN;have g0:e.2.isSome=true:=by cases h9:e.2 with
        |none=>rw [h9] at hb;cases hb
        |some _=>rfl
       have k8:=ah (a8.o.d.more k5.o HO.o l2.o g0);clear hb g0;go_wp2_with fail;refine HN.o.mono ?_;rintro e8 w8 ⟨rfl,U⟩;have T:=ah (a8.o.low U);have N:=ah (HX.o.keep (Keeps.of U (au _) (fun _=>False)) id);clear U y5 y6 y7 y8 y9;have j7:Y≠P:=fun c=>N.o.apart T.o.p.r (by decide) c;have j6:X.ownBlock≠some Y:=fun c=>ak T.o.p.o N.o (by decide) c;have k4:=ah (nL T.o.p e.1 (by omega));have y0:w8.cell? ⟨Y,0,none⟩=some (.int .i64 (vk e.1)):=N.o.c 0;have y1:w8.cell? ⟨Y,1,none⟩=some (.int .i64 (vi e.1)):=N.o.c 1;have y2:w8.cell? ⟨Y,2,none⟩=some (.int .u64 0):=N.o.c 2;have y3:w8.cell? ⟨Y,3,none⟩=some (.string ByteArray.empty):=N.o.c 3;have y4:w8.cell? ⟨Y,4,none⟩=some (aK L.tb e.1):=N.o.c 4;go_wp2_with fail;refine k4.o.mono ?_;rintro e9 w9 ⟨rfl,n1,c0,c4,j1⟩;have H9:=ah (T.o.pile g7 c0 c4);have a7:=ah c0;have Z:=ah (N.o.keep c4 (fun c=>by
        rcases c with c|c
        ·exact j7 c
        ·exact j6 c))
       clear c0 c4 j1 y0 y1 y2 y3 y4;have m6:(bQ e.1).length<=1:=um e.1;have m5:(bQ e.2).length<=1:=um e.2;have h8:=ah (nL a7.o e.2 (by rw [aT];omega));have y5:w9.cell? ⟨Y,5,none⟩=some (.int .i64 (vk e.2)):=Z.o.c 5;have y6:w9.cell? ⟨Y,6,none⟩=some (.int .i64 (vi e.2)):=Z.o.c 6;have y7:w9.cell? ⟨Y,7,none⟩=some (.int .u64 0):=Z.o.c 7;have y8:w9.cell? ⟨Y,8,none⟩=some (.string ByteArray.empty):=Z.o.c 8;have y9:w9.cell? ⟨Y,9,none⟩=some (aK L.tb e.2):=Z.o.c 9;go_wp2_with fail;refine h8.o.mono ?_;rintro eA wA ⟨rfl,h5,f4,c3,j0⟩;have k9:Hq (Mr h L.tb w.heap.size P w (sn.set n true) (K++dw e) n (o.es.take (i+1)) h5 wA):=ah (by
        have f9:=H9.o.1;have b9:=H9.o.2;have fA:aD wA 127 w.heap.size h.objs.length (uE L.tb (sn.set n true)):=f9.keep c3 (fun c=>by
         rcases c with c|c
         ·exact f9.apart a7.o.r (by decide) c
         ·exact ak a7.o.o f9 (by decide) c)
        have bA:=b9.trans (c3.below b9.size (fun c ec=>by
         rcases ec with ec|ec
         ·omega
         ·exact (a7.o.o.lt c ec).1))
        refine ⟨fA,?_,?_,bA⟩
        ·have:=f4
         rw [List.append_assoc] at this;exact this
        ·rw [a0.o];exact k8.o)
       clear f4 c3 j0 y5 y6 y7 y8 y9;go_wp2;go_roundw
       case rel=>exact ⟨i+1,h5,K++dw e,by omega,by simp,by unfold dw;rw [aT,aT];omega,k9.o⟩
       case measure=>simp [bF];omega
     ·have j4:i=o.es.length:=by omega
      subst j4;rw [bf] at Q;have l0:=ah (Q.o.d.fin HO.o rfl);go_wp2
      go_roundg (K.length+dM h.objs (sn.set n true))
      case rel=>exact ⟨sn.set n true,K,X,rfl,by omega,Q.o.f,Q.o.p,l0.o,Q.o.b⟩
      case measure=>omega
end
end Go.Proofs.YtbpcdfbmnklcjaaGreatDoor
