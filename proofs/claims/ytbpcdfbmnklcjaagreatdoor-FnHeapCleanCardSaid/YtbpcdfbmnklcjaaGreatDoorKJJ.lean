import Derived.Test.YtbpcdfbmnklcjaaGreatDoorKJR0
namespace Go.Proofs.YtbpcdfbmnklcjaaGreatDoor
open Go Go.RowKit
set_option maxHeartbeats 6400000
set_option maxRecDepth 100000
set_option linter.unusedVariables false
section
variable {P base cap i:Nat} {b:Bk} {ev mv rv v':Value} {w w9:World}
theorem xS:(Tryz.prog.info? 80).map (fun i=>(i.zero,i.size,i.bytes))=some (some (.agg #[.int .i64 0,.int .i64 0,.int .i64 0,.int .i64 0,.bool false]),5,40):=by kernel_rfl
theorem Bg (w:World) (t num key val:Int) (ob:Bool):aD (w.alloc (.cells #[.int .i64 t,.int .i64 num,.int .i64 key,.int .i64 val,.bool ob] 80)) 80 w.heap.size 5 (fun j=>[Value.int .i64 t,.int .i64 num,.int .i64 key,.int .i64 val,.bool ob].getD j (.bool false)):=by
 have h:=aD.mk' w 80 #[.int .i64 t,.int .i64 num,.int .i64 key,.int .i64 val,.bool ob];refine aD.congr (show aD _ _ _ 5 _ from h) (fun j hj=>?_);have:j=0∨j=1∨j=2∨j=3∨j=4:=by omega
 rcases this with rfl|rfl|rfl|rfl|rfl<;>rfl
theorem FC (e x:Ed):e.sm x=(((e.t:Int)==(x.t:Int))&&(e.ob==x.ob)&&((e.key:Int)==(x.key:Int))&&(e.num==x.num)):=by
 have h:∀ a b:Nat,((a:Int)==(b:Int))=(a==b):=fun a b=>by
  by_cases c:a=b
  ·subst c;simp
  ·have:¬ ((a:Int)=(b:Int)):=by omega
   rw [jH.2 this,jH.2 c]
 unfold Ed.sm;rw [h,h]
def Gs (base P:Nat) (b:Bk) (mv rv ev:Value) (x:Ed) (w:World) (e:Ending) (w':World):Prop:=
 e=.returned (.tuple #[])/\∃ ev',Nj base w' P ⟨b.modes,b.roots,iC b.edges x⟩ mv rv ev'/\Mh P mv rv ev mv rv ev' w w'
theorem Nj.ed {a:Option Addr} {e:Ed} (h:Nj base w P b mv rv (.slice a b.edges.length cap)) (hi:b.edges[i]?=some e):
 ∃ g,a=some ⟨g,0,none⟩/\b.edges.length<=cap/\w.cell? ⟨g,i*5,none⟩=some (.int .i64 (e.t:Int))/\w.cell? ⟨g,i*5+1,none⟩=some (.int .i64 e.num)/\w.cell? ⟨g,i*5+2,none⟩=some (.int .i64 (e.key:Int))/\w.cell? ⟨g,i*5+3,none⟩=some (.int .i64 (e.val:Int))/\w.cell? ⟨g,i*5+4,none⟩=some (.bool e.ob)/\w.frozen? ⟨g,i*5+3,none⟩=false:=by
 have p:=(aJ.1 hi).1;obtain ⟨s,q|⟨g,m,r,k,hb,u,n,hr⟩⟩:=id h.e
 ·have:=q.2;omega
 ·simp only [Value.slice.injEq] at k
  obtain ⟨rfl,-,rfl⟩:=k;have f:=ay h.e (g:=g) (by simp [Value.ownBlock]);have d:∀ j x,(uF e)[j]?=some x->w.cell? ⟨g,i*5+j,none⟩=some x:=by
   intro j x l;have o:j<5:=(aJ.1 l).1;have:=f.c (i*5+j);rw [this,bq,ED hi j x l];rfl
  exact ⟨g,rfl,by omega,d 0 _ rfl,d 1 _ rfl,d 2 _ rfl,d 3 _ rfl,d 4 _ rfl,f.ME _⟩
theorem Nj.Mj {g:Nat} {e:Ed} (h:Nj base w P b mv rv (.slice (some ⟨g,0,none⟩) b.edges.length cap)) (hi:b.edges[i]?=some e) (v:Nat):
 Nj base (w.setCell ⟨g,i*5+3,none⟩ (.int .i64 (v:Int))) P ⟨b.modes,b.roots,b.edges.set i { e with val:=v }⟩ mv rv (.slice (some ⟨g,0,none⟩) b.edges.length cap)/\Keeps w (w.setCell ⟨g,i*5+3,none⟩ (.int .i64 (v:Int))) (fun q=>q=g):=by
 have f:=(aJ.1 hi).1;have k:Keeps w (w.setCell ⟨g,i*5+3,none⟩ (.int .i64 (v:Int))) (fun q=>q=g):=Keeps.setCell (S:=fun q=>q=g) (Keeps.refl w _) rfl _;have a:(Value.slice (some ⟨g,0,none⟩) b.edges.length cap).ownBlock=some g:=by simp [Value.ownBlock]
 have d:=aL h.e (i:=i*5+3) (by omega) (.int .i64 (v:Int));rw [Cr hi] at d;refine ⟨⟨h.r.keep k (fun c=>ak h.e h.r (by decide) (c ▸ a)),aj h.m k (fun q hq c=>aV h.m h.e (by decide) a (c ▸ hq)),aj h.o k (fun q hq c=>aV h.o h.e (by decide) a (c ▸ hq)),?_,h.bP⟩,k⟩;show World.ownsRow _ base _ 5 _ (b.edges.set i _).length _;rw [bX];exact d
theorem Nj.app {x:Ed} (h:Nj base w P b mv rv ev) (f:w9.ownsRow base 80 5 v' (b.edges.length+1) (uS b.edges++uF x)) (a:Keeps w w9 (fun c=>ev.ownBlock=some c)) (n:∀ g,v'.ownBlock=some g->ev.ownBlock=some g∨w.heap.size<=g):
 Nj base (w9.setCell ⟨P,2,none⟩ v') P ⟨b.modes,b.roots,b.edges++[x]⟩ mv rv v'/\Mh P mv rv ev mv rv v' w (w9.setCell ⟨P,2,none⟩ v'):=by
 have k:=h.r.keep a (fun c=>ak h.e h.r (by decide) c);have q:=aj h.m a (fun g hg c=>aV h.m h.e (by decide) c hg);have p:=aj h.o a (fun g hg c=>aV h.o h.e (by decide) c hg);have l:Keeps w9 (w9.setCell ⟨P,2,none⟩ v') (fun c=>c=P):=Keeps.setCell (S:=fun c=>c=P) (Keeps.refl w9 _) rfl _;refine ⟨⟨(k.set (j:=2) (by omega) v').congr (fun j hj=>?_),aj q l (fun g hg c=>ak q k (by decide) (c ▸ hg)),aj p l (fun g hg c=>ak p k (by decide) (c ▸ hg)),?_,h.bP⟩,(a.mono (fun c e=>.inr (.inr (.inr e)))).trans (l.mono (fun c e=>.inl e)),fun g hg=>?_⟩
 ·have:j=0∨j=1∨j=2:=by omega
  rcases this with rfl|rfl|rfl<;>rfl
 ·show World.ownsRow _ base _ 5 _ (b.edges++[x]).length _
  rw [bI,yY];exact aj f l (fun g hg c=>ak f k (by decide) (c ▸ hg))
 ·rcases hg with c|c|c|c
  ·exact .inl (.inl c)
  ·exact .inl (.inr (.inl c))
  ·exact .inl (.inr (.inr (.inl c)))
  ·rcases n g c with d|d
   ·exact .inl (.inr (.inr (.inr d)))
   ·exact .inr d
theorem wR (x:Ed) (h:Nj base w P b mv rv ev) (hb:base<=w.heap.size) (hl:b.edges.length<=10000):
 Calls Tryz.prog 27 #[.pointer (some ⟨P,0,none⟩),.agg #[.int .i64 (x.t:Int),.int .i64 x.num,.int .i64 (x.key:Int),.int .i64 (x.val:Int),.bool x.ob]] w (Gs base P b mv rv ev x w):=by
 have HX:=ah (Bg w x.t x.num x.key x.val x.ob);have Z:=ah (aU w (.cells #[.int .i64 (x.t:Int),.int .i64 x.num,.int .i64 (x.key:Int),.int .i64 (x.val:Int),.bool x.ob] 80));have V:=ah (h.low Z.o);have K:=ah (Mh.low (P:=P) (mv:=mv) (rv:=rv) (ev:=ev) Z.o);have a4:P≠w.heap.size:=fun c=>by have:=h.r.lt;omega
 obtain ⟨a,cap,rfl⟩:=aF h.e;clear h;go_enter Tryz.func27,Tryz.ntmps27;go_upto_region 1 with (fail)
 generalize w.alloc (.cells #[.int .i64 (x.t:Int),.int .i64 x.num,.int .i64 (x.key:Int),.int .i64 (x.val:Int),.bool x.ob] 80)=w1 at *;generalize hX:w.heap.size=X at *;have B:w1.cell? ⟨P,2,none⟩=some (.slice a b.edges.length cap):=V.o.r.c 2;have H1:=ah (show Nj base w1 P b mv rv (.slice a b.edges.length cap)/\aD w1 80 X 5 _/\Below w1.heap.size w1 w1/\∀ (q:Nat) (e:Ed),q<0->b.edges[q]?=some e->e.sm x=false from ⟨V.o,HX.o,aT _ _,fun q e c=>by omega⟩);clear HX V;go_wp2;clear B;go_loopw [11] (fun jv ws=>∃ j:Nat,j<=b.edges.length/\jv=.int .i64 (j:Int)/\Hq (Nj base ws P b mv rv (.slice a b.edges.length cap)/\aD ws 80 X 5 (fun j=>[Value.int .i64 (x.t:Int),.int .i64 x.num,.int .i64 (x.key:Int),.int .i64 (x.val:Int),.bool x.ob].getD j (.bool false))/\Below w1.heap.size w1 ws/\∀ (q:Nat) (e:Ed),q<j->b.edges[q]?=some e->e.sm x=false)) (fun jv _=>b.edges.length-bF jv)
 case atStart=>exact ⟨0,by omega,rfl,H1.o⟩
 case round=>
  clear H1;obtain ⟨j,a3,rfl,f⟩:=hrel;by_cases R:j<b.edges.length
  ·obtain ⟨e,F⟩:∃ e,b.edges[j]?=some e:=⟨_,aN R⟩
   have S:(j:Int)<(b.edges.length:Int):=by omega
   obtain ⟨g,rfl,a0,f0,f1,f2,f3,f4,z3⟩:=f.o.1.ed F;have B:wr.cell? ⟨P,2,none⟩=some (.slice (some ⟨g,0,none⟩) b.edges.length cap):=f.o.1.r.c 2;have M:=ah (Bg wr e.t e.num e.key e.val e.ob);have s:=ah (aU wr (.cells #[.int .i64 (e.t:Int),.int .i64 e.num,.int .i64 (e.key:Int),.int .i64 (e.val:Int),.bool e.ob] 80));have d:=ah (show Nj base _ P b mv rv _/\aD _ 80 X 5 _/\Below w1.heap.size w1 _ from ⟨f.o.1.low s.o,f.o.2.1.keep (Keeps.of s.o (au _) (fun _=>False)) (fun c=>c),f.o.2.2.1.trans (s.o.mono f.o.2.2.1.size)⟩);have H:=ah f.o.2.2.2;have n:=ah F;clear f F s;go_upto_region 5 with (fail)
   clear f0 f1 f2 f3 f4 z3 B;generalize wr.alloc (.cells #[.int .i64 (e.t:Int),.int .i64 e.num,.int .i64 (e.key:Int),.int .i64 (e.val:Int),.bool e.ob] 80)=w2 at *;generalize wr.heap.size=Y at *;have e0:w2.cell? ⟨Y,0,none⟩=some (.int .i64 (e.t:Int)):=M.o.c 0;have e1:w2.cell? ⟨Y,1,none⟩=some (.int .i64 e.num):=M.o.c 1;have e2:w2.cell? ⟨Y,2,none⟩=some (.int .i64 (e.key:Int)):=M.o.c 2;have e4:w2.cell? ⟨Y,4,none⟩=some (.bool e.ob):=M.o.c 4;have x0:w2.cell? ⟨X,0,none⟩=some (.int .i64 (x.t:Int)):=d.o.2.1.c 0;have x1:w2.cell? ⟨X,1,none⟩=some (.int .i64 x.num):=d.o.2.1.c 1;have x2:w2.cell? ⟨X,2,none⟩=some (.int .i64 (x.key:Int)):=d.o.2.1.c 2;have x3:w2.cell? ⟨X,3,none⟩=some (.int .i64 (x.val:Int)):=d.o.2.1.c 3;have x4:w2.cell? ⟨X,4,none⟩=some (.bool x.ob):=d.o.2.1.c 4;have B:w2.cell? ⟨P,2,none⟩=some (.slice (some ⟨g,0,none⟩) b.edges.length cap):=d.o.1.r.c 2;obtain ⟨_,E,_,_,_,_,d3,_,z3⟩:=d.o.1.ed n.o;obtain rfl:g=_:=by simpa using E
   clear E;have k:=ah (FC e x);have L:=ah (fun (hs:e.sm x=false)=>(show ∀ (q:Nat) (e:Ed),q<j+1->b.edges[q]?=some e->e.sm x=false from fun q e' Q he'=>by
    by_cases c:q<j
    ·exact H.o q e' c he'
    ·obtain rfl:q=j:=by omega
     rw [n.o] at he';cases he';exact hs))
   cases c1:((e.t:Int)==(x.t:Int)) with
   |false=>
    have A:=ah (L.o (by rw [k.o,c1];rfl));go_wp2;go_roundw
    ·exact ⟨j+1,by omega,by simp,d.o.1,d.o.2.1,d.o.2.2,A.o⟩
    ·simp [bF];omega
   |true=>
   cases c2:(e.ob==x.ob) with
   |false=>
    have A:=ah (L.o (by rw [k.o,c1,c2];rfl));go_wp2;go_roundw
    ·exact ⟨j+1,by omega,by simp,d.o.1,d.o.2.1,d.o.2.2,A.o⟩
    ·simp [bF];omega
   |true=>
   cases c3:((e.key:Int)==(x.key:Int)) with
   |false=>
    have A:=ah (L.o (by rw [k.o,c1,c2,c3];rfl));go_wp2;go_roundw
    ·exact ⟨j+1,by omega,by simp,d.o.1,d.o.2.1,d.o.2.2,A.o⟩
    ·simp [bF];omega
   |true=>
   cases c4:(e.num==x.num) with
   |false=>
    have A:=ah (L.o (by rw [k.o,c1,c2,c3,c4];rfl));go_wp2;go_roundw
    ·exact ⟨j+1,by omega,by simp,d.o.1,d.o.2.1,d.o.2.2,A.o⟩
    ·simp [bF];omega
   |true=>
    have HS:=ah (show e.sm x=true by rw [k.o,c1,c2,c3,c4];rfl);have HV:=ah (d.o.1.Mj n.o x.val);have U:=ah (BO n.o HS.o H.o);go_wp2_with fail
    go_region
    all_goals
     go_wp2
     ((try simp only [Exit.inBlock,Exit.then]);refine bodyPost_ret (results_none rfl _ _ _) rfl ?_)
     refine ⟨rfl,.slice (some ⟨g,0,none⟩) b.edges.length cap,?_,?_⟩
     ·rw [U.o]
      exact HV.out.1.low ((aT _ _).drew)
     ·refine K.o.trans ((Mh.low d.o.2.2).trans (Mh.trans ⟨HV.out.2.mono (fun q c=>.inr (.inr (.inr (by rw [c];simp [Value.ownBlock])))),fun q c=>.inl c⟩ (Mh.low ((aT _ _).drew))))
  ·have S:¬ ((j:Int)<(b.edges.length:Int)):=by omega
   have T:=ah (yX (l:=b.edges) (x:=x) (fun e F=>by
    obtain ⟨q,Q⟩:=List.mem_iff_getElem?.1 F;exact f.o.2.2.2 q e (by have:=(aJ.1 Q).1;omega) Q))
   have B:wr.cell? ⟨P,2,none⟩=some (.slice a b.edges.length cap):=f.o.1.r.c 2;have z2:=f.o.1.r.ME 2;have x0:wr.cell? ⟨X,0,none⟩=some (.int .i64 (x.t:Int)):=f.o.2.1.c 0;have x1:wr.cell? ⟨X,1,none⟩=some (.int .i64 x.num):=f.o.2.1.c 1;have x2:wr.cell? ⟨X,2,none⟩=some (.int .i64 (x.key:Int)):=f.o.2.1.c 2;have x3:wr.cell? ⟨X,3,none⟩=some (.int .i64 (x.val:Int)):=f.o.2.1.c 3;have x4:wr.cell? ⟨X,4,none⟩=some (.bool x.ob):=f.o.2.1.c 4;have v:=ah f.o;have G:base<=wr.heap.size:=by
    have h1:=v.o.2.2.1.size;have h2:=Z.o.size;omega
   have W:=ah G;have J:=ah v.o.1.e;have a2:(wr.alloc (.cells #[.int .i64 (x.t:Int),.int .i64 x.num,.int .i64 (x.key:Int),.int .i64 (x.val:Int),.bool x.ob] 80)).cell? ⟨P,2,none⟩=some (.slice a b.edges.length cap):=((aU wr _).cell (p:=⟨P,2,none⟩) v.o.1.r.lt).trans B;clear f G;go_wp2_with fail
   go_region_law (
    refine qW (wr:=wr) (.tmp 61) (.tmp 63) 32 80 5 40 _ rfl Tryz.underlying32 xS rfl (by decide) base (.slice a b.edges.length cap) b.edges.length (uS b.edges) (uF x) J.o rfl rfl rfl (fun u hu=>by simp [uF] at hu;rcases hu with rfl|rfl|rfl|rfl|rfl<;>rfl) (by omega) (by decide) W.o ?_;intro v' w9 z y D;obtain ⟨a9,k9,N⟩:=aF z;subst N;have m:=v.o.1.r.keep y (fun c=>ak J.o v.o.1.r (by decide) c);have a5:w9.cell? ⟨P,2,none⟩=some (.slice a b.edges.length cap):=m.c 2;have a1:=m.ME 2;have C:=ah (And.intro z (And.intro y (And.intro D m)));clear z y D m)
   all_goals
    go_wp2
    ((try simp only [Exit.inBlock,Exit.then]);refine bodyPost_ret (results_none rfl _ _ _) rfl ?_)
    refine ⟨rfl,.slice a9 (b.edges.length+1) k9,?_,?_⟩
    ·rw [T.o]
     exact (v.o.1.app C.o.1 C.o.2.1 C.o.2.2.1).1
    ·exact K.o.trans ((Mh.low v.o.2.2.1).trans (v.o.1.app C.o.1 C.o.2.1 C.o.2.2.1).2)
end
section
variable {P base cap len n:Nat} {b:Bk} {ev mv rv v':Value} {w w9:World}
theorem BL (l:List Int) (x:Int):iL (l++[x])=iL l++[.int .i64 x]:=by simp [iL]
theorem sN (l:List Bool) (x:Bool):iQ (l++[x])=iQ l++[.bool x]:=by simp [iQ]
theorem nY (a b:Int):(a==b)=decide (a=b):=by
 by_cases c:a=b
 ·subst c;simp
 ·rw [jH.2 c,decide_eq_false c]
theorem Nj.LV {x:Int} (h:Nj base w P b mv rv ev) (f:w9.ownsRow base 3 1 v' (b.modes.length+1) (iL b.modes++[.int .i64 x])) (a:Keeps w w9 (fun c=>mv.ownBlock=some c)) (l:∀ g,v'.ownBlock=some g->mv.ownBlock=some g∨w.heap.size<=g):
 Nj base (w9.setCell ⟨P,0,none⟩ v') P ⟨b.modes++[x],b.roots,b.edges⟩ v' rv ev/\Mh P mv rv ev v' rv ev w (w9.setCell ⟨P,0,none⟩ v'):=by
 have i:=h.r.keep a (fun c=>ak h.m h.r (by decide) c);have q:=aj h.e a (fun g hg c=>aV h.e h.m (by decide) c hg);have p:=aj h.o a (fun g hg c=>aV h.o h.m (by decide) c hg);have k:Keeps w9 (w9.setCell ⟨P,0,none⟩ v') (fun c=>c=P):=Keeps.setCell (S:=fun c=>c=P) (Keeps.refl w9 _) rfl _;refine ⟨⟨(i.set (j:=0) (by omega) v').congr (fun j hj=>?_),?_,aj p k (fun g hg c=>ak p i (by decide) (c ▸ hg)),aj q k (fun g hg c=>ak q i (by decide) (c ▸ hg)),h.bP⟩,(a.mono (fun c e=>.inr (.inl e))).trans (k.mono (fun c e=>.inl e)),fun g hg=>?_⟩
 ·have:j=0∨j=1∨j=2:=by omega
  rcases this with rfl|rfl|rfl<;>rfl
 ·show World.ownsRow _ base _ 1 _ (b.modes++[x]).length _
  rw [bI,BL];exact aj f k (fun g hg c=>ak f i (by decide) (c ▸ hg))
 ·rcases hg with c|c|c|c
  ·exact .inl (.inl c)
  ·rcases l g c with d|d
   ·exact .inl (.inr (.inl d))
   ·exact .inr d
  ·exact .inl (.inr (.inr (.inl c)))
  ·exact .inl (.inr (.inr (.inr c)))
theorem Nj.Ma {x:Bool} (h:Nj base w P b mv rv ev) (f:w9.ownsRow base 4 1 v' (b.roots.length+1) (iQ b.roots++[.bool x])) (a:Keeps w w9 (fun c=>rv.ownBlock=some c)) (l:∀ g,v'.ownBlock=some g->rv.ownBlock=some g∨w.heap.size<=g):
 Nj base (w9.setCell ⟨P,1,none⟩ v') P ⟨b.modes,b.roots++[x],b.edges⟩ mv v' ev/\Mh P mv rv ev mv v' ev w (w9.setCell ⟨P,1,none⟩ v'):=by
 have i:=h.r.keep a (fun c=>ak h.o h.r (by decide) c);have q:=aj h.e a (fun g hg c=>aV h.e h.o (by decide) c hg);have p:=aj h.m a (fun g hg c=>aV h.m h.o (by decide) c hg);have k:Keeps w9 (w9.setCell ⟨P,1,none⟩ v') (fun c=>c=P):=Keeps.setCell (S:=fun c=>c=P) (Keeps.refl w9 _) rfl _;refine ⟨⟨(i.set (j:=1) (by omega) v').congr (fun j hj=>?_),aj p k (fun g hg c=>ak p i (by decide) (c ▸ hg)),?_,aj q k (fun g hg c=>ak q i (by decide) (c ▸ hg)),h.bP⟩,(a.mono (fun c e=>.inr (.inr (.inl e)))).trans (k.mono (fun c e=>.inl e)),fun g hg=>?_⟩
 ·have:j=0∨j=1∨j=2:=by omega
  rcases this with rfl|rfl|rfl<;>rfl
 ·show World.ownsRow _ base _ 1 _ (b.roots++[x]).length _
  rw [bI,sN];exact aj f k (fun g hg c=>ak f i (by decide) (c ▸ hg))
 ·rcases hg with c|c|c|c
  ·exact .inl (.inl c)
  ·exact .inl (.inr (.inl c))
  ·rcases l g c with d|d
   ·exact .inl (.inr (.inr (.inl d)))
   ·exact .inr d
  ·exact .inl (.inr (.inr (.inr c)))
theorem Nj.LM {g:Nat} (h:Nj base w P b mv (.slice (some ⟨g,0,none⟩) b.roots.length cap) ev) (f:n<b.roots.length) (x:Bool):
 Nj base (w.setCell ⟨g,n,none⟩ (.bool x)) P ⟨b.modes,b.roots.set n x,b.edges⟩ mv (.slice (some ⟨g,0,none⟩) b.roots.length cap) ev/\Keeps w (w.setCell ⟨g,n,none⟩ (.bool x)) (fun q=>q=g):=by
 have k:Keeps w (w.setCell ⟨g,n,none⟩ (.bool x)) (fun q=>q=g):=Keeps.setCell (S:=fun q=>q=g) (Keeps.refl w _) rfl _;have a:(Value.slice (some ⟨g,0,none⟩) b.roots.length cap).ownBlock=some g:=by simp [Value.ownBlock]
 have d:=aL h.o (i:=n) (by omega) (.bool x);rw [show (iQ b.roots).set n (.bool x)=iQ (b.roots.set n x) by unfold iQ;rw [List.map_set]] at d;refine ⟨⟨h.r.keep k (fun c=>ak h.o h.r (by decide) (c ▸ a)),aj h.m k (fun q hq c=>aV h.m h.o (by decide) a (c ▸ hq)),?_,aj h.e k (fun q hq c=>aV h.e h.o (by decide) a (c ▸ hq)),h.bP⟩,k⟩;show World.ownsRow _ base _ 1 _ (b.roots.set n x).length _;rw [bX];exact d
def uH (base P:Nat) (b':Bk) (mv rv ev:Value) (w:World) (e:Ending) (w':World):Prop:=
 e=.returned (.tuple #[])/\∃ mv' rv' ev',Nj base w' P b' mv' rv' ev'/\Mh P mv rv ev mv' rv' ev' w w'
theorem DW (A B C:Int) (h:Nj base w P b mv rv ev) (hb:base<=w.heap.size) (hl:b.modes.length<=10000) (a2:b.roots.length<=10000):
 Calls Tryz.prog 9 #[.pointer (some ⟨P,0,none⟩),.agg #[.int .i64 1,.int .i64 A,.int .i64 B,.int .i64 C]] w (uH base P ⟨b.modes++[A],b.roots++[true],b.edges⟩ mv rv ev w):=by
 have Z:=ah (fO w 1 A B C);have T:=ah (aU w (.cells #[.int .i64 1,.int .i64 A,.int .i64 B,.int .i64 C] 39));have y:=ah (h.low T.o);have S:=ah (Mh.low (P:=P) (mv:=mv) (rv:=rv) (ev:=ev) T.o);obtain ⟨a,cap,rfl⟩:=aF h.m;obtain ⟨j,f,rfl⟩:=aF h.o;clear h;go_enter Tryz.func9,Tryz.ntmps9;go_upto_region 1 with (fail)
 generalize w.alloc (.cells #[.int .i64 1,.int .i64 A,.int .i64 B,.int .i64 C] 39)=w1 at *;generalize hX:w.heap.size=X at *;have x0:w1.cell? ⟨X,0,none⟩=some (.int .i64 1):=Z.o.c 0;have x1:w1.cell? ⟨X,1,none⟩=some (.int .i64 A):=Z.o.c 1;have r0:w1.cell? ⟨P,0,none⟩=some (.slice a b.modes.length cap):=y.o.r.c 0;have a1:(w1.alloc (.cells #[.int .i64 A] 3)).cell? ⟨P,0,none⟩=some (.slice a b.modes.length cap):=((aU w1 _).cell (p:=⟨P,0,none⟩) y.o.r.lt).trans r0;have G:base<=w1.heap.size:=by have:=T.o.size;omega
 have J:=ah G;clear G;go_wp2_with fail
 go_cut [] (fun wc=>Hq (∃ H D,Nj base wc P ⟨b.modes++[A],b.roots,b.edges⟩ (.slice H (b.modes.length+1) D) (.slice j b.roots.length f) ev/\Mh P (.slice a b.modes.length cap) (.slice j b.roots.length f) ev (.slice H (b.modes.length+1) D) (.slice j b.roots.length f) ev w1 wc))
 case first=>
  go_region_law (
   refine qW (wr:=w1) (.tmp 12) (.tmp 15) 30 3 1 8 _ rfl Tryz.underlying30 ji rfl (by decide) base (.slice a b.modes.length cap) b.modes.length (iL b.modes) [.int .i64 A] y.o.m rfl rfl rfl (fun u hu=>by simp at hu;subst hu;rfl) (by omega) (by decide) J.o ?_;intro v' w9 q l E;obtain ⟨H,D,Q⟩:=aF q;subst Q;have s:=y.o.r.keep l (fun c=>ak y.o.m y.o.r (by decide) c);have a3:w9.cell? ⟨P,0,none⟩=some (.slice a b.modes.length cap):=s.c 0;have a0:=s.ME 0;have H9:=ah (y.o.LV q l E);clear q l E s)
  all_goals
   go_wp2_with fail;go_meet;exact ⟨H,D,H9.o⟩
 case rest=>
 rename World=>z;obtain ⟨H,D,L,M⟩:=hcut.out;have K:=ah L;have T5:=ah M;have r1:z.cell? ⟨P,1,none⟩=some (.slice j b.roots.length f):=L.r.c 1;have z1:=L.r.ME 1;have F:base<=z.heap.size:=aI J.o M.k.size;clear L M;go_wp2_with (first
  |(at_builtin
    refine fE rfl (.tmp 23) (.tmp 24) 31 4 1 1 (.bool false) rfl Tryz.underlying31 je rfl (by decide) base (.slice j b.roots.length f) b.roots.length (iQ b.roots) [.bool true] K.o.o rfl rfl rfl (fun u hu=>by simp at hu;subst hu;rfl) (by omega) (by decide) F ?_;intro v' U R Y W V;obtain ⟨a6,k6,N⟩:=aF R;subst N;have i:=Y base z (aT _ _) (au _);have v:Keeps z U (fun c=>(Value.slice j b.roots.length f).ownBlock=some c):=⟨i.os,i.tape,i.output,i.size,fun b hb hn=>W b hb hn⟩
    have t:=K.o.r.keep v (fun c=>ak K.o.o K.o.r (by decide) c);have c6:U.cell? ⟨P,1,none⟩=some (.slice j b.roots.length f):=t.c 1;have z6:=t.ME 1;have H6:=ah (K.o.Ma (x:=true) R v (fun g e=>by
     by_cases c:(Value.slice j b.roots.length f).ownBlock=some g
     ·exact .inl c
     ·right
      rcases Nat.lt_or_ge g z.heap.size with d|d
      ·exact absurd e (V g d c)
      ·exact d))
    clear R Y W V i v t)
  |go_in)
 go_end0;exact ⟨rfl,_,_,_,H6.o.1,S.o.trans (T5.o.trans H6.o.2)⟩
theorem DX (n c:Nat) (B:Int) (h:Nj base w P b mv rv ev) (hb:base<=w.heap.size) (k:b.edges.length<=10000):
 Calls Tryz.prog 9 #[.pointer (some ⟨P,0,none⟩),.agg #[.int .i64 2,.int .i64 (n:Int),.int .i64 B,.int .i64 (c:Int)]] w (uH base P ⟨b.modes,b.roots,iC b.edges ⟨n,B,0,c,false⟩⟩ mv rv ev w):=by
 have a:=ah (fO w 2 (n:Int) B (c:Int));have f:=ah (aU w (.cells #[.int .i64 2,.int .i64 (n:Int),.int .i64 B,.int .i64 (c:Int)] 39));have p:=ah (h.low f.o);have d:=ah (Mh.low (P:=P) (mv:=mv) (rv:=rv) (ev:=ev) f.o);clear h;go_enter Tryz.func9,Tryz.ntmps9;go_upto_region 1 with (fail)
 generalize w.alloc (.cells #[.int .i64 2,.int .i64 (n:Int),.int .i64 B,.int .i64 (c:Int)] 39)=w1 at *;generalize t:w.heap.size=X at *;have x0:w1.cell? ⟨X,0,none⟩=some (.int .i64 2):=a.o.c 0;have x1:w1.cell? ⟨X,1,none⟩=some (.int .i64 (n:Int)):=a.o.c 1;have r:w1.cell? ⟨X,2,none⟩=some (.int .i64 B):=a.o.c 2;have q:w1.cell? ⟨X,3,none⟩=some (.int .i64 (c:Int)):=a.o.c 3;have m:=ah (wR ⟨n,B,0,c,false⟩ p.o (by have:=f.o.size;omega) k);go_wp2_with fail;refine m.o.mono ?_;rintro e s ⟨rfl,l,i,g⟩;have j:=ah (And.intro i g);clear i g;go_wp2;go_end0;exact ⟨rfl,_,_,_,j.o.1,d.o.trans j.o.2⟩
theorem D9 (n m c:Nat) (h:Nj base w P b mv rv ev) (hb:base<=w.heap.size) (k:b.edges.length<=10000):
 Calls Tryz.prog 9 #[.pointer (some ⟨P,0,none⟩),.agg #[.int .i64 3,.int .i64 (n:Int),.int .i64 (m:Int),.int .i64 (c:Int)]] w (uH base P ⟨b.modes,b.roots,iC b.edges ⟨n,0,m,c,true⟩⟩ mv rv ev w):=by
 have a:=ah (fO w 3 (n:Int) (m:Int) (c:Int));have f:=ah (aU w (.cells #[.int .i64 3,.int .i64 (n:Int),.int .i64 (m:Int),.int .i64 (c:Int)] 39));have q:=ah (h.low f.o);have d:=ah (Mh.low (P:=P) (mv:=mv) (rv:=rv) (ev:=ev) f.o);clear h;go_enter Tryz.func9,Tryz.ntmps9;go_upto_region 1 with (fail)
 generalize w.alloc (.cells #[.int .i64 3,.int .i64 (n:Int),.int .i64 (m:Int),.int .i64 (c:Int)] 39)=w1 at *;generalize u:w.heap.size=X at *;have x0:w1.cell? ⟨X,0,none⟩=some (.int .i64 3):=a.o.c 0;have x1:w1.cell? ⟨X,1,none⟩=some (.int .i64 (n:Int)):=a.o.c 1;have s:w1.cell? ⟨X,2,none⟩=some (.int .i64 (m:Int)):=a.o.c 2;have r:w1.cell? ⟨X,3,none⟩=some (.int .i64 (c:Int)):=a.o.c 3;have p:=ah (wR ⟨n,0,m,c,true⟩ q.o (by have:=f.o.size;omega) k);go_wp2_with fail;refine p.o.mono ?_;rintro e t ⟨rfl,l,i,g⟩;have j:=ah (And.intro i g);clear i g;go_wp2;go_end0;exact ⟨rfl,_,_,_,j.o.1,d.o.trans j.o.2⟩
theorem EN (n:Nat) (B C:Int) (h:Nj base w P b mv rv ev) (hb:base<=w.heap.size) (x:n<b.roots.length) (K:b.roots.length<=10000):
 Calls Tryz.prog 9 #[.pointer (some ⟨P,0,none⟩),.agg #[.int .i64 4,.int .i64 (n:Int),.int .i64 B,.int .i64 C]] w (uH base P ⟨b.modes,dJ b.roots n B,b.edges⟩ mv rv ev w):=by
 have i:=ah (fO w 4 (n:Int) B C);have s:=ah (aU w (.cells #[.int .i64 4,.int .i64 (n:Int),.int .i64 B,.int .i64 C] 39));have j:=ah (h.low s.o);have k:=ah (Mh.low (P:=P) (mv:=mv) (rv:=rv) (ev:=ev) s.o);obtain ⟨Q,d,rfl⟩:=aF h.o;obtain ⟨g,rfl,z⟩:=jd h.o (by omega);have l:b.roots.length<=d:=by
  obtain ⟨y,E|⟨N,m,F,t,D,L,v,hr⟩⟩:=id h.o
  ·have:=E.2;omega
  ·simp only [Value.slice.injEq] at t;omega
 obtain ⟨bb,e⟩:∃ bb:Bool,decide (B=1)=bb:=⟨_,rfl⟩
 have f:dJ b.roots n B=b.roots.set n bb:=by unfold dJ;rw [e]
 rw [f];have A:(B==1)=bb:=by rw [<-e];exact nY B 1
 have u:(n:Int)<(b.roots.length:Int):=by omega
 clear h f e;go_enter Tryz.func9,Tryz.ntmps9;go_upto_region 1 with (fail)
 generalize w.alloc (.cells #[.int .i64 4,.int .i64 (n:Int),.int .i64 B,.int .i64 C] 39)=w1 at *;generalize M:w.heap.size=X at *;have x0:w1.cell? ⟨X,0,none⟩=some (.int .i64 4):=i.o.c 0;have x1:w1.cell? ⟨X,1,none⟩=some (.int .i64 (n:Int)):=i.o.c 1;have H:w1.cell? ⟨X,2,none⟩=some (.int .i64 B):=i.o.c 2;have J:w1.cell? ⟨P,1,none⟩=some (.slice (some ⟨g,0,none⟩) b.roots.length d):=j.o.r.c 1;have a:=ay j.o.o (g:=g) (by simp [Value.ownBlock]);have gn:=a.c n;have G:=a.ME n;have p:=ah (j.o.LM x bb);clear a;go_wp2_with fail
 go_region
 all_goals
  go_wp2;go_end0;refine ⟨rfl,_,_,_,p.o.1.low ((aT _ _).drew),k.o.trans (Mh.trans ⟨p.o.2.mono (fun q c=>.inr (.inr (.inl (by rw [c];simp [Value.ownBlock])))),fun q c=>.inl c⟩ (Mh.low ((aT _ _).drew)))⟩
theorem Cn (kd A B C:Int) (g:kd≠1) (f:kd≠2) (e:kd≠3) (d:kd≠4) (h:Nj base w P b mv rv ev):
 Calls Tryz.prog 9 #[.pointer (some ⟨P,0,none⟩),.agg #[.int .i64 kd,.int .i64 A,.int .i64 B,.int .i64 C]] w (uH base P b mv rv ev w):=by
 have j:=ah (fO w kd A B C);have i:=ah (aU w (.cells #[.int .i64 kd,.int .i64 A,.int .i64 B,.int .i64 C] 39));have k:=ah (h.low i.o);have a:=ah (Mh.low (P:=P) (mv:=mv) (rv:=rv) (ev:=ev) i.o);have q:(kd==1)=false:=jH.2 g;have p:(kd==2)=false:=jH.2 f;have m:(kd==3)=false:=jH.2 e;have l:(kd==4)=false:=jH.2 d;clear h g f e d;go_enter Tryz.func9,Tryz.ntmps9;go_upto_region 1 with (fail)
 generalize w.alloc (.cells #[.int .i64 kd,.int .i64 A,.int .i64 B,.int .i64 C] 39)=w1 at *;generalize r:w.heap.size=X at *;have x0:w1.cell? ⟨X,0,none⟩=some (.int .i64 kd):=j.o.c 0;go_wp2;go_end0;exact ⟨rfl,_,_,_,k.o,a.o⟩
theorem Cu (kd A B C:Int) (h:Nj base w P b mv rv ev) (hb:base<=w.heap.size) (hr:Fu kd A B C len) (hm:b.modes.length=len) (i:b.roots.length=len) (k:len<=10000) (g:b.edges.length<=10000):
 Calls Tryz.prog 9 #[.pointer (some ⟨P,0,none⟩),.agg #[.int .i64 kd,.int .i64 A,.int .i64 B,.int .i64 C]] w (uH base P (b.act kd A B C) mv rv ev w):=by
 unfold Bk.act;by_cases f:kd=1
 ·subst f
  rw [if_pos rfl];exact DW A B C h hb (by omega) (by omega)
 rw [if_neg f];by_cases e:kd=2
 ·subst e
  rw [if_pos rfl];obtain ⟨n,c,rfl,rfl,_,_⟩:=hr.1 rfl;exact DX n c B h hb g
 rw [if_neg e];by_cases d:kd=3
 ·subst d
  rw [if_pos rfl];obtain ⟨n,m,c,rfl,rfl,rfl,_⟩:=hr.2.1 rfl;exact D9 n m c h hb g
 rw [if_neg d];by_cases a:kd=4
 ·subst a
  rw [if_pos rfl];obtain ⟨n,rfl,j⟩:=hr.2.2 rfl;exact EN n B C h hb (by omega) (by omega)
 rw [if_neg a];exact Cn kd A B C f e d a h
end
end Go.Proofs.YtbpcdfbmnklcjaaGreatDoor
