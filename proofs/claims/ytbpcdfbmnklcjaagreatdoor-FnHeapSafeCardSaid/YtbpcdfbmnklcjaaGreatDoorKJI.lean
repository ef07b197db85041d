import Derived.Test.YtbpcdfbmnklcjaaGreatDoorKJR0
namespace Go.Proofs.YtbpcdfbmnklcjaaGreatDoor
open Go Go.RowKit
set_option maxHeartbeats 6400000
set_option maxRecDepth 100000
set_option linter.unusedVariables false
variable {P base cap i:Nat} {b:Bk} {ev mv rv v':Value} {w w9:World}
theorem xS:(Tryz.prog.info? 80).map (fun i=>(i.zero,i.size,i.bytes))=some (some (.agg #[.int .i64 0,.int .i64 0,.int .i64 0,.int .i64 0,.bool false]),5,40):=by kernel_rfl
theorem Bg (w:World) (t num key val:Int) (ob:Bool):aD (w.alloc (.cells #[.int .i64 t,.int .i64 num,.int .i64 key,.int .i64 val,.bool ob] 80)) 80 w.heap.size 5 (fun j=>[Value.int .i64 t,.int .i64 num,.int .i64 key,.int .i64 val,.bool ob].getD j (.bool false)):=by
 have h:=aD.mk' w 80 #[.int .i64 t,.int .i64 num,.int .i64 key,.int .i64 val,.bool ob];refine aD.congr (show aD _ _ _ 5 _ from h) (fun j hj=>?_);have:j=0∨j=1∨j=2∨j=3∨j=4:=by omega
 rcases this with rfl|rfl|rfl|rfl|rfl<;>rfl
theorem FC (e x:Ed):e.sm x=(((e.t:Int)==(x.t:Int))&&(e.ob==x.ob)&&((e.key:Int)==(x.key:Int))&&(e.num==x.num)):=by
 have h:∀ a b:Nat,((a:Int)==(b:Int))=(a==b):=fun a b=>by
  by_cases c:a=b
  ·subst c;simp
  ·have:¬ ((a:Int)=(b:Int)):=by omega
   rw [jm.2 this,jm.2 c]
 unfold Ed.sm;rw [h,h]
def Gs (base P:Nat) (b:Bk) (mv rv ev:Value) (x:Ed) (w:World) (e:Ending) (w':World):Prop:=
 e=.returned (.tuple #[])/\∃ ev',Nj base w' P ⟨b.modes,b.roots,iC b.edges x⟩ mv rv ev'/\Mh P mv rv ev mv rv ev' w w'
theorem Nj.ed {a:Option Addr} {e:Ed} (h:Nj base w P b mv rv (.slice a b.edges.length cap)) (hi:b.edges[i]?=some e):
 ∃ g,a=some ⟨g,0,none⟩/\b.edges.length<=cap/\w.cell? ⟨g,i*5,none⟩=some (.int .i64 (e.t:Int))/\w.cell? ⟨g,i*5+1,none⟩=some (.int .i64 e.num)/\w.cell? ⟨g,i*5+2,none⟩=some (.int .i64 (e.key:Int))/\w.cell? ⟨g,i*5+3,none⟩=some (.int .i64 (e.val:Int))/\w.cell? ⟨g,i*5+4,none⟩=some (.bool e.ob)/\w.frozen? ⟨g,i*5+3,none⟩=false:=by
 have p:=(aJ.1 hi).1;obtain ⟨s,q|⟨g,m,r,k,hb,u,n,hr⟩⟩:=id h.e
 ·have:=q.2;omega
 ·simp only [Value.slice.injEq] at k
  obtain ⟨rfl,-,rfl⟩:=k;have f:=ay h.e (g:=g) (by simp [Value.ownBlock]);have d:∀ j x,(uF e)[j]?=some x->w.cell? ⟨g,i*5+j,none⟩=some x:=by
   intro j x l;have o:j<5:=(aJ.1 l).1;have:=f.c (i*5+j);rw [this,bq,ED hi j x l];rfl
  exact ⟨g,rfl,by omega,d 0 _ rfl,d 1 _ rfl,d 2 _ rfl,d 3 _ rfl,d 4 _ rfl,f.ME _⟩
theorem Nj.Mj {g:Nat} {e:Ed} (h:Nj base w P b mv rv (.slice (some ⟨g,0,none⟩) b.edges.length cap)) (hi:b.edges[i]?=some e) (v:Nat):
 Nj base (w.setCell ⟨g,i*5+3,none⟩ (.int .i64 (v:Int))) P ⟨b.modes,b.roots,b.edges.set i { e with val:=v }⟩ mv rv (.slice (some ⟨g,0,none⟩) b.edges.length cap)/\Keeps w (w.setCell ⟨g,i*5+3,none⟩ (.int .i64 (v:Int))) (fun q=>q=g):=by
 have f:=(aJ.1 hi).1;have k:Keeps w (w.setCell ⟨g,i*5+3,none⟩ (.int .i64 (v:Int))) (fun q=>q=g):=Keeps.setCell (S:=fun q=>q=g) (Keeps.refl w _) rfl _;have a:(Value.slice (some ⟨g,0,none⟩) b.edges.length cap).ownBlock=some g:=by simp [Value.ownBlock]
 have d:=aL h.e (i:=i*5+3) (by omega) (.int .i64 (v:Int));rw [Cr hi] at d;refine ⟨⟨h.r.keep k (fun c=>ak h.e h.r (by decide) (c ▸ a)),aj h.m k (fun q hq c=>aV h.m h.e (by decide) a (c ▸ hq)),aj h.o k (fun q hq c=>aV h.o h.e (by decide) a (c ▸ hq)),?_,h.bP⟩,k⟩;show World.ownsRow _ base _ 5 _ (b.edges.set i _).length _;rw [bN];exact d
theorem Nj.app {x:Ed} (h:Nj base w P b mv rv ev) (f:w9.ownsRow base 80 5 v' (b.edges.length+1) (uS b.edges++uF x)) (a:Keeps w w9 (fun c=>ev.ownBlock=some c)) (n:∀ g,v'.ownBlock=some g->ev.ownBlock=some g∨w.heap.size<=g):
 Nj base (w9.setCell ⟨P,2,none⟩ v') P ⟨b.modes,b.roots,b.edges++[x]⟩ mv rv v'/\Mh P mv rv ev mv rv v' w (w9.setCell ⟨P,2,none⟩ v'):=by
 have k:=h.r.keep a (fun c=>ak h.e h.r (by decide) c);have q:=aj h.m a (fun g hg c=>aV h.m h.e (by decide) c hg);have p:=aj h.o a (fun g hg c=>aV h.o h.e (by decide) c hg);have l:Keeps w9 (w9.setCell ⟨P,2,none⟩ v') (fun c=>c=P):=Keeps.setCell (S:=fun c=>c=P) (Keeps.refl w9 _) rfl _;refine ⟨⟨(k.set (j:=2) (by omega) v').congr (fun j hj=>?_),aj q l (fun g hg c=>ak q k (by decide) (c ▸ hg)),aj p l (fun g hg c=>ak p k (by decide) (c ▸ hg)),?_,h.bP⟩,(a.mono (fun c e=>.inr (.inr (.inr e)))).trans (l.mono (fun c e=>.inl e)),fun g hg=>?_⟩
 ·have:j=0∨j=1∨j=2:=by omega
  rcases this with rfl|rfl|rfl<;>rfl
 ·show World.ownsRow _ base _ 5 _ (b.edges++[x]).length _
  rw [aT,yY];exact aj f l (fun g hg c=>ak f k (by decide) (c ▸ hg))
 ·rcases hg with c|c|c|c
  ·exact .inl (.inl c)
  ·exact .inl (.inr (.inl c))
  ·exact .inl (.inr (.inr (.inl c)))
  ·rcases n g c with d|d
   ·exact .inl (.inr (.inr (.inr d)))
   ·exact .inr d
theorem wR (x:Ed) (h:Nj base w P b mv rv ev) (hb:base<=w.heap.size) (hl:b.edges.length<=10000):
 Calls Tryz.prog 27 #[.pointer (some ⟨P,0,none⟩),.agg #[.int .i64 (x.t:Int),.int .i64 x.num,.int .i64 (x.key:Int),.int .i64 (x.val:Int),.bool x.ob]] w (Gs base P b mv rv ev x w):=by
 have HX:=ah (Bg w x.t x.num x.key x.val x.ob);have Z:=ah (aU w (.cells #[.int .i64 (x.t:Int),.int .i64 x.num,.int .i64 (x.key:Int),.int .i64 (x.val:Int),.bool x.ob] 80));have V:=ah (h.low Z.o);have K:=ah (Mh.low (P:=P) (mv:=mv) (rv:=rv) (ev:=ev) Z.o);have a4:P≠w.heap.size:=fun c=>by have:=h.r.lt;omega
 obtain ⟨a,cap,rfl⟩:=aF h.e;clear h;go_enter Tryz.func27,Tryz.ntmps27;go_upto_region 1 with (fail)
 generalize w.alloc (.cells #[.int .i64 (x.t:Int),.int .i64 x.num,.int .i64 (x.key:Int),.int .i64 (x.val:Int),.bool x.ob] 80)=w1 at *;generalize hX:w.heap.size=X at *;have B:w1.cell? ⟨P,2,none⟩=some (.slice a b.edges.length cap):=V.o.r.c 2;have H1:=ah (show Nj base w1 P b mv rv (.slice a b.edges.length cap)/\aD w1 80 X 5 _/\Below w1.heap.size w1 w1/\∀ (q:Nat) (e:Ed),q<0->b.edges[q]?=some e->e.sm x=false from ⟨V.o,HX.o,aG _ _,fun q e c=>by omega⟩);clear HX V;go_wp2;clear B;go_loopw [11] (fun jv ws=>∃ j:Nat,j<=b.edges.length/\jv=.int .i64 (j:Int)/\Hq (Nj base ws P b mv rv (.slice a b.edges.length cap)/\aD ws 80 X 5 (fun j=>[Value.int .i64 (x.t:Int),.int .i64 x.num,.int .i64 (x.key:Int),.int .i64 (x.val:Int),.bool x.ob].getD j (.bool false))/\Below w1.heap.size w1 ws/\∀ (q:Nat) (e:Ed),q<j->b.edges[q]?=some e->e.sm x=false)) (fun jv _=>b.edges.length-bF jv)
 case atStart=>exact ⟨0,by omega,rfl,H1.o⟩
 case round=>
  clear H1;obtain ⟨j,a3,rfl,f⟩:=hrel;by_cases R:j<b.edges.length
  ·obtain ⟨e,F⟩:∃ e,b.edges[j]?=some e:=⟨_,aN R⟩
   have S:(j:Int)<(b.edges.length:Int):=by omega
   obtain ⟨g,rfl,a0,f0,f1,f2,f3,f4,z3⟩:=f.o.1.ed F;have B:wr.cell? ⟨P,2,none⟩=some (.slice (some ⟨g,0,none⟩) b.edges.length cap):=f.o.1.r.c 2;have M:=ah (Bg wr e.t e.num e.key e.val e.ob);have s:=ah (aU wr (.cells #[.int .i64 (e.t:Int),.int .i64 e.num,.int .i64 (e.key:Int),.int .i64 (e.val:Int),.bool e.ob] 80));have d:=ah (show Nj base _ P b mv rv _/\aD _ 80 X 5 _/\Below w1.heap.size w1 _ from ⟨f.o.1.low s.o,f.o.2.1.keep (Keeps.of s.o (au _) (fun _=>False)) (fun c=>c),f.o.2.2.1.trans (s.o.mono f.o.2.2.1.size)⟩);have H:=ah f.o.2.2.2;have n:=ah F;clear f F s;go_upto_region 5 with (fail)
   clear f0 f1 f2 f3 f4 z3 B;generalize wr.alloc (.cells #[.int .i64 (e.t:Int),.int .i64 e.num,.int .i64 (e.key:Int),.int .i64 (e.val:Int),.bool e.ob] 80)=w2 at *;generalize wr.heap.size=Y at *;have e0:w2.cell? ⟨Y,0,none⟩=some (.int .i64 (e.t:Int)):=M.o.c 0;have e1:w2.cell? ⟨Y,1,none⟩=some (.int .i64 e.num):=M.o.c 1;have e2:w2.cell? ⟨Y,2,none⟩=some (.int .i64 (e.key:Int)):=M.o.c 2;have e4:w2.cell? ⟨Y,4,none⟩=some (.bool e.ob):=M.o.c 4;have x0:w2.cell? ⟨X,0,none⟩=some (.int .i64 (x.t:Int)):=d.o.2.1.c 0;have x1:w2.cell? ⟨X,1,none⟩=some (.int .i64 x.num):=d.o.2.1.c 1;have x2:w2.cell? ⟨X,2,none⟩=some (.int .i64 (x.key:Int)):=d.o.2.1.c 2;have x3:w2.cell? ⟨X,3,none⟩=some (.int .i64 (x.val:Int)):=d.o.2.1.c 3;have x4:w2.cell? ⟨X,4,none⟩=some (.bool x.ob):=d.o.2.1.c 4;have B:w2.cell? ⟨P,2,none⟩=some (.slice (some ⟨g,0,none⟩) b.edges.length cap):=d.o.1.r.c 2;obtain ⟨_,E,_,_,_,_,d3,_,z3⟩:=d.o.1.ed n.o;obtain rfl:g=_:=by simpa using E
   clear E;have k:=ah (FC e x);have L:=ah (fun (hs:e.sm x=false)=>(show ∀ (q:Nat) (e:Ed),q<j+1->b.edges[q]?=some e->e.sm x=false from fun q e' Q he'=>by
    by_cases c:q<j
    ·exact H.o q e' c he'
    ·obtain rfl:q=j:=by omega
     rw [n.o] at he';cases he';exact hs))
   cases c1:((e.t:Int)==(x.t:Int)) with
   |false=>
    have A:=ah (L.o (by rw [k.o,c1];rfl));go_wp2;go_roundw
    ·exact ⟨j+1,by omega,by simp,d.o.1,d.o.2.1,d.o.2.2,A.o⟩
    ·simp [bF];omega
   |true=>
   cases c2:(e.ob==x.ob) with
   |false=>
    have A:=ah (L.o (by rw [k.o,c1,c2];rfl));go_wp2;go_roundw
    ·exact ⟨j+1,by omega,by simp,d.o.1,d.o.2.1,d.o.2.2,A.o⟩
    ·simp [bF];omega
   |true=>
   cases c3:((e.key:Int)==(x.key:Int)) with
   |false=>
    have A:=ah (L.o (by rw [k.o,c1,c2,c3];rfl));go_wp2;go_roundw
    ·exact ⟨j+1,by omega,by simp,d.o.1,d.o.2.1,d.o.2.2,A.o⟩
    ·simp [bF];omega
   |true=>
   cases c4:(e.num==x.num) with
   |false=>
    have A:=ah (L.o (by rw [k.o,c1,c2,c3,c4];rfl));go_wp2;go_roundw
    ·exact ⟨j+1,by omega,by simp,d.o.1,d.o.2.1,d.o.2.2,A.o⟩
    ·simp [bF];omega
   |true=>
    have HS:=ah (show e.sm x=true by rw [k.o,c1,c2,c3,c4];rfl);have HV:=ah (d.o.1.Mj n.o x.val);have U:=ah (BO n.o HS.o H.o);go_wp2_with fail
    go_region
    all_goals
     go_wp2
     ((try simp only [Exit.inBlock,Exit.then]);refine bodyPost_ret (results_none rfl _ _ _) rfl ?_)
     refine ⟨rfl,.slice (some ⟨g,0,none⟩) b.edges.length cap,?_,?_⟩
     ·rw [U.o]
      exact HV.out.1.low ((aG _ _).drew)
     ·refine K.o.trans ((Mh.low d.o.2.2).trans (Mh.trans ⟨HV.out.2.mono (fun q c=>.inr (.inr (.inr (by rw [c];simp [Value.ownBlock])))),fun q c=>.inl c⟩ (Mh.low ((aG _ _).drew))))
  ·have S:¬ ((j:Int)<(b.edges.length:Int)):=by omega
   have T:=ah (yX (l:=b.edges) (x:=x) (fun e F=>by
    obtain ⟨q,Q⟩:=List.mem_iff_getElem?.1 F;exact f.o.2.2.2 q e (by have:=(aJ.1 Q).1;omega) Q))
   have B:wr.cell? ⟨P,2,none⟩=some (.slice a b.edges.length cap):=f.o.1.r.c 2;have z2:=f.o.1.r.ME 2;have x0:wr.cell? ⟨X,0,none⟩=some (.int .i64 (x.t:Int)):=f.o.2.1.c 0;have x1:wr.cell? ⟨X,1,none⟩=some (.int .i64 x.num):=f.o.2.1.c 1;have x2:wr.cell? ⟨X,2,none⟩=some (.int .i64 (x.key:Int)):=f.o.2.1.c 2;have x3:wr.cell? ⟨X,3,none⟩=some (.int .i64 (x.val:Int)):=f.o.2.1.c 3;have x4:wr.cell? ⟨X,4,none⟩=some (.bool x.ob):=f.o.2.1.c 4;have v:=ah f.o;have G:base<=wr.heap.size:=by
    have h1:=v.o.2.2.1.size;have h2:=Z.o.size;omega
   have W:=ah G;have J:=ah v.o.1.e;have a2:(wr.alloc (.cells #[.int .i64 (x.t:Int),.int .i64 x.num,.int .i64 (x.key:Int),.int .i64 (x.val:Int),.bool x.ob] 80)).cell? ⟨P,2,none⟩=some (.slice a b.edges.length cap):=((aU wr _).cell (p:=⟨P,2,none⟩) v.o.1.r.lt).trans B;clear f G;go_wp2_with fail
   go_region_law (
    refine qW (wr:=wr) (.tmp 61) (.tmp 63) 32 80 5 40 _ rfl Tryz.underlying32 xS rfl (by decide) base (.slice a b.edges.length cap) b.edges.length (uS b.edges) (uF x) J.o rfl rfl rfl (fun u hu=>by simp [uF] at hu;rcases hu with rfl|rfl|rfl|rfl|rfl<;>rfl) (by omega) (by decide) W.o ?_;intro v' w9 z y D;obtain ⟨a9,k9,N⟩:=aF z;subst N;have m:=v.o.1.r.keep y (fun c=>ak J.o v.o.1.r (by decide) c);have a5:w9.cell? ⟨P,2,none⟩=some (.slice a b.edges.length cap):=m.c 2;have a1:=m.ME 2;have C:=ah (And.intro z (And.intro y (And.intro D m)));clear z y D m)
   all_goals
    go_wp2
    ((try simp only [Exit.inBlock,Exit.then]);refine bodyPost_ret (results_none rfl _ _ _) rfl ?_)
    refine ⟨rfl,.slice a9 (b.edges.length+1) k9,?_,?_⟩
    ·rw [T.o]
     exact (v.o.1.app C.o.1 C.o.2.1 C.o.2.2.1).1
    ·exact K.o.trans ((Mh.low v.o.2.2.1).trans (v.o.1.app C.o.1 C.o.2.1 C.o.2.2.1).2)
end Go.Proofs.YtbpcdfbmnklcjaaGreatDoor
