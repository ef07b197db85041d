import Derived.Test.YtbpcdfbmnklcjaaGreatDoorKHSP
namespace Go.Proofs.YtbpcdfbmnklcjaaGreatDoor
open Go Go.RowKit
set_option maxHeartbeats 6400000
set_option maxRecDepth 100000
set_option linter.unusedVariables false
section
variable {S:Nat->Prop} {base j n:Nat} {e:En} {es:List En} {h:Hp} {o:Ob} {w:World} {z:Int}
def Kd (es:List En):Prop:=∀ (i j:Nat) (x y:En),es[i]?=some x->es[j]?=some y->x.1.isSome=true->x.1=y.1->i=j
theorem CK (hd:Kd es) (a:es[j]?=some e) (hk:e.1=some (.inl z)):iF es (some (.inl z))=(j:Int):=by
 refine kD a hk (fun x hx hc=>?_);obtain ⟨i,hi,rfl⟩:=List.mem_take_iff_getElem.mp hx;have:=hd i j _ e (aN (by omega)) a (by rw [hc];rfl) (by rw [hc,hk]);omega
theorem DL {v:HV} (a:¬ v=some (.inl z)):vk v≠2∨(vk v=2/\vi v≠z):=by
 cases v with
 |none=>exact Or.inl (by simp [vk])
 |some x=>cases x with
  |inr m=>exact Or.inl (by simp [vk])
  |inl y=>exact Or.inr ⟨rfl,fun c=>a (by simp only [vi] at c;rw [c])⟩
theorem Bc {L:SM} (a:MV base S h L w) (ho:h.ob n=some o) (b9:o.es.length<=5000) (b3:Kd o.es) (z:Int) (k:HV) (hk:k=some (.inl z)):
 Calls Tryz.prog 60 #[.pointer (some ⟨L.ob n,0,none⟩),.agg #[.int .i64 (vk k),.int .i64 (vi k),.int .u64 0,.string ByteArray.empty,.int .i64 (vr k)]] w fun e w'=>e=.returned (.int .i64 (iF o.es k))/\Below w.heap.size w w':=by
 obtain ⟨A,V,a9,b8,a3⟩:=a.ents ho;obtain ⟨r0,a6⟩:=a.ob n o ho;have c5:w.cell? ⟨L.ob n,5,none⟩=some (.slice A o.es.length V):=by rw [<-a9];exact a6.c 5
 have b0:=aU w (.cells (Nu k) 95);have hO:=a6.lt;have G:=(b0.cell (p:=⟨L.ob n,5,none⟩) hO).trans c5;have v:=ah (rA w k);have b6:=ah (show vk k=2 by rw [hk];rfl);have b4:=ah (show vi k=z by rw [hk];rfl);have b7:=ah (show vr k=0 by rw [hk];rfl);have HK:=ah hk;have HA:=ah a;have HO:=ah ho;have a1:=ah a9;have f:=ah b0;have W:=ah b3;have a2:=ah a3;clear a ho a9 a3 a6 b0 c5 b3 hk;go_enter Tryz.func60,Tryz.ntmps60;go_upto_region 1 with (fail)
 generalize w.alloc (.cells (Nu k) 95)=w3 at *;generalize E:w.heap.size=X at *;have x0:w3.cell? ⟨X,0,none⟩=some (.int .i64 2):=by have:=v.o.c 0;rw [this];show some (Value.int .i64 (vk k))=_;rw [b6.o]
 have x1:w3.cell? ⟨X,1,none⟩=some (.int .i64 z):=by have:=v.o.c 1;rw [this];show some (Value.int .i64 (vi k))=_;rw [b4.o]
 have x2:w3.cell? ⟨X,2,none⟩=some (.int .u64 0):=v.o.c 2;have Z:w3.cell? ⟨X,3,none⟩=some (.string ByteArray.empty):=v.o.c 3;have U:w3.cell? ⟨X,4,none⟩=some (.int .i64 0):=by have:=v.o.c 4;rw [this];show some (Value.int .i64 (vr k))=_;rw [b7.o];rfl
 by_cases a5:1<=z
 ·by_cases b2:z<=(o.es.length:Int)
  ·obtain ⟨i,rfl⟩:∃ i:Nat,z=(i:Int)+1:=⟨(z-1).toNat,by omega⟩
   obtain ⟨e,s⟩:∃ e,o.es[i]?=some e:=⟨_,aN (by omega)⟩
   obtain ⟨g2,rfl,K,b⟩:=a2.o i e s;have R:=ah s;have e0:=(f.o.cell (p:=⟨g2,i*10+0,none⟩) K).trans (b 0 _ rfl);have e1:=(f.o.cell (p:=⟨g2,i*10+1,none⟩) K).trans (b 1 _ rfl);have e2:=(f.o.cell (p:=⟨g2,i*10+2,none⟩) K).trans (b 2 _ rfl);have e3:=(f.o.cell (p:=⟨g2,i*10+3,none⟩) K).trans (b 3 _ rfl);have e4:=(f.o.cell (p:=⟨g2,i*10+4,none⟩) K).trans (b 4 _ rfl);simp only [Nat.add_zero] at e0;have a0:decide ((i:Int)+1 ≥ 1)=true:=by simpa using a5
   have a4:decide ((i:Int)+1<=(o.es.length:Int))=true:=by simpa using b2
   clear a2 b s;by_cases d:e.1=some (.inl ((i:Int)+1))
   ·have m:=ah d
    have f0:vk e.1=2:=by rw [d];rfl
    have f1:vi e.1=(i:Int)+1:=by rw [d];rfl
    have f4:vr e.1=0:=by rw [d];rfl
    rw [f0] at e0;rw [f1] at e1;rw [f4] at e4;clear d f0 f1 f4;go_wp2_with fail;go_quiet (fail);have g:=ah (aC (aT w3.heap.size w3) nq);have t:=ah (v.o.keep (Keeps.of g.o (au _) (fun _=>False)) (fun x=>x));have D:=ah (show Below w.heap.size w (w3.drewN nq) from E ▸ (f.o.trans (g.o.mono (E ▸ f.o.size))));generalize w3.drewN nq=w4 at *;have y1:w4.cell? ⟨X,1,none⟩=some (.int .i64 ((i:Int)+1)):=by have:=t.o.c 1;rw [this];show some (Value.int .i64 (vi k))=_;rw [b4.o]
    clear v f g x0 x1 x2 Z U e0 e1 e2 e3 e4 G;go_wp2;go_ret;have F:iF o.es k=(i:Int):=by rw [HK.o];exact CK W.o R.o m.o
    exact ⟨by rw [F];rfl,D.o⟩
   ·rcases DL d with f0|⟨f0,f1⟩
    ·have f2:(vk e.1==2)=false:=by simpa using f0
     clear d f0;go_wp2_with fail;go_quiet (fail);clear e0 e1 e2 e3 e4 f2 a0 a4;have g:=ah (aC (aT w3.heap.size w3) nq);have t:=ah (v.o.keep (Keeps.of g.o (au _) (fun _=>False)) (fun x=>x));have b1:=(g.o.cell (p:=⟨L.ob n,5,none⟩) (aW hO (E ▸ f.o.size))).trans G;generalize w3.drewN nq=w4 at *;have D:=ah (show Below w.heap.size w w4 from E ▸ (f.o.trans (g.o.mono (E ▸ f.o.size))));have C:=ah ((HA.o.low (E ▸ f.o)).low g.o);clear HA v f g G x0 x1 x2 Z U W R;go_wp2;go_loopw [47,5,6] (fun jv _ _ ws=>∃ j:Nat,j<=o.es.length/\jv=.int .i64 j/\Hq ((∀ e∈o.es.take j,e.1≠k)/\Below w4.heap.size w4 ws)) (fun jv _ _ _=>o.es.length-bF jv)
     case atStart=>exact ⟨0,by omega,rfl,by simp,aT _ _⟩
     case round=>
      obtain ⟨j,a7,rfl,r⟩:=hrel;by_cases H:j<o.es.length
      ·obtain ⟨e,s⟩:∃ e,o.es[j]?=some e:=⟨_,aN H⟩
       have T:=ah (C.o.low r.o.2);obtain ⟨A3,u,q,M,l⟩:=T.o.ents HO.o;have:A3=some ⟨g2,0,none⟩/\u=V:=by
        have N:=q.symm.trans a1.o;simp only [Value.slice.injEq] at N;exact ⟨N.1,N.2.2⟩
       obtain ⟨rfl,rfl⟩:=this;obtain ⟨g3,a8,b5,b⟩:=l j e s;cases a8;have d0:=b 0 _ rfl;have d1:=b 1 _ rfl;have d2:=b 2 _ rfl;have d3:=b 3 _ rfl;have d4:=b 4 _ rfl;have G:=b 5 _ rfl;have d6:=b 6 _ rfl;have d7:=b 7 _ rfl;have d8:=b 8 _ rfl;have d9:=b 9 _ rfl;simp only [Nat.add_zero] at d0;have P:=ah (t.o.keep (Keeps.of r.o.2 (au _) (fun _=>False)) (fun x=>x));have Q:=ah (P.o.keep (Keeps.of (aU wr (.cells (Nw e.1 e.2) 122)) (au _) (fun _=>False)) (fun x=>x));have B:=ah (r.o.2.trans ((aU wr (.cells (Nw e.1 e.2) 122)).mono r.o.2.size));have v:=ah (lV wr e);have y:=ah s;clear q l b s;go_upto_region 6 with (fail)
       generalize wr.alloc (.cells (Nw e.1 e.2) 122)=w5 at *;generalize wr.heap.size=Y at *;obtain ⟨x0,x1,x2,Z,U⟩:NQ w5 Y e.1:=v.o.c5;obtain ⟨y0,y1,y2,y3,y4⟩:NQ w5 X k:=Q.o.c5;clear d0 d1 d2 d3 d4 G d6 d7 d8 d9;by_cases d:e.1=k
       ·rw [d] at x0 x1 U
        have m:=ah d;clear d;go_wp2;go_ret;have F:iF o.es k=(j:Int):=kD y.o m.o r.o.1;exact ⟨by rw [F];rfl,D.o.trans (B.o.mono D.o.size)⟩
       ·have m:=ah d
        clear d;go_wp2
        any_goals go_ret;exact absurd (n_ (by simp_all [vk]) (by simp_all [vi]) (by simp_all [vr])) m.o
        all_goals
         refine ⟨⟨j+1,by omega,by simp,?_,B.o⟩,by simp [bF];omega⟩;exact iV y.o r.o.1 m.o
      ·clear t C
       have J:j=o.es.length:=by omega
       subst J;go_wp2;go_ret;have F:iF o.es k= -1:=lq (fun e s=>r.o.1 e (by rw [bN];exact s));exact ⟨by rw [F];rfl,D.o.trans (r.o.2.mono D.o.size)⟩
    ·rw [f0] at e0
     have f2:(vi e.1==(i:Int)+1)=false:=by simpa using f1
     clear d f0 f1;go_wp2_with fail;go_quiet (fail);clear e0 e1 e2 e3 e4 f2 a0 a4;have g:=ah (aC (aT w3.heap.size w3) nq);have t:=ah (v.o.keep (Keeps.of g.o (au _) (fun _=>False)) (fun x=>x));have b1:=(g.o.cell (p:=⟨L.ob n,5,none⟩) (aW hO (E ▸ f.o.size))).trans G;generalize w3.drewN nq=w4 at *;have D:=ah (show Below w.heap.size w w4 from E ▸ (f.o.trans (g.o.mono (E ▸ f.o.size))));have C:=ah ((HA.o.low (E ▸ f.o)).low g.o);clear HA v f g G x0 x1 x2 Z U W R;go_wp2;go_loopw [47,5,6] (fun jv _ _ ws=>∃ j:Nat,j<=o.es.length/\jv=.int .i64 j/\Hq ((∀ e∈o.es.take j,e.1≠k)/\Below w4.heap.size w4 ws)) (fun jv _ _ _=>o.es.length-bF jv)
     case atStart=>exact ⟨0,by omega,rfl,by simp,aT _ _⟩
     case round=>
      obtain ⟨j,a7,rfl,r⟩:=hrel;by_cases H:j<o.es.length
      ·obtain ⟨e,s⟩:∃ e,o.es[j]?=some e:=⟨_,aN H⟩
       have T:=ah (C.o.low r.o.2);obtain ⟨A3,u,q,M,l⟩:=T.o.ents HO.o;have:A3=some ⟨g2,0,none⟩/\u=V:=by
        have N:=q.symm.trans a1.o;simp only [Value.slice.injEq] at N;exact ⟨N.1,N.2.2⟩
       obtain ⟨rfl,rfl⟩:=this;obtain ⟨g3,a8,b5,b⟩:=l j e s;cases a8;have d0:=b 0 _ rfl;have d1:=b 1 _ rfl;have d2:=b 2 _ rfl;have d3:=b 3 _ rfl;have d4:=b 4 _ rfl;have G:=b 5 _ rfl;have d6:=b 6 _ rfl;have d7:=b 7 _ rfl;have d8:=b 8 _ rfl;have d9:=b 9 _ rfl;simp only [Nat.add_zero] at d0;have P:=ah (t.o.keep (Keeps.of r.o.2 (au _) (fun _=>False)) (fun x=>x));have Q:=ah (P.o.keep (Keeps.of (aU wr (.cells (Nw e.1 e.2) 122)) (au _) (fun _=>False)) (fun x=>x));have B:=ah (r.o.2.trans ((aU wr (.cells (Nw e.1 e.2) 122)).mono r.o.2.size));have v:=ah (lV wr e);have y:=ah s;clear q l b s;go_upto_region 6 with (fail)
       generalize wr.alloc (.cells (Nw e.1 e.2) 122)=w5 at *;generalize wr.heap.size=Y at *;obtain ⟨x0,x1,x2,Z,U⟩:NQ w5 Y e.1:=v.o.c5;obtain ⟨y0,y1,y2,y3,y4⟩:NQ w5 X k:=Q.o.c5;clear d0 d1 d2 d3 d4 G d6 d7 d8 d9;by_cases d:e.1=k
       ·rw [d] at x0 x1 U
        have m:=ah d;clear d;go_wp2;go_ret;have F:iF o.es k=(j:Int):=kD y.o m.o r.o.1;exact ⟨by rw [F];rfl,D.o.trans (B.o.mono D.o.size)⟩
       ·have m:=ah d
        clear d;go_wp2
        any_goals go_ret;exact absurd (n_ (by simp_all [vk]) (by simp_all [vi]) (by simp_all [vr])) m.o
        all_goals
         refine ⟨⟨j+1,by omega,by simp,?_,B.o⟩,by simp [bF];omega⟩;exact iV y.o r.o.1 m.o
      ·clear t C
       have J:j=o.es.length:=by omega
       subst J;go_wp2;go_ret;have F:iF o.es k= -1:=lq (fun e s=>r.o.1 e (by rw [bN];exact s));exact ⟨by rw [F];rfl,D.o.trans (r.o.2.mono D.o.size)⟩
  ·have a0:decide (z ≥ 1)=true:=by simpa using a5
   have a4:decide (z<=(o.es.length:Int))=false:=by simpa using b2
   have R:=ah True.intro;clear a2;go_wp2_with fail;go_quiet (fail);have g:=ah (aC (aT w3.heap.size w3) nq);have t:=ah (v.o.keep (Keeps.of g.o (au _) (fun _=>False)) (fun x=>x));have b1:=(g.o.cell (p:=⟨L.ob n,5,none⟩) (aW hO (E ▸ f.o.size))).trans G;generalize w3.drewN nq=w4 at *;have D:=ah (show Below w.heap.size w w4 from E ▸ (f.o.trans (g.o.mono (E ▸ f.o.size))));have C:=ah ((HA.o.low (E ▸ f.o)).low g.o);clear HA v f g G x0 x1 x2 Z U W R;go_wp2;go_loopw [47,5,6] (fun jv _ _ ws=>∃ j:Nat,j<=o.es.length/\jv=.int .i64 j/\Hq ((∀ e∈o.es.take j,e.1≠k)/\Below w4.heap.size w4 ws)) (fun jv _ _ _=>o.es.length-bF jv)
   case atStart=>exact ⟨0,by omega,rfl,by simp,aT _ _⟩
   case round=>
    obtain ⟨j,a7,rfl,r⟩:=hrel;by_cases H:j<o.es.length
    ·obtain ⟨e,s⟩:∃ e,o.es[j]?=some e:=⟨_,aN H⟩
     have T:=ah (C.o.low r.o.2);obtain ⟨A3,u,q,M,l⟩:=T.o.ents HO.o;have:A3=A/\u=V:=by
      have N:=q.symm.trans a1.o;simp only [Value.slice.injEq] at N;exact ⟨N.1,N.2.2⟩
     obtain ⟨rfl,rfl⟩:=this;obtain ⟨g2,rfl,K,b⟩:=l j e s;have d0:=b 0 _ rfl;have d1:=b 1 _ rfl;have d2:=b 2 _ rfl;have d3:=b 3 _ rfl;have d4:=b 4 _ rfl;have G:=b 5 _ rfl;have d6:=b 6 _ rfl;have d7:=b 7 _ rfl;have d8:=b 8 _ rfl;have d9:=b 9 _ rfl;simp only [Nat.add_zero] at d0;have P:=ah (t.o.keep (Keeps.of r.o.2 (au _) (fun _=>False)) (fun x=>x));have Q:=ah (P.o.keep (Keeps.of (aU wr (.cells (Nw e.1 e.2) 122)) (au _) (fun _=>False)) (fun x=>x));have B:=ah (r.o.2.trans ((aU wr (.cells (Nw e.1 e.2) 122)).mono r.o.2.size));have v:=ah (lV wr e);have y:=ah s;clear q l b s;go_upto_region 6 with (fail)
     generalize wr.alloc (.cells (Nw e.1 e.2) 122)=w5 at *;generalize wr.heap.size=Y at *;obtain ⟨x0,x1,x2,Z,U⟩:NQ w5 Y e.1:=v.o.c5;obtain ⟨y0,y1,y2,y3,y4⟩:NQ w5 X k:=Q.o.c5;clear d0 d1 d2 d3 d4 G d6 d7 d8 d9;by_cases d:e.1=k
     ·rw [d] at x0 x1 U
      have m:=ah d;clear d;go_wp2;go_ret;have F:iF o.es k=(j:Int):=kD y.o m.o r.o.1;exact ⟨by rw [F];rfl,D.o.trans (B.o.mono D.o.size)⟩
     ·have m:=ah d
      clear d;go_wp2
      any_goals go_ret;exact absurd (n_ (by simp_all [vk]) (by simp_all [vi]) (by simp_all [vr])) m.o
      all_goals
       refine ⟨⟨j+1,by omega,by simp,?_,B.o⟩,by simp [bF];omega⟩;exact iV y.o r.o.1 m.o
    ·clear t C
     have J:j=o.es.length:=by omega
     subst J;go_wp2;go_ret;have F:iF o.es k= -1:=lq (fun e s=>r.o.1 e (by rw [bN];exact s));exact ⟨by rw [F];rfl,D.o.trans (r.o.2.mono D.o.size)⟩
 ·have a0:decide (z ≥ 1)=false:=by simpa using a5
  have R:=ah True.intro;clear a2;go_wp2_with fail;go_quiet (fail);have g:=ah (aC (aT w3.heap.size w3) nq);have t:=ah (v.o.keep (Keeps.of g.o (au _) (fun _=>False)) (fun x=>x));have b1:=(g.o.cell (p:=⟨L.ob n,5,none⟩) (aW hO (E ▸ f.o.size))).trans G;generalize w3.drewN nq=w4 at *;have D:=ah (show Below w.heap.size w w4 from E ▸ (f.o.trans (g.o.mono (E ▸ f.o.size))));have C:=ah ((HA.o.low (E ▸ f.o)).low g.o);clear HA v f g G x0 x1 x2 Z U W R;go_wp2;go_loopw [47,5,6] (fun jv _ _ ws=>∃ j:Nat,j<=o.es.length/\jv=.int .i64 j/\Hq ((∀ e∈o.es.take j,e.1≠k)/\Below w4.heap.size w4 ws)) (fun jv _ _ _=>o.es.length-bF jv)
  case atStart=>exact ⟨0,by omega,rfl,by simp,aT _ _⟩
  case round=>
   obtain ⟨j,a7,rfl,r⟩:=hrel;by_cases H:j<o.es.length
   ·obtain ⟨e,s⟩:∃ e,o.es[j]?=some e:=⟨_,aN H⟩
    have T:=ah (C.o.low r.o.2);obtain ⟨A3,u,q,M,l⟩:=T.o.ents HO.o;have:A3=A/\u=V:=by
     have N:=q.symm.trans a1.o;simp only [Value.slice.injEq] at N;exact ⟨N.1,N.2.2⟩
    obtain ⟨rfl,rfl⟩:=this;obtain ⟨g2,rfl,K,b⟩:=l j e s;have d0:=b 0 _ rfl;have d1:=b 1 _ rfl;have d2:=b 2 _ rfl;have d3:=b 3 _ rfl;have d4:=b 4 _ rfl;have G:=b 5 _ rfl;have d6:=b 6 _ rfl;have d7:=b 7 _ rfl;have d8:=b 8 _ rfl;have d9:=b 9 _ rfl;simp only [Nat.add_zero] at d0;have P:=ah (t.o.keep (Keeps.of r.o.2 (au _) (fun _=>False)) (fun x=>x));have Q:=ah (P.o.keep (Keeps.of (aU wr (.cells (Nw e.1 e.2) 122)) (au _) (fun _=>False)) (fun x=>x));have B:=ah (r.o.2.trans ((aU wr (.cells (Nw e.1 e.2) 122)).mono r.o.2.size));have v:=ah (lV wr e);have y:=ah s;clear q l b s;go_upto_region 6 with (fail)
    generalize wr.alloc (.cells (Nw e.1 e.2) 122)=w5 at *;generalize wr.heap.size=Y at *;obtain ⟨x0,x1,x2,Z,U⟩:NQ w5 Y e.1:=v.o.c5;obtain ⟨y0,y1,y2,y3,y4⟩:NQ w5 X k:=Q.o.c5;clear d0 d1 d2 d3 d4 G d6 d7 d8 d9;by_cases d:e.1=k
    ·rw [d] at x0 x1 U
     have m:=ah d;clear d;go_wp2;go_ret;have F:iF o.es k=(j:Int):=kD y.o m.o r.o.1;exact ⟨by rw [F];rfl,D.o.trans (B.o.mono D.o.size)⟩
    ·have m:=ah d
     clear d;go_wp2
     any_goals go_ret;exact absurd (n_ (by simp_all [vk]) (by simp_all [vi]) (by simp_all [vr])) m.o
     all_goals
      refine ⟨⟨j+1,by omega,by simp,?_,B.o⟩,by simp [bF];omega⟩;exact iV y.o r.o.1 m.o
   ·clear t C
    have J:j=o.es.length:=by omega
    subst J;go_wp2;go_ret;have F:iF o.es k= -1:=lq (fun e s=>r.o.1 e (by rw [bN];exact s));exact ⟨by rw [F];rfl,D.o.trans (r.o.2.mono D.o.size)⟩
end
section
variable {S:Nat->Prop} {base n:Nat} {es':List En} {h:Hp} {o:Ob} {v':Value} {w w1:World}
def SM.MW (L:SM) (n:Nat) (v:Value):SM:={ L with es:=fun m=>if m=n then v else L.es m }
theorem MV.LB {L:SM} (a:MV base S h L w) (ho:h.ob n=some o) (kk:Keeps w w1 (fun b=>(L.es n).ownBlock=some b))
 (hown:w1.ownsRow base 122 10 v' es'.length (kr es')) (hv:∀ g,v'.ownBlock=some g->(L.es n).ownBlock=some g∨w.heap.size<=g):
 MV base S (h.ents n es') (L.MW n v') (w1.setCell ⟨L.ob n,5,none⟩ v')/\Keeps w (w1.setCell ⟨L.ob n,5,none⟩ v') S:=by
 have k1:Keeps w1 (w1.setCell ⟨L.ob n,5,none⟩ v') (fun b=>b=L.ob n):=Keeps.setCell (S:=fun b=>b=L.ob n) (Keeps.refl w1 _) rfl v';have B:Keeps w (w1.setCell ⟨L.ob n,5,none⟩ v') (fun b=>(L.es n).ownBlock=some b∨b=L.ob n):=(kk.mono (fun b e=>Or.inl e)).trans (k1.mono (fun b e=>Or.inr e));have M:(h.ents n es').objs.length=h.objs.length:=h.Hz n _;have U:=Hp.Ia ho;have Q:=a.en n o ho;obtain ⟨r0,u⟩:=a.ob n o ho;have K:=u.keep kk (fun e=>ak Q u (by decide) e);have hH:∀ {T s n':Nat} {v:Value} {Y:List Value},w.ownsRow base T s v n' Y->T≠122->T≠101->∀ g,v.ownBlock=some g->¬ ((L.es n).ownBlock=some g∨g=L.ob n):=by
  intro T s n' v Y R W C g P D;rcases D with D|D
  ·exact aV R Q W D P
  ·exact ak R u C (D ▸ P)
 have hR:∀ {g N:Nat} {f:Nat->Value},aD w 101 g N f->g≠L.ob n->¬ ((L.es n).ownBlock=some g∨g=L.ob n):=by
  intro g N f R W C;rcases C with C|C
  ·exact ak Q R (by decide) C
  ·exact W C
 have z:∀ m k,(h.ents n es').ob m=some k->∃ o2,h.ob m=some o2/\k.col=o2.col/\k.mode=o2.mode/\k.fin=o2.fin/\(m=n->k.es=es')/\(m≠n->k.es=o2.es):=by
  intro m k e;unfold Hp.ents at e;rw [Hp.Ho] at e;split at e
  ·rename_i c
   subst c;rw [ho] at e;simp at e;subst e;exact ⟨o,ho,rfl,rfl,rfl,fun _=>rfl,fun c=>absurd rfl c⟩
  ·rename_i c
   exact ⟨k,e,rfl,rfl,rfl,fun d=>absurd d.symm c,fun _=>rfl⟩
 refine ⟨⟨a.hp.keep B ?_,?_,fun m k e=>?_,fun m hm e=>?_,fun m k e=>?_,fun j hj=>aj (a.li j hj) B (hH (a.li j hj) (by decide) (by decide)),aj a.ro B (hH a.ro (by decide) (by decide)),?_,?_,a.lj,a.bH,?_,aI a.bs B.size,a.sH,?_,a.sO,?_,a.sl,a.sr,fun b hb=>a.up b (aI B.size hb)⟩,B.mono (fun b e=>?_)⟩
 ·rintro (e|e)
  ·exact ak Q a.hp (by decide) e
  ·exact a.hp.apart u (by decide) e
 ·rw [M];exact aj a.oo B (hH a.oo (by decide) (by decide))
 ·obtain ⟨o2,t,C,P,D,_⟩:=z m k e
  by_cases c:m=n
  ·subst c
   rw [ho] at t;cases t;refine ⟨r0,?_⟩;rw [C,P,D];refine (K.set (j:=5) (by omega) v').congr (fun i _=>?_);simp only [SM.MW,if_pos];by_cases X:i=5
   ·subst X;rfl
   ·rw [if_neg X];simp only [kY,if_neg X]
  ·obtain ⟨r,hr⟩:=a.ob m o2 t
   refine ⟨r,?_⟩;rw [C,P,D];have:=hr.keep B (hR hr (fun x=>c (a.ij m n (Hp.Ia t) U x)))
   simpa only [SM.MW,if_neg c] using this
 ·rw [M] at hm
  unfold Hp.ents at e;rw [Hp.Ho] at e;have t:h.ob m=none/\m≠n:=by
   split at e
   ·rename_i c
    subst c;rw [ho] at e;simp at e
   ·rename_i c;exact ⟨e,fun d=>c d.symm⟩
  obtain ⟨r,c,V,hr⟩:=a.dd m hm t.1;exact ⟨r,c,V,hr.keep B (hR hr (fun x=>t.2 (a.ij m n hm U x)))⟩
 ·obtain ⟨o2,t,_,_,_,h6,h7⟩:=z m k e
  by_cases c:m=n
  ·rw [h6 c]
   simp only [SM.MW,if_pos c];exact aj hown k1 (fun g hg x=>ak hown K (by decide) (x ▸ hg))
  ·rw [h7 c]
   simp only [SM.MW,if_neg c];refine aj (a.en m o2 t) B (fun g hg y=>?_);rcases y with y|y
   ·exact c (a.ei m n o2 o g t ho hg y)
   ·exact ak (a.en m o2 t) u (by decide) (y ▸ hg)
 ·rw [M];exact a.ij
 ·intro m J o1 o2 g e1 t l F
  obtain ⟨p1,q1,_⟩:=z m o1 e1;obtain ⟨p2,Z,_⟩:=z J o2 t;have A:∀ m p,h.ob m=some p->m≠n->(L.es m).ownBlock=some g->v'.ownBlock=some g->False:=by
   intro m p q c e3 e4;rcases hv g e4 with G|G
   ·exact c (a.ei m n p o g q ho e3 G)
   ·have:=(ay (a.en m p q) e3).lt
    omega
  simp only [SM.MW] at l F;by_cases E:m=n
  ·by_cases H:J=n
   ·rw [E,H]
   ·rw [if_pos E] at l
    rw [if_neg H] at F;exact (A J p2 Z H F l).elim
  ·by_cases H:J=n
   ·rw [if_neg E] at l
    rw [if_pos H] at F;exact (A m p1 q1 E l F).elim
   ·rw [if_neg E] at l
    rw [if_neg H] at F;exact a.ei m J p1 p2 g q1 Z l F
 ·rw [M];exact a.bo
 ·rw [M];exact a.so
 ·intro m k g e l
  obtain ⟨p1,q1,_⟩:=z m k e;simp only [SM.MW] at l;by_cases E:m=n
  ·rw [if_pos E] at l
   rcases hv g l with G|G
   ·exact a.se n o g ho G
   ·exact a.up g G
  ·rw [if_neg E] at l
   exact a.se m p1 g q1 l
 ·rcases e with e|e
  ·exact a.se n o b ho e
  ·exact e ▸ a.so n U
end
section
variable {S:Nat->Prop} {base j n:Nat} {e:En} {es:List En} {h:Hp} {o:Ob} {w:World}
theorem fZ (es:List En):aZ es<=es.length:=by unfold aZ;exact List.length_filter_le _ _
theorem vD (a:es[j]?=some e):aZ (es.take (j+1))=aZ (es.take j)+(if e.2.isNone then 1 else 0):=by
 unfold aZ;rw [List.take_add_one,a,List.filter_append,bI];cases h9:e.2.isNone<;>simp [List.filter,h9]
theorem yD (a:es[j]?=some e):((es.take (j+1)).filter fun e=>e.2.isSome)=((es.take j).filter fun e=>e.2.isSome)++(if e.2.isSome then [e] else []):=by
 rw [List.take_add_one,a,List.filter_append];cases h9:e.2.isSome<;>simp [List.filter,h9]
theorem yu (es:List En):aZ es+(es.filter fun e=>e.2.isSome).length=es.length:=by
 unfold aZ
 induction es with
 |nil=>rfl
 |cons e es ih=>cases h:e.2<;>simp [List.filter,h]<;>omega
theorem wz (e:En):∀ u∈iX e,u.oneCell'=true:=by
 intro u a;simp only [iX,wX,List.cons_append,List.nil_append,jm,List.not_mem_nil,or_false] at a;rcases a with rfl|rfl|rfl|rfl|rfl|rfl|rfl|rfl|rfl|rfl<;>rfl
theorem sK:(Tryz.prog.info? 122).map (fun i=>(i.zero,i.size,i.bytes))=some (some (.agg #[.int .i64 0,.int .i64 0,.int .u64 0,.string ByteArray.empty,.int .i64 0,.int .i64 0,.int .i64 0,.int .u64 0,.string ByteArray.empty,.int .i64 0]),10,96):=by kernel_rfl
theorem qC {L:SM} (b:aS o.es=o.es) (ho:h.ob n=some o) (a:MV base S h L w):MV base S { h.ents n (aS o.es) with bytes:=h.bytes-40*(o.es.length-(aS o.es).length) } L w:=by
 rw [b,Hp.Io ho,show h.bytes-40*(o.es.length-o.es.length)=h.bytes by omega];exact a
theorem zK {L:SM} (a:MV base S h L w) (ho:h.ob n=some o) (c2:o.es.length<=5000) (c3:40*o.es.length<=h.bytes) (c0:h.bytes<=1000000000000):
 Calls Tryz.prog 61 #[.pointer (some ⟨L.H,0,none⟩),.pointer (some ⟨L.ob n,0,none⟩)] w fun e w'=>e=.returned (.tuple #[])/\Keeps w w' S/\∃ L',L'.H=L.H/\L'.ob=L.ob/\MV base S { h.ents n (aS o.es) with bytes:=h.bytes-40*(o.es.length-(aS o.es).length) } L' w':=by
 obtain ⟨A,J,T,b9,-⟩:=a.ents ho;obtain ⟨r0,P⟩:=a.ob n o ho;have c5:w.cell? ⟨L.ob n,5,none⟩=some (.slice A o.es.length J):=by rw [<-T];exact P.c 5
 have hO:=P.lt;have HA:=ah a;have X:=ah ho;have a3:=ah T;clear a ho T P;go_enter Tryz.func61,Tryz.ntmps61;go_wp2;go_loopw [15,4,6] (fun jv ev _ ws=>∃ j:Nat,j<=o.es.length/\jv=.int .i64 j/\ev=.int .i64 (aZ (o.es.take j):Nat)/\Hq (Below w.heap.size w ws)) (fun jv _ _ _=>o.es.length-bF jv)
 case atStart=>exact ⟨0,by omega,rfl,by simp [aZ],aT _ _⟩
 case round=>
  obtain ⟨j,R,rfl,rfl,HJ⟩:=hrel;have l:=ah (HA.o.low HJ.o);clear c5;by_cases u:j<o.es.length
  ·obtain ⟨e,U⟩:∃ e,o.es[j]?=some e:=⟨_,aN u⟩
   obtain ⟨A3,z,q,V,k⟩:=l.o.ents X.o;have:A3=A/\z=J:=by
    have v:=q.symm.trans a3.o;simp only [Value.slice.injEq] at v;exact ⟨v.1,v.2.2⟩
   obtain ⟨rfl,rfl⟩:=this;obtain ⟨g2,rfl,b1,f⟩:=k j e U;have d0:=f 0 _ rfl;have d1:=f 1 _ rfl;have d2:=f 2 _ rfl;have d3:=f 3 _ rfl;have d4:=f 4 _ rfl;have d5:=f 5 _ rfl;have d6:=f 6 _ rfl;have d7:=f 7 _ rfl;have d8:=f 8 _ rfl;have d9:=f 9 _ rfl;simp only [Nat.add_zero] at d0;have i:=ah (HJ.o.trans ((aU wr (.cells (Nw e.1 e.2) 122)).mono HJ.o.size));have HX:=ah (lV wr e);have b0:=ah (vD U);have a5:=fZ (o.es.take j);rw [bf] at a5;clear q k f U;go_upto_region 4 with (fail)
   generalize wr.alloc (.cells (Nw e.1 e.2) 122)=w5 at *;generalize wr.heap.size=Y at *;have x5:w5.cell? ⟨Y,5,none⟩=some (.int .i64 (vk e.2)):=HX.o.c 5;clear d0 d1 d2 d3 d4 d5 d6 d7 d8 d9 HX l;cases hs:e.2.isSome with
   |true=>
    have M:(vk e.2==0)=false:=by
     have:=fq e.2;rw [hs] at this
     simpa using this
    have Z:=ah (show e.2.isNone=false by cases v:e.2 with |none=>rw [v] at hs;cases hs|some y=>rfl);clear hs;go_wp2;go_roundw
    case rel=>exact ⟨j+1,by omega,by simp,by rw [b0.o,Z.o];simp,i.o⟩
    case measure=>simp [bF];omega
   |false=>
    have M:(vk e.2==0)=true:=by
     have:=fq e.2;rw [hs] at this
     simpa using this
    have Z:=ah (show e.2.isNone=true by cases v:e.2 with |none=>rfl|some y=>rw [v] at hs;cases hs);clear hs;go_wp2;go_roundw
    case rel=>exact ⟨j+1,by omega,by simp,by rw [b0.o,Z.o];simp,i.o⟩
    case measure=>simp [bF];omega
  ·have Q:j=o.es.length:=by omega
   subst Q;clear u R;rw [bN];have a5:=fZ o.es;obtain ⟨r1,a4⟩:=l.o.ob n o X.o;have c5:wr.cell? ⟨L.ob n,5,none⟩=some (.slice A o.es.length J):=by rw [<-a3.o];exact a4.c 5
   clear a4;have a0:=ah (Keeps.of HJ.o (au _) S);by_cases hc:o.es.length<16∨2*aZ o.es<=o.es.length
   ·have HT:=ah (show aS o.es=o.es by unfold aS;rw [if_pos hc])
    by_cases c4:o.es.length<16
    ·have a6:decide ((o.es.length:Int)<16)=true:=by simp;omega
     go_wp2
     ((try simp only [Exit.inBlock,Exit.then]);refine bodyPost_ret (results_none rfl _ _ _) rfl ?_)
     exact ⟨rfl,a0.o,L,rfl,rfl,qC HT.o X.o l.o⟩
    ·have a6:decide ((o.es.length:Int)<16)=false:=by simp;omega
     have b4:decide (2*(aZ o.es:Int)<=(o.es.length:Int))=true:=by simp;omega
     go_wp2
     ((try simp only [Exit.inBlock,Exit.then]);refine bodyPost_ret (results_none rfl _ _ _) rfl ?_)
     exact ⟨rfl,a0.o,L,rfl,rfl,qC HT.o X.o l.o⟩
   ·have HT:=ah (show aS o.es=o.es.filter fun e=>e.2.isSome by unfold aS;rw [if_neg hc])
    have a6:decide ((o.es.length:Int)<16)=false:=by simp;omega
    have b4:decide (2*(aZ o.es:Int)<=(o.es.length:Int))=false:=by simp;omega
    clear hc;rename World=>B;have W:=aU B (.cells #[] 122);have b3:L.ob n<B.heap.size:=aW hO HJ.o.size;have c6:=(W.cell (p:=⟨L.ob n,5,none⟩) b3).trans c5;have b5:Hq (World.ownsRow (B.alloc (.cells #[] 122)) base 122 10 (.slice (some ⟨B.heap.size,0,none⟩) 0 0) 0 (kr [])):=ah ⟨rfl,.inr ⟨B.heap.size,0,#[],rfl,l.o.bs,heap_alloc_new B _,by decide,by decide,rfl,rfl⟩⟩;have b8:=ah W;clear W;go_upto_region 9 with (fail)
    clear c5;generalize B.alloc (.cells #[] 122)=wl at *;go_wp2;go_loopw [48,7,9] (fun jv lv _ ws=>∃ (j:Nat) (D:Option Addr) (C:Nat),j<=o.es.length/\jv=.int .i64 j/\lv=.slice D ((o.es.take j).filter fun e=>e.2.isSome).length C/\Hq (ws.ownsRow base 122 10 lv ((o.es.take j).filter fun e=>e.2.isSome).length (kr ((o.es.take j).filter fun e=>e.2.isSome))/\(∀ g,lv.ownBlock=some g->B.heap.size<=g)/\Below B.heap.size B ws)) (fun jv _ _ _=>o.es.length-bF jv)
    case atStart=>exact ⟨0,_,_,by omega,rfl,rfl,b5.o,by intro g hg;simp [Value.ownBlock] at hg;omega,b8.o⟩
    case round=>
     obtain ⟨j,D,C,R,rfl,rfl,r⟩:=hrel;have K:=ah (l.o.low r.o.2.2);clear c6;generalize m:((o.es.take j).filter fun e=>e.2.isSome)=fl at *;have a9:=ah m;have c1:fl.length<=j:=by rw [<-m];exact aI (List.length_filter_le _ _) (by rw [bf];omega)
     clear m;by_cases u:j<o.es.length
     ·obtain ⟨e,U⟩:∃ e,o.es[j]?=some e:=⟨_,aN u⟩
      obtain ⟨A3,z,q,V,k⟩:=K.o.ents X.o;have:A3=A/\z=J:=by
       have v:=q.symm.trans a3.o;simp only [Value.slice.injEq] at v;exact ⟨v.1,v.2.2⟩
      obtain ⟨rfl,rfl⟩:=this;obtain ⟨g2,rfl,b1,f⟩:=k j e U;have d0:=f 0 _ rfl;have d1:=f 1 _ rfl;have d2:=f 2 _ rfl;have d3:=f 3 _ rfl;have d4:=f 4 _ rfl;have d5:=f 5 _ rfl;have d6:=f 6 _ rfl;have d7:=f 7 _ rfl;have d8:=f 8 _ rfl;have d9:=f 9 _ rfl;simp only [Nat.add_zero] at d0;have i:=ah (r.o.2.2.trans ((aU wr (.cells (Nw e.1 e.2) 122)).mono r.o.2.2.size));have a7:=ah (aj r.o.1 (Keeps.of (aU wr (.cells (Nw e.1 e.2) 122)) (au _) (fun _=>False)) (fun _ _ x=>x));have HX:=ah (lV wr e);have a2:=ah (yD U);rw [a9.o] at a2;have a1:=ah r.o.2.1;clear q k f U;go_upto_region 12 with (fail)
      generalize wr.alloc (.cells (Nw e.1 e.2) 122)=w5 at *;generalize wr.heap.size=Y at *;obtain ⟨x0,x1,x2,x3,x4⟩:NQ w5 Y e.1:=HX.o.c5;obtain ⟨x5,x6,x7,x8,x9⟩:OV w5 Y e.2:=HX.o.c6;clear d0 d1 d2 d3 d4 d5 d6 d7 d8 d9 HX K;cases hs:e.2.isSome with
      |false=>
       have M:(vk e.2 !=0)=false:=by rw [fq,hs]
       have Z:=ah hs;clear hs;go_wp2;go_roundw
       case rel=>
        have G:=a2.o;rw [Z.o] at G;simp only [Bool.false_eq_true,if_false,List.append_nil] at G;exact ⟨j+1,D,C,by omega,by simp,by rw [G],by rw [G];exact a7.o,a1.o,i.o⟩
       case measure=>simp [bF];omega
      |true=>
       have M:(vk e.2 !=0)=true:=by rw [fq,hs]
       have Z:=ah hs;have b7:=ah (aI l.o.bs i.o.size);clear hs;go_wp2_with (first
        |(at_builtin
          refine fE rfl _ _ 91 122 10 96 (.agg #[.int .i64 0,.int .i64 0,.int .u64 0,.string ByteArray.empty,.int .i64 0,.int .i64 0,.int .i64 0,.int .u64 0,.string ByteArray.empty,.int .i64 0]) rfl Tryz.underlying91 sK rfl (by decide) base (.slice D fl.length C) fl.length (kr fl) (iX e) a7.o rfl rfl rfl (wz e) (by omega) (by decide) b7.o ?_;intro v' w1 t s F E;obtain ⟨A1,k1,rfl⟩:=aF t;have H1:=ah (And.intro t (And.intro (s base w5 (aT _ _) (au _)) (And.intro F E)));clear t s F E)
        |go_in)
       go_roundw
       case rel=>
        have G:=a2.o;rw [Z.o] at G;simp only [if_true] at G;obtain ⟨t,s,F,E⟩:=H1.o;refine ⟨j+1,A1,k1,by omega,by simp,by rw [G];simp,?_,fun g hg=>?_,?_⟩
        ·rw [G]
         simpa [kr] using t
        ·by_cases c:(Value.slice D fl.length C).ownBlock=some g
         ·exact a1.o g c
         ·rcases Nat.lt_or_ge g w5.heap.size with d|d
          ·exact absurd (by simpa [Value.ownBlock] using hg) (E g d c)
          ·exact aI i.o.size d
        ·refine ⟨s.os.trans i.o.os,s.tape.trans i.o.tape,s.output.trans i.o.output,aI i.o.size s.size,fun b hb=>(F b (aW hb i.o.size) (fun c=>?_)).trans (i.o.block b hb)⟩
         exact absurd (a1.o b c) (Nat.not_le_of_lt hb)
       case measure=>simp [bF];omega
     ·have Q:j=o.es.length:=by omega
      subst Q;clear u R;have m:=a9.o;rw [bN] at m;have b2:=yu o.es;rw [m] at b2;have HE:=ah (l.o.LB X.o (w1:=wr) (v':=.slice D fl.length C) (es':=fl) (Keeps.of r.o.2.2 (au _) _) r.o.1 (fun g hg=>Or.inr (r.o.2.1 g hg)));have a8:=ah (HE.o.1.num (h':={ h.ents n fl with bytes:=h.bytes-40*aZ o.es }) 1 (.int .i64 ((h.bytes:Int)-40*(aZ o.es:Int))) (by decide) rfl ⟨rfl,rfl,rfl,rfl,rfl,rfl,rfl⟩ rfl (bV _ rfl (congrArg (Value.int .i64) (show ((h.bytes:Int)-40*(aZ o.es:Int))=((h.bytes-40*aZ o.es:Nat):Int) by omega)) rfl rfl rfl rfl rfl rfl rfl rfl rfl rfl rfl rfl rfl rfl rfl rfl));obtain ⟨r2,N⟩:=K.o.ob n o X.o;have y5:wr.cell? ⟨L.ob n,5,none⟩=some (L.es n):=N.c 5;have z5:=N.ME 5;have y1:(wr.setCell ⟨L.ob n,5,none⟩ (.slice D fl.length C)).cell? ⟨L.H,1,none⟩=some (.int .i64 (h.bytes:Int)):=HE.o.1.hp.c 1;have z1:(wr.setCell ⟨L.ob n,5,none⟩ (.slice D fl.length C)).frozen? ⟨L.H,1,none⟩=false:=HE.o.1.hp.ME 1;have b6:=ah m;clear N K m;go_upto_region 16 with (fail)
      generalize wr.setCell ⟨L.ob n,5,none⟩ (.slice D fl.length C)=w7 at *;clear y5 z5;go_wp2;go_end0;refine ⟨rfl,(a0.o.trans HE.o.2).trans a8.o.2,L.MW n (.slice D fl.length C),rfl,rfl,?_⟩;rw [HT.o,b6.o,show o.es.length-fl.length=aZ o.es by omega];exact a8.o.1
end
theorem CW (w:World) (v:HV):Calls Tryz.prog 59 #[.agg #[.int .i64 (vk v),.int .i64 (vi v),.int .u64 0,.string ByteArray.empty,.int .i64 (vr v)]] w fun e w'=>e=.returned (.agg #[.int .i64 (vk v),.int .i64 (vi v),.int .u64 0,.string ByteArray.empty,.int .i64 (vr v)])/\Below w.heap.size w w':=by
 have n:(vk v==3)=false:=by cases v with |none=>rfl|some x=>cases x<;>rfl
 have a:=ah (rA (w.alloc (.cells (Nu v) 95)) none);have h:=ah ((rA w v).keep (Keeps.of (aU (w.alloc (.cells (Nu v) 95)) (.cells (Nu none) 95)) (au _) (fun _=>False)) (fun x=>x));have r:=ah ((aU w (.cells (Nu v) 95)).trans ((aU (w.alloc (.cells (Nu v) 95)) (.cells (Nu none) 95)).mono (aU w (.cells (Nu v) 95)).size));have f:(w.alloc (.cells (Nu v) 95)).heap.size=w.heap.size+1:=aG _;rw [f] at a;clear f;go_enter Tryz.func59,Tryz.ntmps59;go_upto_region 1 with (fail)
 change Code.wp _ _ _ _ ((w.alloc (.cells (Nu v) 95)).alloc (.cells (Nu none) 95));generalize (w.alloc (.cells (Nu v) 95)).alloc (.cells (Nu none) 95)=w3 at *;generalize p:w.heap.size=X at *;obtain ⟨x0,x1,J,H,G⟩:NQ w3 X v:=h.o.c5;have F:=a.o.c 0;have E:=a.o.c 1;have D:=a.o.c 2;have C:=a.o.c 3;have A:=a.o.c 4;have z:=a.o.ME 0;have y:=a.o.ME 1;have u:=a.o.ME 2;have t:=a.o.ME 3;have s:=a.o.ME 4;go_wp2;have d:=ah (((((a.o.set (j:=0) (by omega) (.int .i64 (vk v))).set (j:=1) (by omega) (.int .i64 (vi v))).set (j:=2) (by omega) (.int .u64 0)).set (j:=3) (by omega) (.string ByteArray.empty)).set (j:=4) (by omega) (.int .i64 (vr v)));have q:=ah (show Below X w _ from r.o.trans ((((((Keeps.setCell (S:=fun b=>b=X+1) (Keeps.refl w3 _) (g:=X+1) (j:=0) rfl (.int .i64 (vk v))).setCell (g:=X+1) (j:=1) rfl (.int .i64 (vi v))).setCell (g:=X+1) (j:=2) rfl (.int .u64 0)).setCell (g:=X+1) (j:=3) rfl (.string ByteArray.empty)).setCell (g:=X+1) (j:=4) rfl (.int .i64 (vr v))).below (B:=X) (dh h.o.lt) (fun b e=>by omega)));generalize ((((w3.setCell ⟨X+1,0,none⟩ (.int .i64 (vk v))).setCell ⟨X+1,1,none⟩ (.int .i64 (vi v))).setCell ⟨X+1,2,none⟩ (.int .u64 0)).setCell ⟨X+1,3,none⟩ (.string ByteArray.empty)).setCell ⟨X+1,4,none⟩ (.int .i64 (vr v))=w7 at *;have m:w7.cell? ⟨X+1,0,none⟩=some (.int .i64 (vk v)):=d.o.c 0;have q1:w7.cell? ⟨X+1,1,none⟩=some (.int .i64 (vi v)):=d.o.c 1;have l:w7.cell? ⟨X+1,2,none⟩=some (.int .u64 0):=d.o.c 2;have k:w7.cell? ⟨X+1,3,none⟩=some (.string ByteArray.empty):=d.o.c 3;have i:w7.cell? ⟨X+1,4,none⟩=some (.int .i64 (vr v)):=d.o.c 4;refine bodyPost_ret (v:=.agg #[.int .i64 (vk v),.int .i64 (vi v),.int .u64 0,.string ByteArray.empty,.int .i64 (vr v)]) ?_ rfl ⟨rfl,by rw [p];exact q.o⟩;simp [results,Tryz.results59,go_sem,m,q1,l,k,i]
section
variable {S:Nat->Prop} {base cap i j n:Nat} {e:En} {es:List En} {h:Hp} {o:Ob} {w:World}
theorem Aj (v:HV) (h:es[j]?=some e):(((((kr es).set (j*10+5) (.int .i64 (vk v))).set (j*10+5+1) (.int .i64 (vi v))).set (j*10+5+2) (.int .u64 0)).set (j*10+5+3) (.string ByteArray.empty)).set (j*10+5+4) (.int .i64 (vr v))=kr (es.set j (e.1,v)):=by
 have g:=(aJ.1 h).1;have a:=m_ es;refine List.ext_getElem? (fun p=>?_);by_cases c:p/10=j
 ·have b:∀ r,r<10->(kr es)[j*10+r]?=(iX e)[r]?:=fun r hr=>eX iX 10 (fun _=>rfl) es j r e h hr
  have f:∀ r,r<10->(kr (es.set j (e.1,v)))[j*10+r]?=(iX (e.1,v))[r]?:=fun r hr=>eX iX 10 (fun _=>rfl) _ j r _ (dY (by omega)) hr;obtain ⟨r,hr,rfl⟩:∃ r,r<10/\p=j*10+r:=⟨p%10,Nat.mod_lt _ (by decide),by omega⟩
  rw [f r hr];have d:r=0∨r=1∨r=2∨r=3∨r=4∨r=5∨r=6∨r=7∨r=8∨r=9:=by omega
  rcases d with rfl|rfl|rfl|rfl|rfl|rfl|rfl|rfl|rfl|rfl
  ·rw [aH (by omega)];rw [aH (by omega)];rw [aH (by omega)];rw [aH (by omega)];rw [aH (by omega)];rw [b 0 (by decide)];rfl
  ·rw [aH (by omega)];rw [aH (by omega)];rw [aH (by omega)];rw [aH (by omega)];rw [aH (by omega)];rw [b 1 (by decide)];rfl
  ·rw [aH (by omega)];rw [aH (by omega)];rw [aH (by omega)];rw [aH (by omega)];rw [aH (by omega)];rw [b 2 (by decide)];rfl
  ·rw [aH (by omega)];rw [aH (by omega)];rw [aH (by omega)];rw [aH (by omega)];rw [aH (by omega)];rw [b 3 (by decide)];rfl
  ·rw [aH (by omega)];rw [aH (by omega)];rw [aH (by omega)];rw [aH (by omega)];rw [aH (by omega)];rw [b 4 (by decide)];rfl
  ·rw [aH (by omega)];rw [aH (by omega)];rw [aH (by omega)];rw [aH (by omega)];rw [show j*10+5=j*10+5 by omega];rw [dY (Nat.lt_of_lt_of_eq (show _<es.length*10 by omega) (by simp [a]))];rfl
  ·rw [aH (by omega)];rw [aH (by omega)];rw [aH (by omega)];rw [show j*10+6=j*10+5+1 by omega];rw [dY (Nat.lt_of_lt_of_eq (show _<es.length*10 by omega) (by simp [a]))];rfl
  ·rw [aH (by omega)];rw [aH (by omega)];rw [show j*10+7=j*10+5+2 by omega];rw [dY (Nat.lt_of_lt_of_eq (show _<es.length*10 by omega) (by simp [a]))];rfl
  ·rw [aH (by omega)];rw [show j*10+8=j*10+5+3 by omega];rw [dY (Nat.lt_of_lt_of_eq (show _<es.length*10 by omega) (by simp [a]))];rfl
  ·rw [show j*10+9=j*10+5+4 by omega];rw [dY (Nat.lt_of_lt_of_eq (show _<es.length*10 by omega) (by simp [a]))];rfl
 ·rw [show (kr (es.set j (e.1,v)))[p]?=(kr es)[p]? by rw [jY,jY,aH (by omega)]]
  rw [aH (by omega)];rw [aH (by omega)];rw [aH (by omega)];rw [aH (by omega)];rw [aH (by omega)]
theorem MV.Mc {L:SM} (a:MV base S h L w) (v:HV) {o:Ob} (ho:h.ob n=some { o with es:=es }) {g:Nat} (c:L.es n=.slice (some ⟨g,0,none⟩) es.length cap) (f:es[j]?=some e):
 MV base S (h.ents n (es.set j (e.1,v))) L (((((w.setCell ⟨g,j*10+5,none⟩ (.int .i64 (vk v))).setCell ⟨g,j*10+5+1,none⟩ (.int .i64 (vi v))).setCell ⟨g,j*10+5+2,none⟩ (.int .u64 0)).setCell ⟨g,j*10+5+3,none⟩ (.string ByteArray.empty)).setCell ⟨g,j*10+5+4,none⟩ (.int .i64 (vr v)))/\Keeps w (((((w.setCell ⟨g,j*10+5,none⟩ (.int .i64 (vk v))).setCell ⟨g,j*10+5+1,none⟩ (.int .i64 (vi v))).setCell ⟨g,j*10+5+2,none⟩ (.int .u64 0)).setCell ⟨g,j*10+5+3,none⟩ (.string ByteArray.empty)).setCell ⟨g,j*10+5+4,none⟩ (.int .i64 (vr v))) S:=by
 have l:=(aJ.1 f).1;have d:=a.en n _ ho;simp only at d;rw [c] at d;have k:=(aL (aL (aL (aL (aL d (show j*10+5<es.length*10 by omega) (.int .i64 (vk v))) (show j*10+5+1<es.length*10 by omega) (.int .i64 (vi v))) (show j*10+5+2<es.length*10 by omega) (.int .u64 0)) (show j*10+5+3<es.length*10 by omega) (.string ByteArray.empty)) (show j*10+5+4<es.length*10 by omega) (.int .i64 (vr v)))
 rw [Aj v f] at k;refine a.Ll ho (Keeps.mono (S:=fun b=>b=g) (Keeps.setCell (S:=fun b=>b=g) (Keeps.setCell (S:=fun b=>b=g) (Keeps.setCell (S:=fun b=>b=g) (Keeps.setCell (S:=fun b=>b=g) (Keeps.setCell (S:=fun b=>b=g) (Keeps.refl w (fun b=>b=g)) rfl (.int .i64 (vk v))) rfl (.int .i64 (vi v))) rfl (.int .u64 0)) rfl (.string ByteArray.empty)) rfl (.int .i64 (vr v))) (fun b e=>?_)) ?_
 ·rw [c,e];simp [Value.ownBlock]
 ·rw [c,bX];exact k
theorem sW {v:HV} (ho:h.ob n=some o) (a:o.es[i]?=some e):h.putAt n i v=(h.ents n (o.es.set i (e.1,v))).back n:=by
 unfold Hp.putAt Hp.ents Hp.upd;have hx:=Hp.I_ ho;have hm:o.es.modify i (fun e=>(e.1,v))=o.es.set i (e.1,v):=by
  refine List.ext_getElem? (fun j=>?_);rw [List.getElem?_modify];by_cases c:i=j
  ·subst c
   rw [a,dY (aJ.1 a).1];simp
  ·rw [aH c]
   simp [c]
 have:h.objs.modify n (Option.map fun o':Ob=>{ o' with es:=o'.es.modify i fun e=>(e.1,v) })=h.objs.modify n (Option.map fun o':Ob=>{ o' with es:=o.es.set i (e.1,v) }):=by
  refine List.ext_getElem? (fun j=>?_);simp only [List.getElem?_modify];by_cases c:n=j
  ·subst c
   rw [hx];simp [hm]
  ·simp [c]
 rw [this]
end
end Go.Proofs.YtbpcdfbmnklcjaaGreatDoor
