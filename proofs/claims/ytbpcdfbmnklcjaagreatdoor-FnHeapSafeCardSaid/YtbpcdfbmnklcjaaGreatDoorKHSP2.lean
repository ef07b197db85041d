import Derived.Test.YtbpcdfbmnklcjaaGreatDoorKHSP
namespace Go.Proofs.YtbpcdfbmnklcjaaGreatDoor
open Go Go.RowKit
set_option maxHeartbeats 6400000
set_option maxRecDepth 100000
set_option linter.unusedVariables false
variable {S:Nat->Prop} {base j n:Nat} {e:En} {es:List En} {h:Hp} {o:Ob} {w:World}
def Kd (es:List En):Prop:=∀ (i j:Nat) (x y:En),es[i]?=some x->es[j]?=some y->x.1.isSome=true->x.1=y.1->i=j
theorem CK (hd:Kd es) {z:Int} (a:es[j]?=some e) (hk:e.1=some (.inl z)):iF es (some (.inl z))=(j:Int):=by
 refine kD a hk (fun x hx hc=>?_);obtain ⟨i,hi,rfl⟩:=List.mem_take_iff_getElem.mp hx;have:=hd i j _ e (aN (by omega)) a (by rw [hc];rfl) (by rw [hc,hk]);omega
theorem DL {v:HV} {z:Int} (a:¬ v=some (.inl z)):vk v≠2∨(vk v=2/\vi v≠z):=by
 cases v with
 |none=>exact Or.inl (by simp [vk])
 |some x=>cases x with
  |inr m=>exact Or.inl (by simp [vk])
  |inl y=>exact Or.inr ⟨rfl,fun c=>a (by simp only [vi] at c;rw [c])⟩
theorem Bc {L:SM} (a:MV base S h L w) (ho:h.ob n=some o) (b9:o.es.length<=5000) (b3:Kd o.es) (z:Int) (k:HV) (hk:k=some (.inl z)):
 Calls Tryz.prog 60 #[.pointer (some ⟨L.ob n,0,none⟩),.agg #[.int .i64 (vk k),.int .i64 (vi k),.int .u64 0,.string ByteArray.empty,.int .i64 (vr k)]] w fun e w'=>e=.returned (.int .i64 (iF o.es k))/\Below w.heap.size w w':=by
 obtain ⟨A,V,a9,b8,a3⟩:=a.ents ho;obtain ⟨r0,a6⟩:=a.ob n o ho;have c5:w.cell? ⟨L.ob n,5,none⟩=some (.slice A o.es.length V):=by rw [<-a9];exact a6.c 5
 have b0:=aU w (.cells #[.int .i64 (vk k),.int .i64 (vi k),.int .u64 0,.string ByteArray.empty,.int .i64 (vr k)] 95);have hO:=a6.lt;have H:=(b0.cell (p:=⟨L.ob n,5,none⟩) hO).trans c5;have r:=ah (rA w k);have b6:=ah (show vk k=2 by rw [hk];rfl);have b4:=ah (show vi k=z by rw [hk];rfl);have b7:=ah (show vr k=0 by rw [hk];rfl);have HK:=ah hk;have HA:=ah a;have HO:=ah ho;have a1:=ah a9;have f:=ah b0;have W:=ah b3;have a2:=ah a3;clear a ho a9 a3 a6 b0 c5 b3 hk;go_enter Tryz.func60,Tryz.ntmps60;go_upto_region 1 with (fail)
 generalize w.alloc (.cells #[.int .i64 (vk k),.int .i64 (vi k),.int .u64 0,.string ByteArray.empty,.int .i64 (vr k)] 95)=w3 at *;generalize F:w.heap.size=X at *;have x0:w3.cell? ⟨X,0,none⟩=some (.int .i64 2):=by have:=r.o.c 0;rw [this];show some (Value.int .i64 (vk k))=_;rw [b6.o]
 have x1:w3.cell? ⟨X,1,none⟩=some (.int .i64 z):=by have:=r.o.c 1;rw [this];show some (Value.int .i64 (vi k))=_;rw [b4.o]
 have x2:w3.cell? ⟨X,2,none⟩=some (.int .u64 0):=r.o.c 2;have Z:w3.cell? ⟨X,3,none⟩=some (.string ByteArray.empty):=r.o.c 3;have U:w3.cell? ⟨X,4,none⟩=some (.int .i64 0):=by have:=r.o.c 4;rw [this];show some (Value.int .i64 (vr k))=_;rw [b7.o];rfl
 by_cases a5:1<=z
 ·by_cases b2:z<=(o.es.length:Int)
  ·obtain ⟨i,rfl⟩:∃ i:Nat,z=(i:Int)+1:=⟨(z-1).toNat,by omega⟩
   obtain ⟨e,u⟩:∃ e,o.es[i]?=some e:=⟨_,aN (by omega)⟩
   obtain ⟨g2,rfl,M,b⟩:=a2.o i e u;have R:=ah u;have e0:=(f.o.cell (p:=⟨g2,i*10+0,none⟩) M).trans (b 0 _ rfl);have e1:=(f.o.cell (p:=⟨g2,i*10+1,none⟩) M).trans (b 1 _ rfl);have e2:=(f.o.cell (p:=⟨g2,i*10+2,none⟩) M).trans (b 2 _ rfl);have e3:=(f.o.cell (p:=⟨g2,i*10+3,none⟩) M).trans (b 3 _ rfl);have e4:=(f.o.cell (p:=⟨g2,i*10+4,none⟩) M).trans (b 4 _ rfl);simp only [Nat.add_zero] at e0;have a0:decide ((i:Int)+1 ≥ 1)=true:=by simpa using a5
   have a4:decide ((i:Int)+1<=(o.es.length:Int))=true:=by simpa using b2
   clear a2 b u;by_cases d:e.1=some (.inl ((i:Int)+1))
   ·have q:=ah d
    have f0:vk e.1=2:=by rw [d];rfl
    have f1:vi e.1=(i:Int)+1:=by rw [d];rfl
    have f4:vr e.1=0:=by rw [d];rfl
    rw [f0] at e0;rw [f1] at e1;rw [f4] at e4;clear d f0 f1 f4;go_wp2_with fail;go_quiet (fail);have g:=ah (aC (aG w3.heap.size w3) nq);have v:=ah (r.o.keep (Keeps.of g.o (au _) (fun _=>False)) (fun x=>x));have E:=ah (show Below w.heap.size w (w3.drewN nq) from F ▸ (f.o.trans (g.o.mono (F ▸ f.o.size))));generalize w3.drewN nq=w4 at *;have y1:w4.cell? ⟨X,1,none⟩=some (.int .i64 ((i:Int)+1)):=by have:=v.o.c 1;rw [this];show some (Value.int .i64 (vi k))=_;rw [b4.o]
    clear r f g x0 x1 x2 Z U e0 e1 e2 e3 e4 H;go_wp2;go_ret;have G:iF o.es k=(i:Int):=by rw [HK.o];exact CK W.o R.o q.o
    exact ⟨by rw [G];rfl,E.o⟩
   ·rcases DL d with f0|⟨f0,f1⟩
    ·have f2:(vk e.1==2)=false:=by simpa using f0
     clear d f0;go_wp2_with fail;go_quiet (fail);clear e0 e1 e2 e3 e4 f2 a0 a4;have g:=ah (aC (aG w3.heap.size w3) nq);have v:=ah (r.o.keep (Keeps.of g.o (au _) (fun _=>False)) (fun x=>x));have b1:=(g.o.cell (p:=⟨L.ob n,5,none⟩) (aW hO (F ▸ f.o.size))).trans H;generalize w3.drewN nq=w4 at *;have E:=ah (show Below w.heap.size w w4 from F ▸ (f.o.trans (g.o.mono (F ▸ f.o.size))));have D:=ah ((HA.o.low (F ▸ f.o)).low g.o);clear HA r f g H x0 x1 x2 Z U W R;go_wp2;go_loopw [47,5,6] (fun jv _ _ ws=>∃ j:Nat,j<=o.es.length/\jv=.int .i64 j/\Hq ((∀ e∈o.es.take j,e.1≠k)/\Below w4.heap.size w4 ws)) (fun jv _ _ _=>o.es.length-bF jv)
     case atStart=>exact ⟨0,by omega,rfl,by simp,aG _ _⟩
     case round=>
      obtain ⟨j,a7,rfl,t⟩:=hrel;by_cases J:j<o.es.length
      ·obtain ⟨e,u⟩:∃ e,o.es[j]?=some e:=⟨_,aN J⟩
       have T:=ah (D.o.low t.o.2);obtain ⟨A3,y,s,N,l⟩:=T.o.ents HO.o;have:A3=some ⟨g2,0,none⟩/\y=V:=by
        have P:=s.symm.trans a1.o;simp only [Value.slice.injEq] at P;exact ⟨P.1,P.2.2⟩
       obtain ⟨rfl,rfl⟩:=this;obtain ⟨g3,a8,b5,b⟩:=l j e u;cases a8;have d0:=b 0 _ rfl;have d1:=b 1 _ rfl;have d2:=b 2 _ rfl;have d3:=b 3 _ rfl;have d4:=b 4 _ rfl;have H:=b 5 _ rfl;have d6:=b 6 _ rfl;have d7:=b 7 _ rfl;have d8:=b 8 _ rfl;have d9:=b 9 _ rfl;simp only [Nat.add_zero] at d0;have Q:=ah (v.o.keep (Keeps.of t.o.2 (au _) (fun _=>False)) (fun x=>x));have m:=ah (Q.o.keep (Keeps.of (aU wr (.cells #[.int .i64 (vk e.1),.int .i64 (vi e.1),.int .u64 0,.string ByteArray.empty,.int .i64 (vr e.1),.int .i64 (vk e.2),.int .i64 (vi e.2),.int .u64 0,.string ByteArray.empty,.int .i64 (vr e.2)] 122)) (au _) (fun _=>False)) (fun x=>x));have C:=ah (t.o.2.trans ((aU wr (.cells #[.int .i64 (vk e.1),.int .i64 (vi e.1),.int .u64 0,.string ByteArray.empty,.int .i64 (vr e.1),.int .i64 (vk e.2),.int .i64 (vi e.2),.int .u64 0,.string ByteArray.empty,.int .i64 (vr e.2)] 122)).mono t.o.2.size));have r:=ah (lV wr e);have B:=ah u;clear s l b u;go_upto_region 6 with (fail)
       generalize wr.alloc (.cells #[.int .i64 (vk e.1),.int .i64 (vi e.1),.int .u64 0,.string ByteArray.empty,.int .i64 (vr e.1),.int .i64 (vk e.2),.int .i64 (vi e.2),.int .u64 0,.string ByteArray.empty,.int .i64 (vr e.2)] 122)=w5 at *;generalize wr.heap.size=Y at *;have x0:w5.cell? ⟨Y,0,none⟩=some (.int .i64 (vk e.1)):=r.o.c 0;have x1:w5.cell? ⟨Y,1,none⟩=some (.int .i64 (vi e.1)):=r.o.c 1;have x2:w5.cell? ⟨Y,2,none⟩=some (.int .u64 0):=r.o.c 2;have Z:w5.cell? ⟨Y,3,none⟩=some (.string ByteArray.empty):=r.o.c 3;have U:w5.cell? ⟨Y,4,none⟩=some (.int .i64 (vr e.1)):=r.o.c 4;have y0:w5.cell? ⟨X,0,none⟩=some (.int .i64 (vk k)):=m.o.c 0;have y1:w5.cell? ⟨X,1,none⟩=some (.int .i64 (vi k)):=m.o.c 1;have y2:w5.cell? ⟨X,2,none⟩=some (.int .u64 0):=m.o.c 2;have y3:w5.cell? ⟨X,3,none⟩=some (.string ByteArray.empty):=m.o.c 3;have y4:w5.cell? ⟨X,4,none⟩=some (.int .i64 (vr k)):=m.o.c 4;clear d0 d1 d2 d3 d4 H d6 d7 d8 d9;by_cases d:e.1=k
       ·rw [d] at x0 x1 U
        have q:=ah d;clear d;go_wp2;go_ret;have G:iF o.es k=(j:Int):=kD B.o q.o t.o.1;exact ⟨by rw [G];rfl,E.o.trans (C.o.mono E.o.size)⟩
       ·have q:=ah d
        clear d;go_wp2
        any_goals go_ret;exact absurd (n_ (by simp_all [vk]) (by simp_all [vi]) (by simp_all [vr])) q.o
        all_goals
         refine ⟨⟨j+1,by omega,by simp,?_,C.o⟩,by simp [bF];omega⟩;exact iV B.o t.o.1 q.o
      ·clear v D
       have K:j=o.es.length:=by omega
       subst K;go_wp2;go_ret;have G:iF o.es k= -1:=lq (fun e u=>t.o.1 e (by rw [bf];exact u));exact ⟨by rw [G];rfl,E.o.trans (t.o.2.mono E.o.size)⟩
    ·rw [f0] at e0
     have f2:(vi e.1==(i:Int)+1)=false:=by simpa using f1
     clear d f0 f1;go_wp2_with fail;go_quiet (fail);clear e0 e1 e2 e3 e4 f2 a0 a4;have g:=ah (aC (aG w3.heap.size w3) nq);have v:=ah (r.o.keep (Keeps.of g.o (au _) (fun _=>False)) (fun x=>x));have b1:=(g.o.cell (p:=⟨L.ob n,5,none⟩) (aW hO (F ▸ f.o.size))).trans H;generalize w3.drewN nq=w4 at *;have E:=ah (show Below w.heap.size w w4 from F ▸ (f.o.trans (g.o.mono (F ▸ f.o.size))));have D:=ah ((HA.o.low (F ▸ f.o)).low g.o);clear HA r f g H x0 x1 x2 Z U W R;go_wp2;go_loopw [47,5,6] (fun jv _ _ ws=>∃ j:Nat,j<=o.es.length/\jv=.int .i64 j/\Hq ((∀ e∈o.es.take j,e.1≠k)/\Below w4.heap.size w4 ws)) (fun jv _ _ _=>o.es.length-bF jv)
     case atStart=>exact ⟨0,by omega,rfl,by simp,aG _ _⟩
     case round=>
      obtain ⟨j,a7,rfl,t⟩:=hrel;by_cases J:j<o.es.length
      ·obtain ⟨e,u⟩:∃ e,o.es[j]?=some e:=⟨_,aN J⟩
       have T:=ah (D.o.low t.o.2);obtain ⟨A3,y,s,N,l⟩:=T.o.ents HO.o;have:A3=some ⟨g2,0,none⟩/\y=V:=by
        have P:=s.symm.trans a1.o;simp only [Value.slice.injEq] at P;exact ⟨P.1,P.2.2⟩
       obtain ⟨rfl,rfl⟩:=this;obtain ⟨g3,a8,b5,b⟩:=l j e u;cases a8;have d0:=b 0 _ rfl;have d1:=b 1 _ rfl;have d2:=b 2 _ rfl;have d3:=b 3 _ rfl;have d4:=b 4 _ rfl;have H:=b 5 _ rfl;have d6:=b 6 _ rfl;have d7:=b 7 _ rfl;have d8:=b 8 _ rfl;have d9:=b 9 _ rfl;simp only [Nat.add_zero] at d0;have Q:=ah (v.o.keep (Keeps.of t.o.2 (au _) (fun _=>False)) (fun x=>x));have m:=ah (Q.o.keep (Keeps.of (aU wr (.cells #[.int .i64 (vk e.1),.int .i64 (vi e.1),.int .u64 0,.string ByteArray.empty,.int .i64 (vr e.1),.int .i64 (vk e.2),.int .i64 (vi e.2),.int .u64 0,.string ByteArray.empty,.int .i64 (vr e.2)] 122)) (au _) (fun _=>False)) (fun x=>x));have C:=ah (t.o.2.trans ((aU wr (.cells #[.int .i64 (vk e.1),.int .i64 (vi e.1),.int .u64 0,.string ByteArray.empty,.int .i64 (vr e.1),.int .i64 (vk e.2),.int .i64 (vi e.2),.int .u64 0,.string ByteArray.empty,.int .i64 (vr e.2)] 122)).mono t.o.2.size));have r:=ah (lV wr e);have B:=ah u;clear s l b u;go_upto_region 6 with (fail)
       generalize wr.alloc (.cells #[.int .i64 (vk e.1),.int .i64 (vi e.1),.int .u64 0,.string ByteArray.empty,.int .i64 (vr e.1),.int .i64 (vk e.2),.int .i64 (vi e.2),.int .u64 0,.string ByteArray.empty,.int .i64 (vr e.2)] 122)=w5 at *;generalize wr.heap.size=Y at *;have x0:w5.cell? ⟨Y,0,none⟩=some (.int .i64 (vk e.1)):=r.o.c 0;have x1:w5.cell? ⟨Y,1,none⟩=some (.int .i64 (vi e.1)):=r.o.c 1;have x2:w5.cell? ⟨Y,2,none⟩=some (.int .u64 0):=r.o.c 2;have Z:w5.cell? ⟨Y,3,none⟩=some (.string ByteArray.empty):=r.o.c 3;have U:w5.cell? ⟨Y,4,none⟩=some (.int .i64 (vr e.1)):=r.o.c 4;have y0:w5.cell? ⟨X,0,none⟩=some (.int .i64 (vk k)):=m.o.c 0;have y1:w5.cell? ⟨X,1,none⟩=some (.int .i64 (vi k)):=m.o.c 1;have y2:w5.cell? ⟨X,2,none⟩=some (.int .u64 0):=m.o.c 2;have y3:w5.cell? ⟨X,3,none⟩=some (.string ByteArray.empty):=m.o.c 3;have y4:w5.cell? ⟨X,4,none⟩=some (.int .i64 (vr k)):=m.o.c 4;clear d0 d1 d2 d3 d4 H d6 d7 d8 d9;by_cases d:e.1=k
       ·rw [d] at x0 x1 U
        have q:=ah d;clear d;go_wp2;go_ret;have G:iF o.es k=(j:Int):=kD B.o q.o t.o.1;exact ⟨by rw [G];rfl,E.o.trans (C.o.mono E.o.size)⟩
       ·have q:=ah d
        clear d;go_wp2
        any_goals go_ret;exact absurd (n_ (by simp_all [vk]) (by simp_all [vi]) (by simp_all [vr])) q.o
        all_goals
         refine ⟨⟨j+1,by omega,by simp,?_,C.o⟩,by simp [bF];omega⟩;exact iV B.o t.o.1 q.o
      ·clear v D
       have K:j=o.es.length:=by omega
       subst K;go_wp2;go_ret;have G:iF o.es k= -1:=lq (fun e u=>t.o.1 e (by rw [bf];exact u));exact ⟨by rw [G];rfl,E.o.trans (t.o.2.mono E.o.size)⟩
  ·have a0:decide (z ≥ 1)=true:=by simpa using a5
   have a4:decide (z<=(o.es.length:Int))=false:=by simpa using b2
   have R:=ah True.intro;clear a2;go_wp2_with fail;go_quiet (fail);have g:=ah (aC (aG w3.heap.size w3) nq);have v:=ah (r.o.keep (Keeps.of g.o (au _) (fun _=>False)) (fun x=>x));have b1:=(g.o.cell (p:=⟨L.ob n,5,none⟩) (aW hO (F ▸ f.o.size))).trans H;generalize w3.drewN nq=w4 at *;have E:=ah (show Below w.heap.size w w4 from F ▸ (f.o.trans (g.o.mono (F ▸ f.o.size))));have D:=ah ((HA.o.low (F ▸ f.o)).low g.o);clear HA r f g H x0 x1 x2 Z U W R;go_wp2;go_loopw [47,5,6] (fun jv _ _ ws=>∃ j:Nat,j<=o.es.length/\jv=.int .i64 j/\Hq ((∀ e∈o.es.take j,e.1≠k)/\Below w4.heap.size w4 ws)) (fun jv _ _ _=>o.es.length-bF jv)
   case atStart=>exact ⟨0,by omega,rfl,by simp,aG _ _⟩
   case round=>
    obtain ⟨j,a7,rfl,t⟩:=hrel;by_cases J:j<o.es.length
    ·obtain ⟨e,u⟩:∃ e,o.es[j]?=some e:=⟨_,aN J⟩
     have T:=ah (D.o.low t.o.2);obtain ⟨A3,y,s,N,l⟩:=T.o.ents HO.o;have:A3=A/\y=V:=by
      have P:=s.symm.trans a1.o;simp only [Value.slice.injEq] at P;exact ⟨P.1,P.2.2⟩
     obtain ⟨rfl,rfl⟩:=this;obtain ⟨g2,rfl,M,b⟩:=l j e u;have d0:=b 0 _ rfl;have d1:=b 1 _ rfl;have d2:=b 2 _ rfl;have d3:=b 3 _ rfl;have d4:=b 4 _ rfl;have H:=b 5 _ rfl;have d6:=b 6 _ rfl;have d7:=b 7 _ rfl;have d8:=b 8 _ rfl;have d9:=b 9 _ rfl;simp only [Nat.add_zero] at d0;have Q:=ah (v.o.keep (Keeps.of t.o.2 (au _) (fun _=>False)) (fun x=>x));have m:=ah (Q.o.keep (Keeps.of (aU wr (.cells #[.int .i64 (vk e.1),.int .i64 (vi e.1),.int .u64 0,.string ByteArray.empty,.int .i64 (vr e.1),.int .i64 (vk e.2),.int .i64 (vi e.2),.int .u64 0,.string ByteArray.empty,.int .i64 (vr e.2)] 122)) (au _) (fun _=>False)) (fun x=>x));have C:=ah (t.o.2.trans ((aU wr (.cells #[.int .i64 (vk e.1),.int .i64 (vi e.1),.int .u64 0,.string ByteArray.empty,.int .i64 (vr e.1),.int .i64 (vk e.2),.int .i64 (vi e.2),.int .u64 0,.string ByteArray.empty,.int .i64 (vr e.2)] 122)).mono t.o.2.size));have r:=ah (lV wr e);have B:=ah u;clear s l b u;go_upto_region 6 with (fail)
     generalize wr.alloc (.cells #[.int .i64 (vk e.1),.int .i64 (vi e.1),.int .u64 0,.string ByteArray.empty,.int .i64 (vr e.1),.int .i64 (vk e.2),.int .i64 (vi e.2),.int .u64 0,.string ByteArray.empty,.int .i64 (vr e.2)] 122)=w5 at *;generalize wr.heap.size=Y at *;have x0:w5.cell? ⟨Y,0,none⟩=some (.int .i64 (vk e.1)):=r.o.c 0;have x1:w5.cell? ⟨Y,1,none⟩=some (.int .i64 (vi e.1)):=r.o.c 1;have x2:w5.cell? ⟨Y,2,none⟩=some (.int .u64 0):=r.o.c 2;have Z:w5.cell? ⟨Y,3,none⟩=some (.string ByteArray.empty):=r.o.c 3;have U:w5.cell? ⟨Y,4,none⟩=some (.int .i64 (vr e.1)):=r.o.c 4;have y0:w5.cell? ⟨X,0,none⟩=some (.int .i64 (vk k)):=m.o.c 0;have y1:w5.cell? ⟨X,1,none⟩=some (.int .i64 (vi k)):=m.o.c 1;have y2:w5.cell? ⟨X,2,none⟩=some (.int .u64 0):=m.o.c 2;have y3:w5.cell? ⟨X,3,none⟩=some (.string ByteArray.empty):=m.o.c 3;have y4:w5.cell? ⟨X,4,none⟩=some (.int .i64 (vr k)):=m.o.c 4;clear d0 d1 d2 d3 d4 H d6 d7 d8 d9;by_cases d:e.1=k
     ·rw [d] at x0 x1 U
      have q:=ah d;clear d;go_wp2;go_ret;have G:iF o.es k=(j:Int):=kD B.o q.o t.o.1;exact ⟨by rw [G];rfl,E.o.trans (C.o.mono E.o.size)⟩
     ·have q:=ah d
      clear d;go_wp2
      any_goals go_ret;exact absurd (n_ (by simp_all [vk]) (by simp_all [vi]) (by simp_all [vr])) q.o
      all_goals
       refine ⟨⟨j+1,by omega,by simp,?_,C.o⟩,by simp [bF];omega⟩;exact iV B.o t.o.1 q.o
    ·clear v D
     have K:j=o.es.length:=by omega
     subst K;go_wp2;go_ret;have G:iF o.es k= -1:=lq (fun e u=>t.o.1 e (by rw [bf];exact u));exact ⟨by rw [G];rfl,E.o.trans (t.o.2.mono E.o.size)⟩
 ·have a0:decide (z ≥ 1)=false:=by simpa using a5
  have R:=ah True.intro;clear a2;go_wp2_with fail;go_quiet (fail);have g:=ah (aC (aG w3.heap.size w3) nq);have v:=ah (r.o.keep (Keeps.of g.o (au _) (fun _=>False)) (fun x=>x));have b1:=(g.o.cell (p:=⟨L.ob n,5,none⟩) (aW hO (F ▸ f.o.size))).trans H;generalize w3.drewN nq=w4 at *;have E:=ah (show Below w.heap.size w w4 from F ▸ (f.o.trans (g.o.mono (F ▸ f.o.size))));have D:=ah ((HA.o.low (F ▸ f.o)).low g.o);clear HA r f g H x0 x1 x2 Z U W R;go_wp2;go_loopw [47,5,6] (fun jv _ _ ws=>∃ j:Nat,j<=o.es.length/\jv=.int .i64 j/\Hq ((∀ e∈o.es.take j,e.1≠k)/\Below w4.heap.size w4 ws)) (fun jv _ _ _=>o.es.length-bF jv)
  case atStart=>exact ⟨0,by omega,rfl,by simp,aG _ _⟩
  case round=>
   obtain ⟨j,a7,rfl,t⟩:=hrel;by_cases J:j<o.es.length
   ·obtain ⟨e,u⟩:∃ e,o.es[j]?=some e:=⟨_,aN J⟩
    have T:=ah (D.o.low t.o.2);obtain ⟨A3,y,s,N,l⟩:=T.o.ents HO.o;have:A3=A/\y=V:=by
     have P:=s.symm.trans a1.o;simp only [Value.slice.injEq] at P;exact ⟨P.1,P.2.2⟩
    obtain ⟨rfl,rfl⟩:=this;obtain ⟨g2,rfl,M,b⟩:=l j e u;have d0:=b 0 _ rfl;have d1:=b 1 _ rfl;have d2:=b 2 _ rfl;have d3:=b 3 _ rfl;have d4:=b 4 _ rfl;have H:=b 5 _ rfl;have d6:=b 6 _ rfl;have d7:=b 7 _ rfl;have d8:=b 8 _ rfl;have d9:=b 9 _ rfl;simp only [Nat.add_zero] at d0;have Q:=ah (v.o.keep (Keeps.of t.o.2 (au _) (fun _=>False)) (fun x=>x));have m:=ah (Q.o.keep (Keeps.of (aU wr (.cells #[.int .i64 (vk e.1),.int .i64 (vi e.1),.int .u64 0,.string ByteArray.empty,.int .i64 (vr e.1),.int .i64 (vk e.2),.int .i64 (vi e.2),.int .u64 0,.string ByteArray.empty,.int .i64 (vr e.2)] 122)) (au _) (fun _=>False)) (fun x=>x));have C:=ah (t.o.2.trans ((aU wr (.cells #[.int .i64 (vk e.1),.int .i64 (vi e.1),.int .u64 0,.string ByteArray.empty,.int .i64 (vr e.1),.int .i64 (vk e.2),.int .i64 (vi e.2),.int .u64 0,.string ByteArray.empty,.int .i64 (vr e.2)] 122)).mono t.o.2.size));have r:=ah (lV wr e);have B:=ah u;clear s l b u;go_upto_region 6 with (fail)
    generalize wr.alloc (.cells #[.int .i64 (vk e.1),.int .i64 (vi e.1),.int .u64 0,.string ByteArray.empty,.int .i64 (vr e.1),.int .i64 (vk e.2),.int .i64 (vi e.2),.int .u64 0,.string ByteArray.empty,.int .i64 (vr e.2)] 122)=w5 at *;generalize wr.heap.size=Y at *;have x0:w5.cell? ⟨Y,0,none⟩=some (.int .i64 (vk e.1)):=r.o.c 0;have x1:w5.cell? ⟨Y,1,none⟩=some (.int .i64 (vi e.1)):=r.o.c 1;have x2:w5.cell? ⟨Y,2,none⟩=some (.int .u64 0):=r.o.c 2;have Z:w5.cell? ⟨Y,3,none⟩=some (.string ByteArray.empty):=r.o.c 3;have U:w5.cell? ⟨Y,4,none⟩=some (.int .i64 (vr e.1)):=r.o.c 4;have y0:w5.cell? ⟨X,0,none⟩=some (.int .i64 (vk k)):=m.o.c 0;have y1:w5.cell? ⟨X,1,none⟩=some (.int .i64 (vi k)):=m.o.c 1;have y2:w5.cell? ⟨X,2,none⟩=some (.int .u64 0):=m.o.c 2;have y3:w5.cell? ⟨X,3,none⟩=some (.string ByteArray.empty):=m.o.c 3;have y4:w5.cell? ⟨X,4,none⟩=some (.int .i64 (vr k)):=m.o.c 4;clear d0 d1 d2 d3 d4 H d6 d7 d8 d9;by_cases d:e.1=k
    ·rw [d] at x0 x1 U
     have q:=ah d;clear d;go_wp2;go_ret;have G:iF o.es k=(j:Int):=kD B.o q.o t.o.1;exact ⟨by rw [G];rfl,E.o.trans (C.o.mono E.o.size)⟩
    ·have q:=ah d
     clear d;go_wp2
     any_goals go_ret;exact absurd (n_ (by simp_all [vk]) (by simp_all [vi]) (by simp_all [vr])) q.o
     all_goals
      refine ⟨⟨j+1,by omega,by simp,?_,C.o⟩,by simp [bF];omega⟩;exact iV B.o t.o.1 q.o
   ·clear v D
    have K:j=o.es.length:=by omega
    subst K;go_wp2;go_ret;have G:iF o.es k= -1:=lq (fun e u=>t.o.1 e (by rw [bf];exact u));exact ⟨by rw [G];rfl,E.o.trans (t.o.2.mono E.o.size)⟩
end Go.Proofs.YtbpcdfbmnklcjaaGreatDoor
