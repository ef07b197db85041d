import Derived.Test.YtbpcdfbmnklcjaaGreatDoorKHYN
namespace Go.Proofs.YtbpcdfbmnklcjaaGreatDoor
open Go Go.RowKit
set_option maxHeartbeats 6400000
set_option maxRecDepth 100000
set_option linter.unusedVariables false
variable {X:Nat} {w w3 w7:World}
attribute [local go_sem] bW
def kC (a b c:Int):List Value:=[.int .i64 a,.int .i64 b,.int .u64 0,.string ByteArray.empty,.int .i64 c]
theorem Gp (wr:World) (a b c:Int):aD (wr.alloc (.cells #[.int .i64 a,.int .i64 b,.int .u64 0,.string ByteArray.empty,.int .i64 c] 194)) 194 wr.heap.size 5 (fun j=>(kC a b c).getD j (.bool false)):=by
 have h:=aD.mk' wr 194 #[.int .i64 a,.int .i64 b,.int .u64 0,.string ByteArray.empty,.int .i64 c];refine aD.congr (show aD _ _ _ 5 _ from h) (fun j hj=>?_);have:j=0∨j=1∨j=2∨j=3∨j=4:=by omega
 rcases this with rfl|rfl|rfl|rfl|rfl<;>rfl
theorem wM {a b c:Int} (f:aD w3 194 (X+1) 5 (fun j=>(kC 0 0 0).getD j (.bool false))) (i:X+1<=w3.heap.size) (h:Below X w w3)
 (d:w7=((((w3.setCell ⟨X+1,0,none⟩ (.int .i64 a)).setCell ⟨X+1,1,none⟩ (.int .i64 b)).setCell ⟨X+1,2,none⟩ (.int .u64 0)).setCell ⟨X+1,3,none⟩ (.string ByteArray.empty)).setCell ⟨X+1,4,none⟩ (.int .i64 c)):
 aD w7 194 (X+1) 5 (fun j=>(kC a b c).getD j (.bool false))/\Below X w w7:=by
 subst d;refine ⟨?_,?_⟩
 ·refine (((((f.set (j:=0) (by omega) (.int .i64 a)).set (j:=1) (by omega) (.int .i64 b)).set (j:=2) (by omega) (.int .u64 0)).set (j:=3) (by omega) (.string ByteArray.empty)).set (j:=4) (by omega) (.int .i64 c)).congr (fun j hj=>?_)
  have:j=0∨j=1∨j=2∨j=3∨j=4:=by omega
  rcases this with rfl|rfl|rfl|rfl|rfl<;>rfl
 ·exact h.trans ((((((Keeps.setCell (S:=fun b=>b=X+1) (Keeps.refl w3 _) (g:=X+1) (j:=0) rfl (.int .i64 a)).setCell (g:=X+1) (j:=1) rfl (.int .i64 b)).setCell (g:=X+1) (j:=2) rfl (.int .u64 0)).setCell (g:=X+1) (j:=3) rfl (.string ByteArray.empty)).setCell (g:=X+1) (j:=4) rfl (.int .i64 c)).below (B:=X) (by omega) (fun b e=>by omega))
theorem yY (w:World) (tb:Nat->Nat) (v:HV) (s:∀ n,v=some (.inr n)->w.cell? ⟨tb n,1,none⟩=some (.int .i64 (n:Int))):
 Calls Tryz.prog 122 #[.agg #[.int .i64 (vk v),.int .i64 (vi v),.int .u64 0,.string ByteArray.empty,aK tb v]] w fun e w'=>e=.returned (jM v)/\Below w.heap.size w w':=by
 have a:=ah (Gp (w.alloc (.cells #[.int .i64 (vk v),.int .i64 (vi v),.int .u64 0,.string ByteArray.empty,aK tb v] 143)) 0 0 0);have d:=ah ((eu w tb v).keep (Keeps.of (aU (w.alloc (.cells #[.int .i64 (vk v),.int .i64 (vi v),.int .u64 0,.string ByteArray.empty,aK tb v] 143)) (.cells #[.int .i64 0,.int .i64 0,.int .u64 0,.string ByteArray.empty,.int .i64 0] 194)) (g _) (fun _=>i)) (fun x=>x));have C:=ah ((aU w (.cells #[.int .i64 (vk v),.int .i64 (vi v),.int .u64 0,.string ByteArray.empty,aK tb v] 143)).trans ((aU (w.alloc (.cells #[.int .i64 (vk v),.int .i64 (vi v),.int .u64 0,.string ByteArray.empty,aK tb v] 143)) (.cells #[.int .i64 0,.int .i64 0,.int .u64 0,.string ByteArray.empty,.int .i64 0] 194)).mono (aU w (.cells #[.int .i64 (vk v),.int .i64 (vi v),.int .u64 0,.string ByteArray.empty,aK tb v] 143)).size));have E:(w.alloc (.cells #[.int .i64 (vk v),.int .i64 (vi v),.int .u64 0,.string ByteArray.empty,aK tb v] 143)).heap.size=w.heap.size+1:=bM _;rw [E] at a;clear E;cases h5:(vk v==5) with
 |false=>
  have A:Hq (jM v=.agg #[.int .i64 (vk v),.int .i64 (vi v),.int .u64 0,.string ByteArray.empty,.int .i64 0]):=ah (by
   cases v with
   |none=>rfl
   |some x=>cases x with
    |inl z=>rfl
    |inr n=>simp [vk] at h5)
  clear s;go_enter Tryz.func122,Tryz.ntmps122;go_upto_region 1 with (fail)
  change Code.wp _ _ _ _ ((w.alloc (.cells #[.int .i64 (vk v),.int .i64 (vi v),.int .u64 0,.string ByteArray.empty,aK tb v] 143)).alloc (.cells #[.int .i64 0,.int .i64 0,.int .u64 0,.string ByteArray.empty,.int .i64 0] 194));generalize (w.alloc (.cells #[.int .i64 (vk v),.int .i64 (vi v),.int .u64 0,.string ByteArray.empty,aK tb v] 143)).alloc (.cells #[.int .i64 0,.int .i64 0,.int .u64 0,.string ByteArray.empty,.int .i64 0] 194)=w3 at *;generalize u:w.heap.size=X at *;have x0:w3.cell? ⟨X,0,none⟩=some (.int .i64 (vk v)):=d.o.c 0;have x1:w3.cell? ⟨X,1,none⟩=some (.int .i64 (vi v)):=d.o.c 1;have S:w3.cell? ⟨X,2,none⟩=some (.int .u64 0):=d.o.c 2;have R:w3.cell? ⟨X,3,none⟩=some (.string ByteArray.empty):=d.o.c 3;have Q:=a.o.c 0;have P:=a.o.c 1;have N:=a.o.c 2;have M:=a.o.c 3;have L:=a.o.c 4;have K:=a.o.Nq 0;have J:=a.o.Nq 1;have H:=a.o.Nq 2;have G:=a.o.Nq 3;have F:=a.o.Nq 4;go_wp2;obtain ⟨w7,h⟩:∃ w7,w7=((((w3.setCell ⟨X+1,0,none⟩ (.int .i64 (vk v))).setCell ⟨X+1,1,none⟩ (.int .i64 (vi v))).setCell ⟨X+1,2,none⟩ (.int .u64 0)).setCell ⟨X+1,3,none⟩ (.string ByteArray.empty)).setCell ⟨X+1,4,none⟩ (.int .i64 0):=⟨_,rfl⟩
  have f:=ah (wM a.o (dh a.o.lt) C.o h);rw [<-h];clear h;have r:w7.cell? ⟨X+1,0,none⟩=some (.int .i64 (vk v)):=f.o.1.c 0;have q1:w7.cell? ⟨X+1,1,none⟩=some (.int .i64 (vi v)):=f.o.1.c 1;have q:w7.cell? ⟨X+1,2,none⟩=some (.int .u64 0):=f.o.1.c 2;have m:w7.cell? ⟨X+1,3,none⟩=some (.string ByteArray.empty):=f.o.1.c 3;have l:w7.cell? ⟨X+1,4,none⟩=some (.int .i64 0):=f.o.1.c 4;refine bodyPost_ret (v:=jM v) ?_ rfl ⟨rfl,by rw [u];exact f.o.2⟩;rw [A.o];simp [results,Tryz.results122,go_sem,r,q1,q,m,l]
 |true=>
  obtain ⟨n,rfl⟩:=FW h5;have t:=s n rfl;have j:=nA t;have y:=ah (C.o.cell (p:=⟨tb n,1,none⟩) j|>.trans t);have T:=iO (tb n);have B:=ah (fun D=>gQ D (tb n));clear s h5 t j;go_enter Tryz.func122,Tryz.ntmps122;go_upto_region 1 with (fail)
  change Code.wp _ _ _ _ ((w.alloc (.cells #[.int .i64 (vk (some (.inr n):HV)),.int .i64 (vi (some (.inr n):HV)),.int .u64 0,.string ByteArray.empty,aK tb (some (.inr n):HV)] 143)).alloc (.cells #[.int .i64 0,.int .i64 0,.int .u64 0,.string ByteArray.empty,.int .i64 0] 194));generalize (w.alloc (.cells #[.int .i64 (vk (some (.inr n):HV)),.int .i64 (vi (some (.inr n):HV)),.int .u64 0,.string ByteArray.empty,aK tb (some (.inr n):HV)] 143)).alloc (.cells #[.int .i64 0,.int .i64 0,.int .u64 0,.string ByteArray.empty,.int .i64 0] 194)=w3 at *;generalize u:w.heap.size=X at *;have x0:w3.cell? ⟨X,0,none⟩=some (.int .i64 5):=d.o.c 0;have x1:w3.cell? ⟨X,1,none⟩=some (.int .i64 0):=d.o.c 1;have S:w3.cell? ⟨X,2,none⟩=some (.int .u64 0):=d.o.c 2;have R:w3.cell? ⟨X,3,none⟩=some (.string ByteArray.empty):=d.o.c 3;have U:w3.cell? ⟨X,4,none⟩=some (.iface 127 (.pointer (some ⟨tb n,0,none⟩))):=d.o.c 4;have V:=y.o;have Q:=a.o.c 0;have P:=a.o.c 1;have N:=a.o.c 2;have M:=a.o.c 3;have L:=a.o.c 4;have K:=a.o.Nq 0;have J:=a.o.Nq 1;have H:=a.o.Nq 2;have G:=a.o.Nq 3;have F:=a.o.Nq 4;go_wp2_with fail
  go_region_with (go_at_call 181;refine (B.o _).mono ?_;rintro W D ⟨rfl,rfl⟩)
  all_goals
   obtain ⟨w7,h⟩:∃ w7,w7=((((w3.setCell ⟨X+1,0,none⟩ (.int .i64 5)).setCell ⟨X+1,1,none⟩ (.int .i64 0)).setCell ⟨X+1,2,none⟩ (.int .u64 0)).setCell ⟨X+1,3,none⟩ (.string ByteArray.empty)).setCell ⟨X+1,4,none⟩ (.int .i64 (n:Int)):=⟨_,rfl⟩
   have f:=ah (wM a.o (dh a.o.lt) C.o h);rw [<-h];clear h;have b:=ah (And.intro (f.o.1.keep (Keeps.of ((k w7.heap.size w7).drew) (g _) (fun _=>i)) (fun x=>x)) f.o.2.drew);generalize w7.drew=w8 at *;go_wp2;have r:w8.cell? ⟨X+1,0,none⟩=some (.int .i64 5):=b.o.1.c 0;have q1:w8.cell? ⟨X+1,1,none⟩=some (.int .i64 0):=b.o.1.c 1;have q:w8.cell? ⟨X+1,2,none⟩=some (.int .u64 0):=b.o.1.c 2;have m:w8.cell? ⟨X+1,3,none⟩=some (.string ByteArray.empty):=b.o.1.c 3;have l:w8.cell? ⟨X+1,4,none⟩=some (.int .i64 (n:Int)):=b.o.1.c 4;refine bodyPost_ret (v:=jM (some (.inr n))) ?_ rfl ⟨rfl,by rw [u];exact b.o.2⟩;show _=_;simp [results,Tryz.results122,go_sem,r,q1,q,m,l,jM,vk,vi,vr]
end Go.Proofs.YtbpcdfbmnklcjaaGreatDoor
