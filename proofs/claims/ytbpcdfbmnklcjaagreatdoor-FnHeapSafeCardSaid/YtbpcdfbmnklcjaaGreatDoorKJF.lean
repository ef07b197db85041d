import Derived.Test.YtbpcdfbmnklcjaaGreatDoorKHZQ
import Derived.Test.YtbpcdfbmnklcjaaGreatDoorKHS4
import Derived.Deep.QuietTactic
namespace Go.Proofs.YtbpcdfbmnklcjaaGreatDoor
open Go Go.RowKit
set_option maxHeartbeats 6400000
set_option maxRecDepth 100000
set_option linter.unusedVariables false
variable {B n:Nat} {S:Nat->Prop} {v:Value} {w w':World}
def iw (B:Nat) (w:World) (v:Value) (n:Nat) (f:Nat->Nat):Prop:=
 (n=0/\∃ a cap,v=.slice a 0 cap)∨∃ b o cap,v=.slice (some ⟨b,o,none⟩) n cap/\b<B/\∀ j,j<n->f j<=255/\w.cell? ⟨b,o+j,none⟩=some (.int .u8 (f j:Int))
theorem iw.keep {f:Nat->Nat} (h:iw B w v n f) (k:Keeps w w' S) (g:B<=w.heap.size) (e:∀ b,S b->B<=b):iw B w' v n f:=by
 rcases h with h|⟨b,o,c,rfl,a,d⟩
 ·exact .inl h
 ·refine .inr ⟨b,o,c,rfl,a,fun j hj=>⟨(d j hj).1,?_⟩⟩
  rw [<-(d j hj).2];exact (k.below g e).cell (p:=⟨b,o+j,none⟩) a
def dC (f:Nat->Nat) (n i:Nat):Int:=if i<n then (f i:Int)+1 else 0
def dS (f:Nat->Nat) (n:Nat) (s:Nat × Int):Nat × Int:=(if s.1<n then s.1+1 else s.1,IntKind.u64.wrap (IntKind.u64.wrap (IntKind.u64.wrap (s.2+dC f n s.1)*6364136223846793005)+1442695040888963407))
def dV (k:Int) (s:Nat × Int):Int:=if k<=1 then 0 else wrap64 ((s.2/8589934592).tmod k)
structure DS (B:Nat) (w:World) (S:Nat) (v:Value) (n:Nat) (f:Nat->Nat) (s:Nat × Int):Prop where
 c:iw B w v n f
 n1:n<=1048576
 b:B<=S
 r:aD w 83 S 3 (fun j=>if j=0 then v else if j=1 then .int .i64 (s.1:Int) else .int .u64 s.2)
 x0:0<=s.2
 x1:s.2<18446744073709551616
 i:s.1<=n
theorem jX (X:Int):0<=IntKind.u64.wrap X/\IntKind.u64.wrap X<18446744073709551616:=by
 rw [IntKind.wrap_u64];omega
theorem lD {X:Int} (b:0<=X) (a:X<18446744073709551616):IntKind.u64.wrap X=X:=by
 rw [IntKind.wrap_u64];omega
theorem sM {k:Int} {s:Nat × Int} (c:0<=s.2) (f:s.2<18446744073709551616) (hk:1<=k) (b:k<=9223372036854775807):0<=dV k s/\dV k s<k:=by
 unfold dV;split
 ·omega
 ·have a:0<=s.2/8589934592:=Int.ediv_nonneg c (by omega)
  rw [Int.tmod_eq_emod_of_nonneg a];have e:=Int.emod_nonneg (s.2/8589934592) (show k≠0 by omega);have d:=Int.emod_lt_of_pos (s.2/8589934592) (show 0<k by omega);have:wrap64 (s.2/8589934592%k)=s.2/8589934592%k:=by
   generalize s.2/8589934592%k=y at *;simp [wrap64];omega
  rw [this];exact ⟨e,d⟩
theorem qj (h:Keeps w w' S) (m:Nat):Keeps w (w'.drewN m) S:=⟨h.os,h.tape,h.output,h.size,h.block⟩
theorem DS.Lx {S:Nat} {f:Nat->Nat} {s:Nat × Int} (h:DS B w S v n f s) (m:Nat) (X:Int) (d:0<=X) (a:X<18446744073709551616):DS B ((w.drewN m).setCell ⟨S,2,none⟩ (.int .u64 X)) S v n f (s.1,X)/\Keeps w ((w.drewN m).setCell ⟨S,2,none⟩ (.int .u64 X)) (fun b=>b=S):=by
 have k:Keeps w ((w.drewN m).setCell ⟨S,2,none⟩ (.int .u64 X)) (fun b=>b=S):=(qj (Keeps.refl w _) m).setCell (S:=fun b=>b=S) rfl _;have g:=h.r.lt;have hr:aD (w.drewN m) 83 S 3 _:=h.r;refine ⟨⟨h.c.keep k (by have:=h.b;omega) (fun b e=>e ▸ h.b),h.n1,h.b,(hr.set (j:=2) (by omega) _).congr (fun j hj=>?_),d,a,h.i⟩,k⟩;have:j=0∨j=1∨j=2:=by omega
 rcases this with rfl|rfl|rfl<;>rfl
theorem DS.LZ {S:Nat} {f:Nat->Nat} {s:Nat × Int} (h:DS B w S v n f s) (m i:Nat) (hi:i<=n):DS B ((w.drewN m).setCell ⟨S,1,none⟩ (.int .i64 (i:Int))) S v n f (i,s.2)/\Keeps w ((w.drewN m).setCell ⟨S,1,none⟩ (.int .i64 (i:Int))) (fun b=>b=S):=by
 have k:Keeps w ((w.drewN m).setCell ⟨S,1,none⟩ (.int .i64 (i:Int))) (fun b=>b=S):=(qj (Keeps.refl w _) m).setCell (S:=fun b=>b=S) rfl _;have a:=h.r.lt;have hr:aD (w.drewN m) 83 S 3 _:=h.r;refine ⟨⟨h.c.keep k (by have:=h.b;omega) (fun b e=>e ▸ h.b),h.n1,h.b,(hr.set (j:=1) (by omega) _).congr (fun j hj=>?_),h.x0,h.x1,hi⟩,k⟩;have:j=0∨j=1∨j=2:=by omega
 rcases this with rfl|rfl|rfl<;>rfl
def ED (B S:Nat) (v:Value) (n:Nat) (f:Nat->Nat) (s:Nat × Int) (k:Int) (w:World) (e:Ending) (w':World):Prop:=
 e=.returned (.int .i64 (dV k (dS f n s)))/\DS B w' S v n f (dS f n s)/\Keeps w w' (fun b=>b=S)
theorem ED.LV {S:Nat} {f:Nat->Nat} {s:Nat × Int} {k:Int} (h:DS B w S v n f s) (a:¬ s.1<n) (m:Nat) (y:Int) (b:y=dV k (dS f n s)):
 ED B S v n f s k w (.returned (.int .i64 y)) ((w.drewN m).setCell ⟨S,2,none⟩ (.int .u64 (IntKind.u64.wrap (IntKind.u64.wrap (s.2*6364136223846793005)+1442695040888963407)))):=by
 have e:dS f n s=(s.1,IntKind.u64.wrap (IntKind.u64.wrap (s.2*6364136223846793005)+1442695040888963407)):=by
  unfold dS dC;rw [if_neg a,if_neg a,Int.add_zero,lD h.x0 h.x1]
 have hr:=jX (IntKind.u64.wrap (s.2*6364136223846793005)+1442695040888963407);obtain ⟨d,c⟩:=h.Lx m _ hr.1 hr.2;refine ⟨by rw [b],?_,c⟩;rw [e];exact d
theorem ED.LX {S:Nat} {f:Nat->Nat} {s:Nat × Int} {k:Int} (h:DS B w S v n f s) (a:s.1<n) (m:Nat) (y:Int) (d:y=dV k (dS f n s)):
 ED B S v n f s k w (.returned (.int .i64 y)) (((w.drewN m).setCell ⟨S,1,none⟩ (.int .i64 ((s.1+1:Nat):Int))).setCell ⟨S,2,none⟩ (.int .u64 (IntKind.u64.wrap (IntKind.u64.wrap (IntKind.u64.wrap (s.2+((f s.1:Int)+1))*6364136223846793005)+1442695040888963407)))):=by
 have e:dS f n s=(s.1+1,IntKind.u64.wrap (IntKind.u64.wrap (IntKind.u64.wrap (s.2+((f s.1:Int)+1))*6364136223846793005)+1442695040888963407)):=by
  unfold dS dC;rw [if_pos a,if_pos a]
 have hr:=jX (IntKind.u64.wrap (IntKind.u64.wrap (s.2+((f s.1:Int)+1))*6364136223846793005)+1442695040888963407);obtain ⟨i,c⟩:=h.LZ m (s.1+1) a;obtain ⟨g,b⟩:=i.Lx 0 _ hr.1 hr.2;refine ⟨by rw [d],?_,c.trans b⟩;rw [e];exact g
theorem Ch (B S:Nat) (v:Value) (n:Nat) (f:Nat->Nat) (s:Nat × Int) (k:Int) (w:World) (hk:1<=k) (E:k<=9223372036854775807) (h:DS B w S v n f s):
 Calls Tryz.prog 21 #[.pointer (some ⟨S,0,none⟩),.int .i64 k] w (ED B S v n f s k w):=by
 have u:=ah h;obtain ⟨i,x⟩:=s;have P:w.cell? ⟨S,0,none⟩=some v:=h.r.c 0;have N:w.cell? ⟨S,1,none⟩=some (.int .i64 (i:Int)):=h.r.c 1;have M:w.cell? ⟨S,2,none⟩=some (.int .u64 x):=h.r.c 2;have K:w.frozen? ⟨S,1,none⟩=false:=h.r.Nq 1;have J:w.frozen? ⟨S,2,none⟩=false:=h.r.Nq 2;have hi:i<=n:=h.i;have D:=h.n1;have l:0<=x:=h.x0;have j:x<18446744073709551616:=h.x1;have HV:=ah (show ∀ (t:Nat × Int),(k<=1->0=dV k t)/\(¬ k<=1->wrap64 ((t.2/8589934592).tmod k)=dV k t) from fun t=>⟨fun c=>by unfold dV;rw [if_pos c],fun c=>by unfold dV;rw [if_neg c]⟩);have A:=ah (fun (hn:¬ i<n) m y hy=>ED.LV (k:=k) u.o hn m y hy);have z:=ah (fun (hn:i<n) m y hy=>ED.LX (k:=k) u.o hn m y hy);have p:=h.c;by_cases d:i<n
 ·have G:=ah (show dS f n (i,x)=(i+1,IntKind.u64.wrap (IntKind.u64.wrap (IntKind.u64.wrap (x+((f i:Int)+1))*6364136223846793005)+1442695040888963407)) by
   unfold dS dC;simp only;rw [if_pos d,if_pos d])
  rcases p with ⟨rfl,_⟩|⟨b,o,e,rfl,hb,q⟩
  ·omega
  obtain ⟨L,F⟩:=q i d;clear h q;by_cases g:k<=1
  ·go_enter Tryz.func21,Tryz.ntmps21
   go_wp2;go_quiet (fail);go_wp2;go_quiet (fail);go_wp2;go_ret;exact z.o d _ 0 ((HV.out _).1 g)
  ·go_enter Tryz.func21,Tryz.ntmps21
   go_wp2;go_quiet (fail);go_wp2;go_quiet (fail);go_wp2;go_ret;refine z.o d _ _ ?_;rw [<-(HV.out _).2 g,G.o]
 ·have H:=ah (show dS f n (i,x)=(i,IntKind.u64.wrap (IntKind.u64.wrap (x*6364136223846793005)+1442695040888963407)) by
   unfold dS dC;simp only;rw [if_neg d,if_neg d,Int.add_zero,lD l j])
  have C:∃ a e,v=.slice a n e:=by
   rcases p with ⟨rfl,a,e,rfl⟩|⟨b,o,e,rfl,_⟩
   ·exact ⟨a,e,rfl⟩
   ·exact ⟨_,e,rfl⟩
  obtain ⟨a,e,rfl⟩:=C;clear h p;by_cases g:k<=1
  ·go_enter Tryz.func21,Tryz.ntmps21
   go_wp2;go_quiet (fail);go_wp2;go_ret;exact A.o d _ 0 ((HV.out _).1 g)
  ·go_enter Tryz.func21,Tryz.ntmps21
   go_wp2;go_quiet (fail);go_wp2;go_ret;refine A.o d _ _ ?_;rw [<-(HV.out _).2 g,H.o]
end Go.Proofs.YtbpcdfbmnklcjaaGreatDoor
