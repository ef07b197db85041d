import Derived.Test.YtlgodacccilabaaGreatDoorQ5
import Derived.Test.YtlgodacccilabaaGreatDoorPP
namespace Go.Proofs.YtlgodacccilabaaGreatDoor
open Go Go.RowKit Go.Shelf
set_option linter.unusedVariables false
theorem extract_0 (s:ByteArray) {a k:Nat} (h:a+k≤s.size):(s.extract a s.size).extract 0 k=s.extract a (a+k):=by
 apply ByteArray.ext
 simp only [ByteArray.data_extract,Array.extract_extract]
 rw [Nat.add_zero,Nat.min_eq_left h]
def prefB (a b:ByteArray):Bool:=decide (b.size≤a.size∧a.extract 0 b.size=b)
set_option maxHeartbeats 800000 in
set_option maxRecDepth 100000 in
theorem pref0_any (a b:ByteArray) (w:World) (ha:a.size≤1000000) (hb:b.size≤1000000):
 Calls Tryz.prog 64 #[.string a,.string b] w fun e w'=>e=.returned (.bool (prefB a b))∧w'=w:=by
 by_cases h:b.size≤a.size
 ·have h2:(b.size:Int)≤(a.size:Int):=by omega
  have hsl:∀ w':World,(Instr.slice 9 (.string a) none (some (.int .i64 (b.size:Int))) none).run Tryz.prog w'=.ok (.string (a.extract 0 b.size)) w':=fun w'=>by
   rw [run_slice_string_to_if w' 9 a .i64 (b.size:Int) Tryz.underlying9]
   simp [h]
  by_cases he:a.extract 0 b.size=b
  ·have HD:=hide (show prefB a b=true from decide_eq_true ⟨h,he⟩)
   rw [he] at hsl
   clear he
   go_enter Tryz.func64,Tryz.ntmps64
   go_wp2_with fail
   refine bodyPost_ret (v:=.bool true) ?_ rfl ⟨ret_b HD.out.symm,rfl⟩
   simp [results,Tryz.results64,go_sem]
  ·have HD:=hide (show prefB a b=false from decide_eq_false (fun x=>he x.2))
   have hEb:((a.extract 0 b.size).toList==b.toList)=false:=by rw [toList_eq];exact decide_eq_false he
   clear he
   go_enter Tryz.func64,Tryz.ntmps64
   go_wp2_with fail
   refine bodyPost_ret (v:=.bool false) ?_ rfl ⟨ret_b HD.out.symm,rfl⟩
   simp [results,Tryz.results64,go_sem]
 ·have h2:¬ ((b.size:Int)≤(a.size:Int)):=by omega
  have HD:=hide (show prefB a b=false from decide_eq_false (fun x=>h x.1))
  go_enter Tryz.func64,Tryz.ntmps64
  go_wp2_with fail
  refine bodyPost_ret (v:=.bool false) ?_ rfl ⟨ret_b HD.out.symm,rfl⟩
  simp [results,Tryz.results64,go_sem]
set_option maxHeartbeats 800000 in
set_option maxRecDepth 100000 in
theorem pref_any (a b:ByteArray) (w:World) (ha:a.size≤1000000) (hb:b.size≤1000000):
 Calls Tryz.prog 84 #[.string a,.string b] w fun e w'=>e=.returned (.bool (prefB a b))∧w'=w:=by
 go_enter Tryz.func84,Tryz.ntmps84
 go_wp2_with fail
 refine (pref0_any a b w ha hb).mono ?_
 rintro e w1 ⟨rfl,hw⟩
 obtain rfl:=hw.symm
 go_wp2_with fail
 refine bodyPost_ret (v:=.bool (prefB a b)) ?_ rfl ⟨rfl,rfl⟩
 simp [results,Tryz.results84,go_sem]
def backM (s:ByteArray) (b:Bool) (x y:Nat) (nx:Nx) (at_:Nat) (σ:Ms):Option Nat × Ms:=
 if b=true then (none,σ) else if s.size<at_+(y-x)∨s.extract at_ (at_+(y-x))≠s.extract x y then (none,σ) else nx (at_+(y-x)) σ
set_option maxHeartbeats 3200000 in
set_option maxRecDepth 100000 in
theorem it_back (X:Sx) (pre:List It) (it:It) (nx:Nx) (fn:Nat) (bd cs:Array Value) (D:World→Prop) (at_:Nat) (σ:Ms) (nt:Nt) (to_:Nat) (w:World) (hs:X.s.size≤65536)
 (hx:WyOk X (pre++[it]) nx fn bd cs D) (hD:D w) (hb:SB w X.S X.s X.fx X.cn X.wh σ.steps nt to_) (ha:at_≤X.s.size) (h5:σ.steps≤50000) (hc:Cap (pre++[it]) σ at_) (hg:Ag (pre++[it]) nt σ) (B:Nat) (hBx:w.cell? ⟨B,0,none⟩=some (.int .i64 it.n)) (hn:it.n<16) (b:Bool) (x y:Nat) (hnt:nt it.n=(b,x,y)) (hxy:x≤y) (hya:y≤at_):
 Calls Tryz.prog 83 #[.pointer (some ⟨X.S,0,none⟩),.int .i64 at_,.func (.func fn) bd cs,.pointer (some ⟨B,0,none⟩)] w fun e w'=>WyR X pre w nt (backM X.s b x y nx at_ σ) e w':=by
 obtain ⟨S,s,fx,cn,wh,its⟩:=X
 dsimp only at *
 have e1:=hx.en
 have HX:=hide hx
 have HD:=hide hD
 have HB:=hide hb
 have HC:=hide hc
 have HG:=hide hg
 have c0:=hb.subj
 clear hx hD hb hc hg
 have n0:=HB.out.n0 hn
 have n1:=HB.out.n1 hn
 have n2:=HB.out.n2 hn
 rw [hnt] at n0 n1 n2
 dsimp only at n0 n1 n2
 have hSl:S<w.heap.size:=RowF.lt HB.out
 have hBl:B<w.heap.size:=World.block_lt_of_cell? w ⟨B,0,none⟩ hBx
 have hb9:=b_1 w (.cells #[Value.bool false,.int .i64 0,.int .i64 0] 56)
 have m0:=(hb9.cell (p:=⟨S,5+it.n*3,none⟩) hSl).trans n0
 have m1:=(hb9.cell (p:=⟨S,5+it.n*3+1,none⟩) hSl).trans n1
 have m2:=(hb9.cell (p:=⟨S,5+it.n*3+2,none⟩) hSl).trans n2
 have m3:=(hb9.cell (p:=⟨B,0,none⟩) hBl).trans hBx
 have hn2:(it.n:Int)<16:=by omega
 have kA:Keeps w (w.alloc (.cells #[Value.bool b,.int .i64 x,.int .i64 y] 56)).drew (fun _=>False):=(Keeps.of (b_1 w _) (Nat.le_refl _) _).drw
 have HB1:=hide (HB.out.keep kA (fun x=>x))
 have HD1:=hide (HX.out.keep _ _ HD.out (kA.mono (fun b hb=>hb.elim)))
 have HK1:=hide (kA.mono (S':=fun b=>b=S) (fun b hb=>hb.elim))
 have HV1:=hide (show RowF (w.alloc (.cells #[Value.bool b,.int .i64 x,.int .i64 y] 56)).drew 56 w.heap.size 3 (fun j=>#[Value.bool b,.int .i64 x,.int .i64 y].getD j (.bool false)) from (RowF.mk' w 56 #[Value.bool b,.int .i64 x,.int .i64 y]).keep ((Keeps.refl _ (fun _=>False)).drw) (fun x=>x))
 clear hnt hb9 kA
 go_enter Tryz.func83,Tryz.ntmps83
 go_wp2_with fail
 go_region
 clear n0 n1 n2 m0 m1 m2 m3 hBx c0 HB HD
 generalize (w.alloc (.cells #[Value.bool b,.int .i64 x,.int .i64 y] 56)).drew=w1 at *
 generalize w.heap.size=V at *
 have HB:=HB1
 have HD:=HD1
 have HK:=HK1
 have HV:=HV1
 clear HB1 HD1 HK1 HV1
 have c0:=HB.out.subj
 have v1:w1.cell? ⟨V,1,none⟩=some (.int .i64 x):=HV.out.cell (j:=1) (by omega)
 have v2:w1.cell? ⟨V,2,none⟩=some (.int .i64 y):=HV.out.cell (j:=2) (by omega)
 have hTs:(s.extract x y).size=y-x:=by rw [ByteArray.size_extract];omega
 have hsl:∀ w':World,(Instr.slice 9 (.string s) (some (.int .i64 (x:Int))) (some (.int .i64 (y:Int))) none).run Tryz.prog w'=.ok (.string (s.extract x y)) w':=fun w'=>by
  rw [run_slice_string w' 9 s .i64 .i64 _ _ Tryz.underlying9 (by omega) (by omega) (by omega),Int.toNat_natCast,Int.toNat_natCast]
 have HBK:=hide (show backM s b x y nx at_ σ=if b=true then (none,σ) else if s.size<at_+(s.extract x y).size∨s.extract at_ (at_+(s.extract x y).size)≠s.extract x y then (none,σ) else nx (at_+(s.extract x y).size) σ by rw [backM,hTs])
 have hT9:(s.extract x y).size≤65536:=by omega
 clear hTs
 generalize s.extract x y=T at *
 go_wp2_with fail
 go_quiet (fail)
 have HD:=hide (HX.out.keep _ _ HD.out (((Keeps.refl w1 (fun b=>b=S))).drewN nq))
 have HB:=hide (HB.out.keep ((Keeps.refl w1 (fun _=>False)).drewN nq) (fun x=>x))
 have HK:=hide (HK.out.drewN nq)
 have HV:=hide (HV.out.keep ((Keeps.refl w1 (fun _=>False)).drewN nq) (fun x=>x))
 generalize w1.drewN nq=w2 at *
 clear c0 v1 v2 hsl
 have c0:=HB.out.subj
 have v0:w2.cell? ⟨V,0,none⟩=some (.bool b):=HV.out.cell (j:=0) (by omega)
 cases b with
 |true=>
  have HO:=hide (HBK.out.trans (if_pos rfl))
  go_wp2_with fail
  refine bodyPost_ret (v:=.int .i64 0) ?_ rfl (WyR.fail HO.out HK.out HB.out h5 (Sm.rfl' _ _))
  simp [results,Tryz.results83,go_sem]
 |false=>
  have HBK2:=hide (HBK.out.trans (if_neg (by simp)))
  have hsf:∀ w':World,(Instr.slice 9 (.string s) (some (.int .i64 (at_:Int))) none none).run Tryz.prog w'=.ok (.string (s.extract at_ s.size)) w':=fun w'=>by
   rw [run_slice_string_from_if w' 9 s .i64 (at_:Int) Tryz.underlying9]
   simp [ha]
  have hes:(s.extract at_ s.size).size=s.size-at_:=by rw [ByteArray.size_extract];omega
  have HPr:=hide (fun w9=>pref_any (s.extract at_ s.size) T w9 (by omega) (by omega))
  have HES:=hide hes
  clear hes
  go_wp2_with fail
  refine (HPr.out _).mono ?_
  rintro e w3 ⟨rfl,hw⟩
  obtain rfl:=hw.symm
  by_cases hp:T.size≤(s.extract at_ s.size).size∧(s.extract at_ s.size).extract 0 T.size=T
  ·have hpb:prefB (s.extract at_ s.size) T=true:=decide_eq_true hp
   have hin:at_+T.size≤s.size:=by have h9:=hp.1;rw [HES.out] at h9;omega
   have hEq:s.extract at_ (at_+T.size)=T:=by rw [←extract_0 s hin];exact hp.2
   have HO:=hide (HBK2.out.trans (if_neg (by rintro (h|h);omega;exact h hEq)))
   clear hp hEq
   rw [hpb]
   clear hpb
   go_wp2_with fail
   refine (HX.out.go (at_+T.size) _ σ nt to_ _ (by omega) HD.out HB.out (show at_+T.size≤s.size by omega) h5 (HC.out.le (by omega) rfl rfl) HG.out).mono ?_
   rintro e w4 hw
   have HW:=hide (hw.sub (nt:=nt) HO.out HK.out (Sm.rfl' _ _))
   obtain ⟨v,hv⟩:=WyR.val hw
   obtain rfl:=hv
   clear hw
   go_wp2_with fail
   refine bodyPost_ret (v:=.int .i64 v) ?_ rfl (HW.out)
   simp [results,Tryz.results83,go_sem]
  ·have hpb:prefB (s.extract at_ s.size) T=false:=decide_eq_false hp
   have HO:=hide (HBK2.out.trans (if_pos (by
    rcases Nat.lt_or_ge s.size (at_+T.size) with c|c
    ·exact .inl c
    ·refine .inr fun h=>hp ⟨by rw [HES.out];omega,?_⟩
     rw [extract_0 s c];exact h)))
   clear hp
   rw [hpb]
   clear hpb
   go_wp2_with fail
   refine bodyPost_ret (v:=.int .i64 0) ?_ rfl (WyR.fail HO.out HK.out HB.out h5 (Sm.rfl' _ _))
   simp [results,Tryz.results83,go_sem]
end Go.Proofs.YtlgodacccilabaaGreatDoor
