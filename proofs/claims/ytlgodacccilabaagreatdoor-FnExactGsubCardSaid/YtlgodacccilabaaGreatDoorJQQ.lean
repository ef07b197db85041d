import Derived.Test.YtlgodacccilabaaGreatDoorJQL
namespace Go.Proofs.YtlgodacccilabaaGreatDoor
open Go Go.RowKit Go.Shelf
set_option linter.unusedVariables false
def rdF (rest:ByteArray) (vi vo vc:Value):Nat→Value
 |0=>.string rest
 |1=>vi
 |2=>vo
 |_=>vc
def PR (w:World) (R:Nat) (rest:ByteArray) (vi vo vc:Value):Prop:=RowF w 77 R 4 (rdF rest vi vo vc)
theorem PR.setR {w:World} {R:Nat} {rest:ByteArray} {vi vo vc:Value} (h:PR w R rest vi vo vc) (r:ByteArray):PR (w.setCell ⟨R,0,none⟩ (.string r)) R r vi vo vc:=by
 refine (RowF.set h (j:=0) (by omega) (.string r)).congr fun j hj=>?_
 rcases j with _|_|_|_|j<;>simp [rdF]
set_option maxHeartbeats 800000 in
theorem takeByte_any (R:Nat) (rest:ByteArray) (vi vo vc:Value) (w:World) (hr:0<rest.size) (hl:rest.size≤1000) (h:PR w R rest vi vo vc):
 Calls Tryz.prog 70 #[.pointer (some ⟨R,0,none⟩)] w fun e w'=>e=.returned (.int .u8 (hb rest 0))∧PR w' R (rest.extract 1 rest.size) vi vo vc∧Keeps w w' (fun b=>b=R):=by
 have c:w.cell? ⟨R,0,none⟩=some (.string rest):=RowF.cell h (j:=0) (by omega)
 have z:w.frozen? ⟨R,0,none⟩=false:=RowF.frz h 0
 have hix:∀ w':World,(Instr.index 9 (.string rest) (.int .i64 0)).run Tryz.prog w'=.ok (.int .u8 (hb rest 0)) w':=fun w'=>by
  have:=idx_str rest (i:=0) w' (by omega) (by omega)
  simpa using this
 have hsl:∀ w':World,(Instr.slice 9 (.string rest) (some (.int .i64 1)) none none).run Tryz.prog w'=.ok (.string (rest.extract 1 rest.size)) w':=fun w'=>by
  rw [run_slice_string_from_if w' 9 rest .i64 1 Tryz.underlying9]
  rw [if_pos (by omega)]
  rfl
 have HP:=hide (h.setR (rest.extract 1 rest.size))
 have HK:=hide ((Keeps.refl w (fun b=>b=R)).setCell (g:=R) (j:=0) rfl (.string (rest.extract 1 rest.size)))
 clear h
 go_enter Tryz.func70,Tryz.ntmps70
 go_wp2
 exact bodyPost_ret (results_tmp rfl _ _ _) rfl ⟨rfl,HP.out,HK.out⟩
end Go.Proofs.YtlgodacccilabaaGreatDoor
namespace Go.Proofs.YtlgodacccilabaaGreatDoor
open Go Go.RowKit Go.Shelf
set_option linter.unusedVariables false
def cutB (a b:ByteArray):ByteArray:=if prefB a b=true then a.extract b.size a.size else a
theorem cutB_yes {a b:ByteArray} (h:prefB a b=true):cutB a b=a.extract b.size a.size:=if_pos h
theorem cutB_no {a b:ByteArray} (h:prefB a b=false):cutB a b=a:=if_neg (by simp [h])
set_option maxHeartbeats 800000 in
set_option maxRecDepth 100000 in
theorem cut0_any (a b:ByteArray) (w:World) (ha:a.size≤1000000) (hb:b.size≤1000000):
 Calls Tryz.prog 46 #[.string a,.string b] w fun e w'=>e=.returned (.tuple #[.string (cutB a b),.bool (prefB a b)])∧w'=w:=by
 go_enter Tryz.func46,Tryz.ntmps46
 go_wp2_with fail
 refine (pref0_any a b w ha hb).mono ?_
 rintro e w1 ⟨rfl,hw⟩
 obtain rfl:=hw.symm
 cases hp:prefB a b
 ·have HC:=hide (And.intro (cutB_no hp) hp)
  clear hp
  go_wp2_with fail
  refine bodyPost_ret (v:=.tuple #[.string a,.bool false]) ?_ rfl ⟨by rw [HC.out.1,HC.out.2],rfl⟩
  simp [results,Tryz.results46,go_sem]
 ·have hle:b.size≤a.size:=(of_decide_eq_true hp).1
  have hsl:∀ w':World,(Instr.slice 9 (.string a) (some (.int .i64 (b.size:Int))) none none).run Tryz.prog w'=.ok (.string (a.extract b.size a.size)) w':=fun w'=>by
   rw [run_slice_string_from_if w' 9 a .i64 (b.size:Int) Tryz.underlying9]
   simp [hle]
  have HC:=hide (And.intro (cutB_yes hp) hp)
  clear hp
  go_wp2_with fail
  refine bodyPost_ret (v:=.tuple #[.string (a.extract b.size a.size),.bool true]) ?_ rfl ⟨by rw [HC.out.1,HC.out.2],rfl⟩
  simp [results,Tryz.results46,go_sem]
set_option maxHeartbeats 800000 in
set_option maxRecDepth 100000 in
theorem cut_any (a b:ByteArray) (w:World) (ha:a.size≤1000000) (hb:b.size≤1000000):
 Calls Tryz.prog 27 #[.string a,.string b] w fun e w'=>e=.returned (.tuple #[.string (cutB a b),.bool (prefB a b)])∧w'=w:=by
 go_enter Tryz.func27,Tryz.ntmps27
 go_wp2_with fail
 refine (cut0_any a b w ha hb).mono ?_
 rintro e w1 ⟨rfl,hw⟩
 obtain rfl:=hw.symm
 go_wp2_with fail
 refine bodyPost_ret (v:=.tuple #[.string (cutB a b),.bool (prefB a b)]) ?_ rfl ⟨rfl,rfl⟩
 simp [results,Tryz.results27,go_sem]
set_option maxHeartbeats 800000 in
set_option maxRecDepth 100000 in
theorem takes_any (R:Nat) (rest b:ByteArray) (vi vo vc:Value) (w:World) (hl:rest.size≤1000) (hb:b.size≤1000) (h:PR w R rest vi vo vc):
 Calls Tryz.prog 18 #[.pointer (some ⟨R,0,none⟩),.string b] w fun e w'=>e=.returned (.bool (prefB rest b))∧PR w' R (cutB rest b) vi vo vc∧Keeps w w' (fun b=>b=R):=by
 have c:w.cell? ⟨R,0,none⟩=some (.string rest):=RowF.cell h (j:=0) (by omega)
 have z:w.frozen? ⟨R,0,none⟩=false:=RowF.frz h 0
 have HP:=hide (h.setR (cutB rest b))
 have HK:=hide ((Keeps.refl w (fun b=>b=R)).setCell (g:=R) (j:=0) rfl (.string (cutB rest b)))
 clear h
 go_enter Tryz.func18,Tryz.ntmps18
 go_wp2_with fail
 refine (cut_any rest b w (by omega) (by omega)).mono ?_
 rintro e w1 ⟨rfl,hw⟩
 obtain rfl:=hw.symm
 go_wp2_with fail
 refine bodyPost_ret (v:=.bool (prefB rest b)) ?_ rfl ⟨rfl,HP.out,HK.out⟩
 simp [results,Tryz.results18,go_sem]
end Go.Proofs.YtlgodacccilabaaGreatDoor
namespace Go.Proofs.YtlgodacccilabaaGreatDoor
open Go Go.RowKit Go.Shelf
set_option linter.unusedVariables false
set_option maxHeartbeats 800000 in
theorem isEmpty_any (R o n cap:Nat) (a:Option Addr) (w:World) (hn:n≤1000) (h:w.cell? ⟨R,o,none⟩=some (.slice a n cap)):
 Calls Tryz.prog 29 #[.pointer (some ⟨R,o,none⟩)] w fun e w'=>e=.returned (.bool (decide (n=0)))∧w'=w:=by
 rcases Nat.eq_zero_or_pos n with rfl|hp
 ·go_enter Tryz.func29,Tryz.ntmps29
  go_wp2
  exact bodyPost_ret (results_tmp rfl _ _ _) rfl ⟨rfl,rfl⟩
 ·have h1:((n:Int)==0)=false:=by simp;omega
  have HD:=hide (show decide (n=0)=false by simp;omega)
  go_enter Tryz.func29,Tryz.ntmps29
  go_wp2
  refine bodyPost_ret (v:=.bool false) ?_ rfl ⟨by rw [HD.out],rfl⟩
  simp [results,Tryz.results29,go_sem]
set_option maxHeartbeats 800000 in
theorem takeLast_any (R o n cap g:Nat) (x:Int) (w:World) (h0:0<n) (hm:n≤1000) (hc:n≤cap) (h:w.cell? ⟨R,o,none⟩=some (.slice (some ⟨g,0,none⟩) n cap)) (hf:w.frozen? ⟨R,o,none⟩=false) (hx:w.cell? ⟨g,n-1,none⟩=some (.int .i64 x)):
 Calls Tryz.prog 67 #[.pointer (some ⟨R,o,none⟩)] w fun e w'=>e=.returned (.int .i64 x)∧w'=w.setCell ⟨R,o,none⟩ (.slice (some ⟨g,0,none⟩) (n-1) cap):=by
 have h3:(n:Int)-1≤(cap:Int):=by omega
 have h4:((n:Int)-1).toNat=n-1:=by omega
 have h5:0≤(n:Int)-1:=by omega
 go_enter Tryz.func67,Tryz.ntmps67
 go_wp2
 exact bodyPost_ret (results_tmp rfl _ _ _) rfl ⟨rfl,rfl⟩
end Go.Proofs.YtlgodacccilabaaGreatDoor
namespace Go.Proofs.YtlgodacccilabaaGreatDoor
open Go Go.RowKit Go.Shelf
set_option linter.unusedVariables false
theorem hb_ext {a:ByteArray} {k j:Nat}:hb (a.extract k a.size) j=hb a (k+j):=by
 unfold hb
 by_cases h:k+j<a.size
 ·rw [dif_pos h,dif_pos (by simp;omega)]
  simp [ByteArray.getElem_extract]
 ·rw [dif_neg h,dif_neg (by simp;omega)]
end Go.Proofs.YtlgodacccilabaaGreatDoor
namespace Go.Proofs.YtlgodacccilabaaGreatDoor
open Go Go.RowKit Go.Shelf
set_option linter.unusedVariables false
def isRg (r:ByteArray):Bool:=decide (2≤r.size)&&decide (hb r 0=45)&&decide (hb r 1≠37)&&decide (hb r 1≠93)
set_option maxHeartbeats 1600000 in
set_option maxRecDepth 100000 in
theorem isRange_any (R:Nat) (rest:ByteArray) (vi vo vc:Value) (w:World) (hl:rest.size≤1000) (h:PR w R rest vi vo vc):
 Calls Tryz.prog 98 #[.pointer (some ⟨R,0,none⟩)] w fun e w'=>e=.returned (.bool (isRg rest))∧w'=w:=by
 have c:w.cell? ⟨R,0,none⟩=some (.string rest):=RowF.cell h (j:=0) (by omega)
 clear h
 go_enter Tryz.func98,Tryz.ntmps98
 by_cases hs:2≤rest.size
 ·have h1:(2:Int)≤(rest.size:Int):=by omega
  have hi0:∀ w':World,(Instr.index 9 (.string rest) (.int .i64 0)).run Tryz.prog w'=.ok (.int .u8 (hb rest 0)) w':=fun w'=>by
   have:=idx_str rest (i:=0) w' (by omega) (by omega)
   simpa using this
  have hi1:∀ w':World,(Instr.index 9 (.string rest) (.int .i64 1)).run Tryz.prog w'=.ok (.int .u8 (hb rest 1)) w':=fun w'=>by
   have:=idx_str rest (i:=1) w' (by omega) (by omega)
   simpa using this
  have HD:=hide (show isRg rest=(decide (hb rest 0=45)&&decide (hb rest 1≠37)&&decide (hb rest 1≠93)) by simp [isRg,hs])
  generalize hb rest 0=x at hi0 HD
  generalize hb rest 1=y at hi1 HD
  by_cases hx:x=45
  ·by_cases hy:y=37
   ·have HV:=hide (show isRg rest=false by rw [HD.out];simp [hy])
    go_wp2_with fail
    refine bodyPost_ret (v:=.bool false) ?_ rfl ⟨by rw [HV.out],rfl⟩
    simp [results,Tryz.results98,go_sem]
   ·by_cases hz:y=93
    ·have HV:=hide (show isRg rest=false by rw [HD.out];simp [hz])
     go_wp2_with fail
     refine bodyPost_ret (v:=.bool false) ?_ rfl ⟨by rw [HV.out],rfl⟩
     simp [results,Tryz.results98,go_sem]
    ·have HV:=hide (show isRg rest=true by rw [HD.out];simp [hx,hy,hz])
     go_wp2_with fail
     refine bodyPost_ret (v:=.bool true) ?_ rfl ⟨by rw [HV.out],rfl⟩
     simp [results,Tryz.results98,go_sem,hy,hz]
  ·have HV:=hide (show isRg rest=false by rw [HD.out];simp [hx])
   go_wp2_with fail
   refine bodyPost_ret (v:=.bool false) ?_ rfl ⟨by rw [HV.out],rfl⟩
   simp [results,Tryz.results98,go_sem]
 ·have h1:¬ (2:Int)≤(rest.size:Int):=by omega
  have HV:=hide (show isRg rest=false by simp [isRg];omega)
  go_wp2_with fail
  refine bodyPost_ret (v:=.bool false) ?_ rfl ⟨by rw [HV.out],rfl⟩
  simp [results,Tryz.results98,go_sem]
end Go.Proofs.YtlgodacccilabaaGreatDoor
