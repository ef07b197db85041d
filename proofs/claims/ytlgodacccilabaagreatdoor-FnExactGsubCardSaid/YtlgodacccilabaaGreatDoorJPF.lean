import Derived.Test.YtlgodacccilabaaGreatDoorPD
namespace Go.Proofs.YtlgodacccilabaaGreatDoor
open Go Go.RowKit
set_option linter.unusedVariables false
def SetF (w:World) (g:Nat) (f:Nat→Bool):Prop:=RowF w 4 g 256 (fun j=>.bool (f j))
theorem SetF.put {w:World} {g:Nat} {f:Nat→Bool} (h:SetF w g f) {j:Nat} (hj:j<256):SetF (w.setCell ⟨g,j,none⟩ (.bool true)) g (fun c=>f c||decide (c=j)):=
 (RowF.set h hj (.bool true)).congr fun i hi=>by
   by_cases e:i=j
   ·simp [e]
   ·simp [e]
theorem SetF.congr {w:World} {g:Nat} {f f':Nat→Bool} (h:SetF w g f) (hf:∀ j,j<256→f j=f' j):SetF w g f':=RowF.congr h fun j hj=>by rw [hf j hj]
set_option maxHeartbeats 4000000 in
set_option maxRecDepth 100000 in
theorem escape_up (g:Nat) (f:Nat→Bool) (k:Int) (w:World) (h0:0≤k) (h1:k<256) (hu:65≤k∧k≤90) (h:SetF w g f):
 Calls Tryz.prog 62 #[.slice (some ⟨g,0,none⟩) 256 256,.int .u8 k] w fun e w'=>e=.returned (.bool (escOk k))∧Keeps w w' (fun b=>b=g)∧(escOk k=true→SetF w' g (fun c=>f c||escIn k c)):=by
 have HR:=hide h
 clear h
 have hL:lowK k=k+32:=by unfold lowK;rw [if_pos hu]
 have HZ:=hide (show escOk k=(clsIs (k+32)||(!isLow (k+32)&&!isDg k)) by unfold escOk;rw [hL])
 have HI:=hide (show ∀ c:Int,escIn k c=if clsIs (k+32) then !cls (k+32) c else decide (c=k) by
  intro c
  unfold escIn
  rw [hL]
  split
  ·rw [decide_eq_false (show ¬ (k+32=k) by omega)];cases cls (k+32) c<;>rfl
  ·rfl)
 clear hL
 obtain ⟨kn,rfl⟩:=Int.eq_ofNat_of_zero_le h0
 have hu1:65≤(kn:Int):=hu.1
 have hu2:(kn:Int)≤90:=hu.2
 clear hu;have hne:((kn:Int)+32==(kn:Int))=false:=beq_eq_false_iff_ne.2 (by omega)
 go_enter Tryz.func62,Tryz.ntmps62
 go_wp2_with fail
 refine (class_any _ 0 w (by omega) (by omega)).mono ?_
 rintro e w1 ⟨rfl,rfl⟩
 cases hc:clsIs ((kn:Int)+32) with
 |false=>
  rw [hc] at HZ HI
  have c0:=RowF.cell HR.out (j:=kn) (by omega)
  have z0:=RowF.frz HR.out kn
  have HS:=hide (SetF.put HR.out (j:=kn) (by omega))
  have HK:=hide ((Keeps.refl w1 (fun b=>b=g)).setCell (g:=g) (j:=kn) rfl (.bool true))
  go_wp2_with fail
  all_goals
   refine bodyPost_ret (v:=.bool (escOk (kn:Int))) ?_ rfl ⟨rfl,HK.out,fun _=>HS.out.congr fun j hj=>?_⟩
   ·rw [HZ.out]
    simp [results,Tryz.results62,go_sem,isLow,isDg]
    all_goals try (rw [Bool.eq_iff_iff];simp)
    all_goals omega
   ·rw [HI.out,if_neg (by simp),show decide ((j:Int)=(kn:Int))=decide (j=kn) from decide_eq_decide.2 (by omega)]
 |true=>
  rw [hc] at HZ HI
  go_wp2_with fail
  go_loopw [8] (fun cv wr=>∃ i:Nat,i≤256∧cv=.int .i64 i∧Hid (SetF wr g (fun c=>f c||(decide (c<i)&&escIn kn c)))∧Hid (Keeps w1 wr (fun b=>b=g))) (fun cv _=>256-ivN cv)
  case atStart=>exact ⟨0,by omega,rfl,hide (HR.out.congr fun j hj=>by simp),hide (Keeps.refl _ _)⟩
  case round=>
   obtain ⟨i,hi9,rfl,HRw,HKw⟩:=hrel
   by_cases hin:i<256
   ·go_wp2_with fail
    refine (class_any _ (i:Int) wr (by omega) (by omega)).mono ?_
    rintro e w2 ⟨rfl,rfl⟩
    have HIi:=hide (HI.out (i:Int))
    cases hq:cls ((kn:Int)+32) (i:Int) with
    |true=>
     rw [hq] at HIi
     have HN:=hide (HRw.out.congr (f':=fun c=>f c||(decide (c<i+1)&&escIn kn c)) fun j hj=>by
      by_cases e:j=i
      ·subst e;rw [HIi.out];simp
      ·simp [show (j<i+1)=(j<i) by simp;omega])
     clear HRw
     go_wp2_with fail
     go_roundw
     case rel=>exact ⟨i+1,by omega,by simp,HN,HKw⟩
     case measure=>show 256-ivN (.int .i64 _)<256-ivN (.int .i64 _);simp [ivN];omega
    |false=>
     rw [hq] at HIi
     have c0:=RowF.cell HRw.out (j:=i) (by omega)
     have z0:=RowF.frz HRw.out i
     have HN:=hide ((SetF.put HRw.out (j:=i) (by omega)).congr (f':=fun c=>f c||(decide (c<i+1)&&escIn kn c)) fun j hj=>by
      by_cases e:j=i
      ·subst e;rw [HIi.out];simp
      ·simp [e,show (j<i+1)=(j<i) by simp;omega])
     have HK2:=hide (HKw.out.setCell (S:=fun b=>b=g) (g:=g) (j:=i) rfl (.bool true))
     clear HRw HKw
     go_wp2_with fail
     go_roundw
     case rel=>exact ⟨i+1,by omega,by simp,HN,HK2⟩
     case measure=>show 256-ivN (.int .i64 _)<256-ivN (.int .i64 _);simp [ivN];omega
   ·obtain rfl:i=256:=by omega
    go_wp2_with fail
    refine bodyPost_ret (v:=.bool (escOk (kn:Int))) ?_ rfl ⟨rfl,HKw.out,fun _=>HRw.out.congr fun j hj=>by simp [hj]⟩
    rw [HZ.out]
    simp [results,Tryz.results62,go_sem]
set_option maxHeartbeats 4000000 in
set_option maxRecDepth 100000 in
theorem escape_lo (g:Nat) (f:Nat→Bool) (k:Int) (w:World) (h0:0≤k) (h1:k<256) (hu:¬ (65≤k)) (h:SetF w g f):
 Calls Tryz.prog 62 #[.slice (some ⟨g,0,none⟩) 256 256,.int .u8 k] w fun e w'=>e=.returned (.bool (escOk k))∧Keeps w w' (fun b=>b=g)∧(escOk k=true→SetF w' g (fun c=>f c||escIn k c)):=by
 have HR:=hide h
 clear h
 have hL:lowK k=k:=by unfold lowK;rw [if_neg (by omega)]
 have HZ:=hide (show escOk k=(clsIs (k)||(!isLow (k)&&!isDg k)) by unfold escOk;rw [hL])
 have HI:=hide (show ∀ c:Int,escIn k c=if clsIs (k) then cls k c else decide (c=k) by
  intro c
  unfold escIn
  rw [hL]
  split
  ·rw [decide_eq_true rfl];cases cls k c<;>rfl
  ·rfl)
 clear hL
 obtain ⟨kn,rfl⟩:=Int.eq_ofNat_of_zero_le h0
 go_enter Tryz.func62,Tryz.ntmps62
 go_wp2_with fail
 refine (class_any _ 0 w (by omega) (by omega)).mono ?_
 rintro e w1 ⟨rfl,rfl⟩
 cases hc:clsIs ((kn:Int)) with
 |false=>
  rw [hc] at HZ HI
  have c0:=RowF.cell HR.out (j:=kn) (by omega)
  have z0:=RowF.frz HR.out kn
  have HS:=hide (SetF.put HR.out (j:=kn) (by omega))
  have HK:=hide ((Keeps.refl w1 (fun b=>b=g)).setCell (g:=g) (j:=kn) rfl (.bool true))
  go_wp2_with fail
  all_goals
   refine bodyPost_ret (v:=.bool (escOk (kn:Int))) ?_ rfl ⟨rfl,HK.out,fun _=>HS.out.congr fun j hj=>?_⟩
   ·rw [HZ.out]
    simp [results,Tryz.results62,go_sem,isLow,isDg]
    all_goals try (rw [Bool.eq_iff_iff];simp)
    all_goals omega
   ·rw [HI.out,if_neg (by simp),show decide ((j:Int)=(kn:Int))=decide (j=kn) from decide_eq_decide.2 (by omega)]
 |true=>
  rw [hc] at HZ HI
  go_wp2_with fail
  go_loopw [8] (fun cv wr=>∃ i:Nat,i≤256∧cv=.int .i64 i∧Hid (SetF wr g (fun c=>f c||(decide (c<i)&&escIn kn c)))∧Hid (Keeps w1 wr (fun b=>b=g))) (fun cv _=>256-ivN cv)
  case atStart=>exact ⟨0,by omega,rfl,hide (HR.out.congr fun j hj=>by simp),hide (Keeps.refl _ _)⟩
  case round=>
   obtain ⟨i,hi9,rfl,HRw,HKw⟩:=hrel
   by_cases hin:i<256
   ·go_wp2_with fail
    refine (class_any _ (i:Int) wr (by omega) (by omega)).mono ?_
    rintro e w2 ⟨rfl,rfl⟩
    have HIi:=hide (HI.out (i:Int))
    cases hq:cls ((kn:Int)) (i:Int) with
    |false=>
     rw [hq] at HIi
     have HN:=hide (HRw.out.congr (f':=fun c=>f c||(decide (c<i+1)&&escIn kn c)) fun j hj=>by
      by_cases e:j=i
      ·subst e;rw [HIi.out];simp
      ·simp [show (j<i+1)=(j<i) by simp;omega])
     clear HRw
     go_wp2_with fail
     go_roundw
     case rel=>exact ⟨i+1,by omega,by simp,HN,HKw⟩
     case measure=>show 256-ivN (.int .i64 _)<256-ivN (.int .i64 _);simp [ivN];omega
    |true=>
     rw [hq] at HIi
     have c0:=RowF.cell HRw.out (j:=i) (by omega)
     have z0:=RowF.frz HRw.out i
     have HN:=hide ((SetF.put HRw.out (j:=i) (by omega)).congr (f':=fun c=>f c||(decide (c<i+1)&&escIn kn c)) fun j hj=>by
      by_cases e:j=i
      ·subst e;rw [HIi.out];simp
      ·simp [e,show (j<i+1)=(j<i) by simp;omega])
     have HK2:=hide (HKw.out.setCell (S:=fun b=>b=g) (g:=g) (j:=i) rfl (.bool true))
     clear HRw HKw
     go_wp2_with fail
     go_roundw
     case rel=>exact ⟨i+1,by omega,by simp,HN,HK2⟩
     case measure=>show 256-ivN (.int .i64 _)<256-ivN (.int .i64 _);simp [ivN];omega
   ·obtain rfl:i=256:=by omega
    go_wp2_with fail
    refine bodyPost_ret (v:=.bool (escOk (kn:Int))) ?_ rfl ⟨rfl,HKw.out,fun _=>HRw.out.congr fun j hj=>by simp [hj]⟩
    rw [HZ.out]
    simp [results,Tryz.results62,go_sem]
set_option maxHeartbeats 4000000 in
set_option maxRecDepth 100000 in
theorem escape_hi (g:Nat) (f:Nat→Bool) (k:Int) (w:World) (h0:0≤k) (h1:k<256) (hu:¬ (k≤90)) (h:SetF w g f):
 Calls Tryz.prog 62 #[.slice (some ⟨g,0,none⟩) 256 256,.int .u8 k] w fun e w'=>e=.returned (.bool (escOk k))∧Keeps w w' (fun b=>b=g)∧(escOk k=true→SetF w' g (fun c=>f c||escIn k c)):=by
 have HR:=hide h
 clear h
 have hL:lowK k=k:=by unfold lowK;rw [if_neg (by omega)]
 have HZ:=hide (show escOk k=(clsIs (k)||(!isLow (k)&&!isDg k)) by unfold escOk;rw [hL])
 have HI:=hide (show ∀ c:Int,escIn k c=if clsIs (k) then cls k c else decide (c=k) by
  intro c
  unfold escIn
  rw [hL]
  split
  ·rw [decide_eq_true rfl];cases cls k c<;>rfl
  ·rfl)
 clear hL
 obtain ⟨kn,rfl⟩:=Int.eq_ofNat_of_zero_le h0
 have hu1:65≤(kn:Int):=by omega
 go_enter Tryz.func62,Tryz.ntmps62
 go_wp2_with fail
 refine (class_any _ 0 w (by omega) (by omega)).mono ?_
 rintro e w1 ⟨rfl,rfl⟩
 cases hc:clsIs ((kn:Int)) with
 |false=>
  rw [hc] at HZ HI
  have c0:=RowF.cell HR.out (j:=kn) (by omega)
  have z0:=RowF.frz HR.out kn
  have HS:=hide (SetF.put HR.out (j:=kn) (by omega))
  have HK:=hide ((Keeps.refl w1 (fun b=>b=g)).setCell (g:=g) (j:=kn) rfl (.bool true))
  go_wp2_with fail
  all_goals
   refine bodyPost_ret (v:=.bool (escOk (kn:Int))) ?_ rfl ⟨rfl,HK.out,fun _=>HS.out.congr fun j hj=>?_⟩
   ·rw [HZ.out]
    simp [results,Tryz.results62,go_sem,isLow,isDg]
    all_goals try (rw [Bool.eq_iff_iff];simp)
    all_goals omega
   ·rw [HI.out,if_neg (by simp),show decide ((j:Int)=(kn:Int))=decide (j=kn) from decide_eq_decide.2 (by omega)]
 |true=>
  rw [hc] at HZ HI
  go_wp2_with fail
  go_loopw [8] (fun cv wr=>∃ i:Nat,i≤256∧cv=.int .i64 i∧Hid (SetF wr g (fun c=>f c||(decide (c<i)&&escIn kn c)))∧Hid (Keeps w1 wr (fun b=>b=g))) (fun cv _=>256-ivN cv)
  case atStart=>exact ⟨0,by omega,rfl,hide (HR.out.congr fun j hj=>by simp),hide (Keeps.refl _ _)⟩
  case round=>
   obtain ⟨i,hi9,rfl,HRw,HKw⟩:=hrel
   by_cases hin:i<256
   ·go_wp2_with fail
    refine (class_any _ (i:Int) wr (by omega) (by omega)).mono ?_
    rintro e w2 ⟨rfl,rfl⟩
    have HIi:=hide (HI.out (i:Int))
    cases hq:cls ((kn:Int)) (i:Int) with
    |false=>
     rw [hq] at HIi
     have HN:=hide (HRw.out.congr (f':=fun c=>f c||(decide (c<i+1)&&escIn kn c)) fun j hj=>by
      by_cases e:j=i
      ·subst e;rw [HIi.out];simp
      ·simp [show (j<i+1)=(j<i) by simp;omega])
     clear HRw
     go_wp2_with fail
     go_roundw
     case rel=>exact ⟨i+1,by omega,by simp,HN,HKw⟩
     case measure=>show 256-ivN (.int .i64 _)<256-ivN (.int .i64 _);simp [ivN];omega
    |true=>
     rw [hq] at HIi
     have c0:=RowF.cell HRw.out (j:=i) (by omega)
     have z0:=RowF.frz HRw.out i
     have HN:=hide ((SetF.put HRw.out (j:=i) (by omega)).congr (f':=fun c=>f c||(decide (c<i+1)&&escIn kn c)) fun j hj=>by
      by_cases e:j=i
      ·subst e;rw [HIi.out];simp
      ·simp [e,show (j<i+1)=(j<i) by simp;omega])
     have HK2:=hide (HKw.out.setCell (S:=fun b=>b=g) (g:=g) (j:=i) rfl (.bool true))
     clear HRw HKw
     go_wp2_with fail
     go_roundw
     case rel=>exact ⟨i+1,by omega,by simp,HN,HK2⟩
     case measure=>show 256-ivN (.int .i64 _)<256-ivN (.int .i64 _);simp [ivN];omega
   ·obtain rfl:i=256:=by omega
    go_wp2_with fail
    refine bodyPost_ret (v:=.bool (escOk (kn:Int))) ?_ rfl ⟨rfl,HKw.out,fun _=>HRw.out.congr fun j hj=>by simp [hj]⟩
    rw [HZ.out]
    simp [results,Tryz.results62,go_sem]
theorem escape_any (g:Nat) (f:Nat→Bool) (k:Int) (w:World) (h0:0≤k) (h1:k<256) (h:SetF w g f):
 Calls Tryz.prog 62 #[.slice (some ⟨g,0,none⟩) 256 256,.int .u8 k] w fun e w'=>e=.returned (.bool (escOk k))∧Keeps w w' (fun b=>b=g)∧(escOk k=true→SetF w' g (fun c=>f c||escIn k c)):=by
 by_cases hu:65≤k∧k≤90
 ·exact escape_up g f k w h0 h1 hu h
 ·by_cases hv:65≤k
  ·exact escape_hi g f k w h0 h1 (by omega) h
  ·exact escape_lo g f k w h0 h1 hv h
end Go.Proofs.YtlgodacccilabaaGreatDoor
namespace Go.Proofs.YtlgodacccilabaaGreatDoor
open Go Go.RowKit
set_option linter.unusedVariables false
theorem Keeps.drewN {w w':World} {S:Nat→Prop} (h:Keeps w w' S) (n:Nat):Keeps w (w'.drewN n) S:=⟨h.os,h.tape,h.output,h.size,h.block⟩
theorem SetF.keep {w w':World} {g:Nat} {f:Nat→Bool} {S:Nat→Prop} (h:SetF w g f) (k:Keeps w w' S) (hn:¬ S g):SetF w' g f:=RowF.keep h k hn
theorem Tryz.info4:(Tryz.prog.info? 4).map (fun i=>(i.zero,i.size,i.bytes))=some (some (.bool false),1,1):=by kernel_rfl
theorem made_row {w:World} {B T g n:Nat} {z:Value} (hz:z.cells=#[z]) (h:w.ownsRow B T 1 (.slice (some ⟨g,0,none⟩) n n) n (madeCells z.cells (n*1)).toList):RowF w T g n (fun _=>z):=by
 have h1:=rowF_owns h
 rw [Nat.mul_one] at h1
 refine h1.congr fun j hj=>?_
 rw [hz,toList_madeCells_one]
 simp [List.getD_eq_getElem?_getD,hj]
def rcells (p:ByteArray) (at_:Nat) (bad:Bool) (vi vo vd:Value):Nat→Value
 |0=>.string p
 |1=>.int .i64 at_
 |2=>.bool bad
 |3=>vi
 |4=>vo
 |_=>vd
def RdB (w:World) (R:Nat) (p:ByteArray) (at_:Nat) (bad:Bool) (vi vo vd:Value):Prop:=RowF w 89 R 6 (rcells p at_ bad vi vo vd)
theorem RdB.keep {w w':World} {R:Nat} {p:ByteArray} {at_:Nat} {bad:Bool} {vi vo vd:Value} {S:Nat→Prop} (h:RdB w R p at_ bad vi vo vd) (k:Keeps w w' S) (hn:¬ S R):RdB w' R p at_ bad vi vo vd:=RowF.keep h k hn
theorem RdB.pos {w:World} {R:Nat} {p:ByteArray} {at_ at':Nat} {bad:Bool} {vi vo vd:Value} (h:RdB w R p at_ bad vi vo vd):RdB (w.setCell ⟨R,1,none⟩ (.int .i64 at')) R p at' bad vi vo vd:=
 (RowF.set h (j:=1) (by omega) _).congr fun j hj=>by
   rcases j with _|_|_|_|_|j
   all_goals simp [rcells]
theorem RdB.isBad {w:World} {R:Nat} {p:ByteArray} {at_:Nat} {bad:Bool} {vi vo vd:Value} (h:RdB w R p at_ bad vi vo vd):RdB (w.setCell ⟨R,2,none⟩ (.bool true)) R p at_ true vi vo vd:=
 (RowF.set h (j:=2) (by omega) _).congr fun j hj=>by
   rcases j with _|_|_|_|_|j
   all_goals simp [rcells]
theorem RdB.items {w:World} {R:Nat} {p:ByteArray} {at_:Nat} {bad:Bool} {vi vo vd v:Value} (h:RdB w R p at_ bad vi vo vd):RdB (w.setCell ⟨R,3,none⟩ v) R p at_ bad v vo vd:=
 (RowF.set h (j:=3) (by omega) _).congr fun j hj=>by
   rcases j with _|_|_|_|_|j
   all_goals simp [rcells]
theorem RdB.opn {w:World} {R:Nat} {p:ByteArray} {at_:Nat} {bad:Bool} {vi vo vd v:Value} (h:RdB w R p at_ bad vi vo vd):RdB (w.setCell ⟨R,4,none⟩ v) R p at_ bad vi v vd:=
 (RowF.set h (j:=4) (by omega) _).congr fun j hj=>by
   rcases j with _|_|_|_|_|j
   all_goals simp [rcells]
theorem RdB.don {w:World} {R:Nat} {p:ByteArray} {at_:Nat} {bad:Bool} {vi vo vd v:Value} (h:RdB w R p at_ bad vi vo vd):RdB (w.setCell ⟨R,5,none⟩ v) R p at_ bad vi vo v:=
 (RowF.set h (j:=5) (by omega) _).congr fun j hj=>by
   rcases j with _|_|_|_|_|j
   all_goals simp [rcells]
   all_goals omega
set_option maxHeartbeats 800000 in
set_option maxRecDepth 100000 in
theorem here_any (R:Nat) (p:ByteArray) (at_ d:Nat) (bad:Bool) (vi vo vd:Value) (w:World) (ha:at_≤100000) (hd:d≤10) (hs:p.size≤100000) (h:RdB w R p at_ bad vi vo vd):
 Calls Tryz.prog 41 #[.pointer (some ⟨R,0,none⟩),.int .i64 d] w fun e w'=>e=.returned (.tuple #[.int .u8 (hb p (at_+d)),.bool (decide (at_+d<p.size))])∧Keeps w w' (fun _=>False):=by
 have c0:w.cell? ⟨R,0,none⟩=some (.string p):=RowF.cell h (j:=0) (by omega)
 have c1:w.cell? ⟨R,1,none⟩=some (.int .i64 at_):=RowF.cell h (j:=1) (by omega)
 clear h
 by_cases hin:at_+d<p.size
 ·have hx:∀ w':World,(Instr.index 9 (.string p) (.int .i64 ((at_:Int)+(d:Int)))).run Tryz.prog w'=.ok (.int .u8 (hb p (at_+d))) w':=fun w'=>by
   rw [idx_str p (i:=(at_:Int)+(d:Int)) w' (by omega) (by omega),show ((at_:Int)+(d:Int)).toNat=at_+d by omega]
  have hlt:(at_:Int)+(d:Int)<(p.size:Int):=by omega
  rw [decide_eq_true hin]
  go_enter Tryz.func41,Tryz.ntmps41
  go_wp2
  go_quiet (fail)
  go_wp2
  go_quiet (fail)
  go_wp2
  refine bodyPost_ret (v:=.tuple #[.int .u8 (hb p (at_+d)),.bool true]) ?_ rfl ⟨rfl,((Keeps.refl w _).drewN _).drewN _⟩
  simp [results,Tryz.results41,go_sem]
 ·have hlt:¬ ((at_:Int)+(d:Int)<(p.size:Int)):=by omega
  rw [decide_eq_false hin,hb_out (by omega)]
  go_enter Tryz.func41,Tryz.ntmps41
  go_wp2
  go_quiet (fail)
  go_wp2
  refine bodyPost_ret (v:=.tuple #[.int .u8 0,.bool false]) ?_ rfl ⟨rfl,(Keeps.refl w _).drewN _⟩
  simp [results,Tryz.results41,go_sem]
end Go.Proofs.YtlgodacccilabaaGreatDoor
