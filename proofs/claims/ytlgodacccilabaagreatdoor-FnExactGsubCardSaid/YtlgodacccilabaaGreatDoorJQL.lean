import Derived.Test.YtlgodacccilabaaGreatDoorPJ
import Derived.Deep.RegionLaw
import Derived.Test.YtlgodacccilabaaGreatDoorQ3
import Derived.Test.YtlgodacccilabaaGreatDoorJQ6
import Derived.Test.YtlgodacccilabaaGreatDoorQ7
import Derived.Test.YtlgodacccilabaaGreatDoorQ8
import Derived.Test.YtlgodacccilabaaGreatDoorQ9
import Derived.Test.YtlgodacccilabaaGreatDoorJQS0
namespace Go.Proofs.YtlgodacccilabaaGreatDoor
open Go Go.RowKit
set_option linter.unusedVariables false
theorem Keeps.dr1 {w w':World} {S:Nat→Prop} (h:Keeps w w' S):Keeps w w'.drew S:=⟨h.os,h.tape,h.output,h.size,h.block⟩
theorem QR.cut1 {w:World} {R:Nat} {p:ByteArray} {pos:Nat} {us:List (It × Value)} {op:List Nat} {n:Nat} {done:List Bool} {vi vd:Value} {a:Option Addr} {cap:Nat} (h:QR w R p pos us (op++[n]) done vi (.slice a (op.length+1) cap) vd):QR (w.setCell ⟨R,4,none⟩ (.slice a op.length cap)) R p pos us op done vi (.slice a op.length cap) vd:=by
 have:=QR.cut (opn:=op++[n]) (a:=a) (cap:=cap) (by simpa using h) (by simp)
 simpa using this
theorem QR.putX {w:World} {R X j:Nat} {x:Value} {f:Nat→Value} {p:ByteArray} {pos:Nat} {us:List (It × Value)} {opn:List Nat} {done:List Bool} {vi vo vd:Value} (h:QR w R p pos us opn done vi vo vd) (hX:RowF w 91 X 6 f) (hv:∀ g,vi.ownBlock=some g→g≠X):QR (w.setCell ⟨X,j,none⟩ x) R p pos us opn done vi vo vd:=by
 have k:Keeps w (w.setCell ⟨X,j,none⟩ x) (fun b=>b=X):=(Keeps.refl w (fun b=>b=X)).setCell (S:=fun b=>b=X) (j:=j) rfl x
 refine ⟨h.b.keep k (fun e=>RowF.apart h.b hX (by decide) e),owns_stay h.i (fun g hg=>k.block g (owns_blt h.i hg).2 (hv g hg)),owns_stay h.n (fun g hg=>k.block g (owns_blt h.n hg).2 (fun e=>?_)),owns_stay h.d (fun g hg=>k.block g (owns_blt h.d hg).2 (fun e=>?_)),fun u hu=>(h.s u hu).keep k (fun g hg e=>?_),h.a⟩
 ·obtain ⟨f9,h9⟩:=owns_rowF h.n hg
  exact h9.apart hX (by decide) e
 ·obtain ⟨f9,h9⟩:=owns_rowF h.d hg
  exact h9.apart hX (by decide) e
 ·exact RowF.apart hg hX (by decide) e
theorem app_new_opd {wr:World} {o:Oper} {a:Act} {K:Act→World→Prop} {Q:Exit→Act→World→Prop} (s x:Operand) (TS T size bytes:Nat) (z:Value)
 (ho:o.op=.call { callee:=.builtin .append,args:=#[s,x],argTypes:=#[TS,TS] }) (hU:Tryz.prog.underlying TS=some (.slice T)) (hI:(Tryz.prog.info? T).map (fun i=>(i.zero,i.size,i.bytes))=some (some z,size,bytes)) (hz:z.cells.size=size) (hsz:0<size)
 (base:Nat) (v:Value) (n:Nat) (xs cs:List Value) (hown:wr.drew.ownsRow base T size v n xs) (hs:a.eval s=v) (hx:a.eval x=.slice (some ⟨wr.heap.size,0,none⟩) 1 1) (hcs:cs.length=size) (h1:∀ u∈cs,u.oneCell'=true)
 (hlen:(n+1)*bytes≤140737488355328) (hb0:0<bytes) (hbase:base≤wr.heap.size)
 (h:∀ v' w',w'.ownsRow base T size v' (n+1) (xs++cs)→(∀ B w0,Below B w0 wr.drew→B≤base→Below B w0 w')→(∀ gx,gx<wr.drew.heap.size→v.ownBlock≠some gx→w'.heap[gx]?=wr.drew.heap[gx]?)→K (a.put o.dst v') w'):
 Oper.wp Tryz.prog o a (wr.alloc (.cells cs.toArray T)).drew K Q:=
 app_new_op (wr:=wr.drew) s x TS T size bytes z ho hU hI hz hsz base v n xs cs hown hs hx hcs h1 hlen hb0 hbase h
theorem one_b1 (b:Bool):∀ v∈[Value.bool b],v.oneCell'=true:=by
 intro v hv
 simp only [List.mem_cons,List.not_mem_nil,or_false] at hv
 subst hv
 rfl
theorem one_n1 (n:Int):∀ v∈[Value.int .i64 n],v.oneCell'=true:=by
 intro v hv
 simp only [List.mem_cons,List.not_mem_nil,or_false] at hv
 subst hv
 rfl
theorem Tryz.infoI3:(Tryz.prog.info? 3).map (fun i=>(i.zero,i.size,i.bytes))=some (some (.int .i64 0),1,8):=by kernel_rfl
end Go.Proofs.YtlgodacccilabaaGreatDoor
namespace Go.Proofs.YtlgodacccilabaaGreatDoor
open Go Go.RowKit Go.Shelf
set_option linter.unusedVariables false
theorem WyR.pre {X:Sx} {pre:List It} {w w1 w':World} {nt:Nt} {r:Option Nat × Ms} {e:Ending} (h:WyR X pre w1 nt r e w') (k:Keeps w w1 (fun b=>b=X.S)):WyR X pre w nt r e w':=by
 obtain ⟨h1,h2⟩:=h
 exact ⟨k.trans h1,h2⟩
def itM (s:ByteArray) (pl:Nat→Bool) (it:It) (nx:Nx) (at_:Nat) (σ:Ms):Option Nat × Ms:=
 if it.kind=0 then oneM s it nx at_ σ
 else if it.kind=1∨it.kind=2 then openM it nx at_ σ
 else if it.kind=3 then shutM it nx at_ σ
 else if it.kind=4 then backM s (pl it.n) (σ.fr it.n) (σ.tt it.n) nx at_ σ
 else if it.kind=5 then pairR s it nx at_ σ
 else if it.kind=6 then edgeM s it nx at_ σ
 else endM s nx at_ σ
theorem tryM_itM {s:ByteArray} {pl:Nat→Bool} {it:It} {rest:List It} {at_:Nat} {σ:Ms} (h:(σ.more 1).spent=false):tryM s pl (it::rest) at_ σ=itM s pl it (tryM s pl rest) at_ (σ.more 1):=by
 rw [tryM]
 simp only
 rw [if_neg (by rw [h];simp),itM]
 rfl
structure ItOk (X:Sx) (pl:Nat→Bool) (pre:List It) (it:It) (fi:Nat) (ci:Array Value) (E:World→Prop):Prop where
 en:∀ (args:Array Value) (w:World),(callFunc fi args).run Tryz.prog w=.ok (.enter fi args) w
 keep:∀ w w',E w→Keeps w w' (fun b=>b=X.S)→E w'
 go:∀ (nx:Nx) (fn:Nat) (bd cs:Array Value) (D:World→Prop) (at_:Nat) (σ:Ms) (nt:Nt) (to_:Nat) (w:World),WyOk X (pre++[it]) nx fn bd cs D→Rest nx→D w→E w→SB w X.S X.s X.fx X.cn X.wh σ.steps nt to_→at_≤X.s.size→σ.steps≤50000→Cap pre σ at_→Ag pre nt σ→
  Calls Tryz.prog fi (#[.pointer (some ⟨X.S,0,none⟩),.int .i64 at_,.func (.func fn) bd cs]++ci) w fun e w'=>WyR X pre w nt (itM X.s pl it nx at_ σ) e w'
set_option maxHeartbeats 800000 in
set_option maxRecDepth 100000 in
theorem way_end (X:Sx) (pl:Nat→Bool):WyOk X X.its (tryM X.s pl []) 30 #[.pointer (some ⟨X.S,0,none⟩)] #[] (fun _=>True):=by
 refine ⟨enters_of Tryz.func30 (by kernel_rfl) rfl,fun _ _ _ _=>trivial,?_⟩
 intro at_ ai σ nt to_ w hai _ hb ha h5 hc hg
 subst hai
 obtain ⟨S,s,fx,cn,wh,its⟩:=X
 dsimp only at *
 have c:=hb.end_
 have z:w.frozen? ⟨S,53,none⟩=false:=RowF.frz hb 53
 have HB:=hide (hb.setE at_)
 have HK:=hide (SB.kS (w:=w) (S:=S) (.int .i64 (at_:Int)) 53)
 have HG:=hide hg
 have hsp:σ.spent=false:=by unfold Ms.spent;simpa using h5
 clear hb hc hg
 show Calls Tryz.prog 30 #[.pointer (some ⟨S,0,none⟩),.int .i64 (at_:Int)] w _
 go_enter Tryz.func30,Tryz.ntmps30
 go_wp2_with fail
 refine bodyPost_ret (v:=.int .i64 1) ?_ rfl ⟨HK.out,_,_,_,HB.out,.inr (.inl ⟨hsp,⟨at_,rfl,rfl⟩,rfl,rfl,HG.out⟩)⟩
 simp [results,Tryz.results30,go_sem]
set_option maxHeartbeats 1600000 in
set_option maxRecDepth 100000 in
theorem way_step (X:Sx) (pl:Nat→Bool) (pre rest:List It) (it:It) (fi:Nat) (ci:Array Value) (E:World→Prop) (fn:Nat) (bd cs:Array Value) (D:World→Prop) (bs bi bn:Nat) (h1:bs≠X.S) (h2:bi≠X.S) (h3:bn≠X.S)
 (hi:ItOk X pl pre it fi ci E) (hw:WyOk X (pre++[it]) (tryM X.s pl rest) fn bd cs D):
 WyOk X pre (tryM X.s pl (it::rest)) 32 #[] #[.pointer (some ⟨bs,0,none⟩),.pointer (some ⟨bi,0,none⟩),.pointer (some ⟨bn,0,none⟩)]
  (fun w=>w.cell? ⟨bs,0,none⟩=some (.pointer (some ⟨X.S,0,none⟩))∧w.cell? ⟨bi,0,none⟩=some (.func (.func fi) #[] ci)∧w.cell? ⟨bn,0,none⟩=some (.func (.func fn) bd cs)∧E w∧D w):=by
 refine ⟨enters_of Tryz.func32 (by kernel_rfl) rfl,fun w w' h k=>⟨cell_keep k h1 h.1,cell_keep k h2 h.2.1,cell_keep k h3 h.2.2.1,hi.keep _ _ h.2.2.2.1 k,hw.keep _ _ h.2.2.2.2 k⟩,?_⟩
 rintro at_ ai σ nt to_ w hai ⟨d1,d2,d3,dE,dD⟩ hb ha h5 hc hg
 subst hai
 obtain ⟨S,s,fx,cn,wh,its⟩:=X
 dsimp only at *
 have e1:=hi.en
 have HI:=hide hi
 have HW:=hide hw
 have HE:=hide dE
 have HD:=hide dD
 have HB:=hide hb
 have HC:=hide hc
 have HG:=hide hg
 clear hi hw dE dD hb hc hg
 show Calls Tryz.prog 32 #[.int .i64 (at_:Int),.pointer (some ⟨bs,0,none⟩),.pointer (some ⟨bi,0,none⟩),.pointer (some ⟨bn,0,none⟩)] w _
 go_enter Tryz.func32,Tryz.ntmps32
 go_wp2_with fail
 refine (step_any w (by omega) HB.out).mono ?_
 rintro e w1 ⟨rfl,hb1,hk1⟩
 have HB1:=hide hb1
 have HK1:=hide hk1
 by_cases hst:σ.steps+1≤50000
 ·have hstb:decide (σ.steps+1≤50000)=true:=decide_eq_true hst
  have hsp:(σ.more 1).spent=false:=decide_eq_false (show ¬ 50000<σ.steps+1 by omega)
  have HO:=hide (tryM_itM (s:=s) (pl:=pl) (it:=it) (rest:=rest) (at_:=at_) hsp)
  have g1:=cell_keep hk1 h1 d1
  have g2:=cell_keep hk1 h2 d2
  have g3:=cell_keep hk1 h3 d3
  have HE1:=hide (HI.out.keep _ _ HE.out hk1)
  have HD1:=hide (HW.out.keep _ _ HD.out hk1)
  clear hb1 hk1 d1 d2 d3 HE HD HB
  go_wp2_with fail
  refine (HI.out.go (tryM s pl rest) fn bd cs D at_ (σ.more 1) nt to_ w1 HW.out (tryM_rest s pl rest) HD1.out HE1.out HB1.out ha hst (HC.out.le (Nat.le_refl _) rfl rfl) (HG.out.same (Sm.rfl' _ _) rfl rfl)).mono ?_
  rintro e w2 hw
  have HR:=hide (show WyR ⟨S,s,fx,cn,wh,its⟩ pre w nt (tryM s pl (it::rest) at_ σ) e w2 by rw [HO.out];exact hw.pre HK1.out)
  obtain ⟨v,hv⟩:=WyR.val hw
  obtain rfl:=hv
  clear hw
  go_wp2_with fail
  refine bodyPost_ret (v:=.int .i64 v) ?_ rfl HR.out
  simp [results,Tryz.results32,go_sem]
 ·have hstb:decide (σ.steps+1≤50000)=false:=decide_eq_false hst
  have hsp:(σ.more 1).spent=true:=decide_eq_true (show 50000<σ.steps+1 by omega)
  have HO:=hide (show (tryM s pl (it::rest) at_ σ).2.spent=true by rw [tryM_sp hsp];exact hsp)
  clear hb1 hk1 d1 d2 d3
  go_wp2_with fail
  refine bodyPost_ret (v:=.int .i64 2) ?_ rfl (WyR.out HO.out HK1.out HB1.out (by omega) (by omega))
  simp [results,Tryz.results32,go_sem]
end Go.Proofs.YtlgodacccilabaaGreatDoor
namespace Go.Proofs.YtlgodacccilabaaGreatDoor
open Go Go.RowKit Go.Shelf
set_option linter.unusedVariables false
structure PreOk (pl:Nat→Bool) (pre:List It) (it:It):Prop where
 wf:wfAt 16 pre it
 shut:it.kind=3→∀ j∈pre,j.kind=1∨j.kind=3→j.n≠it.n
 back:it.kind=4→(pl it.n=true∧∃ j∈pre,j.kind=1∧j.n=it.n)∨(pl it.n=false∧(∃ j∈pre,j.kind=2∧j.n=it.n)∧∃ j∈pre,j.kind=3∧j.n=it.n)
def ItV (w:World) (S:Nat) (it:It) (fi:Nat) (ci:Array Value):Prop:=
 (∃ C:Nat,it.kind=0∧it.sign=0∧ClF w C it.set∧C≠S∧fi=96∧ci=#[.pointer (some ⟨C,0,none⟩)])∨
 (∃ C:Nat,it.kind=0∧it.sign=63∧ClF w C it.set∧C≠S∧fi=95∧ci=#[.pointer (some ⟨C,0,none⟩)])∨
 (∃ C:Nat,it.kind=0∧it.sign=45∧ClF w C it.set∧C≠S∧fi=94∧ci=#[.pointer (some ⟨C,0,none⟩)])∨
 (∃ C L least:Nat,it.kind=0∧(it.sign=42∨it.sign=43)∧ClF w C it.set∧C≠S∧w.cell? ⟨L,0,none⟩=some (.int .i64 least)∧L≠S∧(least=if it.sign=43 then 1 else 0)∧fi=92∧ci=#[.pointer (some ⟨C,0,none⟩),.pointer (some ⟨L,0,none⟩)])∨
 (∃ B:Nat,it.kind=1∧w.cell? ⟨B,0,none⟩=some (.int .i64 it.n)∧B≠S∧fi=65∧ci=#[.pointer (some ⟨B,0,none⟩)])∨
 (∃ B:Nat,it.kind=2∧w.cell? ⟨B,0,none⟩=some (.int .i64 it.n)∧B≠S∧fi=66∧ci=#[.pointer (some ⟨B,0,none⟩)])∨
 (∃ B:Nat,it.kind=3∧w.cell? ⟨B,0,none⟩=some (.int .i64 it.n)∧B≠S∧fi=82∧ci=#[.pointer (some ⟨B,0,none⟩)])∨
 (∃ B:Nat,it.kind=4∧w.cell? ⟨B,0,none⟩=some (.int .i64 it.n)∧B≠S∧fi=83∧ci=#[.pointer (some ⟨B,0,none⟩)])∨
 (∃ A B:Nat,it.kind=5∧w.cell? ⟨A,0,none⟩=some (.int .u8 it.x)∧w.cell? ⟨B,0,none⟩=some (.int .u8 it.y)∧A≠S∧B≠S∧fi=85∧ci=#[.pointer (some ⟨A,0,none⟩),.pointer (some ⟨B,0,none⟩)])∨
 (∃ C:Nat,it.kind=6∧ClF w C it.set∧C≠S∧fi=89∧ci=#[.pointer (some ⟨C,0,none⟩)])∨
 (it.kind=7∧fi=47∧ci=#[])
theorem ItV.single {w:World} {S:Nat} {it:It} (C:Nat) (hk:it.kind=0) (hs:it.sign=0) (h:ClF w C it.set) (hC:C≠S):ItV w S it 96 #[.pointer (some ⟨C,0,none⟩)]:=.inl ⟨C,hk,hs,h,hC,rfl,rfl⟩
theorem ItV.opt {w:World} {S:Nat} {it:It} (C:Nat) (hk:it.kind=0) (hs:it.sign=63) (h:ClF w C it.set) (hC:C≠S):ItV w S it 95 #[.pointer (some ⟨C,0,none⟩)]:=.inr (.inl ⟨C,hk,hs,h,hC,rfl,rfl⟩)
theorem ItV.short {w:World} {S:Nat} {it:It} (C:Nat) (hk:it.kind=0) (hs:it.sign=45) (h:ClF w C it.set) (hC:C≠S):ItV w S it 94 #[.pointer (some ⟨C,0,none⟩)]:=.inr (.inr (.inl ⟨C,hk,hs,h,hC,rfl,rfl⟩))
theorem ItV.long {w:World} {S:Nat} {it:It} (C L least:Nat) (hk:it.kind=0) (hs:it.sign=42∨it.sign=43) (h:ClF w C it.set) (hC:C≠S) (hl:w.cell? ⟨L,0,none⟩=some (.int .i64 least)) (hL:L≠S) (hle:least=if it.sign=43 then 1 else 0):ItV w S it 92 #[.pointer (some ⟨C,0,none⟩),.pointer (some ⟨L,0,none⟩)]:=.inr (.inr (.inr (.inl ⟨C,L,least,hk,hs,h,hC,hl,hL,hle,rfl,rfl⟩)))
theorem ItV.place {w:World} {S:Nat} {it:It} (B:Nat) (hk:it.kind=1) (h:w.cell? ⟨B,0,none⟩=some (.int .i64 it.n)) (hB:B≠S):ItV w S it 65 #[.pointer (some ⟨B,0,none⟩)]:=.inr (.inr (.inr (.inr (.inl ⟨B,hk,h,hB,rfl,rfl⟩))))
theorem ItV.opn {w:World} {S:Nat} {it:It} (B:Nat) (hk:it.kind=2) (h:w.cell? ⟨B,0,none⟩=some (.int .i64 it.n)) (hB:B≠S):ItV w S it 66 #[.pointer (some ⟨B,0,none⟩)]:=.inr (.inr (.inr (.inr (.inr (.inl ⟨B,hk,h,hB,rfl,rfl⟩)))))
theorem ItV.shut {w:World} {S:Nat} {it:It} (B:Nat) (hk:it.kind=3) (h:w.cell? ⟨B,0,none⟩=some (.int .i64 it.n)) (hB:B≠S):ItV w S it 82 #[.pointer (some ⟨B,0,none⟩)]:=.inr (.inr (.inr (.inr (.inr (.inr (.inl ⟨B,hk,h,hB,rfl,rfl⟩))))))
theorem ItV.back {w:World} {S:Nat} {it:It} (B:Nat) (hk:it.kind=4) (h:w.cell? ⟨B,0,none⟩=some (.int .i64 it.n)) (hB:B≠S):ItV w S it 83 #[.pointer (some ⟨B,0,none⟩)]:=.inr (.inr (.inr (.inr (.inr (.inr (.inr (.inl ⟨B,hk,h,hB,rfl,rfl⟩)))))))
theorem ItV.pair {w:World} {S:Nat} {it:It} (A B:Nat) (hk:it.kind=5) (h:w.cell? ⟨A,0,none⟩=some (.int .u8 it.x)) (h':w.cell? ⟨B,0,none⟩=some (.int .u8 it.y)) (hA:A≠S) (hB:B≠S):ItV w S it 85 #[.pointer (some ⟨A,0,none⟩),.pointer (some ⟨B,0,none⟩)]:=.inr (.inr (.inr (.inr (.inr (.inr (.inr (.inr (.inl ⟨A,B,hk,h,h',hA,hB,rfl,rfl⟩))))))))
theorem ItV.edge {w:World} {S:Nat} {it:It} (C:Nat) (hk:it.kind=6) (h:ClF w C it.set) (hC:C≠S):ItV w S it 89 #[.pointer (some ⟨C,0,none⟩)]:=.inr (.inr (.inr (.inr (.inr (.inr (.inr (.inr (.inr (.inl ⟨C,hk,h,hC,rfl,rfl⟩)))))))))
theorem ItV.fin {w:World} {S:Nat} {it:It} (hk:it.kind=7):ItV w S it 47 #[]:=.inr (.inr (.inr (.inr (.inr (.inr (.inr (.inr (.inr (.inr (⟨hk,rfl,rfl⟩))))))))))
theorem ItV.keep {w w':World} {S fi:Nat} {it:It} {ci:Array Value} (h:ItV w S it fi ci) (k:Keeps w w' (fun b=>b=S)):ItV w' S it fi ci:=by
 rcases h with ⟨C,hk,hs,h,hC,rfl,rfl⟩|⟨C,hk,hs,h,hC,rfl,rfl⟩|⟨C,hk,hs,h,hC,rfl,rfl⟩|⟨C,L,least,hk,hs,h,hC,hl,hL,hle,rfl,rfl⟩|⟨B,hk,h,hB,rfl,rfl⟩|⟨B,hk,h,hB,rfl,rfl⟩|⟨B,hk,h,hB,rfl,rfl⟩|⟨B,hk,h,hB,rfl,rfl⟩|⟨A,B,hk,h,h',hA,hB,rfl,rfl⟩|⟨C,hk,h,hC,rfl,rfl⟩|⟨hk,rfl,rfl⟩
 ·exact .single C hk hs (RowF.keep h k hC) hC
 ·exact .opt C hk hs (RowF.keep h k hC) hC
 ·exact .short C hk hs (RowF.keep h k hC) hC
 ·exact .long C L least hk hs (RowF.keep h k hC) hC (cell_keep k hL hl) hL hle
 ·exact .place B hk (cell_keep k hB h) hB
 ·exact .opn B hk (cell_keep k hB h) hB
 ·exact .shut B hk (cell_keep k hB h) hB
 ·exact .back B hk (cell_keep k hB h) hB
 ·exact .pair A B hk (cell_keep k hA h) (cell_keep k hB h') hA hB
 ·exact .edge C hk (RowF.keep h k hC) hC
 ·exact .fin hk
theorem itM_0 {s:ByteArray} {pl:Nat→Bool} {it:It} {nx:Nx} {at_:Nat} {σ:Ms} (h:it.kind=0):itM s pl it nx at_ σ=oneM s it nx at_ σ:=by rw [itM,if_pos h]
theorem itM_12 {s:ByteArray} {pl:Nat→Bool} {it:It} {nx:Nx} {at_:Nat} {σ:Ms} (h:it.kind=1∨it.kind=2):itM s pl it nx at_ σ=openM it nx at_ σ:=by rw [itM,if_neg (by omega),if_pos h]
theorem itM_3 {s:ByteArray} {pl:Nat→Bool} {it:It} {nx:Nx} {at_:Nat} {σ:Ms} (h:it.kind=3):itM s pl it nx at_ σ=shutM it nx at_ σ:=by rw [itM,if_neg (by omega),if_neg (by omega),if_pos h]
theorem itM_4 {s:ByteArray} {pl:Nat→Bool} {it:It} {nx:Nx} {at_:Nat} {σ:Ms} (h:it.kind=4):itM s pl it nx at_ σ=backM s (pl it.n) (σ.fr it.n) (σ.tt it.n) nx at_ σ:=by rw [itM,if_neg (by omega),if_neg (by omega),if_neg (by omega),if_pos h]
theorem itM_5 {s:ByteArray} {pl:Nat→Bool} {it:It} {nx:Nx} {at_:Nat} {σ:Ms} (h:it.kind=5):itM s pl it nx at_ σ=pairR s it nx at_ σ:=by rw [itM,if_neg (by omega),if_neg (by omega),if_neg (by omega),if_neg (by omega),if_pos h]
theorem itM_6 {s:ByteArray} {pl:Nat→Bool} {it:It} {nx:Nx} {at_:Nat} {σ:Ms} (h:it.kind=6):itM s pl it nx at_ σ=edgeM s it nx at_ σ:=by rw [itM,if_neg (by omega),if_neg (by omega),if_neg (by omega),if_neg (by omega),if_neg (by omega),if_pos h]
theorem itM_7 {s:ByteArray} {pl:Nat→Bool} {it:It} {nx:Nx} {at_:Nat} {σ:Ms} (h:it.kind=7):itM s pl it nx at_ σ=endM s nx at_ σ:=by rw [itM,if_neg (by omega),if_neg (by omega),if_neg (by omega),if_neg (by omega),if_neg (by omega),if_neg (by omega)]
theorem itv_ok (X:Sx) (pl:Nat→Bool) (pre:List It) (it:It) (fi:Nat) (ci:Array Value) (w0:World) (hs:X.s.size≤65536) (hp:PreOk pl pre it) (h:ItV w0 X.S it fi ci):ItOk X pl pre it fi ci (fun w=>ItV w X.S it fi ci):=by
 have en:∀ (args:Array Value) (w:World),(callFunc fi args).run Tryz.prog w=.ok (.enter fi args) w:=by
  rcases h with ⟨_,_,_,_,_,rfl,rfl⟩|⟨_,_,_,_,_,rfl,rfl⟩|⟨_,_,_,_,_,rfl,rfl⟩|⟨_,_,_,_,_,_,_,_,_,_,rfl,rfl⟩|⟨_,_,_,_,rfl,rfl⟩|⟨_,_,_,_,rfl,rfl⟩|⟨_,_,_,_,rfl,rfl⟩|⟨_,_,_,_,rfl,rfl⟩|⟨_,_,_,_,_,_,_,rfl,rfl⟩|⟨_,_,_,_,rfl,rfl⟩|⟨_,rfl,rfl⟩
  ·exact enters_of Tryz.func96 (by kernel_rfl) rfl
  ·exact enters_of Tryz.func95 (by kernel_rfl) rfl
  ·exact enters_of Tryz.func94 (by kernel_rfl) rfl
  ·exact enters_of Tryz.func92 (by kernel_rfl) rfl
  ·exact enters_of Tryz.func65 (by kernel_rfl) rfl
  ·exact enters_of Tryz.func66 (by kernel_rfl) rfl
  ·exact enters_of Tryz.func82 (by kernel_rfl) rfl
  ·exact enters_of Tryz.func83 (by kernel_rfl) rfl
  ·exact enters_of Tryz.func85 (by kernel_rfl) rfl
  ·exact enters_of Tryz.func89 (by kernel_rfl) rfl
  ·exact enters_of Tryz.func47 (by kernel_rfl) rfl
 refine ⟨en,fun w w' h k=>h.keep k,?_⟩
 clear h en w0
 intro nx fn bd cs D at_ σ nt to_ w hw hre hD hE hb ha h5 hc hg
 have hco:it.kind=0∨3<it.kind→Cap (pre++[it]) σ at_:=fun h=>hc.other h
 have hgo:it.kind=0∨3<it.kind→Ag (pre++[it]) nt σ:=fun h=>hg.other h rfl rfl
 rcases hE with ⟨C,hk,hs0,hcl,hC,rfl,rfl⟩|⟨C,hk,hs0,hcl,hC,rfl,rfl⟩|⟨C,hk,hs0,hcl,hC,rfl,rfl⟩|⟨C,L,least,hk,hs0,hcl,hC,hl,hL,hle,rfl,rfl⟩|⟨B,hk,h,hB,rfl,rfl⟩|⟨B,hk,h,hB,rfl,rfl⟩|⟨B,hk,h,hB,rfl,rfl⟩|⟨B,hk,h,hB,rfl,rfl⟩|⟨A,B,hk,h,h',hA,hB,rfl,rfl⟩|⟨C,hk,h,hC,rfl,rfl⟩|⟨hk,rfl,rfl⟩
 ·rw [itM_0 hk];exact it_single X pre it nx fn bd cs D at_ σ nt to_ w hs hw hD hb ha h5 (hco (.inl hk)) (hgo (.inl hk)) C hcl hC hs0
 ·rw [itM_0 hk];exact it_opt X pre it nx fn bd cs D at_ σ nt to_ w hs hw hD hb ha h5 (hco (.inl hk)) (hgo (.inl hk)) C hcl hC hs0 hre
 ·rw [itM_0 hk];exact it_short X pre it nx fn bd cs D at_ σ nt to_ w hs hw hD hb ha h5 (hco (.inl hk)) (hgo (.inl hk)) C hcl hC hs0 hre
 ·rw [itM_0 hk];exact it_long X pre it nx fn bd cs D at_ σ nt to_ w hs hw hD hb ha h5 (hco (.inl hk)) (hgo (.inl hk)) C L least hcl hC hl hL (by omega) (by omega) (by omega) hle hre
 ·rw [itM_12 (.inl hk)];exact it_place X pre it nx fn bd cs D at_ σ nt to_ w hs hw hD hb ha h5 hc hg B h (hp.wf.1 (.inl hk)).1 16 hp.wf hk
 ·rw [itM_12 (.inr hk)];exact it_open X pre it nx fn bd cs D at_ σ nt to_ w hs hw hD hb ha h5 hc hg B h (hp.wf.1 (.inr hk)).1 16 hp.wf hk
 ·rw [itM_3 hk];exact it_shut X pre it nx fn bd cs D at_ σ nt to_ w hs hw hD hb ha h5 hc hg B h (hp.wf.2.1 hk).1 16 hp.wf hk (hp.shut hk)
 ·rw [itM_4 hk]
  have hn:=(hp.wf.2.2 hk).1
  rcases hp.back hk with ⟨hpl,j,hj,hj1,hj2⟩|⟨hpl,⟨j,hj,hj1,hj2⟩,⟨i,hi,hi1,hi2⟩⟩
  ·have h1:=(hg j hj).1 hj1
   have h2:=hc.1 j hj (.inl hj1)
   rw [hj2] at h1 h2
   have:=it_back X pre it nx fn bd cs D at_ σ nt to_ w hs hw hD hb ha h5 (hco (.inr (by omega))) (hgo (.inr (by omega))) B h hn true (σ.fr it.n) (σ.fr it.n) h1 (Nat.le_refl _) h2
   rw [show backM X.s (pl it.n) (σ.fr it.n) (σ.tt it.n) nx at_ σ=backM X.s true (σ.fr it.n) (σ.fr it.n) nx at_ σ by rw [backM,backM,if_pos hpl,if_pos rfl]]
   exact this
  ·have h1:=(hg j hj).2.1 hj1
   have h3:=(hg i hi).2.2 hi1
   have h2:=hc.2 i hi hi1
   rw [hj2] at h1
   rw [hi2] at h3 h2
   have h4:nt it.n=(false,σ.fr it.n,σ.tt it.n):=by
    rw [←h1.1,←h1.2,←h3]
   rw [hpl]
   exact it_back X pre it nx fn bd cs D at_ σ nt to_ w hs hw hD hb ha h5 (hco (.inr (by omega))) (hgo (.inr (by omega))) B h hn false (σ.fr it.n) (σ.tt it.n) h4 h2.1 h2.2
 ·rw [itM_5 hk];exact it_pair X pre it nx fn bd cs D at_ σ nt to_ w hs hw hD hb ha h5 (hco (.inr (by omega))) (hgo (.inr (by omega))) A B h h' hA hB
 ·rw [itM_6 hk];exact it_edge X pre it nx fn bd cs D at_ σ nt to_ w hs hw hD hb ha h5 (hco (.inr (by omega))) (hgo (.inr (by omega))) C h hC
 ·rw [itM_7 hk];exact it_end X pre it nx fn bd cs D at_ σ nt to_ w hs hw hD hb ha h5 (hco (.inr (by omega))) (hgo (.inr (by omega)))
structure RdK (R:Rd):Prop where
 nod:R.opn.Nodup
 lt:∀ n∈R.opn,n<R.done.length
 opn:∀ n∈R.opn,R.done.getD n false=false
 don:∀ j∈R.items,j.kind=1∨j.kind=3→R.done.getD j.n false=true
 pre:∀ k (hk:k<R.items.length),R.items[k].kind=3→∀ j∈R.items.take k,j.kind=1∨j.kind=3→j.n≠R.items[k].n
end Go.Proofs.YtlgodacccilabaaGreatDoor
namespace Go.Proofs.YtlgodacccilabaaGreatDoor
open Go Go.RowKit Go.Shelf
set_option linter.unusedVariables false
set_option maxHeartbeats 800000 in
theorem mk_notePlace (x:Int) (w:World):Calls Tryz.prog 48 #[.int .i64 x] w fun e w'=>e=.returned (.func (.func 65) #[] #[.pointer (some ⟨w.heap.size,0,none⟩)])∧w'=w.alloc (.cells #[.int .i64 x] 3):=by
 go_enter Tryz.func48,Tryz.ntmps48
 go_wp2
 refine bodyPost_ret (results_tmp rfl _ _ _) rfl ⟨rfl,rfl⟩
set_option maxHeartbeats 800000 in
theorem mk_beginCapture (x:Int) (w:World):Calls Tryz.prog 50 #[.int .i64 x] w fun e w'=>e=.returned (.func (.func 66) #[] #[.pointer (some ⟨w.heap.size,0,none⟩)])∧w'=w.alloc (.cells #[.int .i64 x] 3):=by
 go_enter Tryz.func50,Tryz.ntmps50
 go_wp2
 refine bodyPost_ret (results_tmp rfl _ _ _) rfl ⟨rfl,rfl⟩
set_option maxHeartbeats 800000 in
theorem mk_endCapture (x:Int) (w:World):Calls Tryz.prog 68 #[.int .i64 x] w fun e w'=>e=.returned (.func (.func 82) #[] #[.pointer (some ⟨w.heap.size,0,none⟩)])∧w'=w.alloc (.cells #[.int .i64 x] 3):=by
 go_enter Tryz.func68,Tryz.ntmps68
 go_wp2
 refine bodyPost_ret (results_tmp rfl _ _ _) rfl ⟨rfl,rfl⟩
set_option maxHeartbeats 800000 in
theorem mk_heldAgain (x:Int) (w:World):Calls Tryz.prog 69 #[.int .i64 x] w fun e w'=>e=.returned (.func (.func 83) #[] #[.pointer (some ⟨w.heap.size,0,none⟩)])∧w'=w.alloc (.cells #[.int .i64 x] 3):=by
 go_enter Tryz.func69,Tryz.ntmps69
 go_wp2
 refine bodyPost_ret (results_tmp rfl _ _ _) rfl ⟨rfl,rfl⟩
set_option maxHeartbeats 800000 in
theorem mk_balanced (x y:Int) (w:World):Calls Tryz.prog 71 #[.int .u8 x,.int .u8 y] w fun e w'=>e=.returned (.func (.func 85) #[] #[.pointer (some ⟨w.heap.size,0,none⟩),.pointer (some ⟨w.heap.size+1,0,none⟩)])∧w'=(w.alloc (.cells #[.int .u8 x] 5)).alloc (.cells #[.int .u8 y] 5):=by
 go_enter Tryz.func71,Tryz.ntmps71
 go_wp2
 refine bodyPost_ret (results_tmp rfl _ _ _) rfl ⟨rfl,rfl⟩
set_option maxHeartbeats 800000 in
theorem mk_single (q:Array Value) (w:World):Calls Tryz.prog 78 #[.agg q] w fun e w'=>e=.returned (.func (.func 96) #[] #[.pointer (some ⟨w.heap.size,0,none⟩)])∧w'=w.alloc (.cells q 136):=by
 go_enter Tryz.func78,Tryz.ntmps78
 go_wp2
 refine bodyPost_ret (results_tmp rfl _ _ _) rfl ⟨rfl,rfl⟩
set_option maxHeartbeats 800000 in
theorem mk_singleOrNone (q:Array Value) (w:World):Calls Tryz.prog 77 #[.agg q] w fun e w'=>e=.returned (.func (.func 95) #[] #[.pointer (some ⟨w.heap.size,0,none⟩)])∧w'=w.alloc (.cells q 136):=by
 go_enter Tryz.func77,Tryz.ntmps77
 go_wp2
 refine bodyPost_ret (results_tmp rfl _ _ _) rfl ⟨rfl,rfl⟩
set_option maxHeartbeats 800000 in
theorem mk_shortest (q:Array Value) (w:World):Calls Tryz.prog 76 #[.agg q] w fun e w'=>e=.returned (.func (.func 94) #[] #[.pointer (some ⟨w.heap.size,0,none⟩)])∧w'=w.alloc (.cells q 136):=by
 go_enter Tryz.func76,Tryz.ntmps76
 go_wp2
 refine bodyPost_ret (results_tmp rfl _ _ _) rfl ⟨rfl,rfl⟩
set_option maxHeartbeats 800000 in
theorem mk_border (q:Array Value) (w:World):Calls Tryz.prog 73 #[.agg q] w fun e w'=>e=.returned (.func (.func 89) #[] #[.pointer (some ⟨w.heap.size,0,none⟩)])∧w'=w.alloc (.cells q 136):=by
 go_enter Tryz.func73,Tryz.ntmps73
 go_wp2
 refine bodyPost_ret (results_tmp rfl _ _ _) rfl ⟨rfl,rfl⟩
set_option maxHeartbeats 800000 in
theorem mk_longest (q:Array Value) (x:Int) (w:World):Calls Tryz.prog 75 #[.agg q,.int .i64 x] w fun e w'=>e=.returned (.func (.func 92) #[] #[.pointer (some ⟨w.heap.size,0,none⟩),.pointer (some ⟨w.heap.size+1,0,none⟩)])∧w'=(w.alloc (.cells q 136)).alloc (.cells #[.int .i64 x] 3):=by
 go_enter Tryz.func75,Tryz.ntmps75
 go_wp2
 refine bodyPost_ret (results_tmp rfl _ _ _) rfl ⟨rfl,rfl⟩
end Go.Proofs.YtlgodacccilabaaGreatDoor
namespace Go.Proofs.YtlgodacccilabaaGreatDoor
open Go Go.RowKit Go.Shelf
set_option linter.unusedVariables false
theorem cell_new (w:World) (v:Value) (T:Nat):(w.alloc (.cells #[v] T)).cell? ⟨w.heap.size,0,none⟩=some v:=by
 simp
theorem cl_new (w:World) (f:Nat→Bool) (q:Array Value) (hq:q=clC f):ClF (w.alloc (.cells q 136)) w.heap.size f:=clC_row (by rw [←hq];exact heap_alloc_new w _)
theorem iv_place (w:World) (S n:Nat) (hS:S<w.heap.size):ItV (w.alloc (.cells #[.int .i64 (n:Int)] 3)) S (itPlace n) 65 #[.pointer (some ⟨w.heap.size,0,none⟩)]:=.place _ rfl (cell_new _ _ _) (by omega)
theorem iv_open (w:World) (S n:Nat) (hS:S<w.heap.size):ItV (w.alloc (.cells #[.int .i64 (n:Int)] 3)) S (itOpen n) 66 #[.pointer (some ⟨w.heap.size,0,none⟩)]:=.opn _ rfl (cell_new _ _ _) (by omega)
theorem iv_shut (w:World) (S n:Nat) (hS:S<w.heap.size):ItV (w.alloc (.cells #[.int .i64 (n:Int)] 3)) S (itShut n) 82 #[.pointer (some ⟨w.heap.size,0,none⟩)]:=.shut _ rfl (cell_new _ _ _) (by omega)
theorem iv_back (w:World) (S n:Nat) (hS:S<w.heap.size):ItV (w.alloc (.cells #[.int .i64 (n:Int)] 3)) S (itBack n) 83 #[.pointer (some ⟨w.heap.size,0,none⟩)]:=.back _ rfl (cell_new _ _ _) (by omega)
theorem iv_pair (w:World) (S:Nat) (x y:Int) (hS:S<w.heap.size):ItV ((w.alloc (.cells #[.int .u8 x] 5)).alloc (.cells #[.int .u8 y] 5)) S (itPair x y) 85 #[.pointer (some ⟨w.heap.size,0,none⟩),.pointer (some ⟨w.heap.size+1,0,none⟩)]:=
 .pair _ _ rfl ((World.cell?_of_block (a:=⟨w.heap.size,0,none⟩) (Below.heap_alloc _ _ _ (by simp))).trans (cell_new _ _ _)) (by show _=some (Value.int .u8 y);simp) (by omega) (by omega)
theorem iv_edge (w:World) (S:Nat) (f:Nat→Bool) (q:Array Value) (hq:q=clC f) (hS:S<w.heap.size):ItV (w.alloc (.cells q 136)) S (itEdge f) 89 #[.pointer (some ⟨w.heap.size,0,none⟩)]:=.edge _ rfl (cl_new w f q hq) (by omega)
theorem iv_single (w:World) (S:Nat) (f:Nat→Bool) (q:Array Value) (hq:q=clC f) (hS:S<w.heap.size):ItV (w.alloc (.cells q 136)) S (itOne f 0) 96 #[.pointer (some ⟨w.heap.size,0,none⟩)]:=.single _ rfl rfl (cl_new w f q hq) (by omega)
theorem iv_opt (w:World) (S:Nat) (f:Nat→Bool) (q:Array Value) (hq:q=clC f) (hS:S<w.heap.size):ItV (w.alloc (.cells q 136)) S (itOne f 63) 95 #[.pointer (some ⟨w.heap.size,0,none⟩)]:=.opt _ rfl rfl (cl_new w f q hq) (by omega)
theorem iv_short (w:World) (S:Nat) (f:Nat→Bool) (q:Array Value) (hq:q=clC f) (hS:S<w.heap.size):ItV (w.alloc (.cells q 136)) S (itOne f 45) 94 #[.pointer (some ⟨w.heap.size,0,none⟩)]:=.short _ rfl rfl (cl_new w f q hq) (by omega)
theorem iv_long (w:World) (S least:Nat) (sg:Int) (f:Nat→Bool) (q:Array Value) (hq:q=clC f) (hs:(sg=42∧least=0)∨(sg=43∧least=1)) (hS:S<w.heap.size):ItV ((w.alloc (.cells q 136)).alloc (.cells #[.int .i64 (least:Int)] 3)) S (itOne f sg) 92 #[.pointer (some ⟨w.heap.size,0,none⟩),.pointer (some ⟨w.heap.size+1,0,none⟩)]:=
 .long _ _ least rfl (by show sg=42∨sg=43;omega) (RowF.same (cl_new w f q hq) (Below.heap_alloc _ _ _ (by simp))) (by omega) (by simp) (by omega) (by show least=if sg=43 then 1 else 0;split<;>omega)
theorem isDigit_any (x:Int) (w:World):Calls Tryz.prog 52 #[.int .i32 x] w fun e w'=>e=.returned (.bool (isDg x))∧w'=w:=by
 go_enter Tryz.func52,Tryz.ntmps52
 by_cases h1:48≤x
 ·by_cases h2:x≤57
  ·go_wp2
   exact bodyPost_ret (results_tmp rfl _ _ _) rfl ⟨by simp [isDg,h1,h2],rfl⟩
  ·go_wp2
   exact bodyPost_ret (results_tmp rfl _ _ _) rfl ⟨by simp [isDg,h2],rfl⟩
 ·go_wp2
  exact bodyPost_ret (results_tmp rfl _ _ _) rfl ⟨by simp [isDg];omega,rfl⟩
end Go.Proofs.YtlgodacccilabaaGreatDoor
