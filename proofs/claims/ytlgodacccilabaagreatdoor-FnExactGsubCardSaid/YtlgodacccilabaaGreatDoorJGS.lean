import Derived.Test.YtlgodacccilabaaGreatDoorJGF
import Derived.Test.YtlgodacccilabaaGreatDoorGHA
import Derived.Test.YtlgodacccilabaaGreatDoorRows
import Derived.OpenShut
import Derived.ChangeSame
import Derived.LaidLaws
import Derived.LaidHandle
import Derived.ChangeVars
import Derived.Lib.LaidTab
import Derived.Lib.LaidU8
import Derived.LaidSub
import Derived.LaidOnce
import Derived.Test.YtlgodacccilabaaGreatDoorTie
import Derived.Test.YtlgodacccilabaaGreatDoorCards
import Derived.WalkKit
import Derived.ProofKit
import Derived.Deep.DeepHandedRow
import Derived.ChangeMaps5
import Derived.OpenVars
import Derived.Carry
import Derived.ChangeOld
import Derived.Lib.SmallJoins
import Derived.SevenTiedAt
import Derived.MakeChecks
import Derived.Lay
namespace Go.Proofs.YtlgodacccilabaaGreatDoor
open Go Go.RowKit Go.Shelf
set_option linter.unusedVariables false
theorem own_noc {W C:World} {row:Option Nat} {B:Nat} (hg:W.grownBy C row) (hr:∀ r,row=some r→B≤r∧∃ o:Obj,W.heap[r]?=some o∧o.isCells=false):Keeps W C (fun b=>row=some b)∧∀ b,row=some b→NoC W b:=
 ⟨⟨hg.os,hg.tape,hg.output,hg.size,fun b hb hn=>hg.block b hb (fun e=>hn e.symm)⟩,fun b e=>by
   obtain ⟨_,o,ho,hc⟩:=hr b e
   intro arr T fr h9
   rw [ho] at h9
   cases h9
   simp [Obj.isCells] at hc⟩
theorem d_list {X:Sx} {pl:Nat→Bool} {fn:Nat} {bd cs:Array Value} {D:World→Prop} {B:Nat} (hx:WyAll X pl fn bd cs D B) {w:World} (hD:D w):∀ (l:List Nat) (w':World),Keeps w w' (fun b=>b∈l)→(∀ b∈l,B≤b)→D w'
 | [],w',k,_=>hx.new _ _ hD (k.mono (fun b e=>by simp at e))
 |b::l,w',k,hl=>by
  cases hb:w.heap[b]? with
  |none=>
   have hsz:w.heap.size≤b:=by
    rcases Nat.lt_or_ge b w.heap.size with c|c
    ·rw [Array.getElem?_eq_getElem c] at hb;cases hb
    ·exact c
   exact d_list hx hD l w' ⟨k.os,k.tape,k.output,k.size,fun c hc hn=>k.block c hc (fun e=>by
    rcases List.mem_cons.1 e with e|e
    ·omega
    ·exact hn e)⟩ (fun c hc=>hl c (List.mem_cons_of_mem _ hc))
  |some o=>
   have hlt:b<w.heap.size:=(Array.getElem?_eq_some_iff.1 hb).1
   have hlt':b<w'.heap.size:=Nat.lt_of_lt_of_le hlt k.size
   have hsz:(w'.putObj b o).heap.size=w'.heap.size:=by simp [World.putObj]
   have hM:D (w'.putObj b o):=d_list hx hD l _ ⟨k.os,k.tape,k.output,by rw [hsz];exact k.size,fun c hc hn=>by
    by_cases e:c=b
    ·subst e;rw [World.putObj_heap_same hlt',hb]
    ·rw [World.putObj_heap_other e]
     exact k.block c hc (fun x=>by
      rcases List.mem_cons.1 x with x|x
      ·exact e x
      ·exact hn x)⟩ (fun c hc=>hl c (List.mem_cons_of_mem _ hc))
   exact hx.fresh _ _ b hM ⟨rfl,rfl,rfl,by rw [hsz];exact Nat.le_refl _,fun c hc hn=>(World.putObj_heap_other hn).symm⟩ (hl b (List.mem_cons_self ..))
def RpS (s:ByteArray) (ps:List Pc) (fs:List Fd) (dn:Nat) (tl:Bool) (L:List UInt8):Prop:=
 L.length≤65536∧dn≤s.size∧((tl=false∧L=(stW s ps fs).1∧dn=(stW s ps fs).2)∨(tl=true∧65536<(stW s ps fs).1.length))
structure RaI (B R b4 b5 Cb:Nat) (s P:ByteArray) (sv:Nat→Value) (ps:List Pc) (mo:Int) (pre:List Fv) (W:World) (dn:Nat) (tl:Bool) (L:List UInt8) (ad bf:Value):Prop where
 i:RwI W B R s P sv dn tl L ad bf
 s:RpS s ps (pre.map Prod.fst) dn tl L
 c:RowF W 3 Cb 1 (fun _=>.int .i64 (pre.length:Int))
 p:RowF W 66 b4 1 (fun _=>.pointer (some ⟨R,0,none⟩))
 m:RowF W 3 b5 1 (fun _=>.int .i64 mo)
 v:∀ i,i<10→AhV W (sv i) (slF i ps 0 0)
def LPr (B R b4 b5 Cb:Nat) (s P:ByteArray) (sv:Nat→Value) (ps:List Pc) (mo:Int) (pre:List Fv) (W:World):Prop:=∃ dn tl L ad bf,RaI B R b4 b5 Cb s P sv ps mo pre W dn tl L ad bf
def OwA (R Cb:Nat) (W:World) (b:Nat):Prop:=b=R∨b=Cb∨OwR R W b
theorem RwI.noc {w w':World} {B R:Nat} {s P:ByteArray} {sv:Nat→Value} {dn:Nat} {tl:Bool} {L:List UInt8} {ad bf:Value} {S:Nat→Prop} (h:RwI w B R s P sv dn tl L ad bf) (k:Keeps w w' S) (hS:∀ b,S b→NoC w b):RwI w' B R s P sv dn tl L ad bf:=
 ⟨h.r.same (k.block R h.r.f.lt (fun e=>h.r.f.noc (hS _ e))),h.a,owb_past h.o k (fun g hg e=>by
  obtain ⟨f9,h9⟩:=owns_rowF h.o hg
  exact h9.noc (hS _ e))⟩
theorem RaI.kept {B R b4 b5 Cb:Nat} {s P:ByteArray} {sv:Nat→Value} {ps:List Pc} {mo:Int} {pre:List Fv} {W C:World} {dn:Nat} {tl:Bool} {L:List UInt8} {ad bf:Value} (h:RaI B R b4 b5 Cb s P sv ps mo pre W dn tl L ad bf) (hi:RwI C B R s P sv dn tl L ad bf)
 (hr:∀ T g N f,RowF W T g N f→T=3∨T=66∨T=83→RowF C T g N f):RaI B R b4 b5 Cb s P sv ps mo pre C dn tl L ad bf:=
 ⟨hi,h.s,hr _ _ _ _ h.c (.inl rfl),hr _ _ _ _ h.p (.inr (.inl rfl)),hr _ _ _ _ h.m (.inl rfl),fun i hj=>(h.v i hj).stay (fun g N f h9=>hr _ _ _ _ h9 (.inr (.inr rfl)))⟩
theorem lpK_of {B R b4 b5 Cb:Nat} {X:Sx} {s P:ByteArray} {sv:Nat→Value} {ps:List Pc} {mo:Int}:LpK X (OwA R Cb) (LPr B R b4 b5 Cb s P sv ps mo):=by
 refine ⟨?_,?_,?_,?_,?_⟩
 ·rintro pre W C S ⟨dn,tl,L,ad,bf,h⟩ k hS
  exact ⟨dn,tl,L,ad,bf,h.kept (h.i.noc k hS) (fun T g N f hr _=>hr.keep k (fun e=>hr.noc (hS _ e)))⟩
 ·rintro pre W C n nt to_ ⟨dn,tl,L,ad,bf,h⟩ hs k
  exact ⟨dn,tl,L,ad,bf,h.kept (h.i.past k hs (by decide) (fun e=>RowF.apart hs h.i.r.f (by decide) e)) (fun T g N f hr hT=>hr.keep k (fun e=>RowF.apart hr hs (by rcases hT with rfl|rfl|rfl<;>decide) e))⟩
 ·rintro pre W n nt to_ ⟨dn,tl,L,ad,bf,h⟩ hs e
  rcases e with e|e|e
  ·exact RowF.apart hs h.i.r.f (by decide) e
  ·exact RowF.apart hs h.c (by decide) e
  ·obtain ⟨f9,h9⟩:=owns_rowF h.i.o (h.i.owr e)
   exact h9.apart hs (by decide) rfl
 ·rintro pre W b ⟨dn,tl,L,ad,bf,h⟩ e
  rcases e with e|e|e
  ·rw [e];exact h.i.r.f.lt
  ·rw [e];exact h.c.lt
  ·exact (owns_blt h.i.o (h.i.owr e)).2
 ·rintro pre W C b ⟨dn,tl,L,ad,bf,h⟩ k e
  rcases e with e|e|e
  ·exact .inl e
  ·exact .inr (.inl e)
  ·exact .inr (.inr ⟨bf,h.i.c14,(h.i.low k).owr e⟩)
theorem RpS.step {s:ByteArray} {ps:List Pc} {fs:List Fd} {dn dn':Nat} {tl tl':Bool} {L L':List UInt8} {f:Fd} {q:Pt} (h:RpS s ps fs dn tl L) (hf:FdK s q f) (hd:tl=false→dn≤f.fr)
 (hr:(tl=true∧tl'=true∧dn'=dn∧L'=L)∨(tl=false∧65536<L.length+(f.fr-dn)+(fil (hdl s f) ps).length∧tl'=true∧dn'=f.en∧L'=L)∨(tl=false∧L.length+(f.fr-dn)+(fil (hdl s f) ps).length≤65536∧tl'=false∧dn'=f.en∧L'=L++cutL s dn f.fr++fil (hdl s f) ps)):RpS s ps (fs++[f]) dn' tl' L':=by
 have hen:=hf.en
 have hle:=hf.le
 obtain ⟨h0,h8,h1⟩:=h
 rcases hr with ⟨e1,rfl,rfl,rfl⟩|⟨e1,e2,rfl,rfl,rfl⟩|⟨e1,e2,rfl,rfl,rfl⟩
 ·rcases h1 with ⟨a,_⟩|⟨_,a⟩
  ·rw [e1] at a;cases a
  ·have:=stW_le s ps fs [f]
   exact ⟨h0,h8,.inr ⟨rfl,by omega⟩⟩
 ·rcases h1 with ⟨_,a,b⟩|⟨a,_⟩
  ·refine ⟨h0,hen,.inr ⟨rfl,?_⟩⟩
   have hd':=hd e1
   rw [stW_snoc,stp]
   simp only [List.length_append]
   rw [←a,←b,cutL_len hd' (by omega)]
   exact e2
  ·rw [e1] at a;cases a
 ·rcases h1 with ⟨_,a,b⟩|⟨a,_⟩
  ·have hd':=hd e1
   refine ⟨?_,hen,.inl ⟨rfl,?_,?_⟩⟩
   ·simp only [List.length_append]
    rw [cutL_len hd' (by omega)]
    exact e2
   ·rw [stW_snoc,stp,←a,←b]
   ·rw [stW_snoc,stp]
  ·rw [e1] at a;cases a
end Go.Proofs.YtlgodacccilabaaGreatDoor
namespace Go.Proofs.YtlgodacccilabaaGreatDoor
open Go Go.RowKit Go.Shelf
set_option linter.unusedVariables false
attribute [local go_sem] Oper.semAt_some
theorem row_one (w:World) (T:Nat) (x:Value):RowF (w.alloc (.cells #[x] T)) T w.heap.size 1 (fun _=>x):=(RowF.mk' w T #[x]).congr (fun j hj=>by
 have h1:j<1:=by simpa using hj
 obtain rfl:j=0:=by omega
 rfl)
theorem RaI.push {W0 W W1:World} {Bd B R b4 b5 Cb N B9:Nat} {X:Sx} {pl:Nat→Bool} {fn:Nat} {bd cs:Array Value} {D:World→Prop} {s P:ByteArray} {sv:Nat→Value} {ps:List Pc} {mo:Int} {T:List Fd × Nat} {pre:List Fv} {x:Fv} {dn dn':Nat} {tl tl':Bool} {L L':List UInt8} {ad bf ad' bf':Value}
 (hx:WyAll X pl fn bd cs D Bd) (h:Ai W0 X D N (LPr B R b4 b5 Cb s P sv ps mo) pre W) (hr:RaI B R b4 b5 Cb s P sv ps mo pre W dn tl L ad bf) (hv:Vx X Bd T pre x W) (k1:KpR R W W1) (hi1:RwI W1 B R s P sv dn' tl' L' ad' bf') (hs1:RpS s ps ((pre++[x]).map Prod.fst) dn' tl' L')
 (hBd:Bd≤B) (hBR:B≤R) (hBC:B≤Cb) (hW0:W0.heap.size≤B) (h5:b5≠Cb):
 RaI B R b4 b5 Cb s P sv ps mo (pre++[x]) (W1.setCell ⟨Cb,0,none⟩ (.int .i64 ((pre.length+1:Nat):Int))) dn' tl' L' ad' bf'∧(∃ n nt to_,SB (W1.setCell ⟨Cb,0,none⟩ (.int .i64 ((pre.length+1:Nat):Int))) X.S X.s X.fx X.cn X.wh n nt to_∧n≤50000)∧D (W1.setCell ⟨Cb,0,none⟩ (.int .i64 ((pre.length+1:Nat):Int)))∧
  Below W0.heap.size W0 (W1.setCell ⟨Cb,0,none⟩ (.int .i64 ((pre.length+1:Nat):Int)))∧KpG (OwA R Cb) W (W1.setCell ⟨Cb,0,none⟩ (.int .i64 ((pre.length+1:Nat):Int)))∧KeepsFrom B9 W (W1.setCell ⟨Cb,0,none⟩ (.int .i64 ((pre.length+1:Nat):Int))):=by
 obtain ⟨W2,hW2⟩:∃ W2,W1.setCell ⟨Cb,0,none⟩ (.int .i64 ((pre.length+1:Nat):Int))=W2:=⟨_,rfl⟩
 have kS:Keeps W1 W2 (fun b=>b=Cb):=by rw [←hW2];exact (Keeps.refl W1 (fun b=>b=Cb)).setCell (S:=fun b=>b=Cb) (j:=0) rfl _
 have hRC:R≠Cb:=fun e=>RowF.apart hr.i.r.f hr.c (by decide) e
 have c1:=k1.row hr.i hr.c (by decide) (fun e=>hRC e.symm)
 have p1:=k1.row hr.i hr.p (by decide) (fun e=>RowF.apart hr.p hr.i.r.f (by decide) e)
 have m1:=k1.row hr.i hr.m (by decide) (fun e=>RowF.apart hr.m hr.i.r.f (by decide) e)
 have v1:=fun i hj=>(hr.v i hj).stay (fun g N f h9=>k1.row hr.i h9 (by decide) (fun e=>RowF.apart h9 hr.i.r.f (by decide) e))
 obtain ⟨n,nt,to_,s0,s2⟩:=hv.2.2
 have s1:=k1.row hr.i s0 (by decide) (fun e=>RowF.apart s0 hr.i.r.f (by decide) e)
 have c2:RowF W2 3 Cb 1 (fun _=>.int .i64 ((pre.length+1:Nat):Int)):=by rw [←hW2];exact (c1.set (j:=0) (by omega) _).congr (fun j hj=>by simp [show j=0 by omega])
 have hi2:=hi1.past kS c1 (by decide) (fun e=>hRC e.symm)
 have hkb:Keeps W W2 (fun b=>b=R∨OwR R W b∨b=Cb):=by
  refine ⟨kS.os.trans k1.k.os,kS.tape.trans k1.k.tape,kS.output.trans k1.k.output,Nat.le_trans k1.k.size kS.size,fun b hb hn=>?_⟩
  exact (kS.block b (Nat.lt_of_lt_of_le hb k1.k.size) (fun e=>hn (.inr (.inr e)))).trans (k1.k.block b hb (fun e=>hn (by rcases e with e|e;exact .inl e;exact .inr (.inl e))))
 have hge:∀ b,(b=R∨OwR R W b∨b=Cb)→B≤b:=fun b e=>by
  rcases e with e|e|e
  ·omega
  ·exact (owns_blt hr.i.o (hr.i.owr e)).1
  ·omega
 rw [hW2]
 refine ⟨⟨hi2,hs1,by rw [List.length_append,List.length_singleton];exact c2,p1.keep kS (fun e=>RowF.apart p1 c1 (by decide) e),m1.keep kS (fun e=>h5 e),fun i hj=>(v1 i hj).stay (fun g N f h9=>h9.keep kS (fun e=>RowF.apart h9 c1 (by decide) e))⟩,⟨n,nt,to_,RowF.keep s1 kS (fun e=>RowF.apart s1 c1 (by decide) e),s2⟩,?_,?_,?_,?_⟩
 ·refine d_list hx h.d (R::Cb::bf.ownBlock.toList) W2 (hkb.mono (fun b e=>?_)) (fun b e=>?_)
  ·rcases e with e|e|e
   ·simp [e]
   ·have:=hr.i.owr e
    simp [this]
   ·simp [e]
  ·simp only [List.mem_cons,Option.mem_toList] at e
   rcases e with e|e|e
   ·omega
   ·omega
   ·have:=(owns_blt hr.i.o e).1
    omega
 ·exact h.bl.trans (hkb.below h.bl.size (fun b e=>Nat.le_trans hW0 (hge b e)))
 ·intro b arr T9 fr hb hno
  have hlt:b<W.heap.size:=(Array.getElem?_eq_some_iff.1 hb).1
  refine ⟨hkb.block b hlt (fun e=>hno (by rcases e with e|e|e;exact .inl e;exact .inr (.inr e);exact .inr (.inl e))),fun e=>?_⟩
  rcases e with e|e|e
  ·exact hno (.inl e)
  ·exact hno (.inr (.inl e))
  ·have e2:OwR R W1 b:=by
    have h9:=hi2.owr e
    exact ⟨bf',hi1.c14,h9⟩
   exact hno (.inr (.inr (k1.o b e2 hlt)))
 ·refine ⟨hkb.size,fun k o hk hk2 ho=>?_⟩
  have hlt:k<W.heap.size:=(Array.getElem?_eq_some_iff.1 hk2).1
  have nc:NoC W k:=fun arr T9 fr e=>by rw [hk2] at e;cases e;simp [Obj.isCells] at ho
  rw [←hk2]
  refine hkb.block k hlt (fun e=>?_)
  rcases e with e|e|e
  ·exact hr.i.r.f.noc (e ▸ nc)
  ·obtain ⟨f9,h9⟩:=owns_rowF hr.i.o (hr.i.owr e)
   exact h9.noc nc
  ·exact hr.c.noc (e ▸ nc)
def IxG (W0:World) (N:Nat) (X:Sx) (LP:List Fv→World→Prop) (c:Code) (pre:List Fv) (W:World):Prop:=
 c=.exit 0∧pre.length=N∧LP pre W∧Below W0.heap.size W0 W∧∃ n nt to_,SB W X.S X.s X.fx X.cn X.wh n nt to_∧n≤50000
theorem ixG_own {W0:World} {N B9:Nat} {X:Sx} {Own:World→Nat→Prop} {LP:List Fv→World→Prop} {c:Code} (hl:LpK X Own LP) (hB:W0.heap.size≤B9):OwnFrom B9 (IxG W0 N X LP c):=by
 rintro pre W C row ⟨h1,h2,h4,h5,n,nt,to_,h6,h7⟩ hg hr
 obtain ⟨k,hn⟩:=own_noc hg hr
 exact ⟨h1,h2,hl.noc _ _ _ _ h4 k hn,h5.trans (k.below h5.size (fun b e=>Nat.le_trans hB (hr b e).1)),n,nt,to_,h6.keep k (fun e=>RowF.noc h6 (hn _ e)),h7⟩
theorem se_own {X:Sx} {T:List Fd × Nat} {B9:Nat}:OwnFrom B9 (Se X T):=by
 rintro xs W C row h hg hr
 obtain ⟨k,hn⟩:=own_noc hg hr
 rcases h with ⟨a,b,nt,to_,hb⟩|⟨a,n,nt,to_,hb,c,d⟩
 ·exact .inl ⟨a,b,nt,to_,hb.keep k (fun e=>RowF.noc hb (hn _ e))⟩
 ·exact .inr ⟨a,n,nt,to_,hb.keep k (fun e=>RowF.noc hb (hn _ e)),c,d⟩
def AxG (S R Bd b:Nat) (mo:Int) (X:Sx) (T:List Fd × Nat) (pre:List Fv) (x:Fv) (a':Act) (W:World):Prop:=
 ∃ Bx,RowF W 32 Bx 3 (fun j=>#[Value.int .i64 (x.1.fr:Int),.int .i64 (x.1.en:Int),x.2].getD j (.bool false))∧Vx X Bd T pre x W∧
   a'={ tmps:=#[Value.pointer (some { block:=S,off:=0 }),Value.pointer (some { block:=R,off:=0 }),
    Value.int IntKind.i64 mo,undef,Value.pointer (some { block:=b,off:=0 }),
    Value.pointer (some { block:=b+1,off:=0 }),Value.int IntKind.i64 0,
    Value.pointer (some { block:=b+1+1,off:=0 }),Value.pointer (some { block:=Bx,off:=0 }),Value.int IntKind.i64 mo,
    Value.bool true,Value.pointer (some { block:=S,off:=0 }),
    Value.func (Fn.func 22) #[Value.pointer (some { block:=S,off:=0 })] #[],.agg #[.int .i64 (x.1.fr:Int),.int .i64 (x.1.en:Int),x.2],undef,undef,undef,
    undef,undef,undef,undef,undef,undef,undef,undef],defers:=[] }
theorem axG_own {S R Bd b B9:Nat} {mo:Int} {X:Sx} {T:List Fd × Nat} {pre:List Fv} {x:Fv} {a':Act}:OwnFrom B9 (fun (_:Unit) W=>AxG S R Bd b mo X T pre x a' W):=by
 rintro _ W C row ⟨Bx,h1,⟨h2,h3,n,nt,to_,h4,h5⟩,h6⟩ hg hr
 obtain ⟨k,hn⟩:=own_noc hg hr
 refine ⟨Bx,h1.keep k (fun e=>h1.noc (hn _ e)),⟨owns_stay h2 (fun g hg2=>k.block g (owns_blt h2 hg2).2 (fun e=>?_)),h3,n,nt,to_,h4.keep k (fun e=>RowF.noc h4 (hn _ e)),h5⟩,h6⟩
 obtain ⟨f9,h9⟩:=owns_rowF h2 hg2
 exact h9.noc (hn _ e)
def RaR (W0:World) (B R S:Nat) (t:Pt) (wh:Value) (s P:ByteArray) (sv:Nat→Value) (ps:List Pc) (T:List Fd × Nat) (e:Ending) (w':World):Prop:=
 Below W0.heap.size W0 w'∧∃ (cnt dn:Nat) (tl:Bool) (L:List UInt8) (ad bf:Value),e=.returned (.int .i64 (cnt:Int))∧RwI w' B R s P sv dn tl L ad bf∧
  ((T.2≤50000∧(∃ n nt to_,SB w' S s t.start t.caps wh n nt to_∧n≤50000)∧cnt=T.1.length∧((65536<(whW s ps T.1).length∧tl=true)∨((whW s ps T.1).length≤65536∧tl=false∧L=whW s ps T.1)))∨
   (50000<T.2∧∃ n nt to_,SB w' S s t.start t.caps wh n nt to_∧50000<n∧n≤1000000))
theorem fin_ok {w w':World} {B R:Nat} {s P:ByteArray} {sv:Nat→Value} {ps:List Pc} {t:Pt} {fs:List Fd} {dn:Nat} {tl:Bool} {L:List UInt8} {e:Ending} (hs:RpS s ps fs dn tl L) (h:FnR w B R s P sv dn tl L e w') (hk:∀ f∈fs,FdK s t f):
 ∃ tl' L' ad bf,RwI w' B R s P sv dn tl' L' ad bf∧((65536<(whW s ps fs).length∧tl'=true)∨((whW s ps fs).length≤65536∧tl'=false∧L'=whW s ps fs)):=by
 obtain ⟨_,_,h3⟩:=h
 obtain ⟨h0,h8,h1⟩:=hs
 have hen:=stW_end (s:=s) (t:=t) ps fs hk
 have hwl:(whW s ps fs).length=(stW s ps fs).1.length+(s.size-(stW s ps fs).2):=by
  unfold whW
  rw [List.length_append,cutL_len hen (Nat.le_refl _)]
 rcases h3 with ⟨h3,ad,bf,h4⟩|⟨h3,h5,ad,bf,h4⟩
 ·refine ⟨_,_,_,_,h4,.inl ⟨?_,rfl⟩⟩
  rcases h1 with ⟨a,b,c⟩|⟨a,b⟩
  ·rcases h3 with h3|h3
   ·rw [a] at h3;cases h3
   ·rw [hwl,←b,←c];exact h3
  ·rw [hwl];omega
 ·rcases h1 with ⟨a,b,c⟩|⟨a,b⟩
  ·exact ⟨_,_,_,_,h4,.inr ⟨by rw [hwl,←b,←c];exact h5,rfl,by unfold whW;rw [←b,←c]⟩⟩
  ·rw [h3] at a;cases a
theorem RaI.fin1 {W0 W W1:World} {B R b4 b5 Cb:Nat} {X:Sx} {t:Pt} {s P:ByteArray} {sv:Nat→Value} {ps:List Pc} {mo:Int} {pre:List Fv} {dn:Nat} {tl:Bool} {L:List UInt8} {ad bf:Value} {e:Ending} {n:Nat} {nt:Nt} {to_:Nat} (hr:RaI B R b4 b5 Cb s P sv ps mo pre W dn tl L ad bf) (hbl:Below W0.heap.size W0 W) (hW0:W0.heap.size≤B) (hBR:B≤R)
 (hf:FnR W B R s P sv dn tl L e W1) (hsb:SB W X.S X.s X.fx X.cn X.wh n nt to_):Below W0.heap.size W0 W1∧SB W1 X.S X.s X.fx X.cn X.wh n nt to_∧W1.cell? ⟨Cb,0,none⟩=some (.int .i64 (pre.length:Int))∧(∃ dn tl L ad bf,RwI W1 B R s P sv dn tl L ad bf)∧
   ((∀ f∈pre.map Prod.fst,FdK s t f)→∃ dn tl' L' ad bf,RwI W1 B R s P sv dn tl' L' ad bf∧((65536<(whW s ps (pre.map Prod.fst)).length∧tl'=true)∨((whW s ps (pre.map Prod.fst)).length≤65536∧tl'=false∧L'=whW s ps (pre.map Prod.fst))))∧∀ D9:Nat,W.heap[D9]?=some (Obj.deferred (some []))→W1.heap[D9]?=some (Obj.deferred (some [])):=by
 have k1:=hf.2.1
 refine ⟨hbl.trans (k1.k.below hbl.size (fun b e=>?_)),k1.row hr.i hsb (by decide) (fun e=>RowF.apart hsb hr.i.r.f (by decide) e),(k1.row hr.i hr.c (by decide) (fun e=>RowF.apart hr.c hr.i.r.f (by decide) e)).cell (j:=0) (by omega),?_,fun hk=>?_,fun D9 hD=>?_⟩
 ·rcases e with e|e
  ·omega
  ·have:=(owns_blt hr.i.o (hr.i.owr e)).1
   omega
 ·rcases hf.2.2 with ⟨_,a,b,h⟩|⟨_,_,a,b,h⟩
  ·exact ⟨_,_,_,a,b,h⟩
  ·exact ⟨_,_,_,a,b,h⟩
 ·obtain ⟨tl',L',a,b,h1,h2⟩:=fin_ok (t:=t) hr.s hf hk
  exact ⟨dn,tl',L',a,b,h1,h2⟩
 ·have hlt:D9<W.heap.size:=(Array.getElem?_eq_some_iff.1 hD).1
  rw [←hD]
  refine k1.k.block D9 hlt (fun e=>?_)
  have nc:NoC W D9:=fun arr T9 fr e9=>by rw [hD] at e9;cases e9
  rcases e with e|e
  ·exact hr.i.r.f.noc (e ▸ nc)
  ·obtain ⟨f9,h9⟩:=owns_rowF hr.i.o (hr.i.owr e)
   exact h9.noc nc
theorem rar_put {W0 W1:World} {B R S:Nat} {t:Pt} {wh:Value} {s P:ByteArray} {sv:Nat→Value} {ps:List Pc} {T:List Fd × Nat} {e:Ending} {D9:Nat} {o o':Obj} (h:RaR W0 B R S t wh s P sv ps T e W1) (hD:W1.heap[D9]?=some o) (ho:o.isCells=false) (hl:W0.heap.size≤D9):RaR W0 B R S t wh s P sv ps T e (W1.putObj D9 o'):=by
 obtain ⟨k,hn⟩:=own_noc (B:=0) (grownBy_putObj' W1 D9 o') (fun r e=>by cases e;exact ⟨Nat.zero_le _,_,hD,ho⟩)
 obtain ⟨h1,cnt,dn,tl,L,ad,bf,h2,h3,h4⟩:=h
 refine ⟨h1.trans (k.below h1.size (fun b e=>by cases e;exact hl)),cnt,dn,tl,L,ad,bf,h2,h3.noc k hn,?_⟩
 rcases h4 with ⟨a,⟨n,nt,to_,b,b2⟩,c⟩|⟨a,n,nt,to_,b,c⟩
 ·exact .inl ⟨a,⟨n,nt,to_,b.keep k (fun e=>RowF.noc b (hn _ e)),b2⟩,c⟩
 ·exact .inr ⟨a,n,nt,to_,b.keep k (fun e=>RowF.noc b (hn _ e)),c⟩
set_option maxRecDepth 100000 in
set_option maxHeartbeats 3200000 in
theorem repAll_any (w W0:World) (S R B Bd:Nat) (t:Pt) (fn:Nat) (bd cs:Array Value) (D:World→Prop) (s P:ByteArray) (sv:Nat→Value) (ps:List Pc) (mo:Int) (hs:s.size≤65536) (hk:PtK t) (hlen:t.items.length≤200) (hx:WyAll ⟨S,s,t.start,t.caps,.func (.func fn) bd cs,t.items⟩ t.place fn bd cs D Bd)
 (hSB:SB w S s t.start t.caps (.func (.func fn) bd cs) 0 nt0 0) (hD:D w) (hI:RwI w B R s P sv 0 false [] (.pointer none) nilS) (hW0:Below W0.heap.size W0 w) (hS0:W0.heap.size≤S) (hBd:Bd≤B) (hBR:B≤R) (hW0B:W0.heap.size≤B)
 (hP:P.data.toList=pla ps) (hok:∀ n,Pc.s n∈ps→n<10) (hpl:ps.length≤1048576) (hv:∀ i,i<10→AhV w (sv i) (slF i ps 0 0)) (ht:Tab W0) (hg:0<W0.heap.size):
 Calls Tryz.prog 12 #[.pointer (some ⟨S,0,none⟩),.pointer (some ⟨R,0,none⟩),.int .i64 mo] w fun e w'=>RaR W0 B R S t (.func (.func fn) bd cs) s P sv ps (allM s t mo.toNat (s.size+2) 0 0 0) e w':=by
 obtain ⟨T,hT⟩:∃ T,allM s t mo.toNat (s.size+2) 0 0 0=T:=⟨_,rfl⟩
 have HAK:=hide (allM_ok (s:=s) (m:=mo.toNat) hk (k:=s.size+2) (at_:=0) (n:=0) (c:=0))
 have HTl:=hide (allM_len (s:=s) (t:=t) (m:=mo.toNat) (k:=s.size+2) (at_:=0) (n:=0) (c:=0))
 rw [hT] at HAK HTl ⊢
 have k3:=Keeps.of (b_3 w (.cells #[.pointer (some ⟨R,0,none⟩)] 66) (.cells #[.int .i64 mo] 3) (.cells #[.int .i64 0] 3)) (Nat.le_refl _) (fun _=>False)
 have HW:=hide hx
 have HT:=hide hT
 have hSl:S<w.heap.size:=RowF.lt hSB
 have hRl:R<w.heap.size:=hI.r.f.lt
 have HL:=hide (show RaI B R w.heap.size (w.heap.size+1) (w.heap.size+1+1) s P sv ps mo [] (((w.alloc (.cells #[.pointer (some ⟨R,0,none⟩)] 66)).alloc (.cells #[.int .i64 mo] 3)).alloc (.cells #[.int .i64 0] 3)) 0 false [] (.pointer none) nilS from by
  refine ⟨hI.low k3,⟨by simp,by omega,.inl ⟨rfl,by simp [stW],by simp [stW]⟩⟩,?_,?_,?_,fun i hi=>(hv i hi).low (b_3 w _ _ _)⟩
  ·have h9:=row_one ((w.alloc (.cells #[.pointer (some ⟨R,0,none⟩)] 66)).alloc (.cells #[.int .i64 mo] 3)) 3 (.int .i64 0)
   rw [show ((w.alloc (.cells #[.pointer (some ⟨R,0,none⟩)] 66)).alloc (.cells #[.int .i64 mo] 3)).heap.size=w.heap.size+1+1 by simp] at h9
   exact h9
  ·exact (row_one w 66 (.pointer (some ⟨R,0,none⟩))).keep (Keeps.of (b_2 _ _ _) (Nat.le_refl _) (fun _=>False)) (fun x=>x)
  ·have h9:=(row_one (w.alloc (.cells #[.pointer (some ⟨R,0,none⟩)] 66)) 3 (.int .i64 mo)).keep (Keeps.of (b_1 _ (.cells #[.int .i64 0] 3)) (Nat.le_refl _) (fun _=>False)) (fun x=>x)
   rw [show (w.alloc (.cells #[.pointer (some ⟨R,0,none⟩)] 66)).heap.size=w.heap.size+1 by simp] at h9
   exact h9)
 have HSB:=hide (hSB.keep k3 (fun x=>x))
 have HD:=hide (hx.new _ _ hD k3)
 have HB:=hide (hW0.trans (k3.below hW0.size (fun _ x=>x.elim)))
 have HPO:=hide (And.intro hP hok)
 have HTb:=hide ht
 have HKk:=hide hk
 have hz2:w.heap.size+3≤(((w.alloc (.cells #[.pointer (some ⟨R,0,none⟩)] 66)).alloc (.cells #[.int .i64 mo] 3)).alloc (.cells #[.int .i64 0] 3)).heap.size:=by simp
 have m1:(((w.alloc (.cells #[.pointer (some ⟨R,0,none⟩)] 66)).alloc (.cells #[.int .i64 mo] 3)).alloc (.cells #[.int .i64 0] 3)).cell? ⟨w.heap.size+1,0,none⟩=some (.int .i64 mo):=HL.out.m.cell (j:=0) (by omega)
 clear hx hT hSB hD hI hW0 hP hok hv ht hk k3
 refine (callsIn_wide (n:=3)).1 ?_
 refine callsIn_of_wp_marks Tryz.func12 rfl trivial ?_ rfl
 simp only [Tryz.ntmps12,List.size_toArray,List.length_cons,List.length_nil,Nat.reduceAdd,Nat.reduceSub,Array.replicate_succ,Array.replicate_zero,List.push_toArray,List.append_toArray,List.nil_append,List.cons_append]
 by_cases hmo:(1:Int)≤mo
 ·gi_wp2
  generalize ((w.alloc (.cells #[.pointer (some ⟨R,0,none⟩)] 66)).alloc (.cells #[.int .i64 mo] 3)).alloc (.cells #[.int .i64 0] 3)=w2 at *
  have hN1:1≤mo.toNat:=by omega
  obtain ⟨X,hX⟩:∃ X:Sx,X=⟨S,s,t.start,t.caps,.func (.func fn) bd cs,t.items⟩:=⟨_,rfl⟩
  rw [←hX] at HW
  have HX0:=hide hX
  have hXS:X.S=S:=by rw [hX]
  have HXS:=hide hXS
  have HSB2:=hide (show SB w2 X.S X.s X.fx X.cn X.wh 0 nt0 0 by rw [hX];exact HSB.out)
  clear hX hXS
  have LK:=hide (lpK_of (B:=B) (R:=R) (b4:=w.heap.size) (b5:=w.heap.size+1) (Cb:=w.heap.size+1+1) (X:=X) (s:=s) (P:=P) (sv:=sv) (ps:=ps) (mo:=mo))
  have hW0s:=HB.out.size
  refine range_st (α:=Fv) (F:=Fence.wide) (n:=3) (gf:=22) (bd:=#[.pointer (some ⟨S,0,none⟩)]) (lb:=#[]) rfl (by omega) rfl trivial (enters_of Tryz.func22 (by kernel_rfl) rfl) (encs:=encF) (fun x=>rfl)
   (Kp:=KpG (OwA R (w.heap.size+1+1))) (S:=Se X T) (Sp:=Sq mo.toNat T) (N:=mo.toNat) se_own KpG.trans ?kb (Ai W0 X D mo.toNat (LPr B R w.heap.size (w.heap.size+1) (w.heap.size+1+1) s P sv ps mo)) (IxG W0 mo.toNat X (LPr B R w.heap.size (w.heap.size+1) (w.heap.size+1+1) s P sv ps mo)) (ai_own LK.out HW.out (by omega) (by omega)) (fun c=>ixG_own LK.out (by omega))
   ⟨⟨0,false,[],.pointer none,nilS,HL.out⟩,⟨0,nt0,0,HSB2.out,by omega⟩,HD.out,HB.out,by simp;omega⟩
   (Vx X Bd T) (AxG S R Bd w.heap.size mo X T) (fun pre x a'=>axG_own) ?seq ?assign ?body ?done ?stop
  case kb=>
   intro W l o o' c1 c2 c3 b arr T9 fr hb hno
   have hbl:b≠l:=by rintro rfl;rw [c2] at hb;cases hb;simp [Obj.isCells] at c3
   refine ⟨World.putObj_heap_other hbl,fun e=>hno ?_⟩
   rcases e with e|e|e
   ·exact .inl e
   ·exact .inr (.inl e)
   ·obtain ⟨v,e1,e2⟩:=e
    exact .inr (.inr ⟨v,by rw [←e1];exact (World.cell?_of_block (World.putObj_heap_other (show R≠l by omega))).symm,e2⟩)
  case seq=>
   rintro l J Jx W hJ hJs hY hJ0 hOld
   have hX:=HX0.out
   have hXS:=HXS.out
   have h9:=all_in (N:=mo.toNat) (Own:=OwA R (w.heap.size+1+1)) (LP:=LPr B R w.heap.size (w.heap.size+1) (w.heap.size+1+1) s P sv ps mo) (W0:=W0) (Bd:=Bd) (B9:=w2.heap.size) (X:=X) (t:=t) (fn:=fn) (bd:=bd) (cs:=cs) (D:=D) (J:=J) (Jx:=Jx) T
    ⟨LK.out,by rw [hX];exact hs,by rw [hX],by rw [hX],by rw [hX],by rw [hX],HKk.out,hlen,HW.out,by omega,by omega,by omega,hJ,hJs⟩ 2 l (by omega) (by rw [hX];exact HT.out) hY W hJ0 ⟨nt0,0,RowF.same HSB2.out (hOld _ (by omega))⟩
   rw [hXS] at h9
   exact h9
  case assign=>
   rintro l pre ⟨f,v⟩ W K hi hv hK
   obtain ⟨av,kv,hvv⟩:=owns_val hv.1
   dsimp only at hvv
   subst hvv
   dsimp only [encF]
   have kA:=Keeps.of (b_1 W (.cells #[.int .i64 f.fr,.int .i64 f.en,.slice av f.caps.length kv] 32)) (Nat.le_refl _) (fun _=>False)
   have HI:=hide ((ai_own (W0:=W0) (B9:=w2.heap.size) (N:=mo.toNat) LK.out HW.out (by omega) (by omega)).alloc (.cells #[.int .i64 f.fr,.int .i64 f.en,.slice av f.caps.length kv] 32) hi)
   have HV:=hide (show Vx X Bd T pre (f,.slice av f.caps.length kv) (W.alloc (.cells #[.int .i64 f.fr,.int .i64 f.en,.slice av f.caps.length kv] 32)) from by
    obtain ⟨v1,v2,n,nt,to_,v3,v4⟩:=hv
    exact ⟨owns_keep v1 kA (fun _ x=>x.elim),v2,n,nt,to_,v3.keep kA (fun x=>x),v4⟩)
   have HKp:=hide (show KpG (OwA R (w.heap.size+1+1)) W (W.alloc (.cells #[.int .i64 f.fr,.int .i64 f.en,.slice av f.caps.length kv] 32)) from fun b arr T9 fr hb hno=>⟨kA.block b (Array.getElem?_eq_some_iff.1 hb).1 (fun x=>x),fun e=>hno (LK.out.ownk _ _ _ _ hi.ls kA e)⟩)
   have HXr:=hide (RowF.mk' W 32 #[.int .i64 f.fr,.int .i64 f.en,.slice av f.caps.length kv])
   clear hi hv kA
   gi_wp2
   exact hK _ _ ((KeepsOthers.alloc _ _).from _) HKp.out HI.out ⟨W.heap.size,HXr.out,HV.out,rfl⟩
  case body=>
   rintro l pre ⟨f,v⟩ a' W hi ⟨Bx,hXr,hv,rfl⟩ hlen9
   obtain ⟨av,kv,hvv⟩:=owns_val hv.1
   dsimp only at hvv
   subst hvv
   obtain ⟨dn,tl,L,ad,bf,hr⟩:=hi.ls
   obtain ⟨rest,hrest⟩:=hv.2.1
   dsimp only at hXr hrest
   have hmem:f∈T.1:=by rw [hrest];simp
   have hfk:=HAK.out.2 f hmem
   have hj:pre.length<T.1.length:=by rw [hrest];simp
   have hpb:pre.length≤65537:=by have:=HTl.out;omega
   have hd:tl=false→dn≤f.fr:=fun e=>by
    have h1:=stW_at (s:=s) (ps:=ps) HAK.out.1 hj
    have e1:T.1.take pre.length=pre.map Prod.fst:=by rw [hrest,List.take_left' (by simp)]
    have e2:T.1[pre.length]?=some f:=by rw [hrest,List.getElem?_append_right (by simp)];simp
    have e3:=List.getElem?_eq_getElem hj
    rw [e2] at e3
    rw [←Option.some.inj e3,e1] at h1
    rcases hr.s.2.2 with ⟨_,_,b⟩|⟨b,_⟩
    ·rw [b];exact h1
    ·rw [e] at b;cases b
   have hRW:R<W.heap.size:=hr.i.r.f.lt
   have HRp:=hide (replace_any W B R s P sv dn tl L ad bf ps t f (.slice av f.caps.length kv) hr.i hs hfk HKk.out.caps hd hr.s.1 (by omega) hRW HPO.out.1 HPO.out.2 hpl hr.v (CpA.of hv.1) (tab_same HTb.out (hi.bl.block _ hg)) (by have:=hi.bl.size;omega))
   have x0:W.cell? ⟨Bx,0,none⟩=some (.int .i64 f.fr):=hXr.cell (j:=0) (by omega)
   have x1:W.cell? ⟨Bx,1,none⟩=some (.int .i64 f.en):=hXr.cell (j:=1) (by omega)
   have x2:W.cell? ⟨Bx,2,none⟩=some (.slice av f.caps.length kv):=hXr.cell (j:=2) (by omega)
   have q4:W.cell? ⟨w.heap.size,0,none⟩=some (.pointer (some ⟨R,0,none⟩)):=hr.p.cell (j:=0) (by omega)
   have HPu:=hide (fun (W1:World) (k1:KpR R W W1) (dn':Nat) (tl':Bool) (L':List UInt8) (ad' bf':Value) (hi1:RwI W1 B R s P sv dn' tl' L' ad' bf') (hs1:RpS s ps ((pre++[(f,Value.slice av f.caps.length kv)]).map Prod.fst) dn' tl' L')=>RaI.push (B9:=w2.heap.size) HW.out hi hr hv k1 hi1 hs1 hBd hBR (by omega) hW0B (by omega))
   have HSt:=hide (fun (dn':Nat) (tl':Bool) (L':List UInt8) h=>hr.s.step (dn':=dn') (tl':=tl') (L':=L') hfk hd h)
   have HCr:=hide (fun (W1:World) (k1:KpR R W W1)=>k1.row hr.i hr.c (by decide) (fun e=>RowF.apart hr.c hr.i.r.f (by decide) e))
   clear hXr hv hi hr hfk hd
   gi_wp2
   refine ⟨trivial,(callsIn_wide.2 HRp.out).mono ?_⟩
   clear HRp x0 x1 x2 q4
   rintro e W1 ⟨⟨v1,rfl⟩,k1,hor⟩
   obtain ⟨dn',tl',L',ad',bf',hi1,hs1⟩:∃ dn' tl' L' ad' bf',RwI W1 B R s P sv dn' tl' L' ad' bf'∧RpS s ps ((pre++[(f,Value.slice av f.caps.length kv)]).map Prod.fst) dn' tl' L':=by
    rw [List.map_append]
    rcases hor with ⟨o1,a,b,o2⟩|⟨o1,o2,a,b,o3⟩|⟨o1,o2,a,b,o3⟩
    ·exact ⟨_,_,_,a,b,o2,HSt.out _ _ _ (.inl ⟨o1,rfl,rfl,rfl⟩)⟩
    ·exact ⟨_,_,_,a,b,o3,HSt.out _ _ _ (.inr (.inl ⟨o1,o2,rfl,rfl,rfl⟩))⟩
    ·exact ⟨_,_,_,a,b,o3,HSt.out _ _ _ (.inr (.inr ⟨o1,o2,rfl,rfl,rfl⟩))⟩
   have HPx:=hide (HPu.out W1 k1 _ _ _ _ _ hi1 hs1)
   have hcr:=HCr.out W1 k1
   have c1:W1.cell? ⟨w.heap.size+1+1,0,none⟩=some (.int .i64 (pre.length:Int)):=hcr.cell (j:=0) (by omega)
   have z1:W1.frozen? ⟨w.heap.size+1+1,0,none⟩=false:=hcr.frz 0
   have hci:((pre.length+1:Nat):Int)=(pre.length:Int)+1:=by omega
   rw [hci] at HPx
   have d5:(W1.setCell ⟨w.heap.size+1+1,0,none⟩ (.int .i64 ((pre.length:Int)+1))).cell? ⟨w.heap.size+1+1,0,none⟩=some (.int .i64 ((pre.length:Int)+1)):=by
    have:=HPx.out.1.c.cell (j:=0) (by omega)
    rw [this];simp
   have m5:(W1.setCell ⟨w.heap.size+1+1,0,none⟩ (.int .i64 ((pre.length:Int)+1))).cell? ⟨w.heap.size+1,0,none⟩=some (.int .i64 mo):=HPx.out.1.m.cell (j:=0) (by omega)
   have m5b:W1.cell? ⟨w.heap.size+1,0,none⟩=some (.int .i64 mo):=by
    rw [←m5]
    exact (World.cell?_of_block (heap_setCell_other W1 ⟨w.heap.size+1+1,0,none⟩ (w.heap.size+1) _ (by show w.heap.size+1≠w.heap.size+1+1;omega))).symm
   clear hor k1 hi1 hs1 HPu HSt HCr hcr hci
   by_cases hN:pre.length+1=mo.toNat
   ·have hNb:(((pre.length:Int)+1)==mo)=true:=by simp;omega
    have HN:=hide hN
    clear hN
    gi_wp2
    obtain ⟨p1,p2,p3,p4,p5,p6⟩:=HPx.out
    exact ⟨p6,rfl,by simp [HN.out],⟨_,_,_,_,_,p1⟩,p4,p2⟩
   ·have hNb:(((pre.length:Int)+1)==mo)=false:=by simp;omega
    gi_wp2
    obtain ⟨p1,⟨n9,nt9,to9,p2,p2'⟩,p3,p4,p5,p6⟩:=HPx.out
    exact ⟨p6,p5,⟨_,_,_,_,_,p1⟩,⟨n9,nt9,to9,p2,by omega⟩,p3,p4,by simp;omega⟩
  case done=>
   rintro D9 xs W hD hSe hI9 hK
   obtain ⟨dn,tl,L,ad,bf,hr⟩:=hI9.ls
   have HSe:=hide hSe
   have HFi:=hide (finish_any W B R s P sv dn tl L ad bf hr.i hs hr.s.2.1 (by have:=hr.s.1;omega) (by have:=hr.i.r.f.lt;omega))
   have q4:W.cell? ⟨w.heap.size,0,none⟩=some (.pointer (some ⟨R,0,none⟩)):=hr.p.cell (j:=0) (by omega)
   have HRa:=hide hr
   have HBl:=hide hI9.bl
   have HKd:=hide hK
   clear hr hK hI9 hSe
   gi_wp2
   refine ⟨trivial,(callsIn_wide.2 HFi.out).mono ?_⟩
   clear HFi q4
   intro e W1 hfn
   obtain ⟨v1,rfl⟩:=hfn.1
   obtain ⟨n,nt,to_,hsb⟩:∃ n nt to_,SB W X.S X.s X.fx X.cn X.wh n nt to_:=by
    rcases HSe.out with ⟨_,_,nt,to_,h⟩|⟨_,n,nt,to_,h,_⟩
    ·exact ⟨_,nt,to_,h⟩
    ·exact ⟨n,nt,to_,h⟩
   obtain ⟨g1,g2,g3,g4,g5,g6⟩:=HRa.out.fin1 (t:=t) (X:=X) HBl.out hW0B hBR hfn hsb
   have HFin:=hide (show RaR W0 B R S t (.func (.func fn) bd cs) s P sv ps T (.returned (.int .i64 (xs.length:Int))) W1 from by
    have hX:=HX0.out
    rcases HSe.out with ⟨a1,a2,nt2,to2,a3⟩|⟨a1,n2,nt2,to2,a3,a4,a5⟩
    ·obtain ⟨g1',g2',_⟩:=HRa.out.fin1 (t:=t) (X:=X) HBl.out hW0B hBR hfn a3
     rw [a2] at g5
     obtain ⟨dn9,tl9,L9,ad9,bf9,b1,b2⟩:=g5 HAK.out.2
     rw [hX] at g2'
     exact ⟨g1,xs.length,dn9,tl9,L9,ad9,bf9,rfl,b1,.inl ⟨a1,⟨_,nt2,to2,g2',a1⟩,by rw [←a2];simp,b2⟩⟩
    ·obtain ⟨g1',g2',_⟩:=HRa.out.fin1 (t:=t) (X:=X) HBl.out hW0B hBR hfn a3
     obtain ⟨dn9,tl9,L9,ad9,bf9,b1⟩:=g4
     rw [hX] at g2'
     exact ⟨g1,xs.length,dn9,tl9,L9,ad9,bf9,rfl,b1,.inr ⟨a1,n2,nt2,to2,g2',a4,a5⟩⟩)
   have HKd1:=hide (g6 _ HKd.out)
   have c1:=g3
   clear g1 g2 g3 g4 g5 g6 hfn hsb HRa HBl HKd
   gi_wp2
   refine ⟨by simp,.inl ⟨_,_,rfl,run_takeDeferred HKd1.out,?_⟩⟩
   exact ⟨.int .i64 (xs.length:Int),by simp [results,Tryz.results12,go_sem],rar_put HFin.out HKd1.out rfl (by omega)⟩
  case stop=>
   rintro D9 c pre W hD hSq ⟨rfl,hpl9,hls,hbl,n,nt,to_,hb,hn⟩ hK
   obtain ⟨t1,t2⟩:=hSq hpl9
   obtain ⟨dn,tl,L,ad,bf,hr⟩:=hls
   have HSB9:=hide hb
   have HT12:=hide (And.intro t1 t2)
   have HPL:=hide hpl9
   have HFi:=hide (finish_any W B R s P sv dn tl L ad bf hr.i hs hr.s.2.1 (by have:=hr.s.1;omega) (by have:=hr.i.r.f.lt;omega))
   have q4:W.cell? ⟨w.heap.size,0,none⟩=some (.pointer (some ⟨R,0,none⟩)):=hr.p.cell (j:=0) (by omega)
   have HRa:=hide hr
   have HBl:=hide hbl
   have HKd:=hide hK
   clear hr hK hbl hb t1 t2 hpl9 hSq
   gi_wp2
   refine ⟨trivial,(callsIn_wide.2 HFi.out).mono ?_⟩
   clear HFi q4
   intro e W1 hfn
   obtain ⟨v1,rfl⟩:=hfn.1
   have hsb:=HSB9.out
   obtain ⟨g1,g2,g3,g4,g5,g6⟩:=HRa.out.fin1 (t:=t) (X:=X) HBl.out hW0B hBR hfn hsb
   have HFin:=hide (show RaR W0 B R S t (.func (.func fn) bd cs) s P sv ps T (.returned (.int .i64 (pre.length:Int))) W1 from by
    have hX:=HX0.out
    rw [HT12.out.2] at g5
    obtain ⟨dn9,tl9,L9,ad9,bf9,b1,b2⟩:=g5 HAK.out.2
    rw [hX] at g2
    exact ⟨g1,pre.length,dn9,tl9,L9,ad9,bf9,rfl,b1,.inl ⟨HT12.out.1,⟨_,nt,to_,g2,hn⟩,by rw [←HT12.out.2];simp,b2⟩⟩)
   have HKd1:=hide (g6 _ HKd.out)
   have c1:=g3
   clear g1 g2 g3 g4 g5 g6 hfn hsb HRa HBl HKd
   gi_wp2
   refine ⟨by simp,.inl ⟨_,_,rfl,run_takeDeferred HKd1.out,?_⟩⟩
   exact ⟨.int .i64 (pre.length:Int),by simp [results,Tryz.results12,go_sem],rar_put HFin.out HKd1.out rfl (by omega)⟩
 ·have hm0:mo.toNat=0:=by omega
  have hT0:T=([],0):=by rw [←HT.out,hm0,allM_end (by omega)]
  have HT0:=hide hT0
  have hmo2:¬ ((1:Int)≤mo):=hmo
  clear hm0 hT0
  gi_wp2
  generalize ((w.alloc (.cells #[.pointer (some ⟨R,0,none⟩)] 66)).alloc (.cells #[.int .i64 mo] 3)).alloc (.cells #[.int .i64 0] 3)=W at *
  have HFi:=hide (finish_any W B R s P sv 0 false [] (.pointer none) nilS HL.out.i hs (by omega) (by simp) (by omega))
  refine ⟨trivial,(callsIn_wide.2 HFi.out).mono ?_⟩
  clear HFi
  intro e W1 hfn
  obtain ⟨v1,rfl⟩:=hfn.1
  obtain ⟨g1,g2,g3,g4,g5,g6⟩:=HL.out.fin1 (t:=t) (X:=⟨S,s,t.start,t.caps,.func (.func fn) bd cs,t.items⟩) HB.out hW0B hBR hfn HSB.out
  have HFin:=hide (show RaR W0 B R S t (.func (.func fn) bd cs) s P sv ps T (.returned (.int .i64 0)) W1 from by
   obtain ⟨dn9,tl9,L9,ad9,bf9,b1,b2⟩:=g5 (fun f hf=>by simp at hf)
   rw [HT0.out]
   exact ⟨g1,0,dn9,tl9,L9,ad9,bf9,rfl,b1,.inl ⟨by omega,⟨_,_,_,g2,by omega⟩,rfl,b2⟩⟩)
  have c1:W1.cell? ⟨w.heap.size+1+1,0,none⟩=some (.int .i64 0):=g3
  clear g1 g2 g3 g4 g5 g6 hfn
  gi_wp2
  exact ⟨.int .i64 0,by simp [results,Tryz.results12,go_sem],HFin.out⟩
end Go.Proofs.YtlgodacccilabaaGreatDoor
namespace Go.Proofs.YtlgodacccilabaaGreatDoor
open Go Go.RowKit Go.Shelf
set_option linter.unusedVariables false
def rw16 (s P:ByteArray) (sv:Nat→Value):Array Value:=#[.string s,.string P,.slice (slA (sv 0)) (slN (sv 0)) (slC (sv 0)),.slice (slA (sv 1)) (slN (sv 1)) (slC (sv 1)),.slice (slA (sv 2)) (slN (sv 2)) (slC (sv 2)),.slice (slA (sv 3)) (slN (sv 3)) (slC (sv 3)),.slice (slA (sv 4)) (slN (sv 4)) (slC (sv 4)),.slice (slA (sv 5)) (slN (sv 5)) (slC (sv 5)),.slice (slA (sv 6)) (slN (sv 6)) (slC (sv 6)),.slice (slA (sv 7)) (slN (sv 7)) (slC (sv 7)),.slice (slA (sv 8)) (slN (sv 8)) (slC (sv 8)),.slice (slA (sv 9)) (slN (sv 9)) (slC (sv 9)),.int .i64 0,.pointer none,nilS,.bool false]
theorem rw16_at (s P:ByteArray) (sv:Nat→Value) (hse:∀ i,i<10→sv i=.slice (slA (sv i)) (slN (sv i)) (slC (sv i))) {j:Nat} (hj:j<16):(rw16 s P sv)[j]?=some (rwF s P sv 0 (.pointer none) nilS false j):=by
 have h:j=0∨j=1∨j=2∨j=3∨j=4∨j=5∨j=6∨j=7∨j=8∨j=9∨j=10∨j=11∨j=12∨j=13∨j=14∨j=15:=by omega
 rcases h with rfl|rfl|rfl|rfl|rfl|rfl|rfl|rfl|rfl|rfl|rfl|rfl|rfl|rfl|rfl|rfl<;>simp only [rwF]<;>first |rfl|(simp only [Nat.reduceEqDiff,Nat.reduceLT,Nat.reduceSub,if_true,if_false];rw [hse _ (by omega)];rfl)
set_option maxRecDepth 100000 in
set_option maxHeartbeats 3200000 in
theorem gsub_any (s p t:ByteArray) (mo:Int) (w:World) (hs20:s.size≤1048576) (hp20:p.size≤1048576) (ht20:t.size≤1048576) (hl:LtT w) (htb:Tab w) (h0:3<w.heap.size):
 Calls Tryz.prog 5 #[.string s,.string p,.string t,.int .i64 mo] w fun e w'=>GsR (gsubM s p t mo.toNat) w e w':=by
 go_enter Tryz.func5,Tryz.ntmps5
 go_wp2_with fail
 refine (newSearch_any s p w hs20 hp20 hl (by omega)).mono ?_
 clear hl
 rintro e w1 ⟨hb1,⟨h1,rfl⟩|⟨h1,h2,rfl⟩|⟨q,S,fn,bd,cs,D,h1,h2,h3,rfl,hS,hsb,hD,hW⟩⟩
 ·have HR:=hide (show gsubM s p t mo.toNat=(⟨#[]⟩,0,1) by rw [gsubM,if_pos h1])
  have HB:=hide hb1
  clear hb1
  go_wp2_with fail
  refine bodyPost_ret (v:=.tuple #[.string ⟨#[]⟩,.int .i64 0,.int .i64 1]) ?_ rfl ⟨HB.out,by rw [HR.out];rfl⟩
  simp [results,Tryz.results5,go_sem]
 ·have HR:=hide (show gsubM s p t mo.toNat=(⟨#[]⟩,0,2) by rw [gsubM,if_neg (by omega),h2])
  have HB:=hide hb1
  clear hb1 h2
  go_wp2_with fail
  refine bodyPost_ret (v:=.tuple #[.string ⟨#[]⟩,.int .i64 0,.int .i64 2]) ?_ rfl ⟨HB.out,by rw [HR.out];rfl⟩
  simp [results,Tryz.results5,go_sem]
 ·have HK:=hide (rdPat_k h2)
  have hcap:q.caps≤16:=HK.out.caps
  have hs65:s.size≤65536:=by omega
  have HF:=hide (show gsubM s p t mo.toNat=match rdRp t q.caps (t.size+1) 0 with
   |none=>(⟨#[]⟩,0,5)
   |some ps=>if 50000<(allM s q mo.toNat (s.size+2) 0 0 0).2 then (⟨#[]⟩,0,4) else gsE s ps (allM s q mo.toNat (s.size+2) 0 0 0).1 by
   rw [gsubM,if_neg (by omega),h2]
   rfl)
  have hs1:w.heap.size≤w1.heap.size:=hb1.size
  have k2:w1.cell? ⟨S,2,none⟩=some (.int .i64 (q.caps:Int)):=RowF.cell hsb (j:=2) (by omega)
  have hSl:S<w1.heap.size:=RowF.lt hsb
  have HB:=hide hb1
  have HSB:=hide hsb
  have HD:=hide hD
  have HW:=hide hW
  have HRr:=hide (readRepl_any t q.caps w1 ht20 hcap)
  clear hb1 h2 hsb hD hW
  go_wp2_with fail
  refine HRr.out.mono ?_
  rintro e w2 ⟨hb2,⟨hrd,rfl⟩|⟨ps,P,sv,hrd,hP,hok,hpl,rfl,hsv⟩⟩
  ·have HR:=hide (show gsubM s p t mo.toNat=(⟨#[]⟩,0,5) by rw [HF.out,hrd])
   have HB2:=hide ((HB.out.trans (hb2.mono hs1)).alloc (by have:=hb2.size;omega) (.cells #[.string ⟨#[]⟩,nilS,nilS,nilS,nilS,nilS,nilS,nilS,nilS,nilS,nilS] 50))
   clear hb2 hrd HRr
   go_wp2_with fail
   refine bodyPost_ret (v:=.tuple #[.string ⟨#[]⟩,.int .i64 0,.int .i64 5]) ?_ rfl ⟨HB2.out,by rw [HR.out];rfl⟩
   simp [results,Tryz.results5,go_sem]
  ·have HF2:=hide (show gsubM s p t mo.toNat=if 50000<(allM s q mo.toNat (s.size+2) 0 0 0).2 then (⟨#[]⟩,0,4) else gsE s ps (allM s q mo.toNat (s.size+2) 0 0 0).1 by rw [HF.out,hrd])
   have hse:∀ i,i<10→sv i=.slice (slA (sv i)) (slN (sv i)) (slC (sv i)):=fun i hi=>by
    obtain ⟨a,cap,e⟩:=owns_val (hsv i hi)
    exact sl_eq ⟨_,_,_,e⟩
   have kk:Keeps w1 ((w2.alloc (.cells #[.string P,.slice (slA (sv 0)) (slN (sv 0)) (slC (sv 0)),.slice (slA (sv 1)) (slN (sv 1)) (slC (sv 1)),.slice (slA (sv 2)) (slN (sv 2)) (slC (sv 2)),.slice (slA (sv 3)) (slN (sv 3)) (slC (sv 3)),.slice (slA (sv 4)) (slN (sv 4)) (slC (sv 4)),.slice (slA (sv 5)) (slN (sv 5)) (slC (sv 5)),.slice (slA (sv 6)) (slN (sv 6)) (slC (sv 6)),.slice (slA (sv 7)) (slN (sv 7)) (slC (sv 7)),.slice (slA (sv 8)) (slN (sv 8)) (slC (sv 8)),.slice (slA (sv 9)) (slN (sv 9)) (slC (sv 9))] 50)).alloc (.cells #[.string s,.string P,.slice (slA (sv 0)) (slN (sv 0)) (slC (sv 0)),.slice (slA (sv 1)) (slN (sv 1)) (slC (sv 1)),.slice (slA (sv 2)) (slN (sv 2)) (slC (sv 2)),.slice (slA (sv 3)) (slN (sv 3)) (slC (sv 3)),.slice (slA (sv 4)) (slN (sv 4)) (slC (sv 4)),.slice (slA (sv 5)) (slN (sv 5)) (slC (sv 5)),.slice (slA (sv 6)) (slN (sv 6)) (slC (sv 6)),.slice (slA (sv 7)) (slN (sv 7)) (slC (sv 7)),.slice (slA (sv 8)) (slN (sv 8)) (slC (sv 8)),.slice (slA (sv 9)) (slN (sv 9)) (slC (sv 9)),.int .i64 0,.pointer none,nilS,.bool false] 64)) (fun _=>False):=Keeps.of ((hb2.alloc hb2.size _).alloc (by have:=hb2.size;simp;omega) _) (Nat.le_refl _) _
   have hz4:((w2.alloc (.cells #[.string P,.slice (slA (sv 0)) (slN (sv 0)) (slC (sv 0)),.slice (slA (sv 1)) (slN (sv 1)) (slC (sv 1)),.slice (slA (sv 2)) (slN (sv 2)) (slC (sv 2)),.slice (slA (sv 3)) (slN (sv 3)) (slC (sv 3)),.slice (slA (sv 4)) (slN (sv 4)) (slC (sv 4)),.slice (slA (sv 5)) (slN (sv 5)) (slC (sv 5)),.slice (slA (sv 6)) (slN (sv 6)) (slC (sv 6)),.slice (slA (sv 7)) (slN (sv 7)) (slC (sv 7)),.slice (slA (sv 8)) (slN (sv 8)) (slC (sv 8)),.slice (slA (sv 9)) (slN (sv 9)) (slC (sv 9))] 50)).alloc (.cells #[.string s,.string P,.slice (slA (sv 0)) (slN (sv 0)) (slC (sv 0)),.slice (slA (sv 1)) (slN (sv 1)) (slC (sv 1)),.slice (slA (sv 2)) (slN (sv 2)) (slC (sv 2)),.slice (slA (sv 3)) (slN (sv 3)) (slC (sv 3)),.slice (slA (sv 4)) (slN (sv 4)) (slC (sv 4)),.slice (slA (sv 5)) (slN (sv 5)) (slC (sv 5)),.slice (slA (sv 6)) (slN (sv 6)) (slC (sv 6)),.slice (slA (sv 7)) (slN (sv 7)) (slC (sv 7)),.slice (slA (sv 8)) (slN (sv 8)) (slC (sv 8)),.slice (slA (sv 9)) (slN (sv 9)) (slC (sv 9)),.int .i64 0,.pointer none,nilS,.bool false] 64)).heap.size=w2.heap.size+2:=by simp
   have hs2:=hb2.size
   have HI:=hide (show RwI ((w2.alloc (.cells #[.string P,.slice (slA (sv 0)) (slN (sv 0)) (slC (sv 0)),.slice (slA (sv 1)) (slN (sv 1)) (slC (sv 1)),.slice (slA (sv 2)) (slN (sv 2)) (slC (sv 2)),.slice (slA (sv 3)) (slN (sv 3)) (slC (sv 3)),.slice (slA (sv 4)) (slN (sv 4)) (slC (sv 4)),.slice (slA (sv 5)) (slN (sv 5)) (slC (sv 5)),.slice (slA (sv 6)) (slN (sv 6)) (slC (sv 6)),.slice (slA (sv 7)) (slN (sv 7)) (slC (sv 7)),.slice (slA (sv 8)) (slN (sv 8)) (slC (sv 8)),.slice (slA (sv 9)) (slN (sv 9)) (slC (sv 9))] 50)).alloc (.cells #[.string s,.string P,.slice (slA (sv 0)) (slN (sv 0)) (slC (sv 0)),.slice (slA (sv 1)) (slN (sv 1)) (slC (sv 1)),.slice (slA (sv 2)) (slN (sv 2)) (slC (sv 2)),.slice (slA (sv 3)) (slN (sv 3)) (slC (sv 3)),.slice (slA (sv 4)) (slN (sv 4)) (slC (sv 4)),.slice (slA (sv 5)) (slN (sv 5)) (slC (sv 5)),.slice (slA (sv 6)) (slN (sv 6)) (slC (sv 6)),.slice (slA (sv 7)) (slN (sv 7)) (slC (sv 7)),.slice (slA (sv 8)) (slN (sv 8)) (slC (sv 8)),.slice (slA (sv 9)) (slN (sv 9)) (slC (sv 9)),.int .i64 0,.pointer none,nilS,.bool false] 64)) (w2.heap.size+1) (w2.heap.size+1) s P sv 0 false [] (.pointer none) nilS from by
    refine ⟨⟨rw16 s P sv,?_,rfl,fun j hj=>rw16_at s P sv hse hj⟩,.inl rfl,⟨rfl,.inl ⟨rfl,rfl⟩⟩⟩
    have h9:=heap_alloc_new (w2.alloc (.cells #[.string P,.slice (slA (sv 0)) (slN (sv 0)) (slC (sv 0)),.slice (slA (sv 1)) (slN (sv 1)) (slC (sv 1)),.slice (slA (sv 2)) (slN (sv 2)) (slC (sv 2)),.slice (slA (sv 3)) (slN (sv 3)) (slC (sv 3)),.slice (slA (sv 4)) (slN (sv 4)) (slC (sv 4)),.slice (slA (sv 5)) (slN (sv 5)) (slC (sv 5)),.slice (slA (sv 6)) (slN (sv 6)) (slC (sv 6)),.slice (slA (sv 7)) (slN (sv 7)) (slC (sv 7)),.slice (slA (sv 8)) (slN (sv 8)) (slC (sv 8)),.slice (slA (sv 9)) (slN (sv 9)) (slC (sv 9))] 50)) (.cells #[.string s,.string P,.slice (slA (sv 0)) (slN (sv 0)) (slC (sv 0)),.slice (slA (sv 1)) (slN (sv 1)) (slC (sv 1)),.slice (slA (sv 2)) (slN (sv 2)) (slC (sv 2)),.slice (slA (sv 3)) (slN (sv 3)) (slC (sv 3)),.slice (slA (sv 4)) (slN (sv 4)) (slC (sv 4)),.slice (slA (sv 5)) (slN (sv 5)) (slC (sv 5)),.slice (slA (sv 6)) (slN (sv 6)) (slC (sv 6)),.slice (slA (sv 7)) (slN (sv 7)) (slC (sv 7)),.slice (slA (sv 8)) (slN (sv 8)) (slC (sv 8)),.slice (slA (sv 9)) (slN (sv 9)) (slC (sv 9)),.int .i64 0,.pointer none,nilS,.bool false] 64)
    rw [show (w2.alloc (.cells #[.string P,.slice (slA (sv 0)) (slN (sv 0)) (slC (sv 0)),.slice (slA (sv 1)) (slN (sv 1)) (slC (sv 1)),.slice (slA (sv 2)) (slN (sv 2)) (slC (sv 2)),.slice (slA (sv 3)) (slN (sv 3)) (slC (sv 3)),.slice (slA (sv 4)) (slN (sv 4)) (slC (sv 4)),.slice (slA (sv 5)) (slN (sv 5)) (slC (sv 5)),.slice (slA (sv 6)) (slN (sv 6)) (slC (sv 6)),.slice (slA (sv 7)) (slN (sv 7)) (slC (sv 7)),.slice (slA (sv 8)) (slN (sv 8)) (slC (sv 8)),.slice (slA (sv 9)) (slN (sv 9)) (slC (sv 9))] 50)).heap.size=w2.heap.size+1 by simp] at h9
    exact h9)
   have HRa:=hide (repAll_any ((w2.alloc (.cells #[.string P,.slice (slA (sv 0)) (slN (sv 0)) (slC (sv 0)),.slice (slA (sv 1)) (slN (sv 1)) (slC (sv 1)),.slice (slA (sv 2)) (slN (sv 2)) (slC (sv 2)),.slice (slA (sv 3)) (slN (sv 3)) (slC (sv 3)),.slice (slA (sv 4)) (slN (sv 4)) (slC (sv 4)),.slice (slA (sv 5)) (slN (sv 5)) (slC (sv 5)),.slice (slA (sv 6)) (slN (sv 6)) (slC (sv 6)),.slice (slA (sv 7)) (slN (sv 7)) (slC (sv 7)),.slice (slA (sv 8)) (slN (sv 8)) (slC (sv 8)),.slice (slA (sv 9)) (slN (sv 9)) (slC (sv 9))] 50)).alloc (.cells #[.string s,.string P,.slice (slA (sv 0)) (slN (sv 0)) (slC (sv 0)),.slice (slA (sv 1)) (slN (sv 1)) (slC (sv 1)),.slice (slA (sv 2)) (slN (sv 2)) (slC (sv 2)),.slice (slA (sv 3)) (slN (sv 3)) (slC (sv 3)),.slice (slA (sv 4)) (slN (sv 4)) (slC (sv 4)),.slice (slA (sv 5)) (slN (sv 5)) (slC (sv 5)),.slice (slA (sv 6)) (slN (sv 6)) (slC (sv 6)),.slice (slA (sv 7)) (slN (sv 7)) (slC (sv 7)),.slice (slA (sv 8)) (slN (sv 8)) (slC (sv 8)),.slice (slA (sv 9)) (slN (sv 9)) (slC (sv 9)),.int .i64 0,.pointer none,nilS,.bool false] 64)) w S (w2.heap.size+1) (w2.heap.size+1) w1.heap.size q fn bd cs D s P sv ps mo hs65 HK.out h3 HW.out (HSB.out.keep kk (fun x=>x)) (HW.out.new _ _ HD.out kk) HI.out (HB.out.trans (kk.below hs1 (fun _ x=>x.elim))) hS (by omega) (Nat.le_refl _) (by omega) hP hok hpl
    (fun i hi=>((hsv i hi).ah).low (b_2 w2 _ _)) htb (by omega))
   clear hb2 hrd HRr hP hok hsv hse kk HSB HD HW HI HB hz4 k2
   generalize allM s q mo.toNat (s.size+2) 0 0 0=T at *
   go_wp2_with fail
   generalize (w2.alloc (.cells #[.string P,.slice (slA (sv 0)) (slN (sv 0)) (slC (sv 0)),.slice (slA (sv 1)) (slN (sv 1)) (slC (sv 1)),.slice (slA (sv 2)) (slN (sv 2)) (slC (sv 2)),.slice (slA (sv 3)) (slN (sv 3)) (slC (sv 3)),.slice (slA (sv 4)) (slN (sv 4)) (slC (sv 4)),.slice (slA (sv 5)) (slN (sv 5)) (slC (sv 5)),.slice (slA (sv 6)) (slN (sv 6)) (slC (sv 6)),.slice (slA (sv 7)) (slN (sv 7)) (slC (sv 7)),.slice (slA (sv 8)) (slN (sv 8)) (slC (sv 8)),.slice (slA (sv 9)) (slN (sv 9)) (slC (sv 9))] 50)).alloc (.cells #[.string s,.string P,.slice (slA (sv 0)) (slN (sv 0)) (slC (sv 0)),.slice (slA (sv 1)) (slN (sv 1)) (slC (sv 1)),.slice (slA (sv 2)) (slN (sv 2)) (slC (sv 2)),.slice (slA (sv 3)) (slN (sv 3)) (slC (sv 3)),.slice (slA (sv 4)) (slN (sv 4)) (slC (sv 4)),.slice (slA (sv 5)) (slN (sv 5)) (slC (sv 5)),.slice (slA (sv 6)) (slN (sv 6)) (slC (sv 6)),.slice (slA (sv 7)) (slN (sv 7)) (slC (sv 7)),.slice (slA (sv 8)) (slN (sv 8)) (slC (sv 8)),.slice (slA (sv 9)) (slN (sv 9)) (slC (sv 9)),.int .i64 0,.pointer none,nilS,.bool false] 64)=w4 at *
   refine HRa.out.mono ?_
   clear HRa
   rintro e w5 ⟨hb5,cnt,dn,tl,L,ad,bf,rfl,hi5,hor⟩
   have c15:w5.cell? ⟨w2.heap.size+1,15,none⟩=some (.bool tl):=hi5.r.f.cell (j:=15) (by omega)
   have hRl5:w2.heap.size+1<w5.heap.size:=hi5.r.f.lt
   have HB5:=hide hb5
   have HI5:=hide hi5
   have HSt:=hide (string_any w5 (w2.heap.size+1) (w2.heap.size+1) s P sv dn tl L ad bf hi5 (by omega))
   clear hb5 hi5
   rcases hor with ⟨o1,⟨n,nt,to_,o2,o2'⟩,o3,o4⟩|⟨o1,n,nt,to_,o2,o3,o4⟩
   ·have hdc:decide (50000<n)=false:=decide_eq_false (by omega)
    have HR:=hide (HF2.out.trans (if_neg (by omega)))
    have HC:=hide (ispent_any w5 o2)
    clear o2
    go_wp2_with fail
    refine HC.out.mono ?_
    rintro e w6 ⟨rfl,hw⟩
    obtain rfl:=hw.symm
    rcases o4 with ⟨p1,rfl⟩|⟨p1,rfl,rfl⟩
    ·have HR6:=hide (show gsubM s p t mo.toNat=(⟨#[]⟩,0,6) by rw [HR.out,gsE,if_pos p1])
     go_wp2_with fail
     refine bodyPost_ret (v:=.tuple #[.string ⟨#[]⟩,.int .i64 0,.int .i64 6]) ?_ rfl ⟨HB5.out,by rw [HR6.out];rfl⟩
     simp [results,Tryz.results5,go_sem]
    ·have HR6:=hide (show gsubM s p t mo.toNat=(⟨(whW s ps T.1).toArray⟩,T.1.length,0) by rw [HR.out,gsE,if_neg (by omega)])
     go_wp2_with fail
     refine HSt.out.mono ?_
     rintro e w7 ⟨rfl,hb7⟩
     have HB7:=hide (show Below w.heap.size w w7 from HB5.out.trans (hb7.mono (by omega)))
     clear hb7 HSt
     subst o3
     go_wp2_with fail
     refine bodyPost_ret (v:=.tuple #[.string ⟨(whW s ps T.1).toArray⟩,.int .i64 T.1.length,.int .i64 0]) ?_ rfl ⟨HB7.out,by rw [HR6.out]⟩
     simp [results,Tryz.results5,go_sem]
   ·have hdc:decide (50000<n)=true:=decide_eq_true o3
    have HR:=hide (HF2.out.trans (if_pos o1))
    have HC:=hide (ispent_any w5 o2)
    clear o2
    go_wp2_with fail
    refine HC.out.mono ?_
    rintro e w6 ⟨rfl,hw⟩
    obtain rfl:=hw.symm
    go_wp2_with fail
    refine bodyPost_ret (v:=.tuple #[.string ⟨#[]⟩,.int .i64 0,.int .i64 4]) ?_ rfl ⟨HB5.out,by rw [HR.out];rfl⟩
    simp [results,Tryz.results5,go_sem]
end Go.Proofs.YtlgodacccilabaaGreatDoor
namespace Go.Proofs.YtlgodacccilabaaGreatDoor
open Go Go.RowKit Go.Shelf
set_option linter.unusedVariables false
set_option maxHeartbeats 3200000 in
set_option maxRecDepth 100000 in
theorem gsubLaw_any (s p t:ByteArray) (mo:Int) (w:World) (hl:LtT w) (htb:Tab w) (h0:3<w.heap.size):
 Calls Tryz.prog 3 #[.string s,.string p,.string t,.int .i64 mo] w fun e w'=>e=.returned (.bool true)∧Below w.heap.size w w':=by
 have HL:=hide hl
 have HTb:=hide htb
 clear hl htb
 by_cases h1:(1048576:Int)<(s.size:Int)
 ·go_enter Tryz.func3,Tryz.ntmps3
  go_wp2_with fail
  go_ret
  exact ⟨rfl,Below.refl _ _⟩
 by_cases h2:(1048576:Int)<(p.size:Int)
 ·go_enter Tryz.func3,Tryz.ntmps3
  go_wp2_with fail
  go_ret
  exact ⟨rfl,Below.refl _ _⟩
 by_cases h3:(1048576:Int)<(t.size:Int)
 ·go_enter Tryz.func3,Tryz.ntmps3
  go_wp2_with fail
  go_ret
  exact ⟨rfl,Below.refl _ _⟩
 obtain ⟨r,hr⟩:∃ r,gsubM s p t mo.toNat=r:=⟨_,rfl⟩
 have HS:=hide (sgsub_any s p t mo w (by omega) (by omega) (by omega))
 have HI:=hide (fun (w1:World) (hb:Below w.heap.size w w1)=>gsub_any s p t mo w1 (by omega) (by omega) (by omega) (HL.out.low hb (by omega)) (tab_same HTb.out (hb.block _ (by omega))) (by have:=hb.size;omega))
 rw [hr] at HS
 simp only [hr] at HI
 clear hr
 obtain ⟨a,n,c⟩:=r
 go_enter Tryz.func3,Tryz.ntmps3
 go_wp2_with fail
 refine HS.out.mono ?_
 rintro e w1 ⟨hb1,rfl⟩
 have HC:=hide (HI.out w1 hb1)
 have HB1:=hide hb1
 have hz1:=hb1.size
 clear HS HI hb1
 go_wp2_with fail
 refine HC.out.mono ?_
 rintro e w2 ⟨hb2,rfl⟩
 have HB2:=hide (HB1.out.trans (hb2.mono hz1))
 clear HC HB1 hb2
 go_wp2_with fail
 go_ret
 exact ⟨rfl,HB2.out⟩
end Go.Proofs.YtlgodacccilabaaGreatDoor
namespace Go.Proofs.YtlgodacccilabaaGreatDoor
open Go Go.RowKit Go.Shelf Go.ChangeShapes Go.WideShapes Go.ChangeAt Go.ChangeShapes
set_option linter.unusedVariables false
theorem lt_at:Tryz.prog.globalNamed "loop.example/g00002/impl.letterRanges" =some 1:=by kernel_rfl
theorem lt_ty:(Tryz.prog.globals[1]?).map (·.type)=some 165:=by kernel_rfl
theorem lt_datum {H:Type}:(Rows.laid_loop_example_g00002_impl_letterRanges:DataW H)=.agg (ltTab.map fun r=>.agg [.lit (.int .u8 r.1),.lit (.string r.2)]):=rfl
theorem lt_rows:Tryz.prog.underlying 165=some (.array 9 164):=by kernel_rfl
theorem lt_cells:Tryz.prog.cellsOf 164=2:=by kernel_rfl
theorem lt_cellsA:Tryz.prog.cellsOf 165=18:=by kernel_rfl
theorem lt_cells5:Tryz.prog.cellsOf 5=1:=by kernel_rfl
theorem lt_cells9:Tryz.prog.cellsOf 9=1:=by kernel_rfl
theorem lt_struct:∃ f0 f1:Field,Tryz.prog.underlying 164=some (.struct #[f0,f1])∧f0.type=5∧f0.offset=0∧f1.type=9∧f1.offset=1:=by
 refine ⟨_,_,Tryz.underlying164,rfl,rfl,rfl,rfl⟩
theorem ltL_at {i:Nat} (h:i<9):ltL[i*2]?=some (.int .u8 (ltC i))∧ltL[i*2+1]?=some (.string (ltS i)):=by
 rcases lt_cases h with rfl|rfl|rfl|rfl|rfl|rfl|rfl|rfl|rfl<;>exact ⟨rfl,rfl⟩
theorem ltTab_at {i:Nat} (h:i<9):ltTab[i]?=some (ltC i,(ltS i).data.toList):=by
 rcases lt_cases h with rfl|rfl|rfl|rfl|rfl|rfl|rfl|rfl|rfl<;>rfl
theorem ltT_of {W:World} (h:laidMet Tryz.prog Rows.fnExactGsubRow.laid W):LtT W:=by
 obtain ⟨g,t,cs,fuel,p,h1,h2,h3,h4⟩:=Lib.laidMet.reads h (n:= "loop.example/g00002/impl.letterRanges") (d:=Rows.laid_loop_example_g00002_impl_letterRanges) (by simp [Rows.fnExactGsubRow])
 obtain rfl:g=1:=Option.some.inj (h1.symm.trans lt_at)
 obtain rfl:t=165:=Option.some.inj (h2.symm.trans lt_ty)
 obtain ⟨xs,m,_,hx,hl,hlen,hi⟩:=DataW.trod_array lt_rows h4
 rw [lt_cells] at hi
 rw [lt_cellsA] at hl
 have hm:xs.map (·.1)=ltTab.map fun r=>(DataW.agg [.lit (.int .u8 r.1),.lit (.string r.2)]:DataW Unit):=by
  have:=congrArg Prod.fst hx
  rw [lt_datum] at this
  simpa using this.symm
 obtain ⟨f0,f1,hu,e0,o0,e1,o1⟩:=lt_struct
 have hrow:∀ i,i<9→(cs.toList.drop (i*2)).take 2=[.int .u8 (ltC i),.string (ltS i)]:=fun i h9=>by
  have hxi:i<xs.length:=by omega
  have h5:=hi i h9
  rw [List.getElem?_eq_getElem hxi] at h5
  obtain ⟨y0,y1,n,hy,hyl,ha,hb⟩:=trod_struct2 hu h5
  rw [e0,o0,lt_cells5] at ha
  rw [e1,o1,lt_cells9] at hb
  rw [lt_cells] at hyl
  obtain ⟨k,ck,hk,_⟩:=DataW.trod_int Tryz.underlying5 ha
  obtain ⟨s,csx,hsx,_⟩:=DataW.trod_string Tryz.underlying9 hb
  have h6:(xs.map (·.1))[i]?=some (.agg [.lit (.int .u8 k),.lit (.string s.data.toList)]):=by
   rw [List.getElem?_map,List.getElem?_eq_getElem hxi,hy,hk,hsx]
   rfl
  rw [hm,List.getElem?_map,ltTab_at h9] at h6
  simp at h6
  obtain ⟨rfl,h7⟩:=h6
  have hse:ltS i=s:=ByteArray.ext h7
  generalize (cs.toList.drop (i*2)).take 2=row at ck csx hyl
  match row,hyl with
  | [r0,r1],_=>
    simp at ck csx
    rw [ck,csx,hse]
 intro j v hj
 have hjl:j<18:=by
  have:=(List.getElem?_eq_some_iff.1 hj).1
  exact this
 have hc:W.cell? ⟨1,j,none⟩=cs[j]?:=by
  exact World.var?_cell lt_at h3 j
 rw [Nat.zero_add,hc]
 have hi9:j/2<9:=by omega
 have h8:=hrow (j/2) hi9
 have h10:=ltL_at hi9
 rcases (show j=j/2*2∨j=j/2*2+1 by omega) with ej|ej
 ·have q0:=congrArg (fun l:List Value=>l[0]?) h8
  simp only [List.getElem?_take_of_lt (show 0<2 by omega),List.getElem?_drop,Nat.add_zero,List.getElem?_cons_zero] at q0
  rw [←ej,Array.getElem?_toList] at q0
  rw [q0,←hj]
  rw [ej,h10.1,←ej]
 ·have q0:=congrArg (fun l:List Value=>l[1]?) h8
  simp only [List.getElem?_take_of_lt (show 1<2 by omega),List.getElem?_drop,List.getElem?_cons_succ,List.getElem?_cons_zero] at q0
  rw [←ej,Array.getElem?_toList] at q0
  rw [q0,←hj]
  rw [ej,h10.2,←ej]
theorem tb_ty:(Tryz.prog.globals[0]?).map (·.type)=some 159:=by kernel_rfl
theorem tb_row:Tryz.prog.underlying 159=some (.array 20 92):=by kernel_rfl
theorem tb_datum:(Rows.laid_internal_strconv_uint64pow10:DataW Unit)=Lib.tabData .u64 Lib.pow10Tab:=by rfl
theorem tab_of {W:World} (h:laidMet Tryz.prog Rows.fnExactGsubRow.laid W):Tab W:=by
 obtain ⟨g,t,cs,fuel,p,h1,h2,h3,h4⟩:=Lib.laidMet.reads h (n:= "internal/strconv.uint64pow10") (d:=Rows.laid_internal_strconv_uint64pow10) (by simp [Rows.fnExactGsubRow])
 obtain rfl:g=0:=Option.some.inj (h1.symm.trans tab_at)
 obtain rfl:t=159:=Option.some.inj (h2.symm.trans tb_ty)
 rw [tb_datum] at h4
 show W.var? Tryz.prog "internal/strconv.uint64pow10" =_
 rw [h3,←Lib.cells_of_tab tb_row Tryz.underlying92 (by kernel_rfl) (by kernel_rfl) h4]
theorem size_of {W:World} (h:laidMet Tryz.prog Rows.fnExactGsubRow.laid W):3<W.heap.size:=by
 obtain ⟨g,t,cs,fuel,p,h1,h2,h3,h4⟩:=Lib.laidMet.reads h (n:= "math/bits.deBruijn64tab") (d:=Rows.laid_math_bits_deBruijn64tab) (by simp [Rows.fnExactGsubRow])
 obtain rfl:g=3:=Option.some.inj (h1.symm.trans (show Tryz.prog.globalNamed "math/bits.deBruijn64tab" =some 3 by kernel_rfl))
 unfold World.var? at h3
 rw [h1] at h3
 simp only [Option.bind_some] at h3
 rcases Nat.lt_or_ge 3 W.heap.size with c|c
 ·exact c
 ·rw [Array.getElem?_eq_none c] at h3
  cases h3
end Go.Proofs.YtlgodacccilabaaGreatDoor
namespace Go.Proofs.YtlgodacccilabaaGreatDoor
open Go.ChangeShapes Go.WideShapes Go.ChangeAt Go Go.RowKit Go.ChangeMaps Go.WideElems
set_option linter.unusedVariables false
theorem post_low {H:Type} {enc:TypeId × Value→H} {P:Program} {f:Func} {s:ChangeSpec} {apart fresh handsOn again:Bool} {W W':World} {args:Array Value} {v:Value} {ds gs:List (DataW H)} {before pa pv:List MemPlace}
 (hW:DataW.Whole enc P f.params.toList s.vars apart W args.toList ds gs before)
 (hres:∀ (b:Nat) (sp:Nat→Bool) (hd:Bool),DataW.TrodAll enc P W' b sp hd f.resultTypes.toList (v.resultList f.resultTypes.size) (s.fn H (ds++gs)).results [])
 (hargs:∀ sp:Nat→Bool,(∀ p∈before,sp p.block=true)→DataW.TrodAll enc P W' 0 sp true f.params.toList args.toList (s.fn H (ds++gs)).args pa)
 (hvars:∀ sp:Nat→Bool,(∀ p∈before,sp p.block=true)→DataW.TrodVars enc P W' sp s.vars (s.fn H (ds++gs)).vars pv)
 (hps:before=pa++pv) (hb:Below W.heap.size W W')
 (hok:∀ (j:Nat) (t:TypeId) (r:Value),f.resultTypes[j]?=some t→(v.resultList f.resultTypes.size)[j]?=some r→Value.okWide P W' .any 0 t r):
 s.post enc P f apart fresh handsOn again W args v W':=by
 have hlt:=hW.lt
 have hold:∀ p∈before,(fun b=>decide (b<W.heap.size)) p.block=true:=fun p hp=>by simpa using hlt p hp
 refine ⟨ds,gs,before,[],pa,pv,hW,hres _ _ _,hargs _ hold,hvars _ hold,World.keptBut_mono (fun p hp=>⟨hp,?_⟩) (hb.frame _),fun _=>?_⟩
 ·rw [hps,List.mem_append] at hp
  exact Or.inr hp
 ·obtain ⟨_,_,_,_,_,hz,hn⟩:=hW
  refine ⟨hok,_,_,([]++pa)++pv,⟨[]++pa,pv,trodAll_append (hargs _ (fun _ _=>rfl)) (hres _ _ _),hvars _ (fun _ _=>rfl),rfl,?_,?_⟩,?_⟩
  ·intro b off hp
   have hp':MemPlace.cell b off∈before:=by rw [hps];simpa using hp
   rw [hb.frozen (p:=⟨b,off,none⟩) (hlt _ hp')]
   exact hz b off hp'
  ·intro ha
   have:=hn ha
   rw [hps] at this
   simpa using this
  ·intro p hp _
   rw [hps]
   simpa using hp
theorem ltR:Tryz.prog.readableRec 165=true∧165<Tryz.prog.types.size:=⟨by kernel_rfl,by decide+kernel⟩
theorem ltOut:laidOutB Tryz.prog=true:=by kernel_rfl
theorem own:ownKnob Tryz.prog.godebug=none:=by kernel_rfl
set_option maxRecDepth 100000 in
theorem gsub_contract (H:Type) (enc:TypeId × Value→H) (W:World) (base:Nat) (args:Array Value) (ds gs:List (DataW H)) (before:List MemPlace)
 (hval:∀ (j:Nat) t v,Tryz.f3.params[j]?=some t→args[j]?=some v→Value.okWide Tryz.prog W .any base t v)
 (hW:DataW.Whole enc Tryz.prog Tryz.f3.params.toList Rows.fnExactGsubSpec.vars false W args.toList ds gs before) (hL:laidMetH Tryz.prog Rows.fnExactGsubRow.laid W):
 Calls Tryz.prog 3 args W fun e W'=>∃ v,e=.returned v∧Rows.fnExactGsubSpec.post enc Tryz.prog Tryz.f3 false true false false W args v W':=by
 have hW':=hW
 obtain ⟨p,q,hA0,hV0,rfl,hfz,hnd⟩:=hW
 have hA:DataW.TrodAll enc Tryz.prog W 0 (fun _=>true) true Tryz.f3.params.toList args.toList ds p:=hA0
 have hV:DataW.TrodVars enc Tryz.prog W (fun _=>true) ["loop.example/g00002/impl.letterRanges"] gs q:=hV0
 rw [Tryz.params3] at hA hval
 obtain ⟨v0,vs0,d0,ds0,p0,q0,hargs,rfl,rfl,h0,r0⟩:=trodAll_cons hA
 obtain ⟨v1,vs1,d1,ds1,p1,q1,rfl,rfl,rfl,h1,r1⟩:=trodAll_cons r0
 obtain ⟨v2,vs2,d2,ds2,p2,q2,rfl,rfl,rfl,h2,r2⟩:=trodAll_cons r1
 obtain ⟨v3,vs3,d3,ds3,p3,q3,rfl,rfl,rfl,h3,r3⟩:=trodAll_cons r2
 obtain ⟨rfl,rfl,rfl⟩:=trodAll_nil r3
 obtain rfl:args=#[v0,v1,v2,v3]:=by cases args;simp_all
 obtain ⟨s0,rfl,rfl,rfl,hs0⟩:=open_string Tryz.underlying9 (hval 0 9 v0 rfl rfl) h0
 obtain ⟨s1,rfl,rfl,rfl,hs1⟩:=open_string Tryz.underlying9 (hval 1 9 v1 rfl rfl) h1
 obtain ⟨s2,rfl,rfl,rfl,hs2⟩:=open_string Tryz.underlying9 (hval 2 9 v2 rfl rfl) h2
 obtain ⟨n,rfl,rfl,rfl,hwn⟩:=open_int Tryz.underlying3 (hval 3 3 v3 rfl rfl) h3
 have hltV:=hV.lt
 obtain ⟨g,t,cs,fuel,d,p',rfl,hg,ht,hvar,hd,rfl⟩:=trodVars_one hV
 obtain rfl:g=1:=Option.some.inj (hg.symm.trans lt_at)
 obtain rfl:t=165:=Option.some.inj (ht.symm.trans lt_ty)
 clear hA0 hV0
 have hL':laidMet Tryz.prog Rows.fnExactGsubRow.laid W:=hL
 have h00:=size_of hL'
 refine (gsubLaw_any s0 s1 s2 n W (ltT_of hL') (tab_of hL') h00).mono fun e W' ⟨he,hb⟩=>?_
 subst he
 have hvar':W'.var? Tryz.prog "loop.example/g00002/impl.letterRanges" =some cs:=by
  unfold World.var? at hvar ⊢
  rw [hg] at hvar ⊢
  simp only [Option.bind_some] at hvar ⊢
  rw [hb.block 1 (by omega)]
  exact hvar
 refine ⟨_,rfl,post_low hW' (pa:=[]) (pv:=MemPlace.row ⟨1,0,none⟩ cs.size++p') (fun _ _ _=>trodAll_cons_mk (shut_bool Tryz.underlying4 _) trodAll_mk0)
  (fun sp _=>trodAll_cons_mk (shut_string Tryz.underlying9 hs0) (trodAll_cons_mk (shut_string Tryz.underlying9 hs1) (trodAll_cons_mk (shut_string Tryz.underlying9 hs2) (trodAll_cons_mk (shut_int Tryz.underlying3 hwn) trodAll_mk0))))
  (fun sp hsp=>trodVars_mk1 hg ht hvar' (DataW.trod_stays (kids_book ltOut ltR.1) (book_sized ltR.1) (fun h=>by cases h) ⟨ltR.2,book_self 165⟩ hd (fun x hx=>hb.same (hltV x (by simp [hx]))) (fun x hx=>hsp x (by simp [hx]))))
  rfl hb (ok_one (by kernel_rfl) rfl (okWide_bool_mk Tryz.underlying4 _))⟩
noncomputable def ginp:Input:=⟨#[],#[.string ⟨#[]⟩,.string ⟨#[]⟩,.string ⟨#[]⟩,.int .i64 0],[]⟩
set_option maxRecDepth 100000 in
theorem gwit_shaped (os:Os):((World.laidAll Tryz.prog os Rows.fnExactGsubRow.laid).forCall (fun _ _=>0) ginp).Shaped Tryz.checked.prog:=World.shaped_of_ZipB (by kernel_rfl) (by kernel_rfl)
set_option maxRecDepth 100000 in
theorem gwit_ok (os:Os):Input.okWideB Tryz.checked.prog ((World.laidAll Tryz.prog os Rows.fnExactGsubRow.laid).forCall (fun _ _=>0) ginp) 3 ginp=true:=by kernel_rfl
set_option maxRecDepth 100000 in
theorem gwit_laid (os:Os):laidMetH Tryz.checked.prog Rows.fnExactGsubRow.laid ((World.laidAll Tryz.prog os Rows.fnExactGsubRow.laid).forCall (fun _ _=>0) ginp).memory:=by
 rw [MakeChecks.laidMetH_plain _ _ _ (by kernel_rfl)]
 exact laidMet_laidAll _ (by kernel_rfl) (by kernel_rfl)
set_option maxRecDepth 100000 in
theorem gwit_some (os:Os) {H:Type} (enc:TypeId × Value→H):(DataW.whole enc Tryz.checked.prog ((World.laidAll Tryz.prog os Rows.fnExactGsubRow.laid).forCall (fun _ _=>0) ginp).memory Tryz.f3.params.toList (OpenSpec.ofChange Rows.fnExactGsubSpec).vars false ginp.args.toList 8).isSome=true:=by kernel_rfl
set_option maxRecDepth 100000 in
theorem gwit_sized (os:Os) {H:Type} (enc:TypeId × Value→H):(OpenSpec.ofChange Rows.fnExactGsubSpec).bare.sizedB enc Tryz.checked.prog Tryz.f3 false ((World.laidAll Tryz.prog os Rows.fnExactGsubRow.laid).forCall (fun _ _=>0) ginp).memory ginp.args 8=true:=by kernel_rfl
set_option maxRecDepth 100000 in
theorem gwitness (os:Os) {H:Type} (enc:TypeId × Value→H):∃ (w:World) (tape:Tape) (i:Input),w.os=os∧(w.forCall tape i).Shaped Tryz.checked.prog∧i.vars=[]∧Input.okWide Tryz.checked.prog (w.forCall tape i) .any w.heap.size 3 i∧
 (OpenSpec.ofChange Rows.fnExactGsubSpec).preRow enc Tryz.checked.prog Tryz.f3 Rows.fnExactGsubRow.domain false Rows.fnExactGsubRow.laid (w.forCall tape i).memory i.args∧({}:Assume).holds Tryz.checked.prog (lone (Frame.enter Tryz.checked.prog 3 i.args .normal) [] (w.forCall tape i)):=by
 obtain ⟨x,hx⟩:=Option.isSome_iff_exists.1 (gwit_some os enc)
 exact ⟨World.laidAll Tryz.prog os Rows.fnExactGsubRow.laid,fun _ _=>0,ginp,World.laidAll_os _ _ _,gwit_shaped os,rfl,(Input.okWide_of_okWideB (gwit_ok os)).2,
  OpenSpec.preRow_of_cond 8 hx rfl (fun k hk=>by cases hk) (gwit_sized os enc) (gwit_laid os),by
   simp only [Assume.holds]
   exact ⟨by simp,by simp,fun _=>Modest.zero,by simp,by simp⟩⟩
set_option maxRecDepth 100000 in
theorem gsub_lifted (os:Os) (started:os.Started) (H:Type) (enc:TypeId × Value→H) (F:Stop.Interp):
 ReturnsInHanded {} Tryz.checked os 3 .any ((OpenSpec.ofChange Rows.fnExactGsubSpec).preRow enc Tryz.prog Tryz.f3 Rows.fnExactGsubRow.domain false Rows.fnExactGsubRow.laid) (((OpenSpec.ofChange Rows.fnExactGsubSpec).at F).post enc Tryz.prog Tryz.f3 false true false false):=by
 refine returnsInHanded_of_row (C:=Tryz.checked) (s:=OpenSpec.ofChange Rows.fnExactGsubSpec) own started (by kernel_rfl) Tryz.func3 (gwitness os enc) ?_
 intro W base args ds gs before hval hW _ _ _ hL _ _
 exact gsub_contract H enc W base args ds gs before hval hW hL
set_option maxRecDepth 100000 in
theorem gsub_said:Rows.FnExactGsubSaid:=
 OpenClaim.holds_of_cond 3 Tryz.f3 rfl rfl rfl rfl rfl rfl rfl ⟨rfl,rfl,rfl,rfl,rfl⟩ rfl rfl rfl rfl rfl (by kernel_rfl) Tryz.func3 (by kernel_rfl)
  (of_decide_eq_true (by kernel_rfl)) (by unfold Func.isWrapper;first |(rw [if_pos (by decide+kernel)];kernel_rfl)|(rw [if_neg (by decide+kernel)];exact ⟨rfl,rfl⟩))
  (fun os started H enc _ F=>by rw [OpenClaim.pre_eq_preRow];exact gsub_lifted os started H enc F)
theorem gsub_plain (f:FuncId) (fn:Func) (hf:Tryz.pinned.checked.prog.funcNamed "loop.example/g00002/laws.FnExactGsub" =some f) (hfn:Tryz.pinned.checked.prog.funcs[f]?=some fn):
 false=Tryz.pinned.checked.prog.looks []∧∀ (j:Nat) t,fn.params[j]?=some t→Tryz.pinned.checked.prog.wantsStandIn t=false:=by
 obtain rfl:f=3:=Option.some.inj ((show Tryz.prog.funcNamed "loop.example/g00002/laws.FnExactGsub" =some 3 by kernel_rfl).symm.trans hf)|>.symm
 obtain rfl:fn=Tryz.f3:=(Option.some.inj (Tryz.func3.symm.trans hfn)).symm
 refine ⟨by kernel_rfl,fun j t ht=>?_⟩
 rw [Tryz.params3] at ht
 have h3:t=9∨t=3:=by
  rcases j with _|_|_|_|j
  ·exact .inl (by simpa using ht.symm)
  ·exact .inl (by simpa using ht.symm)
  ·exact .inl (by simpa using ht.symm)
  ·exact .inr (by simpa using ht.symm)
  ·simp at ht
 rcases h3 with rfl|rfl
 ·exact (show Tryz.prog.wantsStandIn 9=false by kernel_rfl)
 ·exact (show Tryz.prog.wantsStandIn 3=false by kernel_rfl)
theorem fnExactGsub_holds:Rows.FnExactGsubCardSaid:=
 Claim7.holds_tied_plain_at .later [] _ _ _ _ gsub_said (fun _ h=>by cases h) (by kernel_rfl) (fun _ h=>by cases h) fnExactGsub_row_tie rfl ⟨rfl,rfl⟩ (by kernel_rfl) rfl gsub_plain (by kernel_rfl)
#print axioms fnExactGsub_holds
end Go.Proofs.YtlgodacccilabaaGreatDoor
