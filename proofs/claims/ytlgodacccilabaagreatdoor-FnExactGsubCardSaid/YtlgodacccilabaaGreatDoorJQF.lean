import Derived.Test.YtlgodacccilabaaGreatDoorJQC
import Derived.Test.YtlgodacccilabaaGreatDoorJQE
import Derived.Test.YtlgodacccilabaaGreatDoorPKC
import Derived.Test.YtlgodacccilabaaGreatDoorPKD
import Derived.Test.YtlgodacccilabaaGreatDoorPQA
import Derived.Test.YtlgodacccilabaaGreatDoorPQB
import Derived.Test.YtlgodacccilabaaGreatDoorPQC
import Derived.Test.YtlgodacccilabaaGreatDoorPQD
import Derived.Test.YtlgodacccilabaaGreatDoorPQE
import Derived.Test.YtlgodacccilabaaGreatDoorPQF
namespace Go.Proofs.YtlgodacccilabaaGreatDoor
open Go Go.RowKit
set_option linter.unusedVariables false
theorem item_any (R:Nat) (p:ByteArray) (rd:Rd) (us:List (It × Value)) (vi vo vd:Value) (w:World) (hp:p.size≤200) (hpos:rd.pos<p.size) (hj:RdJ rd) (hu:us.length≤rd.pos∧rd.opn.length≤rd.pos∧rd.done.length≤rd.pos) (hit:us.map Prod.fst=rd.items) (h:QR w R p rd.pos us rd.opn rd.done vi vo vd):
 Calls Tryz.prog 25 #[.pointer (some ⟨R,0,none⟩)] w fun e w'=>ItR R p rd.pos (rdItem p rd) w e w':=by
 by_cases h40:hb p rd.pos=40
 ·by_cases h1:rd.pos+1<p.size
  ·by_cases h41:hb p (rd.pos+1)=41
   ·exact item_place R p rd us vi vo vd w hp hpos hj hu hit h h40 h1 h41
   ·exact item_open1 R p rd us vi vo vd w hp hpos hj hu hit h h40 h1 h41
  ·exact item_open0 R p rd us vi vo vd w hp hpos hj hu hit h h40 h1
 by_cases h41:hb p rd.pos=41
 ·exact item_shut R p rd us vi vo vd w hp hpos hj hu hit h h41
 by_cases h37:hb p rd.pos=37
 ·by_cases h1:rd.pos+1<p.size
  ·by_cases hdg:isDg (hb p (rd.pos+1))=true
   ·exact item_dig R p rd us vi vo vd w hp hpos hj hu hit h h37 h1 hdg
   by_cases h98:hb p (rd.pos+1)=98
   ·exact item_bal R p rd us vi vo vd w hp hpos hj hu hit h h37 h1 h98
   by_cases h102:hb p (rd.pos+1)=102
   ·exact item_fro R p rd us vi vo vd w hp hpos hj hu hit h h37 h1 h102
   have hpc:¬ (hb p rd.pos=37∧rd.pos+1<p.size∧(isDg (hb p (rd.pos+1))=true∨hb p (rd.pos+1)=98∨hb p (rd.pos+1)=102)):=by
    rintro ⟨_,_,x|x|x⟩
    ·exact hdg x
    ·exact h98 x
    ·exact h102 x
   by_cases hd:hb p (rd.pos+1)<48
   ·exact item_oneC R p rd us vi vo vd w hp hpos hj hu hit h h40 h41 hpc (by omega) h1 h37 hd
   ·exact item_oneD R p rd us vi vo vd w hp hpos hj hu hit h h40 h41 hpc (by omega) h1 h37 (by
     rcases Int.lt_or_le 57 (hb p (rd.pos+1)) with c|c
     ·exact c
     ·exact absurd (by simp [isDg];omega) hdg)
  ·exact item_oneF R p rd us vi vo vd w hp hpos hj hu hit h h40 h41 (by omega) (by omega) h1 h37
 by_cases h1:rd.pos+1<p.size
 ·by_cases h36:hb p rd.pos=36
  ·exact item_oneB R p rd us vi vo vd w hp hpos hj hu hit h h40 h41 (by omega) (by omega) h1 h36
  ·exact item_oneA R p rd us vi vo vd w hp hpos hj hu hit h h40 h41 (by omega) (by omega) h1 h37 h36
 ·by_cases h36:hb p rd.pos=36
  ·exact item_end R p rd us vi vo vd w hp hpos hj hu hit h h36 h1
  ·exact item_oneE R p rd us vi vo vd w hp hpos hj hu hit h h40 h41 (by omega) (by omega) h1 h37
end Go.Proofs.YtlgodacccilabaaGreatDoor
namespace Go.Proofs.YtlgodacccilabaaGreatDoor
open Go Go.RowKit Go.Shelf
set_option linter.unusedVariables false
attribute [local go_sem] Oper.semAt_some
theorem cell_blk {A C:World} {b j:Nat} {v:Value} (h:A.cell? ⟨b,j,none⟩=some v) (e:C.heap[b]?=A.heap[b]?):C.cell? ⟨b,j,none⟩=some v:=(World.cell?_of_block (a:=⟨b,j,none⟩) e).trans h
theorem cell_blt {A:World} {b j:Nat} {v:Value} (h:A.cell? ⟨b,j,none⟩=some v):b<A.heap.size:=World.block_lt_of_cell? A ⟨b,j,none⟩ h
def Old (w:World) (S:Nat) (W:World):Prop:=∀ b,b<w.heap.size→b≠S→W.heap[b]?=w.heap[b]?
theorem ItV.same {w w':World} {S fi:Nat} {it:It} {ci:Array Value} (h:ItV w S it fi ci) (k:Old w S w'):ItV w' S it fi ci:=by
 have hr:∀ {C:Nat} {f:Nat→Bool},ClF w C f→C≠S→ClF w' C f:=fun h hC=>RowF.same h (k _ (RowF.lt h) hC)
 have hc:∀ {L j:Nat} {v:Value},w.cell? ⟨L,j,none⟩=some v→L≠S→w'.cell? ⟨L,j,none⟩=some v:=fun h hL=>cell_blk h (k _ (cell_blt h) hL)
 rcases h with ⟨C,hk,hs,h,hC,rfl,rfl⟩|⟨C,hk,hs,h,hC,rfl,rfl⟩|⟨C,hk,hs,h,hC,rfl,rfl⟩|⟨C,L,least,hk,hs,h,hC,hl,hL,hle,rfl,rfl⟩|⟨B,hk,h,hB,rfl,rfl⟩|⟨B,hk,h,hB,rfl,rfl⟩|⟨B,hk,h,hB,rfl,rfl⟩|⟨B,hk,h,hB,rfl,rfl⟩|⟨A,B,hk,h,h',hA,hB,rfl,rfl⟩|⟨C,hk,h,hC,rfl,rfl⟩|⟨hk,rfl,rfl⟩
 ·exact .single C hk hs (hr h hC) hC
 ·exact .opt C hk hs (hr h hC) hC
 ·exact .short C hk hs (hr h hC) hC
 ·exact .long C L least hk hs (hr h hC) hC (hc hl hL) hL hle
 ·exact .place B hk (hc h hB) hB
 ·exact .opn B hk (hc h hB) hB
 ·exact .shut B hk (hc h hB) hB
 ·exact .back B hk (hc h hB) hB
 ·exact .pair A B hk (hc h hA) (hc h' hB) hA hB
 ·exact .edge C hk (hr h hC) hC
 ·exact .fin hk
theorem itv_old (X:Sx) (pl:Nat→Bool) (pre:List It) (it:It) (fi:Nat) (ci:Array Value) (w:World) (hs:X.s.size≤65536) (hp:PreOk pl pre it) (h:ItV w X.S it fi ci):ItOk X pl pre it fi ci (fun W=>w.heap.size≤W.heap.size∧Old w X.S W):=by
 have h1:=itv_ok X pl pre it fi ci w hs hp h
 exact ⟨h1.en,fun A C hA k=>⟨Nat.le_trans hA.1 k.size,fun b hb hS=>(k.block b (by omega) hS).trans (hA.2 b hb hS)⟩,fun nx fn bd cs D at_ σ nt to_ W a1 a2 a3 a4 a5 a6 a7 a8 a9=>h1.go nx fn bd cs D at_ σ nt to_ W a1 a2 a3 (h.same a4.2) a5 a6 a7 a8 a9⟩
def Only (S NX Bd:Nat) (D:World→Prop):Prop:=∀ A C,D A→A.heap.size≤C.heap.size→(∀ b,b<Bd→b<A.heap.size→b≠S→b≠NX→C.heap[b]?=A.heap[b]?)→D C
theorem Only.mono {S NX Bd Bd':Nat} {D:World→Prop} (h:Only S NX Bd D) (hb:Bd≤Bd'):Only S NX Bd' D:=fun A C hA hz hC=>h A C hA hz (fun b h1 h0 h2 h3=>hC b (by omega) h0 h2 h3)
def WyA (S:Nat) (s:ByteArray) (its pre:List It) (nx:Nx) (fn:Nat) (bd cs:Array Value) (D:World→Prop):Prop:=∀ X:Sx,X.S=S→X.s=s→X.its=its→WyOk X pre nx fn bd cs D
def ThI (S:Nat) (s:ByteArray) (t:Pt) (fs:Nat→Nat × Array Value) (w:World) (B0:Nat) (pre:List (Nat × Nat × Array Value)) (W:World):Prop:=
 ∃ fn bd cs D,Boxed W (w.heap.size+1) 53 (.func (.func fn) bd cs)∧OwnFrom B0 (fun (_:Unit) W=>D W)∧D W∧Only S (w.heap.size+1) W.heap.size D∧
   (pre=upTo (bkF t.items.length fs) pre.length→pre.length≤t.items.length→WyA S s t.items (t.items.take (t.items.length-pre.length)) (tryM s t.place (t.items.drop (t.items.length-pre.length))) fn bd cs D)
theorem thI_own (S:Nat) (s:ByteArray) (t:Pt) (fs:Nat→Nat × Array Value) (w:World) (B0:Nat):OwnFrom B0 (ThI S s t fs w B0):=by
 rintro pre A C row ⟨fn,bd,cs,D,h1,h2,h3,h4,h5⟩ hg hr
 exact ⟨fn,bd,cs,D,boxed_own (w.heap.size+1) _ (fun (_:Unit)=>Value.func (.func fn) bd cs) () A C row h1 hg (fun r e=>(hr r e).2),h2,h2 () A C row h3 hg hr,h4.mono hg.size,h5⟩
theorem upTo_snoc {α:Type} {f:Nat→α} {pre:List α} {x:α} (h:pre++[x]=upTo f (pre++[x]).length):pre=upTo f pre.length∧x=f pre.length:=by
 rw [List.length_append,List.length_singleton,upTo_succ] at h
 have h1:=List.append_inj' h rfl
 exact ⟨h1.1,by simpa using h1.2⟩
theorem thI_step (S:Nat) (s:ByteArray) (t:Pt) (fs:Nat→Nat × Array Value) (w:World) (B0:Nat) (hs:s.size≤65536) (hk:PtK t) (hS:S<w.heap.size) (hB0:w.heap.size+1<B0) (hi:∀ j (hj:j<t.items.length),ItV w S t.items[j] (fs j).1 (fs j).2)
 (pre:List (Nat × Nat × Array Value)) (x:Nat × Nat × Array Value) (W W':World) (fn:Nat) (bd cs:Array Value) (D:World→Prop) (Bx Bn:Nat)
 (h2:OwnFrom B0 (fun (_:Unit) W=>D W)) (h3:D W) (h4:Only S (w.heap.size+1) W.heap.size D)
 (h5:pre=upTo (bkF t.items.length fs) pre.length→pre.length≤t.items.length→WyA S s t.items (t.items.take (t.items.length-pre.length)) (tryM s t.place (t.items.drop (t.items.length-pre.length))) fn bd cs D)
 (hb:Boxed W w.heap.size 44 (.pointer (some ⟨S,0,none⟩))) (hB:Below w.heap.size w W)
 (hsz:W.heap.size≤W'.heap.size) (hW:∀ b,b<W.heap.size→b≠w.heap.size+1→W'.heap[b]?=W.heap[b]?)
 (b1:Boxed W' (w.heap.size+1) 53 (.func (.func 32) #[] #[.pointer (some ⟨w.heap.size,0,none⟩),.pointer (some ⟨Bx,0,none⟩),.pointer (some ⟨Bn,0,none⟩)]))
 (b2:Boxed W' Bx 97 (.func (.func x.2.1) #[] x.2.2)) (b3:Boxed W' Bn 53 (.func (.func fn) bd cs)) (hx:w.heap.size+1<Bx) (hn:w.heap.size+1<Bn):
 ThI S s t fs w B0 (pre++[x]) W':=by
 have hD:D W':=h4 W W' h3 hsz (fun b c1 _ c2 c3=>hW b c1 c3)
 have hold:w.heap.size≤W'.heap.size∧Old w S W':=⟨Nat.le_trans hB.size hsz,fun b c1 c2=>(hW b (Nat.lt_of_lt_of_le c1 hB.size) (by omega)).trans (hB.block b c1)⟩
 have hb':Boxed W' w.heap.size 44 (.pointer (some ⟨S,0,none⟩)):=(hW _ hb.lt (by omega)).trans hb
 by_cases hg:pre++[x]=upTo (bkF t.items.length fs) (pre++[x]).length∧(pre++[x]).length≤t.items.length
 ·obtain ⟨hp,hxe⟩:=upTo_snoc hg.1
  have hl:=hg.2
  rw [List.length_append,List.length_singleton] at hl
  have hw:=h5 hp (by omega)
  obtain ⟨j,hj⟩:∃ j,t.items.length-(pre.length+1)=j:=⟨_,rfl⟩
  have hj1:t.items.length-pre.length=j+1:=by omega
  have hj2:j<t.items.length:=by omega
  rw [hj1] at hw
  have hx1:x.2.1=(fs j).1∧x.2.2=(fs j).2:=by
   rw [hxe]
   simp [bkF,show t.items.length-1-pre.length=j by omega]
  refine ⟨_,_,_,fun C=>C.cell? ⟨w.heap.size,0,none⟩=some (.pointer (some ⟨S,0,none⟩))∧C.cell? ⟨Bx,0,none⟩=some (.func (.func x.2.1) #[] x.2.2)∧C.cell? ⟨Bn,0,none⟩=some (.func (.func fn) bd cs)∧(w.heap.size≤C.heap.size∧Old w S C)∧D C,b1,?_,⟨hb'.cell,b2.cell,b3.cell,hold,hD⟩,?_,fun _ _=>?_⟩
  ·rintro _ A C row ⟨c1,c2,c3,c4,c5⟩ hg hr
   have hr':=fun r e=>(hr r e).2
   exact ⟨cell_kept c1 hg hr',cell_kept c2 hg hr',cell_kept c3 hg hr',⟨Nat.le_trans c4.1 hg.size,fun b d1 d2=>(hg.block b (by omega) (fun e=>by have:=(hr b e.symm).1;omega)).trans (c4.2 b d1 d2)⟩,h2 () A C row c5 hg hr⟩
  ·rintro A C ⟨c1,c2,c3,c4,c5⟩ hz hC
   exact ⟨cell_blk c1 (hC _ hb'.lt (cell_blt c1) (by omega) (by omega)),cell_blk c2 (hC _ b2.lt (cell_blt c2) (by omega) (by omega)),cell_blk c3 (hC _ b3.lt (cell_blt c3) (by omega) (by omega)),⟨Nat.le_trans c4.1 hz,fun b d1 d2=>(hC b (by have:=hold.1;omega) (by have:=c4.1;omega) d2 (by omega)).trans (c4.2 b d1 d2)⟩,h4 A C c5 hz (fun b e1 e0 e2 e3=>hC b (by omega) e0 e2 e3)⟩
  ·rw [List.length_append,List.length_singleton,hj]
   intro X e1 e2 e3
   subst e1 e2
   have h6:=hw X rfl rfl e3
   rw [List.take_succ_eq_append_getElem hj2] at h6
   rw [List.drop_eq_getElem_cons hj2]
   have h7:=itv_old X t.place (t.items.take j) t.items[j] (fs j).1 (fs j).2 w hs (hk.preOk hj2) (hi j hj2)
   rw [←hx1.1,←hx1.2] at h7
   exact way_step X t.place (t.items.take j) (t.items.drop (j+1)) t.items[j] x.2.1 x.2.2 _ fn bd cs D w.heap.size Bx Bn (by omega) (by omega) (by omega) h7 h6
 ·exact ⟨_,_,_,fun _=>True,b1,fun _ _ _ _ _ _ _=>trivial,trivial,fun _ _ _ _ _=>trivial,fun e1 e2=>absurd ⟨e1,e2⟩ hg⟩
end Go.Proofs.YtlgodacccilabaaGreatDoor
