import Derived.Test.YtlgodacccilabaaGreatDoorPH
import Derived.Test.YtlgodacccilabaaGreatDoorJPN
import Derived.Test.YtlgodacccilabaaGreatDoorJGB
import Derived.Laws.IdiomStrings
import Derived.Lib.ItoaNum
import Derived.Test.YtlgodacccilabaaGreatDoorPP0
import Derived.Lib.AppendStr
import Derived.Lib.UnsafeStr
import Derived.Laws.BytesArg
namespace Go.Proofs.YtlgodacccilabaaGreatDoor
open Go Go.RowKit
set_option linter.unusedVariables false
def opC (l:List Nat):List Value:=l.map fun n:Nat=>.int .i64 (n:Int)
def boC (l:List Bool):List Value:=l.map fun b=>.bool b
structure QR (w:World) (R:Nat) (p:ByteArray) (pos:Nat) (us:List (It × Value)) (opn:List Nat) (done:List Bool) (vi vo vd:Value):Prop where
 b:RdB w R p pos false vi vo vd
 i:w.ownsRow (R+1) 91 6 vi us.length (itsC us)
 n:w.ownsRow (R+1) 3 1 vo opn.length (opC opn)
 d:w.ownsRow (R+1) 4 1 vd done.length (boC done)
 s:∀ u∈us,SetV w u
 a:∀ u∈us,∀ g,u.2.ownBlock=some g→R<g∧vd.ownBlock≠some g
theorem owns_blt {w:World} {B e s n g:Nat} {v:Value} {xs:List Value} (h:w.ownsRow B e s v n xs) (hv:v.ownBlock=some g):B≤g∧g<w.heap.size:=by
 obtain ⟨h1,⟨rfl,h2⟩|⟨g',cap,cur,rfl,hb,hg,_⟩⟩:=h
 ·simp [Value.ownBlock] at hv
 ·have e:g'=g:=by simpa [Value.ownBlock] using hv
  subst e
  refine ⟨hb,?_⟩
  rcases Nat.lt_or_ge g' w.heap.size with c|c
  ·exact c
  ·rw [Array.getElem?_eq_none c] at hg;cases hg
theorem owns_rowF {w:World} {B T s n g:Nat} {v:Value} {xs:List Value} (h:w.ownsRow B T s v n xs) (hv:v.ownBlock=some g):∃ f,RowF w T g (n*s) f:=by
 obtain ⟨f,hf⟩:=SlF.of h
 exact ⟨f,hf.own hv⟩
theorem owns_apart {w:World} {B T s n B' T' s' n' g:Nat} {v v':Value} {xs xs':List Value} (h:w.ownsRow B T s v n xs) (h':w.ownsRow B' T' s' v' n' xs') (hT:T≠T') (hv:v.ownBlock=some g):v'.ownBlock≠some g:=by
 intro hv'
 obtain ⟨f,hf⟩:=owns_rowF h hv
 obtain ⟨f',hf'⟩:=owns_rowF h' hv'
 exact hf.apart hf' hT rfl
section
variable {w w' : World} {R : Nat} {p : ByteArray} {pos : Nat} {us : List (It × Value)} {opn : List Nat} {done : List Bool} {vi vo vd : Value}
theorem QR.keep (h:QR w R p pos us opn done vi vo vd) (k:Keeps w w' (fun _=>False)):QR w' R p pos us opn done vi vo vd:=
 ⟨h.b.keep k (fun x=>x),owns_keep h.i k (fun _ x=>x.elim),owns_keep h.n k (fun _ x=>x.elim),owns_keep h.d k (fun _ x=>x.elim),fun u hu=>(h.s u hu).keep k (fun _ _ x=>x),h.a⟩
theorem QR.setR (h:QR w R p pos us opn done vi vo vd) (k:Keeps w w' (fun b=>b=R)) {pos':Nat} (hb:RdB w' R p pos' false vi vo vd):QR w' R p pos' us opn done vi vo vd:=
 ⟨hb,owns_keep h.i k (by omega),owns_keep h.n k (by omega),owns_keep h.d k (by omega),fun u hu=>(h.s u hu).keep k (fun g hg x=>by
  subst x
  exact RowF.apart hg h.b (by decide) rfl),h.a⟩
theorem QR.posn (h:QR w R p pos us opn done vi vo vd) (q:Nat):QR (w.setCell ⟨R,1,none⟩ (.int .i64 q)) R p q us opn done vi vo vd:=
 h.setR ((Keeps.refl w (fun b=>b=R)).setCell (S:=fun b=>b=R) (j:=1) rfl _) h.b.pos
theorem QR.past {X j:Nat} {x:Value} (h:QR w R p pos us opn done vi vo vd) (hX:w.heap.size≤X):QR (w.setCell ⟨X,j,none⟩ x) R p pos us opn done vi vo vd:=by
 refine h.keep ?_
 have e:Below X w (w.setCell ⟨X,j,none⟩ x):=(Below.refl X w).setCell (Nat.le_refl _) x
 exact ⟨e.os,e.tape,e.output,e.size,fun b hb _=>e.block b (by omega)⟩
theorem QR.app_i {w5:World} {v':Value} (h:QR w R p pos us opn done vi vo vd) (u:It × Value) (hu:SetV w u) (hua:∀ g,u.2.ownBlock=some g→R<g∧vd.ownBlock≠some g)
 (h1:w5.ownsRow (R+1) 91 6 v' (us.length+1) (itsC us++itC u)) (h2:∀ B w0,Below B w0 w→B≤R+1→Below B w0 w5) (h3:∀ gx,gx<w.heap.size→vi.ownBlock≠some gx→w5.heap[gx]?=w.heap[gx]?):
 QR (w5.setCell ⟨R,3,none⟩ v') R p pos (us++[u]) opn done v' vo vd:=by
 have hb:Below (R+1) w w5:=h2 _ _ (Below.refl _ _) (Nat.le_refl _)
 have k5:Keeps w w5 (fun b=>vi.ownBlock=some b):=⟨hb.os,hb.tape,hb.output,hb.size,h3⟩
 have k:Keeps w5 (w5.setCell ⟨R,3,none⟩ v') (fun b=>b=R):=(Keeps.refl w5 (fun b=>b=R)).setCell (S:=fun b=>b=R) (j:=3) rfl v'
 have hb5:RdB w5 R p pos false vi vo vd:=RowF.low h.b hb (by omega)
 have hs:∀ u9,SetV w u9→SetV (w5.setCell ⟨R,3,none⟩ v') u9:=fun u9 h9=>(h9.keep k5 (fun g hg x=>by
  obtain ⟨f,hf⟩:=owns_rowF h.i x
  exact RowF.apart hg hf (by decide) rfl)).keep k (fun g hg x=>by
  subst x
  exact RowF.apart hg hb5 (by decide) rfl)
 refine ⟨hb5.items,?_,owns_keep (owns_stay h.n (fun g hg=>h3 g (owns_blt h.n hg).2 (owns_apart h.n h.i (by decide) hg))) k (by omega),owns_keep (owns_stay h.d (fun g hg=>h3 g (owns_blt h.d hg).2 (owns_apart h.d h.i (by decide) hg))) k (by omega),?_,?_⟩
 ·rw [List.length_append,List.length_singleton,show itsC (us++[u])=itsC us++itC u by simp [itsC]]
  exact owns_keep h1 k (by omega)
 ·intro u9 h9
  rcases List.mem_append.1 h9 with h9|h9
  ·exact hs u9 (h.s u9 h9)
  ·rw [List.mem_singleton.1 h9];exact hs u hu
 ·intro u9 h9
  rcases List.mem_append.1 h9 with h9|h9
  ·exact h.a u9 h9
  ·rw [List.mem_singleton.1 h9];exact hua
theorem QR.app_n {w5:World} {v':Value} (h:QR w R p pos us opn done vi vo vd) (x:Nat)
 (h1:w5.ownsRow (R+1) 3 1 v' (opn.length+1) (opC opn++[.int .i64 x])) (h2:∀ B w0,Below B w0 w→B≤R+1→Below B w0 w5) (h3:∀ gx,gx<w.heap.size→vo.ownBlock≠some gx→w5.heap[gx]?=w.heap[gx]?):
 QR (w5.setCell ⟨R,4,none⟩ v') R p pos us (opn++[x]) done vi v' vd:=by
 have hb:Below (R+1) w w5:=h2 _ _ (Below.refl _ _) (Nat.le_refl _)
 have k5:Keeps w w5 (fun b=>vo.ownBlock=some b):=⟨hb.os,hb.tape,hb.output,hb.size,h3⟩
 have k:Keeps w5 (w5.setCell ⟨R,4,none⟩ v') (fun b=>b=R):=(Keeps.refl w5 (fun b=>b=R)).setCell (S:=fun b=>b=R) (j:=4) rfl v'
 have hb5:RdB w5 R p pos false vi vo vd:=RowF.low h.b hb (by omega)
 refine ⟨hb5.opn,owns_keep (owns_stay h.i (fun g hg=>h3 g (owns_blt h.i hg).2 (owns_apart h.i h.n (by decide) hg))) k (by omega),?_,owns_keep (owns_stay h.d (fun g hg=>h3 g (owns_blt h.d hg).2 (owns_apart h.d h.n (by decide) hg))) k (by omega),fun u hu=>((h.s u hu).keep k5 (fun g hg x=>by
  obtain ⟨f,hf⟩:=owns_rowF h.n x
  exact RowF.apart hg hf (by decide) rfl)).keep k (fun g hg x=>by
  subst x
  exact RowF.apart hg hb5 (by decide) rfl),h.a⟩
 rw [List.length_append,List.length_singleton,show opC (opn++[x])=opC opn++[.int .i64 x] by simp [opC]]
 exact owns_keep h1 k (by omega)
theorem QR.app_d {w5:World} {v':Value} (h:QR w R p pos us opn done vi vo vd) (x:Bool)
 (h1:w5.ownsRow (R+1) 4 1 v' (done.length+1) (boC done++[.bool x])) (h2:∀ B w0,Below B w0 w→B≤R+1→Below B w0 w5) (h3:∀ gx,gx<w.heap.size→vd.ownBlock≠some gx→w5.heap[gx]?=w.heap[gx]?)
 (h4:∀ gx,gx<w.heap.size→vd.ownBlock≠some gx→v'.ownBlock≠some gx):
 QR (w5.setCell ⟨R,5,none⟩ v') R p pos us opn (done++[x]) vi vo v':=by
 have hb:Below (R+1) w w5:=h2 _ _ (Below.refl _ _) (Nat.le_refl _)
 have k5:Keeps w w5 (fun b=>vd.ownBlock=some b):=⟨hb.os,hb.tape,hb.output,hb.size,h3⟩
 have k:Keeps w5 (w5.setCell ⟨R,5,none⟩ v') (fun b=>b=R):=(Keeps.refl w5 (fun b=>b=R)).setCell (S:=fun b=>b=R) (j:=5) rfl v'
 have hb5:RdB w5 R p pos false vi vo vd:=RowF.low h.b hb (by omega)
 refine ⟨hb5.don,owns_keep (owns_stay h.i (fun g hg=>h3 g (owns_blt h.i hg).2 (owns_apart h.i h.d (by decide) hg))) k (by omega),owns_keep (owns_stay h.n (fun g hg=>h3 g (owns_blt h.n hg).2 (owns_apart h.n h.d (by decide) hg))) k (by omega),?_,fun u hu=>?_,fun u hu g hg=>⟨(h.a u hu g hg).1,?_⟩⟩
 ·rw [List.length_append,List.length_singleton,show boC (done++[x])=boC done++[.bool x] by simp [boC]]
  exact owns_keep h1 k (by omega)
 ·rcases h.s u hu with h9|⟨g,h9,h8⟩
  ·exact .inl h9
  ·have h7:=(h.a u hu g (by rw [h9];rfl)).2
   exact .inr ⟨g,h9,(h8.keep k5 (fun x=>h7 x)).keep k (fun x=>by subst x;exact RowF.apart h8 h.b (by decide) rfl)⟩
 ·rcases h.s u hu with ⟨h9,_⟩|⟨g',h9,h8⟩
  ·rw [h9] at hg;simp [Value.ownBlock] at hg
  ·rw [h9] at hg
   have e:g'=g:=by simpa [Value.ownBlock] using hg
   subst e
   exact h4 g' (RowF.lt h8) (h.a u hu g' (by rw [h9];rfl)).2
theorem QR.set_d {g j:Nat} (h:QR w R p pos us opn done vi vo vd) (hv:vd.ownBlock=some g) (hj:j<done.length):QR (w.setCell ⟨g,j,none⟩ (.bool true)) R p pos us opn (done.set j true) vi vo vd:=by
 have k:Keeps w (w.setCell ⟨g,j,none⟩ (.bool true)) (fun b=>b=g):=(Keeps.refl w (fun b=>b=g)).setCell (S:=fun b=>b=g) (j:=j) rfl _
 obtain ⟨f,hf⟩:=owns_rowF h.d hv
 have hR:=owns_blt h.d hv
 refine ⟨h.b.keep k (by omega),owns_stay h.i (fun b hb=>k.block b (owns_blt h.i hb).2 (fun e=>owns_apart h.i h.d (by decide) hb (by rw [e];exact hv))),owns_stay h.n (fun b hb=>k.block b (owns_blt h.n hb).2 (fun e=>owns_apart h.n h.d (by decide) hb (by rw [e];exact hv))),?_,fun u hu=>?_,h.a⟩
 ·have hd:=h.d
  obtain ⟨h1,⟨rfl,h2⟩|⟨g',cap,cur,rfl,hb,hg,hnc,hcm,hcs,htake⟩⟩:=hd
  ·simp [Value.ownBlock] at hv
  ·have e:g'=g:=by simpa [Value.ownBlock] using hv
   subst e
   refine ⟨by simp [boC],.inr ⟨g',cap,_,by simp,hb,heap_setCell_same w g' j _ _ _ hg,by simpa using hnc,hcm,by simpa using hcs,?_⟩⟩
   simp only [List.length_set,Nat.mul_one] at htake ⊢
   rw [boC,List.map_set,←boC,←htake]
   simp [List.take_set]
 ·rcases h.s u hu with h9|⟨g',h9,h8⟩
  ·exact .inl h9
  ·exact .inr ⟨g',h9,h8.keep k (fun e=>(h.a u hu g' (by rw [h9];rfl)).2 (by rw [e];exact hv))⟩
theorem QR.cut {a:Option Addr} {cap:Nat} (h:QR w R p pos us opn done vi (.slice a opn.length cap) vd) (hn:opn≠[]):QR (w.setCell ⟨R,4,none⟩ (.slice a (opn.length-1) cap)) R p pos us opn.dropLast done vi (.slice a (opn.length-1) cap) vd:=by
 have k:Keeps w (w.setCell ⟨R,4,none⟩ (.slice a (opn.length-1) cap)) (fun b=>b=R):=(Keeps.refl w (fun b=>b=R)).setCell (S:=fun b=>b=R) (j:=4) rfl _
 refine ⟨h.b.opn,owns_keep h.i k (by omega),?_,owns_keep h.d k (by omega),fun u hu=>(h.s u hu).keep k (fun g hg x=>by
  subst x
  exact RowF.apart hg h.b (by decide) rfl),h.a⟩
 have hd:=owns_keep h.n k (by omega)
 have hl:opn.length≠0:=fun e=>hn (List.length_eq_zero_iff.1 e)
 obtain ⟨h1,⟨h0,h2⟩|⟨g',cap',cur,h0,hb,hg,hnc,hcm,hcs,htake⟩⟩:=hd
 ·omega
 ·simp only [Value.slice.injEq,true_and] at h0
  obtain ⟨rfl,rfl⟩:=h0
  refine ⟨by simp [opC],.inr ⟨g',cap,cur,by simp,hb,hg,by simp;omega,hcm,hcs,?_⟩⟩
  simp only [List.length_dropLast,Nat.mul_one] at htake ⊢
  have hlen:=congrArg List.length htake
  rw [opC,List.map_dropLast,←opC,←htake,List.dropLast_eq_take,List.take_take,hlen]
  simp only [opC,List.length_map]
  rw [Nat.min_eq_left (by omega)]
end
def ItR (R:Nat) (p:ByteArray) (pos:Nat) (r:Option Rd) (w:World) (e:Ending) (w':World):Prop:=
 e=.returned (.tuple #[])∧Below R w w'∧((∃ rd us vi vo vd,r=some rd∧us.map Prod.fst=rd.items∧QR w' R p rd.pos us rd.opn rd.done vi vo vd∧pos<rd.pos∧rd.pos≤p.size)∨(r=none∧∃ q vi vo vd,q≤100000∧RdB w' R p q true vi vo vd))
theorem Tryz.info91:(Tryz.prog.info? 91).map (fun i=>(i.zero,i.size,i.bytes))=some (some (.agg #[.int .i64 0,nilS,.int .u8 0,.int .i64 0,.int .u8 0,.int .u8 0]),6,56):=by kernel_rfl
theorem one_it (u:It) (a:Option Addr) (n c:Nat):∀ v∈itC (u,.slice a n c),v.oneCell'=true:=by
 intro v hv
 simp only [itC,List.mem_cons,List.not_mem_nil,or_false] at hv
 rcases hv with rfl|rfl|rfl|rfl|rfl|rfl<;>rfl
end Go.Proofs.YtlgodacccilabaaGreatDoor
namespace Go.Proofs.YtlgodacccilabaaGreatDoor
open Go Go.RowKit
set_option linter.unusedVariables false
theorem info_u8:(Tryz.prog.info? 5).map (fun i=>(i.zero,i.size,i.bytes))=some (some (.int .u8 0),1,1):=by kernel_rfl
theorem gtD {α:Type} {l:List α} {j:Nat} {d:α} (h:j<l.length):l.getD j d=l[j]:=by
 rw [List.getD_eq_getElem?_getD,List.getElem?_eq_getElem h];rfl
def Byt (w:World) (v:Value) (l:List Int):Prop:=
 ∃ g cap,v=.slice (some ⟨g,0,none⟩) l.length cap∧l.length≤cap∧cap≤maxLen∧g<w.heap.size∧∀ j,j<l.length→w.cell? ⟨g,j,none⟩=some (.int .u8 (l.getD j 0))
theorem byt_owns {w:World} {base:Nat} {v:Value} {L:List Int} (h:w.ownsRow base 5 1 v L.length (L.map (Value.int .u8))) (hv:v≠ .slice none 0 0):Byt w v L:=by
 obtain ⟨h1,h2⟩:=h
 rcases h2 with ⟨rfl,_⟩|⟨g,cap,cur,rfl,hB,hh,hn,hc,hs,ht⟩
 ·exact absurd rfl hv
 ·have hown:w.ownsRow base 5 1 (.slice (some ⟨g,0,none⟩) L.length cap) L.length (L.map (Value.int .u8)):=⟨h1,.inr ⟨g,cap,cur,rfl,hB,hh,hn,hc,hs,ht⟩⟩
  refine ⟨g,cap,rfl,hn,hc,(hown.lt g rfl).2,fun j hj=>?_⟩
  rw [hown.cellAt j (by omega),List.getElem?_map,List.getElem?_eq_getElem hj,gtD hj];rfl
theorem byt_cells {w:World} {g:Nat} {l:List Int} (h5:∀ j,j<l.length→w.cell? ⟨g,j,none⟩=some (.int .u8 (l.getD j 0))) (o:Obj) (hg:g<w.heap.size):
 ∀ j u,(l.map (Value.int .u8))[j]?=some u→(w.alloc o).cell? ((⟨g,0,none⟩:Addr).add j)=some u:=by
 intro j u hj
 rw [List.getElem?_map] at hj
 cases hx:l[j]? with
 |none=>rw [hx] at hj;simp at hj
 |some x=>
  rw [hx] at hj
  simp at hj
  subst hj
  obtain ⟨hlt,hxx⟩:=List.getElem?_eq_some_iff.1 hx
  have:=h5 j hlt
  rw [gtD hlt,hxx] at this
  rw [←this,add_none',Nat.zero_add]
  have hb:Below w.heap.size w (w.alloc o):=(Below.refl _ _).alloc (Nat.le_refl _) o
  exact hb.cell (p:=⟨g,j,none⟩) hg
theorem app_head {wr:World} {ops:Array Oper} {rest:List Oper} {o:Oper} {a:Act} {Q:Exit→Act→World→Prop} (hgd:o.guard=none) (s x:Operand)
 (ho:o.op=.call { callee:=.builtin .append,args:=#[s,x],argTypes:=#[43,43] }) (v:Value) (c:Int) (L:List Int) (hbig:Byt wr v L) (hx:a.eval x=v) (hs:a.eval s=.slice (some ⟨wr.heap.size,0,none⟩) 1 1)
 (hlen:L.length≤10000000000)
 (h:∀ v' w',Byt w' v' (c::L)→Below wr.heap.size wr w'→wpList Tryz.prog ops Q rest (a.put o.dst v') w'):
 wpList Tryz.prog ops Q (o::rest) a (wr.alloc (.cells #[.int .u8 c] 5)):=by
 obtain ⟨i0,hi,hz0,hz1,hz2⟩:=info_parts info_u8
 obtain ⟨g,cap,rfl,h2,h3,h4,h5⟩:=hbig
 have hown:=World.ownsRow_lit (base:=wr.heap.size) (e:=5) (size:=1) wr #[.int .u8 c] 1 (Nat.le_refl _) (by simp [maxLen]) rfl
 refine wpList_append_own _ hgd s x 43 ho wr.heap.size 5 i0 (.int .u8 0) 1 1 Tryz.underlying43 hi hz0 hz1 hz2 rfl (by decide) _ 1 _ hs hown ⟨g,0,none⟩ L.length cap (L.map (Value.int .u8)) hx (by simp) (byt_cells h5 _ h4)
  (ints_oneCell _ _) (by unfold maxLen;omega) (by omega) (by simp) ?_
 intro v' w' h1 h2 h3
 refine h v' w' (byt_owns (base:=wr.heap.size) (L:=c::L) ?_ (fun hh=>by have:=(h3.1 hh).1;cases this)) (((Below.refl _ _).alloc (Nat.le_refl _) _).grown h2 (by simp) (fun q hq=>by cases hq;exact Nat.le_refl _))
 have e:(c::L).length=1+L.length:=by simp;omega
 rw [e];simpa using h1
def decL (u:Nat):List Int:=(Lib.decDigits u).map fun b=>((b.toNat:Nat):Int)
theorem byte_digit {k:Nat} (h:k<10):(((UInt8.ofNat (48+k)).toNat:Nat):Int)=48+k:=by
 rw [UInt8.toNat_ofNat']
 omega
theorem decL_small {u:Nat} (h:u<10):decL u=[48+((u%10:Nat):Int)]:=by
 unfold decL
 rw [Lib.decDigits,dif_pos h]
 simp only [List.map_cons,List.map_nil]
 rw [byte_digit h,Nat.mod_eq_of_lt h]
theorem decL_step {u:Nat} (h:¬ u<10):decL u=decL (u/10)++[48+((u%10:Nat):Int)]:=by
 unfold decL
 rw [Lib.decDigits,dif_neg h,List.map_append]
 simp only [List.map_cons,List.map_nil]
 rw [byte_digit (show u%10<10 by omega)]
def aheadL (u:Nat):List Int:=if u<10 then [] else decL (u/10)
theorem decL_pre (u:Nat):decL u=aheadL u++[48+((u%10:Nat):Int)]:=by
 unfold aheadL
 split
 ·rw [decL_small (by assumption)];rfl
 ·rw [decL_step (by assumption)]
theorem decL_len {u:Nat} {k:Nat} (h:u<10^k) (hk:1≤k):(decL u).length≤k:=by
 induction k generalizing u with
 |zero=>omega
 |succ k ih=>
  by_cases hu:u<10
  ·rw [decL_small hu];simp
  ·by_cases hk0:k=0
   ·subst hk0;simp at h;omega
   ·rw [decL_step hu,List.length_append]
    have:=ih (u:=u/10) (by rw [Nat.pow_succ] at h;omega) (by omega)
    simp
    exact this
theorem itoa_len {u:Nat} (h:u<1000000):(Lib.itoa (u:Int)).length≤6:=by
 have:=decL_len (u:=u) (k:=6) (by omega) (by omega)
 unfold Lib.itoa
 rw [if_neg (by omega)]
 unfold decL at this
 simpa using this
theorem byt_string {w:World} {v:Value} {l:List UInt8} (h:Byt w v (l.map fun b=>((b.toNat:Nat):Int))):(convert 43 9 v).run Tryz.prog w=.ok (.string ⟨l.toArray⟩) w:=by
 obtain ⟨g,cap,rfl,h2,h3,h4,h5⟩:=h
 rw [List.length_map] at h5 ⊢
 refine run_convert_bytes_back w 43 9 5 ⟨g,0,none⟩ cap l Tryz.underlying43 Tryz.underlying5 Tryz.underlying9 (fun j hj=>?_)
 rw [add_none',Nat.zero_add,h5 j hj,gtD (by rw [List.length_map];exact hj)]
 simp
theorem byt_one (w:World) (c:Int):Byt (w.alloc (.cells #[.int .u8 c] 5)) (.slice (some ⟨w.heap.size,0,none⟩) 1 1) [c]:=by
 refine ⟨w.heap.size,1,rfl,by simp,by simp [maxLen],by simp,fun j hj=>?_⟩
 have:j=0:=by simpa using hj
 subst this
 simp
def u64N:Value→Nat
 | .int _ x=>x.toNat
 |_=>0
set_option maxHeartbeats 1600000 in
set_option maxRecDepth 100000 in
theorem dec_any (U:Nat) (w:World) (hu1:U≤1000000):
 Calls Tryz.prog 16 #[.int .i64 U] w fun e w'=>e=.returned (.string ⟨(Lib.itoa (U:Int)).toArray⟩)∧Below w.heap.size w w':=by
 have HL:=hide (decL_len (u:=U) (k:=20) (by omega) (by omega))
 have HI:Hid ((Lib.itoa (U:Int)).map (fun b=>((b.toNat:Nat):Int))=decL U):=hide (by
  unfold Lib.itoa
  rw [if_neg (by omega)]
  rfl)
 generalize Lib.itoa (U:Int)=out at *
 go_enter Tryz.func16,Tryz.ntmps16
 go_wp2
 go_loopw [3,4] (fun uv ov wr=>∃ (x:Nat) (L:List Int),uv=.int .u64 x∧x≤1000000∧Byt wr ov L∧Hid (decL U=aheadL x++L)∧Below w.heap.size w wr) (fun uv _ _=>u64N uv)
 case atStart=>
  exact ⟨U,[48+((U%10:Nat):Int)],by simp,hu1,byt_one w _,hide (decL_pre U),(Below.refl _ _).alloc (Nat.le_refl _) _⟩
 case round=>
  obtain ⟨x,L,rfl,hx,hbyt,He,hb⟩:=hrel
  have hlen:L.length≤20:=by
   have:=HL.out
   rw [He.out,List.length_append] at this
   omega
  by_cases hx10:10≤x
  ·have Hn:Hid (decL U=aheadL (x/10)++((48+((x/10%10:Nat):Int))::L)):=hide (by
    rw [He.out]
    have:aheadL x=decL (x/10):=by unfold aheadL;rw [if_neg (by omega)]
    rw [this,decL_pre,List.append_assoc]
    rfl)
   clear He
   go_wp2_with (first
    |(at_builtin;(refine app_head rfl _ _ rfl _ (48+(x:Int)/10%10) L hbyt rfl rfl (by omega) ?_;intro v' w1 hbyt' hb'))
    |go_in)
   go_wp2
   go_roundw
   case rel=>exact ⟨x/10,(48+((x/10%10:Nat):Int))::L,by go_num,by omega,hbyt',Hn,hb.trans (hb'.mono hb.size)⟩
   case measure=>simp [u64N];omega
  ·have Hn:Hid (decL U=L):=hide (by
    rw [He.out]
    have:aheadL x=[]:=by unfold aheadL;rw [if_pos (by omega)]
    rw [this]
    rfl)
   clear He
   have hbyt':=hbyt
   rw [←Hn.out,←HI.out] at hbyt'
   have hcv:=byt_string hbyt'
   go_wp2
   go_ret
   exact ⟨rfl,hb⟩
end Go.Proofs.YtlgodacccilabaaGreatDoor
namespace Go.Proofs.YtlgodacccilabaaGreatDoor
open Go Go.RowKit
set_option linter.unusedVariables false
def CpA (w:World) (v:Value) (n:Nat) (x0:Nat→Bool) (x1 x2:Nat→Int):Prop:=
 (n=0∧∃ a cap,v=.slice a 0 cap)∨∃ b cap,v=.slice (some ⟨b,0,none⟩) n cap∧b<w.heap.size∧n≤cap∧∀ i,i<n→w.cell? ⟨b,i*3,none⟩=some (.bool (x0 i))∧w.cell? ⟨b,i*3+1,none⟩=some (.int .i64 (x1 i))∧w.cell? ⟨b,i*3+2,none⟩=some (.int .i64 (x2 i))
theorem CpA.val {w:World} {v:Value} {n:Nat} {x0:Nat→Bool} {x1 x2:Nat→Int} (h:CpA w v n x0 x1 x2):∃ a cap,v=.slice a n cap:=by
 rcases h with ⟨rfl,a,cap,rfl⟩|⟨b,cap,rfl,_⟩
 ·exact ⟨a,cap,rfl⟩
 ·exact ⟨_,cap,rfl⟩
theorem CpA.same {w w':World} {v:Value} {n:Nat} {x0:Nat→Bool} {x1 x2:Nat→Int} (h:CpA w v n x0 x1 x2) (hs:w.heap.size≤w'.heap.size) (hb:∀ b,v.ownBlock=some b→w'.heap[b]?=w.heap[b]?):CpA w' v n x0 x1 x2:=by
 rcases h with h|⟨b,cap,rfl,hbB,hcap,hc⟩
 ·exact .inl h
 ·have e:=hb b rfl
  refine .inr ⟨b,cap,rfl,by omega,hcap,fun i hi=>?_⟩
  have h3:=hc i hi
  exact ⟨(World.cell?_of_block (a:=⟨b,i*3,none⟩) e).trans h3.1,(World.cell?_of_block (a:=⟨b,i*3+1,none⟩) e).trans h3.2.1,(World.cell?_of_block (a:=⟨b,i*3+2,none⟩) e).trans h3.2.2⟩
theorem CpA.lt {w:World} {v:Value} {n:Nat} {x0:Nat→Bool} {x1 x2:Nat→Int} (h:CpA w v n x0 x1 x2) (hn:0<n) {b:Nat} (hb:v.ownBlock=some b):b<w.heap.size:=by
 rcases h with ⟨rfl,a,cap,rfl⟩|⟨g,cap,rfl,hbB,hcap,hc⟩
 ·omega
 ·have e:g=b:=by simpa [Value.ownBlock] using hb
  subst e
  exact hbB
theorem CpA.low {w w':World} {v:Value} {n:Nat} {x0:Nat→Bool} {x1 x2:Nat→Int} (h:CpA w v n x0 x1 x2) (hb:Below w.heap.size w w'):CpA w' v n x0 x1 x2:=by
 rcases h with h|⟨b,cap,rfl,hbB,hcap,hc⟩
 ·exact .inl h
 ·exact CpA.same (.inr ⟨b,cap,rfl,hbB,hcap,hc⟩) hb.size (fun g e=>by
   have e2:b=g:=by simpa [Value.ownBlock] using e
   subst e2
   exact hb.block b hbB)
def cx0 (l:List (Bool × Nat × Nat)) (i:Nat):Bool:=(l.getD i (false,0,0)).1
def cx1 (l:List (Bool × Nat × Nat)) (i:Nat):Int:=((l.getD i (false,0,0)).2.1:Nat)
def cx2 (l:List (Bool × Nat × Nat)) (i:Nat):Int:=((l.getD i (false,0,0)).2.2:Nat)
theorem capC_at:∀ (l:List (Bool × Nat × Nat)) (i:Nat),i<l.length→(capC l)[i*3]?=some (.bool (cx0 l i))∧(capC l)[i*3+1]?=some (.int .i64 (cx1 l i))∧(capC l)[i*3+2]?=some (.int .i64 (cx2 l i))
 | [],i,h=>by simp at h
 |c::l,0,h=>⟨rfl,rfl,rfl⟩
 |c::l,i+1,h=>by
  have ih:=capC_at l i (by simpa using h)
  rw [show capC (c::l)=[.bool c.1,.int .i64 c.2.1,.int .i64 c.2.2]++capC l from rfl]
  rw [List.getElem?_append_right (by simp;omega),List.getElem?_append_right (by simp;omega),List.getElem?_append_right (by simp;omega)]
  simp only [List.length_cons,List.length_nil]
  rw [show (i+1)*3-(0+1+1+1)=i*3 by omega,show (i+1)*3+1-(0+1+1+1)=i*3+1 by omega,show (i+1)*3+2-(0+1+1+1)=i*3+2 by omega]
  exact ih
theorem CpA.of {w:World} {B:Nat} {v:Value} {l:List (Bool × Nat × Nat)} (h:w.ownsRow B 56 3 v l.length (capC l)):CpA w v l.length (cx0 l) (cx1 l) (cx2 l):=by
 have h0:=h
 obtain ⟨h1,⟨rfl,h3⟩|⟨g,cap,cur,rfl,hb,hg,hnc,hcm,hcs,htake⟩⟩:=h0
 ·exact .inl ⟨h3,none,0,rfl⟩
 ·refine .inr ⟨g,cap,rfl,?_,hnc,fun i hi=>?_⟩
  ·exact (h.lt g rfl).2
  ·have h3:=capC_at l i hi
   have hc:∀ j u,(capC l)[j]?=some u→w.cell? ⟨g,j,none⟩=some u:=fun j u hj=>by
    have:=h.cells (g:=g) rfl j u hj
    rwa [add_none',Nat.zero_add] at this
   exact ⟨hc _ _ h3.1,hc _ _ h3.2.1,hc _ _ h3.2.2⟩
theorem cx_at {l:List (Bool × Nat × Nat)} {i:Nat} (h:i<l.length):l[i]?=some (cx0 l i,(cx1 l i).toNat,(cx2 l i).toNat):=by
 unfold cx0 cx1 cx2
 rw [List.getElem?_eq_getElem h,gtD h]
 simp
def OwB (w:World) (B:Nat) (v:Value) (L:List UInt8):Prop:=w.ownsRow B 5 1 v L.length (Lib.byteCells L)
theorem ow_byt {w:World} {B:Nat} {v:Value} {L:List UInt8} (h:OwB w B v L) (hv:v≠ .slice none 0 0):Byt w v (L.map fun b=>((b.toNat:Nat):Int)):=by
 refine byt_owns (base:=B) ?_ hv
 rw [List.length_map,List.map_map]
 exact h
theorem ow_string {w:World} {B:Nat} {v:Value} {L:List UInt8} (h:OwB w B v L):(convert 43 9 v).run Tryz.prog w=.ok (.string ⟨L.toArray⟩) w:=by
 by_cases hv:v=.slice none 0 0
 ·subst hv
  obtain ⟨h1,⟨_,h2⟩|⟨g,cap,cur,e,_⟩⟩:=h
  ·have hL:L=[]:=List.eq_nil_of_length_eq_zero h2
   subst hL
   exact run_convert_bytes_nil w 43 5 Tryz.underlying43 Tryz.underlying5 0 0 9 Tryz.underlying9
  ·simp at e
 ·exact byt_string (ow_byt h hv)
theorem app_grown {wr w':World} {v:Value} {base:Nat} {L:List UInt8} (hown:OwB wr base v L) (hbase:base≤wr.heap.size) (h3:wr.grownBy w' v.ownBlock):
 (∀ B w0,Below B w0 wr→B≤base→Below B w0 w')∧∀ gx,gx<wr.heap.size→v.ownBlock≠some gx→w'.heap[gx]?=wr.heap[gx]?:=
 ⟨fun B w0 hb hB=>hb.grown h3 (by omega) (fun q hq=>by have:=(World.ownsRow.lt hown q hq).1;omega),fun gx hgx hne=>h3.block gx hgx (fun e=>hne e.symm)⟩
theorem app_cells {w':World} {v':Value} {base:Nat} {L:List UInt8} {s:ByteArray} (h2:w'.ownsRow base 5 1 v' (L.length+s.size) (Lib.byteCells L++Lib.strCells s)):OwB w' base v' (L++s.data.toList):=by
 unfold OwB
 rw [List.length_append,Lib.byteCells_append]
 exact h2
theorem app_str {wr:World} {ops:Array Oper} {rest:List Oper} {o:Oper} {a:Act} {Q:Exit→Act→World→Prop} (hgd:o.guard=none) (sl x:Operand)
 (ho:o.op=.call { callee:=.builtin .append,args:=#[sl,x],argTypes:=#[43,9] }) (base:Nat) (v:Value) (L:List UInt8) (s:ByteArray) (hown:OwB wr base v L) (hs:a.eval sl=v) (hx:a.eval x=.string s)
 (hlen:L.length+s.size≤140737488355328) (hbase:base≤wr.heap.size)
 (h:∀ v' w',OwB w' base v' (L++s.data.toList)→(v≠ .slice none 0 0→v'≠ .slice none 0 0)→(∀ B w0,Below B w0 wr→B≤base→Below B w0 w')→(∀ gx,gx<wr.heap.size→v.ownBlock≠some gx→w'.heap[gx]?=wr.heap[gx]?)→wpList Tryz.prog ops Q rest (a.put o.dst v') w'):
 wpList Tryz.prog ops Q (o::rest) a wr:=by
 obtain ⟨i0,hi,hz0,hz1,hz2⟩:=info_parts info_u8
 refine Lib.wpList_append_own_string _ hgd sl x 43 9 ho base 5 i0 Tryz.underlying43 Tryz.underlying9 hi hz0 hz1 hz2 v L.length (Lib.byteCells L) hs hown s hx (by unfold maxLen;omega) hlen hbase ?_
 intro v' w' h2 h3 h4
 obtain ⟨g1,g2⟩:=app_grown hown hbase h3
 exact h v' w' (app_cells h2) (fun hn e=>hn (h4.1 e).1) g1 g2
theorem app_str_op {wr:World} {o:Oper} {a:Act} {K:Act→World→Prop} {Q:Exit→Act→World→Prop} (sl x:Operand)
 (ho:o.op=.call { callee:=.builtin .append,args:=#[sl,x],argTypes:=#[43,9] }) (base:Nat) (v:Value) (L:List UInt8) (s:ByteArray) (hown:OwB wr base v L) (hs:a.eval sl=v) (hx:a.eval x=.string s)
 (hlen:L.length+s.size≤140737488355328) (hbase:base≤wr.heap.size)
 (h:∀ v' w',OwB w' base v' (L++s.data.toList)→(v≠ .slice none 0 0→v'≠ .slice none 0 0)→(∀ B w0,Below B w0 wr→B≤base→Below B w0 w')→(∀ gx,gx<wr.heap.size→v.ownBlock≠some gx→w'.heap[gx]?=wr.heap[gx]?)→K (a.put o.dst v') w'):
 Oper.wp Tryz.prog o a wr K Q:=by
 obtain ⟨i0,hi,hz0,hz1,hz2⟩:=info_parts info_u8
 obtain ⟨v',w',hr,h2,h3,h4⟩:=Lib.run_append_own_string (P:=Tryz.prog) wr base 43 9 o.type 5 i0 Tryz.underlying43 Tryz.underlying9 hi hz0 hz1 hz2 v L.length (Lib.byteCells L) hown s (by unfold maxLen;omega) hlen hbase
 obtain ⟨g1,g2⟩:=app_grown hown hbase h3
 unfold Oper.wp execOp
 simp only [ho,resolve,invoke,builtin,Sem.run_bind,Sem.run_pure,Result.andThen_ok,List.map_toArray,List.map_cons,List.map_nil,hs,hx,hr]
 exact h v' w' (app_cells h2) (fun hn e=>hn (h4.1 e).1) g1 g2
theorem app_b {wr:World} {ops:Array Oper} {rest:List Oper} {o:Oper} {a:Act} {Q:Exit→Act→World→Prop} (hgd:o.guard=none) (sl x:Operand)
 (ho:o.op=.call { callee:=.builtin .append,args:=#[sl,x],argTypes:=#[43,43] }) (base:Nat) (v:Value) (L:List UInt8) (c:UInt8) (hown:OwB wr base v L) (hs:a.eval sl=v) (hx:a.eval x=.slice (some ⟨wr.heap.size,0,none⟩) 1 1)
 (hlen:L.length+1≤140737488355328) (hbase:base≤wr.heap.size)
 (h:∀ v' w',OwB w' base v' (L++[c])→v'≠ .slice none 0 0→(∀ B w0,Below B w0 wr→B≤base→Below B w0 w')→(∀ gx,gx<wr.heap.size→v.ownBlock≠some gx→w'.heap[gx]?=wr.heap[gx]?)→wpList Tryz.prog ops Q rest (a.put o.dst v') w'):
 wpList Tryz.prog ops Q (o::rest) a (wr.alloc (.cells #[.int .u8 (c.toNat:Int)] 5)):=by
 refine app_new hgd sl x 43 5 1 1 _ ho Tryz.underlying43 info_u8 rfl (by omega) base v L.length (Lib.byteCells L) [.int .u8 (c.toNat:Int)] hown hs hx rfl (fun u hu=>by simp at hu;subst hu;rfl) (by omega) (by omega) hbase ?_
 intro v' w' h1 h2 h3 h4
 refine h v' w' ?_ h2 h3 h4
 unfold OwB
 rw [List.length_append,Lib.byteCells_append]
 exact h1
def cutL (s:ByteArray) (a b:Nat):List UInt8:=(s.extract a b).data.toList
theorem cutL_len {s:ByteArray} {a b:Nat} (h:a≤b) (h2:b≤s.size):(cutL s a b).length=b-a:=by
 rw [cutL,Array.length_toList]
 show (s.extract a b).size=_
 rw [ByteArray.size_extract];omega
def hdl (s:ByteArray) (f:Fd):Nat→List UInt8
 |0=>cutL s f.fr f.en
 |n+1=>match f.caps[n]? with
  |some c=>if c.1=true then Lib.itoa ((c.2.1+1:Nat):Int) else cutL s c.2.1 c.2.2
  |none=>[]
def stp (s:ByteArray) (ps:List Pc) (x:List UInt8 × Nat) (f:Fd):List UInt8 × Nat:=(x.1++cutL s x.2 f.fr++fil (hdl s f) ps,f.en)
def stW (s:ByteArray) (ps:List Pc) (fs:List Fd):List UInt8 × Nat:=fs.foldl (stp s ps) ([],0)
theorem stW_snoc (s:ByteArray) (ps:List Pc) (fs:List Fd) (f:Fd):stW s ps (fs++[f])=stp s ps (stW s ps fs) f:=by simp [stW]
theorem foldl_le (s:ByteArray) (ps:List Pc):∀ (r:List Fd) (x:List UInt8 × Nat),x.1.length≤(r.foldl (stp s ps) x).1.length
 | [],x=>Nat.le_refl _
 |f::r,x=>by
  have:=foldl_le s ps r (stp s ps x f)
  simp only [List.foldl_cons]
  have h2:x.1.length≤(stp s ps x f).1.length:=by simp [stp]
  omega
theorem stW_le (s:ByteArray) (ps:List Pc) (fs r:List Fd):(stW s ps fs).1.length≤(stW s ps (fs++r)).1.length:=by
 unfold stW
 rw [List.foldl_append]
 exact foldl_le s ps r _
def whW (s:ByteArray) (ps:List Pc) (fs:List Fd):List UInt8:=(stW s ps fs).1++cutL s (stW s ps fs).2 s.size
def gsE (s:ByteArray) (ps:List Pc) (fs:List Fd):ByteArray × Nat × Int:=if 65536<(whW s ps fs).length then (⟨#[]⟩,0,6) else (⟨(whW s ps fs).toArray⟩,fs.length,0)
end Go.Proofs.YtlgodacccilabaaGreatDoor
