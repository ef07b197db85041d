import Derived.Test.YtjibjahfbblieaaGreatDoorKBE
import Derived.Test.YtjibjahfbblieaaGreatDoorKMK2
import Derived.Test.YtjibjahfbblieaaGreatDoorKBO
import Derived.Test.YtjibjahfbblieaaGreatDoorKP1M7
import Derived.Test.YtjibjahfbblieaaGreatDoorKP1A4
import Derived.Deep.WholeRow
import Derived.Deep.MidRow
import Derived.Laws.ResultCell
import Derived.Test.YtjibjahfbblieaaGreatDoorRows
import Derived.Test.YtjibjahfbblieaaGreatDoorCards
import Derived.Lay
import Derived.SevenTiedAt
namespace Go.Proofs.YtjibjahfbblieaaGreatDoor
open Go Go.RowKit
set_option linter.unusedVariables false
def bL (w:World) (base:Nat) (v:Value) (L:List Int):Prop:=w.ownsRow base 5 1 v L.length (L.map (Value.int .u8))/\v≠ .slice none 0 0
theorem rO (w:World):bL (w.alloc (.cells #[] 5)) w.heap.size (.slice (some ⟨w.heap.size,0,none⟩) 0 0) []:=
 ⟨World.ownsRow_made w #[] 0 (Nat.le_refl _) (by simp [maxLen]) rfl,fun h=>by cases h⟩
theorem Dv (wr:World) (u0:Value):∀ j u,[u0][j]?=some u->(wr.alloc (.cells #[u0] 5)).cell? ((⟨wr.heap.size,0,none⟩:Addr).add j)=some u:=by
 intro j u hj
 match j,hj with
 |0,hj=>simp at hj;subst hj;simp [Addr.add]
theorem nQ {wr:World} {ops:Array Oper} {rest:List Oper} {o:Oper} {a:Act} {Q:Exit->Act->World->Prop} (hgd:o.guard=none) (s x:Operand)
 (ho:o.op=.call { callee:=.builtin .append,args:=#[s,x],argTypes:=#[35,35] }) (base:Nat) (v:Value) (L:List Int) (z:Int) (hown:bL wr base v L) (hs:a.eval s=v) (hx:a.eval x=.slice (some ⟨wr.heap.size,0,none⟩) 1 1)
 (hlen:L.length<=100000000000000) (hbase:base<=wr.heap.size)
 (h:∀ v' w',bL w' base v' (L++[z])->(∀ B w0,Below B w0 wr->B<=base->Below B w0 w')->(∀ gx,gx<wr.heap.size->v.ownBlock≠some gx->w'.heap[gx]?=wr.heap[gx]?)->wpList Tryz.prog ops Q rest (a.put o.dst v') w'):
 wpList Tryz.prog ops Q (o::rest) a (wr.alloc (.cells #[.int .u8 z] 5)):=by
 obtain ⟨i0,hi,hz0,hz1,hz2⟩:=info_parts Tryz.info5
 refine wpList_append_own _ hgd s x 35 ho base 5 i0 (.int .u8 0) 1 1 Tryz.underlying35 hi hz0 hz1 hz2 rfl (by decide) v L.length (L.map (Value.int .u8)) hs (hown.1.alloc _) ⟨wr.heap.size,0,none⟩ 1 1 [.int .u8 z] hx rfl (Dv _ _)
  (fun u hu=>by simp at hu;subst hu;rfl) (by unfold maxLen;omega) (by omega) (by simp;omega) ?_
 intro v' w' h1 h2 h3
 refine h v' w' ⟨by simpa using h1,fun hh=>hown.2 (h3.1 hh).1⟩ (fun B w0 hb hB=>(hb.alloc (by omega) _).grown h2 (by simp;omega) (fun q hq=>?_))
  (fun gx hgx hne=>(h2.block gx (by simp;omega) (fun e=>hne e.symm)).trans ((b_1 wr _).block gx hgx))
 have:=(hown.1.lt q hq).1
 omega
def leI (n:Nat) (U:Int):List Int:=(List.range n).map fun j=>U/256^j%256
theorem Gw (n:Nat) (U:Int):leI n U++[U/256^n%256]=leI (n+1) U:=by
 simp [leI,List.range_succ]
theorem bO (n:Nat) (U:Int):(leI n U).length=n:=by simp [leI]
theorem le_next (U:Int) (i:Nat):U/256^i/256=U/256^(i+1):=by
 rw [Int.ediv_ediv_of_nonneg (by exact Int.pow_nonneg (by omega)),Int.pow_succ]
theorem Jz {T:Int} (h0:0<=T) (h1:T<18446744073709551616):IntKind.u64.wrap (T.tdiv 256)=T/256:=by
 rw [Int.tdiv_eq_ediv_of_nonneg h0,IntKind.wrap_u64]
 omega
set_option maxHeartbeats 1600000 in
set_option maxRecDepth 100000 in
theorem bV (v:Int) (n:Nat) (w:World) (hn:n<=8):
 Calls Tryz.prog 26 #[.int .i64 v,.int .i64 n] w fun e w'=>∃ v',e=.returned v'/\bL w' w.heap.size v' (leI n (IntKind.u64.wrap v))/\Below w.heap.size w w':=by
 have hU:0<=IntKind.u64.wrap v/\IntKind.u64.wrap v<18446744073709551616:=by rw [IntKind.wrap_u64];omega
 have HU:=hide hU
 clear hU
 go_enter Tryz.func26,Tryz.ntmps26
 go_wp2
 generalize hUv:IntKind.u64.wrap v=U at *
 have HUv:=hide hUv
 clear hUv
 go_loopw [5,6,7] (fun uv ov kv wr=>∃ i:Nat,i<=n/\kv=.int .i64 i/\uv=.int .u64 (U/256^i)/\bL wr w.heap.size ov (leI i U)/\Below w.heap.size w wr) (fun _ _ kv _=>match kv with | .int _ x=>n-x.toNat|_=>0)
 case atStart=>exact ⟨0,by omega,rfl,by simp,rO w,(Below.refl _ _).alloc (Nat.le_refl _) _⟩
 case round=>
  obtain ⟨i,hi9,rfl,rfl,hown,hbw⟩:=hrel
  by_cases hin:i<n
  ·have hnext:=le_next U i
   have HN:=hide hnext
   clear hnext
   have hq0:0<=U/256^i:=Int.ediv_nonneg HU.out.1 (Int.pow_nonneg (by omega))
   have HT1:=hide (Int.lt_of_le_of_lt (Int.ediv_le_self (256^i) HU.out.1) HU.out.2)
   have hl:=bO i U
   have HL:=hide (Gw i U)
   generalize U/256^i=T at *
   go_wp2_with (first
    |(at_builtin;refine nQ rfl _ _ rfl w.heap.size _ (leI i U) (T%256) hown rfl rfl (by omega) hbw.size ?_;intro v' w1 hown' hgrow _)
    |go_in)
   go_roundw
   case rel=>exact ⟨i+1,by omega,by simp,by rw [<-HN.out,Jz hq0 HT1.out],by rw [<-HL.out];exact hown',hgrow _ _ hbw (Nat.le_refl _)⟩
   case measure=>simp;omega
  ·obtain rfl:i=n:=by omega
   go_wp2
   go_ret
   refine ⟨_,rfl,?_,hbw⟩
   rw [HUv.out]
   exact hown
def ND (p:PV):Prop:=p.params<=180/\p.params<=p.regs/\inI p.regs 1 250=true/\p.nu<=60/\p.nc<=4000/\inI (p.ni:Int) 1 20000=true
def N8 (p:PV):Prop:=p.params=0/\p.dots=true/\p.nu=0
def vY (n:Nat) (P:Nat->PV) (k:Nat):Prop:=fU (P k)/\ND (P k)/\(k+1=n->N8 (P k))
def iw (n:Nat) (P:Nat->PV):Prop:=∀ k,k<n->(P k).bitsOk
end Go.Proofs.YtjibjahfbblieaaGreatDoor
namespace Go.Proofs.YtjibjahfbblieaaGreatDoor.F
open Go Go.RowKit
set_option linter.unusedVariables false
theorem rD (l r:List Int):dval l<=dval (l++r):=by
 have key:∀ (r:List Int) (a:Nat),a<=r.foldl (fun a c=>a*10+(c-48).toNat) a:=by
  intro r
  induction r with
  |nil=>intro a;exact Nat.le_refl _
  |cons c r ih=>intro a;exact Nat.le_trans (show a<=a*10+(c-48).toNat by omega) (ih _)
 unfold dval
 rw [List.foldl_append]
 exact key r _
theorem wN (l:List Int) (k:Nat):dval (l.take k)<=dval l:=by
 have:=rD (l.take k) (l.drop k)
 rwa [List.take_append_drop] at this
end Go.Proofs.YtjibjahfbblieaaGreatDoor.F
namespace Go.Proofs.YtjibjahfbblieaaGreatDoor.F
open Go Go.RowKit
set_option linter.unusedVariables false
def ED (f:Bool) (i:Int) (b:Int):Value:=.agg #[.bool f,.int .i64 i,.int .u64 b]
def QE (s:ByteArray):Value:=.tuple #[ED false (if JV (bs s)=true then wrap64 (QT (bs s)) else 0) 0,.bool (JV (bs s)&&decide (0<s.size))]
end Go.Proofs.YtjibjahfbblieaaGreatDoor.F
namespace Go.Proofs.YtjibjahfbblieaaGreatDoor.F
open Go Go.RowKit
set_option linter.unusedVariables false
theorem Tryz.info5:(Tryz.prog.info? 5).map (fun i=>(i.zero,i.size,i.bytes))=some (some (.int .u8 0),1,1):=by kernel_rfl
def eG (w:World) (base:Nat) (v:Value) (L:List Int):Prop:=w.ownsRow base 5 1 v L.length (L.map (Value.int .u8))/\v≠ .slice none 0 0
theorem eG.byt {w:World} {base:Nat} {v:Value} {L:List Int} (h:eG w base v L):mg w v L:=by
 obtain ⟨⟨h1,h2⟩,hv⟩:=h
 rcases h2 with ⟨rfl,_⟩|⟨g,cap,cur,rfl,hB,hh,hn,hc,hs,ht⟩
 ·exact absurd rfl hv
 ·have hown:w.ownsRow base 5 1 (.slice (some ⟨g,0,none⟩) L.length cap) L.length (L.map (Value.int .u8)):=⟨h1,.inr ⟨g,cap,cur,rfl,hB,hh,hn,hc,hs,ht⟩⟩
  refine ⟨g,cap,rfl,hn,hc,(hown.lt g rfl).2,fun j hj=>?_⟩
  rw [hown.cellAt j (by omega),List.getElem?_map,List.getElem?_eq_getElem hj,getD_lt hj];rfl
theorem mZ (w:World):eG (w.alloc (.cells #[] 5)) w.heap.size (.slice (some ⟨w.heap.size,0,none⟩) 0 0) []:=
 ⟨World.ownsRow_made w #[] 0 (Nat.le_refl _) (by simp [maxLen]) rfl,fun h=>by cases h⟩
theorem Fj (wr:World) (u0:Value):∀ j u,[u0][j]?=some u->(wr.alloc (.cells #[u0] 5)).cell? ((⟨wr.heap.size,0,none⟩:Addr).add j)=some u:=by
 intro j u hj
 match j,hj with
 |0,hj=>simp at hj;subst hj;simp [Addr.add]
def xW:Value:=.tuple #[ED false 0 0,.bool false]
def gJ (N:Nat) (E:Int) (r:Value):Prop:=∃ W,aB N E W/\r=if W=ak then xW else .tuple #[ED true 0 W,.bool true]
def oN (l:List Int) (r:Value):Prop:=
 if (aY (l.take (lF l))).1=[]∨1<(aY (l.take (lF l))).2.2 then r=xW
 else if lF l=l.length/\(aY (l.take (lF l))).2.2=0/\dval (aY (l.take (lF l))).1<9223372036854775808 then r=.tuple #[ED false (dval (aY (l.take (lF l))).1) 0,.bool true]
 else match (if lF l<l.length then Ib (l.drop (lF l)) else some 0) with
  |none=>r=xW
  |some x=>gJ (dval (aY (l.take (lF l))).1) (x-(aY (l.take (lF l))).2.1) r
def AA (l:List Int):Bool:=decide (1<l.length)&&l.getD 0 0==48&&(l.getD 1 0==120||l.getD 1 0==88)
def su (s:ByteArray) (r:Value):Prop:=
 if 100<s.size then r=xW else if AA (bs s)=true then r=QE (s.extract 2 s.size) else oN (bs s) r
end Go.Proofs.YtjibjahfbblieaaGreatDoor.F
namespace Go.Proofs.YtjibjahfbblieaaGreatDoor.F
open Go Go.RowKit
set_option linter.unusedVariables false
theorem oD {s:ByteArray} {k b p:Nat} {ds:List Int} (hk:k<s.size) (h:aY ((bs s).take k)=(ds,b,p)) (hd:MQ ((s[k].toNat:Nat):Int)=true):
 aY ((bs s).take (k+1))=(ds++[((s[k].toNat:Nat):Int)],b+p,p):=by
 rw [ng (by rw [bD];exact hk),h,aA hk]
 unfold aX
 rw [if_neg]
 intro e
 simp [MQ] at hd
 omega
theorem kC {s:ByteArray} {k b p:Nat} {ds:List Int} (hk:k<s.size) (h:aY ((bs s).take k)=(ds,b,p)) (hd:((s[k].toNat:Nat):Int)=46):
 aY ((bs s).take (k+1))=(ds,b,p+1):=by
 rw [ng (by rw [bD];exact hk),h,aA hk]
 unfold aX
 rw [if_pos hd]
structure DecEnd (s:ByteArray) (k b p:Nat) (ds:List Int):Prop where
 hm:lF (bs s)=k
 hs:aY ((bs s).take k)=(ds,b,p)
 hd:∀ c∈ds,48<=c/\c<=57
theorem DecEnd.behind {s:ByteArray} {k b p:Nat} {ds:List Int} (h:DecEnd s k b p ds) (hp:p<=1):b<=ds.length:=by
 have:=sH (l:=(bs s).take k) (by rw [h.hs];exact hp)
 rwa [h.hs] at this
theorem M_ {N d W:Nat} (h:aC N d W):W<=ak:=by obtain ⟨k,_,_,rfl⟩:=h;exact Nat.min_le_right _ _
end Go.Proofs.YtjibjahfbblieaaGreatDoor.F
namespace Go.Proofs.YtjibjahfbblieaaGreatDoor.F
open Go Go.RowKit
set_option linter.unusedVariables false
theorem gJ.unique {N:Nat} {E:Int} {r r':Value} (h:gJ N E r) (h':gJ N E r'):r=r':=by
 obtain ⟨W,h1,rfl⟩:=h
 obtain ⟨W',h1',rfl⟩:=h'
 have:W=W':=aC.unique h1 h1'
 rw [this]
theorem su.unique {s:ByteArray} {r r':Value} (h:su s r) (h':su s r'):r=r':=by
 unfold su at h h'
 split at h
 ·rename_i c;rw [if_pos c] at h';rw [h,h']
 ·rename_i c
  rw [if_neg c] at h'
  split at h
  ·rename_i c2;rw [if_pos c2] at h';rw [h,h']
  ·rename_i c2
   rw [if_neg c2] at h'
   unfold oN at h h'
   split at h
   ·rename_i c3;rw [if_pos c3] at h';rw [h,h']
   ·rename_i c3
    rw [if_neg c3] at h'
    split at h
    ·rename_i c4;rw [if_pos c4] at h';rw [h,h']
    ·rename_i c4
     rw [if_neg c4] at h'
     split at h
     ·rename_i c5;rw [c5] at h';rw [h];exact h'.symm
     ·rename_i x c5;rw [c5] at h';exact gJ.unique h h'
end Go.Proofs.YtjibjahfbblieaaGreatDoor.F
namespace Go.Proofs.YtjibjahfbblieaaGreatDoor
open Go Go.RowKit
set_option linter.unusedVariables false
def QG (i j:Nat):Value:=.int .u32 (if j<i then ((iV 8 j:Nat):Int) else 0)
def Rx (i:Nat):Array Value:=Array.ofFn (n:=256) fun j=>QG i j.val
end Go.Proofs.YtjibjahfbblieaaGreatDoor
namespace Go.Proofs.YtjibjahfbblieaaGreatDoor
open Go
set_option maxRecDepth 100000
theorem Jl:Tryz.f3.isWrapper Tryz.prog Rows.fnExactListRow.wrapper Rows.fnExactListRow.mainSum:=by unfold Func.isWrapper;first |(rw [if_pos (by decide+kernel)];kernel_rfl)|(rw [if_neg (by decide+kernel)];exact ⟨rfl,rfl⟩)
end Go.Proofs.YtjibjahfbblieaaGreatDoor
