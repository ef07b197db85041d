import Derived.Laws.BitsAllLaws
import Derived.Lib.Strings
import Derived.Test.YtamdnnkdnhkghaaGreatDoorQ04
import Derived.Test.YtamdnnkdnhkghaaGreatDoorQ05
import Derived.Test.YtamdnnkdnhkghaaGreatDoorQ06
set_option maxHeartbeats 12800000
set_option maxRecDepth 100000
set_option linter.unusedVariables false
namespace Go.Proofs.YtamdnnkdnhkghaaGreatDoor
open Go Go.RowKit
theorem zm8 (s:ByteArray) (w:World) (hs:s.size<=100) (h0:0<s.size):
 Rs 117 #[.string s] w (optR (expV (bs s))):=by
 have hg:=zaf h0
 have hbt:=zeT s
 have hbt2:=zkw s
 by_cases hL:((s[0].toNat:Nat):Int)=101∨((s[0].toNat:Nat):Int)=69
 ·have HV:Hid (expV (bs s)=expS ((bs s).drop 1)):=hide (by unfold expV;rw [hg,if_pos hL])
  by_cases hs1:s.size<=1
  ·have HV0:Hid (expV (bs s)=none):=hide (by
    rw [HV.out]
    have e:(bs s).drop 1=[]:=List.drop_eq_nil_of_le (by rw [zad];omega)
    rw [e];rfl)
   by_cases hE:((s[0].toNat:Nat):Int)=101
   ·exact zrA s w h0 hs1 (by rw [hE];rfl) HV0
   exact zsj s w h0 hs1 (by rw [bne_iff_ne];exact hE) (by rw [hL.resolve_left hE];rfl) HV0
  have hx:0<(s.extract 1 s.size).size:=by rw [zaY];omega
  have hg1:=zaf hx
  rw [hbt] at hg1
  have hs2:2<=s.size:=by omega
  by_cases m1:(((s.extract 1 s.size)[0]'hx).toNat:Int)=45
  ·have HB:Hid (expS ((bs s).drop 1)=(expB (bs ((s.extract 1 s.size).extract 1 (s.size-1)))).map (fun x=> -x)):=hide (by unfold expS;rw [hg1,if_pos m1,hbt2])
   by_cases hE:((s[0].toNat:Nat):Int)=101
   ·exact ztk s w hs h0 hs2 hx (by rw [hE];rfl) (by rw [m1];rfl) HV HB
   exact zsP s w hs h0 hs2 hx (by rw [bne_iff_ne];exact hE) (by rw [hL.resolve_left hE];rfl) (by rw [m1];rfl) HV HB
  have b1:((((s.extract 1 s.size)[0]'hx).toNat:Int)==45)=false:=by rw [beq_eq_false_iff_ne];exact m1
  by_cases m2:(((s.extract 1 s.size)[0]'hx).toNat:Int)=43
  ·have HB:Hid (expS ((bs s).drop 1)=expB (bs ((s.extract 1 s.size).extract 1 (s.size-1)))):=hide (by unfold expS;rw [hg1,if_neg m1,if_pos m2,hbt2])
   by_cases hE:((s[0].toNat:Nat):Int)=101
   ·exact zsK s w hs h0 hs2 hx (by rw [hE];rfl) b1 (by rw [m2];rfl) HV HB
   exact zrI s w hs h0 hs2 hx (by rw [bne_iff_ne];exact hE) (by rw [hL.resolve_left hE];rfl) b1 (by rw [m2];rfl) HV HB
  have b2:((((s.extract 1 s.size)[0]'hx).toNat:Int)==43)=false:=by rw [beq_eq_false_iff_ne];exact m2
  have HB:Hid (expS ((bs s).drop 1)=expB (bs (s.extract 1 s.size))):=hide (by unfold expS;rw [hg1,if_neg m1,if_neg m2,hbt])
  by_cases hE:((s[0].toNat:Nat):Int)=101
  ·exact zrN s w hs h0 hs2 hx (by rw [hE];rfl) b1 b2 HV HB
  exact zsF s w hs h0 hs2 hx (by rw [bne_iff_ne];exact hE) (by rw [hL.resolve_left hE];rfl) b1 b2 HV HB
 have hE1:(((s[0].toNat:Nat):Int) !=101)=true:=by rw [bne_iff_ne];omega
 have hE3:(((s[0].toNat:Nat):Int) !=69)=true:=by rw [bne_iff_ne];omega
 have HV:Hid (expV (bs s)=none):=hide (by unfold expV;rw [hg,if_neg hL])
 clear hg hbt hbt2 hL
 go_enter Tryz.func117,Tryz.ntmps117
 go_wp2
 go_ret2
 refine ⟨?_,rfl⟩
 rw [HV.out,optR_none]
 rfl
def isDP (c:Int):Bool:=zax c||c==46
def dstep (s:List Int × Nat × Nat) (c:Int):List Int × Nat × Nat:=if c=46 then (s.1,s.2.1,s.2.2+1) else (s.1++[c],s.2.1+s.2.2,s.2.2)
def dscan (l:List Int):List Int × Nat × Nat:=l.foldl dstep ([],0,0)
theorem zeI {l:List Int} {k:Nat} (h:k<l.length):dscan (l.take (k+1))=dstep (dscan (l.take k)) (l.getD k 0):=by
 unfold dscan
 rw [List.take_succ_eq_append_getElem h,List.foldl_append,zaz h]
 rfl
def mlen:List Int->Nat
 | []=>0
 |c::r=>if isDP c=true then mlen r+1 else 0
theorem zji {l:List Int} {k:Nat} (hk:k<=l.length) (h:∀ j,j<k->isDP (l.getD j 0)=true) (he:k=l.length∨isDP (l.getD k 0)=false):mlen l=k:=by
 induction l generalizing k with
 |nil=>simp at hk;subst hk;rfl
 |cons c r ih=>
  cases k with
  |zero=>
   rcases he with he|he
   ·simp at he
   have:isDP c=false:=by simpa using he
   simp [mlen,this]
  |succ k=>
   have h0:isDP c=true:=by simpa using h 0 (by omega)
   have hr:=ih (k:=k) (by simpa using hk) (fun j hj=>by simpa using h (j+1) (by omega)) (by
    rcases he with he|he
    ·left;simpa using he
    right;simpa using he)
   simp [mlen,h0,hr]
theorem zl6 (l:List Int):(dscan l).1.length<=l.length/\(dscan l).2.2<=l.length:=by
 have key:∀ (l:List Int) (s:List Int × Nat × Nat),(l.foldl dstep s).1.length<=s.1.length+l.length/\(l.foldl dstep s).2.2<=s.2.2+l.length:=by
  intro l
  induction l with
  |nil=>intro s;simp
  |cons c r ih=>
   intro s
   have:=ih (dstep s c)
   simp only [List.foldl_cons,List.length_cons]
   unfold dstep at this ⊢
   split at this
   ·rename_i h;rw [if_pos h];simp at this ⊢;omega
   rename_i h;rw [if_neg h];simp at this ⊢;omega
 have:=key l ([],0,0)
 unfold dscan
 simpa using this
theorem ze4 {l:List Int} (h:∀ c∈l,isDP c=true):∀ c∈(dscan l).1,48<=c/\c<=57:=by
 have key:∀ (l:List Int) (s:List Int × Nat × Nat),(∀ c∈l,isDP c=true)->(∀ c∈s.1,48<=c/\c<=57)->∀ c∈(l.foldl dstep s).1,48<=c/\c<=57:=by
  intro l
  induction l with
  |nil=>intro s _ hs;exact hs
  |cons c r ih=>
   intro s hl hs
   refine ih (dstep s c) (fun x hx=>hl x (by simp [hx])) ?_
   unfold dstep
   split
   ·exact hs
   rename_i hc
   intro x hx
   rcases List.mem_append.1 hx with hx|hx
   ·exact hs x hx
   have hxc:x=c:=by simpa using hx
   have h1:=hl c (by simp)
   rw [hxc]
   simp [isDP,zax,hc] at h1
   exact h1
 exact key l ([],0,0) h (fun c hc=>by cases hc)
theorem zgZ {l:List Int} (h:(dscan l).2.2<=1):(dscan l).2.1<=(dscan l).1.length:=by
 have key:∀ (l:List Int) (s:List Int × Nat × Nat),(l.foldl dstep s).2.2<=1->s.2.1<=s.1.length->s.2.2<=(l.foldl dstep s).2.2/\(l.foldl dstep s).2.1<=(l.foldl dstep s).1.length:=by
  intro l
  induction l with
  |nil=>intro s _ h;exact ⟨Nat.le_refl _,h⟩
  |cons c r ih=>
   intro s h1 h2
   have mono:∀ (r:List Int) (s:List Int × Nat × Nat),s.2.2<=(r.foldl dstep s).2.2:=by
    intro r
    induction r with
    |nil=>intro s;exact Nat.le_refl _
    |cons c r ih=>intro s;refine Nat.le_trans ?_ (ih (dstep s c));unfold dstep;split<;>simp
   have hm:=mono r (dstep s c)
   simp only [List.foldl_cons] at h1 ⊢
   have h3:(dstep s c).2.1<=(dstep s c).1.length:=by
    unfold dstep at hm ⊢
    split
    ·exact h2
    rename_i hc;rw [if_neg hc] at hm;simp at hm ⊢;have:s.2.2<=1:=by unfold dstep at h1;rw [if_neg hc] at h1;omega
    omega
   have h4:=ih (dstep s c) h1 h3
   refine ⟨Nat.le_trans ?_ h4.1,h4.2⟩
   unfold dstep;split<;>simp
 exact (key l ([],0,0) h (by simp)).2
theorem Tryz.info5:(Tryz.prog.info? 5).map (fun i=>(i.zero,i.size,i.bytes))=some (some (.int .u8 0),1,1):=by kernel_rfl
def OwnB (w:World) (base:Nat) (v:Value) (L:List Int):Prop:=w.ownsRow base 5 1 v L.length (L.map (Value.int .u8))/\v≠ .slice none 0 0
theorem OwnB.byt {w:World} {base:Nat} {v:Value} {L:List Int} (h:OwnB w base v L):Byt w v L:=by
 obtain ⟨⟨h1,h2⟩,hv⟩:=h
 rcases h2 with ⟨rfl,_⟩|⟨g,cap,cur,rfl,hB,hh,hn,hc,hs,ht⟩
 ·exact absurd rfl hv
 have hown:w.ownsRow base 5 1 (.slice (some ⟨g,0,none⟩) L.length cap) L.length (L.map (Value.int .u8)):=⟨h1,.inr ⟨g,cap,cur,rfl,hB,hh,hn,hc,hs,ht⟩⟩
 refine ⟨g,cap,rfl,hn,hc,(hown.lt g rfl).2,fun j hj=>?_⟩
 rw [hown.cellAt j (by omega),List.getElem?_map,List.getElem?_eq_getElem hj,zaz hj];rfl
theorem zb3 (w:World):OwnB (w.alloc (.cells #[] 5)) w.heap.size (.slice (some ⟨w.heap.size,0,none⟩) 0 0) []:=
 ⟨World.ownsRow_made w #[] 0 (Nat.le_refl _) (by simp [maxLen]) rfl,fun h=>by cases h⟩
theorem zib (wr:World) (u0:Value):∀ j u,[u0][j]?=some u->(wr.alloc (.cells #[u0] 5)).cell? ((⟨wr.heap.size,0,none⟩:Addr).add j)=some u:=by
 intro j u hj
 match j,hj with
 |0,hj=>simp at hj;subst hj;simp [Addr.add]
theorem zgW {wr:World} {ops:Array Oper} {rest:List Oper} {o:Oper} {a:Act} {Q:Exit->Act->World->Prop} (hgd:o.guard=none) (s x:Operand)
 (ho:o.op=.call { callee:=.builtin .append,args:=#[s,x],argTypes:=#[29,29] }) (base:Nat) (v:Value) (L:List Int) (z:Int) (hown:OwnB wr base v L) (hs:a.eval s=v) (hx:a.eval x=.slice (some ⟨wr.heap.size,0,none⟩) 1 1)
 (hlen:L.length<=10000000000) (hbase:base<=wr.heap.size)
 (h:∀ v' w',OwnB w' base v' (L++[z])->(∀ B w0,Below B w0 wr->B<=base->Below B w0 w')->wpList Tryz.prog ops Q rest (a.put o.dst v') w'):
 wpList Tryz.prog ops Q (o::rest) a (wr.alloc (.cells #[.int .u8 z] 5)):=by
 obtain ⟨i0,hi,hz0,hz1,hz2⟩:=info_parts Tryz.info5
 refine wpList_append_own _ hgd s x 29 ho base 5 i0 (.int .u8 0) 1 1 Tryz.underlying29 hi hz0 hz1 hz2 rfl (by decide) v L.length (L.map (Value.int .u8)) hs (hown.1.alloc _) ⟨wr.heap.size,0,none⟩ 1 1 [.int .u8 z] hx rfl (zib _ _)
  (fun u hu=>by simp at hu;subst hu;rfl) (by unfold maxLen;omega) (by omega) (by simp;omega) ?_
 intro v' w' h1 h2 h3
 refine h v' w' ⟨by simpa using h1,fun hh=>hown.2 (h3.1 hh).1⟩ (fun B w0 hb hB=>(hb.alloc (by omega) _).grown h2 (by simp;omega) (fun q hq=>?_))
 have:=(hown.1.lt q hq).1
 omega
def zeroR:Value:=.tuple #[numV false 0 0,.bool false]
def zbj (N:Nat) (E:Int) (r:Value):Prop:=∃ W,zam N E W/\r=if W=infW then zeroR else .tuple #[numV true 0 W,.bool true]
def DecR (l:List Int) (r:Value):Prop:=
 if (dscan (l.take (mlen l))).1=[]∨1<(dscan (l.take (mlen l))).2.2 then r=zeroR
 else if mlen l=l.length/\(dscan (l.take (mlen l))).2.2=0/\dval (dscan (l.take (mlen l))).1<9223372036854775808 then r=.tuple #[numV false (dval (dscan (l.take (mlen l))).1) 0,.bool true]
 else match (if mlen l<l.length then expV (l.drop (mlen l)) else some 0) with
  |none=>r=zeroR
  |some x=>zbj (dval (dscan (l.take (mlen l))).1) (x-(dscan (l.take (mlen l))).2.1) r
def zcv (l:List Int):Bool:=decide (1<l.length)&&l.getD 0 0==48&&(l.getD 1 0==120||l.getD 1 0==88)
def PNR (s:ByteArray) (r:Value):Prop:=
 if 100<s.size then r=zeroR else if zcv (bs s)=true then r=hexR (s.extract 2 s.size) else DecR (bs s) r
structure ResC (w wr:World):Prop where
 c0:wr.cell? ⟨w.heap.size,0,none⟩=some (.bool false)
 c1:wr.cell? ⟨w.heap.size,1,none⟩=some (.int .i64 0)
 c2:wr.cell? ⟨w.heap.size,2,none⟩=some (.int .u64 0)
 f0:wr.frozen? ⟨w.heap.size,0,none⟩=false
 f1:wr.frozen? ⟨w.heap.size,1,none⟩=false
 f2:wr.frozen? ⟨w.heap.size,2,none⟩=false
theorem resC {w wr:World} (h:Below (w.heap.size+1) (w.alloc (.cells #[.bool false,.int .i64 0,.int .u64 0] 26)) wr):ResC w wr:=by
 refine ⟨?_,?_,?_,?_,?_,?_⟩
 ·rw [h.cell (p:=⟨w.heap.size,0,none⟩) (by simp)];simp
 ·rw [h.cell (p:=⟨w.heap.size,1,none⟩) (by simp)];simp
 ·rw [h.cell (p:=⟨w.heap.size,2,none⟩) (by simp)];simp
 ·rw [h.frozen (p:=⟨w.heap.size,0,none⟩) (by simp)];simp
 ·rw [h.frozen (p:=⟨w.heap.size,1,none⟩) (by simp)];simp
 rw [h.frozen (p:=⟨w.heap.size,2,none⟩) (by simp)];simp
theorem zab {w wr:World} (h:Below (w.heap.size+1) (w.alloc (.cells #[.bool false,.int .i64 0,.int .u64 0] 26)) wr):Below w.heap.size w wr:=
 ((Below.refl _ _).alloc (Nat.le_refl _) _).trans (h.mono (by omega))
def zmC (w:World) (s:ByteArray) (dv bv pv kv:Value) (wr:World):Prop:=
 ∃ (k b p:Nat) (ds:List Int),k<=s.size/\kv=.int .i64 k/\bv=.int .i64 b/\pv=.int .i64 p/\Hid (dscan ((bs s).take k)=(ds,b,p))/\Hid (∀ j,j<k->isDP ((bs s).getD j 0)=true)/\
   b<=k*100/\p<=k/\ds.length<=k/\OwnB wr (w.heap.size+1) dv ds/\Below (w.heap.size+1) (w.alloc (.cells #[.bool false,.int .i64 0,.int .u64 0] 26)) wr
theorem zhE {c:Int} (h:isDig c=true):isDP c=true:=by
 have:zax c=true:=h
 simp [isDP,this]
theorem zi7 {c:Int} (h:isDig c=false) (h2:¬ c=46):isDP c=false:=by
 have:zax c=false:=h
 simp [isDP,this,h2]
theorem zcS {s:ByteArray} {k b p:Nat} {ds:List Int} (hk:k<s.size) (h:dscan ((bs s).take k)=(ds,b,p)) (hd:isDig ((s[k].toNat:Nat):Int)=true):
 dscan ((bs s).take (k+1))=(ds++[((s[k].toNat:Nat):Int)],b+p,p):=by
 rw [zeI (by rw [zad];exact hk),h,zaf hk]
 unfold dstep
 rw [if_neg]
 intro e
 simp [isDig] at hd
 omega
theorem zbA {s:ByteArray} {k b p:Nat} {ds:List Int} (hk:k<s.size) (h:dscan ((bs s).take k)=(ds,b,p)) (hd:((s[k].toNat:Nat):Int)=46):
 dscan ((bs s).take (k+1))=(ds,b,p+1):=by
 rw [zeI (by rw [zad];exact hk),h,zaf hk]
 unfold dstep
 rw [if_pos hd]
theorem zdv {s:ByteArray} {k:Nat} (hk:k<s.size) (h:∀ j,j<k->isDP ((bs s).getD j 0)=true) (hd:isDP ((s[k].toNat:Nat):Int)=true):∀ j,j<k+1->isDP ((bs s).getD j 0)=true:=by
 intro j hj
 by_cases e:j=k
 ·subst e;rw [zaf hk];exact hd
 exact h j (by omega)
structure ze5 (s:ByteArray) (k b p:Nat) (ds:List Int):Prop where
 hm:mlen (bs s)=k
 hs:dscan ((bs s).take k)=(ds,b,p)
 hd:∀ c∈ds,48<=c/\c<=57
theorem zcA {s:ByteArray} {k b p:Nat} {ds:List Int} (hk:k<=s.size) (h:dscan ((bs s).take k)=(ds,b,p)) (ha:∀ j,j<k->isDP ((bs s).getD j 0)=true) (he:k=s.size∨isDP ((bs s).getD k 0)=false):ze5 s k b p ds:=by
 have hl:=zad s
 refine ⟨zji (by omega) ha (by rw [hl];exact he),h,?_⟩
 have:=ze4 (l:=(bs s).take k) (fun c hc=>by
  obtain ⟨i,hi,rfl⟩:=List.getElem_of_mem hc
  rw [List.length_take] at hi
  rw [List.getElem_take]
  have:=ha i (by omega)
  rwa [zaz (by omega)] at this)
 rw [h] at this
 exact this
theorem ze5.behind {s:ByteArray} {k b p:Nat} {ds:List Int} (h:ze5 s k b p ds) (hp:p<=1):b<=ds.length:=by
 have:=zgZ (l:=(bs s).take k) (by rw [h.hs];exact hp)
 rwa [h.hs] at this
theorem zdh {s:ByteArray} {k b p:Nat} {ds:List Int} (h:ze5 s k b p ds) (h1:ds=[]∨1<p):DecR (bs s) zeroR:=by
 unfold DecR;rw [h.hm,h.hs,if_pos h1]
theorem zmc {s:ByteArray} {k b p:Nat} {ds:List Int} (h:ze5 s k b p ds) (h1:¬ (ds=[]∨1<p)) (hk:k=s.size) (hp:p=0) (hN:dval ds<9223372036854775808):
 DecR (bs s) (.tuple #[numV false (dval ds) 0,.bool true]):=by
 unfold DecR;rw [h.hm,h.hs,if_neg h1,if_pos ⟨by rw [zad];exact hk,hp,hN⟩]
theorem zc6 {s:ByteArray} {k b p:Nat} {ds:List Int} {r:Value} (h:ze5 s k b p ds) (h1:¬ (ds=[]∨1<p)) (hk:k=s.size) (hp:p=0->¬ dval ds<9223372036854775808) (hr:zbj (dval ds) (-(b:Int)) r):DecR (bs s) r:=by
 unfold DecR;rw [h.hm,h.hs,if_neg h1,if_neg (fun hh=>hp hh.2.1 hh.2.2),if_neg (by rw [zad];omega)]
 show zbj (dval ds) (0-(b:Int)) r
 rw [Int.zero_sub]
 exact hr
theorem zq7 {s:ByteArray} {k b p:Nat} {ds:List Int} (h:ze5 s k b p ds) (h1:¬ (ds=[]∨1<p)) (hk:k<s.size) (he:expV (bs (s.extract k s.size))=none):DecR (bs s) zeroR:=by
 have e:bs (s.extract k s.size)=(bs s).drop k:=by rw [zcG,List.take_of_length_le (by rw [List.length_drop,zad];omega)]
 unfold DecR;rw [h.hm,h.hs,if_neg h1,if_neg (by rw [zad];omega),if_pos (by rw [zad];exact hk),<-e,he]
theorem zkq {s:ByteArray} {k b p:Nat} {ds:List Int} {r:Value} {x:Int} (h:ze5 s k b p ds) (h1:¬ (ds=[]∨1<p)) (hk:k<s.size) (he:expV (bs (s.extract k s.size))=some x) (hr:zbj (dval ds) (x-b) r):DecR (bs s) r:=by
 have e:bs (s.extract k s.size)=(bs s).drop k:=by rw [zcG,List.take_of_length_le (by rw [List.length_drop,zad];omega)]
 unfold DecR;rw [h.hm,h.hs,if_neg h1,if_neg (by rw [zad];omega),if_pos (by rw [zad];exact hk),<-e,he]
 exact hr
theorem zbP {N:Nat} {E:Int} {W0:Nat} (h:zam N E W0) (hok:false=(W0 !=infW)):zbj N E zeroR:=
 ⟨W0,h,by rw [if_pos (by simpa using hok.symm)]⟩
theorem zbm {N:Nat} {E:Int} {W0 W:Nat} (h:zam N E W0) (hok:true=(W0 !=infW)) (hW:W=W0):zbj N E (.tuple #[numV true 0 W,.bool true]):=
 ⟨W0,h,by rw [if_neg (by simpa using hok.symm),hW]⟩
theorem zd5 {N d W:Nat} (h:IsRnd N d W):W<=infW:=by obtain ⟨k,_,_,rfl⟩:=h;exact Nat.min_le_right _ _
theorem zgq {l:List Int} {x:Int} (h:expV l=some x): -999<=x/\x<=999:=by
 have hB:∀ (l:List Int) (y:Int),expB l=some y->0<=y/\y<=999:=by
  intro l y hy
  unfold expB at hy
  split at hy
  ·rename_i hc
   have:=zgp (l:=l) (fun c hcm=>by have:=(List.all_eq_true.1 hc.2.2) c hcm;simpa [zax] using this) hc.2.1
   cases hy
   omega
  cases hy
 unfold expV at h
 split at h
 ·unfold expS at h
  split at h
  ·cases he:expB ((l.drop 1).drop 1) with
   |none=>rw [he] at h;cases h
   |some y=>rw [he,Option.map_some] at h;have:=hB _ _ he;have h2:=Option.some.inj h;omega
  split at h
  ·have:=hB _ _ h;omega
  have:=hB _ _ h;omega
 cases h
theorem zsq (s:ByteArray) (w:World) (hs:s.size<=100) (hx:s.size<=1):
 Calls Tryz.prog 69 #[.string s] w fun e w'=>∃ r,e=.returned r/\DecR (bs s) r/\Below w.heap.size w w':=by
 go_enter Tryz.func69,Tryz.ntmps69
 go_wp2
 go_loopw [4,5,6,7] (zmC w s) (fun _ _ _ kv _=>s.size-(intOf kv).toNat)
 case atStart=>
  refine ⟨0,0,0,[],Nat.zero_le _,rfl,rfl,rfl,hide rfl,hide (fun j hj=>by omega),by omega,by omega,by simp,?_,(Below.refl _ _).alloc (by simp) _⟩
  have:=zb3 (w.alloc (.cells #[.bool false,.int .i64 0,.int .u64 0] 26))
  simpa using this
 obtain ⟨k,b,p,ds,hk,rfl,rfl,rfl,Hsc,Hall,hb100,hpk,hdk,hown,hb⟩:=hrel
 have hbs:=hb.size
 simp at hbs
 by_cases hlt:k<s.size
 ·have hc0:(0:Int)<=((s[k].toNat:Nat):Int):=by omega
  have hc1:((s[k].toNat:Nat):Int)<256:=by have:=s[k].toNat_lt;omega
  by_cases hdg:isDig ((s[k].toNat:Nat):Int)=true
  ·have HN:=hide (zcS hlt Hsc.out hdg)
   have HA:=hide (zdv hlt Hall.out (zhE hdg))
   have hn46:(((s[k].toNat:Nat):Int)==46)=false:=by rw [beq_eq_false_iff_ne];intro e;simp [isDig] at hdg;omega
   go_wp2_with (first
    |(go_at_call 115;refine (zan _ _ hc0 hc1).mono ?_;rintro e w' ⟨rfl,rfl⟩)
    |(at_builtin;refine zgW rfl _ _ rfl (w.heap.size+1) _ ds ((s[k].toNat:Nat):Int) hown rfl rfl (by omega) (by omega) ?_;intro v' w1 hown' hgrow)
    |go_in)
   go_roundw
   case rel=>exact ⟨k+1,b+p,p,ds++[((s[k].toNat:Nat):Int)],by omega,by go_num,by go_num,rfl,hide HN.out,hide HA.out,by omega,by omega,by simp;omega,hown',hgrow _ _ hb (Nat.le_refl _)⟩
   case measure=>simp [intOf];omega
  have hdf:isDig ((s[k].toNat:Nat):Int)=false:=by simpa using hdg
  clear hdg
  by_cases h46:((s[k].toNat:Nat):Int)=46
  ·have hy46:(((s[k].toNat:Nat):Int)==46)=true:=by rw [h46];rfl
   have HN:=hide (zbA hlt Hsc.out h46)
   have HA:=hide (zdv hlt Hall.out (by simp [isDP,h46]))
   clear h46
   go_wp2_with (go_at_call 115;refine (zan _ _ hc0 hc1).mono ?_;rintro e w' ⟨rfl,rfl⟩)
   go_roundw
   case rel=>exact ⟨k+1,b,p+1,ds,by omega,by go_num,rfl,by go_num,hide HN.out,hide HA.out,by omega,by omega,by omega,hown,hb⟩
   case measure=>simp [intOf];omega
  have hn46:(((s[k].toNat:Nat):Int)==46)=false:=by rw [beq_eq_false_iff_ne];exact h46
  have Hend:=hide (zcA (by omega) Hsc.out Hall.out (.inr (by rw [zaf hlt];exact zi7 hdf h46)))
  have HBX:=hb
  have hown2:=hown
  obtain ⟨g,cap,hv⟩:∃ g cap,u4=.slice (some ⟨g,0,none⟩) ds.length cap:=by obtain ⟨g,cap,hv,_⟩:=hown.byt;exact ⟨g,cap,hv⟩
  subst hv
  obtain ⟨c0,c1,c2,f0,f1,f2⟩:=resC hb
  by_cases hd0:ds.length=0
  ·have hz:((ds.length:Int)==0)=true:=by simp [hd0]
   have HD1:Hid (DecR (bs s) zeroR):=hide (zdh Hend.out (.inl (List.eq_nil_of_length_eq_zero hd0)))
   clear hd0
   go_wp2_with (go_at_call 115;refine (zan _ _ hc0 hc1).mono ?_;rintro e w' ⟨rfl,rfl⟩)
   all_goals (refine bodyPost_ret (v:=zeroR) ?_ rfl ⟨_,rfl,HD1.out,?_⟩;(simp [results,Tryz.results69,go_sem,numV,zeroR,c0,c1,c2]);refine Below.setCell (Below.setCell (Below.setCell (zab hb) ?_ _) ?_ _) ?_ _;all_goals simp)
  exact absurd (show ds.length=0 by omega) hd0
 have hkl:k=s.size:=by omega
 have Hend:=hide (zcA hk Hsc.out Hall.out (.inl hkl))
 have HBX:=hb
 have hown2:=hown
 obtain ⟨g,cap,hv⟩:∃ g cap,u4=.slice (some ⟨g,0,none⟩) ds.length cap:=by obtain ⟨g,cap,hv,_⟩:=hown.byt;exact ⟨g,cap,hv⟩
 subst hv
 obtain ⟨c0,c1,c2,f0,f1,f2⟩:=resC hb
 have Hkl:=hide hkl
 by_cases hd0:ds.length=0
 ·have hz:((ds.length:Int)==0)=true:=by simp [hd0]
  have HD1:Hid (DecR (bs s) zeroR):=hide (zdh Hend.out (.inl (List.eq_nil_of_length_eq_zero hd0)))
  clear hd0 hkl
  go_wp2
  all_goals (refine bodyPost_ret (v:=zeroR) ?_ rfl ⟨_,rfl,HD1.out,?_⟩;(simp [results,Tryz.results69,go_sem,numV,zeroR,c0,c1,c2]);refine Below.setCell (Below.setCell (Below.setCell (zab hb) ?_ _) ?_ _) ?_ _;all_goals simp)
 have hz:((ds.length:Int)==0)=false:=by rw [beq_eq_false_iff_ne];omega
 by_cases hp1:1<p
 ·have HD1:Hid (DecR (bs s) zeroR):=hide (zdh Hend.out (.inr hp1))
  clear hkl
  go_wp2
  all_goals (refine bodyPost_ret (v:=zeroR) ?_ rfl ⟨_,rfl,HD1.out,?_⟩;(simp [results,Tryz.results69,go_sem,numV,zeroR,c0,c1,c2]);refine Below.setCell (Below.setCell (Below.setCell (zab hb) ?_ _) ?_ _) ?_ _;all_goals simp)
 have Hn1:Hid (¬ (ds=[]∨1<p)):=hide (by rintro (h|h);exact hd0 (by rw [h];rfl);exact hp1 h)
 have hbl:=Hend.out.behind (by omega)
 have hks:((k:Int)==s.size)=true:=by simp [hkl]
 by_cases hp0:p=0
 ·have hpz:((p:Int)==0)=true:=by simp [hp0]
  have Hp0:=hide hp0
  clear hp0 hkl
  go_wp2_with fail
  refine (zf7 ds _ _ hown2.byt (by omega) Hend.out.hd).mono ?_
  rintro e w2 ⟨hwh,rfl⟩
  obtain ⟨x,ok,rfl,hok,hxv⟩:=hwh
  cases ok with
  |true=>
   have Hok:Hid (dval ds<9223372036854775808):=hide (by simpa using hok.symm)
   have Hx:=hide (hxv rfl)
   have HR:Hid (DecR (bs s) (.tuple #[numV false x 0,.bool true])):=hide (by rw [Hx.out];exact zmc Hend.out Hn1.out Hkl.out Hp0.out Hok.out)
   clear hok hxv c0 c1 c2 f0 f1 f2
   go_wp2_with (go_at_call 30;refine (zdR x _).mono ?_;rintro e w3 ⟨rfl,hb3⟩;have hb34:=HBX.trans (hb3.mono hbs);obtain ⟨c0,c1,c2,f0,f1,f2⟩:=resC hb34)
   all_goals (refine bodyPost_ret (v:=.tuple #[numV false x 0,.bool true]) ?_ rfl ⟨_,rfl,HR.out,?_⟩;(simp [results,Tryz.results69,go_sem,numV,c0,c1,c2]);refine Below.setCell (Below.setCell (Below.setCell (zab hb34) ?_ _) ?_ _) ?_ _;all_goals simp)
  |false=>
   have HokW:Hid (¬ dval ds<9223372036854775808):=hide (by simpa using hok.symm)
   clear hok hxv
   go_wp2_with fail
   refine (zaV ds (-(b:Int)) _ _ hown2.byt (by omega) Hend.out.hd (by omega) (by omega)).mono ?_
   rintro e w3 hNear
   obtain ⟨W,ok,W0,rfl,hD,hok,hW,hbn⟩:=hNear
   have hb3:=HBX.trans (hbn.mono hbs)
   obtain ⟨d0,d1,d2,g0,g1,g2⟩:=resC hb3
   have hWle:=zd5 hD
   have HD:=hide hD
   clear hD c0 c1 c2 f0 f1 f2
   cases ok with
   |false=>
    have Hok:=hide hok
    clear hok hW
    have HR:Hid (DecR (bs s) zeroR):=hide (zc6 Hend.out Hn1.out Hkl.out (fun _=>HokW.out) (zbP HD.out Hok.out))
    go_wp2
    all_goals (refine bodyPost_ret (v:=zeroR) ?_ rfl ⟨_,rfl,HR.out,?_⟩;(simp [results,Tryz.results69,go_sem,numV,zeroR,d0,d1,d2]);refine Below.setCell (Below.setCell (Below.setCell (zab hb3) ?_ _) ?_ _) ?_ _;all_goals simp)
   |true=>
    have HW:=hide (hW rfl)
    have Hok:=hide hok
    clear hok hW
    have HR:Hid (DecR (bs s) (.tuple #[numV true 0 W,.bool true])):=hide (zc6 Hend.out Hn1.out Hkl.out (fun _=>HokW.out) (zbm HD.out Hok.out HW.out))
    have hWle2:(W:Int)<=9218868437227405312:=by have:=HW.out;unfold infW at hWle;omega
    have hbs3:=hb3.size
    simp at hbs3
    go_wp2_with (go_at_call 28;refine (zbN W _ (by omega) hWle2).mono ?_;rintro e w4 ⟨rfl,hb4⟩;have hb34:=hb3.trans (hb4.mono hbs3);obtain ⟨c0,c1,c2,f0,f1,f2⟩:=resC hb34)
    all_goals (refine bodyPost_ret (v:=.tuple #[numV true 0 W,.bool true]) ?_ rfl ⟨_,rfl,HR.out,?_⟩;(simp [results,Tryz.results69,go_sem,numV,c0,c1,c2]);refine Below.setCell (Below.setCell (Below.setCell (zab hb34) ?_ _) ?_ _) ?_ _;all_goals simp)
 have hpz:((p:Int)==0)=false:=by rw [beq_eq_false_iff_ne];omega
 have Hp0:=hide hp0
 clear hp0 hkl
 go_wp2_with fail
 refine (zaV ds (-(b:Int)) _ _ hown2.byt (by omega) Hend.out.hd (by omega) (by omega)).mono ?_
 rintro e w3 hNear
 obtain ⟨W,ok,W0,rfl,hD,hok,hW,hbn⟩:=hNear
 have hb3:=HBX.trans (hbn.mono hbs)
 obtain ⟨d0,d1,d2,g0,g1,g2⟩:=resC hb3
 have hWle:=zd5 hD
 have HD:=hide hD
 clear hD c0 c1 c2 f0 f1 f2
 cases ok with
 |false=>
  have Hok:=hide hok
  clear hok hW
  have HR:Hid (DecR (bs s) zeroR):=hide (zc6 Hend.out Hn1.out Hkl.out (fun h=>absurd h Hp0.out) (zbP HD.out Hok.out))
  go_wp2
  all_goals (refine bodyPost_ret (v:=zeroR) ?_ rfl ⟨_,rfl,HR.out,?_⟩;(simp [results,Tryz.results69,go_sem,numV,zeroR,d0,d1,d2]);refine Below.setCell (Below.setCell (Below.setCell (zab hb3) ?_ _) ?_ _) ?_ _;all_goals simp)
 |true=>
  have HW:=hide (hW rfl)
  have Hok:=hide hok
  clear hok hW
  have HR:Hid (DecR (bs s) (.tuple #[numV true 0 W,.bool true])):=hide (zc6 Hend.out Hn1.out Hkl.out (fun h=>absurd h Hp0.out) (zbm HD.out Hok.out HW.out))
  have hWle2:(W:Int)<=9218868437227405312:=by have:=HW.out;unfold infW at hWle;omega
  have hbs3:=hb3.size
  simp at hbs3
  go_wp2_with (go_at_call 28;refine (zbN W _ (by omega) hWle2).mono ?_;rintro e w4 ⟨rfl,hb4⟩;have hb34:=hb3.trans (hb4.mono hbs3);obtain ⟨c0,c1,c2,f0,f1,f2⟩:=resC hb34)
  all_goals (refine bodyPost_ret (v:=.tuple #[numV true 0 W,.bool true]) ?_ rfl ⟨_,rfl,HR.out,?_⟩;(simp [results,Tryz.results69,go_sem,numV,c0,c1,c2]);refine Below.setCell (Below.setCell (Below.setCell (zab hb34) ?_ _) ?_ _) ?_ _;all_goals simp)
theorem zrP (s:ByteArray) (w:World) (hs:s.size<=100) (hx:1<s.size) (hq:(((s[0].toNat:Nat):Int)==48)=false):
 Calls Tryz.prog 69 #[.string s] w fun e w'=>∃ r,e=.returned r/\DecR (bs s) r/\Below w.heap.size w w':=by
 go_enter Tryz.func69,Tryz.ntmps69
 go_wp2
 go_loopw [4,5,6,7] (zmC w s) (fun _ _ _ kv _=>s.size-(intOf kv).toNat)
 case atStart=>
  refine ⟨0,0,0,[],Nat.zero_le _,rfl,rfl,rfl,hide rfl,hide (fun j hj=>by omega),by omega,by omega,by simp,?_,(Below.refl _ _).alloc (by simp) _⟩
  have:=zb3 (w.alloc (.cells #[.bool false,.int .i64 0,.int .u64 0] 26))
  simpa using this
 obtain ⟨k,b,p,ds,hk,rfl,rfl,rfl,Hsc,Hall,hb100,hpk,hdk,hown,hb⟩:=hrel
 have hbs:=hb.size
 simp at hbs
 by_cases hlt:k<s.size
 ·have hc0:(0:Int)<=((s[k].toNat:Nat):Int):=by omega
  have hc1:((s[k].toNat:Nat):Int)<256:=by have:=s[k].toNat_lt;omega
  by_cases hdg:isDig ((s[k].toNat:Nat):Int)=true
  ·have HN:=hide (zcS hlt Hsc.out hdg)
   have HA:=hide (zdv hlt Hall.out (zhE hdg))
   have hn46:(((s[k].toNat:Nat):Int)==46)=false:=by rw [beq_eq_false_iff_ne];intro e;simp [isDig] at hdg;omega
   go_wp2_with (first
    |(go_at_call 115;refine (zan _ _ hc0 hc1).mono ?_;rintro e w' ⟨rfl,rfl⟩)
    |(at_builtin;refine zgW rfl _ _ rfl (w.heap.size+1) _ ds ((s[k].toNat:Nat):Int) hown rfl rfl (by omega) (by omega) ?_;intro v' w1 hown' hgrow)
    |go_in)
   go_roundw
   case rel=>exact ⟨k+1,b+p,p,ds++[((s[k].toNat:Nat):Int)],by omega,by go_num,by go_num,rfl,hide HN.out,hide HA.out,by omega,by omega,by simp;omega,hown',hgrow _ _ hb (Nat.le_refl _)⟩
   case measure=>simp [intOf];omega
  have hdf:isDig ((s[k].toNat:Nat):Int)=false:=by simpa using hdg
  clear hdg
  by_cases h46:((s[k].toNat:Nat):Int)=46
  ·have hy46:(((s[k].toNat:Nat):Int)==46)=true:=by rw [h46];rfl
   have HN:=hide (zbA hlt Hsc.out h46)
   have HA:=hide (zdv hlt Hall.out (by simp [isDP,h46]))
   clear h46
   go_wp2_with (go_at_call 115;refine (zan _ _ hc0 hc1).mono ?_;rintro e w' ⟨rfl,rfl⟩)
   go_roundw
   case rel=>exact ⟨k+1,b,p+1,ds,by omega,by go_num,rfl,by go_num,hide HN.out,hide HA.out,by omega,by omega,by omega,hown,hb⟩
   case measure=>simp [intOf];omega
  have hn46:(((s[k].toNat:Nat):Int)==46)=false:=by rw [beq_eq_false_iff_ne];exact h46
  have Hend:=hide (zcA (by omega) Hsc.out Hall.out (.inr (by rw [zaf hlt];exact zi7 hdf h46)))
  have HBX:=hb
  have hown2:=hown
  obtain ⟨g,cap,hv⟩:∃ g cap,u4=.slice (some ⟨g,0,none⟩) ds.length cap:=by obtain ⟨g,cap,hv,_⟩:=hown.byt;exact ⟨g,cap,hv⟩
  subst hv
  obtain ⟨c0,c1,c2,f0,f1,f2⟩:=resC hb
  by_cases hd0:ds.length=0
  ·have hz:((ds.length:Int)==0)=true:=by simp [hd0]
   have HD1:Hid (DecR (bs s) zeroR):=hide (zdh Hend.out (.inl (List.eq_nil_of_length_eq_zero hd0)))
   clear hd0
   go_wp2_with (go_at_call 115;refine (zan _ _ hc0 hc1).mono ?_;rintro e w' ⟨rfl,rfl⟩)
   all_goals (refine bodyPost_ret (v:=zeroR) ?_ rfl ⟨_,rfl,HD1.out,?_⟩;(simp [results,Tryz.results69,go_sem,numV,zeroR,c0,c1,c2]);refine Below.setCell (Below.setCell (Below.setCell (zab hb) ?_ _) ?_ _) ?_ _;all_goals simp)
  have hz:((ds.length:Int)==0)=false:=by rw [beq_eq_false_iff_ne];omega
  by_cases hp1:1<p
  ·have HD1:Hid (DecR (bs s) zeroR):=hide (zdh Hend.out (.inr hp1))
   go_wp2_with (go_at_call 115;refine (zan _ _ hc0 hc1).mono ?_;rintro e w' ⟨rfl,rfl⟩)
   all_goals (refine bodyPost_ret (v:=zeroR) ?_ rfl ⟨_,rfl,HD1.out,?_⟩;(simp [results,Tryz.results69,go_sem,numV,zeroR,c0,c1,c2]);refine Below.setCell (Below.setCell (Below.setCell (zab hb) ?_ _) ?_ _) ?_ _;all_goals simp)
  have Hn1:Hid (¬ (ds=[]∨1<p)):=hide (by rintro (h|h);exact hd0 (by rw [h];rfl);exact hp1 h)
  have hbl:=Hend.out.behind (by omega)
  have hks:((k:Int)==s.size)=false:=by rw [beq_eq_false_iff_ne];omega
  have hes:(s.extract k s.size).size<=100:=by simp;omega
  have hes0:0<(s.extract k s.size).size:=by simp;omega
  go_wp2_with (go_at_call 115;refine (zan _ _ hc0 hc1).mono ?_;rintro e w' ⟨rfl,rfl⟩)
  refine (zm8 (s.extract k s.size) _ hes hes0).mono ?_
  rintro e w2 ⟨rfl,rfl⟩
  cases hex:expV (bs (s.extract k s.size)) with
  |none=>
   rw [optR_none]
   have HD1:Hid (DecR (bs s) zeroR):=hide (zq7 Hend.out Hn1.out hlt hex)
   clear hex
   go_wp2
   all_goals (refine bodyPost_ret (v:=zeroR) ?_ rfl ⟨_,rfl,HD1.out,?_⟩;(simp [results,Tryz.results69,go_sem,numV,zeroR,c0,c1,c2]);refine Below.setCell (Below.setCell (Below.setCell (zab hb) ?_ _) ?_ _) ?_ _;all_goals simp)
  |some x=>
   rw [zbS]
   have hxb:=zgq hex
   have Hex:=hide hex
   clear hex
   go_wp2_with fail
   refine (zaV ds (x-(b:Int)) _ _ hown2.byt (by omega) Hend.out.hd (by omega) (by omega)).mono ?_
   rintro e w3 hNear
   obtain ⟨W,ok,W0,rfl,hD,hok,hW,hbn⟩:=hNear
   have hb3:=HBX.trans (hbn.mono hbs)
   obtain ⟨d0,d1,d2,g0,g1,g2⟩:=resC hb3
   have hWle:=zd5 hD
   have HD:=hide hD
   clear hD c0 c1 c2 f0 f1 f2
   cases ok with
   |false=>
    have Hok:=hide hok
    clear hok hW
    have HR:Hid (DecR (bs s) zeroR):=hide (zkq Hend.out Hn1.out hlt Hex.out (zbP HD.out Hok.out))
    go_wp2
    all_goals (refine bodyPost_ret (v:=zeroR) ?_ rfl ⟨_,rfl,HR.out,?_⟩;(simp [results,Tryz.results69,go_sem,numV,zeroR,d0,d1,d2]);refine Below.setCell (Below.setCell (Below.setCell (zab hb3) ?_ _) ?_ _) ?_ _;all_goals simp)
   |true=>
    have HW:=hide (hW rfl)
    have Hok:=hide hok
    clear hok hW
    have HR:Hid (DecR (bs s) (.tuple #[numV true 0 W,.bool true])):=hide (zkq Hend.out Hn1.out hlt Hex.out (zbm HD.out Hok.out HW.out))
    have hWle2:(W:Int)<=9218868437227405312:=by have:=HW.out;unfold infW at hWle;omega
    have hbs3:=hb3.size
    simp at hbs3
    go_wp2_with (go_at_call 28;refine (zbN W _ (by omega) hWle2).mono ?_;rintro e w4 ⟨rfl,hb4⟩;have hb34:=hb3.trans (hb4.mono hbs3);obtain ⟨c0,c1,c2,f0,f1,f2⟩:=resC hb34)
    all_goals (refine bodyPost_ret (v:=.tuple #[numV true 0 W,.bool true]) ?_ rfl ⟨_,rfl,HR.out,?_⟩;(simp [results,Tryz.results69,go_sem,numV,c0,c1,c2]);refine Below.setCell (Below.setCell (Below.setCell (zab hb34) ?_ _) ?_ _) ?_ _;all_goals simp)
 have hkl:k=s.size:=by omega
 have Hend:=hide (zcA hk Hsc.out Hall.out (.inl hkl))
 have HBX:=hb
 have hown2:=hown
 obtain ⟨g,cap,hv⟩:∃ g cap,u4=.slice (some ⟨g,0,none⟩) ds.length cap:=by obtain ⟨g,cap,hv,_⟩:=hown.byt;exact ⟨g,cap,hv⟩
 subst hv
 obtain ⟨c0,c1,c2,f0,f1,f2⟩:=resC hb
 have Hkl:=hide hkl
 by_cases hd0:ds.length=0
 ·have hz:((ds.length:Int)==0)=true:=by simp [hd0]
  have HD1:Hid (DecR (bs s) zeroR):=hide (zdh Hend.out (.inl (List.eq_nil_of_length_eq_zero hd0)))
  clear hd0 hkl
  go_wp2
  all_goals (refine bodyPost_ret (v:=zeroR) ?_ rfl ⟨_,rfl,HD1.out,?_⟩;(simp [results,Tryz.results69,go_sem,numV,zeroR,c0,c1,c2]);refine Below.setCell (Below.setCell (Below.setCell (zab hb) ?_ _) ?_ _) ?_ _;all_goals simp)
 have hz:((ds.length:Int)==0)=false:=by rw [beq_eq_false_iff_ne];omega
 by_cases hp1:1<p
 ·have HD1:Hid (DecR (bs s) zeroR):=hide (zdh Hend.out (.inr hp1))
  clear hkl
  go_wp2
  all_goals (refine bodyPost_ret (v:=zeroR) ?_ rfl ⟨_,rfl,HD1.out,?_⟩;(simp [results,Tryz.results69,go_sem,numV,zeroR,c0,c1,c2]);refine Below.setCell (Below.setCell (Below.setCell (zab hb) ?_ _) ?_ _) ?_ _;all_goals simp)
 have Hn1:Hid (¬ (ds=[]∨1<p)):=hide (by rintro (h|h);exact hd0 (by rw [h];rfl);exact hp1 h)
 have hbl:=Hend.out.behind (by omega)
 have hks:((k:Int)==s.size)=true:=by simp [hkl]
 by_cases hp0:p=0
 ·have hpz:((p:Int)==0)=true:=by simp [hp0]
  have Hp0:=hide hp0
  clear hp0 hkl
  go_wp2_with fail
  refine (zf7 ds _ _ hown2.byt (by omega) Hend.out.hd).mono ?_
  rintro e w2 ⟨hwh,rfl⟩
  obtain ⟨x,ok,rfl,hok,hxv⟩:=hwh
  cases ok with
  |true=>
   have Hok:Hid (dval ds<9223372036854775808):=hide (by simpa using hok.symm)
   have Hx:=hide (hxv rfl)
   have HR:Hid (DecR (bs s) (.tuple #[numV false x 0,.bool true])):=hide (by rw [Hx.out];exact zmc Hend.out Hn1.out Hkl.out Hp0.out Hok.out)
   clear hok hxv c0 c1 c2 f0 f1 f2
   go_wp2_with (go_at_call 30;refine (zdR x _).mono ?_;rintro e w3 ⟨rfl,hb3⟩;have hb34:=HBX.trans (hb3.mono hbs);obtain ⟨c0,c1,c2,f0,f1,f2⟩:=resC hb34)
   all_goals (refine bodyPost_ret (v:=.tuple #[numV false x 0,.bool true]) ?_ rfl ⟨_,rfl,HR.out,?_⟩;(simp [results,Tryz.results69,go_sem,numV,c0,c1,c2]);refine Below.setCell (Below.setCell (Below.setCell (zab hb34) ?_ _) ?_ _) ?_ _;all_goals simp)
  |false=>
   have HokW:Hid (¬ dval ds<9223372036854775808):=hide (by simpa using hok.symm)
   clear hok hxv
   go_wp2_with fail
   refine (zaV ds (-(b:Int)) _ _ hown2.byt (by omega) Hend.out.hd (by omega) (by omega)).mono ?_
   rintro e w3 hNear
   obtain ⟨W,ok,W0,rfl,hD,hok,hW,hbn⟩:=hNear
   have hb3:=HBX.trans (hbn.mono hbs)
   obtain ⟨d0,d1,d2,g0,g1,g2⟩:=resC hb3
   have hWle:=zd5 hD
   have HD:=hide hD
   clear hD c0 c1 c2 f0 f1 f2
   cases ok with
   |false=>
    have Hok:=hide hok
    clear hok hW
    have HR:Hid (DecR (bs s) zeroR):=hide (zc6 Hend.out Hn1.out Hkl.out (fun _=>HokW.out) (zbP HD.out Hok.out))
    go_wp2
    all_goals (refine bodyPost_ret (v:=zeroR) ?_ rfl ⟨_,rfl,HR.out,?_⟩;(simp [results,Tryz.results69,go_sem,numV,zeroR,d0,d1,d2]);refine Below.setCell (Below.setCell (Below.setCell (zab hb3) ?_ _) ?_ _) ?_ _;all_goals simp)
   |true=>
    have HW:=hide (hW rfl)
    have Hok:=hide hok
    clear hok hW
    have HR:Hid (DecR (bs s) (.tuple #[numV true 0 W,.bool true])):=hide (zc6 Hend.out Hn1.out Hkl.out (fun _=>HokW.out) (zbm HD.out Hok.out HW.out))
    have hWle2:(W:Int)<=9218868437227405312:=by have:=HW.out;unfold infW at hWle;omega
    have hbs3:=hb3.size
    simp at hbs3
    go_wp2_with (go_at_call 28;refine (zbN W _ (by omega) hWle2).mono ?_;rintro e w4 ⟨rfl,hb4⟩;have hb34:=hb3.trans (hb4.mono hbs3);obtain ⟨c0,c1,c2,f0,f1,f2⟩:=resC hb34)
    all_goals (refine bodyPost_ret (v:=.tuple #[numV true 0 W,.bool true]) ?_ rfl ⟨_,rfl,HR.out,?_⟩;(simp [results,Tryz.results69,go_sem,numV,c0,c1,c2]);refine Below.setCell (Below.setCell (Below.setCell (zab hb34) ?_ _) ?_ _) ?_ _;all_goals simp)
 have hpz:((p:Int)==0)=false:=by rw [beq_eq_false_iff_ne];omega
 have Hp0:=hide hp0
 clear hp0 hkl
 go_wp2_with fail
 refine (zaV ds (-(b:Int)) _ _ hown2.byt (by omega) Hend.out.hd (by omega) (by omega)).mono ?_
 rintro e w3 hNear
 obtain ⟨W,ok,W0,rfl,hD,hok,hW,hbn⟩:=hNear
 have hb3:=HBX.trans (hbn.mono hbs)
 obtain ⟨d0,d1,d2,g0,g1,g2⟩:=resC hb3
 have hWle:=zd5 hD
 have HD:=hide hD
 clear hD c0 c1 c2 f0 f1 f2
 cases ok with
 |false=>
  have Hok:=hide hok
  clear hok hW
  have HR:Hid (DecR (bs s) zeroR):=hide (zc6 Hend.out Hn1.out Hkl.out (fun h=>absurd h Hp0.out) (zbP HD.out Hok.out))
  go_wp2
  all_goals (refine bodyPost_ret (v:=zeroR) ?_ rfl ⟨_,rfl,HR.out,?_⟩;(simp [results,Tryz.results69,go_sem,numV,zeroR,d0,d1,d2]);refine Below.setCell (Below.setCell (Below.setCell (zab hb3) ?_ _) ?_ _) ?_ _;all_goals simp)
 |true=>
  have HW:=hide (hW rfl)
  have Hok:=hide hok
  clear hok hW
  have HR:Hid (DecR (bs s) (.tuple #[numV true 0 W,.bool true])):=hide (zc6 Hend.out Hn1.out Hkl.out (fun h=>absurd h Hp0.out) (zbm HD.out Hok.out HW.out))
  have hWle2:(W:Int)<=9218868437227405312:=by have:=HW.out;unfold infW at hWle;omega
  have hbs3:=hb3.size
  simp at hbs3
  go_wp2_with (go_at_call 28;refine (zbN W _ (by omega) hWle2).mono ?_;rintro e w4 ⟨rfl,hb4⟩;have hb34:=hb3.trans (hb4.mono hbs3);obtain ⟨c0,c1,c2,f0,f1,f2⟩:=resC hb34)
  all_goals (refine bodyPost_ret (v:=.tuple #[numV true 0 W,.bool true]) ?_ rfl ⟨_,rfl,HR.out,?_⟩;(simp [results,Tryz.results69,go_sem,numV,c0,c1,c2]);refine Below.setCell (Below.setCell (Below.setCell (zab hb34) ?_ _) ?_ _) ?_ _;all_goals simp)
theorem zto (s:ByteArray) (w:World) (hs:s.size<=100) (hx:1<s.size) (hq:(((s[0].toNat:Nat):Int)==48)=true) (hq1:(((s[1].toNat:Nat):Int)==120)=false) (hq2:(((s[1].toNat:Nat):Int)==88)=false):
 Calls Tryz.prog 69 #[.string s] w fun e w'=>∃ r,e=.returned r/\DecR (bs s) r/\Below w.heap.size w w':=by
 go_enter Tryz.func69,Tryz.ntmps69
 go_wp2
 go_loopw [4,5,6,7] (zmC w s) (fun _ _ _ kv _=>s.size-(intOf kv).toNat)
 case atStart=>
  refine ⟨0,0,0,[],Nat.zero_le _,rfl,rfl,rfl,hide rfl,hide (fun j hj=>by omega),by omega,by omega,by simp,?_,(Below.refl _ _).alloc (by simp) _⟩
  have:=zb3 (w.alloc (.cells #[.bool false,.int .i64 0,.int .u64 0] 26))
  simpa using this
 obtain ⟨k,b,p,ds,hk,rfl,rfl,rfl,Hsc,Hall,hb100,hpk,hdk,hown,hb⟩:=hrel
 have hbs:=hb.size
 simp at hbs
 by_cases hlt:k<s.size
 ·have hc0:(0:Int)<=((s[k].toNat:Nat):Int):=by omega
  have hc1:((s[k].toNat:Nat):Int)<256:=by have:=s[k].toNat_lt;omega
  by_cases hdg:isDig ((s[k].toNat:Nat):Int)=true
  ·have HN:=hide (zcS hlt Hsc.out hdg)
   have HA:=hide (zdv hlt Hall.out (zhE hdg))
   have hn46:(((s[k].toNat:Nat):Int)==46)=false:=by rw [beq_eq_false_iff_ne];intro e;simp [isDig] at hdg;omega
   go_wp2_with (first
    |(go_at_call 115;refine (zan _ _ hc0 hc1).mono ?_;rintro e w' ⟨rfl,rfl⟩)
    |(at_builtin;refine zgW rfl _ _ rfl (w.heap.size+1) _ ds ((s[k].toNat:Nat):Int) hown rfl rfl (by omega) (by omega) ?_;intro v' w1 hown' hgrow)
    |go_in)
   go_roundw
   case rel=>exact ⟨k+1,b+p,p,ds++[((s[k].toNat:Nat):Int)],by omega,by go_num,by go_num,rfl,hide HN.out,hide HA.out,by omega,by omega,by simp;omega,hown',hgrow _ _ hb (Nat.le_refl _)⟩
   case measure=>simp [intOf];omega
  have hdf:isDig ((s[k].toNat:Nat):Int)=false:=by simpa using hdg
  clear hdg
  by_cases h46:((s[k].toNat:Nat):Int)=46
  ·have hy46:(((s[k].toNat:Nat):Int)==46)=true:=by rw [h46];rfl
   have HN:=hide (zbA hlt Hsc.out h46)
   have HA:=hide (zdv hlt Hall.out (by simp [isDP,h46]))
   clear h46
   go_wp2_with (go_at_call 115;refine (zan _ _ hc0 hc1).mono ?_;rintro e w' ⟨rfl,rfl⟩)
   go_roundw
   case rel=>exact ⟨k+1,b,p+1,ds,by omega,by go_num,rfl,by go_num,hide HN.out,hide HA.out,by omega,by omega,by omega,hown,hb⟩
   case measure=>simp [intOf];omega
  have hn46:(((s[k].toNat:Nat):Int)==46)=false:=by rw [beq_eq_false_iff_ne];exact h46
  have Hend:=hide (zcA (by omega) Hsc.out Hall.out (.inr (by rw [zaf hlt];exact zi7 hdf h46)))
  have HBX:=hb
  have hown2:=hown
  obtain ⟨g,cap,hv⟩:∃ g cap,u4=.slice (some ⟨g,0,none⟩) ds.length cap:=by obtain ⟨g,cap,hv,_⟩:=hown.byt;exact ⟨g,cap,hv⟩
  subst hv
  obtain ⟨c0,c1,c2,f0,f1,f2⟩:=resC hb
  by_cases hd0:ds.length=0
  ·have hz:((ds.length:Int)==0)=true:=by simp [hd0]
   have HD1:Hid (DecR (bs s) zeroR):=hide (zdh Hend.out (.inl (List.eq_nil_of_length_eq_zero hd0)))
   clear hd0
   go_wp2_with (go_at_call 115;refine (zan _ _ hc0 hc1).mono ?_;rintro e w' ⟨rfl,rfl⟩)
   all_goals (refine bodyPost_ret (v:=zeroR) ?_ rfl ⟨_,rfl,HD1.out,?_⟩;(simp [results,Tryz.results69,go_sem,numV,zeroR,c0,c1,c2]);refine Below.setCell (Below.setCell (Below.setCell (zab hb) ?_ _) ?_ _) ?_ _;all_goals simp)
  have hz:((ds.length:Int)==0)=false:=by rw [beq_eq_false_iff_ne];omega
  by_cases hp1:1<p
  ·have HD1:Hid (DecR (bs s) zeroR):=hide (zdh Hend.out (.inr hp1))
   go_wp2_with (go_at_call 115;refine (zan _ _ hc0 hc1).mono ?_;rintro e w' ⟨rfl,rfl⟩)
   all_goals (refine bodyPost_ret (v:=zeroR) ?_ rfl ⟨_,rfl,HD1.out,?_⟩;(simp [results,Tryz.results69,go_sem,numV,zeroR,c0,c1,c2]);refine Below.setCell (Below.setCell (Below.setCell (zab hb) ?_ _) ?_ _) ?_ _;all_goals simp)
  have Hn1:Hid (¬ (ds=[]∨1<p)):=hide (by rintro (h|h);exact hd0 (by rw [h];rfl);exact hp1 h)
  have hbl:=Hend.out.behind (by omega)
  have hks:((k:Int)==s.size)=false:=by rw [beq_eq_false_iff_ne];omega
  have hes:(s.extract k s.size).size<=100:=by simp;omega
  have hes0:0<(s.extract k s.size).size:=by simp;omega
  go_wp2_with (go_at_call 115;refine (zan _ _ hc0 hc1).mono ?_;rintro e w' ⟨rfl,rfl⟩)
  refine (zm8 (s.extract k s.size) _ hes hes0).mono ?_
  rintro e w2 ⟨rfl,rfl⟩
  cases hex:expV (bs (s.extract k s.size)) with
  |none=>
   rw [optR_none]
   have HD1:Hid (DecR (bs s) zeroR):=hide (zq7 Hend.out Hn1.out hlt hex)
   clear hex
   go_wp2
   all_goals (refine bodyPost_ret (v:=zeroR) ?_ rfl ⟨_,rfl,HD1.out,?_⟩;(simp [results,Tryz.results69,go_sem,numV,zeroR,c0,c1,c2]);refine Below.setCell (Below.setCell (Below.setCell (zab hb) ?_ _) ?_ _) ?_ _;all_goals simp)
  |some x=>
   rw [zbS]
   have hxb:=zgq hex
   have Hex:=hide hex
   clear hex
   go_wp2_with fail
   refine (zaV ds (x-(b:Int)) _ _ hown2.byt (by omega) Hend.out.hd (by omega) (by omega)).mono ?_
   rintro e w3 hNear
   obtain ⟨W,ok,W0,rfl,hD,hok,hW,hbn⟩:=hNear
   have hb3:=HBX.trans (hbn.mono hbs)
   obtain ⟨d0,d1,d2,g0,g1,g2⟩:=resC hb3
   have hWle:=zd5 hD
   have HD:=hide hD
   clear hD c0 c1 c2 f0 f1 f2
   cases ok with
   |false=>
    have Hok:=hide hok
    clear hok hW
    have HR:Hid (DecR (bs s) zeroR):=hide (zkq Hend.out Hn1.out hlt Hex.out (zbP HD.out Hok.out))
    go_wp2
    all_goals (refine bodyPost_ret (v:=zeroR) ?_ rfl ⟨_,rfl,HR.out,?_⟩;(simp [results,Tryz.results69,go_sem,numV,zeroR,d0,d1,d2]);refine Below.setCell (Below.setCell (Below.setCell (zab hb3) ?_ _) ?_ _) ?_ _;all_goals simp)
   |true=>
    have HW:=hide (hW rfl)
    have Hok:=hide hok
    clear hok hW
    have HR:Hid (DecR (bs s) (.tuple #[numV true 0 W,.bool true])):=hide (zkq Hend.out Hn1.out hlt Hex.out (zbm HD.out Hok.out HW.out))
    have hWle2:(W:Int)<=9218868437227405312:=by have:=HW.out;unfold infW at hWle;omega
    have hbs3:=hb3.size
    simp at hbs3
    go_wp2_with (go_at_call 28;refine (zbN W _ (by omega) hWle2).mono ?_;rintro e w4 ⟨rfl,hb4⟩;have hb34:=hb3.trans (hb4.mono hbs3);obtain ⟨c0,c1,c2,f0,f1,f2⟩:=resC hb34)
    all_goals (refine bodyPost_ret (v:=.tuple #[numV true 0 W,.bool true]) ?_ rfl ⟨_,rfl,HR.out,?_⟩;(simp [results,Tryz.results69,go_sem,numV,c0,c1,c2]);refine Below.setCell (Below.setCell (Below.setCell (zab hb34) ?_ _) ?_ _) ?_ _;all_goals simp)
 have hkl:k=s.size:=by omega
 have Hend:=hide (zcA hk Hsc.out Hall.out (.inl hkl))
 have HBX:=hb
 have hown2:=hown
 obtain ⟨g,cap,hv⟩:∃ g cap,u4=.slice (some ⟨g,0,none⟩) ds.length cap:=by obtain ⟨g,cap,hv,_⟩:=hown.byt;exact ⟨g,cap,hv⟩
 subst hv
 obtain ⟨c0,c1,c2,f0,f1,f2⟩:=resC hb
 have Hkl:=hide hkl
 by_cases hd0:ds.length=0
 ·have hz:((ds.length:Int)==0)=true:=by simp [hd0]
  have HD1:Hid (DecR (bs s) zeroR):=hide (zdh Hend.out (.inl (List.eq_nil_of_length_eq_zero hd0)))
  clear hd0 hkl
  go_wp2
  all_goals (refine bodyPost_ret (v:=zeroR) ?_ rfl ⟨_,rfl,HD1.out,?_⟩;(simp [results,Tryz.results69,go_sem,numV,zeroR,c0,c1,c2]);refine Below.setCell (Below.setCell (Below.setCell (zab hb) ?_ _) ?_ _) ?_ _;all_goals simp)
 have hz:((ds.length:Int)==0)=false:=by rw [beq_eq_false_iff_ne];omega
 by_cases hp1:1<p
 ·have HD1:Hid (DecR (bs s) zeroR):=hide (zdh Hend.out (.inr hp1))
  clear hkl
  go_wp2
  all_goals (refine bodyPost_ret (v:=zeroR) ?_ rfl ⟨_,rfl,HD1.out,?_⟩;(simp [results,Tryz.results69,go_sem,numV,zeroR,c0,c1,c2]);refine Below.setCell (Below.setCell (Below.setCell (zab hb) ?_ _) ?_ _) ?_ _;all_goals simp)
 have Hn1:Hid (¬ (ds=[]∨1<p)):=hide (by rintro (h|h);exact hd0 (by rw [h];rfl);exact hp1 h)
 have hbl:=Hend.out.behind (by omega)
 have hks:((k:Int)==s.size)=true:=by simp [hkl]
 by_cases hp0:p=0
 ·have hpz:((p:Int)==0)=true:=by simp [hp0]
  have Hp0:=hide hp0
  clear hp0 hkl
  go_wp2_with fail
  refine (zf7 ds _ _ hown2.byt (by omega) Hend.out.hd).mono ?_
  rintro e w2 ⟨hwh,rfl⟩
  obtain ⟨x,ok,rfl,hok,hxv⟩:=hwh
  cases ok with
  |true=>
   have Hok:Hid (dval ds<9223372036854775808):=hide (by simpa using hok.symm)
   have Hx:=hide (hxv rfl)
   have HR:Hid (DecR (bs s) (.tuple #[numV false x 0,.bool true])):=hide (by rw [Hx.out];exact zmc Hend.out Hn1.out Hkl.out Hp0.out Hok.out)
   clear hok hxv c0 c1 c2 f0 f1 f2
   go_wp2_with (go_at_call 30;refine (zdR x _).mono ?_;rintro e w3 ⟨rfl,hb3⟩;have hb34:=HBX.trans (hb3.mono hbs);obtain ⟨c0,c1,c2,f0,f1,f2⟩:=resC hb34)
   all_goals (refine bodyPost_ret (v:=.tuple #[numV false x 0,.bool true]) ?_ rfl ⟨_,rfl,HR.out,?_⟩;(simp [results,Tryz.results69,go_sem,numV,c0,c1,c2]);refine Below.setCell (Below.setCell (Below.setCell (zab hb34) ?_ _) ?_ _) ?_ _;all_goals simp)
  |false=>
   have HokW:Hid (¬ dval ds<9223372036854775808):=hide (by simpa using hok.symm)
   clear hok hxv
   go_wp2_with fail
   refine (zaV ds (-(b:Int)) _ _ hown2.byt (by omega) Hend.out.hd (by omega) (by omega)).mono ?_
   rintro e w3 hNear
   obtain ⟨W,ok,W0,rfl,hD,hok,hW,hbn⟩:=hNear
   have hb3:=HBX.trans (hbn.mono hbs)
   obtain ⟨d0,d1,d2,g0,g1,g2⟩:=resC hb3
   have hWle:=zd5 hD
   have HD:=hide hD
   clear hD c0 c1 c2 f0 f1 f2
   cases ok with
   |false=>
    have Hok:=hide hok
    clear hok hW
    have HR:Hid (DecR (bs s) zeroR):=hide (zc6 Hend.out Hn1.out Hkl.out (fun _=>HokW.out) (zbP HD.out Hok.out))
    go_wp2
    all_goals (refine bodyPost_ret (v:=zeroR) ?_ rfl ⟨_,rfl,HR.out,?_⟩;(simp [results,Tryz.results69,go_sem,numV,zeroR,d0,d1,d2]);refine Below.setCell (Below.setCell (Below.setCell (zab hb3) ?_ _) ?_ _) ?_ _;all_goals simp)
   |true=>
    have HW:=hide (hW rfl)
    have Hok:=hide hok
    clear hok hW
    have HR:Hid (DecR (bs s) (.tuple #[numV true 0 W,.bool true])):=hide (zc6 Hend.out Hn1.out Hkl.out (fun _=>HokW.out) (zbm HD.out Hok.out HW.out))
    have hWle2:(W:Int)<=9218868437227405312:=by have:=HW.out;unfold infW at hWle;omega
    have hbs3:=hb3.size
    simp at hbs3
    go_wp2_with (go_at_call 28;refine (zbN W _ (by omega) hWle2).mono ?_;rintro e w4 ⟨rfl,hb4⟩;have hb34:=hb3.trans (hb4.mono hbs3);obtain ⟨c0,c1,c2,f0,f1,f2⟩:=resC hb34)
    all_goals (refine bodyPost_ret (v:=.tuple #[numV true 0 W,.bool true]) ?_ rfl ⟨_,rfl,HR.out,?_⟩;(simp [results,Tryz.results69,go_sem,numV,c0,c1,c2]);refine Below.setCell (Below.setCell (Below.setCell (zab hb34) ?_ _) ?_ _) ?_ _;all_goals simp)
 have hpz:((p:Int)==0)=false:=by rw [beq_eq_false_iff_ne];omega
 have Hp0:=hide hp0
 clear hp0 hkl
 go_wp2_with fail
 refine (zaV ds (-(b:Int)) _ _ hown2.byt (by omega) Hend.out.hd (by omega) (by omega)).mono ?_
 rintro e w3 hNear
 obtain ⟨W,ok,W0,rfl,hD,hok,hW,hbn⟩:=hNear
 have hb3:=HBX.trans (hbn.mono hbs)
 obtain ⟨d0,d1,d2,g0,g1,g2⟩:=resC hb3
 have hWle:=zd5 hD
 have HD:=hide hD
 clear hD c0 c1 c2 f0 f1 f2
 cases ok with
 |false=>
  have Hok:=hide hok
  clear hok hW
  have HR:Hid (DecR (bs s) zeroR):=hide (zc6 Hend.out Hn1.out Hkl.out (fun h=>absurd h Hp0.out) (zbP HD.out Hok.out))
  go_wp2
  all_goals (refine bodyPost_ret (v:=zeroR) ?_ rfl ⟨_,rfl,HR.out,?_⟩;(simp [results,Tryz.results69,go_sem,numV,zeroR,d0,d1,d2]);refine Below.setCell (Below.setCell (Below.setCell (zab hb3) ?_ _) ?_ _) ?_ _;all_goals simp)
 |true=>
  have HW:=hide (hW rfl)
  have Hok:=hide hok
  clear hok hW
  have HR:Hid (DecR (bs s) (.tuple #[numV true 0 W,.bool true])):=hide (zc6 Hend.out Hn1.out Hkl.out (fun h=>absurd h Hp0.out) (zbm HD.out Hok.out HW.out))
  have hWle2:(W:Int)<=9218868437227405312:=by have:=HW.out;unfold infW at hWle;omega
  have hbs3:=hb3.size
  simp at hbs3
  go_wp2_with (go_at_call 28;refine (zbN W _ (by omega) hWle2).mono ?_;rintro e w4 ⟨rfl,hb4⟩;have hb34:=hb3.trans (hb4.mono hbs3);obtain ⟨c0,c1,c2,f0,f1,f2⟩:=resC hb34)
  all_goals (refine bodyPost_ret (v:=.tuple #[numV true 0 W,.bool true]) ?_ rfl ⟨_,rfl,HR.out,?_⟩;(simp [results,Tryz.results69,go_sem,numV,c0,c1,c2]);refine Below.setCell (Below.setCell (Below.setCell (zab hb34) ?_ _) ?_ _) ?_ _;all_goals simp)
theorem zpe (s:ByteArray) (w:World) (hs:100<s.size) (hr:s.size<=140737488351232):
 Rb 69 #[.string s] w zeroR:=by
 go_enter Tryz.func69,Tryz.ntmps69
 go_wp2
 refine bodyPost_ret (v:=zeroR) (by simp [results,Tryz.results69,go_sem,numV,zeroR]) rfl ⟨rfl,?_⟩
 exact (Below.refl _ _).alloc (Nat.le_refl _) _
theorem zuC (s:ByteArray) (w:World) (hs:s.size<=100) (hx:1<s.size) (hq:(((s[0].toNat:Nat):Int)==48)=true)
 (hq1:(((s[1].toNat:Nat):Int)==120)=true∨((((s[1].toNat:Nat):Int)==120)=false/\(((s[1].toNat:Nat):Int)==88)=true)):
 Rb 69 #[.string s] w (hexR (s.extract 2 s.size)):=by
 have hsz:(s.extract 2 s.size).size<=100:=by simp;omega
 rcases hq1 with hq1|⟨hq1,hq2⟩
 ·go_enter Tryz.func69,Tryz.ntmps69
  go_wp2_with fail
  refine rb (zmF (s.extract 2 s.size) _ hsz) fun w1 hb=>?_
  have hb':Below (w.heap.size+1) (w.alloc (.cells #[.bool false,.int .i64 0,.int .u64 0] 26)) w1:=hb.mono (by simp)
  obtain ⟨c0,c1,c2,f0,f1,f2⟩:=resC hb'
  obtain ⟨x,ok,hh⟩:∃ x ok,hexR (s.extract 2 s.size)=.tuple #[.agg #[.bool false,.int .i64 x,.int .u64 0],.bool ok]:=⟨_,_,by unfold hexR numV;exact Eq.refl _⟩
  have Hh:=hide hh
  rw [hh]
  clear hh
  go_wp2
  refine bodyPost_ret (v:=.tuple #[.agg #[.bool false,.int .i64 x,.int .u64 0],.bool ok]) ?_ rfl ⟨by rw [Hh.out],?_⟩
  ·simp [results,Tryz.results69,go_sem,c0,c1,c2]
  refine Below.setCell (Below.setCell (Below.setCell (zab hb') ?_ _) ?_ _) ?_ _
  all_goals simp
 go_enter Tryz.func69,Tryz.ntmps69
 go_wp2_with fail
 refine rb (zmF (s.extract 2 s.size) _ hsz) fun w1 hb=>?_
 have hb':Below (w.heap.size+1) (w.alloc (.cells #[.bool false,.int .i64 0,.int .u64 0] 26)) w1:=hb.mono (by simp)
 obtain ⟨c0,c1,c2,f0,f1,f2⟩:=resC hb'
 obtain ⟨x,ok,hh⟩:∃ x ok,hexR (s.extract 2 s.size)=.tuple #[.agg #[.bool false,.int .i64 x,.int .u64 0],.bool ok]:=⟨_,_,by unfold hexR numV;exact Eq.refl _⟩
 have Hh:=hide hh
 rw [hh]
 clear hh
 go_wp2
 refine bodyPost_ret (v:=.tuple #[.agg #[.bool false,.int .i64 x,.int .u64 0],.bool ok]) ?_ rfl ⟨by rw [Hh.out],?_⟩
 ·simp [results,Tryz.results69,go_sem,c0,c1,c2]
 refine Below.setCell (Below.setCell (Below.setCell (zab hb') ?_ _) ?_ _) ?_ _
 all_goals simp
theorem zlr (s:ByteArray) (w:World) (hr:s.size<=140737488351232):
 Calls Tryz.prog 69 #[.string s] w fun e w'=>∃ r,e=.returned r/\PNR s r/\Below w.heap.size w w':=by
 by_cases hl:100<s.size
 ·refine rb (zpe s w hl hr) fun w' hb=>?_
  exact ⟨_,rfl,by unfold PNR;rw [if_pos hl],hb⟩
 have hs:s.size<=100:=by omega
 by_cases hx:1<s.size
 ·have g0:(bs s).getD 0 0=((s[0].toNat:Nat):Int):=zaf (by omega)
  have g1:(bs s).getD 1 0=((s[1].toNat:Nat):Int):=zaf hx
  have hlen:decide (1<(bs s).length)=true:=by rw [zad];simpa using hx
  by_cases hq:((s[0].toNat:Nat):Int)=48
  ·have bq:(((s[0].toNat:Nat):Int)==48)=true:=by rw [beq_iff_eq];exact hq
   by_cases hq1:((s[1].toNat:Nat):Int)=120∨((s[1].toNat:Nat):Int)=88
   ·have hp:zcv (bs s)=true:=by unfold zcv;rw [hlen,g0,g1];simp [hq,hq1]
    refine (zuC s w hs hx bq (by
     by_cases h1:((s[1].toNat:Nat):Int)=120
     ·left;rw [beq_iff_eq];exact h1
     right;exact ⟨by rw [beq_eq_false_iff_ne];exact h1,by rw [beq_iff_eq];exact hq1.resolve_left h1⟩)).mono ?_
    rintro e w' ⟨rfl,hb⟩
    exact ⟨_,rfl,by unfold PNR;rw [if_neg hl,if_pos hp],hb⟩
   have hp:¬ zcv (bs s)=true:=by unfold zcv;rw [hlen,g0,g1];simp [hq];omega
   refine (zto s w hs hx bq (by rw [beq_eq_false_iff_ne];omega) (by rw [beq_eq_false_iff_ne];omega)).mono ?_
   rintro e w' ⟨r,rfl,hr,hb⟩
   exact ⟨r,rfl,by unfold PNR;rw [if_neg hl,if_neg hp];exact hr,hb⟩
  have hp:¬ zcv (bs s)=true:=by unfold zcv;rw [hlen,g0,g1];simp [hq]
  refine (zrP s w hs hx (by rw [beq_eq_false_iff_ne];exact hq)).mono ?_
  rintro e w' ⟨r,rfl,hr,hb⟩
  exact ⟨r,rfl,by unfold PNR;rw [if_neg hl,if_neg hp];exact hr,hb⟩
 have hp:¬ zcv (bs s)=true:=by unfold zcv;rw [zad];simp [hx]
 refine (zsq s w hs (by omega)).mono ?_
 rintro e w' ⟨r,rfl,hr,hb⟩
 exact ⟨r,rfl,by unfold PNR;rw [if_neg hl,if_neg hp];exact hr,hb⟩
theorem zbj.unique {N:Nat} {E:Int} {r r':Value} (h:zbj N E r) (h':zbj N E r'):r=r':=by
 obtain ⟨W,h1,rfl⟩:=h
 obtain ⟨W',h1',rfl⟩:=h'
 have:W=W':=IsRnd.unique h1 h1'
 rw [this]
theorem PNR.unique {s:ByteArray} {r r':Value} (h:PNR s r) (h':PNR s r'):r=r':=by
 unfold PNR at h h'
 split at h
 ·rename_i c;rw [if_pos c] at h';rw [h,h']
 rename_i c
 rw [if_neg c] at h'
 split at h
 ·rename_i c2;rw [if_pos c2] at h';rw [h,h']
 rename_i c2
 rw [if_neg c2] at h'
 unfold DecR at h h'
 split at h
 ·rename_i c3;rw [if_pos c3] at h';rw [h,h']
 rename_i c3
 rw [if_neg c3] at h'
 split at h
 ·rename_i c4;rw [if_pos c4] at h';rw [h,h']
 rename_i c4
 rw [if_neg c4] at h'
 split at h
 ·rename_i c5;rw [c5] at h';rw [h];exact h'.symm
 rename_i x c5;rw [c5] at h';exact zbj.unique h h'
theorem zci (s:ByteArray):(!s.toList.isEmpty)=decide (0<s.size):=by
 rw [Lib.size_eq,Lib.toList_data]
 cases h:s.data.toList<;>simp
theorem zuY {a d:Nat} (hd:d<16):16*a|||d=16*a+d:=by
 have:=Nat.two_pow_add_eq_or_of_lt (i:=4) (b:=d) (by omega) a
 simpa using this.symm
theorem zu5 {x d:Int} (hx0:0<=x) (hd0:0<=d) (hd1:d<16):bits .or .u64 (IntKind.u64.wrap (x*16)) d=(x*16)%18446744073709551616+d:=by
 have e1:IntKind.u64.wrap (x*16)=(x*16)%18446744073709551616:=by simp [IntKind.wrap,IntKind.signed,IntKind.bits]
 rw [e1]
 obtain ⟨n,hn⟩:∃ n:Nat,(x*16)%18446744073709551616=((16*n:Nat):Int):=⟨((x*16)%18446744073709551616/16).toNat,by omega⟩
 obtain ⟨m,rfl⟩:∃ m:Nat,d=(m:Int):=⟨d.toNat,by omega⟩
 rw [hn,u64_or_nat _ _ (by omega) (by omega),zuY (by omega)]
 omega
theorem zqv {N:Nat} {x d:Int} (h:x=(N:Int)%18446744073709551616) (h0:0<=d) (h1:d<16):(x*16)%18446744073709551616+d=((N*16+d.toNat:Nat):Int)%18446744073709551616:=by omega
theorem zsf {N:Nat} {x:Int} (h:x=(N:Int)%18446744073709551616):wrap64 x=wrap64 (N:Int):=by unfold wrap64;omega
def hexD (c:Int):Value:=if 0<=hexV c then .tuple #[.int .u8 (hexV c),.bool true] else .tuple #[.int .u8 0,.bool false]
theorem zfw {c v:Int} (h:hexV c=v) (h0:0<=v):hexD c=.tuple #[.int .u8 v,.bool true]:=by unfold hexD;rw [h,if_pos h0]
theorem zok {c:Int} (h:hexV c= -1):hexD c=.tuple #[.int .u8 0,.bool false]:=by unfold hexD;rw [h,if_neg (by omega)]
theorem zc7 (c:Int) (w:World) (h0:0<=c) (h1:c<256):
 Rs 62 #[.int .u8 c] w (hexD c):=by
 by_cases a1:48<=c/\c<=57
 ·have H:=hide (zfw (c:=c) (v:=c-48) (by unfold hexV;rw [if_pos a1]) (by omega))
  obtain ⟨a2,a3⟩:=a1
  go_enter Tryz.func62,Tryz.ntmps62
  go_wp2
  go_ret2
  exact ⟨by rw [H.out];rfl,rfl⟩
 by_cases b1:97<=c/\c<=102
 ·have H:=hide (zfw (c:=c) (v:=c-97+10) (by unfold hexV;rw [if_neg a1,if_pos b1];omega) (by omega))
  obtain ⟨b2,b3⟩:=b1
  go_enter Tryz.func62,Tryz.ntmps62
  go_wp2
  go_ret2
  exact ⟨by rw [H.out];rfl,rfl⟩
 by_cases c1:65<=c/\c<=70
 ·have H:=hide (zfw (c:=c) (v:=c-65+10) (by unfold hexV;rw [if_neg a1,if_neg b1,if_pos c1];omega) (by omega))
  obtain ⟨c2,c3⟩:=c1
  go_enter Tryz.func62,Tryz.ntmps62
  go_wp2
  go_ret2
  exact ⟨by rw [H.out];rfl,rfl⟩
 have H:=hide (zok (c:=c) (by unfold hexV;rw [if_neg a1,if_neg b1,if_neg c1]))
 go_enter Tryz.func62,Tryz.ntmps62
 go_wp2
 all_goals go_ret2
 all_goals exact ⟨by rw [H.out];rfl,rfl⟩
theorem zcT (i:Int) (w:World):Rb 63 #[.int .i64 i] w (.agg #[.bool false,.int .i64 i,.int .u64 0]):=by
 go_enter Tryz.func63,Tryz.ntmps63
 go_wp2
 exact bodyPost_ret (v:=.agg #[.bool false,.int .i64 i,.int .u64 0]) (by simp [results,Tryz.results63,go_sem]) rfl ⟨rfl,(Below.refl _ _).alloc (Nat.le_refl _) _⟩
theorem zf1 (s:ByteArray) (w:World) (hs:s.size<=100):
 Rb 34 #[.string s] w (hexR s):=by
 have Hl:=hide (zad s)
 go_enter Tryz.func34,Tryz.ntmps34
 go_wp2
 go_loop [4,10] (fun vv iv=>∃ (k:Nat) (x:Int),k<=s.size/\iv=.int .i64 k/\vv=.int .u64 x/\0<=x/\x<18446744073709551616/\Hid (x=(hexN ((bs s).take k):Int)%18446744073709551616)/\Hid (∀ j,j<k->0<=hexV ((bs s).getD j 0))) (fun _ iv=>s.size-(intOf iv).toNat)
 case atStart=>exact ⟨0,0,Nat.zero_le _,rfl,rfl,by omega,by omega,hide (by simp [hexN]),hide (fun j hj=>by omega)⟩
 obtain ⟨k,x,hk,rfl,rfl,hx0,hx1,Hx,Ha⟩:=hrel
 by_cases hlt:k<s.size
 ·have hgd:=zaf hlt
  have HT:=hide (ziB (l:=bs s) (k:=k) (by rw [Hl.out];exact hlt))
  have hb1:((s[k].toNat:Nat):Int)<256:=by have:=s[k].toNat_lt;omega
  have hb0:(0:Int)<=((s[k].toNat:Nat):Int):=by omega
  have hv1:=zmw ((s[k].toNat:Nat):Int)
  have hv0:=znX ((s[k].toNat:Nat):Int)
  have Hg:=hide hgd
  clear hgd
  by_cases hneg:hexV ((s[k].toNat:Nat):Int)<0
  ·have Hf:=hide (zeX (l:=bs s) (k:=k) (by rw [Hl.out];exact hlt) (by rw [Hg.out];exact hneg))
   have HD:=hide (zok (c:=((s[k].toNat:Nat):Int)) (by omega))
   go_wp2_with (go_at_call 62;refine (zc7 _ _ hb0 hb1).mono ?_;rintro e w' ⟨rfl,rfl⟩;rw [HD.out])
   refine bodyPost_ret (v:=.tuple #[numV false 0 0,.bool false]) (by simp [results,Tryz.results34,go_sem,numV]) rfl ⟨by rw [zmU Hf.out],?_⟩
   exact (Below.refl _ _).alloc (Nat.le_refl _) _
  have HD:=hide (zfw (c:=((s[k].toNat:Nat):Int)) rfl (by omega))
  have hv2:0<=hexV ((s[k].toNat:Nat):Int):=by omega
  generalize hdd:hexV ((s[k].toNat:Nat):Int)=d at *
  have Hdd:=hide hdd
  clear hdd
  go_wp2_with (go_at_call 62;refine (zc7 _ _ hb0 hb1).mono ?_;rintro e w' ⟨rfl,rfl⟩;rw [HD.out])
  have HO:=hide (zu5 hx0 hv2 hv1)
  have HS:=hide (zqv Hx.out hv2 hv1)
  have hlo:0<=(x*16)%18446744073709551616+d:=by omega
  have hhi:(x*16)%18446744073709551616+d<18446744073709551616:=by omega
  go_round
  case rel=>exact ⟨k+1,(x*16)%18446744073709551616+d,by omega,by go_num,by rw [HO.out],hlo,hhi,hide (by rw [HT.out,Hg.out,Hdd.out];exact HS.out),hide (fun j hj=>by
   by_cases e:j=k
   ·subst e;rw [Hg.out,Hdd.out];exact hv2
   exact Ha.out j (by omega))⟩
  case measure=>simp [intOf];omega
 have hkl:k=s.size:=by omega
 have HA:Hid (zdF (bs s)=true):=hide (zfA (fun j hj=>Ha.out j (by rw [Hl.out] at hj;omega)))
 have HX:Hid (wrap64 x=wrap64 (hexN (bs s))):=hide (by
  have h1:=Hx.out
  rw [hkl,<-Hl.out,List.take_length] at h1
  exact zsf h1)
 have Hk:=hide hkl
 clear hkl
 go_wp2_with fail
 refine rb (zcT (wrap64 x) _) fun w' hb'=>?_
 obtain ⟨hc,hf⟩:=bcell hb'
 go_wp2
 refine bodyPost_ret (v:=.tuple #[numV false (wrap64 x) 0,.bool (!s.toList.isEmpty)]) ?_ rfl ⟨by rw [zkv HA.out,HX.out,zci],?_⟩
 ·simp [results,Tryz.results34,go_sem,numV,hc]
 refine Below.setCell (Below.setCell (Below.setCell ?_ ?_ _) ?_ _) ?_ _
 ·exact ((Below.refl _ _).alloc (Nat.le_refl _) _).trans (hb'.mono (by simp))
 all_goals simp
theorem zao (s:ByteArray) (w:World) (hs:s.size<=140737488351232):
 Rs 65 #[.string s] w (.bool (zae (bs s))):=by
 have Hl:=hide (zad s)
 go_enter Tryz.func65,Tryz.ntmps65
 go_wp2
 go_loop [6] (fun iv=>∃ (k:Nat),k<=s.size/\iv=.int .i64 k/\Hid (∀ j,j<k->zax ((bs s).getD j 0)=true)) (fun iv=>s.size-(intOf iv).toNat)
 case atStart=>exact ⟨0,Nat.zero_le _,rfl,hide (fun j hj=>by omega)⟩
 obtain ⟨k,hk,rfl,Ha⟩:=hrel
 by_cases hlt:k<s.size
 ·have Hg:=hide (zaf hlt)
  have hb0:(0:Int)<=((s[k].toNat:Nat):Int):=by omega
  by_cases hd:48<=((s[k].toNat:Nat):Int)/\((s[k].toNat:Nat):Int)<=57
  ·have Hd:Hid (zax ((s[k].toNat:Nat):Int)=true):=hide (by simp [zax,hd])
   obtain ⟨hd1,hd2⟩:=hd
   go_wp2
   go_round
   case rel=>exact ⟨k+1,by omega,by go_num,hide (fun j hj=>by
    by_cases e:j=k
    ·subst e;rw [Hg.out];exact Hd.out
    exact Ha.out j (by omega))⟩
   case measure=>simp [intOf];omega
  have Hf:=hide (ze3 (l:=bs s) (k:=k) (by rw [Hl.out];exact hlt) (by rw [Hg.out];simp [zax];omega))
  go_wp2
  all_goals go_ret
  all_goals exact ⟨by rw [Hf.out];rfl,rfl⟩
 have HA:Hid (zae (bs s)=true):=hide (zfE (fun j hj=>Ha.out j (by rw [Hl.out] at hj;omega)))
 go_wp2
 go_ret
 exact ⟨by rw [HA.out];rfl,rfl⟩
theorem zmB (l:List Int):(expB l).isSome=(decide (1<=l.length)&&decide (l.length<=3)&&zae l):=by
 unfold expB
 split
 ·rename_i h;simp [h.1,h.2.1,h.2.2]
 rename_i h
 symm
 simp only [Option.isSome_none,Bool.and_eq_false_iff,decide_eq_false_iff_not]
 by_cases h1:1<=l.length
 ·by_cases h2:l.length<=3
  ·right
   cases h3:zae l
   ·rfl
   exact absurd ⟨h1,h2,h3⟩ h
  left;right;exact h2
 left;left;exact h1
theorem zkE {d:ByteArray} (h:d.size<1∨3<d.size):(expB (bs d)).isSome=false:=by
 rw [zcV (by rw [zad];exact h)];rfl
theorem znU {d:ByteArray} (h1:1<=d.size) (h3:d.size<=3):(expB (bs d)).isSome=zae (bs d):=by
 rw [zmB,zad];simp [h1,h3]
theorem zi0 {s:ByteArray} (h:s.size=0):s.toList.isEmpty=true:=by
 have:=zci s
 rw [h] at this
 simpa using this
theorem zcU {s:ByteArray} (h:0<s.size):s.toList.isEmpty=false:=by
 have:=zci s
 rw [decide_eq_true h] at this
 simpa using this
theorem zs5 (s:ByteArray) (w:World) (h0:s.size=0):
 Rs 111 #[.string s] w (.bool (expS (bs s)).isSome):=by
 have he:=zi0 h0
 have HR:Hid ((expS (bs s)).isSome=false):=hide (by
  have:bs s=[]:=List.eq_nil_of_length_eq_zero (by rw [zad];exact h0)
  rw [this];rfl)
 have hle:s.size<1:=by omega
 clear h0
 go_enter Tryz.func111,Tryz.ntmps111
 go_wp2
 all_goals go_ret
 all_goals exact ⟨by rw [HR.out];rfl,rfl⟩
theorem zgF (s:ByteArray) (w:World) (hs:s.size<=100) (h0:0<s.size)
 (hc:(((s[0].toNat:Nat):Int)==43)=true∨((((s[0].toNat:Nat):Int)==43)=false/\(((s[0].toNat:Nat):Int)==45)=true))
 (HR:Hid ((expS (bs s)).isSome=(expB (bs (s.extract 1 s.size))).isSome)):
 Rs 111 #[.string s] w (.bool (expS (bs s)).isSome):=by
 have he:=zcU h0
 have hsz:=zaY s
 have Hsz:=hide hsz
 by_cases hg:2<=s.size/\s.size<=4
 ·obtain ⟨hg1,hg2⟩:=hg
  have HB:Hid ((expB (bs (s.extract 1 s.size))).isSome=zae (bs (s.extract 1 s.size))):=hide (znU (by rw [hsz];omega) (by rw [hsz];omega))
  have hle:(s.extract 1 s.size).size<=140737488351232:=by rw [hsz];omega
  clear hsz
  rcases hc with hc|⟨hc1,hc2⟩
  all_goals go_enter Tryz.func111,Tryz.ntmps111
  all_goals go_wp2_with (go_at_call 65;refine (zao (s.extract 1 s.size) _ hle).mono ?_;rintro e w' ⟨rfl,rfl⟩)
  all_goals go_ret
  all_goals exact ⟨by rw [HR.out,HB.out];rfl,rfl⟩
 have HB:Hid ((expB (bs (s.extract 1 s.size))).isSome=false):=hide (zkE (by rw [hsz];omega))
 clear hsz
 by_cases hg1:s.size<2
 all_goals rcases hc with hc|⟨hc1,hc2⟩
 all_goals go_enter Tryz.func111,Tryz.ntmps111
 all_goals go_wp2_with fail
 all_goals go_ret
 all_goals exact ⟨by rw [HR.out,HB.out];rfl,rfl⟩
theorem zi6 (s:ByteArray) (w:World) (hs:s.size<=100) (h0:0<s.size)
 (hc1:(((s[0].toNat:Nat):Int)==43)=false) (hc2:(((s[0].toNat:Nat):Int)==45)=false)
 (HR:Hid ((expS (bs s)).isSome=(expB (bs s)).isSome)):
 Rs 111 #[.string s] w (.bool (expS (bs s)).isSome):=by
 have he:=zcU h0
 by_cases hg:s.size<=3
 ·have HB:Hid ((expB (bs s)).isSome=zae (bs s)):=hide (znU (by omega) hg)
  have hle:s.size<=140737488351232:=by omega
  go_enter Tryz.func111,Tryz.ntmps111
  go_wp2_with (go_at_call 65;refine (zao s _ hle).mono ?_;rintro e w' ⟨rfl,rfl⟩)
  go_ret
  exact ⟨by rw [HR.out,HB.out];rfl,rfl⟩
 have HB:Hid ((expB (bs s)).isSome=false):=hide (zkE (by omega))
 go_enter Tryz.func111,Tryz.ntmps111
 go_wp2_with fail
 go_ret
 exact ⟨by rw [HR.out,HB.out];rfl,rfl⟩
theorem zdW (s:ByteArray) (w:World) (hs:s.size<=100):
 Rs 111 #[.string s] w (.bool (expS (bs s)).isSome):=by
 by_cases h0:s.size=0
 ·exact zs5 s w h0
 have h1:0<s.size:=by omega
 have hg:=zaf h1
 by_cases m1:((s[0].toNat:Nat):Int)=45
 ·refine zgF s w hs h1 (.inr ⟨by rw [m1];rfl,by rw [m1];rfl⟩) (hide ?_)
  unfold expS;rw [hg,if_pos m1,zeT];simp
 by_cases m2:((s[0].toNat:Nat):Int)=43
 ·refine zgF s w hs h1 (.inl (by rw [m2];rfl)) (hide ?_)
  unfold expS;rw [hg,if_neg m1,if_pos m2,zeT]
 refine zi6 s w hs h1 (by rw [beq_eq_false_iff_ne];exact m2) (by rw [beq_eq_false_iff_ne];exact m1) (hide ?_)
 unfold expS;rw [hg,if_neg m1,if_neg m2]
end Go.Proofs.YtamdnnkdnhkghaaGreatDoor
