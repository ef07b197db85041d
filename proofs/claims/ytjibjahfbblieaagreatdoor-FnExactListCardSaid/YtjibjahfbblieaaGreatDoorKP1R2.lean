import Derived.Test.YtjibjahfbblieaaGreatDoorKME
import Derived.Test.YtjibjahfbblieaaGreatDoorKMG
import Derived.Test.YtjibjahfbblieaaGreatDoorKP1R1
import Derived.Test.YtjibjahfbblieaaGreatDoorKShelf2
namespace Go.Proofs.YtjibjahfbblieaaGreatDoor
open Go Go.RowKit Go.Shelf
set_option linter.unusedVariables false
theorem CallsIn.toIn {P:Program} {f:FuncId} {args:Array Value} {w:World} {R:Ending->World->Prop} (l k:Nat) (h:Calls P f args w R):CallsIn (Fence.wide.inRound l) k P f args w R:=
 ⟨trivial,fun cs _=>(callsIn_wide.2 h:CallsIn Fence.wide k P f args w R).2 cs (room_wide _)⟩
section
variable {w w' A C : World} {B B' R : Nat} {L : List UInt8} {ad bf : Value}
theorem RwI.less (h:RwI w B R L ad bf) (hB:B'<=B):RwI w B' R L ad bf:=⟨h.r,h.a,D5 h.o hB⟩
theorem RwI.grown {row:Option Nat} (h:RwI A B R L ad bf) (hg:A.grownBy C row) (hr:∀ r,row=some r->∃ o:Obj,A.heap[r]?=some o/\o.isCells=false):RwI C B R L ad bf:=by
 have hs:∀ (g:Nat) (arr:Array Value) (T:Nat) (fr:Nat × Nat),A.heap[g]?=some (Obj.cells arr T fr)->C.heap[g]?=A.heap[g]?:=fun g arr T fr h1=>by
  refine hg.block g (Array.getElem?_eq_some_iff.1 h1).1 (fun e=>?_)
  obtain ⟨o,ho,hc⟩:=hr g e.symm
  rw [h1] at ho
  cases ho
  simp [Obj.isCells] at hc
 refine ⟨?_,h.a,sS h.o (fun g hgo=>?_)⟩
 ·obtain ⟨cur,h1,h2,h3⟩:=h.r
  exact ⟨cur,(hs _ _ _ _ h1).trans h1,h2,h3⟩
 ·obtain ⟨cur,h1,_⟩:=gZ h.o hgo
  exact hs _ _ _ _ h1
end
theorem JJ {T:Int->List UInt8} (hT:∀ u,(T u).length<=1000) {p:PV} (hw:Wri p) {x:List UInt8} (hx:x∈aJ T p):x.length<=300000:=by
 obtain ⟨⟨p0,p1⟩,⟨r0,r1⟩,⟨l0,l1⟩,n1,n2,n3,n4⟩:=hw.head
 unfold aJ at hx
 rcases List.mem_cons.1 hx with rfl|hx
 ·have a:=aO (v:=p.line) (by omega) (by omega)
  have b:=aO (v:=p.params) (by omega) (by omega)
  have c:=aO (v:=p.regs) (by omega) (by omega)
  unfold je oh
  simp only [List.length_append,List.length_cons,List.length_nil]
  omega
 ·rcases List.mem_append.1 hx with hx|hx
  ·obtain ⟨k,hk,rfl⟩:=List.mem_map.1 hx
   have hu:=hw.up (k:=k) (List.mem_range.1 hk)
   have hl:=aO (v:=p.u1 k) (by omega) (by omega)
   unfold qc
   split<;>(simp only [List.length_append,List.length_cons,List.length_nil];omega)
  ·rcases List.mem_append.1 hx with hx|hx
   ·obtain ⟨k,hk,rfl⟩:=List.mem_map.1 hx
    exact uj hT hw (List.mem_range.1 hk)
   ·obtain ⟨k,hk,rfl⟩:=List.mem_map.1 hx
    have:=Df hw (List.mem_range.1 hk)
    omega
theorem D7 {T:Int->List UInt8} (hT:∀ u,(T u).length<=1000) {n:Nat} {P:Nat->PV} (hw:∀ i,i<n->Wri (P i)) {x:List UInt8} (hx:x∈aG T n P):x.length<=300000:=by
 unfold aG at hx
 obtain ⟨i,hi,hx⟩:=List.mem_flatMap.1 hx
 exact JJ hT (hw i (List.mem_range.1 hi)) hx
theorem pz (l:List (List UInt8)) (x:List UInt8):flat (l++[x])=flat l++(x++[10]):=by
 rw [jN]
 simp [flat]
theorem C_ {a b:List (List UInt8)} (h:a<+:b):(flat a).length<=(flat b).length:=by
 obtain ⟨c,rfl⟩:=h
 rw [jN,List.length_append]
 omega
def Gg (T:Int->List UInt8) (n:Nat) (P:Nat->PV) (t:ByteArray) (c:Int):Prop:=
 (¬ (n<=65535/\∀ k,k<n->fU (P k))/\t=bT []/\c=12)∨
 ((n<=65535/\∀ k,k<n->fU (P k))/\((¬ (∀ k,k<n->pU (P k))/\t=bT []/\c=2)∨
   ((∀ k,k<n->pU (P k))/\((262144<(flat (aG T n P)).length/\t=bT []/\c=31)∨((flat (aG T n P)).length<=262144/\t=bT (flat (aG T n P))/\c=0)))))
theorem Gg.unique {T:Int->List UInt8} {n:Nat} {P:Nat->PV} {t t':ByteArray} {c c':Int} (h:Gg T n P t c) (h':Gg T n P t' c'):t=t'/\c=c':=by
 rcases h with ⟨a,rfl,rfl⟩|⟨a,⟨b,rfl,rfl⟩|⟨b,⟨d,rfl,rfl⟩|⟨d,rfl,rfl⟩⟩⟩
 all_goals
  rcases h' with ⟨a',rfl,rfl⟩|⟨a',⟨b',rfl,rfl⟩|⟨b',⟨d',rfl,rfl⟩|⟨d',rfl,rfl⟩⟩⟩
 all_goals first
  |exact ⟨rfl,rfl⟩
  |exact absurd a' a
  |exact absurd a a'
  |exact absurd b' b
  |exact absurd b b'
  |omega
structure ResC (w:World) (Z:Nat) (t:ByteArray) (c:Int):Prop where
 a:ah w 9 (Z+1) 1 (fun _=>.string t)
 b:ah w 3 (Z+1+1) 1 (fun _=>.int .i64 c)
theorem ResC.low {w w':World} {Z:Nat} {t:ByteArray} {c:Int} (h:ResC w Z t c) (hb:Below w.heap.size w w'):ResC w' Z t c:=⟨ah.low h.a hb (ah.lt h.a),ah.low h.b hb (ah.lt h.b)⟩
theorem ResC.grown {A C:World} {Z:Nat} {t:ByteArray} {c:Int} (h:ResC A Z t c) {row:Option Nat} (hg:A.grownBy C row) (hr:∀ r,row=some r->∃ o:Obj,A.heap[r]?=some o/\o.isCells=false):ResC C Z t c:=⟨h_ h.a hg hr,h_ h.b hg hr⟩
theorem ResC.kp {X:Nat->Prop} {R B Z:Nat} {A C:World} {L:List UInt8} {ad bf:Value} (k:KpL X R B A C) (hr:RwI A B R L ad bf) {t:ByteArray} {c:Int} (h:ResC A Z t c) (h1:¬ X (Z+1)) (h2:¬ X (Z+1+1)):ResC C Z t c:=
 ⟨k.row hr h.a (by decide) (by decide) h1,k.row hr h.b (by decide) (by decide) h2⟩
theorem ResC.put {w:World} {Z:Nat} {t:ByteArray} {c:Int} (h:ResC w Z t c) (t':ByteArray) (c':Int):ResC ((w.setCell ⟨Z+1,0,none⟩ (.string t')).setCell ⟨Z+1+1,0,none⟩ (.int .i64 c')) Z t' c':=
 ⟨((ah.set h.a (j:=0) (by omega) (.string t')).other (g':=Z+1+1) (j:=0) (by omega)).congr (fun j hj=>by
     obtain rfl:j=0:=by omega
     simp),((ah.other h.b (g':=Z+1) (j:=0) (x:=.string t') (by omega)).set (j:=0) (by omega) (.int .i64 c')).congr (fun j hj=>by
     obtain rfl:j=0:=by omega
     simp)⟩
theorem ResC.cells {w:World} {Z:Nat} {t:ByteArray} {c:Int} (h:ResC w Z t c):w.cell? ⟨Z+1,0,none⟩=some (.string t)/\w.cell? ⟨Z+1+1,0,none⟩=some (.int .i64 c)/\w.frozen? ⟨Z+1,0,none⟩=false/\w.frozen? ⟨Z+1+1,0,none⟩=false:=
 ⟨ah.cell h.a (j:=0) (by omega),ah.cell h.b (j:=0) (by omega),ah.frz h.a 0,ah.frz h.b 0⟩
theorem kD {w w1:World} {Z:Nat} (hb:Below Z w w1) (x y:Value):Below Z w ((w1.setCell ⟨Z+1,0,none⟩ x).setCell ⟨Z+1+1,0,none⟩ y):=
 (hb.setCell (p:=⟨Z+1,0,none⟩) (by show Z<=Z+1;omega) x).setCell (p:=⟨Z+1+1,0,none⟩) (by show Z<=Z+1+1;omega) y
theorem yj (w:World) (B R:Nat) (L:List UInt8) (ad bf:Value) (h:RwI w B R L ad bf) (hB:B<=w.heap.size) (hl:L.length+1<=140737488355328):
 Calls Tryz.prog 21 #[.pointer (some ⟨R,0,none⟩),.int .u8 10] w fun e w'=>e=.returned .nilIface/\(∃ bf',RwI w' B R (L++[10]) (.pointer (some ⟨R,0,none⟩)) bf')/\KpR R w w':=by
 have h9:=AL w B R L ad bf 10 h hB hl
 have e:(((10:UInt8).toNat:Nat):Int)=10:=by decide
 rw [e] at h9
 exact h9
theorem leave0 {F:Fence} {m:Nat} {P:Program} {fn:Func} {tmps:Array Value} {R:Ending->World->Prop} {u:Value} {w:World} (h:(results fn tmps).run P w=.ok u w) (hR:R (.returned u) w):LeavesInM F m P fn tmps R [] .returning w:=⟨u,h,hR⟩
theorem iN {w:World} {Z:Nat} {t:ByteArray} {c:Int} (tmps:Array Value) (h2:tmps[2]?.getD undef=.pointer (some ⟨Z+1,0,none⟩)) (h3:tmps[3]?.getD undef=.pointer (some ⟨Z+1+1,0,none⟩)) (hR:ResC w Z t c):(results Tryz.f7 tmps).run Tryz.prog w=.ok (.tuple #[.string t,.int .i64 c]) w:=by
 obtain ⟨q1,q2,-,-⟩:=hR.cells
 simp [results,Tryz.results7,go_sem,h2,h3,q1,q2]
end Go.Proofs.YtjibjahfbblieaaGreatDoor
namespace Go.Proofs.YtjibjahfbblieaaGreatDoor.F
open Go Go.RowKit Go.Lib
set_option linter.unusedVariables false
theorem vU {α β:Type} {l:List α} {f:α->β} {k:Nat} {x:α} (h:k<l.length):(l.map f)[k]?=some (f (l.getD k x)):=by
 rw [List.getElem?_map,List.getElem?_eq_getElem h,List.getD_eq_getElem?_getD,List.getElem?_eq_getElem h]
 rfl
theorem rd_tens {L:List (String × DataW Unit)} {W:World} (h:laidMet Tryz.prog L W) (hm:("internal/strconv.float64pow10",Rows.laid_internal_strconv_float64pow10)∈L):∃ G o,W.cell? ⟨18,0,none⟩=some (.slice (some ⟨G,o,none⟩) 23 23)/\G<W.heap.size/\∀ k,k<23->W.cell? ⟨G,o+k,none⟩=some (.float .f64 (fC.getD k 0)):=by
 obtain ⟨g,t,cs,fuel,p,hg,hty,hvar,hd⟩:=laidMet.reads h (n:= "internal/strconv.float64pow10") (d:=Rows.laid_internal_strconv_float64pow10) hm
 obtain rfl:=Option.some.inj ((show Tryz.prog.globalNamed "internal/strconv.float64pow10" =some 18 by kernel_rfl).symm.trans hg)
 obtain rfl:=Option.some.inj ((show (Tryz.prog.globals[18]?).map (·.type)=some 335 by kernel_rfl).symm.trans hty)
 have hdat:(Rows.laid_internal_strconv_float64pow10:DataW Unit)=.slice (fC.map fun z=>.lit (.float .f64 z)) []:=rfl
 rw [hdat] at hd
 obtain ⟨a,n,h1,h2⟩:=kN Tryz.underlying335 (fun _=>rfl) hd
 have c52:Tryz.prog.cellsOf 162=1:=by kernel_rfl
 have hlen:fC.length=23:=rfl
 rw [c52] at h2
 have key:∀ k,k<23->W.cell? (a.add (k*1))=some (.float .f64 (fC.getD k 0)):=by
  intro k hk
  obtain ⟨cs',q,h3,h4⟩:=h2 k _ (vU (x:=0) (by rw [hlen];exact hk))
  obtain ⟨m,k1,l1⟩:=Al Tryz.underlying162 h4
  have:=congrArg Prod.fst l1
  simp only [DataW.lit.injEq,Lit.float.injEq,true_and] at this
  have h5:=nM h3 (i:=0) (by omega)
  rw [k1,<-this] at h5
  exact h5
 obtain ⟨P,po,sp⟩:=a
 have hsp:sp=none:=cell_spot (key 0 (by omega))
 subst hsp
 refine ⟨P,po,?_,cell_lt (key 0 (by omega)),fun k hk=>?_⟩
 ·rw [World.var?_cell hg hvar 0,<-Array.getElem?_toList,h1];rfl
 ·have:=key k hk
  rw [Nat.mul_one,dW] at this
  exact this
theorem Ja {L:List (String × DataW Unit)} {W:World} (h:laidMet Tryz.prog L W) (hm:("strconv.ErrRange",Rows.laid_strconv_ErrRange)∈L):∃ te pe,W.cell? ⟨6,0,none⟩=some (.iface te pe):=by
 obtain ⟨g,t,cs,fuel,p,hg,hty,hvar,hd⟩:=laidMet.reads h (n:= "strconv.ErrRange") (d:=Rows.laid_strconv_ErrRange) hm
 obtain rfl:=Option.some.inj ((show Tryz.prog.globalNamed "strconv.ErrRange" =some 6 by kernel_rfl).symm.trans hg)
 obtain rfl:=Option.some.inj ((show (Tryz.prog.globals[6]?).map (·.type)=some 65 by kernel_rfl).symm.trans hty)
 obtain ⟨f',u,v,h1,_,_⟩:=iface_of_trod Tryz.underlying65 hd
 refine ⟨u,v,?_⟩
 rw [World.var?_cell hg hvar 0,<-Array.getElem?_toList,h1]
 rfl
theorem DR {L:List (String × DataW Unit)} {W:World} (hz:18<W.heap.size) (h:laidMet Tryz.prog L W) (hm:("internal/strconv.leftcheats",Rows.laid_internal_strconv_leftcheats)∈L):∃ C co,Cheats W C co:=by
 obtain ⟨g,t,cs,fuel,p,hg,hty,hvar,hd⟩:=laidMet.reads h (n:= "internal/strconv.leftcheats") (d:=Rows.laid_internal_strconv_leftcheats) hm
 obtain rfl:=Option.some.inj ((show Tryz.prog.globalNamed "internal/strconv.leftcheats" =some 15 by kernel_rfl).symm.trans hg)
 obtain rfl:=Option.some.inj ((show (Tryz.prog.globals[15]?).map (·.type)=some 329 by kernel_rfl).symm.trans hty)
 have hdat:(Rows.laid_internal_strconv_leftcheats:DataW Unit)=.slice (Go.Pinned.cheatRows.map fun x=>.agg [.lit (.int .i64 x.1),.lit (.string x.2)]) []:=rfl
 rw [hdat] at hd
 obtain ⟨a,n,h1,h2⟩:=kN Tryz.underlying329 (fun _=>rfl) hd
 have c157:Tryz.prog.cellsOf 328=2:=by kernel_rfl
 have c3:Tryz.prog.cellsOf 3=1:=by kernel_rfl
 have c9:Tryz.prog.cellsOf 9=1:=by kernel_rfl
 have hlen:Go.Pinned.cheatRows.length=61:=by decide
 rw [c157] at h2
 have key:∀ k,k<61->W.cell? ((a.add (k*2)).add 0)=some (.int .i64 (aN k).1)/\∃ s:ByteArray,W.cell? ((a.add (k*2)).add 1)=some (.string s)/\bs s=(aN k).2.map (fun b=>(b.toNat:Int)):=by
  intro k hk
  obtain ⟨cs',q,h3,h4⟩:=h2 k _ (vU (x:=(0,[])) (by rw [hlen];exact hk))
  obtain ⟨xs,n',rfl,hx,hl,hxl,hall⟩:=DataW.trod_struct Tryz.underlying328 h4
  have hxs:xs.map (·.1)=[.lit (.int .i64 (aN k).1),.lit (.string (aN k).2)]:=by
   have:=congrArg Prod.fst hx
   simp only [DataW.agg.injEq] at this
   exact this.symm
  have f0:DataW.trod (fun _=>()) Tryz.prog W 0 (fun _=>true) false n' 3 ((cs'.drop 0).take (Tryz.prog.cellsOf 3))=xs[0]?:=hall 0 _ rfl
  have f1:DataW.trod (fun _=>()) Tryz.prog W 0 (fun _=>true) false n' 9 ((cs'.drop 1).take (Tryz.prog.cellsOf 9))=xs[1]?:=hall 1 _ rfl
  rw [c3] at f0
  rw [c9] at f1
  have g0:=congrArg (·[0]?) hxs
  have g1:=congrArg (·[1]?) hxs
  simp only [List.getElem?_map] at g0 g1
  obtain ⟨y0,hy0,e0⟩:=Option.map_eq_some_iff.1 g0
  obtain ⟨y1,hy1,e1⟩:=Option.map_eq_some_iff.1 g1
  rw [hy0] at f0
  rw [hy1] at f1
  obtain ⟨n0,k0,l0,_⟩:=DataW.trod_int Tryz.underlying3 f0
  obtain ⟨s,k1,l1,_⟩:=DataW.trod_string Tryz.underlying9 f1
  rw [l0] at e0
  rw [l1] at e1
  simp only [DataW.lit.injEq,Lit.int.injEq,true_and,Lit.string.injEq] at e0 e1
  constructor
  ·rw [nM h3 (by omega),<-e0]
   have:=congrArg (·[0]?) k0
   simpa [List.getElem?_take,List.getElem?_drop] using this
  ·refine ⟨s,?_,?_⟩
   ·rw [nM h3 (by omega)]
    have:=congrArg (·[0]?) k1
    simpa [List.getElem?_take,List.getElem?_drop] using this
   ·show s.data.toList.map _=_;rw [e1]
 have hsp:a.spot=none:=by
  obtain ⟨b,o,sp⟩:=a
  have:=(key 0 (by omega)).1
  exact cell_spot this
 obtain ⟨C,co,sp⟩:=a
 have hsp':sp=none:=hsp
 subst hsp'
 refine ⟨C,co,?_,?_,?_,fun k hk=>?_,fun k hk=>?_⟩
 ·exact hz
 ·have:=(key 0 (by omega)).1
  rw [dW,dW] at this
  exact cell_lt this
 ·rw [World.var?_cell hg hvar 0,<-Array.getElem?_toList,h1];rfl
 ·have:=(key k hk).1
  rw [dW,dW] at this
  exact this
 ·obtain ⟨s,h5,h6⟩:=(key k hk).2
  rw [dW,dW] at h5
  exact ⟨s,h5,h6⟩
theorem rd_pow10 {L:List (String × DataW Unit)} {W:World} (h:laidMet Tryz.prog L W) (hm:("internal/strconv.pow10Tab",Rows.laid_internal_strconv_pow10Tab)∈L):∀ i,i<696->W.cell? ⟨14,i*2,none⟩=some (.int .u64 ((Go.Pinned.pow10Rows.getD i (0,0)).1:Nat))/\W.cell? ⟨14,i*2+1,none⟩=some (.int .u64 ((Go.Pinned.pow10Rows.getD i (0,0)).2:Nat)):=by
 intro i hi
 obtain ⟨g,t,cs,fuel,p,hg,hty,hvar,hd⟩:=laidMet.reads h (n:= "internal/strconv.pow10Tab") (d:=Rows.laid_internal_strconv_pow10Tab) hm
 obtain rfl:=Option.some.inj ((show Tryz.prog.globalNamed "internal/strconv.pow10Tab" =some 14 by kernel_rfl).symm.trans hg)
 obtain rfl:=Option.some.inj ((show (Tryz.prog.globals[14]?).map (·.type)=some 325 by kernel_rfl).symm.trans hty)
 have hdat:(Rows.laid_internal_strconv_pow10Tab:DataW Unit)=.agg (Go.Pinned.pow10Rows.map fun x=>.agg [.lit (.int .u64 x.1),.lit (.int .u64 x.2)]):=rfl
 rw [hdat] at hd
 have c147:Tryz.prog.cellsOf 324=2:=by kernel_rfl
 have c22:Tryz.prog.cellsOf 84=1:=by kernel_rfl
 have hlen:Go.Pinned.pow10Rows.length=696:=by decide+kernel
 obtain ⟨f',d,q,hdi,he⟩:=array_elem Tryz.underlying325 hd i hi
 rw [vU (x:=(0,0)) (by rw [hlen];exact hi)] at hdi
 have hdi':=(Option.some.inj hdi).symm
 subst hdi'
 rw [c147] at he
 have hcs:=ints_of_struct (k:=.u64) (zs:=[((Go.Pinned.pow10Rows.getD i (0,0)).1:Nat),((Go.Pinned.pow10Rows.getD i (0,0)).2:Nat)]) Tryz.underlying324 (fun j f hj=>by
  match j,hj with
  |0,hj=>simp at hj;subst hj;exact ⟨Tryz.underlying84,rfl,c22⟩
  |1,hj=>simp at hj;subst hj;exact ⟨Tryz.underlying84,rfl,c22⟩
  |j+2,hj=>simp at hj) (by rw [c147];rfl) he
 have e0:=congrArg (·[0]?) hcs
 have e1:=congrArg (·[1]?) hcs
 simp only [List.getElem?_take,List.getElem?_drop] at e0 e1
 constructor
 ·rw [World.var?_cell hg hvar (i*2),<-Array.getElem?_toList]
  simpa using e0
 ·rw [World.var?_cell hg hvar (i*2+1),<-Array.getElem?_toList]
  simpa using e1
structure Listed (L:List (String × DataW Unit)):Prop where
 opt:("internal/strconv.optimize",Rows.laid_internal_strconv_optimize)∈L
 info:("internal/strconv.float64info",Rows.laid_internal_strconv_float64info)∈L
 pow:("internal/strconv.powtab",Rows.laid_internal_strconv_powtab)∈L
 tens:("internal/strconv.float64pow10",Rows.laid_internal_strconv_float64pow10)∈L
 rng:("strconv.ErrRange",Rows.laid_strconv_ErrRange)∈L
 cheats:("internal/strconv.leftcheats",Rows.laid_internal_strconv_leftcheats)∈L
 pow10:("internal/strconv.pow10Tab",Rows.laid_internal_strconv_pow10Tab)∈L
theorem env_of {L:List (String × DataW Unit)} {W:World} (h:laidMet Tryz.prog L W) (hL:Listed L) (hS:W.ShapedOpen Tryz.prog):∃ G o P po C co ev m,Env W G o P po C co ev m:=by
 obtain ⟨m,hm⟩:=Tryz.laysM145.s1_3 W hS
 obtain ⟨G,o,t1,t2,t3⟩:=rd_tens h hL.tens
 obtain ⟨P,po,p1,p2,p3⟩:=EU h hL.pow
 obtain ⟨C,co,hC⟩:=DR (cell_lt t1) h hL.cheats
 obtain ⟨te,pe,hr⟩:=Ja h hL.rng
 obtain ⟨i0,i1,i2⟩:=Kr h hL.info
 have h10:=rd_pow10 h hL.pow10
 have h12:=hC.size
 exact ⟨G,o,P,po,C,co,.iface te pe,m,⟨⟨⟨by omega,t2,i0,t1,t3,fun i hi=>(h10 i hi).1,fun i hi=>(h10 i hi).2⟩,h12,p2,rd_optimize h hL.opt,i1,i2,p1,p3,hC⟩,hr,.inr ⟨te,pe,rfl⟩,hm⟩⟩
end Go.Proofs.YtjibjahfbblieaaGreatDoor.F
