import Derived.Test.YtjibjahfbblieaaGreatDoorKBR
import Derived.Test.YtjibjahfbblieaaGreatDoorKM2
import Derived.Test.YtjibjahfbblieaaGreatDoorKLS
import Derived.Test.YtjibjahfbblieaaGreatDoorRows
import Derived.Lib.LaidU8
namespace Go.Proofs.YtjibjahfbblieaaGreatDoor
open Go Go.RowKit
set_option linter.unusedVariables false
set_option maxHeartbeats 1600000 in
set_option maxRecDepth 100000 in
theorem wz (v:Value) (n:Nat) (P:Nat->PV) (w:World) (hn:n<=1048576) (hf:allFit n P 1048576) (hbit:iw n P) (h:bY w v n P):
 Calls Tryz.prog 16 #[v,.func (.func 39) #[] #[]] w fun e w'=>jk (∀ k,k<n->fU (P k)) w e w':=by
 have HA:=hide h
 obtain ⟨sa,cap,rfl⟩:=h.val
 clear h
 have HF:=hide hf
 have HBit:=hide hbit
 clear hf hbit
 go_enter Tryz.func16,Tryz.ntmps16
 go_wp2_with fail
 go_loopw [9] (fun iv wr=>∃ i:Nat,i<=n/\iv=.int .i64 i/\Hid (∀ k,k<i->fU (P k))/\Hid (Below w.heap.size w wr)) (fun iv _=>match iv with | .int _ x=>n-x.toNat|_=>0)
 case atStart=>exact ⟨0,by omega,rfl,hide (fun k hk=>by omega),hide (Below.refl _ _)⟩
 case round=>
  obtain ⟨i,hi9,rfl,HU,HBw⟩:=hrel
  by_cases hin:i<n
  ·rcases HA.out with ⟨h9,_⟩|⟨b,o,cap',e,hb,hcap,hc⟩
   ·omega
   cases e
   obtain ⟨s4,s5,s6,s7,h8,hp8⟩:=hc i hin
   obtain ⟨a4,k4,rfl⟩:=hp8.u.val
   obtain ⟨a5,k5,rfl⟩:=hp8.c.val
   obtain ⟨a6,k6,rfl⟩:=hp8.i.val
   obtain ⟨a7,k7,rfl⟩:=hp8.l.val
   have c0:=(HBw.out.cell (p:=⟨b,o+i*8,none⟩) hb).trans h8.1
   have c1:=(HBw.out.cell (p:=⟨b,o+i*8+1,none⟩) hb).trans h8.2.1
   have c2:=(HBw.out.cell (p:=⟨b,o+i*8+2,none⟩) hb).trans h8.2.2.1
   have c3:=(HBw.out.cell (p:=⟨b,o+i*8+3,none⟩) hb).trans h8.2.2.2.1
   have c4:=(HBw.out.cell (p:=⟨b,o+i*8+4,none⟩) hb).trans h8.2.2.2.2.1
   have c5:=(HBw.out.cell (p:=⟨b,o+i*8+5,none⟩) hb).trans h8.2.2.2.2.2.1
   have c6:=(HBw.out.cell (p:=⟨b,o+i*8+6,none⟩) hb).trans h8.2.2.2.2.2.2.1
   have c7:=(HBw.out.cell (p:=⟨b,o+i*8+7,none⟩) hb).trans h8.2.2.2.2.2.2.2
   have HP8:=hide ((hp8.low HBw.out (Nat.le_refl _)).low (b_1 wr (.cells #[.int .i64 (P i).params,.int .i64 (P i).regs,.int .i64 (P i).line,.bool (P i).dots,.slice a4 (P i).nu k4,.slice a5 (P i).nc k5,.slice a6 (P i).ni k6,.slice a7 (P i).nl k7] 43)) (Nat.le_refl _))
   clear hc h8 hp8
   go_wp2_with fail
   clear c0 c1 c2 c3 c4 c5 c6 c7
   refine (sN (P i) _ _ _ _ _ (HF.out i hin) (HBit.out i hin) HP8.out).mono ?_
   rintro e w3 ⟨r,rfl,hr,hb3⟩
   have HB4:=hide ((HBw.out.alloc HBw.out.size _).trans (hb3.mono (HBw.out.alloc HBw.out.size _).size))
   clear hb3
   rcases hr with ⟨rfl,hr⟩|⟨rfl,hr⟩
   ·have HR:=hide hr
    clear hr
    go_wp2
    go_roundw
    case rel=>exact ⟨i+1,by omega,by simp,hide (dZ HU.out HR.out),HB4⟩
    case measure=>simp;omega
   ·have HR:=hide hr
    clear hr
    go_wp2
    go_ret
    exact ⟨_,rfl,.inr ⟨rfl,fun hq=>HR.out (hq i hin)⟩,HB4.out⟩
  ·obtain rfl:i=n:=by omega
   go_wp2
   go_ret
   exact ⟨_,rfl,.inl ⟨rfl,HU.out⟩,HBw.out⟩
set_option maxHeartbeats 1600000 in
set_option maxRecDepth 100000 in
theorem xI (a:Option Addr) (n cap:Nat) (P:Nat->PV) (w:World) (hn:n<=1048576) (hf:allFit n P 1048576) (hbit:iw n P) (h:bY w (.slice a n cap) n P):
 Calls Tryz.prog 14 #[.agg #[.slice a n cap]] w fun e w'=>jk (n<=65535/\∀ k,k<n->fU (P k)) w e w':=by
 have HF:=hide hf
 have HBit:=hide hbit
 clear hf hbit
 have HB0:=hide (b_1 w (.cells #[.slice a n cap] 30))
 have HA0:=hide (h.low HB0.out (Nat.le_refl _))
 clear h
 by_cases hbig:65535<n
 ·have hbi:¬ ((n:Int)<=65535):=by omega
  go_enter Tryz.func14,Tryz.ntmps14
  go_wp2
  go_ret
  exact ⟨false,rfl,.inr ⟨rfl,fun h=>by have:=h.1;omega⟩,HB0.out⟩
 have hbi:((n:Int)<=65535):=by omega
 go_enter Tryz.func14,Tryz.ntmps14
 go_wp2_with fail
 generalize w.alloc (.cells #[.slice a n cap] 30)=w1 at HB0 HA0 ⊢
 refine (wz _ n P w1 hn HF.out HBit.out HA0.out).mono ?_
 rintro e w2 ⟨r,rfl,hr,hb2⟩
 have HB2:=hide (HB0.out.trans (hb2.mono HB0.out.size))
 clear HB0 HA0 hb2
 have HR:=hide hr
 clear hr
 go_wp2
 go_ret
 refine ⟨r,rfl,?_,HB2.out⟩
 rcases HR.out with ⟨h1,h2⟩|⟨h1,h2⟩
 ·exact .inl ⟨h1,by omega,h2⟩
 ·exact .inr ⟨h1,fun h=>h2 h.2⟩
def Q8:ByteArray:=⟨#[99,104,117,110,107,45,48,49]⟩
end Go.Proofs.YtjibjahfbblieaaGreatDoor
namespace Go.Proofs.YtjibjahfbblieaaGreatDoor.F
open Go Go.RowKit Go.Lib
set_option linter.unusedVariables false
section
variable {H : Type} {enc : TypeId × Value → H} {P : Program} {w : World} {base : Nat} {sp : Nat → Bool} {held : Bool} {fuel : Nat}
theorem Al {t:TypeId} {k:FloatKind} {cs:List Value} {x:DataW H × List MemPlace} (ht:P.underlying t=some (.float k)) (h:DataW.trod enc P w base sp held fuel t cs=some x):∃ n,cs=[.float k n]/\x=(.lit (.float k n),[]):=by
 cases fuel with
 |zero=>simp [DataW.trod] at h
 |succ fuel=>
  unfold DataW.trod at h
  rw [ht] at h
  split at h<;>simp_all
theorem kN {t e:TypeId} {cs:List Value} {ds:List (DataW H)} {p:List MemPlace} (ht:P.underlying t=some (.slice e)) (hsp:∀ b,sp b=true) (h:DataW.trod enc P w base sp held fuel t cs=some (.slice ds [],p)):
 ∃ (a:Addr) (n:Nat),cs=[.slice (some a) ds.length ds.length]/\∀ i d,ds[i]?=some d->∃ cs' q,w.cells? base (a.add (i*P.cellsOf e)) (P.cellsOf e)=some cs'/\DataW.trod enc P w base sp held n e cs'=some (d,q):=by
 rcases DataW.trod_slice ht h with ⟨_,h2⟩|⟨a,len,cap,elems,rest,n,h1,h2,h3,h4,h5,h6,h7,h8,h9,h10⟩
 ·cases h2
 ·have e1:elems.map (·.1)=ds:=by have:=congrArg Prod.fst h3;simp at this;exact this.1.symm
  have e2:rest=[]:=by have:=congrArg Prod.fst h3;simp at this;exact this.2
  have e3:=(h9 (hsp _)).1
  rw [e2] at e3
  have hlen:ds.length=len:=by rw [<-e1,List.length_map];exact h7
  have hcap:cap=len:=by simp at e3;omega
  refine ⟨a,n,by rw [h2,hcap,hlen],fun i d hd=>?_⟩
  have hi:i<len:=by
   have:=(List.getElem?_eq_some_iff.1 hd).1
   omega
  have h11:=h8 i hi
  rw [<-e1,List.getElem?_map] at hd
  cases he:elems[i]? with
  |none=>rw [he] at hd;cases hd
  |some y=>
   rw [he] at hd h11
   obtain ⟨cs',hc1,hc2⟩:=Option.bind_eq_some_iff.1 h11
   refine ⟨cs',y.2,hc1,?_⟩
   rw [hc2]
   have:y.1=d:=by simpa using hd
   rw [<-this]
end
theorem nM {w:World} {base n:Nat} {a:Addr} {cs:List Value} (h:w.cells? base a n=some cs) {i:Nat} (hi:i<n):w.cell? (a.add i)=cs[i]?:=by
 unfold World.cells? at h
 split at h
 ·obtain ⟨b,h1,h2⟩:=mapM_at h i i (by simp [hi])
  rw [h1,h2]
 ·cases h
theorem cell_lt {w:World} {b o:Nat} {sp:Option Nat} {v:Value} (h:w.cell? ⟨b,o,sp⟩=some v):b<w.heap.size:=by
 rcases Nat.lt_or_ge b w.heap.size with g|g
 ·exact g
 ·exfalso
  unfold World.cell? at h
  rw [Array.getElem?_eq_none g] at h
  cases h
theorem dW (b o k:Nat):(⟨b,o,none⟩:Addr).add k=⟨b,o+k,none⟩:=by
 unfold Addr.add
 split
 ·rename_i h;subst h;rfl
 ·rfl
theorem rd_optimize {L:List (String × DataW Unit)} {W:World} (h:laidMet Tryz.prog L W) (hm:("internal/strconv.optimize",Rows.laid_internal_strconv_optimize)∈L):W.cell? ⟨11,0,none⟩=some (.bool true):=by
 obtain ⟨g,t,cs,fuel,p,hg,hty,hvar,hd⟩:=laidMet.reads h (n:= "internal/strconv.optimize") (d:=Rows.laid_internal_strconv_optimize) hm
 obtain rfl:=Option.some.inj ((show Tryz.prog.globalNamed "internal/strconv.optimize" =some 11 by kernel_rfl).symm.trans hg)
 obtain rfl:=Option.some.inj ((show (Tryz.prog.globals[11]?).map (·.type)=some 4 by kernel_rfl).symm.trans hty)
 obtain ⟨b,h1,h2⟩:=DataW.trod_bool Tryz.underlying4 hd
 have hb:b=true:=by
  have:=congrArg Prod.fst h2
  unfold Rows.laid_internal_strconv_optimize at this
  simp at this
  exact this
 rw [World.var?_cell hg hvar 0,<-Array.getElem?_toList,h1,hb]
 rfl
theorem Kr {L:List (String × DataW Unit)} {W:World} (h:laidMet Tryz.prog L W) (hm:("internal/strconv.float64info",Rows.laid_internal_strconv_float64info)∈L):W.cell? ⟨13,0,none⟩=some (.int .u64 52)/\W.cell? ⟨13,1,none⟩=some (.int .u64 11)/\W.cell? ⟨13,2,none⟩=some (.int .i64 (-1023)):=by
 obtain ⟨g,t,cs,fuel,p,hg,hty,hvar,hd⟩:=laidMet.reads h (n:= "internal/strconv.float64info") (d:=Rows.laid_internal_strconv_float64info) hm
 obtain rfl:=Option.some.inj ((show Tryz.prog.globalNamed "internal/strconv.float64info" =some 13 by kernel_rfl).symm.trans hg)
 obtain rfl:=Option.some.inj ((show (Tryz.prog.globals[13]?).map (·.type)=some 311 by kernel_rfl).symm.trans hty)
 obtain ⟨xs,n,rfl,hx,hl,hxl,hall⟩:=DataW.trod_struct Tryz.underlying311 hd
 have hxs:xs.map (·.1)=[.lit (.int .u64 52),.lit (.int .u64 11),.lit (.int .i64 (-1023))]:=by
  have:=congrArg Prod.fst hx
  unfold Rows.laid_internal_strconv_float64info at this
  simp at this
  exact this.symm
 have c47:Tryz.prog.cellsOf 191=1:=by kernel_rfl
 have c3:Tryz.prog.cellsOf 3=1:=by kernel_rfl
 have f0:DataW.trod (fun _=>()) Tryz.prog W 0 (fun _=>true) false n 191 ((cs.toList.drop 0).take (Tryz.prog.cellsOf 191))=xs[0]?:=hall 0 _ rfl
 have f1:DataW.trod (fun _=>()) Tryz.prog W 0 (fun _=>true) false n 191 ((cs.toList.drop 1).take (Tryz.prog.cellsOf 191))=xs[1]?:=hall 1 _ rfl
 have f2:DataW.trod (fun _=>()) Tryz.prog W 0 (fun _=>true) false n 3 ((cs.toList.drop 2).take (Tryz.prog.cellsOf 3))=xs[2]?:=hall 2 _ rfl
 rw [c47] at f0 f1
 rw [c3] at f2
 have g0:=congrArg (·[0]?) hxs
 have g1:=congrArg (·[1]?) hxs
 have g2:=congrArg (·[2]?) hxs
 simp only [List.getElem?_map] at g0 g1 g2
 obtain ⟨y0,hy0,e0⟩:=Option.map_eq_some_iff.1 g0
 obtain ⟨y1,hy1,e1⟩:=Option.map_eq_some_iff.1 g1
 obtain ⟨y2,hy2,e2⟩:=Option.map_eq_some_iff.1 g2
 rw [hy0] at f0
 rw [hy1] at f1
 rw [hy2] at f2
 obtain ⟨n0,k0,l0,_⟩:=DataW.trod_int Tryz.underlying191 f0
 obtain ⟨n1,k1,l1,_⟩:=DataW.trod_int Tryz.underlying191 f1
 obtain ⟨n2,k2,l2,_⟩:=DataW.trod_int Tryz.underlying3 f2
 rw [l0] at e0
 rw [l1] at e1
 rw [l2] at e2
 simp at e0 e1 e2
 subst e0 e1 e2
 refine ⟨?_,?_,?_⟩
 ·rw [World.var?_cell hg hvar 0,<-Array.getElem?_toList]
  have:=congrArg (·[0]?) k0
  simpa [List.getElem?_take,List.getElem?_drop] using this
 ·rw [World.var?_cell hg hvar 1,<-Array.getElem?_toList]
  have:=congrArg (·[0]?) k1
  simpa [List.getElem?_take,List.getElem?_drop] using this
 ·rw [World.var?_cell hg hvar 2,<-Array.getElem?_toList]
  have:=congrArg (·[0]?) k2
  simpa [List.getElem?_take,List.getElem?_drop] using this
theorem EU {L:List (String × DataW Unit)} {W:World} (h:laidMet Tryz.prog L W) (hm:("internal/strconv.powtab",Rows.laid_internal_strconv_powtab)∈L):∃ P po,W.cell? ⟨17,0,none⟩=some (.slice (some ⟨P,po,none⟩) 9 9)/\P<W.heap.size/\∀ k,k<9->W.cell? ⟨P,po+k,none⟩=some (.int .i64 (dY.getD k 0:Nat)):=by
 obtain ⟨g,t,cs,fuel,p,hg,hty,hvar,hd⟩:=laidMet.reads h (n:= "internal/strconv.powtab") (d:=Rows.laid_internal_strconv_powtab) hm
 obtain rfl:=Option.some.inj ((show Tryz.prog.globalNamed "internal/strconv.powtab" =some 17 by kernel_rfl).symm.trans hg)
 obtain rfl:=Option.some.inj ((show (Tryz.prog.globals[17]?).map (·.type)=some 41 by kernel_rfl).symm.trans hty)
 have hdat:(Rows.laid_internal_strconv_powtab:DataW Unit)=.slice (dY.map fun z=>.lit (.int .i64 (z:Nat))) []:=rfl
 rw [hdat] at hd
 obtain ⟨a,n,h1,h2⟩:=kN Tryz.underlying41 (fun _=>rfl) hd
 have c3:Tryz.prog.cellsOf 3=1:=by kernel_rfl
 rw [c3] at h2
 have key:∀ k,k<9->W.cell? (a.add (k*1))=some (.int .i64 (dY.getD k 0:Nat)):=by
  intro k hk
  obtain ⟨cs',q,h3,h4⟩:=h2 k (.lit (.int .i64 (dY.getD k 0:Nat))) (by
   have:∀ k:Fin 9,(dY.map fun z=>(DataW.lit (.int .i64 ((z:Nat):Int)):DataW Unit))[k.val]?=some (.lit (.int .i64 (dY.getD k.val 0:Nat))):=by
    intro k
    have hk:k.val<dY.length:=k.isLt
    rw [List.getElem?_map,List.getElem?_eq_getElem hk,List.getD_eq_getElem?_getD,List.getElem?_eq_getElem hk]
    rfl
   exact this ⟨k,hk⟩)
  obtain ⟨m,k1,l1,_⟩:=DataW.trod_int Tryz.underlying3 h4
  have:=congrArg Prod.fst l1
  simp at this
  have h5:=nM h3 (i:=0) (by omega)
  rw [k1,<-this] at h5
  exact h5
 obtain ⟨P,po,sp⟩:=a
 have hsp:sp=none:=cell_spot (key 0 (by omega))
 subst hsp
 refine ⟨P,po,?_,cell_lt (key 0 (by omega)),fun k hk=>?_⟩
 ·rw [World.var?_cell hg hvar 0,<-Array.getElem?_toList,h1];rfl
 ·have:=key k hk
  rw [Nat.mul_one,dW] at this
  exact this
end Go.Proofs.YtjibjahfbblieaaGreatDoor.F
