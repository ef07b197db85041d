import Derived.Test.YtedpifhlffcmkaaGreatDoorKIO1
import Derived.Test.YtedpifhlffcmkaaGreatDoorKIH
import Derived.Test.YtedpifhlffcmkaaGreatDoorRows
import Derived.LaidSub
import Derived.WalkKit
import Derived.ProofKit
import Derived.OpenShut
import Derived.Deep.DeepHandedRow
import Derived.ChangeMaps5
import Derived.Carry
import Derived.ChangeOld
namespace Go.Proofs.YtedpifhlffcmkaaGreatDoor
open Go.ChangeShapes Go.WideShapes Go.ChangeAt Go Go.RowKit Go.ChangeMaps Go.WideElems Go.Joins Go.Deep
set_option linter.unusedVariables false
section
variable {W:World} {cap fuel n:Nat}
theorem yj {H:Type} {enc:TypeId × Value->H} {sp:Nat->Bool} {hd:Bool} {a:Option Addr} {x:DataW H × List MemPlace} (h:DataW.trod enc Tryz.prog W 0 sp hd fuel 46 [.slice a n cap]=some x):
 n<=maxLen/\∃ x0 x1 x2 x3,lJ W (.slice a n cap) n x0 x1 x2 x3/\∀ i,i<n-> -9223372036854775808<=x2 i/\x2 i<=9223372036854775807:=by
 obtain ⟨hn,h⟩:=wE Tryz.underlying46 (show Tryz.prog.cellsOf 85=4 by kernel_rfl) (by omega) h
 refine ⟨hn,?_⟩
 rcases h with rfl|⟨b,o,m,rfl,hb,hcap,hel⟩
 ·exact ⟨fun _=>0,fun _=>0,fun _=>0,fun _=>0,.inl ⟨rfl,_,_,rfl⟩,fun i hi=>by omega⟩
 ·have key:∀ i,∃ q:Int × Int × Int × Int,i<n->(W.cell? ⟨b,o+i*4,none⟩=some (.int .i64 (q.1))/\W.cell? ⟨b,o+i*4+1,none⟩=some (.int .i64 (q.2.1))/\W.cell? ⟨b,o+i*4+2,none⟩=some (.int .i64 (q.2.2.1))/\W.cell? ⟨b,o+i*4+3,none⟩=some (.int .i64 (q.2.2.2)))/\(-9223372036854775808<=q.2.2.1/\q.2.2.1<=9223372036854775807):=by
   intro i
   by_cases hi:i<n
   ·obtain ⟨cs,y,hl,hcell,htr⟩:=hel i hi
    obtain ⟨v0,hv0⟩:∃ v,cs[0]?=some v:=⟨cs[0]'(by omega),List.getElem?_eq_getElem (by omega)⟩
    obtain ⟨n0,y0,t0⟩:=zW Tryz.underlying85 htr 0 _ rfl (by kernel_rfl) rfl hv0
    obtain ⟨z0,e0,_,w0⟩:=DataW.trod_int Tryz.underlying3 t0
    simp at e0
    subst e0
    obtain ⟨v1,hv1⟩:∃ v,cs[1]?=some v:=⟨cs[1]'(by omega),List.getElem?_eq_getElem (by omega)⟩
    obtain ⟨n1,y1,t1⟩:=zW Tryz.underlying85 htr 1 _ rfl (by kernel_rfl) rfl hv1
    obtain ⟨z1,e1,_,w1⟩:=DataW.trod_int Tryz.underlying3 t1
    simp at e1
    subst e1
    obtain ⟨v2,hv2⟩:∃ v,cs[2]?=some v:=⟨cs[2]'(by omega),List.getElem?_eq_getElem (by omega)⟩
    obtain ⟨n2,y2,t2⟩:=zW Tryz.underlying85 htr 2 _ rfl (by kernel_rfl) rfl hv2
    obtain ⟨z2,e2,_,w2⟩:=DataW.trod_int Tryz.underlying3 t2
    simp at e2
    subst e2
    obtain ⟨v3,hv3⟩:∃ v,cs[3]?=some v:=⟨cs[3]'(by omega),List.getElem?_eq_getElem (by omega)⟩
    obtain ⟨n3,y3,t3⟩:=zW Tryz.underlying85 htr 3 _ rfl (by kernel_rfl) rfl hv3
    obtain ⟨z3,e3,_,w3⟩:=DataW.trod_int Tryz.underlying3 t3
    simp at e3
    subst e3
    have m1:IntKind.i64.min= -9223372036854775808:=by decide
    have m2:IntKind.i64.max=9223372036854775807:=by decide
    simp only [Lit.wf,Bool.and_eq_true,decide_eq_true_eq,m1,m2] at w2
    exact ⟨⟨z0,z1,z2,z3⟩,fun _=>⟨⟨(hcell 0 (by omega)).trans hv0,(hcell 1 (by omega)).trans hv1,(hcell 2 (by omega)).trans hv2,(hcell 3 (by omega)).trans hv3⟩,w2⟩⟩
   ·exact ⟨⟨0,0,0,0⟩,fun h=>absurd h hi⟩
  exact ⟨fun i=>(Classical.choose (key i)).1,fun i=>(Classical.choose (key i)).2.1,fun i=>(Classical.choose (key i)).2.2.1,fun i=>(Classical.choose (key i)).2.2.2,.inr ⟨b,o,cap,rfl,hb,hcap,fun i hi=>(Classical.choose_spec (key i) hi).1⟩,fun i hi=>(Classical.choose_spec (key i) hi).2⟩
end
section
variable {W:World}
theorem mX {H:Type} {enc:TypeId × Value->H} {P:Program} (hl:laidOutB P=true) {W W':World} (hb:Below W.heap.size W W'):
 ∀ {ns:List String} {gs:List (DataW H)} {ps:List MemPlace} {sp:Nat->Bool},(∀ n∈ns,∀ g t,P.globalNamed n=some g->(P.globals[g]?).map (·.type)=some t->P.readableRec t=true/\t<P.types.size)->(∀ p∈ps,sp p.block=true)->
   DataW.TrodVars enc P W (fun _=>true) ns gs ps->DataW.TrodVars enc P W' sp ns gs ps
 | [],[],_,_,_,_,h=>h
 | [],_::_,_,_,_,_,h=>h.elim
 |_::_,[],_,_,_,_,h=>h.elim
 |n::ns,d::ds,ps,sp,hv,hp,h=>by
  have hlt:=h.lt
  obtain ⟨g,t,cs,fuel,p,q,h1,h2,h3,h4,hs,e⟩:=h
  obtain ⟨r1,r2⟩:=hv n (List.mem_cons_self) g t h1 h2
  subst e
  have hvar:W'.var? P n=some cs:=by
   unfold World.var? at h3 ⊢
   rw [h1] at h3 ⊢
   simp only [Option.bind_some] at h3 ⊢
   have hg:g<W.heap.size:=by
    cases hh:W.heap[g]? with
    |none=>rw [hh] at h3;cases h3
    |some o=>exact (Array.getElem?_eq_some_iff.1 hh).1
   rw [hb.block g hg]
   exact h3
  have l1:∀ x∈p,x.block<W.heap.size:=fun x hx=>hlt x (by simp [hx])
  refine ⟨g,t,cs,fuel,p,q,h1,h2,hvar,?_,mX hl hb (fun m hm=>hv m (List.mem_cons_of_mem _ hm)) (fun x hx=>hp x (by simp [hx])) hs,rfl⟩
  exact DataW.trod_stays (kids_book hl r1) (book_sized r1) (fun h=>by cases h) ⟨r2,book_self t⟩ h4 (fun x hx=>hb.same (l1 x hx)) (fun x hx=>hp x (by simp [hx]))
theorem qo {H:Type} {enc:TypeId × Value->H} {P:Program} {W:World} {sp:Nat->Bool}:∀ {ns:List String} {gs:List (DataW H)} {ps:List MemPlace},DataW.TrodVars enc P W sp ns gs ps->gs.length=ns.length
 | [],[],_,_=>rfl
 | [],_::_,_,h=>h.elim
 |_::_,[],_,h=>h.elim
 |_::ns,_::ds,_,h=>by
  obtain ⟨g,t,cs,fuel,p,q,h1,h2,h3,h4,hs,e⟩:=h
  rw [List.length_cons,List.length_cons,qo hs]
theorem xM {H:Type} {enc:TypeId × Value->H} {sp:Nat->Bool} {gs:List (DataW H)} {ps:List MemPlace} (h:DataW.TrodVars enc Tryz.prog W sp ["loop.example/g00002/impl.errNumWhole"] gs ps):∃ g1,gs=[g1]:=by
 have:=qo h
 match gs,this with
 | [g1],_=>exact ⟨g1,rfl⟩
theorem CX:∀ n∈["loop.example/g00002/impl.errNumWhole"],∀ g t,Tryz.prog.globalNamed n=some g->(Tryz.prog.globals[g]?).map (·.type)=some t->Tryz.prog.readableRec t=true/\t<Tryz.prog.types.size:=by
 have key:(["loop.example/g00002/impl.errNumWhole"].all fun n=>match Tryz.prog.globalNamed n with
  |some g=>(match (Tryz.prog.globals[g]?).map (·.type) with |some t=>Tryz.prog.readableRec t&&decide (t<Tryz.prog.types.size)|none=>true)
  |none=>true)=true:=by kernel_rfl
 intro n hn g t hg ht
 have:=List.all_eq_true.1 key n hn
 rw [hg] at this
 simp only [ht,Bool.and_eq_true,decide_eq_true_eq] at this
 exact this
theorem BI:Tryz.prog.readableRec 46=true/\46<Tryz.prog.types.size:=⟨by kernel_rfl,by decide+kernel⟩
end
end Go.Proofs.YtedpifhlffcmkaaGreatDoor
