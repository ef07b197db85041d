import Derived.Test.YtlgodacccilabaaGreatDoorJQE
import Derived.Test.YtlgodacccilabaaGreatDoorJGD0
import Derived.Test.YtlgodacccilabaaGreatDoorJQF
import Derived.RangeFuncNested
import Derived.RangeFuncBound
import Derived.Test.YtlgodacccilabaaGreatDoorJGH2
import Derived.Test.YtlgodacccilabaaGreatDoorGD
import Derived.Test.YtlgodacccilabaaGreatDoorShelf
namespace Go.Proofs.YtlgodacccilabaaGreatDoor
open Go Go.RowKit
set_option linter.unusedVariables false
structure FdK (s:ByteArray) (t:Pt) (f:Fd):Prop where
 le:f.fr≤f.en
 en:f.en≤s.size
 cn:f.caps.length=t.caps
 cp:∀ c∈f.caps,c.2.1≤c.2.2∧c.2.2≤s.size
theorem srM_k {s:ByteArray} {t:Pt} (hk:PtK t):∀ {k at_ n:Nat} {f:Fd},(srM s t k at_ n).1=some f→at_≤f.fr∧FdK s t f
 |0,_,_,f,h=>by simp [srM] at h
 |k+1,at_,n,f,h=>by
  rw [srM] at h
  split at h
  ·rename_i h1
   split at h
   ·rename_i e σ he
    cases h
    have hr:=tryM_rng s t.place t.items at_ (s0 n) e h1.1 (by rw [he])
    have hc:=tryM_cp s t.place t.caps t.items [] (fun k hk2=>by simpa using hk.wf k hk2) at_ (s0 n) e ⟨fun j hj=>by simp at hj,fun j hj=>by simp at hj⟩ (by rw [he])
    rw [he] at hc
    simp only [List.nil_append] at hc
    refine ⟨Nat.le_refl _,hr.1,hr.2,by simp [capsOf],fun c hc2=>?_⟩
    simp only [capsOf,List.mem_map,List.mem_range] at hc2
    obtain ⟨m,hm,rfl⟩:=hc2
    obtain ⟨j,hj,hjk,rfl⟩:=hk.all m hm
    simp only [capAt]
    by_cases hp:t.place j.n=true
    ·rw [if_pos hp]
     rcases hjk with hjk|hjk
     ·have:=hc.1 j hj (.inl hjk)
      omega
     ·have:=hc.2 j hj hjk
      omega
    ·rw [if_neg hp]
     rcases hjk with hjk|hjk
     ·exact absurd (by rw [hk.place];exact isPl_of hj hjk) hp
     ·have:=hc.2 j hj hjk
      omega
   ·split at h
    ·cases h
    ·have:=srM_k hk h
     exact ⟨by omega,this.2⟩
  ·cases h
theorem fil_len {h:Nat→List UInt8} (hh:∀ n,(h n).length≤65536):∀ ps:List Pc,(fil h ps).length≤ps.length*65536
 | []=>by simp [fil]
 | .b x::r=>by
   have:=fil_len hh r
   simp only [fil,List.length_cons];omega
 | .s n::r=>by
   have:=fil_len hh r
   have:=hh n
   simp only [fil,List.length_cons,List.length_append];omega
theorem hdl_len {s:ByteArray} {q:Pt} {f:Fd} (hs:s.size≤65536) (hf:FdK s q f) (n:Nat):(hdl s f n).length≤65536:=by
 cases n with
 |zero=>
  simp only [hdl]
  rw [cutL_len hf.le hf.en]
  have:=hf.en
  omega
 |succ n=>
  simp only [hdl]
  by_cases h:n<f.caps.length
  ·rw [List.getElem?_eq_getElem h]
   simp only
   have hc:=hf.cp f.caps[n] (List.getElem_mem h)
   split
   ·have:=itoa_len (u:=f.caps[n].2.1+1) (by omega)
    omega
   ·rw [cutL_len hc.1 hc.2]
    omega
  ·rw [List.getElem?_eq_none (by omega)]
   simp
end Go.Proofs.YtlgodacccilabaaGreatDoor
namespace Go.Proofs.YtlgodacccilabaaGreatDoor
open Go Go.RowKit Go.Shelf
set_option linter.unusedVariables false
attribute [local go_sem] Oper.semAt_some
theorem st_func (P:Program) (w:World) (a:Addr) (m:Mode) (f:Fn) (bd cs:Array Value):(store a (.func f bd cs) m).run P w=stored P w a (.func f bd cs) m:=run_store P w a _ m rfl
attribute [local go_sem] st_func
set_option maxRecDepth 100000 in
set_option maxHeartbeats 2000000 in
theorem through_in (F:Fence) (n:Nat) (hf:F.fn 20) (hf1:F.fn 31) (hf2:F.fn 57) (hro:F.round=none) (hn:3≤n)
 (S:Nat) (s:ByteArray) (t:Pt) (fs:Nat→Nat × Array Value) (a:Option Addr) (cap:Nat) (w:World) (hs:s.size≤65536) (hk:PtK t) (hl:t.items.length≤200) (hS:S<w.heap.size)
 (hv:FnsA w (.slice a t.items.length cap) t.items.length fs) (hcn:∀ c,Value.slice a t.items.length cap=.slice none 0 c→c=0) (hi:∀ j (hj:j<t.items.length),ItV w S t.items[j] (fs j).1 (fs j).2):
 CallsIn F n Tryz.prog 20 #[.pointer (some ⟨S,0,none⟩),.slice a t.items.length cap] w fun e w'=>Below w.heap.size w w'∧
  ∃ fn bd cs D,e=.returned (.func (.func fn) bd cs)∧D w'∧Only S (w.heap.size+1) w'.heap.size D∧WyA S s t.items [] (tryM s t.place t.items) fn bd cs D:=by
 have h1:1≤n:=by omega
 refine callsIn_of_wp_marks Tryz.func20 rfl hf ?_ hro
 simp only [Tryz.ntmps20,List.size_toArray,List.length_cons,List.length_nil,Nat.reduceAdd,Nat.reduceSub,Array.replicate_succ,Array.replicate_zero,List.push_toArray,List.append_toArray,List.nil_append,List.cons_append]
 obtain ⟨len,hlen⟩:∃ len,t.items.length=len:=⟨_,rfl⟩
 rw [hlen] at hv hcn hl ⊢
 gi_wp2_with (gi_at_call 31;refine (backward_in F (n-1) hf1 hro _ _ _ _).mono ?_;rintro e w' ⟨rfl,rfl⟩)
 have bS:=((Boxed.new w 44 (.pointer (some ⟨S,0,none⟩))).alloc (.cells #[Value.func (.func 30) #[.pointer (some ⟨S,0,none⟩)] #[]] 53)).alloc (.cells #[.slice a len cap] 73)
 have bN:=(Boxed.new (w.alloc (.cells #[.pointer (some ⟨S,0,none⟩)] 44)) 53 (.func (.func 30) #[.pointer (some ⟨S,0,none⟩)] #[])).alloc (.cells #[.slice a len cap] 73)
 have bA:=Boxed.new ((w.alloc (.cells #[.pointer (some ⟨S,0,none⟩)] 44)).alloc (.cells #[Value.func (.func 30) #[.pointer (some ⟨S,0,none⟩)] #[]] 53)) 73 (.slice a len cap)
 have hB0:=b_3 w (.cells #[.pointer (some ⟨S,0,none⟩)] 44) (.cells #[Value.func (.func 30) #[.pointer (some ⟨S,0,none⟩)] #[]] 53) (.cells #[.slice a len cap] 73)
 have hsz:(((w.alloc (.cells #[.pointer (some ⟨S,0,none⟩)] 44)).alloc (.cells #[Value.func (.func 30) #[.pointer (some ⟨S,0,none⟩)] #[]] 53)).alloc (.cells #[.slice a len cap] 73)).heap.size=w.heap.size+3:=by simp
 simp only [World.size_alloc] at bN bA
 obtain ⟨W0,hW0⟩:∃ W0,((w.alloc (.cells #[.pointer (some ⟨S,0,none⟩)] 44)).alloc (.cells #[Value.func (.func 30) #[.pointer (some ⟨S,0,none⟩)] #[]] 53)).alloc (.cells #[.slice a len cap] 73)=W0:=⟨_,rfl⟩
 rw [hW0] at bS bN bA hB0 hsz ⊢
 clear hW0
 have h0:ThI S s t fs w W0.heap.size [] W0:=⟨_,_,_,fun _=>True,bN,fun _ _ _ _ _ _ _=>trivial,trivial,fun _ _ _ _ _=>trivial,fun _ _ X e1 e2 e3=>by
  subst e1 e2
  simp only [List.length_nil,Nat.sub_zero,List.take_length,List.drop_length]
  rw [←e3]
  exact way_end X t.place⟩
 refine wpIn_rangeFunc_ownH hro h1 (gf:=57) (lb:=#[.pointer (some ⟨w.heap.size+1+1,0,none⟩)]) rfl hf2 (enters_of Tryz.func57 (by kernel_rfl) rfl)
  (backward_stops F (n-1) hf2 hro (by omega) (w.heap.size+1+1) len _ fs (by omega) w W0 hB0 (by omega) bA.cell hv hcn) Kb.trans (Kb.put (by omega) (by omega)) (Below.refl _ _) (fun _=>rfl)
  (fun pre W=>ThI S s t fs w W0.heap.size pre W∧Boxed W w.heap.size 44 (.pointer (some ⟨S,0,none⟩))∧Boxed W (w.heap.size+1+1) 73 (.slice a len cap)∧Below w.heap.size w W)
  (fun _ _ _=>False)
  (OwnFrom.and (thI_own S s t fs w W0.heap.size) (OwnFrom.and (Own.from (boxed_own _ _ _) _) (OwnFrom.and (Own.from (boxed_own _ _ _) _) (ownFrom_below (Nat.le_refl _) (by omega)))))
  (fun _ _ _ _ _ hs _ _=>hs)
  ⟨h0,bS,bA,hB0⟩
  (fun x a' W=>∃ Bx,w.heap.size+1+1<Bx∧Boxed W Bx 97 (.func (.func x.2.1) #[] x.2.2)∧a'={ tmps:=#[Value.pointer (some ⟨S,0,none⟩),Value.slice a len cap,
    Value.pointer (some ⟨w.heap.size,0,none⟩),undef,Value.nilFunc,Value.pointer (some ⟨w.heap.size+1,0,none⟩),undef,.pointer (some ⟨Bx,0,none⟩),undef,
    Value.pointer (some ⟨S,0,none⟩),Value.func (Fn.func 30) #[Value.pointer (some ⟨S,0,none⟩)] #[],Value.slice a len cap,
    Value.func (Fn.func 57) #[] #[Value.pointer (some ⟨w.heap.size+1+1,0,none⟩)],.int .i64 (x.1:Int),.func (.func x.2.1) #[] x.2.2,undef,undef,undef],defers:=[] })
  (fun x a' _ X Y row hs hg hr=>by obtain ⟨Bx,h1,h2,h3⟩:=hs;exact ⟨Bx,h1,boxed_own Bx 97 (fun (_:Unit)=>Value.func (.func x.2.1) #[] x.2.2) () X Y row h2 hg (fun r e=>(hr r e).2),h3⟩)
  ?assign ?body ?done ?stop
 case assign=>
  rintro l pre x W K ⟨hT,bS1,bA1,hB1⟩ hK
  have hz:=bA1.lt
  gi_wp2
  refine hK _ _ ((KeepsOthers.alloc _ _).from _) (Kb.alloc hB1.size (by omega) _) ⟨(thI_own S s t fs w W0.heap.size).alloc _ hT,bS1.alloc _,bA1.alloc _,hB1.alloc hB1.size _⟩ ⟨W.heap.size,by omega,Boxed.new W 97 _,rfl⟩
 case body=>
  rintro l pre x a' W hll _ ⟨⟨fn,bd,cs,D,bN1,d1,d2,d3,d4⟩,bS1,bA1,hB1⟩ ⟨Bx,hBx,bX,rfl⟩ hlt
  have cN:=bN1.cell
  have bN2:=bN1.alloc (.cells #[.func (.func fn) bd cs] 53)
  have cN2:=bN2.cell
  have fN2:=bN2.frozen
  have HS:=hide bS1
  have HA:=hide bA1
  have HX:=hide bX
  have HD:=hide d2
  have H4:=hide d4
  have HN:=hide bN2
  clear bS1 bX d2 d4 bA1 bN1 bN2
  gi_wp2
  replace HS:=HS.out
  replace HA:=HA.out
  replace HX:=HX.out
  have hzA:=HA.lt
  have hzX:=HX.lt
  have hbl:∀ b,b<W.heap.size→b≠w.heap.size+1→((W.alloc (.cells #[.func (.func fn) bd cs] 53)).setCell ⟨w.heap.size+1,0,none⟩ (.func (.func 32) #[] #[.pointer (some ⟨w.heap.size,0,none⟩),.pointer (some ⟨Bx,0,none⟩),.pointer (some ⟨W.heap.size,0,none⟩)])).heap[b]?=W.heap[b]?:=fun b c1 c2=>
   (Below.heap_setCell _ _ _ b c2).trans (Below.heap_alloc W _ b c1)
  have hsz2:W.heap.size≤((W.alloc (.cells #[.func (.func fn) bd cs] 53)).setCell ⟨w.heap.size+1,0,none⟩ (.func (.func 32) #[] #[.pointer (some ⟨w.heap.size,0,none⟩),.pointer (some ⟨Bx,0,none⟩),.pointer (some ⟨W.heap.size,0,none⟩)])).heap.size:=by simp
  have hBl:=((Below.refl w.heap.size W).alloc hB1.size (.cells #[.func (.func fn) bd cs] 53)).setCell (p:=⟨w.heap.size+1,0,none⟩) (by simp) (.func (.func 32) #[] #[.pointer (some ⟨w.heap.size,0,none⟩),.pointer (some ⟨Bx,0,none⟩),.pointer (some ⟨W.heap.size,0,none⟩)])
  exact ⟨((KeepsOthers.alloc _ _).trans (KeepsOthers.setCell _ _ _)).from _,⟨hBl,hbl _ hzA (by omega)⟩,
   thI_step S s t fs w W0.heap.size hs hk hS (by omega) hi pre x W _ fn bd cs D Bx W.heap.size d1 HD.out d3 H4.out HS hB1 hsz2 hbl (HN.out.set _) ((HX.alloc _).other (by omega) _) ((Boxed.new W _ _).other (by omega) _) (by omega) (by omega),
   (HS.alloc _).other (by omega) _,(HA.alloc _).other (by omega) _,hB1.trans hBl⟩
 case done=>
  rintro D ys W hD rfl ⟨⟨fn,bd,cs,Dp,bN1,d1,d2,d3,d4⟩,bS1,bA1,hB1⟩ hK
  have cN:=bN1.cell
  have HD:=hide d2
  have H4:=hide d4
  clear bS1 d2 d4 bA1
  gi_wp2
  refine ⟨by simp,.inl ⟨_,_,rfl,run_takeDeferred hK,?_⟩⟩
  refine ⟨_,results_tmp rfl _ _ _,hB1.trans (belowK_b (w:=w) (Nat.le_refl _) W D _ _ (by omega) hK rfl rfl),fn,bd,cs,Dp,rfl,d1.putObj (s:=()) _ HD.out hD hK rfl,d3.mono (by simp),?_⟩
  have h9:=H4.out (by rw [upTo_length,hlen]) (by rw [upTo_length,hlen];exact Nat.le_refl _)
  rw [upTo_length,hlen,Nat.sub_self] at h9
  simpa using h9
 case stop=>
  rintro D c pre W _ _ h _
  exact h.elim
theorem through_any (S:Nat) (s:ByteArray) (t:Pt) (fs:Nat→Nat × Array Value) (a:Option Addr) (cap:Nat) (w:World) (hs:s.size≤65536) (hk:PtK t) (hl:t.items.length≤200) (hS:S<w.heap.size)
 (hv:FnsA w (.slice a t.items.length cap) t.items.length fs) (hcn:∀ c,Value.slice a t.items.length cap=.slice none 0 c→c=0) (hi:∀ j (hj:j<t.items.length),ItV w S t.items[j] (fs j).1 (fs j).2):
 Calls Tryz.prog 20 #[.pointer (some ⟨S,0,none⟩),.slice a t.items.length cap] w fun e w'=>Below w.heap.size w w'∧
  ∃ fn bd cs D,e=.returned (.func (.func fn) bd cs)∧D w'∧Only S (w.heap.size+1) w'.heap.size D∧WyA S s t.items [] (tryM s t.place t.items) fn bd cs D:=
 (callsIn_wide (n:=3)).1 (through_in Fence.wide 3 trivial trivial trivial rfl (by omega) S s t fs a cap w hs hk hl hS hv hcn hi)
theorem WyA.all {S NX Bd B:Nat} {s:ByteArray} {t:Pt} {fn:Nat} {bd cs:Array Value} {D:World→Prop} (h:WyA S s t.items [] (tryM s t.place t.items) fn bd cs D) (ho:Only S NX Bd D) (hB:Bd≤B) (X:Sx) (h1:X.S=S) (h2:X.s=s) (h3:X.its=t.items):WyAll X t.place fn bd cs D B:=by
 subst h1 h2
 refine ⟨by rw [h3];exact h X rfl rfl h3,fun w w' b hD k hb=>?_,fun w w' hD k=>?_⟩
 ·exact ho w w' hD k.size fun c c1 c0 c2 c3=>k.block c c0 (by omega)
 ·exact ho w w' hD k.size fun c c1 c0 c2 c3=>k.block c c0 (fun x=>x)
end Go.Proofs.YtlgodacccilabaaGreatDoor
namespace Go.Proofs.YtlgodacccilabaaGreatDoor
open Go Go.RowKit
set_option linter.unusedVariables false
theorem range_st {α:Type} {F:Fence} {n:Nat} {P:Program} {g:Operand} {ps:Array Tmp} {assign body:Code} {Q:Exit→Act→World→Prop} {a:Act} {w:World}
 (hro:F.round=none) (h1:1≤n) {gf:Nat} {bd lb:Array Value} (hg:a.eval g=.func (.func gf) bd lb) (hFg:F.fn gf) (eg:∀ args w,(callFunc gf args).run P w=.ok (.enter gf args) w)
 {encs:α→Array Value} (hps:∀ x,(encs x).size=ps.size) {Kp:World→World→Prop} {S:List α→World→Prop} {Sp:List α→Prop} {N:Nat} (hS:OwnFrom w.heap.size S)
 (hKt:∀ {A B C:World},Kp A B→Kp B C→Kp A C) (hKb:∀ (W:World) (l:Nat) (o o':Obj),w.heap.size≤l→W.heap[l]?=some o→o.isCells=false→Kp W (W.putObj l o'))
 (I:List α→World→Prop) (Ix:Code→List α→World→Prop) (hI:OwnFrom w.heap.size I) (hIx:∀ c,OwnFrom w.heap.size (Ix c)) (h0:I [] w) (V:List α→α→World→Prop) (Ax:List α→α→Act→World→Prop) (hAx:∀ pre x a',OwnFrom w.heap.size (fun (_:Unit) W=>Ax pre x a' W))
 (hseq:∀ (l:Nat) (J Jx:List α→World→Prop) (W:World),(∀ pre A,J pre A→I pre A∧w.heap.size+2≤A.heap.size)→
   (∀ pre A B,J pre A→I pre B→(∀ b,w.heap.size≤b→b<w.heap.size+2→B.heap[b]?=A.heap[b]?)→J pre B)→
   (∀ pre x W1,J pre W1→V pre x W1→pre.length<N→YieldAt F (n-1-1) P l (encs x) W1 fun e W'=>(e=.returned (.bool true)∧J (pre++[x]) W'∧Kp W1 W')∨(e=.returned (.bool false)∧Jx (pre++[x]) W'))→
   J [] W→(∀ b,b<w.heap.size→W.heap[b]?=w.heap[b]?)→CallsIn F (n-1) P gf (bd++#[.func (.yield l) #[] #[]]++lb) W fun e W'=>(∃ v,e=.returned v)∧((∃ xs,S xs W'∧J xs W')∨(∃ pre,Sp pre∧Jx pre W')))
 (hassign:∀ (l:Nat) (pre:List α) (x:α) (W:World) (K:Act→World→Prop),I pre W→V pre x W→(∀ a' W',KeepsFrom w.heap.size W W'→Kp W W'→I pre W'→Ax pre x a' W'→K a' W')→
   assign.wpIn (F.inRound l) (n-1-1) P (Exit.then K (fun _ _ _=>False)) { tmps:=(ps.zip (encs x)).foldl (fun t (p,v)=>t.setIfInBounds p v) a.tmps,defers:=[] } W)
 (hbody:∀ (l:Nat) (pre:List α) (x:α) (a':Act) (W:World),I pre W→Ax pre x a' W→pre.length<N→body.wpIn (F.inRound l) (n-1-1) P (ownPostG w.heap.size Kp I Ix (pre++[x]) W) a' W)
 (hdone:∀ (D:Nat) (xs:List α) (W:World),w.heap.size≤D→S xs W→I xs W→W.heap[D]?=some (.deferred (some []))→Q .normal { a with defers:={ target:=.collected D,args:=#[] }::a.defers } W)
 (hstop:∀ (D:Nat) (c:Code) (pre:List α) (W:World),w.heap.size≤D→Sp pre→Ix c pre W→W.heap[D]?=some (.deferred (some []))→c.wpIn F n P Q { a with defers:={ target:=.collected D,args:=#[] }::a.defers } W):
 (Code.rangeFunc g ps assign body).wpIn F n P Q a w:=by
 refine wpIn_rangeFunc ?_
 intro fn hfn
 rw [hro]
 obtain ⟨rec,hrec⟩:∃ rec:LoopState→Option Code→Loop,rec=fun st pe=>{ state:=st,pending:=pe,fn,tmps:=a.tmps,params:=ps,assign,body,defers:=w.heap.size }:=⟨_,rfl⟩
 obtain ⟨W1,hW1⟩:∃ W1,(w.alloc (.deferred (some []))).alloc (.loop (rec .ready none))=W1:=⟨_,rfl⟩
 have hL1:W1.heap[w.heap.size+1]?=some (.loop (rec .ready none)):=by
  rw [←hW1];have:=World.alloc_heap_new (w.alloc (.deferred (some []))) (.loop (rec .ready none));rwa [World.size_alloc] at this
 have hK1:W1.heap[w.heap.size]?=some (.deferred (some [])):=by
  rw [←hW1];exact (Below.heap_alloc _ _ _ (by simp)).trans (World.alloc_heap_new w _)
 have hI1:I [] W1:=by rw [←hW1];exact hI.alloc _ (hI.alloc _ h0)
 have hOld:∀ b,b<w.heap.size→W1.heap[b]?=w.heap[b]?:=fun b hb=>by
  rw [←hW1];exact (Below.heap_alloc _ _ b (by simp;omega)).trans (Below.heap_alloc _ _ b hb)
 refine ⟨w.heap.size+1,[{ target:=.collected w.heap.size,args:=#[] }],W1,{ target:=.fn (.func gf) lb,args:=bd++#[.func (.yield (w.heap.size+1)) #[] #[]] },W1,gf,
  bd++#[.func (.yield (w.heap.size+1)) #[] #[]]++lb,W1,?_,?_,?_,?_,fun _=>h1,?_⟩
 ·rw [←hW1,hrec];exact run_enterLoop_outer _ _ _ _ _
 ·simp only [resolve,hg]
  simp [go_sem]
 ·intro f' hf';simp [Target.leads] at hf';subst hf';exact hFg
 ·simp [invoke,go_sem,eg]
 ·refine (hseq (w.heap.size+1)
   (fun pre W=>I pre W∧W.heap[w.heap.size+1]?=some (.loop (rec .ready none))∧W.heap[w.heap.size]?=some (.deferred (some [])))
   (fun pre W=>∃ c,Ix c pre W∧W.heap[w.heap.size+1]?=some (.loop (rec .done (some c)))∧W.heap[w.heap.size]?=some (.deferred (some [])))
   W1 (fun pre A h=>⟨h.1,(Array.getElem?_eq_some_iff.1 h.2.1).1⟩)
   (fun pre A B h hi hb=>⟨hi,(hb _ (by omega) (by omega)).trans h.2.1,(hb _ (Nat.le_refl _) (by omega)).trans h.2.2⟩)
   ?_ ⟨hI1,hL1,hK1⟩ hOld).mono ?_
  ·rintro pre x W ⟨hi,hl,hk⟩ hv hlen
   have hy:=run_yield (P:=P) (args:=encs x) hl (by rw [hrec];exact hps x)
   rw [hrec] at hy
   refine ⟨fn,_,assign,body,hy,roundIn_of_wpIn hfn (hassign _ pre x W _ hi hv ?_)⟩
   clear hy
   intro a' Wa hkf hkpa hia hax
   have hla:=hkf.same _ _ (by omega) hl rfl
   have hka:=hkf.same _ _ (Nat.le_refl _) hk rfl
   have hlt:w.heap.size+1<Wa.heap.size:=(Array.getElem?_eq_some_iff.1 hla).1
   refine ⟨_,run_beginRound hla (by rw [hrec]),?_⟩
   have hl2:(Wa.putObj (w.heap.size+1) (.loop { rec .ready none with state:=.busy })).heap[w.heap.size+1]?=some (.loop { rec .ready none with state:=.busy }):=World.putObj_heap_same hlt
   have hk2:(Wa.putObj (w.heap.size+1) (.loop { rec .ready none with state:=.busy })).heap[w.heap.size]?=some (.deferred (some [])):=(World.putObj_heap_other (by omega)).trans hka
   refine wpIn_mono (hbody _ pre x a' _ (hI.putObj _ hia (by omega) hla rfl) ((hAx pre x a').putObj (s:=()) _ hax (by omega) hla rfl) hlen) ?_
   have fin:∀ (jump:Option Code) (W3:World),KeepsFrom w.heap.size (Wa.putObj (w.heap.size+1) (.loop { rec .ready none with state:=.busy })) W3→
    (Instr.endRound (w.heap.size+1) jump).run P W3=.ok (.bool jump.isNone) (W3.putObj (w.heap.size+1) (.loop (rec (if jump.isNone then .ready else .done) jump)))∧
    W3.heap[w.heap.size+1]?=some (.loop { rec .ready none with state:=.busy })∧
    (W3.putObj (w.heap.size+1) (.loop (rec (if jump.isNone then .ready else .done) jump))).heap[w.heap.size+1]?=some (.loop (rec (if jump.isNone then .ready else .done) jump))∧
    (W3.putObj (w.heap.size+1) (.loop (rec (if jump.isNone then .ready else .done) jump))).heap[w.heap.size]?=some (.deferred (some [])):=fun jump W3 hk3=>by
    have hl3:=hk3.same _ _ (by omega) hl2 rfl
    have:=run_endRound (P:=P) jump hl3
    rw [hrec] at this ⊢
    exact ⟨this,by rw [hrec] at hl3;exact hl3,World.putObj_heap_same (Array.getElem?_eq_some_iff.1 hl3).1,(World.putObj_heap_other (by omega)).trans (hk3.same _ _ (Nat.le_refl _) hk2 rfl)⟩
   rintro e a3 W3 hp
   cases e with
   |normal=>
    obtain ⟨hk3,hkp3,hi3⟩:=hp
    obtain ⟨hr,hl3,hl4,hk4⟩:=fin none W3 hk3
    exact ⟨_,_,hr,.inl ⟨rfl,⟨hI.putObj _ hi3 (by omega) hl3 rfl,hl4,hk4⟩,hKt hkpa (hKt (hKt (hKb _ _ _ _ (by omega) hla rfl) hkp3) (hKb _ _ _ _ (by omega) hl3 rfl))⟩⟩
   |ret=>
    obtain ⟨hk3,hi3⟩:=hp
    obtain ⟨hr,hl3,hl4,hk4⟩:=fin (some .ret) W3 hk3
    exact ⟨_,_,hr,.inr ⟨rfl,.ret,(hIx _).putObj _ hi3 (by omega) hl3 rfl,hl4,hk4⟩⟩
   |exit id=>
    obtain ⟨hk3,hi3⟩:=hp
    obtain ⟨hr,hl3,hl4,hk4⟩:=fin (some (.exit id)) W3 hk3
    exact ⟨_,_,hr,.inr ⟨rfl,.exit id,(hIx _).putObj _ hi3 (by omega) hl3 rfl,hl4,hk4⟩⟩
   |goto t=>
    obtain ⟨hk3,hi3⟩:=hp
    obtain ⟨hr,hl3,hl4,hk4⟩:=fin (some (.goto t)) W3 hk3
    exact ⟨_,_,hr,.inr ⟨rfl,.goto t,(hIx _).putObj _ hi3 (by omega) hl3 rfl,hl4,hk4⟩⟩
   |panic ch=>exact hp.elim
   |outgrown=>exact hp.elim
  ·rintro e W2 ⟨⟨v,rfl⟩,(⟨xs,hSx,hi,hl,hk⟩|⟨pre,hSp,c,hi,hl,hk⟩)⟩
   ·exact ⟨none,_,by have:=run_endLoop (P:=P) hl (by rw [hrec];simp);rw [hrec] at this;exact this,hdone _ xs _ (Nat.le_refl _) (hS.putObj _ hSx (by omega) hl rfl) (hI.putObj _ hi (by omega) hl rfl) ((World.putObj_heap_other (by omega)).trans hk)⟩
   ·exact ⟨some c,_,by have:=run_endLoop (P:=P) hl (by rw [hrec];simp);rw [hrec] at this;exact this,hstop _ c pre _ (Nat.le_refl _) hSp ((hIx c).putObj _ hi (by omega) hl rfl) ((World.putObj_heap_other (by omega)).trans hk)⟩
end Go.Proofs.YtlgodacccilabaaGreatDoor
namespace Go.Proofs.YtlgodacccilabaaGreatDoor
open Go Go.RowKit
set_option linter.unusedVariables false
abbrev Tab (w:World):Prop:=Lib.TabIs Tryz.prog w "internal/strconv.uint64pow10" .u64 Lib.pow10Tab
theorem tab_at:Tryz.prog.globalNamed "internal/strconv.uint64pow10" =some 0:=by kernel_rfl
theorem tab_same {w w':World} (h:Tab w) (hb:w'.heap[0]?=w.heap[0]?):Tab w':=by
 have h':w.var? Tryz.prog "internal/strconv.uint64pow10" =_:=h
 show w'.var? Tryz.prog "internal/strconv.uint64pow10" =_
 rw [←h']
 unfold World.var?
 rw [tab_at]
 simp only [Option.bind_some]
 rw [hb]
theorem below_grow (w:World) (k:Nat) (os:Array Obj):Below w.heap.size w (Go.Sort.grow (w.drewN k) os):=
 ⟨rfl,rfl,rfl,by simp [Go.Sort.grow,World.drewN],fun j hj=>by simp [Go.Sort.grow,World.drewN,Array.getElem?_append,hj]⟩
theorem itoa_any (n:Nat) (hn:n≤1000000) (w:World) (ht:Tab w):Calls Tryz.prog 58 #[.int .i64 (n:Int)] w fun e w'=>e=.returned (.string ⟨(Lib.itoa (n:Int)).toArray⟩)∧Below w.heap.size w w':=
 (Tryz.strconv_Itoa (n:Int) (by omega) (by omega) w ht).mono (by rintro e w' ⟨h1,k,os,rfl⟩;exact ⟨h1,below_grow w k os⟩)
def hdB (s:ByteArray) (f:Fd) (n:Nat):ByteArray:=⟨(hdl s f n).toArray⟩
theorem hdB_ext {s:ByteArray} {f:Fd}:hdB s f 0=s.extract f.fr f.en:=by
 simp only [hdB,hdl,cutL,Array.toArray_toList]
theorem hdB_pl {s:ByteArray} {f:Fd} {n a b:Nat} (h:f.caps[n]?=some (true,a,b)):hdB s f (n+1)=⟨(Lib.itoa ((a+1:Nat):Int)).toArray⟩:=by simp [hdB,hdl,h]
theorem hdB_cut {s:ByteArray} {f:Fd} {n a b:Nat} (h:f.caps[n]?=some (false,a,b)):hdB s f (n+1)=s.extract a b:=by
 simp only [hdB,hdl,h,cutL,Bool.false_eq_true,if_false,Array.toArray_toList]
theorem hdB_out {s:ByteArray} {f:Fd} {n:Nat} (h:f.caps.length≤n):hdB s f (n+1)=⟨#[]⟩:=by
 simp only [hdB,hdl]
 rw [List.getElem?_eq_none h]
def hvK (s:ByteArray) (f:Fd) (k:Nat):Nat→Value:=fun n=>if n≤k then .string (hdB s f n) else .string ⟨#[]⟩
structure HbI (w wr:World) (s:ByteArray) (f:Fd) (i:Nat):Prop where
 b:Below w.heap.size w wr
 r:RowF wr 109 (w.heap.size+1) 10 (fun _=>.string ⟨#[]⟩)
 h:RowF wr 109 (w.heap.size+1+1) 10 (hvK s f i)
 z:w.heap.size+3≤wr.heap.size
theorem HbI.low {w wr w':World} {s:ByteArray} {f:Fd} {i:Nat} (h:HbI w wr s f i) (k:Below wr.heap.size wr w'):HbI w w' s f i:=by
 have hz:=h.z
 exact ⟨h.b.trans (k.mono (by omega)),h.r.low k (by omega),h.h.low k (by omega),Nat.le_trans hz k.size⟩
theorem HbI.put {w wr:World} {s:ByteArray} {f:Fd} {i:Nat} (h:HbI w wr s f i) (hi:i+1<10):HbI w (wr.setCell ⟨w.heap.size+1+1,i+1,none⟩ (.string (hdB s f (i+1)))) s f (i+1):=by
 have k:Keeps wr (wr.setCell ⟨w.heap.size+1+1,i+1,none⟩ (.string (hdB s f (i+1)))) (fun b=>b=w.heap.size+1+1):=(Keeps.refl wr (fun b=>b=w.heap.size+1+1)).setCell (S:=fun b=>b=w.heap.size+1+1) (j:=i+1) rfl _
 have hz:=h.z
 refine ⟨h.b.trans (k.below (by omega) (fun b (e:b=w.heap.size+1+1)=>by omega)),h.r.keep k (fun e=>by omega),(h.h.set hi _).congr (fun j hj=>?_),Nat.le_trans hz k.size⟩
 by_cases e:j=i+1
 ·subst e;simp [hvK]
 ·rw [if_neg e]
  simp only [hvK]
  by_cases e2:j≤i
  ·rw [if_pos e2,if_pos (by omega)]
  ·rw [if_neg e2,if_neg (by omega)]
theorem ten_set {w:World} {T g:Nat} {u:Nat→Value} (v:Nat→Value) (h:RowF w T g 10 u):RowF ((((((((((w.setCell ⟨g,0,none⟩ (v 0)).setCell ⟨g,1,none⟩ (v 1)).setCell ⟨g,2,none⟩ (v 2)).setCell ⟨g,3,none⟩ (v 3)).setCell ⟨g,4,none⟩ (v 4)).setCell ⟨g,5,none⟩ (v 5)).setCell ⟨g,6,none⟩ (v 6)).setCell ⟨g,7,none⟩ (v 7)).setCell ⟨g,8,none⟩ (v 8)).setCell ⟨g,9,none⟩ (v 9)) T g 10 v:=by
 refine (((((((((((h.set (j:=0) (by omega) (v 0)).set (j:=1) (by omega) (v 1)).set (j:=2) (by omega) (v 2)).set (j:=3) (by omega) (v 3)).set (j:=4) (by omega) (v 4)).set (j:=5) (by omega) (v 5)).set (j:=6) (by omega) (v 6)).set (j:=7) (by omega) (v 7)).set (j:=8) (by omega) (v 8)).set (j:=9) (by omega) (v 9))).congr (fun j hj=>?_)
 rcases ten_cases hj with rfl|rfl|rfl|rfl|rfl|rfl|rfl|rfl|rfl|rfl<;>simp
theorem ten_below {w0 w:World} {B g:Nat} (v:Nat→Value) (hB:B≤g) (h:Below B w0 w):Below B w0 ((((((((((w.setCell ⟨g,0,none⟩ (v 0)).setCell ⟨g,1,none⟩ (v 1)).setCell ⟨g,2,none⟩ (v 2)).setCell ⟨g,3,none⟩ (v 3)).setCell ⟨g,4,none⟩ (v 4)).setCell ⟨g,5,none⟩ (v 5)).setCell ⟨g,6,none⟩ (v 6)).setCell ⟨g,7,none⟩ (v 7)).setCell ⟨g,8,none⟩ (v 8)).setCell ⟨g,9,none⟩ (v 9)):=
 ((((((((((h.setCell (p:=⟨g,0,none⟩) hB (v 0)).setCell (p:=⟨g,1,none⟩) hB (v 1)).setCell (p:=⟨g,2,none⟩) hB (v 2)).setCell (p:=⟨g,3,none⟩) hB (v 3)).setCell (p:=⟨g,4,none⟩) hB (v 4)).setCell (p:=⟨g,5,none⟩) hB (v 5)).setCell (p:=⟨g,6,none⟩) hB (v 6)).setCell (p:=⟨g,7,none⟩) hB (v 7)).setCell (p:=⟨g,8,none⟩) hB (v 8)).setCell (p:=⟨g,9,none⟩) hB (v 9))
theorem ld_hd {w:World} {g:Nat} {v:Nat→Value} (h:RowF w 109 g 10 v):(loadVar 109 ⟨g,0,none⟩).run Tryz.prog w=.ok (.agg (arT v)) w:=
 run_loadVar_mid (P:=Tryz.prog) w g 0 109 _ (.array 10 9) (row_range h) (by kernel_rfl) rfl (by rw [info_hd];simp)
set_option maxHeartbeats 6400000 in
set_option maxRecDepth 100000 in
theorem heldBy_any (s:ByteArray) (f:Fd) (cv:Value) (w:World) (hs:s.size≤65536) (hf1:f.fr≤f.en) (hf2:f.en≤s.size) (hcp:∀ x∈f.caps,x.2.1≤x.2.2∧x.2.2≤s.size) (hcl:f.caps.length≤16)
 (hcv:CpA w cv f.caps.length (cx0 f.caps) (cx1 f.caps) (cx2 f.caps)) (ht:Tab w) (hg:0<w.heap.size):
 Calls Tryz.prog 36 #[.string s,.agg #[.int .i64 (f.fr:Int),.int .i64 (f.en:Int),cv]] w fun e w'=>e=.returned (.agg (arT (hvV (hdB s f))))∧Below w.heap.size w w':=by
 obtain ⟨ac,kc,rfl⟩:=hcv.val
 have HC:=hide hcv
 have HT:=hide ht
 have HCP:=hide (fun n h=>cx_rng hcp (n:=n) h)
 have hsl:∀ w':World,(Instr.slice 9 (.string s) (some (.int .i64 (f.fr:Int))) (some (.int .i64 (f.en:Int))) none).run Tryz.prog w'=.ok (.string (s.extract f.fr f.en)) w':=fun w'=>sl_run s f.fr f.en hf1 hf2 w'
 clear hcv ht hcp
 have hkc:(f.caps.length:Int)≤(kc:Int):=by
  rcases HC.out with ⟨e,_⟩|⟨b,cap,e,e1,e2,e3⟩
  ·omega
  ·cases e;omega
 by_cases h9:(9:Int)<(f.caps.length:Int)
 ·go_enter Tryz.func36,Tryz.ntmps36
  go_wp2_with fail
  have HI0:=hide (show HbI w (((w.alloc (.cells #[.int .i64 (f.fr:Int),.int .i64 (f.en:Int),.slice ac f.caps.length kc] 32)).alloc (.cells #[.string ⟨#[]⟩,.string ⟨#[]⟩,.string ⟨#[]⟩,.string ⟨#[]⟩,.string ⟨#[]⟩,.string ⟨#[]⟩,.string ⟨#[]⟩,.string ⟨#[]⟩,.string ⟨#[]⟩,.string ⟨#[]⟩] 109)).alloc (.cells #[.string (s.extract f.fr f.en),.string ⟨#[]⟩,.string ⟨#[]⟩,.string ⟨#[]⟩,.string ⟨#[]⟩,.string ⟨#[]⟩,.string ⟨#[]⟩,.string ⟨#[]⟩,.string ⟨#[]⟩,.string ⟨#[]⟩] 109)) s f 0 from by
   refine ⟨b_3 w _ _ _,?_,?_,by simp⟩
   ·refine (arT_row (v:=fun _=>.string ⟨#[]⟩) ?_)
    refine (Below.heap_alloc _ _ _ (by simp)).trans ?_
    have:=heap_alloc_new (w.alloc (.cells #[.int .i64 (f.fr:Int),.int .i64 (f.en:Int),.slice ac f.caps.length kc] 32)) (.cells #[.string ⟨#[]⟩,.string ⟨#[]⟩,.string ⟨#[]⟩,.string ⟨#[]⟩,.string ⟨#[]⟩,.string ⟨#[]⟩,.string ⟨#[]⟩,.string ⟨#[]⟩,.string ⟨#[]⟩,.string ⟨#[]⟩] 109)
    simpa [arT] using this
   ·refine RowF.congr (arT_row (v:=fun n=>if n=0 then .string (s.extract f.fr f.en) else .string ⟨#[]⟩) ?_) (fun n hn=>?_)
    ·have:=heap_alloc_new ((w.alloc (.cells #[.int .i64 (f.fr:Int),.int .i64 (f.en:Int),.slice ac f.caps.length kc] 32)).alloc (.cells #[.string ⟨#[]⟩,.string ⟨#[]⟩,.string ⟨#[]⟩,.string ⟨#[]⟩,.string ⟨#[]⟩,.string ⟨#[]⟩,.string ⟨#[]⟩,.string ⟨#[]⟩,.string ⟨#[]⟩,.string ⟨#[]⟩] 109)) (.cells #[.string (s.extract f.fr f.en),.string ⟨#[]⟩,.string ⟨#[]⟩,.string ⟨#[]⟩,.string ⟨#[]⟩,.string ⟨#[]⟩,.string ⟨#[]⟩,.string ⟨#[]⟩,.string ⟨#[]⟩,.string ⟨#[]⟩] 109)
     simpa [arT] using this
    ·by_cases e:n=0
     ·subst e;simp [hvK,hdB_ext]
     ·rw [if_neg e];simp only [hvK];rw [if_neg (by omega)])
  generalize (((w.alloc (.cells #[.int .i64 (f.fr:Int),.int .i64 (f.en:Int),.slice ac f.caps.length kc] 32)).alloc (.cells #[.string ⟨#[]⟩,.string ⟨#[]⟩,.string ⟨#[]⟩,.string ⟨#[]⟩,.string ⟨#[]⟩,.string ⟨#[]⟩,.string ⟨#[]⟩,.string ⟨#[]⟩,.string ⟨#[]⟩,.string ⟨#[]⟩] 109)).alloc (.cells #[.string (s.extract f.fr f.en),.string ⟨#[]⟩,.string ⟨#[]⟩,.string ⟨#[]⟩,.string ⟨#[]⟩,.string ⟨#[]⟩,.string ⟨#[]⟩,.string ⟨#[]⟩,.string ⟨#[]⟩,.string ⟨#[]⟩] 109))=w1 at *
  go_loopw [23] (fun iv wr=>∃ i:Nat,iv=.int .i64 i∧i≤9∧Hid (HbI w wr s f i)) (fun iv _=>17-ivN iv)
  case atStart=>exact ⟨0,rfl,by omega,HI0⟩
  case round=>
   clear HI0
   obtain ⟨i,rfl,hi9,HI⟩:=hrel
   by_cases hi:i<9
   ·have hi2:(i:Int)<(9:Int):=by omega
    have hlt:i<f.caps.length:=by omega
    obtain ⟨cA,cB,hcA,hcB,hcl1,hcl2⟩:=HCP.out i hlt
    obtain ⟨bk,rfl,hbk,hnk,hcc⟩:∃ bk,ac=some ⟨bk,0,none⟩∧bk<w.heap.size∧f.caps.length≤kc∧∀ i,i<f.caps.length→w.cell? ⟨bk,i*3,none⟩=some (.bool (cx0 f.caps i))∧w.cell? ⟨bk,i*3+1,none⟩=some (.int .i64 (cx1 f.caps i))∧w.cell? ⟨bk,i*3+2,none⟩=some (.int .i64 (cx2 f.caps i)):=by
     rcases HC.out with ⟨e,_⟩|⟨b,cap,e,e1,e2,e3⟩
     ·omega
     ·cases e;exact ⟨b,rfl,e1,e2,e3⟩
    have hcn:=hcc i hlt
    have hcx:=cx_at hlt
    have y0:wr.cell? ⟨bk,i*3,none⟩=some (.bool (cx0 f.caps i)):=(HI.out.b.cell (p:=⟨bk,i*3,none⟩) hbk).trans hcn.1
    have y1:wr.cell? ⟨bk,i*3+1,none⟩=some (.int .i64 (cA:Int)):=(HI.out.b.cell (p:=⟨bk,i*3+1,none⟩) hbk).trans (by rw [hcn.2.1,hcA])
    have y2:wr.cell? ⟨bk,i*3+2,none⟩=some (.int .i64 (cB:Int)):=(HI.out.b.cell (p:=⟨bk,i*3+2,none⟩) hbk).trans (by rw [hcn.2.2,hcB])
    rw [hcA,hcB,Int.toNat_natCast,Int.toNat_natCast] at hcx
    clear hcn hcc hcA hcB
    have hzz:=HI.out.z
    cases hpl:cx0 f.caps i with
    |true=>
     rw [hpl] at y0 hcx
     have HE:=hide (hdB_pl (s:=s) hcx)
     have HI2:=hide (HI.out.low (b_1 wr (.cells #[.bool true,.int .i64 (cA:Int),.int .i64 (cB:Int)] 56)))
     have HTw:=hide (show Tab (wr.alloc (.cells #[.bool true,.int .i64 (cA:Int),.int .i64 (cB:Int)] 56)) from tab_same HT.out (((HI2.out.b).block _ hg)))
     have HCt:=hide (itoa_any (cA+1) (by omega) (wr.alloc (.cells #[.bool true,.int .i64 (cA:Int),.int .i64 (cB:Int)] 56)) HTw.out)
     rw [show (((cA+1:Nat):Int))=(cA:Int)+1 by omega] at HCt HE
     clear hcx hpl HI HTw
     generalize Lib.itoa ((cA:Int)+1)=D at *
     go_wp2_with (first
      |(have _z:=HI2
        go_at_call 58
        clear _z
        refine HCt.out.mono ?_
        rintro e w4 ⟨rfl,hb4⟩
        have HI4:=hide (HI2.out.low hb4)
        have d0:w4.cell? ⟨w.heap.size+1+1,i+1,none⟩=some (.string ⟨#[]⟩):=(HI4.out.h.cell (j:=i+1) (by omega)).trans (by simp only [hvK];rw [if_neg (by omega)])
        have d1:w4.frozen? ⟨w.heap.size+1+1,i+1,none⟩=false:=HI4.out.h.frz (i+1)
        have HI5:=hide (HI4.out.put (by omega))
        rw [HE.out] at HI5
        clear hb4 HI4)
      |fail)
     go_roundw
     case rel=>exact ⟨i+1,by simp,by omega,HI5⟩
     case measure=>simp [ivN];omega
    |false=>
     rw [hpl] at y0 hcx
     have HE:=hide (hdB_cut (s:=s) hcx)
     have HI4:=hide (HI.out.low (b_1 wr (.cells #[.bool false,.int .i64 (cA:Int),.int .i64 (cB:Int)] 56)))
     have d0:(wr.alloc (.cells #[.bool false,.int .i64 (cA:Int),.int .i64 (cB:Int)] 56)).cell? ⟨w.heap.size+1+1,i+1,none⟩=some (.string ⟨#[]⟩):=(HI4.out.h.cell (j:=i+1) (by omega)).trans (by simp only [hvK];rw [if_neg (by omega)])
     have d1:(wr.alloc (.cells #[.bool false,.int .i64 (cA:Int),.int .i64 (cB:Int)] 56)).frozen? ⟨w.heap.size+1+1,i+1,none⟩=false:=HI4.out.h.frz (i+1)
     have HI5:=hide (HI4.out.put (by omega))
     rw [HE.out] at HI5
     have hsl2:∀ w':World,(Instr.slice 9 (.string s) (some (.int .i64 (cA:Int))) (some (.int .i64 (cB:Int))) none).run Tryz.prog w'=.ok (.string (s.extract cA cB)) w':=fun w'=>sl_run s cA cB hcl1 hcl2 w'
     clear hcx hpl HI HI4
     go_wp2_with fail
     go_roundw
     case rel=>exact ⟨i+1,by simp,by omega,HI5⟩
     case measure=>simp [ivN];omega
   ·obtain rfl:i=9:=by omega
    have HV:=hide (show ∀ n,n<10→hvK s f 9 n=hvV (hdB s f) n from fun n hn=>by
     simp only [hvK,hvV]
     split
     ·rfl
     ·obtain ⟨m,rfl⟩:∃ m,n=m+1:=⟨n-1,by omega⟩
      rw [hdB_out (by omega)])
    have HHc:=hide (RowF.congr HI.out.h HV.out)
    have HA:=hide HI.out.r
    have HL:=hide HI.out.b
    clear HI
    have c0:wr.cell? ⟨w.heap.size+1+1,0,none⟩=some (.string (hdB s f 0)):=HHc.out.cell (j:=0) (by omega)
    have c1:wr.cell? ⟨w.heap.size+1+1,1,none⟩=some (.string (hdB s f 1)):=HHc.out.cell (j:=1) (by omega)
    have c2:wr.cell? ⟨w.heap.size+1+1,2,none⟩=some (.string (hdB s f 2)):=HHc.out.cell (j:=2) (by omega)
    have c3:wr.cell? ⟨w.heap.size+1+1,3,none⟩=some (.string (hdB s f 3)):=HHc.out.cell (j:=3) (by omega)
    have c4:wr.cell? ⟨w.heap.size+1+1,4,none⟩=some (.string (hdB s f 4)):=HHc.out.cell (j:=4) (by omega)
    have c5:wr.cell? ⟨w.heap.size+1+1,5,none⟩=some (.string (hdB s f 5)):=HHc.out.cell (j:=5) (by omega)
    have c6:wr.cell? ⟨w.heap.size+1+1,6,none⟩=some (.string (hdB s f 6)):=HHc.out.cell (j:=6) (by omega)
    have c7:wr.cell? ⟨w.heap.size+1+1,7,none⟩=some (.string (hdB s f 7)):=HHc.out.cell (j:=7) (by omega)
    have c8:wr.cell? ⟨w.heap.size+1+1,8,none⟩=some (.string (hdB s f 8)):=HHc.out.cell (j:=8) (by omega)
    have c9:wr.cell? ⟨w.heap.size+1+1,9,none⟩=some (.string (hdB s f 9)):=HHc.out.cell (j:=9) (by omega)
    have r0:wr.cell? ⟨w.heap.size+1,0,none⟩=some (.string ⟨#[]⟩):=HA.out.cell (j:=0) (by omega)
    have r1:wr.cell? ⟨w.heap.size+1,1,none⟩=some (.string ⟨#[]⟩):=HA.out.cell (j:=1) (by omega)
    have r2:wr.cell? ⟨w.heap.size+1,2,none⟩=some (.string ⟨#[]⟩):=HA.out.cell (j:=2) (by omega)
    have r3:wr.cell? ⟨w.heap.size+1,3,none⟩=some (.string ⟨#[]⟩):=HA.out.cell (j:=3) (by omega)
    have r4:wr.cell? ⟨w.heap.size+1,4,none⟩=some (.string ⟨#[]⟩):=HA.out.cell (j:=4) (by omega)
    have r5:wr.cell? ⟨w.heap.size+1,5,none⟩=some (.string ⟨#[]⟩):=HA.out.cell (j:=5) (by omega)
    have r6:wr.cell? ⟨w.heap.size+1,6,none⟩=some (.string ⟨#[]⟩):=HA.out.cell (j:=6) (by omega)
    have r7:wr.cell? ⟨w.heap.size+1,7,none⟩=some (.string ⟨#[]⟩):=HA.out.cell (j:=7) (by omega)
    have r8:wr.cell? ⟨w.heap.size+1,8,none⟩=some (.string ⟨#[]⟩):=HA.out.cell (j:=8) (by omega)
    have r9:wr.cell? ⟨w.heap.size+1,9,none⟩=some (.string ⟨#[]⟩):=HA.out.cell (j:=9) (by omega)
    have z0:wr.frozen? ⟨w.heap.size+1,0,none⟩=false:=HA.out.frz 0
    have z1:wr.frozen? ⟨w.heap.size+1,1,none⟩=false:=HA.out.frz 1
    have z2:wr.frozen? ⟨w.heap.size+1,2,none⟩=false:=HA.out.frz 2
    have z3:wr.frozen? ⟨w.heap.size+1,3,none⟩=false:=HA.out.frz 3
    have z4:wr.frozen? ⟨w.heap.size+1,4,none⟩=false:=HA.out.frz 4
    have z5:wr.frozen? ⟨w.heap.size+1,5,none⟩=false:=HA.out.frz 5
    have z6:wr.frozen? ⟨w.heap.size+1,6,none⟩=false:=HA.out.frz 6
    have z7:wr.frozen? ⟨w.heap.size+1,7,none⟩=false:=HA.out.frz 7
    have z8:wr.frozen? ⟨w.heap.size+1,8,none⟩=false:=HA.out.frz 8
    have z9:wr.frozen? ⟨w.heap.size+1,9,none⟩=false:=HA.out.frz 9
    go_wp2_with fail
    have hF:=ten_set (hvV (hdB s f)) HA.out
    have hBf:=ten_below (hvV (hdB s f)) (Nat.le_succ w.heap.size) HL.out
    have hld:=ld_hd hF
    dsimp only [hvV] at hld hBf
    clear hF
    generalize ((((((((((wr.setCell ⟨w.heap.size+1,0,none⟩ (.string (hdB s f 0))).setCell ⟨w.heap.size+1,1,none⟩ (.string (hdB s f 1))).setCell ⟨w.heap.size+1,2,none⟩ (.string (hdB s f 2))).setCell ⟨w.heap.size+1,3,none⟩ (.string (hdB s f 3))).setCell ⟨w.heap.size+1,4,none⟩ (.string (hdB s f 4))).setCell ⟨w.heap.size+1,5,none⟩ (.string (hdB s f 5))).setCell ⟨w.heap.size+1,6,none⟩ (.string (hdB s f 6))).setCell ⟨w.heap.size+1,7,none⟩ (.string (hdB s f 7))).setCell ⟨w.heap.size+1,8,none⟩ (.string (hdB s f 8))).setCell ⟨w.heap.size+1,9,none⟩ (.string (hdB s f 9)))=wF at *
    refine bodyPost_ret (v:=.agg (arT (hvV (hdB s f)))) ?_ rfl ⟨rfl,hBf⟩
    simp [results,Tryz.f36,asAddr,hld]
 ·go_enter Tryz.func36,Tryz.ntmps36
  go_wp2_with fail
  have HI0:=hide (show HbI w (((w.alloc (.cells #[.int .i64 (f.fr:Int),.int .i64 (f.en:Int),.slice ac f.caps.length kc] 32)).alloc (.cells #[.string ⟨#[]⟩,.string ⟨#[]⟩,.string ⟨#[]⟩,.string ⟨#[]⟩,.string ⟨#[]⟩,.string ⟨#[]⟩,.string ⟨#[]⟩,.string ⟨#[]⟩,.string ⟨#[]⟩,.string ⟨#[]⟩] 109)).alloc (.cells #[.string (s.extract f.fr f.en),.string ⟨#[]⟩,.string ⟨#[]⟩,.string ⟨#[]⟩,.string ⟨#[]⟩,.string ⟨#[]⟩,.string ⟨#[]⟩,.string ⟨#[]⟩,.string ⟨#[]⟩,.string ⟨#[]⟩] 109)) s f 0 from by
   refine ⟨b_3 w _ _ _,?_,?_,by simp⟩
   ·refine (arT_row (v:=fun _=>.string ⟨#[]⟩) ?_)
    refine (Below.heap_alloc _ _ _ (by simp)).trans ?_
    have:=heap_alloc_new (w.alloc (.cells #[.int .i64 (f.fr:Int),.int .i64 (f.en:Int),.slice ac f.caps.length kc] 32)) (.cells #[.string ⟨#[]⟩,.string ⟨#[]⟩,.string ⟨#[]⟩,.string ⟨#[]⟩,.string ⟨#[]⟩,.string ⟨#[]⟩,.string ⟨#[]⟩,.string ⟨#[]⟩,.string ⟨#[]⟩,.string ⟨#[]⟩] 109)
    simpa [arT] using this
   ·refine RowF.congr (arT_row (v:=fun n=>if n=0 then .string (s.extract f.fr f.en) else .string ⟨#[]⟩) ?_) (fun n hn=>?_)
    ·have:=heap_alloc_new ((w.alloc (.cells #[.int .i64 (f.fr:Int),.int .i64 (f.en:Int),.slice ac f.caps.length kc] 32)).alloc (.cells #[.string ⟨#[]⟩,.string ⟨#[]⟩,.string ⟨#[]⟩,.string ⟨#[]⟩,.string ⟨#[]⟩,.string ⟨#[]⟩,.string ⟨#[]⟩,.string ⟨#[]⟩,.string ⟨#[]⟩,.string ⟨#[]⟩] 109)) (.cells #[.string (s.extract f.fr f.en),.string ⟨#[]⟩,.string ⟨#[]⟩,.string ⟨#[]⟩,.string ⟨#[]⟩,.string ⟨#[]⟩,.string ⟨#[]⟩,.string ⟨#[]⟩,.string ⟨#[]⟩,.string ⟨#[]⟩] 109)
     simpa [arT] using this
    ·by_cases e:n=0
     ·subst e;simp [hvK,hdB_ext]
     ·rw [if_neg e];simp only [hvK];rw [if_neg (by omega)])
  generalize (((w.alloc (.cells #[.int .i64 (f.fr:Int),.int .i64 (f.en:Int),.slice ac f.caps.length kc] 32)).alloc (.cells #[.string ⟨#[]⟩,.string ⟨#[]⟩,.string ⟨#[]⟩,.string ⟨#[]⟩,.string ⟨#[]⟩,.string ⟨#[]⟩,.string ⟨#[]⟩,.string ⟨#[]⟩,.string ⟨#[]⟩,.string ⟨#[]⟩] 109)).alloc (.cells #[.string (s.extract f.fr f.en),.string ⟨#[]⟩,.string ⟨#[]⟩,.string ⟨#[]⟩,.string ⟨#[]⟩,.string ⟨#[]⟩,.string ⟨#[]⟩,.string ⟨#[]⟩,.string ⟨#[]⟩,.string ⟨#[]⟩] 109))=w1 at *
  go_loopw [23] (fun iv wr=>∃ i:Nat,iv=.int .i64 i∧i≤f.caps.length∧Hid (HbI w wr s f i)) (fun iv _=>17-ivN iv)
  case atStart=>exact ⟨0,rfl,by omega,HI0⟩
  case round=>
   clear HI0
   obtain ⟨i,rfl,hi9,HI⟩:=hrel
   by_cases hi:i<f.caps.length
   ·have hi2:(i:Int)<(f.caps.length:Int):=by omega
    have hlt:i<f.caps.length:=by omega
    obtain ⟨cA,cB,hcA,hcB,hcl1,hcl2⟩:=HCP.out i hlt
    obtain ⟨bk,rfl,hbk,hnk,hcc⟩:∃ bk,ac=some ⟨bk,0,none⟩∧bk<w.heap.size∧f.caps.length≤kc∧∀ i,i<f.caps.length→w.cell? ⟨bk,i*3,none⟩=some (.bool (cx0 f.caps i))∧w.cell? ⟨bk,i*3+1,none⟩=some (.int .i64 (cx1 f.caps i))∧w.cell? ⟨bk,i*3+2,none⟩=some (.int .i64 (cx2 f.caps i)):=by
     rcases HC.out with ⟨e,_⟩|⟨b,cap,e,e1,e2,e3⟩
     ·omega
     ·cases e;exact ⟨b,rfl,e1,e2,e3⟩
    have hcn:=hcc i hlt
    have hcx:=cx_at hlt
    have y0:wr.cell? ⟨bk,i*3,none⟩=some (.bool (cx0 f.caps i)):=(HI.out.b.cell (p:=⟨bk,i*3,none⟩) hbk).trans hcn.1
    have y1:wr.cell? ⟨bk,i*3+1,none⟩=some (.int .i64 (cA:Int)):=(HI.out.b.cell (p:=⟨bk,i*3+1,none⟩) hbk).trans (by rw [hcn.2.1,hcA])
    have y2:wr.cell? ⟨bk,i*3+2,none⟩=some (.int .i64 (cB:Int)):=(HI.out.b.cell (p:=⟨bk,i*3+2,none⟩) hbk).trans (by rw [hcn.2.2,hcB])
    rw [hcA,hcB,Int.toNat_natCast,Int.toNat_natCast] at hcx
    clear hcn hcc hcA hcB
    have hzz:=HI.out.z
    cases hpl:cx0 f.caps i with
    |true=>
     rw [hpl] at y0 hcx
     have HE:=hide (hdB_pl (s:=s) hcx)
     have HI2:=hide (HI.out.low (b_1 wr (.cells #[.bool true,.int .i64 (cA:Int),.int .i64 (cB:Int)] 56)))
     have HTw:=hide (show Tab (wr.alloc (.cells #[.bool true,.int .i64 (cA:Int),.int .i64 (cB:Int)] 56)) from tab_same HT.out (((HI2.out.b).block _ hg)))
     have HCt:=hide (itoa_any (cA+1) (by omega) (wr.alloc (.cells #[.bool true,.int .i64 (cA:Int),.int .i64 (cB:Int)] 56)) HTw.out)
     rw [show (((cA+1:Nat):Int))=(cA:Int)+1 by omega] at HCt HE
     clear hcx hpl HI HTw
     generalize Lib.itoa ((cA:Int)+1)=D at *
     go_wp2_with (first
      |(have _z:=HI2
        go_at_call 58
        clear _z
        refine HCt.out.mono ?_
        rintro e w4 ⟨rfl,hb4⟩
        have HI4:=hide (HI2.out.low hb4)
        have d0:w4.cell? ⟨w.heap.size+1+1,i+1,none⟩=some (.string ⟨#[]⟩):=(HI4.out.h.cell (j:=i+1) (by omega)).trans (by simp only [hvK];rw [if_neg (by omega)])
        have d1:w4.frozen? ⟨w.heap.size+1+1,i+1,none⟩=false:=HI4.out.h.frz (i+1)
        have HI5:=hide (HI4.out.put (by omega))
        rw [HE.out] at HI5
        clear hb4 HI4)
      |fail)
     go_roundw
     case rel=>exact ⟨i+1,by simp,by omega,HI5⟩
     case measure=>simp [ivN];omega
    |false=>
     rw [hpl] at y0 hcx
     have HE:=hide (hdB_cut (s:=s) hcx)
     have HI4:=hide (HI.out.low (b_1 wr (.cells #[.bool false,.int .i64 (cA:Int),.int .i64 (cB:Int)] 56)))
     have d0:(wr.alloc (.cells #[.bool false,.int .i64 (cA:Int),.int .i64 (cB:Int)] 56)).cell? ⟨w.heap.size+1+1,i+1,none⟩=some (.string ⟨#[]⟩):=(HI4.out.h.cell (j:=i+1) (by omega)).trans (by simp only [hvK];rw [if_neg (by omega)])
     have d1:(wr.alloc (.cells #[.bool false,.int .i64 (cA:Int),.int .i64 (cB:Int)] 56)).frozen? ⟨w.heap.size+1+1,i+1,none⟩=false:=HI4.out.h.frz (i+1)
     have HI5:=hide (HI4.out.put (by omega))
     rw [HE.out] at HI5
     have hsl2:∀ w':World,(Instr.slice 9 (.string s) (some (.int .i64 (cA:Int))) (some (.int .i64 (cB:Int))) none).run Tryz.prog w'=.ok (.string (s.extract cA cB)) w':=fun w'=>sl_run s cA cB hcl1 hcl2 w'
     clear hcx hpl HI HI4
     go_wp2_with fail
     go_roundw
     case rel=>exact ⟨i+1,by simp,by omega,HI5⟩
     case measure=>simp [ivN];omega
   ·obtain rfl:i=f.caps.length:=by omega
    have HV:=hide (show ∀ n,n<10→hvK s f f.caps.length n=hvV (hdB s f) n from fun n hn=>by
     simp only [hvK,hvV]
     split
     ·rfl
     ·obtain ⟨m,rfl⟩:∃ m,n=m+1:=⟨n-1,by omega⟩
      rw [hdB_out (by omega)])
    have HHc:=hide (RowF.congr HI.out.h HV.out)
    have HA:=hide HI.out.r
    have HL:=hide HI.out.b
    clear HI
    have c0:wr.cell? ⟨w.heap.size+1+1,0,none⟩=some (.string (hdB s f 0)):=HHc.out.cell (j:=0) (by omega)
    have c1:wr.cell? ⟨w.heap.size+1+1,1,none⟩=some (.string (hdB s f 1)):=HHc.out.cell (j:=1) (by omega)
    have c2:wr.cell? ⟨w.heap.size+1+1,2,none⟩=some (.string (hdB s f 2)):=HHc.out.cell (j:=2) (by omega)
    have c3:wr.cell? ⟨w.heap.size+1+1,3,none⟩=some (.string (hdB s f 3)):=HHc.out.cell (j:=3) (by omega)
    have c4:wr.cell? ⟨w.heap.size+1+1,4,none⟩=some (.string (hdB s f 4)):=HHc.out.cell (j:=4) (by omega)
    have c5:wr.cell? ⟨w.heap.size+1+1,5,none⟩=some (.string (hdB s f 5)):=HHc.out.cell (j:=5) (by omega)
    have c6:wr.cell? ⟨w.heap.size+1+1,6,none⟩=some (.string (hdB s f 6)):=HHc.out.cell (j:=6) (by omega)
    have c7:wr.cell? ⟨w.heap.size+1+1,7,none⟩=some (.string (hdB s f 7)):=HHc.out.cell (j:=7) (by omega)
    have c8:wr.cell? ⟨w.heap.size+1+1,8,none⟩=some (.string (hdB s f 8)):=HHc.out.cell (j:=8) (by omega)
    have c9:wr.cell? ⟨w.heap.size+1+1,9,none⟩=some (.string (hdB s f 9)):=HHc.out.cell (j:=9) (by omega)
    have r0:wr.cell? ⟨w.heap.size+1,0,none⟩=some (.string ⟨#[]⟩):=HA.out.cell (j:=0) (by omega)
    have r1:wr.cell? ⟨w.heap.size+1,1,none⟩=some (.string ⟨#[]⟩):=HA.out.cell (j:=1) (by omega)
    have r2:wr.cell? ⟨w.heap.size+1,2,none⟩=some (.string ⟨#[]⟩):=HA.out.cell (j:=2) (by omega)
    have r3:wr.cell? ⟨w.heap.size+1,3,none⟩=some (.string ⟨#[]⟩):=HA.out.cell (j:=3) (by omega)
    have r4:wr.cell? ⟨w.heap.size+1,4,none⟩=some (.string ⟨#[]⟩):=HA.out.cell (j:=4) (by omega)
    have r5:wr.cell? ⟨w.heap.size+1,5,none⟩=some (.string ⟨#[]⟩):=HA.out.cell (j:=5) (by omega)
    have r6:wr.cell? ⟨w.heap.size+1,6,none⟩=some (.string ⟨#[]⟩):=HA.out.cell (j:=6) (by omega)
    have r7:wr.cell? ⟨w.heap.size+1,7,none⟩=some (.string ⟨#[]⟩):=HA.out.cell (j:=7) (by omega)
    have r8:wr.cell? ⟨w.heap.size+1,8,none⟩=some (.string ⟨#[]⟩):=HA.out.cell (j:=8) (by omega)
    have r9:wr.cell? ⟨w.heap.size+1,9,none⟩=some (.string ⟨#[]⟩):=HA.out.cell (j:=9) (by omega)
    have z0:wr.frozen? ⟨w.heap.size+1,0,none⟩=false:=HA.out.frz 0
    have z1:wr.frozen? ⟨w.heap.size+1,1,none⟩=false:=HA.out.frz 1
    have z2:wr.frozen? ⟨w.heap.size+1,2,none⟩=false:=HA.out.frz 2
    have z3:wr.frozen? ⟨w.heap.size+1,3,none⟩=false:=HA.out.frz 3
    have z4:wr.frozen? ⟨w.heap.size+1,4,none⟩=false:=HA.out.frz 4
    have z5:wr.frozen? ⟨w.heap.size+1,5,none⟩=false:=HA.out.frz 5
    have z6:wr.frozen? ⟨w.heap.size+1,6,none⟩=false:=HA.out.frz 6
    have z7:wr.frozen? ⟨w.heap.size+1,7,none⟩=false:=HA.out.frz 7
    have z8:wr.frozen? ⟨w.heap.size+1,8,none⟩=false:=HA.out.frz 8
    have z9:wr.frozen? ⟨w.heap.size+1,9,none⟩=false:=HA.out.frz 9
    go_wp2_with fail
    have hF:=ten_set (hvV (hdB s f)) HA.out
    have hBf:=ten_below (hvV (hdB s f)) (Nat.le_succ w.heap.size) HL.out
    have hld:=ld_hd hF
    dsimp only [hvV] at hld hBf
    clear hF
    generalize ((((((((((wr.setCell ⟨w.heap.size+1,0,none⟩ (.string (hdB s f 0))).setCell ⟨w.heap.size+1,1,none⟩ (.string (hdB s f 1))).setCell ⟨w.heap.size+1,2,none⟩ (.string (hdB s f 2))).setCell ⟨w.heap.size+1,3,none⟩ (.string (hdB s f 3))).setCell ⟨w.heap.size+1,4,none⟩ (.string (hdB s f 4))).setCell ⟨w.heap.size+1,5,none⟩ (.string (hdB s f 5))).setCell ⟨w.heap.size+1,6,none⟩ (.string (hdB s f 6))).setCell ⟨w.heap.size+1,7,none⟩ (.string (hdB s f 7))).setCell ⟨w.heap.size+1,8,none⟩ (.string (hdB s f 8))).setCell ⟨w.heap.size+1,9,none⟩ (.string (hdB s f 9)))=wF at *
    refine bodyPost_ret (v:=.agg (arT (hvV (hdB s f)))) ?_ rfl ⟨rfl,hBf⟩
    simp [results,Tryz.f36,asAddr,hld]
end Go.Proofs.YtlgodacccilabaaGreatDoor
