import Derived.Test.YtjibjahfbblieaaGreatDoorKBR
import Derived.Test.YtjibjahfbblieaaGreatDoorKShelf
import Derived.Maps.OwnSet
import Derived.Maps.OwnOps
import Derived.WalkArith
import Derived.Test.YtjibjahfbblieaaGreatDoorKP1J1b
import Derived.Test.YtjibjahfbblieaaGreatDoorKP1J1c
import Derived.Lib.ParseIntBCases
import Derived.Lib.IndexBytes
import Derived.Laws.RangeAny
import Derived.Laws.RangeString
import Derived.Laws.Runes
import Derived.Laws.Strings3
import Derived.Deep.LoopGhost
import Derived.Laws.IdiomStrings
import Derived.Maps.AppendAt
import Derived.Test.YtjibjahfbblieaaGreatDoorKMC0
import Derived.LaidEql
import Derived.Stop.Asserts
import Derived.RowKitTokens
import Derived.Lib.AppendIntMem
namespace Go.Proofs.YtjibjahfbblieaaGreatDoor
open Go Go.RowKit Go.Maps Go.Sort Go.Shelf
open Go.ChangeMaps (setBlock)
set_option linter.unusedVariables false
def IK (td:List Nat):List Value:=td.map fun (x:Nat)=>.int .i64 (x:Int)
def ls (n:Nat) (s:Nat->Bool):List Nat:=(List.range n).filter s
theorem Bh {n:Nat} {s:Nat->Bool} {p:Nat}:p∈ls n s↔p<n/\s p=true:=by unfold ls;rw [List.mem_filter,List.mem_range]
theorem Jc (n:Nat) (s:Nat->Bool):(ls n s).length<=n:=by
 have:=List.length_filter_le s (List.range n)
 rw [List.length_range] at this
 exact this
theorem PX (n:Nat) (s:Nat->Bool):(ls n s).Nodup:=List.Nodup.sublist List.filter_sublist List.nodup_range
def fP (w:World) (b n:Nat) (s:Nat->Bool):Prop:=∃ D:DataW Unit,w.ownsMap Tryz.prog 3 unitElem b n D/\∀ x:Int,has D (.int .i64 x)=true↔∃ p:Nat,p<n/\s p=true/\x=(p:Int)
theorem fP.lt {w:World} {b n:Nat} {s:Nat->Bool} (h:fP w b n s):b<w.heap.size:=by
 obtain ⟨D,h1,_⟩:=h
 exact h1.lt
theorem fP.congr {w:World} {b n:Nat} {s s':Nat->Bool} (h:fP w b n s) (e:∀ p,p<n->s' p=s p):fP w b n s':=by
 obtain ⟨D,h1,h2⟩:=h
 exact ⟨D,h1,fun x=>(h2 x).trans ⟨fun ⟨p,a,b,c⟩=>⟨p,a,by rw [e p a];exact b,c⟩,fun ⟨p,a,b,c⟩=>⟨p,a,by rw [<-e p a];exact b,c⟩⟩⟩
theorem fP.keep {w w':World} {b n:Nat} {s:Nat->Bool} {S:Nat->Prop} (h:fP w b n s) (k:Keeps w w' S) (hn:¬ S b):fP w' b n s:=by
 have hl:=h.lt
 obtain ⟨D,⟨es,clk,h1,h2⟩,h3⟩:=h
 exact ⟨D,⟨es,clk,(k.block b hl hn).trans h1,h2⟩,h3⟩
theorem fP.low {w w':World} {B b n:Nat} {s:Nat->Bool} (h:fP w b n s) (k:Below B w w') (hb:b<B):fP w' b n s:=by
 obtain ⟨D,⟨es,clk,h1,h2⟩,h3⟩:=h
 exact ⟨D,⟨es,clk,(k.block b hb).trans h1,h2⟩,h3⟩
theorem pK {w w':World} {b:Nat} (h:w.grownBy w' (some b)):Keeps w w' (fun c=>c=b):=⟨h.os,h.tape,h.output,h.size,fun k hk hn=>h.block k hk (fun e=>hn (by simpa using e))⟩
theorem fP.new (w:World) (n:Nat):fP (w.alloc (.map #[] 0)) w.heap.size n (fun _=>false):=by
 refine ⟨.map [],(World.ownsMap_made w Tryz.prog 3 unitElem).mono (Nat.zero_le _),fun x=>⟨fun h=>?_,fun ⟨p,_,h,_⟩=>by cases h⟩⟩
 cases h
theorem LD {x:Int} (h:(Lit.int .i64 x).wf=true):keyOf Tryz.prog 3 (.int .i64 x)=some (.int .i64 x):=keyOf_int_mk Tryz.underlying3 h
theorem Ql {p:Nat} (h:p<=9223372036854775807):(Lit.int .i64 (p:Int)).wf=true:=by
 exact WalkArith.wf_i64 (by omega)
theorem kY {D:DataW Unit} {w:World} {b m:Nat} (h:w.ownsMap Tryz.prog 3 unitElem b m D):size D=(intKeys D).length:=by
 obtain ⟨es,clk,hb,F,hs,rfl⟩:=h
 simp [size,intKeys]
theorem set_perm {w:World} {b m n:Nat} {s:Nat->Bool} {D:DataW Unit} (h:w.ownsMap Tryz.prog 3 unitElem b m D) (hh:∀ x:Int,has D (.int .i64 x)=true↔∃ p:Nat,p<n/\s p=true/\x=(p:Int)):((ls n s).map (fun (p:Nat)=>(p:Int))).Perm (intKeys D):=by
 refine CollectedI.perm (left:=fun _=>false) ⟨?_,fun x=>?_⟩ h (int_keyed Tryz.underlying3) Tryz.underlying3 (fun _=>rfl)
 ·exact List.pairwise_map.2 ((PX n s).imp (fun h e=>h (by omega)))
 ·rw [hh x,List.mem_map]
  constructor
  ·rintro ⟨p,h1,rfl⟩
   exact ⟨⟨p,(Bh.1 h1).1,(Bh.1 h1).2,rfl⟩,rfl⟩
  ·rintro ⟨⟨p,h1,h2,rfl⟩,_⟩
   exact ⟨p,Bh.2 ⟨h1,h2⟩,rfl⟩
theorem fP.of {w:World} {b m n:Nat} {s:Nat->Bool} {D:DataW Unit} (h:w.ownsMap Tryz.prog 3 unitElem b m D) (hh:∀ x:Int,has D (.int .i64 x)=true↔∃ p:Nat,p<n/\s p=true/\x=(p:Int)):fP w b n s:=by
 have hp:=(set_perm h hh).length_eq
 rw [List.length_map] at hp
 have hsz:=kY h
 have hle:=Jc n s
 obtain ⟨es,clk,hb,F,hs,hD⟩:=h
 refine ⟨D,⟨es,clk,hb,F,?_,hD⟩,hh⟩
 have:size D=es.size:=by rw [hD];simp [size,length_sorted]
 omega
theorem fP.add {w:World} {b n:Nat} {s:Nat->Bool} (h:fP w b n s) (hn:n<=1048576) {p:Nat} (hp:p<n):∃ w1,(Instr.mapUpdate 150 (.map (some b)) (.int .i64 (p:Int)) (.agg #[])).run Tryz.prog w=.ok () w1/\fP w1 b n (fun q=>s q||decide (q=p))/\Keeps w w1 (fun c=>c=b):=by
 obtain ⟨D,h1,h2⟩:=h
 have hk:=LD (Ql (p:=p) (by omega))
 obtain ⟨w1,hr,ho,hg⟩:=h1.update (int_keyed Tryz.underlying3) Tryz.underlying150 (by unfold maxLen;omega) hk unitElem_mk
 refine ⟨w1,hr,fP.of ho (fun x=>?_),pK hg⟩
 have hm:IsMap D:=by obtain ⟨es,clk,_,_,_,rfl⟩:=h1;exact ⟨_,rfl⟩
 by_cases e:x=(p:Int)
 ·subst e
  rw [has_put_same hm (by simp [WideAt.IsKeyLit])]
  exact ⟨fun _=>⟨p,hp,by simp,rfl⟩,fun _=>rfl⟩
 ·rw [has_put_other (by simpa using e),h2 x]
  constructor
  ·rintro ⟨q,a,b,rfl⟩
   exact ⟨q,a,by simp [b],rfl⟩
  ·rintro ⟨q,a,b,rfl⟩
   refine ⟨q,a,?_,rfl⟩
   have:q≠p:=fun c=>e (by rw [c])
   simpa [this] using b
theorem DX (w:World):(zeroValue 179).run Tryz.prog w=.ok (.agg #[]) w:=by kernel_rfl
theorem fP.has {w:World} {b n:Nat} {s:Nat->Bool} (h:fP w b n s) (hn:n<=1048576) {p:Nat} (hp:p<n):(Instr.lookup 150 (.map (some b)) (.int .i64 (p:Int)) true).run Tryz.prog w=.ok (.tuple #[.agg #[],.bool (s p)]) w:=by
 obtain ⟨D,h1,h2⟩:=h
 have hk:=LD (Ql (p:=p) (by omega))
 obtain ⟨v,ps,hr,hv⟩:=h1.look_ok (int_keyed Tryz.underlying3) Tryz.underlying150 (DX w) unitElem_mk hk
 obtain ⟨rfl,_⟩:=unitElem_inv hv
 rw [hr]
 have:Maps.has D (.int .i64 (p:Int))=s p:=by
  cases e:s p with
  |true=>exact (h2 _).2 ⟨p,hp,e,rfl⟩
  |false=>
   cases e2:Maps.has D (.int .i64 (p:Int)) with
   |false=>rfl
   |true=>
    obtain ⟨q,_,b,c⟩:=(h2 _).1 e2
    have:p=q:=by omega
    rw [<-this,e] at b
    cases b
 rw [this]
theorem fP.clear {w:World} {b n:Nat} {s:Nat->Bool} (h:fP w b n s) (ty:TypeId):∃ w1,(Builtin.clear_ #[150] ty #[.map (some b)]).run Tryz.prog w=.ok (.tuple #[]) w1/\fP w1 b n (fun _=>false)/\Keeps w w1 (fun c=>c=b)/\w1.heap.size=w.heap.size:=by
 obtain ⟨D,⟨es,clk,hb,h1⟩,h2⟩:=h
 refine ⟨setBlock w b (.map #[] clk),?_,?_,?_,by simp [setBlock]⟩
 ·simp [Builtin.clear_,run_underlying Tryz.underlying150,MapKept.run_getObj_map hb,MapKept.run_setObj_map _ hb,Result.andThen,setBlock]
 ·refine ⟨.map [],⟨#[],clk,ChangeMaps.heap_setBlock_same hb _,⟨by simp,MapKept.stamped_empty _,by simp⟩,by simp,rfl⟩,fun x=>⟨fun h=>(by cases h),fun ⟨p,_,h,_⟩=>(by cases h)⟩⟩
 ·exact ⟨rfl,rfl,rfl,by simp [setBlock],fun i _ hi=>ChangeMaps.heap_setBlock_other hb _ (fun e=>hi (by rw [e]))⟩
theorem JR {w:World} {b n:Nat} {s:Nat->Bool} (h:fP w b n s) (hn:n<=1048576) {p:Nat} (hp:p<n):Calls Tryz.prog 96 #[.map (some b),.int .i64 (p:Int)] w fun e w'=>e=.returned (.tuple #[])/\fP w' b n (fun q=>s q||decide (q=p))/\Keeps w w' (fun c=>c=b):=by
 obtain ⟨w1,hr,hs,hk⟩:=h.add hn hp
 have HS:=hide hs
 have HK:=hide hk
 clear hs hk
 go_enter Tryz.func96,Tryz.ntmps96
 go_wp2
 go_end0
 exact ⟨rfl,HS.out,HK.out⟩
end Go.Proofs.YtjibjahfbblieaaGreatDoor
namespace Go.Proofs.YtjibjahfbblieaaGreatDoor.F
open Go Go.RowKit
set_option linter.unusedVariables false
theorem NM (s:ByteArray) (k b p:Nat) (ds:List Int) (x:Int) (w:World) (hT:Txt s k ds b p x):
 Calls Tryz.prog 244 #[.string s] w fun e w'=>Ke (dval ds) (x-b) s w e w':=by
 have hk0:=hT.k0
 have hk:=hT.hk
 have h0:0<s.size:=by omega
 by_cases h2:s.size<=2
 ·exact QC s k b p ds x w hT h0 h2
 ·by_cases h48:((s[0].toNat:Nat):Int)=48
  ·exact QN s k b p ds x w hT h0 (by omega) h48
  ·exact Qu s k b p ds x w hT h0 (by omega) h48
theorem Od (s:ByteArray) (k b p G o P po C co:Nat) (ds:List Int) (x:Int) (w:World) (hT:Txt s k ds b p x) (hV:Vars w G o P po C co):
 Calls Tryz.prog 219 #[.string s] w fun e w'=>AtR (dval ds) (x-b) s w e w':=by
 have hk0:=hT.k0
 have hk:=hT.hk
 have hs:=hT.hs
 have h0:0<s.size:=by omega
 have hc:=mG hT (i:=0) (by omega) h0
 have hrf:=NM s k b p ds x w hT
 by_cases hN:dval ds=0
 ·exact LH _ G o P po C co _ s w h0 hs hc hrf hV hN
 ·by_cases h1:310<x-b+kK (dval ds)
  ·exact KQ _ G o P po C co _ s w h0 hs hc hrf hV hN h1
  ·by_cases h2:x-b+kK (dval ds)< -345
   ·exact Jw _ G o P po C co _ s w h0 hs hc hrf hV hN h2
   ·cases ht:Nc (dval ds) with
    |false=>exact Ih _ G o P po C co _ s w h0 hs hc hrf hV hN (by omega) (by omega) ht
    |true=>exact LY _ G o P po C co k b p ds x _ s w hT rfl rfl h0 hs hc hrf hV hN (by omega) (by omega) ht
theorem rP {W:Nat} (h:W<ak):Ieee.double.order W W=some .eq:=by
 obtain ⟨k,q,e,h1,h2⟩:=jY h
 unfold Ieee.Format.order
 rw [e,fH h1 h2 (by omega)]
 unfold Ieee.Datum.order
 simp only [Option.some.injEq]
 exact Int.compare_eq_eq.2 rfl
end Go.Proofs.YtjibjahfbblieaaGreatDoor.F
namespace Go.Proofs.YtjibjahfbblieaaGreatDoor.F
open Go Go.RowKit
set_option linter.unusedVariables false
theorem xE (W:Nat) (w:World):(callFunc 126 #[.float .f64 W]).run Tryz.prog w=.ok (.value (.int .u64 W)) w:=by
 rw [run_callFunc_extern (e:=Extern.MathFloatBits.float64bits) Tryz.func126 (by kernel_rfl) (by kernel_rfl) (by kernel_rfl) (by kernel_rfl)]
 rfl
theorem x9 (w:World) (t:ByteArray):Below w.heap.size w (Lib.bytesWorld w 5 t):=
 ⟨rfl,rfl,rfl,by rw [Lib.bytesWorld_size];omega,fun j hj=>Lib.bytesWorld_at_old w 5 t j hj⟩
end Go.Proofs.YtjibjahfbblieaaGreatDoor.F
namespace Go.Proofs.YtjibjahfbblieaaGreatDoor.F
open Go Go.RowKit
set_option linter.unusedVariables false
abbrev Hu (f:Bool) (i u:Int):Value:=.agg #[.bool f,.int .i64 i,.int .u64 u]
abbrev fZ (f:Bool) (i u:Int) (ok:Bool):Value:=.tuple #[Hu f i u,.bool ok]
def Mw (f:Bool) (i u:Int):Prop:=(f=false/\u=0/\ -9223372036854775808<=i/\i<=9223372036854775807)∨(f=true/\i=0/\∃ W:Nat,W<ak/\u=W)
theorem BS (x:Int): -9223372036854775808<=wrap64 x/\wrap64 x<=9223372036854775807:=by unfold wrap64;omega
theorem dS {f g:Bool} {i j u v:Int} {a b:Bool} (h:fZ f i u a=fZ g j v b):f=g/\i=j/\u=v/\a=b:=by
 simp at h
 exact ⟨h.1.1,h.1.2.1,h.1.2.2,h.2⟩
theorem gJ.ok {N:Nat} {E:Int} {f:Bool} {i u:Int} (h:gJ N E (fZ f i u true)):f=true/\i=0/\∃ W:Nat,W<ak/\u=W:=by
 obtain ⟨W,hW,h⟩:=h
 split at h
 ·have:=(dS (show fZ f i u true=fZ false 0 0 false from h)).2.2.2
  cases this
 ·obtain ⟨h1,h2,h3,_⟩:=dS (show fZ f i u true=fZ true 0 W true from h)
  exact ⟨h1,h2,W,by have:=q9 hW;omega,h3⟩
theorem oN.ok {l:List Int} {f:Bool} {i u:Int} (h:oN l (fZ f i u true)):Mw f i u:=by
 unfold oN at h
 split at h
 ·have:=(dS (show fZ f i u true=fZ false 0 0 false from h)).2.2.2
  cases this
 ·split at h
  ·rename_i hc
   obtain ⟨h1,h2,h3,_⟩:=dS (show fZ f i u true=fZ false _ 0 true from h)
   exact .inl ⟨h1,h3,by omega,by omega⟩
  ·split at h
   ·have:=(dS (show fZ f i u true=fZ false 0 0 false from h)).2.2.2
    cases this
   ·exact .inr h.ok
theorem su.ok {s:ByteArray} {f:Bool} {i u:Int} (h:su s (fZ f i u true)):Mw f i u/\s.size<=100:=by
 unfold su at h
 split at h
 ·have:=(dS (show fZ f i u true=fZ false 0 0 false from h)).2.2.2
  cases this
 ·refine ⟨?_,by omega⟩
  split at h
  ·obtain ⟨h1,h2,h3,_⟩:=dS (show fZ f i u true=fZ false _ 0 _ from h)
   refine .inl ⟨h1,h3,?_⟩
   rw [h2]
   split
   ·exact BS _
   ·omega
  ·exact h.ok
theorem Gd {l:List Int} (h:aZ l=true):lF l=l.length:=by
 refine Iw ?_
 refine List.all_eq_true.2 (fun c hc=>?_)
 have:=List.all_eq_true.1 h c hc
 unfold nY
 rw [this]
 rfl
theorem Ad {l:List Int} (h:aZ l=true):AA l=false:=by
 unfold AA
 cases l with
 |nil=>rfl
 |cons a l=>
  cases l with
  |nil=>rfl
  |cons b l=>
   have h2:=lC (lC h).2.2
   have e1:(b==120)=false:=by rw [beq_eq_false_iff_ne];omega
   have e2:(b==88)=false:=by rw [beq_eq_false_iff_ne];omega
   show (_&&_&&((b==120)||(b==88)))=false
   rw [e1,e2]
   simp
theorem su.digits {s:ByteArray} {f:Bool} {i u:Int} (h:su s (fZ f i u true)) (hd:aZ (bs s)=true):
 if dval (bs s)<9223372036854775808 then f=false/\i=dval (bs s) else f=true:=by
 have hsz:=h.ok.2
 unfold su at h
 rw [if_neg (by omega),Ad hd,if_neg (by decide)] at h
 unfold oN at h
 have e1:(aY (bs s)).1=bs s:=by
  rw [(p9 (bs s)).1]
  refine List.filter_eq_self.2 (fun c hc=>?_)
  have:=List.all_eq_true.1 hd c hc
  have:=of_decide_eq_true this
  simp
  omega
 have e2:(aY (bs s)).2.2=0:=by
  rw [(p9 (bs s)).2]
  refine List.count_eq_zero.2 (fun hc=>?_)
  have:=of_decide_eq_true (List.all_eq_true.1 hd _ hc)
  omega
 rw [Gd hd,List.take_length,e1,e2] at h
 split at h
 ·have:=(dS (show fZ f i u true=fZ false 0 0 false from h)).2.2.2
  cases this
 ·split at h
  ·rename_i hc
   rw [if_pos hc.2.2]
   obtain ⟨h1,h2,_⟩:=dS (show fZ f i u true=fZ false _ 0 true from h)
   exact ⟨h1,h2⟩
  ·rename_i hc
   rw [if_neg (fun hh=>hc ⟨rfl,rfl,hh⟩)]
   rw [if_neg (Nat.lt_irrefl _)] at h
   exact gJ.ok h|>.1
def O1 (f:Bool) (i u:Int):Value:=if f then Hu true 0 (9223372036854775808+u) else Hu false (wrap64 (-i)) 0
def N9 (t:ByteArray) (o:Option Value):Prop:=
 if t.data.toList=[110,97,110] then o=some (OE 9221120237041090560)
 else if t.data.toList=[105,110,102] then o=some (OE ak)
 else if t.data.toList=[45,105,110,102] then o=some (OE (9223372036854775808+ak))
 else if (bs t).getD 0 0=45 then ∃ f i u ok,su (t.extract 1 t.size) (fZ f i u ok)/\o=if ok then some (GX (t.extract 1 t.size) (O1 f i u)) else none
 else ∃ f i u ok,su t (fZ f i u ok)/\o=if ok then some (Hu f i u) else none
theorem N9.unique {t:ByteArray} {o o':Option Value} (h:N9 t o) (h':N9 t o'):o=o':=by
 unfold N9 at h h'
 by_cases h1:t.data.toList=[110,97,110]
 ·rw [if_pos h1] at h h';rw [h,h']
 ·rw [if_neg h1] at h h'
  by_cases h2:t.data.toList=[105,110,102]
  ·rw [if_pos h2] at h h';rw [h,h']
  ·rw [if_neg h2] at h h'
   by_cases h3:t.data.toList=[45,105,110,102]
   ·rw [if_pos h3] at h h';rw [h,h']
   ·rw [if_neg h3] at h h'
    by_cases h4:(bs t).getD 0 0=45
    ·rw [if_pos h4] at h h'
     obtain ⟨f,i,u,ok,hp,rfl⟩:=h
     obtain ⟨f',i',u',ok',hp',rfl⟩:=h'
     obtain ⟨rfl,rfl,rfl,rfl⟩:=dS (hp.unique hp')
     rfl
    ·rw [if_neg h4] at h h'
     obtain ⟨f,i,u,ok,hp,rfl⟩:=h
     obtain ⟨f',i',u',ok',hp',rfl⟩:=h'
     obtain ⟨rfl,rfl,rfl,rfl⟩:=dS (hp.unique hp')
     rfl
end Go.Proofs.YtjibjahfbblieaaGreatDoor.F
namespace Go.Proofs.YtjibjahfbblieaaGreatDoor.F
open Go Go.RowKit
set_option linter.unusedVariables false
structure Env (w:World) (G o P po C co:Nat) (ev:Value) (m:Int):Prop where
 vars:Vars w G o P po C co
 er:w.cell? ⟨6,0,none⟩=some ev
 er2:ev=.nilIface∨∃ te pe,ev=.iface te pe
 ml:w.cell? ⟨4,0,none⟩=some (.int .i64 m)
theorem Vars.below {w w':World} {G o P po C co:Nat} (h:Vars w G o P po C co) (hb:Below w.heap.size w w'):Vars w' G o P po C co:=by
 have h12:=h.h12
 have hsz:=hb.size
 have c:∀ {x:Addr},x.block<w.heap.size->w'.cell? x=w.cell? x:=fun hx=>hb.cell hx
 exact ⟨⟨by omega,Nat.lt_of_lt_of_le h.tabs.hG hsz,(c (by show 13<_;omega)).trans h.tabs.mant,(c (by show 18<_;omega)).trans h.tabs.slice,fun k hk=>(c h.tabs.hG).trans (h.tabs.tens k hk),fun i hi=>(c (by show 14<_;omega)).trans (h.tabs.rows0 i hi),fun i hi=>(c (by show 14<_;omega)).trans (h.tabs.rows1 i hi)⟩,
  by omega,Nat.lt_of_lt_of_le h.hP hsz,(c (by show 11<_;omega)).trans h.opt,(c (by show 13<_;omega)).trans h.expb,(c (by show 13<_;omega)).trans h.bias,(c (by show 17<_;omega)).trans h.slice,fun k hk=>(c h.hP).trans (h.tab k hk),h.cheats.below hb h12 h.cheats.hG⟩
theorem Env.below {w w':World} {G o P po C co:Nat} {ev:Value} {m:Int} (h:Env w G o P po C co ev m) (hb:Below w.heap.size w w'):Env w' G o P po C co ev m:=by
 have h12:=h.vars.h12
 exact ⟨h.vars.below hb,(hb.cell (by show 6<_;omega)).trans h.er,h.er2,(hb.cell (by show 4<_;omega)).trans h.ml⟩
theorem Mc (s:ByteArray) (k b p G o P po C co:Nat) (ds:List Int) (x:Int) (ev:Value) (m:Int) (w:World) (hT:Txt s k ds b p x) (hE:Env w G o P po C co ev m):
 ∀ w',Below w.heap.size w w'->Calls Tryz.prog 145 #[.string s,.int .i64 64] w' fun e w''=>Oe (dval ds) (x-b) w' e w'':=by
 intro w' hb
 have hE':=hE.below hb
 have h12:=hE'.vars.h12
 exact K6 _ _ s w' ev hT.hs (by omega) hE'.er hE'.er2 (Od s k b p G o P po C co ds x w' hT hE'.vars)
end Go.Proofs.YtjibjahfbblieaaGreatDoor.F
namespace Go.Proofs.YtjibjahfbblieaaGreatDoor.F
open Go Go.RowKit
set_option linter.unusedVariables false
def qy (r:Value):Prop:=∃ (f:Bool) (i u:Int) (ok:Bool),r=.tuple #[.agg #[.bool f,.int .i64 i,.int .u64 u],.bool ok]
theorem jZ:qy xW:=⟨false,0,0,false,rfl⟩
theorem gJ.form {N:Nat} {E:Int} {r:Value} (h:gJ N E r):qy r:=by
 obtain ⟨W,_,rfl⟩:=h
 split
 ·exact jZ
 ·exact ⟨_,_,_,_,rfl⟩
theorem oN.form {l:List Int} {r:Value} (h:oN l r):qy r:=by
 unfold oN at h
 split at h
 ·rw [h];exact jZ
 ·split at h
  ·rw [h];exact ⟨_,_,_,_,rfl⟩
  ·split at h
   ·rw [h];exact jZ
   ·exact h.form
theorem su.form {s:ByteArray} {r:Value} (h:su s r):qy r:=by
 unfold su at h
 split at h
 ·rw [h];exact jZ
 ·split at h
  ·rw [h];exact ⟨_,_,_,_,rfl⟩
  ·exact h.form
end Go.Proofs.YtjibjahfbblieaaGreatDoor.F
namespace Go.Proofs.YtjibjahfbblieaaGreatDoor.F
open Go Go.RowKit
set_option linter.unusedVariables false
def eE:ByteArray:=⟨#[101,69]⟩
end Go.Proofs.YtjibjahfbblieaaGreatDoor.F
namespace Go.Proofs.YtjibjahfbblieaaGreatDoor.F
open Go Go.RowKit
set_option linter.unusedVariables false
theorem gJ.ex (N:Nat) (E:Int):∃ r,gJ N E r:=by
 obtain ⟨W,hW⟩:=aB.ex N E
 exact ⟨_,W,hW,rfl⟩
theorem oN.ex (l:List Int):∃ r,oN l r:=by
 unfold oN
 split
 ·exact ⟨_,rfl⟩
 ·split
  ·exact ⟨_,rfl⟩
  ·split
   ·exact ⟨_,rfl⟩
   ·exact gJ.ex _ _
theorem su.ex (s:ByteArray):∃ f i u ok,su s (fZ f i u ok):=by
 have:∃ r,su s r:=by
  unfold su
  split
  ·exact ⟨_,rfl⟩
  ·split
   ·exact ⟨_,rfl⟩
   ·exact oN.ex _
 obtain ⟨r,hr⟩:=this
 obtain ⟨f,i,u,ok,rfl⟩:=hr.form
 exact ⟨f,i,u,ok,hr⟩
structure Ready (w:World) (ev1 ev5:Value):Prop where
 env:∃ G o P po C co ev m,Env w G o P po C co ev m
 e1:w.cell? ⟨1,0,none⟩=some ev1
 e5:w.cell? ⟨5,0,none⟩=some ev5
theorem Ready.size {w:World} {ev1 ev5:Value} (h:Ready w ev1 ev5):18<w.heap.size:=by
 obtain ⟨G,o,P,po,C,co,ev,m,hE⟩:=h.env
 exact hE.vars.h12
theorem Ready.below {w w':World} {ev1 ev5:Value} (h:Ready w ev1 ev5) (hb:Below w.heap.size w w'):Ready w' ev1 ev5:=by
 have hs:=h.size
 obtain ⟨G,o,P,po,C,co,ev,m,hE⟩:=h.env
 exact ⟨⟨G,o,P,po,C,co,ev,m,hE.below hb⟩,(hb.cell (p:=⟨1,0,none⟩) (show 1<w.heap.size by omega)).trans h.e1,(hb.cell (p:=⟨5,0,none⟩) (show 5<w.heap.size by omega)).trans h.e5⟩
end Go.Proofs.YtjibjahfbblieaaGreatDoor.F
namespace Go.Proofs.YtjibjahfbblieaaGreatDoor.F
open Go Go.RowKit
set_option linter.unusedVariables false
theorem Qa {t:ByteArray} {l:List UInt8} (h:t.data.toList=l):bs t=l.map fun b=>((b.toNat:Nat):Int):=by unfold bs;rw [h]
end Go.Proofs.YtjibjahfbblieaaGreatDoor.F
namespace Go.Proofs.YtjibjahfbblieaaGreatDoor.F
open Go Go.RowKit
set_option linter.unusedVariables false
def Rj (t:ByteArray) (o:Option Value):Prop:=
 if (bs t).getD 0 0=45 then ∃ f i u ok,su (t.extract 1 t.size) (fZ f i u ok)/\o=if ok then some (GX (t.extract 1 t.size) (O1 f i u)) else none
 else ∃ f i u ok,su t (fZ f i u ok)/\o=if ok then some (Hu f i u) else none
end Go.Proofs.YtjibjahfbblieaaGreatDoor.F
namespace Go.Proofs.YtjibjahfbblieaaGreatDoor.F
open Go Go.RowKit
set_option linter.unusedVariables false
theorem N9.rest {t:ByteArray} {o:Option Value} (h1:t.data.toList≠[110,97,110]) (h2:t.data.toList≠[105,110,102]) (h3:t.data.toList≠[45,105,110,102]) (h:N9 t o):Rj t o:=by
 unfold N9 at h
 rw [if_neg h1,if_neg h2,if_neg h3] at h
 exact h
end Go.Proofs.YtjibjahfbblieaaGreatDoor.F
namespace Go.Proofs.YtjibjahfbblieaaGreatDoor.F
open Go Go.RowKit
set_option linter.unusedVariables false
theorem lX {w:World} {g:Nat} {l:List Int} (h5:∀ j,j<l.length->w.cell? ⟨g,j,none⟩=some (.int .u8 (l.getD j 0))) (o:Obj) (hg:g<w.heap.size):
 ∀ j u,(l.map (Value.int .u8))[j]?=some u->(w.alloc o).cell? ((⟨g,0,none⟩:Addr).add j)=some u:=by
 intro j u hj
 rw [List.getElem?_map] at hj
 cases hx:l[j]? with
 |none=>rw [hx] at hj;simp at hj
 |some x=>
  rw [hx] at hj
  simp at hj
  subst hj
  obtain ⟨hlt,hxx⟩:=List.getElem?_eq_some_iff.1 hx
  have:=h5 j hlt
  rw [getD_lt hlt,hxx] at this
  rw [<-this]
  have hb:Below w.heap.size w (w.alloc o):=(Below.refl _ _).alloc (Nat.le_refl _) o
  rw [<-hb.cell (p:=⟨g,j,none⟩) hg]
  simp only [Addr.add]
  by_cases e:j=0
  ·subst e;simp
  ·simp [e]
theorem jC {wr:World} {ops:Array Oper} {rest:List Oper} {o:Oper} {a:Act} {Q:Exit->Act->World->Prop} (hgd:o.guard=none) (s x:Operand)
 (ho:o.op=.call { callee:=.builtin .append,args:=#[s,x],argTypes:=#[35,35] }) (v:Value) (c:Int) (L:List Int) (hbig:mg wr v L) (hx:a.eval x=v) (hs:a.eval s=.slice (some ⟨wr.heap.size,0,none⟩) 1 1)
 (hlen:L.length<=10000000000)
 (h:∀ v' w',mg w' v' (c::L)->Below wr.heap.size wr w'->wpList Tryz.prog ops Q rest (a.put o.dst v') w'):
 wpList Tryz.prog ops Q (o::rest) a (wr.alloc (.cells #[.int .u8 c] 5)):=by
 obtain ⟨i0,hi,hz0,hz1,hz2⟩:=info_parts Tryz.info5
 obtain ⟨g,cap,rfl,h2,h3,h4,h5⟩:=hbig
 have hown:=World.ownsRow_lit (base:=wr.heap.size) (e:=5) (size:=1) wr #[.int .u8 c] 1 (Nat.le_refl _) (by simp [maxLen]) rfl
 refine wpList_append_own _ hgd s x 35 ho wr.heap.size 5 i0 (.int .u8 0) 1 1 Tryz.underlying35 hi hz0 hz1 hz2 rfl (by decide) _ 1 _ hs hown ⟨g,0,none⟩ L.length cap (L.map (Value.int .u8)) hx (by simp) (lX h5 _ h4)
  (ints_oneCell _ _) (by unfold maxLen;omega) (by omega) (by simp) ?_
 intro v' w' h1 h2 h3
 refine h v' w' (eG.byt (base:=wr.heap.size) (L:=c::L) ⟨?_,(fun hh=>by have:=(h3.1 hh).1;cases this)⟩) (((Below.refl _ _).alloc (Nat.le_refl _) _).grown h2 (by simp) (fun q hq=>by cases hq;exact Nat.le_refl _))
 have e:(c::L).length=1+L.length:=by simp;omega
 rw [e];simpa using h1
def decL (u:Nat):List Int:=(Lib.decDigits u).map fun b=>((b.toNat:Nat):Int)
theorem jf {k:Nat} (h:k<10):(((UInt8.ofNat (48+k)).toNat:Nat):Int)=48+k:=by
 rw [UInt8.toNat_ofNat']
 omega
theorem bR {u:Nat} (h:u<10):decL u=[48+((u%10:Nat):Int)]:=by
 unfold decL
 rw [Lib.decDigits,dif_pos h]
 simp only [List.map_cons,List.map_nil]
 rw [jf h,Nat.mod_eq_of_lt h]
theorem d9 {u:Nat} (h:¬ u<10):decL u=decL (u/10)++[48+((u%10:Nat):Int)]:=by
 unfold decL
 rw [Lib.decDigits,dif_neg h,List.map_append]
 simp only [List.map_cons,List.map_nil]
 rw [jf (show u%10<10 by omega)]
def bS (u:Nat):List Int:=if u<10 then [] else decL (u/10)
theorem iF (u:Nat):decL u=bS u++[48+((u%10:Nat):Int)]:=by
 unfold bS
 split
 ·rw [bR (by assumption)];rfl
 ·rw [d9 (by assumption)]
theorem decL_len {u:Nat} {k:Nat} (h:u<10^k) (hk:1<=k):(decL u).length<=k:=by
 induction k generalizing u with
 |zero=>omega
 |succ k ih=>
  by_cases hu:u<10
  ·rw [bR hu];simp
  ·by_cases hk0:k=0
   ·subst hk0;simp at h;omega
   ·rw [d9 hu,List.length_append]
    have:=ih (u:=u/10) (by rw [Nat.pow_succ] at h;omega) (by omega)
    simp
    exact this
theorem fD {w:World} {v:Value} {l:List UInt8} (h:mg w v (l.map fun b=>((b.toNat:Nat):Int))):(convert 35 9 v).run Tryz.prog w=.ok (.string ⟨l.toArray⟩) w:=by
 obtain ⟨g,cap,rfl,h2,h3,h4,h5⟩:=h
 rw [List.length_map] at h5 ⊢
 refine run_convert_bytes_back w 35 9 5 ⟨g,0,none⟩ cap l Tryz.underlying35 Tryz.underlying5 Tryz.underlying9 (fun j hj=>?_)
 have e:(⟨g,0,none⟩:Addr).add j=⟨g,j,none⟩:=by
  simp only [Addr.add]
  by_cases e:j=0
  ·subst e;simp
  ·simp [e]
 rw [e,h5 j hj,getD_lt (by rw [List.length_map];exact hj)]
 simp
theorem qp (w:World) (c:Int):mg (w.alloc (.cells #[.int .u8 c] 5)) (.slice (some ⟨w.heap.size,0,none⟩) 1 1) [c]:=by
 refine ⟨w.heap.size,1,rfl,by simp,by simp [maxLen],by simp,fun j hj=>?_⟩
 have:j=0:=by simpa using hj
 subst this
 simp
set_option maxHeartbeats 1600000 in
set_option maxRecDepth 100000 in
theorem dec_any (v:Int) (w:World) (h0: -9223372036854775808<=v) (h1:v<=9223372036854775807):
 Calls Tryz.prog 30 #[.int .i64 v] w fun e w'=>e=.returned (.string ⟨(Lib.itoa v).toArray⟩)/\Below w.heap.size w w':=by
 by_cases hn:v<0
 ·obtain ⟨U,hU⟩:∃ U:Nat,v= -(U:Int):=⟨v.natAbs,by omega⟩
  subst hU
  have hu1:U<=9223372036854775808:=by omega
  have hu0:0<U:=by omega
  have HL:=hide (decL_len (u:=U) (k:=20) (by omega) (by omega))
  have HI:Hid ((Lib.itoa (-(U:Int))).map (fun b=>((b.toNat:Nat):Int))=45::decL U):=hide (by
   unfold Lib.itoa
   rw [if_pos hn]
   have:(-(U:Int)).natAbs=U:=by omega
   rw [this]
   rfl)
  generalize Lib.itoa (-(U:Int))=out at *
  have hw:IntKind.u64.wrap (-IntKind.u64.wrap (-(U:Int)))=U:=by rw [IntKind.wrap_u64,IntKind.wrap_u64];omega
  go_enter Tryz.func30,Tryz.ntmps30
  go_wp2
  go_loopw [3,4] (fun uv ov wr=>∃ (x:Nat) (L:List Int),uv=.int .u64 x/\x<=9223372036854775808/\mg wr ov L/\Hid (decL U=bS x++L)/\Below w.heap.size w wr) (fun uv _ _=>(intOf uv).toNat)
  case atStart=>
   exact ⟨U,[48+((U%10:Nat):Int)],rfl,hu1,qp w _,hide (iF U),(Below.refl _ _).alloc (Nat.le_refl _) _⟩
  case round=>
   obtain ⟨x,L,rfl,hx,hbyt,He,hb⟩:=hrel
   have hlen:L.length<=20:=by
    have:=HL.out
    rw [He.out,List.length_append] at this
    omega
   by_cases hx10:10<=x
   ·have Hn:Hid (decL U=bS (x/10)++((48+((x/10%10:Nat):Int))::L)):=hide (by
     rw [He.out]
     have:bS x=decL (x/10):=by unfold bS;rw [if_neg (by omega)]
     rw [this,iF,List.append_assoc]
     rfl)
    clear He
    go_wp2_with (first
     |(at_builtin;(refine jC rfl _ _ rfl _ (48+(x:Int)/10%10) L hbyt rfl rfl (by omega) ?_;intro v' w1 hbyt' hb'))
     |go_in)
    go_wp2
    go_roundw
    case rel=>exact ⟨x/10,(48+((x/10%10:Nat):Int))::L,by go_num,by omega,hbyt',Hn,hb.trans (hb'.mono hb.size)⟩
    case measure=>simp [intOf];omega
   ·have Hn:Hid (decL U=L):=hide (by
     rw [He.out]
     have:bS x=[]:=by unfold bS;rw [if_pos (by omega)]
     rw [this]
     rfl)
    clear He
    go_wp2_with (first
     |(at_builtin;(refine jC rfl _ _ rfl _ 45 L hbyt rfl rfl (by omega) ?_;intro v' w1 hbyt' hb'))
     |go_in)
    rw [<-Hn.out,<-HI.out] at hbyt'
    have hcv:=fD hbyt'
    rw [hcv]
    go_wp2
    go_ret
    exact ⟨rfl,hb.trans (hb'.mono hb.size)⟩
 ·obtain ⟨U,hU⟩:∃ U:Nat,v=(U:Int):=⟨v.toNat,by omega⟩
  subst hU
  have hu1:U<=9223372036854775808:=by omega
  have HL:=hide (decL_len (u:=U) (k:=20) (by omega) (by omega))
  have HI:Hid ((Lib.itoa (U:Int)).map (fun b=>((b.toNat:Nat):Int))=decL U):=hide (by
   unfold Lib.itoa
   rw [if_neg hn]
   rfl)
  generalize Lib.itoa (U:Int)=out at *
  go_enter Tryz.func30,Tryz.ntmps30
  go_wp2
  go_loopw [3,4] (fun uv ov wr=>∃ (x:Nat) (L:List Int),uv=.int .u64 x/\x<=9223372036854775808/\mg wr ov L/\Hid (decL U=bS x++L)/\Below w.heap.size w wr) (fun uv _ _=>(intOf uv).toNat)
  case atStart=>
   exact ⟨U,[48+((U%10:Nat):Int)],rfl,hu1,qp w _,hide (iF U),(Below.refl _ _).alloc (Nat.le_refl _) _⟩
  case round=>
   obtain ⟨x,L,rfl,hx,hbyt,He,hb⟩:=hrel
   have hlen:L.length<=20:=by
    have:=HL.out
    rw [He.out,List.length_append] at this
    omega
   by_cases hx10:10<=x
   ·have Hn:Hid (decL U=bS (x/10)++((48+((x/10%10:Nat):Int))::L)):=hide (by
     rw [He.out]
     have:bS x=decL (x/10):=by unfold bS;rw [if_neg (by omega)]
     rw [this,iF,List.append_assoc]
     rfl)
    clear He
    go_wp2_with (first
     |(at_builtin;(refine jC rfl _ _ rfl _ (48+(x:Int)/10%10) L hbyt rfl rfl (by omega) ?_;intro v' w1 hbyt' hb'))
     |go_in)
    go_wp2
    go_roundw
    case rel=>exact ⟨x/10,(48+((x/10%10:Nat):Int))::L,by go_num,by omega,hbyt',Hn,hb.trans (hb'.mono hb.size)⟩
    case measure=>simp [intOf];omega
   ·have Hn:Hid (decL U=L):=hide (by
     rw [He.out]
     have:bS x=[]:=by unfold bS;rw [if_pos (by omega)]
     rw [this]
     rfl)
    clear He
    have hbyt':=hbyt
    rw [<-Hn.out,<-HI.out] at hbyt'
    have hcv:=fD hbyt'
    go_wp2
    go_ret
    exact ⟨rfl,hb⟩
end Go.Proofs.YtjibjahfbblieaaGreatDoor.F
namespace Go.Proofs.YtjibjahfbblieaaGreatDoor
open Go Go.RowKit
set_option linter.unusedVariables false
def oH:List (List UInt8):=[[],[116,105,99,107],[109,111,118,101],[110,105,108],[98,111,111,108],[105,110,116],[99,111,110,115,116],[103,101,116,117,112],[115,101,116,117,112],[103,101,116,103,108,111,98,97,108],[115,101,116,103,108,111,98,97,108],[103,101,116,105,110,100,101,120],[115,101,116,105,110,100,101,120],[103,101,116,102,105,101,108,100],[115,101,116,102,105,101,108,100],[115,101,108,102],[116,97,98,108,101],[115,101,116,105,116,101,109],[115,101,116,108,105,115,116],[99,111,110,99,97,116],[101,113],[108,116],[108,101],[110,111,116],[108,101,110],[106,117,109,112],[106,117,109,112,105,102],[106,117,109,112,110,111,116],[99,97,108,108],[116,97,105,108],[114,101,116,117,114,110],[100,111,116,115],[99,108,111,115,117,114,101],[99,108,111,115,101],[116,98,99],[102,111,114,112,114,101,112],[102,111,114,108,111,111,112],[101,97,99,104],[101,97,99,104,108,111,111,112]]
def jA:List (List UInt8):=[[],[97,100,100],[115,117,98],[109,117,108],[100,105,118],[109,111,100],[105,100,105,118],[112,111,119],[97,110,100],[111,114],[120,111,114],[115,104,108],[115,104,114],[110,101,103],[98,110,111,116]]
def aU (o:Int):List UInt8:=if 0<=o/\o<39 then oH.getD o.toNat [] else if 64<=o/\o<79 then jA.getD (o.toNat-64) [] else []
def aW (v:Int):List UInt8:=Lib.itoa v
theorem aO {v:Int} (h0: -9223372036854775808<=v) (h1:v<=9223372036854775807):(aW v).length<=20:=by
 have hl:∀ u:Nat,(Lib.decDigits u).length=(F.decL u).length:=fun u=>by simp [F.decL]
 unfold aW Lib.itoa
 split
 ·have:=F.decL_len (u:=v.natAbs) (k:=19) (by omega) (by omega)
  rw [List.length_cons,hl]
  omega
 ·have:=F.decL_len (u:=v.toNat) (k:=19) (by omega) (by omega)
  rw [hl]
  omega
theorem mW (v:Int) (w:World) (h0: -9223372036854775808<=v) (h1:v<=9223372036854775807):Calls Tryz.prog 30 #[.int .i64 v] w fun e w'=>e=.returned (.string (bT (aW v)))/\Below w.heap.size w w':=F.dec_any v w h0 h1
def kI (u:Int):Int:=if 9218868437227405312<u%9223372036854775808 then 9221120237041090560 else u
structure FltS (T:Int->List UInt8):Prop where
 len:∀ u,(T u).length<=1000
 run:∀ (u:Int) (w:World),0<=u->u<18446744073709551616->Calls Tryz.prog 32 #[.agg #[.bool true,.int .i64 0,.int .u64 (kI u)]] w fun e w'=>e=.returned (.string (bT (T u)))/\Below w.heap.size w w'
def oh (b:Bool):List UInt8:=[if b then 49 else 48]
theorem Ef (b:Bool) (w:World):Calls Tryz.prog 31 #[.bool b] w fun e w'=>e=.returned (.string (bT (oh b)))/\w'=w:=EI b w
def je (p:PV):List UInt8:=[102,117,110,99,116,105,111,110,32]++aW p.line++[32,112,97,114,97,109,115,32]++aW p.params++[32,100,111,116,115,32]++oh p.dots++[32,114,101,103,115,32]++aW p.regs
def qc (p:PV) (k:Nat):List UInt8:=[32,32,117,112,32]++(if p.u0 k then [108,111,99,97,108,32] else [111,117,116,101,114,32])++aW (p.u1 k)
def dB (T:Int->List UInt8) (p:PV) (k:Nat):List UInt8:=[32,32,99,111,110,115,116,32]++(if p.c0 k=4 then [105,110,116,32]++aW (p.c1 k) else if p.c0 k=5 then [102,108,111,97,116,32]++T (p.c2 k) else [115,116,114,105,110,103,32]++yg (p.c3 k).data.toList)
def mJ (p:PV) (k:Nat):Bool:=jmp (p.i0 k)&&decide (0<=p.i2 k)&&decide (p.i2 k<p.ni)
def aH (p:PV) (m q:Nat):Bool:=(List.range m).any fun k=>mJ p k&&decide (p.i2 k=(q:Int))
def lbl (p:PV) (q:Nat):Nat:=((List.range q).filter fun j=>aH p p.ni j).length
def iL (p:PV) (k:Nat):List UInt8:=(if aH p p.ni k then [64]++aW (lbl p k)++[58,32] else [32,32,32,32])++aW (p.l0 k)++[32]++aU (p.i0 k)++[32]++aW (p.i1 k)++[32]++(if mJ p k then [64]++aW (lbl p (p.i2 k).toNat) else aW (p.i2 k))++[32]++aW (p.i3 k)
def aJ (T:Int->List UInt8) (p:PV):List (List UInt8):=je p::((List.range p.nu).map (qc p)++((List.range p.nc).map (dB T p)++(List.range p.ni).map (iL p)))
def flat (l:List (List UInt8)):List UInt8:=l.flatMap fun x=>x++[10]
theorem jN (a b:List (List UInt8)):flat (a++b)=flat a++flat b:=by simp [flat]
theorem jI (a:List UInt8) (b:List (List UInt8)):flat (a::b)=a++[10]++flat b:=by simp [flat]
theorem ko {f:Nat->List UInt8} (k:Nat):flat ((List.range (k+1)).map f)=flat ((List.range k).map f)++(f k++[10]):=by
 rw [List.range_succ,List.map_append,jN]
 simp [flat]
def aG (T:Int->List UInt8) (n:Nat) (P:Nat->PV):List (List UInt8):=(List.range n).flatMap fun i=>aJ T (P i)
def pU (p:PV):Prop:=∀ k,k<p.ni->aU (p.i0 k)≠[]
end Go.Proofs.YtjibjahfbblieaaGreatDoor
namespace Go.Proofs.YtjibjahfbblieaaGreatDoor.F
open Go Go.RowKit
set_option linter.unusedVariables false
theorem aT {wr:World} {ops:Array Oper} {rest:List Oper} {o:Oper} {a:Act} {Q:Exit->Act->World->Prop} (hgd:o.guard=none) (s x:Operand)
 (ho:o.op=.call { callee:=.builtin .append,args:=#[s,x],argTypes:=#[35,35] }) (base lit:Nat) (v:Value) (L:List Int) (z:Int) (hown:eG wr base v L) (hne:v.ownBlock≠some lit) (hlit:lit<wr.heap.size) (hs:a.eval s=v) (hx:a.eval x=.slice (some ⟨wr.heap.size,0,none⟩) 1 1)
 (hlen:L.length<=10000000000) (hbase:base<=wr.heap.size)
 (h:∀ v' w',eG w' base v' (L++[z])->v'.ownBlock≠some lit->lit<w'.heap.size->(∀ q u,wr.cell? ⟨lit,q,none⟩=some u->w'.cell? ⟨lit,q,none⟩=some u)->(∀ B w0,Below B w0 wr->B<=base->Below B w0 w')->wpList Tryz.prog ops Q rest (a.put o.dst v') w'):
 wpList Tryz.prog ops Q (o::rest) a (wr.alloc (.cells #[.int .u8 z] 5)):=by
 obtain ⟨i0,hi,hz0,hz1,hz2⟩:=info_parts Tryz.info5
 refine wpList_append_own_at _ hgd s x 35 ho base 5 i0 (.int .u8 0) 1 1 Tryz.underlying35 hi hz0 hz1 hz2 rfl (by decide) v L.length (L.map (Value.int .u8)) hs (hown.1.alloc _) ⟨wr.heap.size,0,none⟩ 1 1 [.int .u8 z] hx rfl (Fj _ _)
  (fun u hu=>by simp at hu;subst hu;rfl) (by unfold maxLen;omega) (by omega) (by simp;omega) ?_
 intro v' w' h1 h2 h3 h4
 refine h v' w' ⟨by simpa using h1,fun hh=>hown.2 (h3.1 hh).1⟩ ?_ ?_ ?_ (fun B w0 hb hB=>(hb.alloc (by omega) _).grown h2 (by simp;omega) (fun q hq=>?_))
 ·rcases h4 with h4|h4
  ·rw [h4];exact hne
  ·rw [h4];simp;omega
 ·have:=h2.size
  simp at this
  omega
 ·intro q u hu
  refine h2.cell (a:=⟨lit,q,none⟩) ?_ (fun hh=>hne hh.symm)
  have hb:Below wr.heap.size wr (wr.alloc (.cells #[.int .u8 z] 5)):=(Below.refl _ _).alloc (Nat.le_refl _) _
  rw [hb.cell (p:=⟨lit,q,none⟩) hlit]
  exact hu
 ·have:=(hown.1.lt q hq).1
  omega
end Go.Proofs.YtjibjahfbblieaaGreatDoor.F
namespace Go.Proofs.YtjibjahfbblieaaGreatDoor.F
open Go Go.RowKit
set_option linter.unusedVariables false
structure Efg (w0:World) (base g:Nat) (N:List Int) (w:World) (v:Value) (L:List Int):Prop where
 own:eG w base v L
 ne:v.ownBlock≠some g
 lt:g<w.heap.size
 cells:∀ j,j<N.length->w.cell? ⟨g,j,none⟩=some (.int .u8 (N.getD j 0))
 bas:base<=w.heap.size
 bel:Below base w0 w
theorem Efg.alloc {w0:World} {base g:Nat} {N:List Int} {w:World} {v:Value} {L:List Int} (h:Efg w0 base g N w v L) (o:Obj):Efg w0 base g N (w.alloc o) v L:=by
 refine ⟨⟨h.own.1.alloc _,h.own.2⟩,h.ne,by have:=h.lt;simp;omega,fun j hj=>?_,by have:=h.bas;simp;omega,h.bel.alloc h.bas _⟩
 have hb:Below w.heap.size w (w.alloc o):=(Below.refl _ _).alloc (Nat.le_refl _) o
 rw [hb.cell (p:=⟨g,j,none⟩) h.lt]
 exact h.cells j hj
theorem CF {w0:World} {base g:Nat} {N:List Int} {wr:World} {v:Value} {L:List Int} {ops:Array Oper} {rest:List Oper} {o:Oper} {a:Act} {Q:Exit->Act->World->Prop} (he:Efg w0 base g N wr v L) (hgd:o.guard=none) (s x:Operand)
 (ho:o.op=.call { callee:=.builtin .append,args:=#[s,x],argTypes:=#[35,35] }) (hs:a.eval s=v) (ad:Addr) (m c:Nat) (Z:List Int) (hx:a.eval x=.slice (some ad) m c) (hm:Z.length=m) (hcell:∀ j u,(Z.map (Value.int .u8))[j]?=some u->wr.cell? (ad.add j)=some u)
 (hlen:L.length<=1000) (hz:m<=1000)
 (h:∀ v' w',Efg w0 base g N w' v' (L++Z)->wpList Tryz.prog ops Q rest (a.put o.dst v') w'):
 wpList Tryz.prog ops Q (o::rest) a wr:=by
 obtain ⟨i0,hi,hz0,hz1,hz2⟩:=info_parts Tryz.info5
 subst hm
 refine wpList_append_own_at _ hgd s x 35 ho base 5 i0 (.int .u8 0) 1 1 Tryz.underlying35 hi hz0 hz1 hz2 rfl (by decide) v L.length (L.map (Value.int .u8)) hs he.own.1 ad Z.length c (Z.map (Value.int .u8)) hx (by simp) hcell
  (ints_oneCell _ _) (by unfold maxLen;omega) (by omega) he.bas ?_
 intro v' w' h1 h2 h3 h4
 have hsz:=h2.size
 refine h v' w' ⟨⟨by simpa using h1,fun hh=>he.own.2 (h3.1 hh).1⟩,?_,by have:=he.lt;omega,fun j hj=>h2.cell (a:=⟨g,j,none⟩) (he.cells j hj) (fun hh=>he.ne hh.symm),by have:=he.bas;omega,he.bel.grown h2 he.bas (fun q hq=>(he.own.1.lt q hq).1)⟩
 rcases h4 with h4|h4
 ·rw [h4];exact he.ne
 ·rw [h4]
  have:=he.lt
  intro hh
  have:=Option.some.inj hh
  omega
theorem vV {w0:World} {base g:Nat} {N:List Int} {wr:World} {v:Value} {L:List Int} {ops:Array Oper} {rest:List Oper} {o:Oper} {a:Act} {Q:Exit->Act->World->Prop} (he:Efg w0 base g N wr v L) (Z:List Int) (m:Nat) (A:Array Value) (hA:A=(Z.map (Value.int .u8)).toArray) (hm:Z.length=m) (hgd:o.guard=none) (s x:Operand)
 (ho:o.op=.call { callee:=.builtin .append,args:=#[s,x],argTypes:=#[35,35] }) (hs:a.eval s=v) (hx:a.eval x=.slice (some ⟨wr.heap.size,0,none⟩) m m)
 (hlen:L.length<=1000) (hz:m<=1000)
 (h:∀ v' w',Efg w0 base g N w' v' (L++Z)->wpList Tryz.prog ops Q rest (a.put o.dst v') w'):
 wpList Tryz.prog ops Q (o::rest) a (wr.alloc (.cells A 5)):=by
 refine CF (he.alloc _) hgd s x ho hs ⟨wr.heap.size,0,none⟩ m m Z hx hm (fun j u hj=>?_) hlen hz h
 subst hA
 have e:(⟨wr.heap.size,0,none⟩:Addr).add j=⟨wr.heap.size,j,none⟩:=by
  simp only [Addr.add]
  by_cases e:j=0
  ·subst e;simp
  ·simp [e]
 rw [e]
 obtain ⟨hlt,hxx⟩:=List.getElem?_eq_some_iff.1 hj
 rw [List.length_map] at hlt
 simp [<-hxx,hlt]
theorem aR {w0:World} {base g:Nat} {N:List Int} {wr:World} {v:Value} {L:List Int} {ops:Array Oper} {rest:List Oper} {o:Oper} {a:Act} {Q:Exit->Act->World->Prop} (z:Int) (he:Efg w0 base g N wr v L) (hgd:o.guard=none) (s x:Operand)
 (ho:o.op=.call { callee:=.builtin .append,args:=#[s,x],argTypes:=#[35,35] }) (hs:a.eval s=v) (hx:a.eval x=.slice (some ⟨wr.heap.size,0,none⟩) 1 1)
 (hlen:L.length<=1000)
 (h:∀ v' w',Efg w0 base g N w' v' (L++[z])->wpList Tryz.prog ops Q rest (a.put o.dst v') w'):
 wpList Tryz.prog ops Q (o::rest) a (wr.alloc (.cells #[.int .u8 z] 5)):=
 vV he [z] 1 _ rfl rfl hgd s x ho hs hx hlen (by omega) h
theorem bK {w0:World} {base g:Nat} {N:List Int} {wr:World} {v:Value} {L:List Int} {ops:Array Oper} {rest:List Oper} {o:Oper} {a:Act} {Q:Exit->Act->World->Prop} (y z:Int) (he:Efg w0 base g N wr v L) (hgd:o.guard=none) (s x:Operand)
 (ho:o.op=.call { callee:=.builtin .append,args:=#[s,x],argTypes:=#[35,35] }) (hs:a.eval s=v) (hx:a.eval x=.slice (some ⟨wr.heap.size,0,none⟩) 2 2)
 (hlen:L.length<=1000)
 (h:∀ v' w',Efg w0 base g N w' v' (L++[y,z])->wpList Tryz.prog ops Q rest (a.put o.dst v') w'):
 wpList Tryz.prog ops Q (o::rest) a (wr.alloc (.cells #[.int .u8 y,.int .u8 z] 5)):=
 vV he [y,z] 2 _ rfl rfl hgd s x ho hs hx hlen (by omega) h
theorem aL {w0:World} {base g:Nat} {N:List Int} {wr:World} {v:Value} {L:List Int} {ops:Array Oper} {rest:List Oper} {o:Oper} {a:Act} {Q:Exit->Act->World->Prop} (y0 y z:Int) (he:Efg w0 base g N wr v L) (hgd:o.guard=none) (s x:Operand)
 (ho:o.op=.call { callee:=.builtin .append,args:=#[s,x],argTypes:=#[35,35] }) (hs:a.eval s=v) (hx:a.eval x=.slice (some ⟨wr.heap.size,0,none⟩) 3 3)
 (hlen:L.length<=1000)
 (h:∀ v' w',Efg w0 base g N w' v' (L++[y0,y,z])->wpList Tryz.prog ops Q rest (a.put o.dst v') w'):
 wpList Tryz.prog ops Q (o::rest) a (wr.alloc (.cells #[.int .u8 y0,.int .u8 y,.int .u8 z] 5)):=
 vV he [y0,y,z] 3 _ rfl rfl hgd s x ho hs hx hlen (by omega) h
theorem CG {w0:World} {base g:Nat} {N:List Int} {wr:World} {v:Value} {L:List Int} {ops:Array Oper} {rest:List Oper} {o:Oper} {a:Act} {Q:Exit->Act->World->Prop} (m c:Nat) (he:Efg w0 base g N wr v L) (hgd:o.guard=none) (s x:Operand)
 (ho:o.op=.call { callee:=.builtin .append,args:=#[s,x],argTypes:=#[35,35] }) (hs:a.eval s=v) (hx:a.eval x=.slice (some ⟨g,1,none⟩) m c)
 (hlen:L.length<=1000) (hm:m+1<=N.length) (hm1:m<=1000)
 (h:∀ v' w',Efg w0 base g N w' v' (L++(N.drop 1).take m)->wpList Tryz.prog ops Q rest (a.put o.dst v') w'):
 wpList Tryz.prog ops Q (o::rest) a wr:=by
 refine CF he hgd s x ho hs ⟨g,1,none⟩ m c ((N.drop 1).take m) hx (by simp;omega) (fun j u hj=>?_) hlen hm1 h
 rw [List.getElem?_map] at hj
 have e:(⟨g,1,none⟩:Addr).add j=⟨g,1+j,none⟩:=by
  simp only [Addr.add]
  by_cases e:j=0
  ·subst e;simp
  ·simp [e]
 rw [e]
 cases hx:((N.drop 1).take m)[j]? with
 |none=>rw [hx] at hj;simp at hj
 |some x=>
  rw [hx] at hj
  simp at hj
  subst hj
  obtain ⟨hlt,hxx⟩:=List.getElem?_eq_some_iff.1 hx
  have hlt2:1+j<N.length:=by simp at hlt;omega
  rw [he.cells (1+j) hlt2,getD_lt hlt2]
  simp at hxx
  rw [<-hxx]
  congr 3
  omega
end Go.Proofs.YtjibjahfbblieaaGreatDoor.F
namespace Go.Proofs.YtjibjahfbblieaaGreatDoor.F
open Go Go.RowKit
set_option linter.unusedVariables false
def dK (k:Nat):List Int:=if k<10 then [48,48+(k:Int)] else if k<100 then [48+(k:Int)/10,48+(k:Int)%10] else [48+(k:Int)/100,48+(k:Int)/10%10,48+(k:Int)%10]
def digL (d n:Nat):List Int:=(List.range n).map fun j=>g_ d n j
theorem digL_len (d n:Nat):(digL d n).length=n:=by simp [digL]
theorem bZ {d n j:Nat} (h:j<n):(digL d n).getD j 0=g_ d n j:=by
 unfold digL
 rw [getD_lt (by simpa using h)]
 simp
def aP (d n:Nat):List Int:=[g_ d n 0]++(if n=1 then [] else 46::(digL d n).drop 1)
def eP (d n:Nat) (X:Int):List Int:=aP d n++[101,if X<0 then 45 else 43]++dK X.natAbs
theorem Efg.cast {w0:World} {base g:Nat} {N:List Int} {w:World} {v:Value} {L L':List Int} (h:Efg w0 base g N w v L) (e:L=L'):Efg w0 base g N w v L':=e ▸ h
theorem nV (d n k:Nat):eP d n (k:Int)=aP d n++[101]++[43]++dK k:=by
 unfold eP
 rw [if_neg (by omega),Int.natAbs_natCast]
 simp
theorem ou {d n k:Nat} (h:0<k):eP d n (-(k:Int))=aP d n++[101]++[45]++dK k:=by
 unfold eP
 rw [if_pos (by omega),Int.natAbs_neg,Int.natAbs_natCast]
 simp
theorem nD {k:Nat} (h:k<10):dK k=[48,(k:Int)+48]:=by unfold dK;rw [if_pos h,Int.add_comm]
theorem m_ {k:Nat} (h:¬ k<10) (h2:k<100):dK k=[(k:Int)/10+48,(k:Int)%10+48]:=by unfold dK;rw [if_neg h,if_pos h2,Int.add_comm,Int.add_comm 48]
theorem nk {k:Nat} (h:¬ k<10) (h2:¬ k<100):dK k=[(k:Int)/100+48,(k:Int)/10%10+48,(k:Int)%10+48]:=by unfold dK;rw [if_neg h,if_neg h2,Int.add_comm,Int.add_comm 48,Int.add_comm 48]
theorem lV {d n nz t:Nat} (hz:1<=nz) (h:nz+t<n) (h48:g_ d n (nz+t)=48):((digL d n).drop 1).take (nz-1+t)++[48]=((digL d n).drop 1).take (nz-1+(t+1)):=by
 rw [<-Nat.add_assoc,List.take_succ_eq_append_getElem (by rw [List.length_drop,digL_len];omega),List.getElem_drop]
 congr 2
 have hlt:1+(nz-1+t)<(digL d n).length:=by rw [digL_len];omega
 have:=bZ (d:=d) (n:=n) (j:=1+(nz-1+t)) (by omega)
 rw [getD_lt hlt] at this
 have e:nz+t=1+(nz-1+t):=by omega
 rw [this,<-e,h48]
theorem kL {d n:Nat}:((digL d n).drop 1).take (n-1)=(digL d n).drop 1:=by
 rw [List.take_of_length_le (by rw [List.length_drop,digL_len];omega)]
theorem iq {d n:Nat} (h:2<=n):aP d n=[g_ d n 0]++[46]++(digL d n).drop 1:=by
 unfold aP
 rw [if_neg (by omega)]
 simp
end Go.Proofs.YtjibjahfbblieaaGreatDoor.F
namespace Go.Proofs.YtjibjahfbblieaaGreatDoor.F
open Go Go.RowKit
set_option linter.unusedVariables false
abbrev AQ (a:Addr):Value:=.iface 286 (.pointer (some a))
structure Apart (w:World) (a b:Addr):Prop where
 ne:a≠b
 ha:∃ c t,w.heap[a.block]?=some (.cells c t (0,0))
 hb:∃ c t,w.heap[b.block]?=some (.cells c t (0,0))
theorem Cx {w:World} {b:Nat} {o:Obj} (h:w.heap[b]?=some o):b<w.heap.size:=(Array.getElem?_eq_some_iff.1 h).1
theorem Apart.below {w w':World} {a b:Addr} (h:Apart w a b) (hb:Below w.heap.size w w'):Apart w' a b:=by
 obtain ⟨h1,⟨c,t,h2⟩,⟨c',t',h3⟩⟩:=h
 exact ⟨h1,⟨c,t,by rw [hb.block _ (Cx h2)];exact h2⟩,⟨c',t',by rw [hb.block _ (Cx h3)];exact h3⟩⟩
structure Sents (w:World) (a1 a2 a3 a4 a5:Addr):Prop where
 g1:w.cell? ⟨1,0,none⟩=some (AQ a1)
 g2:w.cell? ⟨2,0,none⟩=some (AQ a2)
 g3:w.cell? ⟨3,0,none⟩=some (AQ a3)
 g4:w.cell? ⟨4,0,none⟩=some (AQ a4)
 g5:w.cell? ⟨5,0,none⟩=some (AQ a5)
 d1:Apart w a5 a1
 d2:Apart w a5 a2
 d3:Apart w a5 a3
 d4:Apart w a5 a4
theorem Sents.below {w w':World} {a1 a2 a3 a4 a5:Addr} (h:Sents w a1 a2 a3 a4 a5) (hs:5<w.heap.size) (hb:Below w.heap.size w w'):Sents w' a1 a2 a3 a4 a5:=
 ⟨(hb.cell (p:=⟨1,0,none⟩) (show 1<w.heap.size by omega)).trans h.g1,(hb.cell (p:=⟨2,0,none⟩) (show 2<w.heap.size by omega)).trans h.g2,(hb.cell (p:=⟨3,0,none⟩) (show 3<w.heap.size by omega)).trans h.g3,
  (hb.cell (p:=⟨4,0,none⟩) (show 4<w.heap.size by omega)).trans h.g4,(hb.cell (p:=⟨5,0,none⟩) hs).trans h.g5,h.d1.below hb,h.d2.below hb,h.d3.below hb,h.d4.below hb⟩
end Go.Proofs.YtjibjahfbblieaaGreatDoor.F
namespace Go.Proofs.YtjibjahfbblieaaGreatDoor.F
open Go Go.RowKit
set_option linter.unusedVariables false
structure Full (w:World) (a1 a2 a3 a4 a5:Addr):Prop where
 env:∃ G o P po C co ev m,Env w G o P po C co ev m
 sents:Sents w a1 a2 a3 a4 a5
 tab:Lib.TabIs Tryz.prog w "internal/strconv.uint64pow10" .u64 Lib.pow10Tab
theorem Full.ready {w:World} {a1 a2 a3 a4 a5:Addr} (h:Full w a1 a2 a3 a4 a5):Ready w (AQ a1) (AQ a5):=⟨h.env,h.sents.g1,h.sents.g5⟩
theorem Full.below {w w':World} {a1 a2 a3 a4 a5:Addr} (h:Full w a1 a2 a3 a4 a5) (hb:Below w.heap.size w w'):Full w' a1 a2 a3 a4 a5:=by
 have hs:=h.ready.size
 exact ⟨(h.ready.below hb).env,h.sents.below (by omega) hb,Lib.tabBelow_of_tabIs h.tab w' hb⟩
theorem Ik (k:Int) (h0: -9223372036854775808<=k) (h1:k<=9223372036854775807) (w:World) (ht:Lib.TabIs Tryz.prog w "internal/strconv.uint64pow10" .u64 Lib.pow10Tab):
 Calls Tryz.prog 92 #[.int .i64 k] w fun e w'=>e=.returned (.string ⟨(Lib.itoa k).toArray⟩)/\Below w.heap.size w w':=by
 refine (Tryz.strconv_Itoa k h0 h1 w ht).mono ?_
 rintro e w' ⟨rfl,n,os,rfl⟩
 exact ⟨rfl,Lib.below_grow _ _ (Nat.le_refl _) _ _⟩
end Go.Proofs.YtjibjahfbblieaaGreatDoor.F
namespace Go.Proofs.YtjibjahfbblieaaGreatDoor
open Go Go.RowKit
set_option linter.unusedVariables false
structure KpL (X:Nat->Prop) (R Z:Nat) (A C:World):Prop where
 b:Below Z A C
 k:∀ (b:Nat) (o:Obj),A.heap[b]?=some o->¬ X b->b≠R->¬ JZ R A b->C.heap[b]?=some o/\¬ JZ R C b
theorem KpL.trans {X:Nat->Prop} {R Z:Nat} {A B C:World} (h:KpL X R Z A B) (k:KpL X R Z B C):KpL X R Z A C:=
 ⟨h.b.trans k.b,fun b o h1 h2 h3 h4=>by
  obtain ⟨e1,n1⟩:=h.k b o h1 h2 h3 h4
  exact k.k b o e1 h2 h3 n1⟩
theorem KpL.mono {X X':Nat->Prop} {R Z:Nat} {A C:World} (h:KpL X R Z A C) (hX:∀ b,X b->X' b):KpL X' R Z A C:=
 ⟨h.b,fun b o h1 h2 h3 h4=>h.k b o h1 (fun e=>h2 (hX b e)) h3 h4⟩
theorem KpL.put {X:Nat->Prop} {R Z l:Nat} {W:World} {o o':Obj} (hX:X l) (hR:R≠l) (hZ:Z<=l) (hl:W.heap[l]?=some o) (hc:o.isCells=false):KpL X R Z W (W.putObj l o'):=by
 have hlt:=(Array.getElem?_eq_some_iff.1 hl).1
 refine ⟨(Below.refl Z W).grown (grownBy_putObj' W l o') (by omega) (fun k e=>by cases e;exact hZ),fun b o2 h1 h2 h3 h4=>⟨(World.putObj_heap_other (fun e=>h2 (by rw [e];exact hX))).trans h1,?_⟩⟩
 rintro ⟨v,c1,c2⟩
 refine h4 ⟨v,?_,c2⟩
 rw [<-c1]
 exact (World.cell?_of_block (a:=⟨R,1,none⟩) (World.putObj_heap_other hR)).symm
section
variable {X : Nat → Prop} {R Z : Nat} {A C : World} {L : List UInt8} {ad bf : Value}
theorem ah.notR {T g N:Nat} {f:Nat->Value} (hr:ah A T g N f) (h:RwI A Z R L ad bf) (hT:T≠59):g≠R:=fun e=>by
 subst e
 exact hr.apart h.r.f hT rfl
theorem ah.notO {T g N:Nat} {f:Nat->Value} (hr:ah A T g N f) (h:RwI A Z R L ad bf) (hT:T≠5):¬ JZ R A g:=fun e=>by
 obtain ⟨f9,h9⟩:=h.owb e
 exact hr.apart h9 hT rfl
theorem KpL.row (k:KpL X R Z A C) (h:RwI A Z R L ad bf) {T g N:Nat} {f:Nat->Value} (hr:ah A T g N f) (hT:T≠5) (hT2:T≠59) (hX:¬ X g):ah C T g N f:=by
 have h1:=hr.notR h hT2
 have h2:=hr.notO h hT
 obtain ⟨cur,e1,e2⟩:=hr
 exact ⟨cur,(k.k g _ e1 hX h1 h2).1,e2⟩
theorem KpL.nocells (k:KpL X R Z A C) (h:RwI A Z R L ad bf) {g:Nat} {o:Obj} (ho:A.heap[g]?=some o) (hc:o.isCells=false) (hX:¬ X g):C.heap[g]?=A.heap[g]?:=by
 have h1:g≠R:=fun e=>by
  subst e
  obtain ⟨cur,e1,_⟩:=h.r
  rw [ho] at e1
  cases e1
  simp [Obj.isCells] at hc
 have h2:¬ JZ R A g:=fun e=>by
  obtain ⟨f9,cur,e1,_⟩:=h.owb e
  rw [ho] at e1
  cases e1
  simp [Obj.isCells] at hc
 rw [ho]
 exact (k.k g o ho hX h1 h2).1
theorem KpL.from (k:KpL X R Z A C) (h:RwI A Z R L ad bf) {B:Nat} (hX:∀ b,X b->b<B):KeepsFrom B A C:=
 ⟨k.b.size,fun g o hg ho hc=>by
  rw [k.nocells h ho hc (fun e=>by have:=hX g e;omega)]
  exact ho⟩
theorem KpL.of (k:KpR R A C) (h:RwI A Z R L ad bf) (hR:Z<=R) (hZ:Z<=A.heap.size):KpL X R Z A C:=
 ⟨k.below h hR hZ,fun b o h1 h2 h3 h4=>by
  have hlt:=(Array.getElem?_eq_some_iff.1 h1).1
  refine ⟨(k.k.block b hlt (fun e=>e.elim h3 h4)).trans h1,fun e=>h4 (k.o b e hlt)⟩⟩
theorem KpL.new (hb:Below A.heap.size A C) (h:RwI A Z R L ad bf) (hZ:Z<=A.heap.size):KpL X R Z A C:=by
 have hR:R<A.heap.size:=h.r.f.lt
 refine ⟨hb.mono hZ,fun b o h1 h2 h3 h4=>⟨(hb.block b (Array.getElem?_eq_some_iff.1 h1).1).trans h1,?_⟩⟩
 rintro ⟨v,c1,c2⟩
 refine h4 ⟨v,?_,c2⟩
 rw [<-c1]
 exact (World.cell?_of_block (a:=⟨R,1,none⟩) (hb.block R hR)).symm
end
theorem below_grown {A C:World} (hb:Below A.heap.size A C):A.grownBy C none:=⟨hb.os,hb.tape,hb.output,hb.size,fun k hk _=>hb.block k hk⟩
end Go.Proofs.YtjibjahfbblieaaGreatDoor
