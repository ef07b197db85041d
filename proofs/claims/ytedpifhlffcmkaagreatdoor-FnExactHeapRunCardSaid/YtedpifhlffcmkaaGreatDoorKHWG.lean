import Derived.Test.YtedpifhlffcmkaaGreatDoorKHZD
import Derived.Test.YtedpifhlffcmkaaGreatDoorKHUD0
import Derived.Deep.RegionLaw
import Derived.Test.YtedpifhlffcmkaaGreatDoorKHWF
namespace Go.Proofs.YtedpifhlffcmkaaGreatDoor
open Go Go.RowKit Go.WideMaps
open Go.ChangeMaps (setBlock)
set_option maxHeartbeats 6400000
set_option maxRecDepth 100000
set_option linter.unusedVariables false
section
variable {K:Act->World->Prop} {Q:Exit->Act->World->Prop} {a:Act} {base g n t:Nat} {es:List En} {ev mv:Value} {f:Nat->Value} {o:Ob} {sz:Int} {tb:Nat->Nat} {w wr:World}
attribute [local go_sem] bD
theorem oL (h:kR w mv es) {k:HV} (hk:mD k) (hs:k.isSome=true):
 (Instr.lookup 132 mv (iE k) true).run Tryz.prog w=.ok (match jJ es k with
   |some i=>.tuple #[.int .i64 (i:Int),.bool true]
   |none=>.tuple #[.int .i64 0,.bool false]) w:=by
 obtain ⟨l,hl⟩:=Bn hk
 rcases h with ⟨rfl,rfl⟩|⟨b,ents,clk,rfl,hb,hc⟩
 ·have hck:=oC.check w true hl
  have hf:(Instr.findKey 194 (iE k) []).run Tryz.prog w=.ok none w:=by
   rcases oC.find w hl [] (fun m hm=>by simp at hm) with ⟨h1,_⟩|⟨j,m,h1,h2,h3⟩
   ·exact h1
   ·simp at h2
  simp [Instr.lookup,run_underlying Tryz.underlying132,hck,hf,Result.andThen,jJ]
 ·have hck:=oC.check w ents.isEmpty hl
  rcases hc.p.find w hk with ⟨h1,h2,h3⟩|⟨j,m,i,h1,h2,h3,h4,⟨e,h5,h5'⟩,h6⟩
  ·have hfn:jJ es k=none:=by
    unfold jJ
    rw [List.findIdx?_eq_none_iff]
    intro e he
    obtain ⟨i,hi⟩:=List.mem_iff_getElem?.1 he
    rw [gH]
    simp only [decide_eq_false_iff_not]
    exact fun c=>h2 hs i ⟨e,hi,c⟩
   rw [hfn]
   simp [Instr.lookup,run_underlying Tryz.underlying132,MapKept.run_getObj_map hb,hck,h1,Result.andThen]
  ·have hfn:jJ es k=some i:=by
    unfold jJ
    obtain ⟨hil,hie⟩:=List.getElem?_eq_some_iff.1 h5
    rw [List.findIdx?_eq_some_iff_getElem]
    refine ⟨hil,by rw [hie,gH];simpa using h5',fun p hp=>?_⟩
    rw [gH]
    simp only [decide_eq_true_eq]
    intro c
    have:=hc.kd p i _ e (List.getElem?_eq_getElem (Nat.lt_trans hp hil)) h5 (by rw [c];exact hs) (c.trans h5'.symm)
    omega
   rw [hfn]
   simp [Instr.lookup,run_underlying Tryz.underlying132,MapKept.run_getObj_map hb,hck,h1,h4,Result.andThen]
theorem yJ {o:Oper} (s x:Operand) (TS T size bytes:Nat) (z:Value)
 (ho:o.op=.call { callee:=.builtin .append,args:=#[s,x],argTypes:=#[TS,TS] }) (hU:Tryz.prog.underlying TS=some (.slice T)) (hI:(Tryz.prog.info? T).map (fun i=>(i.zero,i.size,i.bytes))=some (some z,size,bytes)) (hz:z.cells.size=size) (hsz:0<size)
 (base:Nat) (v:Value) (n:Nat) (xs cs:List Value) (hown:wr.ownsRow base T size v n xs) (hs:a.eval s=v) (hx:a.eval x=.slice (some ⟨wr.heap.size,0,none⟩) 1 1) (hcs:cs.length=size) (h1:∀ u∈cs,u.oneCell'=true)
 (hlen:(n+1)*bytes<=140737488355328) (hb0:0<bytes) (hbase:base<=wr.heap.size)
 (h:∀ v' w',w'.ownsRow base T size v' (n+1) (xs++cs)->Keeps wr w' (fun b=>v.ownBlock=some b)->(∀ g,v'.ownBlock=some g->v.ownBlock=some g∨wr.heap.size<=g)->K (a.put o.dst v') w'):
 Oper.wp Tryz.prog o a (wr.alloc (.cells cs.toArray T)).drew K Q:=by
 obtain ⟨i0,hi,hz0,hz1,hz2⟩:=info_parts hI
 have hn:n+1<=140737488355328:=Nat.le_trans (Nat.le_mul_of_pos_right _ hb0) hlen
 have hb1:Below wr.heap.size wr (wr.alloc (.cells cs.toArray T)).drew:=(aJ wr _).drew
 have hown':(wr.alloc (.cells cs.toArray T)).drew.ownsRow base T size v n xs:=aj hown (Keeps.of hb1 (Nat.le_refl _) (fun _=>False)) (fun _ _ x=>x)
 have hrow:aD (wr.alloc (.cells cs.toArray T)).drew T wr.heap.size size (fun j=>cs.toArray.getD j (.bool false)):=by
  have:=aD.mk' wr T cs.toArray
  rw [show cs.toArray.size=size by simpa using hcs] at this
  exact this
 have hnews:∀ j u,cs[j]?=some u->(wr.alloc (.cells cs.toArray T)).drew.cell? ((⟨wr.heap.size,0,none⟩:Addr).add j)=some u:=by
  intro j u hj
  have hj0:j<size:=by rw [<-hcs];exact (List.getElem?_eq_some_iff.1 hj).1
  rw [aY]
  have:=hrow.cell (j:=j) hj0
  rw [show (⟨wr.heap.size,0+j,none⟩:Addr)=⟨wr.heap.size,j,none⟩ by rw [Nat.zero_add],this]
  have hg:cs.toArray.getD j (.bool false)=u:=by
   rw [Array.getD_eq_getD_getElem?,List.getElem?_toArray,hj]
   rfl
  rw [hg]
 obtain ⟨v',w',hr,h2,h3,h4⟩:=run_append_own (P:=Tryz.prog) (wr.alloc (.cells cs.toArray T)).drew base TS o.type T i0 z size bytes hU hi hz0 hz1 hz2 hz hsz v n xs hown' ⟨wr.heap.size,0,none⟩ 1 1 cs (by omega) hnews h1 (by unfold maxLen;omega) hlen (Nat.le_trans hbase hb1.size)
 have h5:=dG (wr.alloc (.cells cs.toArray T)).drew base TS o.type T i0 z size bytes hU hi hz0 hz1 hz2 hz hsz v n xs hown' ⟨wr.heap.size,0,none⟩ 1 1 cs (by omega) hnews h1 (by unfold maxLen;omega) hlen (by omega) hr
 unfold Oper.wp execOp
 simp only [ho,resolve,invoke,builtin,Sem.run_bind,Sem.run_pure,Result.andThen_ok,List.map_toArray,List.map_cons,List.map_nil,hs,hx,hr]
 refine h v' w' h2 ?_ (fun g e=>?_)
 ·refine ⟨h3.os.trans hb1.os,h3.tape.trans hb1.tape,h3.output.trans hb1.output,Nat.le_trans hb1.size h3.size,fun b hb hn=>?_⟩
  exact (h3.block b (Nat.lt_of_lt_of_le hb hb1.size) (fun e=>hn e.symm)).trans (hb1.block b hb)
 ·rcases h5 g e with y|y
  ·exact .inl y
  ·right
   have:=hb1.size
   omega
theorem wW:(Tryz.prog.info? 167).map (fun i=>(i.zero,i.size,i.bytes))=some (some (.agg #[.int .i64 0,.int .i64 0,.int .u64 0,.string ByteArray.empty,.nilIface,.int .i64 0,.int .i64 0,.int .u64 0,.string ByteArray.empty,.nilIface]),10,112):=by kernel_rfl
theorem tK (tb:Nat->Nat) (v:HV):∀ u∈iV tb v,u.oneCell'=true:=by
 intro u hu
 simp [iV] at hu
 rcases hu with rfl|rfl|rfl|rfl|rfl
 ·rfl
 ·rfl
 ·rfl
 ·rfl
 ·unfold aG
  split<;>rfl
theorem tq (x:JL base tb t n o sz es ev mv w) (hlen:es.length<=5000):
 Calls Tryz.prog 124 #[.pointer (some ⟨t,0,none⟩)] w fun e w'=>e=.returned (.bool (decide (16<=es.length/\es.length<2*aK es)))/\Below w.heap.size w w':=by
 obtain ⟨A,cap,hev,hcap,-⟩:=fB x.e
 subst hev
 have c7:w.cell? ⟨t,7,none⟩=some (.slice A es.length cap):=x.r.cell (j:=7) (by omega)
 have c9:w.cell? ⟨t,9,none⟩=some (.int .i64 (aK es:Int)):=x.r.cell (j:=9) (by omega)
 have hbl:=dP es
 clear x hcap
 by_cases h16:16<=es.length
 ·have hd:decide ((es.length:Int) ≥ 16)=true:=by simp;omega
  have HR:Hq (decide (16<=es.length/\es.length<2*aK es)=decide ((aK es:Int) > (es.length:Int)-(aK es:Int))):=ah (by
   rw [decide_eq_decide]
   omega)
  rw [HR.o]
  obtain ⟨B,hB⟩:∃ B,aK es=B:=⟨_,rfl⟩
  rw [hB] at c9 hbl ⊢
  clear hB h16 HR
  go_enter Tryz.func124,Tryz.ntmps124
  go_wp2_with fail
  go_quiet (fail)
  go_wp2
  go_ret
  exact ⟨rfl,ay (Below.refl _ _) _⟩
 ·have hd:decide ((es.length:Int) ≥ 16)=false:=by simp;omega
  have HR:Hq (decide (16<=es.length/\es.length<2*aK es)=false):=ah (by simp;omega)
  rw [HR.o]
  clear h16 HR
  go_enter Tryz.func124,Tryz.ntmps124
  go_wp2_with fail
  go_quiet (fail)
  go_wp2
  go_ret
  exact ⟨rfl,ay (Below.refl _ _) _⟩
theorem DW (v:HV):(vk v==3)=false:=by
 cases v with
 |none=>rfl
 |some x=>cases x<;>rfl
theorem o_ (wr:World):aD (wr.alloc (.cells #[.int .i64 0,.int .i64 0,.int .u64 0,.string ByteArray.empty,.nilIface] 143)) 143 wr.heap.size 5 (fun j=>(iV (fun _=>0) none).getD j (.bool false)):=bX wr (fun _=>0) none
theorem p8 (h:aD w 143 g 5 f) (tb:Nat->Nat) (v:HV):
 aD (((((w.setCell ⟨g,0,none⟩ (.int .i64 (vk v))).setCell ⟨g,1,none⟩ (.int .i64 (vi v))).setCell ⟨g,2,none⟩ (.int .u64 0)).setCell ⟨g,3,none⟩ (.string ByteArray.empty)).setCell ⟨g,4,none⟩ (aG tb v)) 143 g 5 (fun j=>(iV tb v).getD j (.bool false))/\
 Keeps w (((((w.setCell ⟨g,0,none⟩ (.int .i64 (vk v))).setCell ⟨g,1,none⟩ (.int .i64 (vi v))).setCell ⟨g,2,none⟩ (.int .u64 0)).setCell ⟨g,3,none⟩ (.string ByteArray.empty)).setCell ⟨g,4,none⟩ (aG tb v)) (fun b=>b=g):=by
 refine ⟨?_,?_⟩
 ·refine (((((h.set (j:=0) (by omega) (.int .i64 (vk v))).set (j:=1) (by omega) (.int .i64 (vi v))).set (j:=2) (by omega) (.int .u64 0)).set (j:=3) (by omega) (.string ByteArray.empty)).set (j:=4) (by omega) (aG tb v)).congr (fun j hj=>?_)
  have:j=0∨j=1∨j=2∨j=3∨j=4:=by omega
  rcases this with rfl|rfl|rfl|rfl|rfl<;>rfl
 ·exact Keeps.setCell (S:=fun b=>b=g) (Keeps.setCell (S:=fun b=>b=g) (Keeps.setCell (S:=fun b=>b=g) (Keeps.setCell (S:=fun b=>b=g) (Keeps.setCell (S:=fun b=>b=g) (Keeps.refl w (fun b=>b=g)) rfl (.int .i64 (vk v))) rfl (.int .i64 (vi v))) rfl (.int .u64 0)) rfl (.string ByteArray.empty)) rfl (aG tb v)
theorem ji (w:World) (tb:Nat->Nat) (v:HV):Calls Tryz.prog 121 #[.agg #[.int .i64 (vk v),.int .i64 (vi v),.int .u64 0,.string ByteArray.empty,aG tb v]] w fun e w'=>e=.returned (.agg #[.int .i64 (vk v),.int .i64 (vi v),.int .u64 0,.string ByteArray.empty,aG tb v])/\Below w.heap.size w w':=by
 have HZ:=ah (o_ (w.alloc (.cells #[.int .i64 (vk v),.int .i64 (vi v),.int .u64 0,.string ByteArray.empty,aG tb v] 143)))
 have HX:=ah ((bX w tb v).keep (Keeps.of (aJ (w.alloc (.cells #[.int .i64 (vk v),.int .i64 (vi v),.int .u64 0,.string ByteArray.empty,aG tb v] 143)) (.cells #[.int .i64 0,.int .i64 0,.int .u64 0,.string ByteArray.empty,.nilIface] 143)) (Nat.le_refl _) (fun _=>False)) (fun x=>x))
 have HB:=ah ((aJ w (.cells #[.int .i64 (vk v),.int .i64 (vi v),.int .u64 0,.string ByteArray.empty,aG tb v] 143)).trans ((aJ (w.alloc (.cells #[.int .i64 (vk v),.int .i64 (vi v),.int .u64 0,.string ByteArray.empty,aG tb v] 143)) (.cells #[.int .i64 0,.int .i64 0,.int .u64 0,.string ByteArray.empty,.nilIface] 143)).mono (aJ w (.cells #[.int .i64 (vk v),.int .i64 (vi v),.int .u64 0,.string ByteArray.empty,aG tb v] 143)).size))
 have hZ:(w.alloc (.cells #[.int .i64 (vk v),.int .i64 (vi v),.int .u64 0,.string ByteArray.empty,aG tb v] 143)).heap.size=w.heap.size+1:=Array.size_push _
 rw [hZ] at HZ
 clear hZ
 have h3:=DW v
 go_enter Tryz.func121,Tryz.ntmps121
 go_upto_region 1 with (fail)
 change Code.wp _ _ _ _ ((w.alloc (.cells #[.int .i64 (vk v),.int .i64 (vi v),.int .u64 0,.string ByteArray.empty,aG tb v] 143)).alloc (.cells #[.int .i64 0,.int .i64 0,.int .u64 0,.string ByteArray.empty,.nilIface] 143))
 generalize (w.alloc (.cells #[.int .i64 (vk v),.int .i64 (vi v),.int .u64 0,.string ByteArray.empty,aG tb v] 143)).alloc (.cells #[.int .i64 0,.int .i64 0,.int .u64 0,.string ByteArray.empty,.nilIface] 143)=w3 at *
 generalize hX:w.heap.size=X at *
 have x0:w3.cell? ⟨X,0,none⟩=some (.int .i64 (vk v)):=HX.o.cell (j:=0) (by omega)
 have x1:w3.cell? ⟨X,1,none⟩=some (.int .i64 (vi v)):=HX.o.cell (j:=1) (by omega)
 have x2:w3.cell? ⟨X,2,none⟩=some (.int .u64 0):=HX.o.cell (j:=2) (by omega)
 have x3:w3.cell? ⟨X,3,none⟩=some (.string ByteArray.empty):=HX.o.cell (j:=3) (by omega)
 have x4:w3.cell? ⟨X,4,none⟩=some (aG tb v):=HX.o.cell (j:=4) (by omega)
 have y0:=HZ.o.cell (j:=0) (by omega)
 have y1:=HZ.o.cell (j:=1) (by omega)
 have y2:=HZ.o.cell (j:=2) (by omega)
 have y3:=HZ.o.cell (j:=3) (by omega)
 have y4:=HZ.o.cell (j:=4) (by omega)
 have z0:=HZ.o.Jv 0
 have z1:=HZ.o.Jv 1
 have z2:=HZ.o.Jv 2
 have z3:=HZ.o.Jv 3
 have z4:=HZ.o.Jv 4
 go_wp2
 obtain ⟨w7,h7⟩:∃ w7,w7=((((w3.setCell ⟨X+1,0,none⟩ (.int .i64 (vk v))).setCell ⟨X+1,1,none⟩ (.int .i64 (vi v))).setCell ⟨X+1,2,none⟩ (.int .u64 0)).setCell ⟨X+1,3,none⟩ (.string ByteArray.empty)).setCell ⟨X+1,4,none⟩ (aG tb v):=⟨_,rfl⟩
 have HE:=ah (p8 HZ.o tb v)
 rw [<-h7] at HE ⊢
 clear h7
 have q0:w7.cell? ⟨X+1,0,none⟩=some (.int .i64 (vk v)):=HE.o.1.cell (j:=0) (by omega)
 have q1:w7.cell? ⟨X+1,1,none⟩=some (.int .i64 (vi v)):=HE.o.1.cell (j:=1) (by omega)
 have q2:w7.cell? ⟨X+1,2,none⟩=some (.int .u64 0):=HE.o.1.cell (j:=2) (by omega)
 have q3:w7.cell? ⟨X+1,3,none⟩=some (.string ByteArray.empty):=HE.o.1.cell (j:=3) (by omega)
 have q4:w7.cell? ⟨X+1,4,none⟩=some (aG tb v):=HE.o.1.cell (j:=4) (by omega)
 have hXl:=HX.o.lt
 refine bodyPost_ret (v:=.agg #[.int .i64 (vk v),.int .i64 (vi v),.int .u64 0,.string ByteArray.empty,aG tb v]) ?_ rfl ⟨rfl,by rw [hX];exact HB.o.trans (HE.o.2.below (B:=X) (by omega) (fun b e=>by omega))⟩
 simp [results,Tryz.results121,go_sem,q0,q1,q2,q3,q4]
end
end Go.Proofs.YtedpifhlffcmkaaGreatDoor
namespace Go.Proofs.YtedpifhlffcmkaaGreatDoor
open Go Go.RowKit
set_option maxHeartbeats 6400000
set_option maxRecDepth 100000
set_option linter.unusedVariables false
section
variable {R base hand n:Nat} {S:Nat->Prop} {gs:List Nat} {root:List Bool} {rv:Value} {w:World}
theorem JU.Iw {h:Hp} {L:SM} (a:JU base S h L w) (hg:h.pending=gs++[n]):∃ g cap,L.li 12=.slice (some ⟨g,0,none⟩) (gs.length+1) cap/\gs.length+1<=cap/\w.cell? ⟨g,gs.length,none⟩=some (.int .i64 (n:Int))/\
 JU base S { h with pending:=gs } { L with li:=fun j=>if j=12 then .slice (some ⟨g,0,none⟩) gs.length cap else L.li j } (w.setCell ⟨L.H,12,none⟩ (.slice (some ⟨g,0,none⟩) gs.length cap))/\Keeps w (w.setCell ⟨L.H,12,none⟩ (.slice (some ⟨g,0,none⟩) gs.length cap)) S:=by
 have ha:=a.li 12 (by simp [cB])
 have hl7:eX h 12=gs++[n]:=hg
 rw [hl7] at ha
 obtain ⟨x,cap,hv⟩:=aF ha
 have hlen:(gs++[n]).length=gs.length+1:=by simp
 rw [hlen] at ha hv
 rw [hv] at ha
 rcases ha.2 with ⟨_,h9⟩|⟨g,cap',cur,hv2,hb,hh,hnc,hr⟩
 ·omega
 ·simp at hv2
  obtain ⟨rfl,rfl⟩:=hv2
  have hrow:=au ha (g:=g) (by simp [Value.ownBlock])
  have hpre:=jB ha (m:=gs.length) (by omega)
  have hpre':w.ownsRow base 3 1 (.slice (some ⟨g,0,none⟩) gs.length cap) gs.length (bU gs):=by
   have:(bU (gs++[n])).take (gs.length*1)=bU gs:=by
    unfold bU
    rw [List.map_append,Nat.mul_one]
    rw [List.take_append_of_le_length (by simp),List.take_of_length_le (by simp)]
   rw [this] at hpre
   exact hpre
  obtain ⟨p1,p2,p3⟩:=a.Gm (w1:=w) 12 (by simp [cB]) (Keeps.refl w _) _ gs hpre' (fun g' e=>.inl (by rw [hv];simpa [Value.ownBlock] using e))
  refine ⟨g,cap,hv,hnc,?_,p2,p3⟩
  rw [hrow.cell (j:=gs.length) (by omega)]
  simp [bU,List.getD_eq_getElem?_getD]
theorem Hp.Il {h:Hp} (hg:h.pending=gs++[n]):h.pop={ h with pending:=gs }:=by
 unfold Hp.pop
 rw [hg]
 simp
theorem CO {h:Hp} {L:SM} (x:RW base S h L R hand rv root w) (g:Gd h) (A B C:Int):
 Calls Tryz.prog 34 #[.pointer (some ⟨R,0,none⟩),.agg #[.int .i64 8,.int .i64 A,.int .i64 B,.int .i64 C]] w (dS base S R hand rv w (if h.pending=[] then 4 else 0) ((h.pending.getLast?.getD 0:Nat):Int) h.pop root):=by
 have HX:=ah (eT w 8 A B C)
 have HB:=ah (aJ w (.cells #[.int .i64 8,.int .i64 A,.int .i64 B,.int .i64 C] 39))
 have HR:=ah (x.hole (.cells #[.int .i64 8,.int .i64 A,.int .i64 B,.int .i64 C] 39))
 clear x
 by_cases hp:h.pending=[]
 ·have e1:((h.pending.getLast?.getD 0:Nat):Int)=0:=by rw [hp];rfl
  have e2:h.pop=h:=by unfold Hp.pop;rw [hp];simp;rw [<-hp]
  rw [if_pos hp,e1,e2]
  clear e1 e2
  go_enter Tryz.func34,Tryz.ntmps34
  go_upto_region 1 with (fail)
  generalize w.alloc (.cells #[.int .i64 8,.int .i64 A,.int .i64 B,.int .i64 C] 39)=w1 at *
  generalize hX:w.heap.size=X at *
  have x0:w1.cell? ⟨X,0,none⟩=some (.int .i64 8):=HX.o.cell (j:=0) (by omega)
  have r0:w1.cell? ⟨R,0,none⟩=some (.pointer (some ⟨L.H,0,none⟩)):=HR.o.x.r.cell (j:=0) (by omega)
  have ha:=HR.o.x.a.li 12 (by simp [cB])
  rw [show eX h 12=[] from hp] at ha
  obtain ⟨y,cap,hv⟩:=aF ha
  have c12:w1.cell? ⟨L.H,12,none⟩=some (.slice y 0 cap):=by
   have:=HR.o.x.a.hp.cell (j:=12) (by omega)
   rw [this]
   exact congrArg some hv
  clear ha hv hp
  go_wp2
  ((try simp only [Exit.inBlock,Exit.then]);refine bodyPost_ret (results_tmp2 rfl _ _ _) rfl ?_)
  exact dS.mk' (by rw [hX];exact HB.o) (fun b e=>e.1) (Keeps.refl _ _) HR.o
 ·obtain ⟨gs,n,hgs⟩:∃ gs n,h.pending=gs++[n]:=⟨_,_,(List.dropLast_concat_getLast hp).symm⟩
  have e1:((h.pending.getLast?.getD 0:Nat):Int)=(n:Int):=by rw [hgs];simp
  rw [if_neg hp,e1,Hp.Il hgs]
  have hgl:gs.length<=5000:=by
   have:=g.s.fp
   rw [hgs] at this
   simp at this
   omega
  have HGS:=ah hgs
  clear e1 hp hgs
  go_enter Tryz.func34,Tryz.ntmps34
  go_upto_region 1 with (fail)
  generalize w.alloc (.cells #[.int .i64 8,.int .i64 A,.int .i64 B,.int .i64 C] 39)=w1 at *
  generalize hX:w.heap.size=X at *
  have x0:w1.cell? ⟨X,0,none⟩=some (.int .i64 8):=HX.o.cell (j:=0) (by omega)
  have r0:w1.cell? ⟨R,0,none⟩=some (.pointer (some ⟨L.H,0,none⟩)):=HR.o.x.r.cell (j:=0) (by omega)
  obtain ⟨g1,cap,hv,hcap,hcn,hpat,hpk⟩:=HR.o.x.a.Iw HGS.o
  have c12:w1.cell? ⟨L.H,12,none⟩=some (.slice (some ⟨g1,0,none⟩) (gs.length+1) cap):=by
   have:=HR.o.x.a.hp.cell (j:=12) (by omega)
   rw [this]
   exact congrArg some hv
  clear hv hpat hpk
  go_wp2_with fail
  go_quiet (fail)
  go_wp2_with fail
  have HB2:=ah (ay (Below.refl w1.heap.size w1) nq)
  generalize w1.drewN nq=w2 at *
  have HI2:=ah (HR.o.low HB2.o)
  obtain ⟨g2,cap2,hv2,hcap2,-,hpat2,hpk2⟩:=HI2.o.x.a.Iw HGS.o
  have d7:w2.cell? ⟨L.H,12,none⟩=some (.slice (some ⟨g2,0,none⟩) (gs.length+1) cap2):=by
   have:=HI2.o.x.a.hp.cell (j:=12) (by omega)
   rw [this]
   exact congrArg some hv2
  have y7:=HI2.o.x.a.hp.Jv 12
  have HPT2:=ah (And.intro hpat2 hpk2)
  have hgl2:(gs.length:Int)<=cap2:=by omega
  clear hv2 hpat2 hpk2 c12 hcn
  go_region
  have H6:=ah ((HI2.o.heap (h':={ h with pending:=gs }) HPT2.o.1 rfl HPT2.o.2 rfl rfl).low (ay (Below.refl _ _) 1))
  have K6:=ah ((Keeps.of HB2.o (Nat.le_refl _) (fun b=>S b/\b≠X)).trans (HPT2.o.2.trans (Keeps.of (ay (Below.refl (w2.setCell ⟨L.H,12,none⟩ (.slice (some ⟨g2,0,none⟩) gs.length cap2)).heap.size (w2.setCell ⟨L.H,12,none⟩ (.slice (some ⟨g2,0,none⟩) gs.length cap2))) 1) (Nat.le_refl _) (fun b=>S b/\b≠X))))
  go_wp2
  ((try simp only [Exit.inBlock,Exit.then]);refine bodyPost_ret (results_tmp2 rfl _ _ _) rfl ?_)
  exact dS.mk' (by rw [hX];exact HB.o) (fun b e=>e.1) K6.o H6.o
end
section
variable {H R base cap cap' hand m n q:Nat} {S S' S1:Nat->Prop} {a':Option Addr} {h h1:Hp} {root rt:List Bool} {rv:Value} {w w' w0 ws:World}
structure RP (base:Nat) (S1:Nat->Prop) (R hand:Nat) (rv:Value) (w0:World) (h1:Hp) (H:Nat) (rt:List Bool) (a:Option Addr) (cap:Nat) (S':Nat->Prop) (L':SM) (ws:World):Prop where
 eH:L'.H=H
 s:JU base S' h1 L' ws
 r:aD ws 61 R 3 (BH H (.slice a rt.length cap) hand)
 v:ws.ownsRow base 4 1 (.slice a rt.length cap) rt.length (qP rt)
 nR:¬ S' R
 nb:∀ g,(Value.slice a rt.length cap).ownBlock=some g->¬ S' g
 sub:∀ b,S' b->S1 b
 old:∀ g,(Value.slice a rt.length cap).ownBlock=some g->rv.ownBlock=some g∨S1 g
 kk:Keeps w0 ws (Zs S1 R rv)
theorem RP.push {a:Option Addr} {L':SM} (x:RP base S1 R hand rv w0 h1 H rt a cap S' L' ws) 
 (hv1:w'.ownsRow base 4 1 (.slice a' (rt.length+1) cap') (rt.length+1) (qP rt++[.bool false])) (hv2:Keeps ws w' (fun b=>(Value.slice a rt.length cap).ownBlock=some b)) (hv3:∀ g,(Value.slice a' (rt.length+1) cap').ownBlock=some g->(Value.slice a rt.length cap).ownBlock=some g∨ws.heap.size<=g):
 aD w' 61 R 3 (BH H (.slice a rt.length cap) hand)/\RP base S1 R hand rv w0 h1 H (rt++[false]) a' cap' (fun b=>S' b/\(Value.slice a' (rt.length+1) cap').ownBlock≠some b) L' (w'.setCell ⟨R,1,none⟩ (.slice a' (rt.length+1) cap')):=by
 have hlen:(rt++[false]).length=rt.length+1:=by simp
 have hr1:aD w' 61 R 3 (BH H (.slice a rt.length cap) hand):=x.r.keep hv2 (fun e=>ak x.v x.r (by decide) e)
 have k1:Keeps w' (w'.setCell ⟨R,1,none⟩ (.slice a' (rt.length+1) cap')) (fun b=>b=R):=Keeps.setCell (S:=fun b=>b=R) (Keeps.refl w' _) rfl _
 have hS1:JU base S' h1 L' w':=x.s.out (hv2.mono (fun b e=>x.nb b e))
 have hS2:JU base S' h1 L' (w'.setCell ⟨R,1,none⟩ (.slice a' (rt.length+1) cap')):=hS1.out (k1.mono (fun b e=>e ▸ x.nR))
 have hown2:(w'.setCell ⟨R,1,none⟩ (.slice a' (rt.length+1) cap')).ownsRow base 4 1 (.slice a' (rt.length+1) cap') (rt.length+1) (qP rt++[.bool false]):=aj hv1 k1 (fun g hg e=>ak hv1 hr1 (by decide) (e ▸ hg))
 have hfr:∀ g,(Value.slice a' (rt.length+1) cap').ownBlock=some g->Free h1 L' g/\g<(w'.setCell ⟨R,1,none⟩ (.slice a' (rt.length+1) cap')).heap.size:=by
  intro g hg
  refine ⟨?_,(au hown2 hg).lt⟩
  rcases hv3 g hg with y|y
  ·exact x.s.free (x.nb g y)
  ·exact x.s.past y
 refine ⟨hr1,x.eH,hS2.less _ hfr,?_,?_,fun e=>x.nR e.1,fun g hg e=>?_,fun b e=>x.sub b e.1,fun g hg=>?_,?_⟩
 ·rw [hlen]
  refine (hr1.set (j:=1) (by omega) _).congr (fun j hj=>?_)
  have:j=0∨j=1∨j=2:=by omega
  rcases this with rfl|rfl|rfl<;>rfl
 ·rw [hlen]
  have:qP (rt++[false])=qP rt++[.bool false]:=by simp [qP]
  rw [this]
  exact hown2
 ·rw [hlen] at hg
  exact e.2 hg
 ·rw [hlen] at hg
  rcases hv3 g hg with y|y
  ·exact x.old g y
  ·have hsz:=x.s.up g y
   exact .inr (x.sub g hsz)
 ·have z1:Keeps ws w' (Zs S1 R rv):=hv2.mono (fun b e=>by
   rcases x.old b e with y|y
   ·exact .inr (.inr y)
   ·exact .inl y)
  exact x.kk.trans (z1.trans (k1.mono (fun b e=>.inr (.inl e))))
theorem RP.rw {base:Nat} {S1:Nat->Prop} {R hand:Nat} {rv:Value} {w0:World} {h1:Hp} {H:Nat} {rt:List Bool} {a:Option Addr} {cap:Nat} {S':Nat->Prop} {L':SM} {ws:World} (x:RP base S1 R hand rv w0 h1 H rt a cap S' L' ws) (hl:rt.length=h1.objs.length) (ho:h1.roots=bV 0 rt) (h0:rt[0]?=some false):RW base S' h1 L' R hand (.slice a rt.length cap) rt ws:=
 ⟨⟨x.s,by rw [x.eH];exact x.r,x.v,hl,ho⟩,x.nR,x.nb,h0⟩
def yS (R:Nat) (w:World):Nat:=match w.cell? ⟨R,1,none⟩ with
 |some v=>DT v
 |none=>0
theorem qV {a:Option Addr} (h:w.cell? ⟨R,1,none⟩=some (.slice a n cap)):yS R w=n:=by unfold yS;rw [h];rfl
theorem gK (i:Inv h) (hm:m<=3) (hl:root.length=h.objs.length) (ho:h.roots=bV 0 root):∀ n∈bV 0 (root++[true]),(h.make m).Ok n:=by
 obtain ⟨hi,hok⟩:=i.make hm
 intro n hn
 rw [iw] at hn
 rcases List.mem_append.1 hn with y|y
 ·exact hi.ls n (.inl (by show n∈h.roots;rw [ho];exact y))
 ·simp at y
  rw [y,hl]
  exact hok
theorem xL (root:List Bool) (n:Nat) (hn:n=root.length):(root++[false]).set n true=root++[true]:=by
 subst hn
 rw [List.set_append_right _ _ (Nat.le_refl _)]
 simp
theorem C_ {L:SM} (x:RW base S h L R hand rv root w) (g:Gd h) (b:Bd q h) (hq:q+1<=5000) (hfr:h.freed=[]) (A B C:Int) (m:Nat) (hm:¬ (A<0∨3<A)->A=(m:Int)):
 Calls Tryz.prog 34 #[.pointer (some ⟨R,0,none⟩),.agg #[.int .i64 1,.int .i64 A,.int .i64 B,.int .i64 C]] w (dS base S R hand rv w (if A<0∨3<A then 2 else 0) (if A<0∨3<A then 0 else (h.objs.length:Int)) (if A<0∨3<A then h else ((h.make m).Eb (bV 0 (root++[true]))).Fe) (if A<0∨3<A then root else root++[true])):=by
 have HX:=ah (eT w 1 A B C)
 have HB:=ah (aJ w (.cells #[.int .i64 1,.int .i64 A,.int .i64 B,.int .i64 C] 39))
 have HR:=ah (x.hole (.cells #[.int .i64 1,.int .i64 A,.int .i64 B,.int .i64 C] 39))
 clear x
 by_cases hA:A<0∨3<A
 ·rw [if_pos hA,if_pos hA,if_pos hA,if_pos hA]
  go_enter Tryz.func34,Tryz.ntmps34
  go_upto_region 1 with (fail)
  generalize w.alloc (.cells #[.int .i64 1,.int .i64 A,.int .i64 B,.int .i64 C] 39)=w1 at *
  generalize hX:w.heap.size=X at *
  have x0:w1.cell? ⟨X,0,none⟩=some (.int .i64 1):=HX.o.cell (j:=0) (by omega)
  have x1:w1.cell? ⟨X,1,none⟩=some (.int .i64 A):=HX.o.cell (j:=1) (by omega)
  have r0:w1.cell? ⟨R,0,none⟩=some (.pointer (some ⟨L.H,0,none⟩)):=HR.o.x.r.cell (j:=0) (by omega)
  by_cases h1:A<0
  ·have h1d:decide (A<0)=true:=by simpa using h1
   clear hA h1 hm
   go_wp2
   ((try simp only [Exit.inBlock,Exit.then]);refine bodyPost_ret (results_tmp2 rfl _ _ _) rfl ?_)
   exact dS.mk' (by rw [hX];exact HB.o) (fun b e=>e.1) (Keeps.refl _ _) HR.o
  ·have h1d:decide (A<0)=false:=by simpa using h1
   have h2d:decide (A > 3)=true:=by simp;omega
   clear hA h1 hm
   go_wp2
   ((try simp only [Exit.inBlock,Exit.then]);refine bodyPost_ret (results_tmp2 rfl _ _ _) rfl ?_)
   exact dS.mk' (by rw [hX];exact HB.o) (fun b e=>e.1) (Keeps.refl _ _) HR.o
 ·rw [if_neg hA,if_neg hA,if_neg hA,if_neg hA]
  obtain rfl:=hm hA
  have hm3:m<=3:=by omega
  clear hA hm
  have HGM:=ah (g.make b hq hfr hm3)
  have HRT:=ah (gK g.i hm3 HR.o.x.l HR.o.x.o)
  have hlv:h.live<=10000:=by have:=g.s.fr;omega
  have hl9:=g.s.len
  have hby:h.bytes<=300000:=by have:=g.s.JQ;omega
  have hcr:h.D6<=300000:=by have:=g.s.cr;omega
  have HRL:=ah HR.o.x.l
  have hr1:1<=root.length:=by rw [HR.o.x.l];exact g.i.ps
  have hr2:root.length<=5001:=by rw [HR.o.x.l];exact hl9
  have hN1:h.objs.length<=root.length:=Nat.le_of_eq HR.o.x.l.symm
  have hN2:root.length<=h.objs.length:=Nat.le_of_eq HR.o.x.l
  have HFR:=ah hfr
  have HQ:=ah hq
  clear g b hfr hq
  go_enter Tryz.func34,Tryz.ntmps34
  go_upto_region 1 with (fail)
  generalize w.alloc (.cells #[.int .i64 1,.int .i64 (m:Int),.int .i64 B,.int .i64 C] 39)=w1 at *
  generalize hX:w.heap.size=X at *
  have x0:w1.cell? ⟨X,0,none⟩=some (.int .i64 1):=HX.o.cell (j:=0) (by omega)
  have x1:w1.cell? ⟨X,1,none⟩=some (.int .i64 (m:Int)):=HX.o.cell (j:=1) (by omega)
  have r0:w1.cell? ⟨R,0,none⟩=some (.pointer (some ⟨L.H,0,none⟩)):=HR.o.x.r.cell (j:=0) (by omega)
  have h1d:decide ((m:Int)<0)=false:=by simp
  have h2d:decide ((m:Int) > 3)=false:=by simp;omega
  go_upto_region 7 with (fail)
  clear h1d h2d x0
  have hb2:=aJ w1 (.cells #[.int .i64 5,.int .i64 0,.bool false,.int .i64 0,.int .i64 (m:Int),.slice none 0 0,.slice none 0 0,.int .i64 0,.int .i64 0,.slice none 0 0,.pointer none,.int .i64 0,.int .i64 0,.int .u64 0,.string { data:=#[] },.int .i64 0,.int .i64 0,.int .i64 0,.int .i64 0,.pointer none,.pointer none,.int .i64 0,.bool false,.pointer none,.pointer none] 101)
  have HX5:Hq (∃ rx,aD (w1.alloc (.cells #[.int .i64 5,.int .i64 0,.bool false,.int .i64 0,.int .i64 (m:Int),.slice none 0 0,.slice none 0 0,.int .i64 0,.int .i64 0,.slice none 0 0,.pointer none,.int .i64 0,.int .i64 0,.int .u64 0,.string { data:=#[] },.int .i64 0,.int .i64 0,.int .i64 0,.int .i64 0,.pointer none,.pointer none,.int .i64 0,.bool false,.pointer none,.pointer none] 101)) 101 w1.heap.size 25 (jw rx 5 0 false m (.slice none 0 0) false)):=ah (by
   have h9:=aD.mk' w1 101 #[.int .i64 5,.int .i64 0,.bool false,.int .i64 0,.int .i64 (m:Int),.slice none 0 0,.slice none 0 0,.int .i64 0,.int .i64 0,.slice none 0 0,.pointer none,.int .i64 0,.int .i64 0,.int .u64 0,.string { data:=#[] },.int .i64 0,.int .i64 0,.int .i64 0,.int .i64 0,.pointer none,.pointer none,.int .i64 0,.bool false,.pointer none,.pointer none]
   refine ⟨_,h9.congr (f':=jw (fun j=>(#[.int .i64 5,.int .i64 0,.bool false,.int .i64 0,.int .i64 (m:Int),.slice none 0 0,.slice none 0 0,.int .i64 0,.int .i64 0,.slice none 0 0,.pointer none,.int .i64 0,.int .i64 0,.int .u64 0,.string { data:=#[] },.int .i64 0,.int .i64 0,.int .i64 0,.int .i64 0,.pointer none,.pointer none,.int .i64 0,.bool false,.pointer none,.pointer none]:Array Value).getD j (.bool false)) 5 0 false m (.slice none 0 0) false) (fun j hj=>?_)⟩
   unfold jw
   by_cases c0:j=0
   ·subst c0;rfl
   by_cases c1:j=1
   ·subst c1;rfl
   by_cases c2:j=2
   ·subst c2;rfl
   by_cases c3:j=3
   ·subst c3;rfl
   by_cases c4:j=4
   ·subst c4;rfl
   by_cases c5:j=5
   ·subst c5;rfl
   by_cases c22:j=22
   ·subst c22;rfl
   simp [c0,c1,c2,c3,c4,c5,c22])
  have HR2:=ah (HR.o.low hb2)
  have HB2:=ah hb2
  have HFX:=ah (HR.o.x.a.past (g:=w1.heap.size) (Nat.le_refl _))
  have hS2:S w1.heap.size/\w1.heap.size≠X:=HR.o.x.a.up w1.heap.size (Nat.le_refl _)
  have hbs:=HR.o.x.a.bs
  obtain ⟨rx,hrx⟩:=HX5.o
  have HMK:=ah (xU HR2.o.x.a hl9 hby hcr hlv hrx HFX.o hS2 hbs)
  clear hb2 hrx HX5 hS2 HFX
  go_wp2_with fail
  refine HMK.o.mono ?_
  rintro e3 w3 ⟨rfl,hk3,L3,hH3,ha3⟩
  obtain ⟨gr,cr,hrv,hcr2⟩:=HR.o.Hu hr1
  have HP:=ah (show RP base (fun b=>S b/\b≠X) R hand rv w1 (h.make m) L.H root (some ⟨gr,0,none⟩) cr (fun b=>S b/\b≠X) L3 w3 from
   ⟨hH3,ha3,by rw [<-hrv];exact HR2.o.x.r.keep hk3 HR.o.nR,by rw [<-hrv];exact aj HR2.o.x.v hk3 HR.o.nb,HR.o.nR,by rw [<-hrv];exact HR.o.nb,fun b e=>e,fun g e=>.inl (by rw [hrv];exact e),(Keeps.of HB2.o (Nat.le_refl _) _).trans (hk3.mono (fun b e=>.inl e))⟩)
  clear hk3 ha3 hH3 hrv x1 r0 HMK
  go_wp2
  go_loopw [] (fun ws=>∃ j:Nat,j<=1/\Hq (∃ a cap S' L',RP base (fun b=>S b/\b≠X) R hand rv w1 (h.make m) L.H (root++List.replicate j false) a cap S' L' ws)) (fun ws=>root.length+1-yS R ws)
  case atStart=>exact ⟨0,by omega,_,_,_,_,by simpa using HP.o⟩
  case round=>
   clear HP
   obtain ⟨j,hj,HJ⟩:=hrel
   obtain ⟨a4,cap4,S4,L4,hp4⟩:=HJ.o
   have HP4:=ah hp4
   clear hp4 HJ
   by_cases hj0:j=0
   ·subst hj0
    simp only [List.replicate_zero,List.append_nil] at HP4
    have r1:wr.cell? ⟨R,1,none⟩=some (.slice a4 root.length cap4):=HP4.o.r.cell (j:=1) (by omega)
    have z1:=HP4.o.r.Jv 1
    have hle:decide ((root.length:Int)<=(h.objs.length:Int))=true:=by simp;omega
    have HBN:=ah (qV r1)
    go_wp2_with (first
     |(at_builtin
       refine iF rfl (.tmp 42) (.tmp 43) 31 4 1 1 (.bool false) rfl Tryz.underlying31 nK rfl (by decide) base (.slice a4 root.length cap4) root.length (qP root) [.bool false] HP4.o.v rfl rfl rfl (fun u hu=>by simp at hu;subst hu;rfl) (by omega) (by decide) HP4.o.s.bs ?_
       intro v' w5 g1 g2 g3 g4
       obtain ⟨a5,cap5,hvf⟩:∃ a5 cap5,v'=.slice a5 (root.length+1) cap5:=aF g1
       subst hvf
       have hb2:=g2 base wr (Below.refl _ _) (Nat.le_refl _)
       have H5:=ah (HP4.o.push g1 ⟨hb2.os,hb2.tape,hb2.output,hb2.size,fun b hb hn=>g3 b hb hn⟩ (fun g e=>by
        by_cases c:(Value.slice a4 root.length cap4).ownBlock=some g
        ·exact .inl c
        ·right
         rcases Nat.lt_or_ge g wr.heap.size with d|d
         ·exact absurd e (g4 g d c)
         ·exact d))
       have p1:=H5.o.1.cell (j:=1) (by omega)
       have q1:=H5.o.1.Jv 1
       clear g1 g2 g3 g4 hb2)
     |go_in)
    go_roundw
    case rel=>exact ⟨1,by omega,a5,cap5,_,L4,H5.o.2⟩
    case measure=>
     have h8:(w5.setCell ⟨R,1,none⟩ (.slice a5 (root.length+1) cap5)).cell? ⟨R,1,none⟩=some (.slice a5 (root++[false]).length cap5):=H5.o.2.r.cell (j:=1) (by omega)
     rw [qV h8,HBN.o]
     simp
   ·have hj1:j=1:=by omega
    subst hj1
    have hrep:root++List.replicate 1 false=root++[false]:=rfl
    rw [hrep] at HP4
    clear hrep hj hj0
    have hlen1:(root++[false]).length=root.length+1:=by simp
    have r1:wr.cell? ⟨R,1,none⟩=some (.slice a4 (root.length+1) cap4):=by
     rw [<-hlen1]
     exact HP4.o.r.cell (j:=1) (by omega)
    have hle:decide (((root.length+1:Nat):Int)<=(h.objs.length:Int))=false:=by simp;omega
    have h00:(root++[false])[0]?=some false:=by
     rw [List.getElem?_append_left (by omega)]
     exact HR.o.r0
    have HRW:=ah (HP4.o.rw (by rw [hlen1,HRL.o];show _=(h.objs++[_]).length;simp) (by show h.roots=_;rw [iw,HR.o.x.o];simp) h00)
    obtain ⟨g4,cap4',hv4,hcp4⟩:=HRW.o.Hu (by rw [hlen1];omega)
    simp only [Value.slice.injEq,true_and] at hv4
    obtain ⟨rfl,rfl⟩:=hv4
    have hrow:=au HRW.o.x.v (g:=g4) (by simp [Value.ownBlock])
    have gn:=hrow.cell (j:=h.objs.length) (by rw [hlen1];omega)
    have zn:=hrow.Jv h.objs.length
    have HM:=ah (HRW.o.mark rfl (n:=h.objs.length) (by rw [hlen1];omega) true)
    have hni:(h.objs.length:Int)<((root.length+1:Nat):Int):=by omega
    have HZK:=ah HP4.o.kk
    have HE4:=ah HP4.o.eH
    have HSUB:=ah (And.intro HP4.o.sub HP4.o.old)
    clear hrow HP4 h00 hlen1 hcp4
    go_upto_region 11 with (fail)
    generalize wr.setCell ⟨g4,h.objs.length,none⟩ (.bool true)=w6 at *
    rw [xL root h.objs.length HRL.o.symm] at HM
    have hlt:(root++[true]).length=root.length+1:=by simp
    have hr5:root.length+1<=5001:=by
     have h8:=HGM.o.2.len
     have h9:(h.make m).objs.length=h.objs.length+1:=by show (h.objs++[_]).length=_;simp
     have h10:=HQ.o
     omega
    have h0t:(root++[true])[0]?=some false:=by
     rw [List.getElem?_append_left (by omega)]
     exact HR.o.r0
    have HH0:=ah h0t
    have HST:=ah (gQ HM.o.1 HM.o.2.1 HRW.o.nR HM.o.2.2.1 HRW.o.nb (by rw [hlt];omega) (by rw [hlt];exact hr5) h0t)
    have HG2:=ah (HGM.o.1.Eb HGM.o.2 HQ.o HFR.o HRT.o (by
     have h8:=eZ (root++[true]) 0
     rw [hlt] at h8
     have h9:=HGM.o.2.len
     have h10:(h.make m).objs.length=h.objs.length+1:=by show (h.objs++[_]).length=_;simp
     omega)).1
    clear gn zn r1 hle hni h0t
    go_wp2_with fail
    refine HST.o.mono ?_
    rintro e7 w7 ⟨rfl,hk7,L7,hH7,ha7⟩
    have H7:=ah (show RW base S4 ((h.make m).Eb (bV 0 (root++[true]))) L7 R hand (.slice (some ⟨g4,0,none⟩) (root++[false]).length cap4) (root++[true]) w7 from
     ⟨⟨ha7,by rw [hH7];exact HM.o.2.1.keep hk7 HRW.o.nR,aj HM.o.2.2.1 hk7 HRW.o.nb,by rw [hlt,HRL.o];show _=(h.objs++[_]).length;simp,rfl⟩,HRW.o.nR,HRW.o.nb,HH0.o⟩)
    have K7:=ah hk7
    have HH7:=ah hH7
    clear ha7 hk7 hH7 HST
    have HPC:=ah (yL H7.o.x.a HG2.o)
    rw [HH7.o,HE4.o] at HPC
    have HCL:=ah HG2.o.Gb
    go_wp2_with fail
    refine HPC.o.mono ?_
    rintro e8 w8 ⟨rfl,L8,hH8,ha8,hk8⟩
    have H8:=ah (H7.o.heap ha8 (hH8.trans (HE4.o.symm.trans HH7.o.symm)) hk8 HCL.o.len HCL.o.rt)
    have K8:=ah hk8
    clear ha8 hk8 hH8 HPC
    go_wp2
    ((try simp only [Exit.inBlock,Exit.then]);refine bodyPost_ret (results_tmp2 rfl _ _ _) rfl ?_)
    have kz:∀ b,Zs (fun b=>S b/\b≠X) R rv b->Zs S R rv b:=by
     rintro b (e|e|e)
     ·exact .inl e.1
     ·exact .inr (.inl e)
     ·exact .inr (.inr e)
    have hrvg:∀ b,b=g4->Zs S R rv b:=by
     intro b e
     rcases HSUB.o.2 g4 (by simp [Value.ownBlock]) with y|y
     ·exact .inr (.inr (by rw [e];exact y))
     ·exact .inl (by rw [e];exact y.1)
    refine ⟨rfl,?_,S4,L8,_,H8.o,fun b e=>(HSUB.o.1 b e).1,fun g e=>?_⟩
    ·exact (Keeps.of HB.o (Nat.le_of_eq hX) _).trans ((HZK.o.mono kz).trans ((HM.o.2.2.2.mono hrvg).trans ((K7.o.trans K8.o).mono (fun b e=>.inl (HSUB.o.1 b e).1))))
    ·rcases HSUB.o.2 g e with y|y
     ·exact .inl y
     ·exact .inr y.1
end
end Go.Proofs.YtedpifhlffcmkaaGreatDoor
