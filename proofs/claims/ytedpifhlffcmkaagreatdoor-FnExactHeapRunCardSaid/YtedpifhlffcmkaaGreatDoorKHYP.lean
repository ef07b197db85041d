import Derived.Test.YtedpifhlffcmkaaGreatDoorKHYN
import Derived.Deep.RegionLaw
import Derived.Deep.RegionHeld3
namespace Go.Proofs.YtedpifhlffcmkaaGreatDoor
open Go Go.RowKit
set_option maxHeartbeats 6400000
set_option maxRecDepth 100000
set_option linter.unusedVariables false
section
variable {X:Nat} {w w3 w7:World}
attribute [local go_sem] bD
def kC (a b c:Int):List Value:=[.int .i64 a,.int .i64 b,.int .u64 0,.string ByteArray.empty,.int .i64 c]
theorem DK (wr:World) (a b c:Int):aD (wr.alloc (.cells #[.int .i64 a,.int .i64 b,.int .u64 0,.string ByteArray.empty,.int .i64 c] 194)) 194 wr.heap.size 5 (fun j=>(kC a b c).getD j (.bool false)):=by
 have h:=aD.mk' wr 194 #[.int .i64 a,.int .i64 b,.int .u64 0,.string ByteArray.empty,.int .i64 c]
 refine aD.congr (show aD _ _ _ 5 _ from h) (fun j hj=>?_)
 have:j=0∨j=1∨j=2∨j=3∨j=4:=by omega
 rcases this with rfl|rfl|rfl|rfl|rfl<;>rfl
theorem tV {a b c:Int} (HZ:aD w3 194 (X+1) 5 (fun j=>(kC 0 0 0).getD j (.bool false))) (hX:X+1<=w3.heap.size) (HB:Below X w w3)
 (h7:w7=((((w3.setCell ⟨X+1,0,none⟩ (.int .i64 a)).setCell ⟨X+1,1,none⟩ (.int .i64 b)).setCell ⟨X+1,2,none⟩ (.int .u64 0)).setCell ⟨X+1,3,none⟩ (.string ByteArray.empty)).setCell ⟨X+1,4,none⟩ (.int .i64 c)):
 aD w7 194 (X+1) 5 (fun j=>(kC a b c).getD j (.bool false))/\Below X w w7:=by
 subst h7
 refine ⟨?_,?_⟩
 ·refine (((((HZ.set (j:=0) (by omega) (.int .i64 a)).set (j:=1) (by omega) (.int .i64 b)).set (j:=2) (by omega) (.int .u64 0)).set (j:=3) (by omega) (.string ByteArray.empty)).set (j:=4) (by omega) (.int .i64 c)).congr (fun j hj=>?_)
  have:j=0∨j=1∨j=2∨j=3∨j=4:=by omega
  rcases this with rfl|rfl|rfl|rfl|rfl<;>rfl
 ·exact HB.trans ((((((Keeps.setCell (S:=fun b=>b=X+1) (Keeps.refl w3 _) (g:=X+1) (j:=0) rfl (.int .i64 a)).setCell (g:=X+1) (j:=1) rfl (.int .i64 b)).setCell (g:=X+1) (j:=2) rfl (.int .u64 0)).setCell (g:=X+1) (j:=3) rfl (.string ByteArray.empty)).setCell (g:=X+1) (j:=4) rfl (.int .i64 c)).below (B:=X) (by omega) (fun b e=>by omega))
theorem wC (w:World) (tb:Nat->Nat) (v:HV) (ht:∀ n,v=some (.inr n)->w.cell? ⟨tb n,1,none⟩=some (.int .i64 (n:Int))):
 Calls Tryz.prog 122 #[.agg #[.int .i64 (vk v),.int .i64 (vi v),.int .u64 0,.string ByteArray.empty,aG tb v]] w fun e w'=>e=.returned (iE v)/\Below w.heap.size w w':=by
 have HZ:=ah (DK (w.alloc (.cells #[.int .i64 (vk v),.int .i64 (vi v),.int .u64 0,.string ByteArray.empty,aG tb v] 143)) 0 0 0)
 have HX:=ah ((bX w tb v).keep (Keeps.of (aJ (w.alloc (.cells #[.int .i64 (vk v),.int .i64 (vi v),.int .u64 0,.string ByteArray.empty,aG tb v] 143)) (.cells #[.int .i64 0,.int .i64 0,.int .u64 0,.string ByteArray.empty,.int .i64 0] 194)) (Nat.le_refl _) (fun _=>False)) (fun x=>x))
 have HB:=ah ((aJ w (.cells #[.int .i64 (vk v),.int .i64 (vi v),.int .u64 0,.string ByteArray.empty,aG tb v] 143)).trans ((aJ (w.alloc (.cells #[.int .i64 (vk v),.int .i64 (vi v),.int .u64 0,.string ByteArray.empty,aG tb v] 143)) (.cells #[.int .i64 0,.int .i64 0,.int .u64 0,.string ByteArray.empty,.int .i64 0] 194)).mono (aJ w (.cells #[.int .i64 (vk v),.int .i64 (vi v),.int .u64 0,.string ByteArray.empty,aG tb v] 143)).size))
 have hZ:(w.alloc (.cells #[.int .i64 (vk v),.int .i64 (vi v),.int .u64 0,.string ByteArray.empty,aG tb v] 143)).heap.size=w.heap.size+1:=Array.size_push _
 rw [hZ] at HZ
 clear hZ
 cases h5:(vk v==5) with
 |false=>
  have HPK:Hq (iE v=.agg #[.int .i64 (vk v),.int .i64 (vi v),.int .u64 0,.string ByteArray.empty,.int .i64 0]):=ah (by
   cases v with
   |none=>rfl
   |some x=>cases x with
    |inl z=>rfl
    |inr n=>simp [vk] at h5)
  clear ht
  go_enter Tryz.func122,Tryz.ntmps122
  go_upto_region 1 with (fail)
  change Code.wp _ _ _ _ ((w.alloc (.cells #[.int .i64 (vk v),.int .i64 (vi v),.int .u64 0,.string ByteArray.empty,aG tb v] 143)).alloc (.cells #[.int .i64 0,.int .i64 0,.int .u64 0,.string ByteArray.empty,.int .i64 0] 194))
  generalize (w.alloc (.cells #[.int .i64 (vk v),.int .i64 (vi v),.int .u64 0,.string ByteArray.empty,aG tb v] 143)).alloc (.cells #[.int .i64 0,.int .i64 0,.int .u64 0,.string ByteArray.empty,.int .i64 0] 194)=w3 at *
  generalize hX:w.heap.size=X at *
  have x0:w3.cell? ⟨X,0,none⟩=some (.int .i64 (vk v)):=HX.o.cell (j:=0) (by omega)
  have x1:w3.cell? ⟨X,1,none⟩=some (.int .i64 (vi v)):=HX.o.cell (j:=1) (by omega)
  have x2:w3.cell? ⟨X,2,none⟩=some (.int .u64 0):=HX.o.cell (j:=2) (by omega)
  have x3:w3.cell? ⟨X,3,none⟩=some (.string ByteArray.empty):=HX.o.cell (j:=3) (by omega)
  have y0:=HZ.o.cell (j:=0) (by omega)
  have y1:=HZ.o.cell (j:=1) (by omega)
  have y2:=HZ.o.cell (j:=2) (by omega)
  have y3:=HZ.o.cell (j:=3) (by omega)
  have y4:=HZ.o.cell (j:=4) (by omega)
  have z0:=HZ.o.Jv 0
  have z1:=HZ.o.Jv 1
  have z2:=HZ.o.Jv 2
  have z3:=HZ.o.Jv 3
  have z4:=HZ.o.Jv 4
  go_wp2
  obtain ⟨w7,h7⟩:∃ w7,w7=((((w3.setCell ⟨X+1,0,none⟩ (.int .i64 (vk v))).setCell ⟨X+1,1,none⟩ (.int .i64 (vi v))).setCell ⟨X+1,2,none⟩ (.int .u64 0)).setCell ⟨X+1,3,none⟩ (.string ByteArray.empty)).setCell ⟨X+1,4,none⟩ (.int .i64 0):=⟨_,rfl⟩
  have HE:=ah (tV HZ.o (Nat.le_of_lt HZ.o.lt) HB.o h7)
  rw [<-h7]
  clear h7
  have q0:w7.cell? ⟨X+1,0,none⟩=some (.int .i64 (vk v)):=HE.o.1.cell (j:=0) (by omega)
  have q1:w7.cell? ⟨X+1,1,none⟩=some (.int .i64 (vi v)):=HE.o.1.cell (j:=1) (by omega)
  have q2:w7.cell? ⟨X+1,2,none⟩=some (.int .u64 0):=HE.o.1.cell (j:=2) (by omega)
  have q3:w7.cell? ⟨X+1,3,none⟩=some (.string ByteArray.empty):=HE.o.1.cell (j:=3) (by omega)
  have q4:w7.cell? ⟨X+1,4,none⟩=some (.int .i64 0):=HE.o.1.cell (j:=4) (by omega)
  refine bodyPost_ret (v:=iE v) ?_ rfl ⟨rfl,by rw [hX];exact HE.o.2⟩
  rw [HPK.o]
  simp [results,Tryz.results122,go_sem,q0,q1,q2,q3,q4]
 |true=>
  obtain ⟨n,rfl⟩:=Dp h5
  have hc:=ht n rfl
  have hcl:=kM hc
  have HTB:=ah (HB.o.cell (p:=⟨tb n,1,none⟩) hcl|>.trans hc)
  have hm1:=fK (tb n)
  have HHD:=ah (fun w9=>d_ w9 (tb n))
  clear ht h5 hc hcl
  go_enter Tryz.func122,Tryz.ntmps122
  go_upto_region 1 with (fail)
  change Code.wp _ _ _ _ ((w.alloc (.cells #[.int .i64 (vk (some (.inr n):HV)),.int .i64 (vi (some (.inr n):HV)),.int .u64 0,.string ByteArray.empty,aG tb (some (.inr n):HV)] 143)).alloc (.cells #[.int .i64 0,.int .i64 0,.int .u64 0,.string ByteArray.empty,.int .i64 0] 194))
  generalize (w.alloc (.cells #[.int .i64 (vk (some (.inr n):HV)),.int .i64 (vi (some (.inr n):HV)),.int .u64 0,.string ByteArray.empty,aG tb (some (.inr n):HV)] 143)).alloc (.cells #[.int .i64 0,.int .i64 0,.int .u64 0,.string ByteArray.empty,.int .i64 0] 194)=w3 at *
  generalize hX:w.heap.size=X at *
  have x0:w3.cell? ⟨X,0,none⟩=some (.int .i64 5):=HX.o.cell (j:=0) (by omega)
  have x1:w3.cell? ⟨X,1,none⟩=some (.int .i64 0):=HX.o.cell (j:=1) (by omega)
  have x2:w3.cell? ⟨X,2,none⟩=some (.int .u64 0):=HX.o.cell (j:=2) (by omega)
  have x3:w3.cell? ⟨X,3,none⟩=some (.string ByteArray.empty):=HX.o.cell (j:=3) (by omega)
  have x4:w3.cell? ⟨X,4,none⟩=some (.iface 127 (.pointer (some ⟨tb n,0,none⟩))):=HX.o.cell (j:=4) (by omega)
  have t1:=HTB.o
  have y0:=HZ.o.cell (j:=0) (by omega)
  have y1:=HZ.o.cell (j:=1) (by omega)
  have y2:=HZ.o.cell (j:=2) (by omega)
  have y3:=HZ.o.cell (j:=3) (by omega)
  have y4:=HZ.o.cell (j:=4) (by omega)
  have z0:=HZ.o.Jv 0
  have z1:=HZ.o.Jv 1
  have z2:=HZ.o.Jv 2
  have z3:=HZ.o.Jv 3
  have z4:=HZ.o.Jv 4
  go_wp2_with fail
  go_region_with (go_at_call 181;refine (HHD.o _).mono ?_;rintro e9 w9 ⟨rfl,rfl⟩)
  all_goals
   obtain ⟨w7,h7⟩:∃ w7,w7=((((w3.setCell ⟨X+1,0,none⟩ (.int .i64 5)).setCell ⟨X+1,1,none⟩ (.int .i64 0)).setCell ⟨X+1,2,none⟩ (.int .u64 0)).setCell ⟨X+1,3,none⟩ (.string ByteArray.empty)).setCell ⟨X+1,4,none⟩ (.int .i64 (n:Int)):=⟨_,rfl⟩
   have HE:=ah (tV HZ.o (Nat.le_of_lt HZ.o.lt) HB.o h7)
   rw [<-h7]
   clear h7
   have HE2:=ah (And.intro (HE.o.1.keep (Keeps.of ((Below.refl w7.heap.size w7).drew) (Nat.le_refl _) (fun _=>False)) (fun x=>x)) HE.o.2.drew)
   generalize w7.drew=w8 at *
   go_wp2
   have q0:w8.cell? ⟨X+1,0,none⟩=some (.int .i64 5):=HE2.o.1.cell (j:=0) (by omega)
   have q1:w8.cell? ⟨X+1,1,none⟩=some (.int .i64 0):=HE2.o.1.cell (j:=1) (by omega)
   have q2:w8.cell? ⟨X+1,2,none⟩=some (.int .u64 0):=HE2.o.1.cell (j:=2) (by omega)
   have q3:w8.cell? ⟨X+1,3,none⟩=some (.string ByteArray.empty):=HE2.o.1.cell (j:=3) (by omega)
   have q4:w8.cell? ⟨X+1,4,none⟩=some (.int .i64 (n:Int)):=HE2.o.1.cell (j:=4) (by omega)
   refine bodyPost_ret (v:=iE (some (.inr n))) ?_ rfl ⟨rfl,by rw [hX];exact HE2.o.2⟩
   show _=_
   simp [results,Tryz.results122,go_sem,q0,q1,q2,q3,q4,iE,vk,vi,vr]
end
section
variable {G:Gh} {K:Act->World->Prop} {L:PM} {Q:Exit->Act->World->Prop} {S:Nat->Prop} {a:Act} {base i n:Nat} {e:En} {h:Hp} {o:Ob} {w:World}
attribute [local go_sem] bD
theorem fG {w:World} {o:Oper} {K:Act->World->Prop} {Q:Exit->Act->World->Prop} (x:Operand)
 (ho:o.op=.call { callee:=.value (.func 122),args:=#[x],argTypes:=#[143] }) (tb:Nat->Nat) (v:HV) (hx:a.eval x=.agg #[.int .i64 (vk v),.int .i64 (vi v),.int .u64 0,.string ByteArray.empty,aG tb v])
 (ht:∀ n,v=some (.inr n)->w.cell? ⟨tb n,1,none⟩=some (.int .i64 (n:Int)))
 (h:∀ w',Below w.heap.size w w'->K (a.put o.dst (iE v)) w'):Oper.wp Tryz.prog o a w K Q:=by
 unfold Oper.wp
 have hf:a.eval (.func 122)=.func (.func 122) #[] #[]:=rfl
 generalize a.eval=ev at hx hf ⊢
 simp [execOp,ho,resolve,invoke,hx,hf,go_sem]
 refine (wC w tb v ht).mono ?_
 rintro e w' ⟨rfl,hb⟩
 exact h w' hb
theorem yR {o:Oper} (m x:Operand)
 (ho:o.op=.call { callee:=.builtin .delete,args:=#[m,x],argTypes:=#[132,194] }) (mv:Value) (es:List En) (i:Nat) (e:En) (hm:a.eval m=mv) (hx:a.eval x=iE e.1) (hmp:kR w mv es) (hi:es[i]?=some e)
 (h:∀ w',kR w' mv (es.set i (none,e.2))->Keeps w w' (fun b=>bJ mv=some b)->w'.heap.size=w.heap.size->K (a.put o.dst (.tuple #[])) w'):Oper.wp Tryz.prog o a w K Q:=by
 obtain ⟨w1,h1,h2,h3,h4⟩:=BZ hmp hi o.type
 unfold Oper.wp execOp
 simp only [ho,resolve,invoke,builtin,Sem.run_bind,Sem.run_pure,Result.andThen_ok,List.map_toArray,List.map_cons,List.map_nil,hm,hx,h1]
 exact h w1 h2 h3 h4
theorem uJ (a:JR base S h G L w) (ho:h.ob n=some o) (hi:o.es[i]?=some e) (hlen:o.es.length<=5000) (hv:fO h e.1):
 Calls Tryz.prog 137 #[.pointer (some ⟨L.tb n,0,none⟩),.int .i64 (i:Int)] w fun e' w'=>e'=.returned (.tuple #[])/\JR base S (h.ents n (o.es.set i (none,e.2))) G L w'/\Keeps w w' S:=by
 have hil:i<o.es.length:=(List.getElem?_eq_some_iff.1 hi).1
 have hili:(i:Int)<(o.es.length:Int):=by omega
 obtain ⟨A,cap,hev,hcap,hent⟩:=a.ents ho
 obtain ⟨g,rfl,hglt,hcells⟩:=hent i e hi
 have htl:=(a.ob n o ho).lt
 have HT:=ah (fun (w':World) (hb:Below w.heap.size w w') (m:Nat) (hm:e.1=some (.inr m))=>(show w'.cell? ⟨L.tb m,1,none⟩=some (.int .i64 (m:Int)) by
  obtain ⟨om,hom⟩:=hv m hm
  exact ((a.low hb).ob m om hom).cell (j:=1) (by omega)))
 have HM:=ah (fun (w':World) (hb:Below w.heap.size w w')=>(a.low hb).mp n o ho)
 have hgt:g≠L.tb n:=fun c=>(au (a.en n o ho) (g:=g) (by rw [hev];simp [Value.ownBlock])).apart (a.ob n o ho) (by decide) c
 have HMg:Hq (bJ (L.mp n)≠some g/\bJ (L.mp n)≠some (L.tb n)):=ah ⟨(a.mp n o ho).apart (au (a.en n o ho) (g:=g) (by rw [hev];simp [Value.ownBlock])),(a.mp n o ho).apart (a.ob n o ho)⟩
 have c7:w.cell? ⟨L.tb n,7,none⟩=some (.slice (some ⟨g,0,none⟩) o.es.length cap):=by rw [<-hev];exact (a.ob n o ho).cell (j:=7) (by omega)
 have c8:w.cell? ⟨L.tb n,8,none⟩=some (L.mp n):=(a.ob n o ho).cell (j:=8) (by omega)
 have d0:=hcells 0 _ rfl
 have d1:=hcells 1 _ rfl
 have d2:=hcells 2 _ rfl
 have d3:=hcells 3 _ rfl
 have d4:=hcells 4 _ rfl
 simp only [Nat.add_zero] at d0
 have HA:=ah a
 have HO:=ah ho
 have HI:=ah hi
 have HE:=ah hev
 have HC:=ah hcells
 have HV:=ah hv
 clear a ho hi hev hcells hent hv
 go_enter Tryz.func137,Tryz.ntmps137
 go_wp2_with fail
 go_region_held3 (fun w'=>w'.cell? ⟨L.tb n,7,none⟩=some (.slice (some ⟨g,0,none⟩) o.es.length cap)/\w'.cell? ⟨L.tb n,8,none⟩=some (L.mp n)/\w'.cell? ⟨g,i*10,none⟩=some (.int .i64 (vk e.1))/\w'.cell? ⟨g,i*10+1,none⟩=some (.int .i64 (vi e.1))/\w'.cell? ⟨g,i*10+2,none⟩=some (.int .u64 0)/\w'.cell? ⟨g,i*10+3,none⟩=some (.string ByteArray.empty)/\w'.cell? ⟨g,i*10+4,none⟩=some (aG L.tb e.1)) (go_keep)
  (first
    |(refine fG (.tmp 15) rfl L.tb e.1 rfl (HT.o _ (ay (Below.refl _ _) _)) ?_
      intro w9 hb9x
      have hb9:Below w.heap.size w w9:=(ay (Below.refl w.heap.size w) _).trans hb9x
      have HB9:=ah hb9
      have t0:=(hb9.cell (p:=⟨L.tb n,7,none⟩) htl).trans c7
      have t1:=(hb9.cell (p:=⟨L.tb n,8,none⟩) htl).trans c8
      have t2:=(hb9.cell (p:=⟨g,i*10,none⟩) hglt).trans d0
      have t3:=(hb9.cell (p:=⟨g,i*10+1,none⟩) hglt).trans d1
      have t4:=(hb9.cell (p:=⟨g,i*10+2,none⟩) hglt).trans d2
      have t5:=(hb9.cell (p:=⟨g,i*10+3,none⟩) hglt).trans d3
      have t6:=(hb9.cell (p:=⟨g,i*10+4,none⟩) hglt).trans d4
      clear hb9 hb9x)
    |(refine yR (.tmp 7) (.tmp 16) rfl (L.mp n) o.es i e rfl rfl (HM.o _ HB9.o) HI.out ?_
      intro w8 hm8 hk8 hs8
      have u0:=(World.cell?_of_block (a:=⟨L.tb n,7,none⟩) (hk8.block _ (Nat.lt_of_lt_of_le htl HB9.o.size) HMg.o.2)).trans t0
      have u1:=(World.cell?_of_block (a:=⟨L.tb n,8,none⟩) (hk8.block _ (Nat.lt_of_lt_of_le htl HB9.o.size) HMg.o.2)).trans t1
      have u2:=(World.cell?_of_block (a:=⟨g,i*10,none⟩) (hk8.block _ (Nat.lt_of_lt_of_le hglt HB9.o.size) HMg.o.1)).trans t2
      have u3:=(World.cell?_of_block (a:=⟨g,i*10+1,none⟩) (hk8.block _ (Nat.lt_of_lt_of_le hglt HB9.o.size) HMg.o.1)).trans t3
      have u4:=(World.cell?_of_block (a:=⟨g,i*10+2,none⟩) (hk8.block _ (Nat.lt_of_lt_of_le hglt HB9.o.size) HMg.o.1)).trans t4
      have u5:=(World.cell?_of_block (a:=⟨g,i*10+3,none⟩) (hk8.block _ (Nat.lt_of_lt_of_le hglt HB9.o.size) HMg.o.1)).trans t5
      have u6:=(World.cell?_of_block (a:=⟨g,i*10+4,none⟩) (hk8.block _ (Nat.lt_of_lt_of_le hglt HB9.o.size) HMg.o.1)).trans t6
      have H8:=ah (show kR w8 (L.mp n) (o.es.set i (none,e.2))/\Keeps w w8 (fun b=>bJ (L.mp n)=some b) from ⟨hm8,(Keeps.of HB9.o (Nat.le_refl _) _).trans hk8⟩)
      clear hm8 hk8 hs8))
 have hrg:=au (HA.o.en n o HO.o) (g:=g) (by rw [HE.o];simp [Value.ownBlock])
 have zz:∀ j,w8.frozen? ⟨g,j,none⟩=false:=fun j=>(hrg.keep H8.o.2 HMg.o.1).Jv j
 have HTK:=ah (HA.o.tkey HO.o HI.out HE.o H8.o.2 H8.o.1)
 clear hrg c7 c8 d0 d1 d2 d3 d4
 go_wp2
 go_end0
 exact ⟨rfl,HTK.o.1,HTK.o.2⟩
end
end Go.Proofs.YtedpifhlffcmkaaGreatDoor
