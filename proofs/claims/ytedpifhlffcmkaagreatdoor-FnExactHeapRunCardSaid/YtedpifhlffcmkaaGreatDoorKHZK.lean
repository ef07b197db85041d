import Derived.Test.YtedpifhlffcmkaaGreatDoorKHZH
import Derived.Test.YtedpifhlffcmkaaGreatDoorKHST
namespace Go.Proofs.YtedpifhlffcmkaaGreatDoor
open Go Go.RowKit
set_option maxHeartbeats 6400000
set_option maxRecDepth 100000
set_option linter.unusedVariables false
section
variable {G:Gh} {H base i m n q t:Nat} {L:PM} {S:Nat->Prop} {es:List En} {f:Nat->Value} {h:Hp} {mv:Value} {o:Ob} {sz:Int} {tb:Nat->Nat} {w w' w1 w2 w4 w4' w5:World} {x y:List Nat}
attribute [local go_sem] bD
structure GY (h:Hp) (o:Ob) (k:HV):Prop where
 kk:mD k
 ks:k.isSome=true
 kv:fO h k
 len:o.es.length<=5000
 ev:∀ e∈o.es,fO h e.1
 kn:∀ e∈o.es,e.2.isSome=true->e.1.isSome=true
 JQ:h.bytes<=300000
 cr:h.D6<=300000
 ag:h.again.length<=20000
 fr:40*o.es.length<=h.bytes
theorem wV (h:Hp) (n:Nat) (f:Ob->Ob) (m:Nat):(h.upd n f).Lv m↔h.Lv m:=by
 unfold Hp.Lv
 rw [Hp.Ed]
 split
 ·cases h.ob m<;>simp
 ·exact Iff.rfl
theorem JR.Iy (a:JR base S h G L w) (ho:h.ob n=some o) (hm:m=o.es.length) (hb:Below w.heap.size w w1) (hw:w4=(w1.setCell ⟨L.tb n,2,none⟩ (.int .i64 ((40+40*m:Nat):Int))).setCell ⟨L.H,4,none⟩ (.int .i64 (h.bytes:Int))):JR base S h G L w4/\Keeps w w4 S:=by
 subst hm hw
 have a1:=a.low hb
 have b1:=a1.JE n 2 (.int .i64 ((40+40*o.es.length:Nat):Int)) (fun o'=>{ o' with es:=o.es }) (by decide) ho ⟨rfl,rfl⟩ (bK _ rfl rfl rfl rfl rfl rfl rfl rfl rfl rfl rfl rfl rfl)
 rw [show h.upd n (fun o'=>{ o' with es:=o.es })=h from Hp.EA ho] at b1
 have b2:=b1.1.num (h':=h) (G':=G) 4 (.int .i64 (h.bytes:Int)) (by decide) (fun _=>rfl) ⟨rfl,rfl,rfl,rfl,rfl,rfl,rfl⟩ ⟨rfl,rfl⟩ (aS _ rfl rfl rfl rfl rfl rfl rfl rfl rfl rfl rfl rfl rfl rfl rfl rfl rfl rfl rfl)
 exact ⟨b2.1,((Keeps.of hb (Nat.le_refl _) S).trans b1.2).trans b2.2⟩
theorem JL.off {ev:Value} (x:JL base tb t n o sz es ev mv w) (k:Keeps w w' (fun b=>b=H)) (hr:aD w 77 H 19 f):JL base tb t n o sz es ev mv w':=
 ⟨x.r.keep k (fun c=>x.r.apart hr (by decide) c),aj x.e k (fun g hg c=>ak x.e hr (by decide) (c ▸ hg)),x.m.keep k (fun g hg c=>x.m.apart hr (c ▸ hg))⟩
theorem Ay (a:JR base S (h.wk x y) G L w2) (ho:h.ob n=some o) {k v:HV} {ev:Value} 
 (ht:JL base L.tb (L.tb n) n o ((40+40*o.es.length:Nat):Int) (aI o.es++[(k,v)]) ev mv w4) (hh:aD w4 77 L.H 19 f) (hf:∀ i,i<19->f i=if i=5 then .int .i64 ((h.D6:Int)+40) else iY (h.wk x y) G L i) (kk:Keeps w2 w4 (fun c=>c=L.H∨c=L.tb n∨(L.es n).ownBlock=some c∨bJ (L.mp n)=some c))
 (he:∀ g,ev.ownBlock=some g->(L.es n).ownBlock=some g∨w2.heap.size<=g) (hm:∀ g,bJ mv=some g->bJ (L.mp n)=some g∨w2.heap.size<=g) (hl:(aI o.es++[(k,v)]).length=q+1) (hq:(aI o.es).length=q) (hfr:40*o.es.length<=h.bytes) (hb:Below w4.heap.size w4 w4')
 (hw:w5=(w4'.setCell ⟨L.tb n,2,none⟩ (.int .i64 (((40+40*o.es.length:Nat):Int)+(((q:Int)+1-(o.es.length:Int))*40)))).setCell ⟨L.H,4,none⟩ (.int .i64 ((h.bytes:Int)+(((q:Int)+1-(o.es.length:Int))*40)))):
 JR base S (Hp.wk { h.upd n (fun o=>{ o with es:=aI o.es++[(k,v)] }) with bytes:=h.bytes-40*(o.es.length-(aI o.es).length)+40,D6:=h.D6+40 } x y) G (L.Jj n ev mv) w5/\Keeps w2 w5 S/\w5.cell? ⟨L.tb n,7,none⟩=some ev:=by
 have htd:=jH o.es
 have k0:=fun S=>Keeps.of hb (Nat.le_refl _) S
 have ht':=ht.low hb
 have hh':=hh.keep (k0 fun _=>False) id
 have e1:(((40+40*o.es.length:Nat):Int)+(((q:Int)+1-(o.es.length:Int))*40))=((40+40*(q+1):Nat):Int):=by omega
 have e2:((h.bytes:Int)+(((q:Int)+1-(o.es.length:Int))*40))=((h.bytes-40*(o.es.length-(aI o.es).length)+40:Nat):Int):=by omega
 rw [e1,e2] at hw
 subst hw
 have kt:Keeps w4' (w4'.setCell ⟨L.tb n,2,none⟩ (.int .i64 ((40+40*(q+1):Nat):Int))) (fun c=>c=L.tb n):=Keeps.setCell (S:=fun c=>c=L.tb n) (Keeps.refl w4' _) rfl _
 have kh:Keeps (w4'.setCell ⟨L.tb n,2,none⟩ (.int .i64 ((40+40*(q+1):Nat):Int))) ((w4'.setCell ⟨L.tb n,2,none⟩ (.int .i64 ((40+40*(q+1):Nat):Int))).setCell ⟨L.H,4,none⟩ (.int .i64 ((h.bytes-40*(o.es.length-(aI o.es).length)+40:Nat):Int))) (fun c=>c=L.H):=Keeps.setCell (S:=fun c=>c=L.H) (Keeps.refl _ _) rfl _
 have hne:L.tb n≠L.H:=fun c=>ht'.r.apart hh' (by decide) c
 have r1:aD ((w4'.setCell ⟨L.tb n,2,none⟩ (.int .i64 ((40+40*(q+1):Nat):Int))).setCell ⟨L.H,4,none⟩ (.int .i64 ((h.bytes-40*(o.es.length-(aI o.es).length)+40:Nat):Int))) 136 (L.tb n) 13 (lT { o with es:=aI o.es++[(k,v)] } n ev mv):=by
  refine ((ht'.r.set (j:=2) (by omega) _).keep kh hne).congr (fun j hj=>?_)
  refine bK (fun j=>(if j=2 then (.int .i64 ((40+40*(q+1):Nat):Int):Value) else ql o n _ (aI o.es++[(k,v)]) ev mv j)=lT { o with es:=aI o.es++[(k,v)] } n ev mv j) rfl rfl ?_ rfl rfl rfl rfl rfl rfl rfl rfl rfl rfl j hj
  simp [lT,hq]
 have c7:World.cell? ((w4'.setCell ⟨L.tb n,2,none⟩ (.int .i64 ((40+40*(q+1):Nat):Int))).setCell ⟨L.H,4,none⟩ (.int .i64 ((h.bytes-40*(o.es.length-(aI o.es).length)+40:Nat):Int))) ⟨L.tb n,7,none⟩=some ev:=r1.cell (j:=7) (by omega)
 have r2:aD ((w4'.setCell ⟨L.tb n,2,none⟩ (.int .i64 ((40+40*(q+1):Nat):Int))).setCell ⟨L.H,4,none⟩ (.int .i64 ((h.bytes-40*(o.es.length-(aI o.es).length)+40:Nat):Int))) 77 L.H 19 (iY (Hp.wk { h.upd n (fun o=>{ o with es:=aI o.es++[(k,v)] }) with bytes:=h.bytes-40*(o.es.length-(aI o.es).length)+40,D6:=h.D6+40 } x y) G L):=by
  refine ((hh'.keep kt (fun c=>hne c.symm)).set (j:=4) (by omega) _).congr (fun j hj=>?_)
  rw [hf j hj]
  have hu:(h.upd n (fun o=>{ o with es:=aI o.es++[(k,v)] })).objs.length=h.objs.length:=h.El n _
  refine aS (fun j=>(if j=4 then (.int .i64 ((h.bytes-40*(o.es.length-(aI o.es).length)+40:Nat):Int):Value) else if j=5 then .int .i64 ((h.D6:Int)+40) else iY (h.wk x y) G L j)=iY (Hp.wk { h.upd n (fun o=>{ o with es:=aI o.es++[(k,v)] }) with bytes:=h.bytes-40*(o.es.length-(aI o.es).length)+40,D6:=h.D6+40 } x y) G L j) rfl rfl ?_ rfl rfl rfl rfl rfl rfl rfl rfl rfl rfl rfl rfl rfl rfl rfl rfl j hj
  simp only [iY,Hp.wk,hu]
  rfl
 have kall:Keeps w2 ((w4'.setCell ⟨L.tb n,2,none⟩ (.int .i64 ((40+40*(q+1):Nat):Int))).setCell ⟨L.H,4,none⟩ (.int .i64 ((h.bytes-40*(o.es.length-(aI o.es).length)+40:Nat):Int))) (fun c=>c=L.H∨c=L.tb n∨(L.es n).ownBlock=some c∨bJ (L.mp n)=some c):=((kk.trans (k0 _)).trans (kt.mono (fun c e=>Or.inr (Or.inl e)))).trans (kh.mono (fun c e=>Or.inl e))
 have r3:=aj (aj ht'.e kt (fun g hg c=>ak ht'.e ht'.r (by decide) (c ▸ hg))) kh (fun g hg c=>ak ht'.e hh' (by decide) (c ▸ hg))
 have r4:=(ht'.m.keep kt (fun g hg c=>ht'.m.apart ht'.r (c ▸ hg))).keep kh (fun g hg c=>ht'.m.apart hh' (c ▸ hg))
 have:=a.IB (h':=Hp.wk { h.upd n (fun o=>{ o with es:=aI o.es++[(k,v)] }) with bytes:=h.bytes-40*(o.es.length-(aI o.es).length)+40,D6:=h.D6+40 } x y) (fun o=>{ o with es:=aI o.es++[(k,v)] }) ho ev mv kall r2 (fun m=>rfl) (fun j hj=>by rcases hj with rfl|rfl|rfl|rfl|rfl|rfl|rfl|rfl|rfl<;>rfl) r1 r3 r4 he hm
 exact ⟨this.1,this.2,c7⟩
theorem BD (a:JR base S (h.wk x y) G L w) (r:PR h x y G) (ho:h.ob n=some o) {k v:HV} (po:GY h o k) (hf:jJ o.es k=none) (hv:v.isNone=true):
 Calls Tryz.prog 73 #[.pointer (some ⟨L.H,0,none⟩),.pointer (some ⟨L.tb n,0,none⟩),.agg #[.int .i64 (vk k),.int .i64 (vi k),.int .u64 0,.string ByteArray.empty,aG L.tb k],.agg #[.int .i64 (vk v),.int .i64 (vi v),.int .u64 0,.string ByteArray.empty,aG L.tb v]] w fun e' w'=>e'=.returned (.tuple #[])/\∃ L',Jh L L'/\PS base S (h.put n k v) L' w'/\Keeps w w' S:=by
 have HPT:Hq (h.put n k v=h):=ah (by unfold Hp.put;rw [ho];simp only;rw [hf];simp only;rw [if_pos hv])
 have HR:=ah r
 clear r
 have HX:=ah ((bX w L.tb k).keep (Keeps.of (aJ (w.alloc (.cells #[.int .i64 (vk k),.int .i64 (vi k),.int .u64 0,.string ByteArray.empty,aG L.tb k] 143)) (.cells #[.int .i64 (vk v),.int .i64 (vi v),.int .u64 0,.string ByteArray.empty,aG L.tb v] 143)) (Nat.le_refl _) (fun _=>False)) (fun x=>x))
 have HY:=ah (bX (w.alloc (.cells #[.int .i64 (vk k),.int .i64 (vi k),.int .u64 0,.string ByteArray.empty,aG L.tb k] 143)) L.tb v)
 have HB:=ah ((aJ w (.cells #[.int .i64 (vk k),.int .i64 (vi k),.int .u64 0,.string ByteArray.empty,aG L.tb k] 143)).trans ((aJ (w.alloc (.cells #[.int .i64 (vk k),.int .i64 (vi k),.int .u64 0,.string ByteArray.empty,aG L.tb k] 143)) (.cells #[.int .i64 (vk v),.int .i64 (vi v),.int .u64 0,.string ByteArray.empty,aG L.tb v] 143)).mono (aJ w (.cells #[.int .i64 (vk k),.int .i64 (vi k),.int .u64 0,.string ByteArray.empty,aG L.tb k] 143)).size))
 have hZ:(w.alloc (.cells #[.int .i64 (vk k),.int .i64 (vi k),.int .u64 0,.string ByteArray.empty,aG L.tb k] 143)).heap.size=w.heap.size+1:=Array.size_push _
 rw [hZ] at HY
 clear hZ
 have HA:=ah (a.low HB.o)
 have HO:=ah ho
 have HPO:=ah po
 have HF:=ah hf
 have hle9:=po.len
 clear a ho po hf
 go_enter Tryz.func73,Tryz.ntmps73
 go_upto_region 1 with (fail)
 change Code.wp _ _ _ _ ((w.alloc (.cells #[.int .i64 (vk k),.int .i64 (vi k),.int .u64 0,.string ByteArray.empty,aG L.tb k] 143)).alloc (.cells #[.int .i64 (vk v),.int .i64 (vi v),.int .u64 0,.string ByteArray.empty,aG L.tb v] 143))
 generalize (w.alloc (.cells #[.int .i64 (vk k),.int .i64 (vi k),.int .u64 0,.string ByteArray.empty,aG L.tb k] 143)).alloc (.cells #[.int .i64 (vk v),.int .i64 (vi v),.int .u64 0,.string ByteArray.empty,aG L.tb v] 143)=w2 at *
 generalize hX:w.heap.size=X at *
 have HXE:=ah hX
 clear hX
 obtain ⟨A,cap,hev,hcap,-⟩:=HA.o.ents HO.o
 have c7:w2.cell? ⟨L.tb n,7,none⟩=some (.slice A o.es.length cap):=by rw [<-hev];exact (HA.o.ob n o HO.o).cell (j:=7) (by omega)
 have HEV:=ah hev
 clear hev hcap
 have x0:w2.cell? ⟨X,0,none⟩=some (.int .i64 (vk k)):=HX.o.cell (j:=0) (by omega)
 have x1:w2.cell? ⟨X,1,none⟩=some (.int .i64 (vi k)):=HX.o.cell (j:=1) (by omega)
 have x2:w2.cell? ⟨X,2,none⟩=some (.int .u64 0):=HX.o.cell (j:=2) (by omega)
 have x3:w2.cell? ⟨X,3,none⟩=some (.string ByteArray.empty):=HX.o.cell (j:=3) (by omega)
 have x4:w2.cell? ⟨X,4,none⟩=some (aG L.tb k):=HX.o.cell (j:=4) (by omega)
 have y0:w2.cell? ⟨X+1,0,none⟩=some (.int .i64 (vk v)):=HY.o.cell (j:=0) (by omega)
 have y1:w2.cell? ⟨X+1,1,none⟩=some (.int .i64 (vi v)):=HY.o.cell (j:=1) (by omega)
 have y2:w2.cell? ⟨X+1,2,none⟩=some (.int .u64 0):=HY.o.cell (j:=2) (by omega)
 have y3:w2.cell? ⟨X+1,3,none⟩=some (.string ByteArray.empty):=HY.o.cell (j:=3) (by omega)
 have y4:w2.cell? ⟨X+1,4,none⟩=some (aG L.tb v):=HY.o.cell (j:=4) (by omega)
 have HST:=ah (zy (HA.o.JA HO.o) (k:=k) (v:=v) HPO.o.kk HPO.o.ks (HA.o.hd HPO.o.kv) HF.o hv)
 clear hv
 go_wp2_with fail
 refine HST.o.mono ?_
 rintro e3 w3 ⟨rfl,hb3⟩
 have HB3:=ah hb3
 clear hb3 c7 x0 x1 x2 x3 x4 y0 y1 y2 y3 y4
 go_wp2
 ((try simp only [Exit.inBlock,Exit.then]);refine bodyPost_ret (results_none rfl _ _ _) rfl ?_)
 exact ⟨rfl,L,Jh.refl L,by rw [HPT.o];exact ⟨x,y,G,HA.o.low HB3.o,HR.o⟩,(Keeps.of HB.o (Nat.le_of_eq HXE.o) S).trans (Keeps.of HB3.o (Nat.le_refl _) S)⟩
theorem Cn (a:JR base S (h.wk x y) G L w) (r:PR h x y G) (ho:h.ob n=some o) {k v:HV} (po:GY h o k) (hf:jJ o.es k=some i):
 Calls Tryz.prog 73 #[.pointer (some ⟨L.H,0,none⟩),.pointer (some ⟨L.tb n,0,none⟩),.agg #[.int .i64 (vk k),.int .i64 (vi k),.int .u64 0,.string ByteArray.empty,aG L.tb k],.agg #[.int .i64 (vk v),.int .i64 (vi v),.int .u64 0,.string ByteArray.empty,aG L.tb v]] w fun e' w'=>e'=.returned (.tuple #[])/\∃ L',Jh L L'/\PS base S (h.put n k v) L' w'/\Keeps w w' S:=by
 have HPT:Hq (h.put n k v=(h.ents n (o.es.set i (k,v))).back n):=ah (by
  unfold Hp.put;rw [ho];simp only;rw [hf];simp only
  obtain ⟨e,he,hek⟩:=rY hf
  rw [qm ho he,hek])
 have HR:=ah r
 clear r
 have HX:=ah ((bX w L.tb k).keep (Keeps.of (aJ (w.alloc (.cells #[.int .i64 (vk k),.int .i64 (vi k),.int .u64 0,.string ByteArray.empty,aG L.tb k] 143)) (.cells #[.int .i64 (vk v),.int .i64 (vi v),.int .u64 0,.string ByteArray.empty,aG L.tb v] 143)) (Nat.le_refl _) (fun _=>False)) (fun x=>x))
 have HY:=ah (bX (w.alloc (.cells #[.int .i64 (vk k),.int .i64 (vi k),.int .u64 0,.string ByteArray.empty,aG L.tb k] 143)) L.tb v)
 have HB:=ah ((aJ w (.cells #[.int .i64 (vk k),.int .i64 (vi k),.int .u64 0,.string ByteArray.empty,aG L.tb k] 143)).trans ((aJ (w.alloc (.cells #[.int .i64 (vk k),.int .i64 (vi k),.int .u64 0,.string ByteArray.empty,aG L.tb k] 143)) (.cells #[.int .i64 (vk v),.int .i64 (vi v),.int .u64 0,.string ByteArray.empty,aG L.tb v] 143)).mono (aJ w (.cells #[.int .i64 (vk k),.int .i64 (vi k),.int .u64 0,.string ByteArray.empty,aG L.tb k] 143)).size))
 have hZ:(w.alloc (.cells #[.int .i64 (vk k),.int .i64 (vi k),.int .u64 0,.string ByteArray.empty,aG L.tb k] 143)).heap.size=w.heap.size+1:=Array.size_push _
 rw [hZ] at HY
 clear hZ
 have HA:=ah (a.low HB.o)
 have HO:=ah ho
 have HPO:=ah po
 have HF:=ah hf
 have hle9:=po.len
 clear a ho po hf
 go_enter Tryz.func73,Tryz.ntmps73
 go_upto_region 1 with (fail)
 change Code.wp _ _ _ _ ((w.alloc (.cells #[.int .i64 (vk k),.int .i64 (vi k),.int .u64 0,.string ByteArray.empty,aG L.tb k] 143)).alloc (.cells #[.int .i64 (vk v),.int .i64 (vi v),.int .u64 0,.string ByteArray.empty,aG L.tb v] 143))
 generalize (w.alloc (.cells #[.int .i64 (vk k),.int .i64 (vi k),.int .u64 0,.string ByteArray.empty,aG L.tb k] 143)).alloc (.cells #[.int .i64 (vk v),.int .i64 (vi v),.int .u64 0,.string ByteArray.empty,aG L.tb v] 143)=w2 at *
 generalize hX:w.heap.size=X at *
 have HXE:=ah hX
 clear hX
 obtain ⟨A,cap,hev,hcap,-⟩:=HA.o.ents HO.o
 have c7:w2.cell? ⟨L.tb n,7,none⟩=some (.slice A o.es.length cap):=by rw [<-hev];exact (HA.o.ob n o HO.o).cell (j:=7) (by omega)
 have HEV:=ah hev
 clear hev hcap
 have x0:w2.cell? ⟨X,0,none⟩=some (.int .i64 (vk k)):=HX.o.cell (j:=0) (by omega)
 have x1:w2.cell? ⟨X,1,none⟩=some (.int .i64 (vi k)):=HX.o.cell (j:=1) (by omega)
 have x2:w2.cell? ⟨X,2,none⟩=some (.int .u64 0):=HX.o.cell (j:=2) (by omega)
 have x3:w2.cell? ⟨X,3,none⟩=some (.string ByteArray.empty):=HX.o.cell (j:=3) (by omega)
 have x4:w2.cell? ⟨X,4,none⟩=some (aG L.tb k):=HX.o.cell (j:=4) (by omega)
 have y0:w2.cell? ⟨X+1,0,none⟩=some (.int .i64 (vk v)):=HY.o.cell (j:=0) (by omega)
 have y1:w2.cell? ⟨X+1,1,none⟩=some (.int .i64 (vi v)):=HY.o.cell (j:=1) (by omega)
 have y2:w2.cell? ⟨X+1,2,none⟩=some (.int .u64 0):=HY.o.cell (j:=2) (by omega)
 have y3:w2.cell? ⟨X+1,3,none⟩=some (.string ByteArray.empty):=HY.o.cell (j:=3) (by omega)
 have y4:w2.cell? ⟨X+1,4,none⟩=some (aG L.tb v):=HY.o.cell (j:=4) (by omega)
 have HST:=ah (zI HA.o HO.o (k:=k) (v:=v) HPO.o.kk HPO.o.ks HPO.o.kv HF.o HPO.o.len)
 go_wp2_with fail
 refine HST.o.mono ?_
 rintro e3 w3 ⟨rfl,ha3,hk3⟩
 have HA3:=ah (show JR base S ((h.ents n (o.es.set i (k,v))).wk x y) G L w3 from ha3)
 have HK3:=ah hk3
 have hoe:=Hp.Eu HO.o (o.es.set i (k,v))
 have HOE:=ah hoe
 have d7:w3.cell? ⟨L.tb n,7,none⟩=some (.slice A o.es.length cap):=by rw [<-HEV.o];exact (ha3.ob n _ hoe).cell (j:=7) (by omega)
 have d2:w3.cell? ⟨L.tb n,2,none⟩=some (.int .i64 ((40+40*o.es.length:Nat):Int)):=by
  have:=(ha3.ob n _ hoe).cell (j:=2) (by omega)
  rw [this]
  simp [lT]
 have d4:w3.cell? ⟨L.H,4,none⟩=some (.int .i64 (h.bytes:Int)):=ha3.hp.cell (j:=4) (by omega)
 have hne:L.tb n≠L.H:=fun c=>(ha3.ob n _ hoe).apart ha3.hp (by decide) c
 have hne':L.H≠L.tb n:=fun c=>hne c.symm
 have htl:=(ha3.ob n _ hoe).lt
 have hHl:=ha3.hp.lt
 have z2:=(ha3.ob n _ hoe).Jv 2
 have z4:=ha3.hp.Jv 4
 have hby:=HPO.o.JQ
 have HRS:=ah (fun (w':World) (hb:Below w3.heap.size w3 w')=>iI w' (L.tb n) L.H ((40+40*o.es.length:Nat):Int) (h.bytes:Int) 0 ((hb.cell (p:=⟨L.tb n,2,none⟩) htl).trans d2) ((hb.cell (p:=⟨L.H,4,none⟩) hHl).trans d4) ((hb.frozen (p:=⟨L.tb n,2,none⟩) htl).trans z2) ((hb.frozen (p:=⟨L.H,4,none⟩) hHl).trans z4) hne (by omega) (by omega) (by omega))
 simp only [Int.add_zero] at HRS
 clear ha3 hk3 hoe c7 x0 x1 x2 x3 x4 y0 y1 y2 y3 y4 z2 z4 d2 d4 hby
 go_wp2_with fail
 go_region_held3 (fun w'=>w'.cell? ⟨L.tb n,7,none⟩=some (.slice A o.es.length cap)) (go_keep)
  (first
    |(go_at_call 105
      refine (HRS.o _ (ay (Below.refl _ _) _)).mono ?_
      rintro e4 w4 ⟨rfl,hw4⟩
      have H4:=ah (HA3.o.Iy HOE.o (by simp) (ay (Below.refl _ _) _) hw4)
      have t7:w4.cell? ⟨L.tb n,7,none⟩=some (.slice A o.es.length cap):=by
       have:=(H4.o.1.ob n _ HOE.o).cell (j:=7) (by omega)
       rw [this]
       exact congrArg some HEV.o
      clear hw4)
    |fail)
 clear t7 d7
 have HP4:=ah (show PS base S (h.ents n (o.es.set i (k,v))) L w4 from ⟨x,y,G,H4.o.1,HR.o.same rfl rfl rfl rfl rfl (Hp.Ep h n _) (Ac h n _)⟩)
 have HBK:=ah (mZ HP4.o (n:=n) (o:={ o with es:=o.es.set i (k,v) }) HOE.o HPO.o.ag)
 go_wp2_with fail
 refine HBK.o.mono ?_
 rintro e5 w5 ⟨rfl,L5,hl5,hp5,hk5⟩
 have H5:=ah (And.intro hl5 (And.intro hp5 hk5))
 clear hl5 hp5 hk5
 go_wp2
 go_end0
 exact ⟨rfl,L5,H5.o.1.y,by rw [HPT.o];exact H5.o.2.1,(((Keeps.of HB.o (Nat.le_of_eq HXE.o) S).trans HK3.o).trans H4.o.2).trans H5.o.2.2⟩
theorem zX (a:JR base S (h.wk x y) G L w) (r:PR h x y G) (ho:h.ob n=some o) {k v:HV} (po:GY h o k) (hf:jJ o.es k=none) (hv:v.isNone=false):
 Calls Tryz.prog 73 #[.pointer (some ⟨L.H,0,none⟩),.pointer (some ⟨L.tb n,0,none⟩),.agg #[.int .i64 (vk k),.int .i64 (vi k),.int .u64 0,.string ByteArray.empty,aG L.tb k],.agg #[.int .i64 (vk v),.int .i64 (vi v),.int .u64 0,.string ByteArray.empty,aG L.tb v]] w fun e' w'=>e'=.returned (.tuple #[])/\∃ L',Jh L L'/\PS base S (h.put n k v) L' w'/\Keeps w w' S:=by
 have HPT:Hq (h.put n k v=h.Er n o k v):=ah (by unfold Hp.put;rw [ho];simp only;rw [hf];simp only;rw [if_neg (by rw [hv];simp)])
 have HR:=ah r
 clear r
 have HX:=ah ((bX w L.tb k).keep (Keeps.of (aJ (w.alloc (.cells #[.int .i64 (vk k),.int .i64 (vi k),.int .u64 0,.string ByteArray.empty,aG L.tb k] 143)) (.cells #[.int .i64 (vk v),.int .i64 (vi v),.int .u64 0,.string ByteArray.empty,aG L.tb v] 143)) (Nat.le_refl _) (fun _=>False)) (fun x=>x))
 have HY:=ah (bX (w.alloc (.cells #[.int .i64 (vk k),.int .i64 (vi k),.int .u64 0,.string ByteArray.empty,aG L.tb k] 143)) L.tb v)
 have HB:=ah ((aJ w (.cells #[.int .i64 (vk k),.int .i64 (vi k),.int .u64 0,.string ByteArray.empty,aG L.tb k] 143)).trans ((aJ (w.alloc (.cells #[.int .i64 (vk k),.int .i64 (vi k),.int .u64 0,.string ByteArray.empty,aG L.tb k] 143)) (.cells #[.int .i64 (vk v),.int .i64 (vi v),.int .u64 0,.string ByteArray.empty,aG L.tb v] 143)).mono (aJ w (.cells #[.int .i64 (vk k),.int .i64 (vi k),.int .u64 0,.string ByteArray.empty,aG L.tb k] 143)).size))
 have hZ:(w.alloc (.cells #[.int .i64 (vk k),.int .i64 (vi k),.int .u64 0,.string ByteArray.empty,aG L.tb k] 143)).heap.size=w.heap.size+1:=Array.size_push _
 rw [hZ] at HY
 clear hZ
 have HA:=ah (a.low HB.o)
 have HO:=ah ho
 have HPO:=ah po
 have HF:=ah hf
 have hle9:=po.len
 clear a ho po hf
 go_enter Tryz.func73,Tryz.ntmps73
 go_upto_region 1 with (fail)
 change Code.wp _ _ _ _ ((w.alloc (.cells #[.int .i64 (vk k),.int .i64 (vi k),.int .u64 0,.string ByteArray.empty,aG L.tb k] 143)).alloc (.cells #[.int .i64 (vk v),.int .i64 (vi v),.int .u64 0,.string ByteArray.empty,aG L.tb v] 143))
 generalize (w.alloc (.cells #[.int .i64 (vk k),.int .i64 (vi k),.int .u64 0,.string ByteArray.empty,aG L.tb k] 143)).alloc (.cells #[.int .i64 (vk v),.int .i64 (vi v),.int .u64 0,.string ByteArray.empty,aG L.tb v] 143)=w2 at *
 generalize hX:w.heap.size=X at *
 have HXE:=ah hX
 clear hX
 obtain ⟨A,cap,hev,hcap,-⟩:=HA.o.ents HO.o
 have c7:w2.cell? ⟨L.tb n,7,none⟩=some (.slice A o.es.length cap):=by rw [<-hev];exact (HA.o.ob n o HO.o).cell (j:=7) (by omega)
 have HEV:=ah hev
 clear hev hcap
 have x0:w2.cell? ⟨X,0,none⟩=some (.int .i64 (vk k)):=HX.o.cell (j:=0) (by omega)
 have x1:w2.cell? ⟨X,1,none⟩=some (.int .i64 (vi k)):=HX.o.cell (j:=1) (by omega)
 have x2:w2.cell? ⟨X,2,none⟩=some (.int .u64 0):=HX.o.cell (j:=2) (by omega)
 have x3:w2.cell? ⟨X,3,none⟩=some (.string ByteArray.empty):=HX.o.cell (j:=3) (by omega)
 have x4:w2.cell? ⟨X,4,none⟩=some (aG L.tb k):=HX.o.cell (j:=4) (by omega)
 have y0:w2.cell? ⟨X+1,0,none⟩=some (.int .i64 (vk v)):=HY.o.cell (j:=0) (by omega)
 have y1:w2.cell? ⟨X+1,1,none⟩=some (.int .i64 (vi v)):=HY.o.cell (j:=1) (by omega)
 have y2:w2.cell? ⟨X+1,2,none⟩=some (.int .u64 0):=HY.o.cell (j:=2) (by omega)
 have y3:w2.cell? ⟨X+1,3,none⟩=some (.string ByteArray.empty):=HY.o.cell (j:=3) (by omega)
 have y4:w2.cell? ⟨X+1,4,none⟩=some (aG L.tb v):=HY.o.cell (j:=4) (by omega)
 have HST:=ah (xu (HA.o.JA HO.o) (k:=k) (v:=v) HPO.o.kk HPO.o.ks (HA.o.hd HPO.o.kv) HF.o hv HPO.o.len (fun e he=>HA.o.hd (HPO.o.ev e he)) HPO.o.kn HA.o.bs)
 clear hv
 go_wp2_with fail
 refine HST.o.mono ?_
 rintro e3 w3 ⟨rfl,ev3,mv3,ht3,hk3,he3,hm3⟩
 have HH3:=ah (HA.o.hp.keep hk3 (fun c=>by
  rcases c with c|c|c
  ·exact HA.o.hp.apart (HA.o.ob n o HO.o) (by decide) c
  ·exact ak (HA.o.en n o HO.o) HA.o.hp (by decide) c
  ·exact (HA.o.mp n o HO.o).apart HA.o.hp c))
 have c5:w3.cell? ⟨L.H,5,none⟩=some (.int .i64 (h.D6:Int)):=HH3.o.cell (j:=5) (by omega)
 have z5:=HH3.o.Jv 5
 have hcr:=HPO.o.cr
 have H3:=ah (And.intro ht3 (And.intro hk3 (And.intro he3 hm3)))
 have hne:L.tb n≠L.H:=fun c=>ht3.r.apart HH3.o (by decide) c
 have hne':L.H≠L.tb n:=fun c=>hne c.symm
 clear ht3 hk3 he3 hm3 c7 x0 x1 x2 x3 x4 y0 y1 y2 y3 y4
 go_upto_region 6 with (fail)
 have HH4:=ah (HH3.o.set (j:=5) (by omega) (.int .i64 ((h.D6:Int)+40)))
 have HT4:=ah (H3.o.1.off (w':=w3.setCell ⟨L.H,5,none⟩ (.int .i64 ((h.D6:Int)+40))) (Keeps.setCell (S:=fun b=>b=L.H) (Keeps.refl w3 _) rfl _) HH3.o)
 have HK4:=ah (show Keeps w2 (w3.setCell ⟨L.H,5,none⟩ (.int .i64 ((h.D6:Int)+40))) (fun c=>c=L.H∨c=L.tb n∨(L.es n).ownBlock=some c∨bJ (L.mp n)=some c) from (H3.o.2.1.mono (fun c e=>Or.inr e)).trans (Keeps.setCell (S:=fun c=>c=L.H∨c=L.tb n∨(L.es n).ownBlock=some c∨bJ (L.mp n)=some c) (Keeps.refl w3 _) (.inl rfl) _))
 generalize w3.setCell ⟨L.H,5,none⟩ (.int .i64 ((h.D6:Int)+40))=w4 at *
 clear c5 z5
 obtain ⟨A4,cap4,hev4,-,-⟩:=fB HT4.o.e
 subst hev4
 have hl4:(aI o.es++[(k,v)]).length=(aI o.es).length+1:=by simp
 have d7:w4.cell? ⟨L.tb n,7,none⟩=some (.slice A4 (aI o.es++[(k,v)]).length cap4):=HT4.o.r.cell (j:=7) (by omega)
 have d2:w4.cell? ⟨L.tb n,2,none⟩=some (.int .i64 ((40+40*o.es.length:Nat):Int)):=HT4.o.r.cell (j:=2) (by omega)
 have d4:w4.cell? ⟨L.H,4,none⟩=some (.int .i64 (h.bytes:Int)):=HH4.o.cell (j:=4) (by omega)
 have htl:=HT4.o.r.lt
 have hHl:=HH4.o.lt
 have z2:=HT4.o.r.Jv 2
 have z4:=HH4.o.Jv 4
 have hby:=HPO.o.JQ
 have hfr:=HPO.o.fr
 have htd:=jH o.es
 rw [hl4] at d7
 obtain ⟨q,hq⟩:∃ q,(aI o.es).length=q:=⟨_,rfl⟩
 rw [hq] at d7 htd hl4
 have HQ:=ah hq
 have HL4:=ah hl4
 clear hq hl4
 have HRS:=ah (fun (w':World) (hb:Below w4.heap.size w4 w')=>iI w' (L.tb n) L.H ((40+40*o.es.length:Nat):Int) (h.bytes:Int) (((q:Int)+1-(o.es.length:Int))*40) ((hb.cell (p:=⟨L.tb n,2,none⟩) htl).trans d2) ((hb.cell (p:=⟨L.H,4,none⟩) hHl).trans d4) ((hb.frozen (p:=⟨L.tb n,2,none⟩) htl).trans z2) ((hb.frozen (p:=⟨L.H,4,none⟩) hHl).trans z4) hne (by omega) (by omega) (by omega))
 have HW1:=ah (IntWalk.i64_in (n:=(q:Int)+1-(o.es.length:Int)) (by constructor<;>omega))
 have HW2:=ah (IntWalk.i64_in (n:=((q:Int)+1-(o.es.length:Int))*40) (by constructor<;>omega))
 clear z2 z4 d2 d4
 go_wp2_with fail
 go_region_held3 (fun w'=>w'.cell? ⟨L.tb n,7,none⟩=some (.slice A4 (q+1) cap4)) (go_keep)
  (first
    |(go_at_call 105
      rw [HW1.o,HW2.o]
      refine (HRS.o _ (ay (Below.refl _ _) _)).mono ?_
      rintro e5 w5 ⟨rfl,hw5⟩
      have H5:=ah (Ay HA.o HO.o HT4.o HH4.o (fun _ _=>rfl) HK4.o H3.o.2.2.1 H3.o.2.2.2 HL4.o HQ.o hfr (ay (Below.refl _ _) _) hw5)
      have t7:w5.cell? ⟨L.tb n,7,none⟩=some (.slice A4 (q+1) cap4):=by rw [<-HL4.o];exact H5.o.2.2
      clear hw5)
    |fail)
 clear t7 d7
 have HP5:=ah (show PS base S { h.upd n (fun o=>{ o with es:=aI o.es++[(k,v)] }) with bytes:=h.bytes-40*(o.es.length-(aI o.es).length)+40,D6:=h.D6+40 } (L.Jj n (.slice A4 (q+1) cap4) mv3) w5 from ⟨x,y,G,by rw [<-HL4.o];exact H5.o.1,HR.o.same rfl rfl rfl rfl rfl (h.El n _) (wV h n _)⟩)
 have HOE:Hq (Hp.ob { h.upd n (fun o=>{ o with es:=aI o.es++[(k,v)] }) with bytes:=h.bytes-40*(o.es.length-(aI o.es).length)+40,D6:=h.D6+40 } n=some { o with es:=aI o.es++[(k,v)] }):=ah (by
  show (h.upd n _).ob n=_
  rw [Hp.Ed,if_pos rfl,HO.o]
  rfl)
 have HBK:=ah (mZ HP5.o HOE.o HPO.o.ag)
 go_wp2_with fail
 refine HBK.o.mono ?_
 rintro e6 w6 ⟨rfl,L6,hl6,hp6,hk6⟩
 have H6:=ah (And.intro hl6 (And.intro hp6 hk6))
 clear hl6 hp6 hk6
 go_wp2
 go_end0
 exact ⟨rfl,L6,(show Jh L (L.Jj n (.slice A4 (q+1) cap4) mv3) from ⟨rfl,rfl⟩).trans H6.o.1.y,by rw [HPT.o];exact H6.o.2.1,((Keeps.of HB.o (Nat.le_of_eq HXE.o) S).trans H5.o.2.1).trans H6.o.2.2⟩
theorem mO (p:PS base S h L w) (ho:h.ob n=some o) {k v:HV} (po:GY h o k):
 Calls Tryz.prog 73 #[.pointer (some ⟨L.H,0,none⟩),.pointer (some ⟨L.tb n,0,none⟩),.agg #[.int .i64 (vk k),.int .i64 (vi k),.int .u64 0,.string ByteArray.empty,aG L.tb k],.agg #[.int .i64 (vk v),.int .i64 (vi v),.int .u64 0,.string ByteArray.empty,aG L.tb v]] w fun e' w'=>e'=.returned (.tuple #[])/\∃ L',Jh L L'/\PS base S (h.put n k v) L' w'/\Keeps w w' S:=by
 obtain ⟨x,y,G,a,r⟩:=p
 cases hf:jJ o.es k with
 |some i=>exact Cn a r ho po hf
 |none=>
  cases hv:v.isNone with
  |true=>exact BD a r ho po hf hv
  |false=>exact zX a r ho po hf hv
end
section
variable {N N0 X base m n:Nat} {S:Nat->Prop} {es:List En} {h:Hp} {tb tb':Nat->Nat} {v:Value} {w w1:World} {x y:List Nat}
structure Ja (h:Hp):Prop where
 r:∀ n o,h.ob n=some o->∀ e∈o.es,∀ r∈bM e,r<h.objs.length
 k:∀ n o,h.ob n=some o->∀ e∈o.es,e.2.isSome=true->e.1.isSome=true
def j5 (N N0 m:Nat):Nat:=if m=N then N0 else m
def Ar (tb:Nat->Nat) (N N0 X m:Nat):Nat:=if m=N then X else if m=N0 then tb N else tb m
theorem tX (h:N<N0) (hm:m≠N0):Ar tb N N0 X (j5 N N0 m)=tb m:=by
 unfold Ar j5
 by_cases c:m=N
 ·rw [if_pos c,if_neg (by omega),if_pos rfl,c]
 ·rw [if_neg c,if_neg c,if_neg hm]
theorem Ck (h:N<N0) (hm:m<N):Ar tb N N0 X m=tb m:=by
 unfold Ar
 rw [if_neg (by omega),if_neg (by omega)]
theorem Ca (hm:m<N):j5 N N0 m=m:=by unfold j5;rw [if_neg (by omega)]
theorem dZ {l:List Nat} (h:∀ n∈l,n<N):l.map (j5 N N0)=l:=by
 conv=>rhs;rw [<-List.map_id l]
 exact List.map_congr_left (fun n hn=>Ca (h n hn))
theorem xW {k:Nat} (hk:k≠18) (h:tb' m=tb n):cO tb' k m=cO tb k n:=by
 unfold cO mG iG mG
 rw [h,if_neg hk,if_neg hk]
theorem xQ {v:HV} (h:∀ r∈bn v,tb' r=tb r):aG tb' v=aG tb v:=by
 cases v with
 |none=>rfl
 |some x=>cases x with
  |inl z=>rfl
  |inr n=>
   show iG tb' n=iG tb n
   unfold iG mG
   rw [h n (by simp [bn])]
theorem BO (h:∀ e∈es,∀ r∈bM e,tb' r=tb r):fP tb' es=fP tb es:=by
 unfold fP
 induction es with
 |nil=>rfl
 |cons e l ih=>
  rw [List.flatMap_cons,List.flatMap_cons,ih (fun e' he'=>h e' (List.mem_cons_of_mem _ he'))]
  congr 1
  unfold gZ iV
  rw [xQ (fun r hr=>h e (List.mem_cons_self ..) r (List.mem_append_left _ hr)),xQ (fun r hr=>h e (List.mem_cons_self ..) r (List.mem_append_right _ hr))]
theorem iA:∀ l:List Nat,∃ B,∀ n∈l,n<B
 | []=>⟨0,fun n hn=>by simp at hn⟩
 |a::l=>by
  obtain ⟨B,hB⟩:=iA l
  refine ⟨max B (a+1),fun n hn=>?_⟩
  rcases List.mem_cons.1 hn with rfl|c
  ·omega
  ·have:=hB n c;omega
def PM.mk1 (L:PM) (N N0 X:Nat) (v:Value):PM:=⟨L.H,Ar L.tb N N0 X,fun m=>if m=N then .slice none 0 0 else L.es m,fun m=>if m=N then .map none else L.mp m,fun j=>if j=7 then v else L.li j⟩
def Gh.mk1 (G:Gh) (N N0:Nat):Gh:={ G with Jt:=G.Jt.map (j5 N N0)++[N],ag:=G.ag.map (j5 N N0) }
theorem kL (h:Hp) (m n:Nat):(h.make m).ob n=if n=h.objs.length then some ⟨h.white,m,[],false⟩ else h.ob n:=h.Fu _ n
theorem JR.made {G:Gh} {L:PM} (a:JR base S (h.wk x y) G L w) (b:Ja h) (hl:∀ n,n∈h.roots∨n∈h.grey∨n∈h.finals∨n∈h.pending->n<h.objs.length)
 (hN:h.objs.length<N0) (h0:∀ n,n∈x∨n∈y∨n∈G.ag∨n∈G.Jt->n<N0)
 (kk:Keeps w w1 (fun c=>c=L.H∨(L.li 7).ownBlock=some c)) (hX:w.heap.size<=X)
 (hh:aD w1 77 L.H 19 (iY ((h.make m).wk (x.map (j5 h.objs.length N0)) (y.map (j5 h.objs.length N0))) (G.mk1 h.objs.length N0) (L.mk1 h.objs.length N0 X v)))
 (hr:aD w1 136 X 13 (lT ⟨h.white,m,[],false⟩ h.objs.length (.slice none 0 0) (.map none)))
 (hown:w1.ownsRow base 67 1 v (G.Jt.length+1) (G.Jt.map (cO L.tb 7)++[.iface 127 (.pointer (some ⟨X,0,none⟩))])) (hv:∀ g,v.ownBlock=some g->(L.li 7).ownBlock=some g∨w.heap.size<=g):
 JR base S ((h.make m).wk (x.map (j5 h.objs.length N0)) (y.map (j5 h.objs.length N0))) (G.mk1 h.objs.length N0) (L.mk1 h.objs.length N0 X v) w1/\Keeps w w1 S:=by
 generalize hNe:h.objs.length=N at *
 have hob:∀ n,((h.make m).wk (x.map (j5 N N0)) (y.map (j5 N N0))).ob n=if n=N then some ⟨h.white,m,[],false⟩ else h.ob n:=fun n=>by
  rw [<-hNe];exact kL h m n
 have hlt:∀ n o,h.ob n=some o->n<N:=fun n o e=>by rw [<-hNe];exact Hp.Es e
 have get:∀ n o,((h.make m).wk (x.map (j5 N N0)) (y.map (j5 N N0))).ob n=some o->(n=N/\o=⟨h.white,m,[],false⟩)∨(n<N/\n≠N/\h.ob n=some o):=by
  intro n o e
  rw [hob] at e
  split at e
  ·rename_i c;simp at e;exact .inl ⟨c,e.symm⟩
  ·rename_i c;exact .inr ⟨hlt n o e,c,e⟩
 have tl:∀ n,n<N->(L.mk1 N N0 X v).tb n=L.tb n:=fun n hn=>Ck hN hn
 have tN:(L.mk1 N N0 X v).tb N=X:=by show Ar L.tb N N0 X N=X;unfold Ar;rw [if_pos rfl]
 have el:∀ n,n≠N->(L.mk1 N N0 X v).es n=L.es n:=fun n hn=>by show (if n=N then _ else _)=_;rw [if_neg hn]
 have eN:(L.mk1 N N0 X v).es N=.slice none 0 0:=by show (if N=N then _ else _)=_;rw [if_pos rfl]
 have ml:∀ n,n≠N->(L.mk1 N N0 X v).mp n=L.mp n:=fun n hn=>by show (if n=N then _ else _)=_;rw [if_neg hn]
 have mN:(L.mk1 N N0 X v).mp N=.map none:=by show (if N=N then _ else _)=_;rw [if_pos rfl]
 have ll:∀ j,j≠7->(L.mk1 N N0 X v).li j=L.li j:=fun j hj=>by show (if j=7 then _ else _)=_;rw [if_neg hj]
 have l7:(L.mk1 N N0 X v).li 7=v:=rfl
 have hw:=a.bs
 have h7:=a.li 7 (by simp [b_])
 have hR:∀ {T g n:Nat} {f:Nat->Value},aD w T g n f->T≠77->T≠67->¬ (g=L.H∨(L.li 7).ownBlock=some g):=by
  intro T g n f q1 q2 q3 q5
  rcases q5 with q5|q5
  ·exact q1.apart a.hp q2 q5
  ·exact ak h7 q1 (Ne.symm q3) q5
 have hS:∀ c,(c=L.H∨(L.li 7).ownBlock=some c)->S c:=by
  intro c e
  rcases e with e|e
  ·exact e ▸ a.sH
  ·exact a.sl 7 c (by simp [b_]) e
 have tlt:∀ n o,h.ob n=some o->L.tb n<w.heap.size:=fun n o e=>(a.ob n o e).lt
 have llt:∀ j g,b_ j->(L.li j).ownBlock=some g->g<w.heap.size:=fun j g hj e=>(au (a.li j hj) e).lt
 refine ⟨⟨hh,fun n o e=>?_,fun n o e=>?_,fun n o e=>?_,fun j hj=>?_,?_,?_,?_,?_,a.bH,?_,?_,Nat.le_trans a.bs kk.size,a.sH,?_,?_,?_,?_,fun c hc=>a.up c (Nat.le_trans kk.size hc)⟩,kk.mono hS⟩
 ·rcases get n o e with ⟨rfl,rfl⟩|⟨h1,h2,h3⟩
  ·rw [tN,eN,mN];exact hr
  ·rw [tl n h1,el n h2,ml n h2]
   exact (a.ob n o h3).keep kk (hR (a.ob n o h3) (by decide) (by decide))
 ·rcases get n o e with ⟨rfl,rfl⟩|⟨h1,h2,h3⟩
  ·rw [eN];exact ⟨rfl,.inl ⟨rfl,rfl⟩⟩
  ·rw [el n h2,BO (fun e' he' r hr'=>tl r (by have:=b.r n o h3 e' he' r hr';rw [hNe] at this;exact this))]
   exact aj (a.en n o h3) kk (fun g hg=>hR (au (a.en n o h3) hg) (by decide) (by decide))
 ·rcases get n o e with ⟨rfl,rfl⟩|⟨h1,h2,h3⟩
  ·rw [mN];exact .inl ⟨rfl,rfl⟩
  ·rw [ml n h2]
   refine (a.mp n o h3).keep kk (fun g hg y=>?_)
   rcases y with y|y
   ·exact (a.mp n o h3).apart a.hp (y ▸ hg)
   ·exact (a.mp n o h3).apart (au h7 y) hg
 ·by_cases c7:j=7
  ·subst c7
   rw [l7]
   have e1:(dh ((h.make m).wk (x.map (j5 N N0)) (y.map (j5 N N0))) (G.mk1 N N0) 7)=G.Jt.map (j5 N N0)++[N]:=rfl
   rw [e1,List.map_append,List.length_append,List.length_map,List.map_map]
   have e2:G.Jt.map (cO (L.mk1 N N0 X v).tb 7 ∘ j5 N N0)=G.Jt.map (cO L.tb 7):=List.map_congr_left (fun n hn=>xW (by decide) (tX hN (Nat.ne_of_lt (h0 n (.inr (.inr (.inr hn)))))))
   rw [e2]
   have e3:[N].map (cO (L.mk1 N N0 X v).tb 7)=[.iface 127 (.pointer (some ⟨X,0,none⟩))]:=by
    show [iG (L.mk1 N N0 X v).tb N]=_
    unfold iG mG
    rw [tN]
   rw [e3]
   exact hown
  ·rw [ll j c7]
   have h9:=aj (a.li j hj) kk (fun g hg y=>by
    rcases y with y|y
    ·exact ak (a.li j hj) a.hp (fE hj).1 (y ▸ hg)
    ·exact c7 (a.lj j 7 g hj (by simp [b_]) hg y))
   by_cases c18:j=18
   ·subst c18
    exact h9
   ·have e1:dh ((h.make m).wk (x.map (j5 N N0)) (y.map (j5 N N0))) (G.mk1 N N0) j=(dh (h.wk x y) G j).map (j5 N N0):=by
     rcases hj with rfl|rfl|rfl|rfl|rfl|rfl|rfl|rfl|rfl
     ·exact absurd rfl c7
     ·exact (dZ (fun n hn=>hl n (.inl hn))).symm
     ·exact (dZ (fun n hn=>hl n (.inr (.inl hn)))).symm
     ·rfl
     ·rfl
     ·rfl
     ·exact (dZ (fun n hn=>hl n (.inr (.inr (.inl hn))))).symm
     ·exact (dZ (fun n hn=>hl n (.inr (.inr (.inr hn))))).symm
     ·exact absurd rfl c18
    have e0:∀ n∈dh (h.wk x y) G j,n≠N0:=by
     intro n hn
     rcases hj with rfl|rfl|rfl|rfl|rfl|rfl|rfl|rfl|rfl
     ·exact absurd rfl c7
     ·have:=hl n (.inl hn);omega
     ·have:=hl n (.inr (.inl hn));omega
     ·have:=h0 n (.inr (.inr (.inl hn)));omega
     ·have:=h0 n (.inl hn);omega
     ·have:=h0 n (.inr (.inl hn));omega
     ·have:=hl n (.inr (.inr (.inl hn)));omega
     ·have:=hl n (.inr (.inr (.inr hn)));omega
     ·exact absurd rfl c18
    have e2:((dh (h.wk x y) G j).map (j5 N N0)).map (cO (L.mk1 N N0 X v).tb j)=(dh (h.wk x y) G j).map (cO L.tb j):=by
     rw [List.map_map]
     exact List.map_congr_left (fun n hn=>xW c18 (tX hN (e0 n hn)))
    rw [e1,e2,List.length_map]
    exact h9
 ·intro n n' o o' e e' ht
  rcases get n o e with ⟨rfl,rfl⟩|⟨h1,h2,h3⟩<;>rcases get n' o' e' with ⟨rfl,rfl⟩|⟨h1',h2',h3'⟩
  ·rfl
  ·rw [tN,tl n' h1'] at ht
   have:=tlt n' o' h3';omega
  ·rw [tN,tl n h1] at ht
   have:=tlt n o h3;omega
  ·rw [tl n h1,tl n' h1'] at ht
   exact a.ij n n' o o' h3 h3' ht
 ·intro n n' o o' g e e' ht ht'
  rcases get n o e with ⟨rfl,rfl⟩|⟨h1,h2,h3⟩
  ·rw [eN] at ht;simp [Value.ownBlock] at ht
  ·rcases get n' o' e' with ⟨rfl,rfl⟩|⟨h1',h2',h3'⟩
   ·rw [eN] at ht';simp [Value.ownBlock] at ht'
   ·rw [el n h2] at ht;rw [el n' h2'] at ht'
    exact a.ei n n' o o' g h3 h3' ht ht'
 ·intro n n' o o' g e e' ht ht'
  rcases get n o e with ⟨rfl,rfl⟩|⟨h1,h2,h3⟩
  ·rw [mN] at ht;simp [bJ] at ht
  ·rcases get n' o' e' with ⟨rfl,rfl⟩|⟨h1',h2',h3'⟩
   ·rw [mN] at ht';simp [bJ] at ht'
   ·rw [ml n h2] at ht;rw [ml n' h2'] at ht'
    exact a.mi n n' o o' g h3 h3' ht ht'
 ·intro j j' g hj hj' e e'
  by_cases c:j=7<;>by_cases c':j'=7
  ·rw [c,c']
  ·subst c
   rw [l7] at e;rw [ll j' c'] at e'
   rcases hv g e with z|z
   ·exact a.lj 7 j' g hj hj' z e'
   ·have:=llt j' g hj' e';omega
  ·subst c'
   rw [l7] at e';rw [ll j c] at e
   rcases hv g e' with z|z
   ·exact a.lj j 7 g hj hj' e z
   ·have:=llt j g hj e;omega
  ·rw [ll j c] at e;rw [ll j' c'] at e'
   exact a.lj j j' g hj hj' e e'
 ·intro n o e
  rcases get n o e with ⟨rfl,rfl⟩|⟨h1,h2,h3⟩
  ·rw [tN];omega
  ·rw [tl n h1];exact a.bt n o h3
 ·intro n o g e hg
  rcases get n o e with ⟨rfl,rfl⟩|⟨h1,h2,h3⟩
  ·rw [mN] at hg;simp [bJ] at hg
  ·rw [ml n h2] at hg;exact a.bm n o g h3 hg
 ·intro n o e
  rcases get n o e with ⟨rfl,rfl⟩|⟨h1,h2,h3⟩
  ·rw [tN];exact a.up X hX
  ·rw [tl n h1];exact a.st n o h3
 ·intro n o g e hg
  rcases get n o e with ⟨rfl,rfl⟩|⟨h1,h2,h3⟩
  ·rw [eN] at hg;simp [Value.ownBlock] at hg
  ·rw [el n h2] at hg;exact a.se n o g h3 hg
 ·intro n o g e hg
  rcases get n o e with ⟨rfl,rfl⟩|⟨h1,h2,h3⟩
  ·rw [mN] at hg;simp [bJ] at hg
  ·rw [ml n h2] at hg;exact a.sm n o g h3 hg
 ·intro j g hj hg
  by_cases c:j=7
  ·subst c
   rw [l7] at hg
   rcases hv g hg with z|z
   ·exact a.sl 7 g hj z
   ·exact a.up g z
  ·rw [ll j c] at hg
   exact a.sl j g hj hg
theorem nW (h:Hp) (m n:Nat):(h.make m).Lv n↔(h.Lv n∨n=h.objs.length):=by
 unfold Hp.Lv
 rw [kL]
 split
 ·rename_i c;simp [c]
 ·rename_i c;simp [c]
theorem tL {l:List Nat} (h:l.Pairwise (·< ·)) (hl:∀ n∈l,n<N):(l++[N]).Pairwise (·< ·):=by
 rw [List.pairwise_append]
 exact ⟨h,List.pairwise_singleton _ _,fun a ha b hb=>by simp at hb;subst hb;exact hl a ha⟩
theorem PR.made {G:Gh} (r:PR h x y G) (g:Gd h) (m N0:Nat):PR (h.make m) (x.map (j5 h.objs.length N0)) (y.map (j5 h.objs.length N0)) (G.mk1 h.objs.length N0):=by
 have lv:∀ n,h.Lv n->n<h.objs.length:=fun n hn=>by obtain ⟨o,ho⟩:=hn;exact Hp.Es ho
 refine ⟨fun e=>?_,fun e=>?_,fun e=>?_,?_⟩
 ·have t:=g.i.s1 e
  obtain ⟨e1,e2,e3⟩:=r.s1 e
  refine ⟨?_,?_,?_⟩
  ·rw [e1];exact dZ (fun n hn=>lv n (t.ll n (.inr (.inr (.inl hn)))))
  ·rw [e2];exact dZ (fun n hn=>lv n (t.ll n (.inr (.inr (.inr hn)))))
  ·show G.ag.map _=h.again
   rw [e3];exact dZ (fun n hn=>lv n (t.ll n (.inr (.inl hn))))
 ·have s:=r.s2 e
  have hsw:=(g.i.s2 e).2.2.1
  have t1:(G.mk1 h.objs.length N0).Jt.take G.kept=G.Jt.take G.kept:=by
   show (G.Jt.map _++[_]).take G.kept=_
   rw [List.take_append_of_le_length (by rw [List.length_map];exact Nat.le_trans s.ks s.sl),<-List.map_take]
   exact dZ (fun n hn=>lv n ((s.kl n).1 hn).1)
  have t2:(G.mk1 h.objs.length N0).Jt.drop G.Ee=G.Jt.drop G.Ee++[h.objs.length]:=by
   show (G.Jt.map _++[_]).drop G.Ee=_
   rw [List.drop_append_of_le_length (by rw [List.length_map];exact s.sl),<-List.map_drop]
   rw [dZ (fun n hn=>lv n ((s.dl n).1 hn).1)]
  refine ⟨s.ks,?_,?_,fun n=>?_,?_,fun n=>?_⟩
  ·show G.Ee<=(G.Jt.map _++[_]).length
   rw [List.length_append,List.length_map]
   have:=s.sl
   omega
  ·show ((G.mk1 h.objs.length N0).Jt.take G.kept).Pairwise _
   rw [t1];exact s.ku
  ·show n∈(G.mk1 h.objs.length N0).Jt.take G.kept↔(h.make m).Lv n/\n<h.D7
   rw [t1,s.kl,nW]
   constructor
   ·exact fun z=>⟨.inl z.1,z.2⟩
   ·rintro ⟨z|z,z2⟩
    ·exact ⟨z,z2⟩
    ·omega
  ·show ((G.mk1 h.objs.length N0).Jt.drop G.Ee).Pairwise _
   rw [t2];exact tL s.du (fun n hn=>lv n ((s.dl n).1 hn).1)
  ·show n∈(G.mk1 h.objs.length N0).Jt.drop G.Ee↔(h.make m).Lv n/\h.D7<=n
   rw [t2,List.mem_append,s.dl,nW]
   constructor
   ·rintro (z|z)
    ·exact ⟨.inl z.1,z.2⟩
    ·simp at z;subst z;exact ⟨.inr rfl,hsw⟩
   ·rintro ⟨z|z,z2⟩
    ·exact .inl ⟨z,z2⟩
    ·exact .inr (by simp [z])
 ·have s:=r.s0 e
  have t:(G.mk1 h.objs.length N0).Jt=G.Jt++[h.objs.length]:=by
   show G.Jt.map _++[_]=_
   rw [dZ (fun n hn=>lv n ((s.lv n).1 hn))]
  refine ⟨by rw [t];exact tL s.up (fun n hn=>lv n ((s.lv n).1 hn)),fun n=>?_⟩
  rw [t,List.mem_append,s.lv,nW]
  simp
 ·show (G.Jt.map _++[_]).length<=(h.objs++[_]).length
  rw [List.length_append,List.length_append,List.length_map]
  have:=r.ol
  simp
  exact this
end
section
variable {H X base:Nat} {JQ li md wh:Int} {f:Nat->Value} {l:List Value} {lv:Value} {w:World}
attribute [local go_sem] bD
theorem rT {g:Nat->Value} {cr:Int} (hh:aD w 77 H 19 f) (f1:f 1=.int .i64 wh) (f2:f 2=.int .i64 md) (f3:f 3=.int .i64 li) (f4:f 4=.int .i64 JQ) (f5:f 5=.int .i64 cr) (f7:f 7=lv)
 (hr:aD w 136 X 13 g) (g2:g 2=.int .i64 0) (hown:w.ownsRow base 67 1 lv l.length l) (hbs:base<=w.heap.size) (hl:l.length<=1000000) (hmd:0<=md/\md<=1000000) (hli:0<=li/\li<=1000000) (hby:0<=JQ/\JQ<=1000000) (hcr:0<=cr/\cr<=1000000):
 Calls Tryz.prog 99 #[.pointer (some ⟨H,0,none⟩),.iface 127 (.pointer (some ⟨X,0,none⟩)),.int .i64 40] w fun e w'=>e=.returned (.tuple #[])/\∃ v',
  aD w' 77 H 19 (fun i=>if i=5 then .int .i64 (cr+40) else if i=4 then .int .i64 (JQ+40) else if i=7 then v' else if i=3 then .int .i64 (li+1) else if i=2 then .int .i64 (md+1) else f i)/\
  aD w' 136 X 13 (fun i=>if i=2 then .int .i64 (0+40) else if i=0 then .int .i64 wh else if i=1 then .int .i64 (md+1) else g i)/\
  w'.ownsRow base 67 1 v' (l.length+1) (l++[.iface 127 (.pointer (some ⟨X,0,none⟩))])/\Keeps w w' (fun c=>c=H∨c=X∨lv.ownBlock=some c)/\∀ q,v'.ownBlock=some q->lv.ownBlock=some q∨w.heap.size<=q:=by
 obtain ⟨ao,co,hv⟩:=aF hown
 subst hv
 have hHX:H≠X:=fun c=>hh.apart hr (by decide) c
 have hXH:X≠H:=fun c=>hHX c.symm
 have c2:w.cell? ⟨H,2,none⟩=some (.int .i64 md):=by rw [hh.cell (j:=2) (by omega),f2]
 have c3:w.cell? ⟨H,3,none⟩=some (.int .i64 li):=by rw [hh.cell (j:=3) (by omega),f3]
 have z2:=hh.Jv 2
 have z3:=hh.Jv 3
 have R1:=ah ((hh.set (j:=2) (by omega) (.int .i64 (md+1))).set (j:=3) (by omega) (.int .i64 (li+1)))
 have K1:Hq (Keeps w ((w.setCell ⟨H,2,none⟩ (.int .i64 (md+1))).setCell ⟨H,3,none⟩ (.int .i64 (li+1))) (fun c=>c=H)):=ah (Keeps.setCell (S:=fun c=>c=H) (Keeps.setCell (S:=fun c=>c=H) (Keeps.refl w _) rfl _) rfl _)
 have T1:=ah (hr.keep K1.o hXH)
 have O1:=ah (aj hown K1.o (fun q hq c=>ak hown hh (by decide) (c ▸ hq)))
 have hm2:=fK X
 have HHD:=ah (fun w9=>d_ w9 X)
 have HBS:=ah hbs
 have F1:=ah f1
 have F4:=ah f4
 have F5:=ah f5
 have F7:=ah f7
 have G2:=ah g2
 clear hown hbs f1 f2 f3 f4 f5 f7 g2
 go_enter Tryz.func99,Tryz.ntmps99
 go_upto_region 2 with (fail)
 generalize (w.setCell ⟨H,2,none⟩ (.int .i64 (md+1))).setCell ⟨H,3,none⟩ (.int .i64 (li+1))=w1 at *
 clear c2 c3 z2 z3 hh hr
 have c1:w1.cell? ⟨H,1,none⟩=some (.int .i64 wh):=by rw [R1.o.cell (j:=1) (by omega)];exact congrArg some F1.o
 have c2:w1.cell? ⟨H,2,none⟩=some (.int .i64 (md+1)):=R1.o.cell (j:=2) (by omega)
 have t0:=T1.o.cell (j:=0) (by omega)
 have t1:=T1.o.cell (j:=1) (by omega)
 have z0:=T1.o.Jv 0
 have z1:=T1.o.Jv 1
 have T2:=ah ((T1.o.set (j:=1) (by omega) (.int .i64 (md+1))).set (j:=0) (by omega) (.int .i64 wh))
 have K2:Hq (Keeps w1 ((w1.setCell ⟨X,1,none⟩ (.int .i64 (md+1))).setCell ⟨X,0,none⟩ (.int .i64 wh)) (fun c=>c=X)):=ah (Keeps.setCell (S:=fun c=>c=X) (Keeps.setCell (S:=fun c=>c=X) (Keeps.refl w1 _) rfl _) rfl _)
 have R2:=ah (R1.o.keep K2.o hHX)
 have O2:=ah (aj O1.o K2.o (fun q hq c=>ak O1.o T1.o (by decide) (c ▸ hq)))
 go_wp2_with fail
 refine (HHD.o _).mono ?_
 rintro e2 w2 ⟨rfl,rfl⟩
 go_upto_region 5 with (fail)
 generalize (w2.setCell ⟨X,1,none⟩ (.int .i64 (md+1))).setCell ⟨X,0,none⟩ (.int .i64 wh)=w3 at *
 clear c1 c2 t0 t1 z0 z1
 have c7:w3.cell? ⟨H,7,none⟩=some (.slice ao l.length co):=by rw [R2.o.cell (j:=7) (by omega)];exact congrArg some F7.o
 have hHl:=R2.o.lt
 have hXl:=T2.o.lt
 have hHo:(Value.slice ao l.length co).ownBlock≠some H:=fun c=>ak O2.o R2.o (by decide) c
 have hXo:(Value.slice ao l.length co).ownBlock≠some X:=fun c=>ak O2.o T2.o (by decide) c
 have hb3:base<=w3.heap.size:=Nat.le_trans HBS.o (Nat.le_trans K1.o.size K2.o.size)
 have HHO:=ah hHo
 have HXO:=ah hXo
 have HB3:=ah hb3
 clear hHo hXo hb3
 go_wp2_with (first
  |(at_builtin
    refine iF rfl (.tmp 41) (.tmp 43) 70 67 1 16 .nilIface rfl Tryz.underlying70 eu rfl (by decide) base (.slice ao l.length co) l.length l [.iface 127 (.pointer (some ⟨X,0,none⟩))] O2.o rfl rfl rfl (fun u hu=>by simp at hu;subst hu;rfl) (by omega) (by decide) HB3.o ?_
    intro v' w4 g1 g2 g3 g4
    obtain ⟨a4,k4,hv4⟩:=aF g1
    subst hv4
    have hb4:=g2 base w3 (Below.refl _ _) (Nat.le_refl _)
    have H4:=ah (show w4.ownsRow base 67 1 (.slice a4 (l.length+1) k4) (l.length+1) (l++[.iface 127 (.pointer (some ⟨X,0,none⟩))])/\Keeps w3 w4 (fun c=>(Value.slice ao l.length co).ownBlock=some c)/\∀ q,(Value.slice a4 (l.length+1) k4).ownBlock=some q->(Value.slice ao l.length co).ownBlock=some q∨w3.heap.size<=q from ⟨g1,⟨hb4.os,hb4.tape,hb4.output,hb4.size,fun b hb hn=>g3 b hb hn⟩,fun q e=>by
     by_cases c:(Value.slice ao l.length co).ownBlock=some q
     ·exact .inl c
     ·right
      rcases Nat.lt_or_ge q w3.heap.size with d|d
      ·exact absurd e (g4 q d c)
      ·exact d⟩)
    have R4:=ah (R2.o.keep H4.o.2.1 HHO.o)
    have T4:=ah (T2.o.keep H4.o.2.1 HXO.o)
    have p7:w4.cell? ⟨H,7,none⟩=some (.slice ao l.length co):=by rw [R4.o.cell (j:=7) (by omega)];exact congrArg some F7.o
    have q7:=R4.o.Jv 7
    clear g1 g2 g3 g4 hb4)
  |fail)
 have R5:=ah (R4.o.set (j:=7) (by omega) (.slice a4 (l.length+1) k4))
 have K5:Hq (Keeps w4 (w4.setCell ⟨H,7,none⟩ (.slice a4 (l.length+1) k4)) (fun c=>c=H)):=ah (Keeps.setCell (S:=fun c=>c=H) (Keeps.refl w4 _) rfl _)
 have T5:=ah (T4.o.keep K5.o hXH)
 have O5:=ah (aj H4.o.1 K5.o (fun q hq c=>ak H4.o.1 R4.o (by decide) (c ▸ hq)))
 generalize w4.setCell ⟨H,7,none⟩ (.slice a4 (l.length+1) k4)=w5 at *
 clear c7 p7 q7
 have HRS:=ah (iI w5 X H 0 JQ 40 (by rw [T5.o.cell (j:=2) (by omega)];exact congrArg some G2.o) (by rw [R5.o.cell (j:=4) (by omega)];exact congrArg some F4.o) (T5.o.Jv 2) (R5.o.Jv 4) hXH (by omega) (by omega) (by omega))
 refine HRS.o.mono ?_
 rintro e6 w6 ⟨rfl,hw6⟩
 have T6:=ah ((T5.o.set (j:=2) (by omega) (.int .i64 (0+40))).keep (Keeps.setCell (S:=fun c=>c=H) (Keeps.refl _ _) rfl (.int .i64 (JQ+40)) (g:=H) (j:=4)) hXH)
 have R6:=ah ((R5.o.keep (Keeps.setCell (S:=fun c=>c=X) (Keeps.refl _ _) rfl (.int .i64 (0+40)) (g:=X) (j:=2)) hHX).set (j:=4) (by omega) (.int .i64 (JQ+40)))
 have K6:Hq (Keeps w5 ((w5.setCell ⟨X,2,none⟩ (.int .i64 (0+40))).setCell ⟨H,4,none⟩ (.int .i64 (JQ+40))) (fun c=>c=H∨c=X)):=ah (Keeps.setCell (S:=fun c=>c=H∨c=X) (Keeps.setCell (S:=fun c=>c=H∨c=X) (Keeps.refl w5 _) (.inr rfl) _) (.inl rfl) _)
 rw [<-hw6] at T6 R6 K6
 clear hw6
 have O6:=ah (aj O5.o K6.o (fun q hq c=>by
  rcases c with c|c
  ·exact ak O5.o R5.o (by decide) (c ▸ hq)
  ·exact ak O5.o T5.o (by decide) (c ▸ hq)))
 have c5:w6.cell? ⟨H,5,none⟩=some (.int .i64 cr):=by rw [R6.o.cell (j:=5) (by omega)];exact congrArg some F5.o
 have z5:=R6.o.Jv 5
 go_wp2
 go_end0
 have k7:Keeps w6 (w6.setCell ⟨H,5,none⟩ (.int .i64 (cr+40))) (fun c=>c=H):=Keeps.setCell (S:=fun c=>c=H) (Keeps.refl w6 _) rfl _
 refine ⟨rfl,.slice a4 (l.length+1) k4,R6.o.set (j:=5) (by omega) _,T6.o.keep k7 hXH,aj O6.o k7 (fun q hq c=>ak O6.o R6.o (by decide) (c ▸ hq)),?_,fun q hq=>?_⟩
 ·exact (((((K1.o.mono (fun c e=>Or.inl e)).trans (K2.o.mono (fun c e=>Or.inr (Or.inl e)))).trans (H4.o.2.1.mono (fun c e=>Or.inr (Or.inr e)))).trans (K5.o.mono (fun c e=>Or.inl e))).trans (K6.o.mono (fun c e=>e.imp id Or.inl))).trans (k7.mono (fun c e=>Or.inl e))
 ·exact (H4.o.2.2 q hq).imp id (Nat.le_trans (Nat.le_trans K1.o.size K2.o.size))
end
end Go.Proofs.YtedpifhlffcmkaaGreatDoor
