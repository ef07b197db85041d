import Derived.Test.YtedpifhlffcmkaaGreatDoorKHZF
namespace Go.Proofs.YtedpifhlffcmkaaGreatDoor
open Go Go.RowKit
set_option maxHeartbeats 6400000
set_option maxRecDepth 100000
set_option linter.unusedVariables false
section
variable {G:Gh} {L:PM} {S:Nat->Prop} {base i n t:Nat} {es es':List En} {ev ev' mv mv':Value} {h:Hp} {o:Ob} {sz:Int} {tb:Nat->Nat} {w w':World}
attribute [local go_sem] bD
theorem JL.low (x:JL base tb t n o sz es ev mv w) (hb:Below w.heap.size w w'):JL base tb t n o sz es ev mv w':=
 have k:=Keeps.of hb (Nat.le_refl _) (fun _=>False)
 ⟨x.r.keep k id,aj x.e k (fun _ _ e=>e),x.m.keep k (fun _ _ e=>e)⟩
theorem Hd.next {v:HV} (h:Hd tb w v) (x:JL base tb t n o sz es ev mv w) (x':JL base tb t n o sz es' ev' mv' w') (k:Keeps w w' (fun c=>c=t∨ev.ownBlock=some c∨bJ mv=some c)):Hd tb w' v:=by
 intro m hm
 obtain ⟨f,h1,h2⟩:=h m hm
 by_cases c:tb m=t
 ·have h3:=x.r.cell (j:=1) (by omega)
  have h4:=h1.cell (j:=1) (by omega)
  rw [c,h3] at h4
  refine ⟨_,by rw [c];exact x'.r,?_⟩
  have h5:ql o n sz es ev mv 1=f 1:=by simpa using h4
  rw [<-h2,<-h5]
  rfl
 ·refine ⟨f,h1.keep k (fun e=>?_),h2⟩
  rcases e with e|e|e
  ·exact c e
  ·exact ak x.e h1 (by decide) e
  ·exact x.m.apart h1 e
theorem JR.JA (a:JR base S h G L w) (ho:h.ob n=some o):JL base L.tb (L.tb n) n o ((40+40*o.es.length:Nat):Int) o.es (L.es n) (L.mp n) w:=
 ⟨(a.ob n o ho).congr (bK _ rfl rfl rfl rfl rfl rfl rfl rfl rfl rfl rfl rfl rfl),a.en n o ho,a.mp n o ho⟩
theorem JR.hd (a:JR base S h G L w) {v:HV} (hv:fO h v):Hd L.tb w v:=by
 intro m hm
 obtain ⟨o,ho⟩:=hv m hm
 exact ⟨_,a.ob m o ho,rfl⟩
theorem rY {k:HV} (h:jJ es k=some i):∃ e,es[i]?=some e/\e.1=k:=by
 unfold jJ at h
 rw [List.findIdx?_eq_some_iff_getElem] at h
 obtain ⟨h1,h2,_⟩:=h
 refine ⟨es[i],List.getElem?_eq_getElem h1,?_⟩
 rw [gH] at h2
 simpa using h2
theorem BU {k:HV} (h:jJ es k=none):∀ e∈es,e.1≠k:=by
 intro e he c
 unfold jJ at h
 rw [List.findIdx?_eq_none_iff] at h
 have:=h e he
 rw [gH,c] at this
 simp at this
theorem zy (x:JL base tb t n o sz es ev mv w) {k v:HV} (hk:mD k) (hs:k.isSome=true) (hd:Hd tb w k) (hf:jJ es k=none) (hv:v.isNone=true):
 Calls Tryz.prog 104 #[.pointer (some ⟨t,0,none⟩),.agg #[.int .i64 (vk k),.int .i64 (vi k),.int .u64 0,.string ByteArray.empty,aG tb k],.agg #[.int .i64 (vk v),.int .i64 (vi v),.int .u64 0,.string ByteArray.empty,aG tb v]] w fun e' w'=>e'=.returned (.int .i64 0)/\Below w.heap.size w w':=by
 have HX:=ah ((bX w tb k).keep (Keeps.of (aJ (w.alloc (.cells #[.int .i64 (vk k),.int .i64 (vi k),.int .u64 0,.string ByteArray.empty,aG tb k] 143)) (.cells #[.int .i64 (vk v),.int .i64 (vi v),.int .u64 0,.string ByteArray.empty,aG tb v] 143)) (Nat.le_refl _) (fun _=>False)) (fun x=>x))
 have HY:=ah (bX (w.alloc (.cells #[.int .i64 (vk k),.int .i64 (vi k),.int .u64 0,.string ByteArray.empty,aG tb k] 143)) tb v)
 have HB:=ah ((aJ w (.cells #[.int .i64 (vk k),.int .i64 (vi k),.int .u64 0,.string ByteArray.empty,aG tb k] 143)).trans ((aJ (w.alloc (.cells #[.int .i64 (vk k),.int .i64 (vi k),.int .u64 0,.string ByteArray.empty,aG tb k] 143)) (.cells #[.int .i64 (vk v),.int .i64 (vi v),.int .u64 0,.string ByteArray.empty,aG tb v] 143)).mono (aJ w (.cells #[.int .i64 (vk k),.int .i64 (vi k),.int .u64 0,.string ByteArray.empty,aG tb k] 143)).size))
 have hZ:(w.alloc (.cells #[.int .i64 (vk k),.int .i64 (vi k),.int .u64 0,.string ByteArray.empty,aG tb k] 143)).heap.size=w.heap.size+1:=Array.size_push _
 rw [hZ] at HY
 clear hZ
 have htl:=x.r.lt
 have HT:=ah x
 have HD:=ah hd
 have hX0:t≠w.heap.size:=by omega
 have hX1:t≠w.heap.size+1:=by omega
 have HLK:=ah (fun (w':World) (hb:Below w.heap.size w w')=>oL (x.low hb).m hk hs)
 rw [hf] at HLK
 have HTD:=ah (fun (w':World) (hb:Below w.heap.size w w')=>(hd.low hb).c)
 clear x hd
 go_enter Tryz.func104,Tryz.ntmps104
 go_upto_region 1 with (fail)
 change Code.wp _ _ _ _ ((w.alloc (.cells #[.int .i64 (vk k),.int .i64 (vi k),.int .u64 0,.string ByteArray.empty,aG tb k] 143)).alloc (.cells #[.int .i64 (vk v),.int .i64 (vi v),.int .u64 0,.string ByteArray.empty,aG tb v] 143))
 generalize (w.alloc (.cells #[.int .i64 (vk k),.int .i64 (vi k),.int .u64 0,.string ByteArray.empty,aG tb k] 143)).alloc (.cells #[.int .i64 (vk v),.int .i64 (vi v),.int .u64 0,.string ByteArray.empty,aG tb v] 143)=w2 at *
 generalize hX:w.heap.size=X at *
 have HXE:=ah hX
 clear hX
 have HAK:=ah (ji w2 tb k)
 have x0:w2.cell? ⟨X,0,none⟩=some (.int .i64 (vk k)):=HX.o.cell (j:=0) (by omega)
 have x1:w2.cell? ⟨X,1,none⟩=some (.int .i64 (vi k)):=HX.o.cell (j:=1) (by omega)
 have x2:w2.cell? ⟨X,2,none⟩=some (.int .u64 0):=HX.o.cell (j:=2) (by omega)
 have x3:w2.cell? ⟨X,3,none⟩=some (.string ByteArray.empty):=HX.o.cell (j:=3) (by omega)
 have x4:w2.cell? ⟨X,4,none⟩=some (aG tb k):=HX.o.cell (j:=4) (by omega)
 go_wp2_with fail
 refine HAK.o.mono ?_
 rintro e3 w3 ⟨rfl,hb3⟩
 have K3:=ah (Keeps.of hb3 (Nat.le_refl _) (fun _=>False))
 have HX3:=ah (HX.o.keep K3.o id)
 have HY3:=ah (HY.o.keep K3.o id)
 have HB3:=ah (HB.o.trans (hb3.mono (Nat.le_of_lt (Nat.lt_trans (Nat.lt_succ_self X) HY.o.lt))))
 clear hb3 x0 x1 x2 x3 x4
 have x0:w3.cell? ⟨X,0,none⟩=some (.int .i64 (vk k)):=HX3.o.cell (j:=0) (by omega)
 have x1:w3.cell? ⟨X,1,none⟩=some (.int .i64 (vi k)):=HX3.o.cell (j:=1) (by omega)
 have x2:w3.cell? ⟨X,2,none⟩=some (.int .u64 0):=HX3.o.cell (j:=2) (by omega)
 have x3:w3.cell? ⟨X,3,none⟩=some (.string ByteArray.empty):=HX3.o.cell (j:=3) (by omega)
 have x4:w3.cell? ⟨X,4,none⟩=some (aG tb k):=HX3.o.cell (j:=4) (by omega)
 have z0:=HX3.o.Jv 0
 have z1:=HX3.o.Jv 1
 have z2:=HX3.o.Jv 2
 have z3:=HX3.o.Jv 3
 have z4:=HX3.o.Jv 4
 have HV5:=ah (p8 HX3.o tb k)
 go_upto_region 2 with (fail)
 generalize ((((w3.setCell ⟨X,0,none⟩ (.int .i64 (vk k))).setCell ⟨X,1,none⟩ (.int .i64 (vi k))).setCell ⟨X,2,none⟩ (.int .u64 0)).setCell ⟨X,3,none⟩ (.string ByteArray.empty)).setCell ⟨X,4,none⟩ (aG tb k)=w4 at *
 have HY4:=ah (HY3.o.keep HV5.o.2 (Nat.succ_ne_self X))
 have HB4:=ah (HB3.o.trans (HV5.o.2.below (B:=X) (Nat.le_of_lt HX3.o.lt) (fun b e=>Nat.le_of_eq e.symm)))
 clear x0 x1 x2 x3 x4 z0 z1 z2 z3 z4
 have HX4:=ah HV5.o.1
 have x0:w4.cell? ⟨X,0,none⟩=some (.int .i64 (vk k)):=HX4.o.cell (j:=0) (by omega)
 have x1:w4.cell? ⟨X,1,none⟩=some (.int .i64 (vi k)):=HX4.o.cell (j:=1) (by omega)
 have x2:w4.cell? ⟨X,2,none⟩=some (.int .u64 0):=HX4.o.cell (j:=2) (by omega)
 have x3:w4.cell? ⟨X,3,none⟩=some (.string ByteArray.empty):=HX4.o.cell (j:=3) (by omega)
 have x4:w4.cell? ⟨X,4,none⟩=some (aG tb k):=HX4.o.cell (j:=4) (by omega)
 have htl4:t<w4.heap.size:=Nat.lt_trans htl HX4.o.lt
 have hXl4:=HX4.o.lt
 have c8:w4.cell? ⟨t,8,none⟩=some mv:=(HB4.o.cell (p:=⟨t,8,none⟩) htl).trans (HT.o.r.cell (j:=8) (by omega))
 go_wp2_with fail
 go_region_held3 (fun w'=>w'.cell? ⟨t,8,none⟩=some mv/\w'.cell? ⟨X,0,none⟩=some (.int .i64 (vk k))/\w'.cell? ⟨X,1,none⟩=some (.int .i64 (vi k))/\w'.cell? ⟨X,2,none⟩=some (.int .u64 0)/\w'.cell? ⟨X,3,none⟩=some (.string ByteArray.empty)/\w'.cell? ⟨X,4,none⟩=some (aG tb k)) (go_keep)
  (first
    |(refine fG (.tmp 16) rfl tb k rfl (HTD.o _ (HB4.o.trans (ay (Below.refl _ _) _))) ?_
      intro w9 hb9x
      have hb9:Below w4.heap.size w4 w9:=(ay (Below.refl w4.heap.size w4) _).trans hb9x
      have HB9:=ah (HB4.o.trans (hb9.mono (Nat.le_of_lt hXl4)))
      have HX9:=ah (HX4.o.keep (Keeps.of hb9 (Nat.le_refl _) (fun _=>False)) id)
      have HY9:=ah (HY4.o.keep (Keeps.of hb9 (Nat.le_refl _) (fun _=>False)) id)
      have hlk:=HLK.o w9 HB9.o
      have t1:=(hb9.cell (p:=⟨t,8,none⟩) htl4).trans c8
      have t2:=(hb9.cell (p:=⟨X,0,none⟩) hXl4).trans x0
      have t3:=(hb9.cell (p:=⟨X,1,none⟩) hXl4).trans x1
      have t4:=(hb9.cell (p:=⟨X,2,none⟩) hXl4).trans x2
      have t5:=(hb9.cell (p:=⟨X,3,none⟩) hXl4).trans x3
      have t6:=(hb9.cell (p:=⟨X,4,none⟩) hXl4).trans x4
      clear hb9 hb9x)
    |fail)
 clear hlk c8 x0 x1 x2 x3 x4 t1 t2 t3 t4 t5 t6
 have y0:w9.cell? ⟨X+1,0,none⟩=some (.int .i64 (vk v)):=HY9.o.cell (j:=0) (by omega)
 have y1:w9.cell? ⟨X+1,1,none⟩=some (.int .i64 (vi v)):=HY9.o.cell (j:=1) (by omega)
 have y2:w9.cell? ⟨X+1,2,none⟩=some (.int .u64 0):=HY9.o.cell (j:=2) (by omega)
 have y3:w9.cell? ⟨X+1,3,none⟩=some (.string ByteArray.empty):=HY9.o.cell (j:=3) (by omega)
 have y4:w9.cell? ⟨X+1,4,none⟩=some (aG tb v):=HY9.o.cell (j:=4) (by omega)
 have HN:=ah (aZ w9 tb v)
 rw [hv] at HN
 clear hv
 go_wp2_with fail
 refine HN.o.mono ?_
 rintro e5 w5 ⟨rfl,hb5⟩
 have HB5:=ah (HB9.o.trans (hb5.mono (Nat.le_of_lt HX9.o.lt)))
 clear hb5 y0 y1 y2 y3 y4
 go_wp2
 go_ret
 exact ⟨rfl,by rw [HXE.o];exact HB5.o⟩
theorem xu (x:JL base tb t n o sz es ev mv w) {k v:HV} (hk:mD k) (hs:k.isSome=true) (hd:Hd tb w k) (hf:jJ es k=none) (hv:v.isNone=false) (hlen:es.length<=5000) (hde:∀ e∈es,Hd tb w e.1) (hkn:∀ e∈es,e.2.isSome=true->e.1.isSome=true) (hbs:base<=w.heap.size):
 Calls Tryz.prog 104 #[.pointer (some ⟨t,0,none⟩),.agg #[.int .i64 (vk k),.int .i64 (vi k),.int .u64 0,.string ByteArray.empty,aG tb k],.agg #[.int .i64 (vk v),.int .i64 (vi v),.int .u64 0,.string ByteArray.empty,aG tb v]] w fun e' w'=>e'=.returned (.int .i64 2)/\∃ ev' mv',JL base tb t n o sz (aI es++[(k,v)]) ev' mv' w'/\Keeps w w' (fun c=>c=t∨ev.ownBlock=some c∨bJ mv=some c)/\(∀ g,ev'.ownBlock=some g->ev.ownBlock=some g∨w.heap.size<=g)/\(∀ g,bJ mv'=some g->bJ mv=some g∨w.heap.size<=g):=by
 have HX:=ah ((bX w tb k).keep (Keeps.of (aJ (w.alloc (.cells #[.int .i64 (vk k),.int .i64 (vi k),.int .u64 0,.string ByteArray.empty,aG tb k] 143)) (.cells #[.int .i64 (vk v),.int .i64 (vi v),.int .u64 0,.string ByteArray.empty,aG tb v] 143)) (Nat.le_refl _) (fun _=>False)) (fun x=>x))
 have HY:=ah (bX (w.alloc (.cells #[.int .i64 (vk k),.int .i64 (vi k),.int .u64 0,.string ByteArray.empty,aG tb k] 143)) tb v)
 have HB:=ah ((aJ w (.cells #[.int .i64 (vk k),.int .i64 (vi k),.int .u64 0,.string ByteArray.empty,aG tb k] 143)).trans ((aJ (w.alloc (.cells #[.int .i64 (vk k),.int .i64 (vi k),.int .u64 0,.string ByteArray.empty,aG tb k] 143)) (.cells #[.int .i64 (vk v),.int .i64 (vi v),.int .u64 0,.string ByteArray.empty,aG tb v] 143)).mono (aJ w (.cells #[.int .i64 (vk k),.int .i64 (vi k),.int .u64 0,.string ByteArray.empty,aG tb k] 143)).size))
 have hZ:(w.alloc (.cells #[.int .i64 (vk k),.int .i64 (vi k),.int .u64 0,.string ByteArray.empty,aG tb k] 143)).heap.size=w.heap.size+1:=Array.size_push _
 rw [hZ] at HY
 clear hZ
 have htl:=x.r.lt
 have HT:=ah x
 have HD:=ah hd
 have hX0:t≠w.heap.size:=by omega
 have hX1:t≠w.heap.size+1:=by omega
 have HLK:=ah (fun (w':World) (hb:Below w.heap.size w w')=>oL (x.low hb).m hk hs)
 rw [hf] at HLK
 have HTD:=ah (fun (w':World) (hb:Below w.heap.size w w')=>(hd.low hb).c)
 clear x hd
 go_enter Tryz.func104,Tryz.ntmps104
 go_upto_region 1 with (fail)
 change Code.wp _ _ _ _ ((w.alloc (.cells #[.int .i64 (vk k),.int .i64 (vi k),.int .u64 0,.string ByteArray.empty,aG tb k] 143)).alloc (.cells #[.int .i64 (vk v),.int .i64 (vi v),.int .u64 0,.string ByteArray.empty,aG tb v] 143))
 generalize (w.alloc (.cells #[.int .i64 (vk k),.int .i64 (vi k),.int .u64 0,.string ByteArray.empty,aG tb k] 143)).alloc (.cells #[.int .i64 (vk v),.int .i64 (vi v),.int .u64 0,.string ByteArray.empty,aG tb v] 143)=w2 at *
 generalize hX:w.heap.size=X at *
 have HXE:=ah hX
 clear hX
 have HAK:=ah (ji w2 tb k)
 have x0:w2.cell? ⟨X,0,none⟩=some (.int .i64 (vk k)):=HX.o.cell (j:=0) (by omega)
 have x1:w2.cell? ⟨X,1,none⟩=some (.int .i64 (vi k)):=HX.o.cell (j:=1) (by omega)
 have x2:w2.cell? ⟨X,2,none⟩=some (.int .u64 0):=HX.o.cell (j:=2) (by omega)
 have x3:w2.cell? ⟨X,3,none⟩=some (.string ByteArray.empty):=HX.o.cell (j:=3) (by omega)
 have x4:w2.cell? ⟨X,4,none⟩=some (aG tb k):=HX.o.cell (j:=4) (by omega)
 go_wp2_with fail
 refine HAK.o.mono ?_
 rintro e3 w3 ⟨rfl,hb3⟩
 have K3:=ah (Keeps.of hb3 (Nat.le_refl _) (fun _=>False))
 have HX3:=ah (HX.o.keep K3.o id)
 have HY3:=ah (HY.o.keep K3.o id)
 have HB3:=ah (HB.o.trans (hb3.mono (Nat.le_of_lt (Nat.lt_trans (Nat.lt_succ_self X) HY.o.lt))))
 clear hb3 x0 x1 x2 x3 x4
 have x0:w3.cell? ⟨X,0,none⟩=some (.int .i64 (vk k)):=HX3.o.cell (j:=0) (by omega)
 have x1:w3.cell? ⟨X,1,none⟩=some (.int .i64 (vi k)):=HX3.o.cell (j:=1) (by omega)
 have x2:w3.cell? ⟨X,2,none⟩=some (.int .u64 0):=HX3.o.cell (j:=2) (by omega)
 have x3:w3.cell? ⟨X,3,none⟩=some (.string ByteArray.empty):=HX3.o.cell (j:=3) (by omega)
 have x4:w3.cell? ⟨X,4,none⟩=some (aG tb k):=HX3.o.cell (j:=4) (by omega)
 have z0:=HX3.o.Jv 0
 have z1:=HX3.o.Jv 1
 have z2:=HX3.o.Jv 2
 have z3:=HX3.o.Jv 3
 have z4:=HX3.o.Jv 4
 have HV5:=ah (p8 HX3.o tb k)
 go_upto_region 2 with (fail)
 generalize ((((w3.setCell ⟨X,0,none⟩ (.int .i64 (vk k))).setCell ⟨X,1,none⟩ (.int .i64 (vi k))).setCell ⟨X,2,none⟩ (.int .u64 0)).setCell ⟨X,3,none⟩ (.string ByteArray.empty)).setCell ⟨X,4,none⟩ (aG tb k)=w4 at *
 have HY4:=ah (HY3.o.keep HV5.o.2 (Nat.succ_ne_self X))
 have HB4:=ah (HB3.o.trans (HV5.o.2.below (B:=X) (Nat.le_of_lt HX3.o.lt) (fun b e=>Nat.le_of_eq e.symm)))
 clear x0 x1 x2 x3 x4 z0 z1 z2 z3 z4
 have HX4:=ah HV5.o.1
 have x0:w4.cell? ⟨X,0,none⟩=some (.int .i64 (vk k)):=HX4.o.cell (j:=0) (by omega)
 have x1:w4.cell? ⟨X,1,none⟩=some (.int .i64 (vi k)):=HX4.o.cell (j:=1) (by omega)
 have x2:w4.cell? ⟨X,2,none⟩=some (.int .u64 0):=HX4.o.cell (j:=2) (by omega)
 have x3:w4.cell? ⟨X,3,none⟩=some (.string ByteArray.empty):=HX4.o.cell (j:=3) (by omega)
 have x4:w4.cell? ⟨X,4,none⟩=some (aG tb k):=HX4.o.cell (j:=4) (by omega)
 have htl4:t<w4.heap.size:=Nat.lt_trans htl HX4.o.lt
 have hXl4:=HX4.o.lt
 have c8:w4.cell? ⟨t,8,none⟩=some mv:=(HB4.o.cell (p:=⟨t,8,none⟩) htl).trans (HT.o.r.cell (j:=8) (by omega))
 go_wp2_with fail
 go_region_held3 (fun w'=>w'.cell? ⟨t,8,none⟩=some mv/\w'.cell? ⟨X,0,none⟩=some (.int .i64 (vk k))/\w'.cell? ⟨X,1,none⟩=some (.int .i64 (vi k))/\w'.cell? ⟨X,2,none⟩=some (.int .u64 0)/\w'.cell? ⟨X,3,none⟩=some (.string ByteArray.empty)/\w'.cell? ⟨X,4,none⟩=some (aG tb k)) (go_keep)
  (first
    |(refine fG (.tmp 16) rfl tb k rfl (HTD.o _ (HB4.o.trans (ay (Below.refl _ _) _))) ?_
      intro w9 hb9x
      have hb9:Below w4.heap.size w4 w9:=(ay (Below.refl w4.heap.size w4) _).trans hb9x
      have HB9:=ah (HB4.o.trans (hb9.mono (Nat.le_of_lt hXl4)))
      have HX9:=ah (HX4.o.keep (Keeps.of hb9 (Nat.le_refl _) (fun _=>False)) id)
      have HY9:=ah (HY4.o.keep (Keeps.of hb9 (Nat.le_refl _) (fun _=>False)) id)
      have hlk:=HLK.o w9 HB9.o
      have t1:=(hb9.cell (p:=⟨t,8,none⟩) htl4).trans c8
      have t2:=(hb9.cell (p:=⟨X,0,none⟩) hXl4).trans x0
      have t3:=(hb9.cell (p:=⟨X,1,none⟩) hXl4).trans x1
      have t4:=(hb9.cell (p:=⟨X,2,none⟩) hXl4).trans x2
      have t5:=(hb9.cell (p:=⟨X,3,none⟩) hXl4).trans x3
      have t6:=(hb9.cell (p:=⟨X,4,none⟩) hXl4).trans x4
      clear hb9 hb9x)
    |fail)
 clear hlk c8 x0 x1 x2 x3 x4 t1 t2 t3 t4 t5 t6
 have y0:w9.cell? ⟨X+1,0,none⟩=some (.int .i64 (vk v)):=HY9.o.cell (j:=0) (by omega)
 have y1:w9.cell? ⟨X+1,1,none⟩=some (.int .i64 (vi v)):=HY9.o.cell (j:=1) (by omega)
 have y2:w9.cell? ⟨X+1,2,none⟩=some (.int .u64 0):=HY9.o.cell (j:=2) (by omega)
 have y3:w9.cell? ⟨X+1,3,none⟩=some (.string ByteArray.empty):=HY9.o.cell (j:=3) (by omega)
 have y4:w9.cell? ⟨X+1,4,none⟩=some (aG tb v):=HY9.o.cell (j:=4) (by omega)
 have HN:=ah (aZ w9 tb v)
 rw [hv] at HN
 have HVN:=ah hv
 have HNF:=ah (BU hf)
 have HDE:=ah hde
 have HKN:=ah hkn
 clear hv hf hde hkn
 go_wp2_with fail
 refine HN.o.mono ?_
 rintro e5 w5 ⟨rfl,hb5⟩
 have HB5:=ah (HB9.o.trans (hb5.mono (Nat.le_of_lt HX9.o.lt)))
 have HX5:=ah (HX9.o.keep (Keeps.of hb5 (Nat.le_refl _) (fun _=>False)) id)
 have HY5:=ah (HY9.o.keep (Keeps.of hb5 (Nat.le_refl _) (fun _=>False)) id)
 clear hb5 y0 y1 y2 y3 y4
 have HB5w:=ah (show Below w.heap.size w w5 by rw [HXE.o];exact HB5.o)
 have HT5:=ah (HT.o.low HB5w.o)
 have HC:=ah (tq HT5.o hlen)
 by_cases hcr:16<=es.length/\es.length<2*aK es
 ·rw [show decide (16<=es.length/\es.length<2*aK es)=true by simpa using hcr] at HC
  have HTI:Hq (aI es=es.filter fun e=>e.2.isSome):=ah (by unfold aI;rw [if_neg (by omega)])
  have hb1:1<=aK es:=by omega
  clear hcr
  go_wp2_with fail
  refine HC.o.mono ?_
  rintro e6 w6 ⟨rfl,hb6⟩
  have HB6w:=ah (HB5w.o.trans (hb6.mono HB5w.o.size))
  have HT6:=ah (HT5.o.low hb6)
  have HX6:=ah (HX5.o.keep (Keeps.of hb6 (Nat.le_refl _) (fun _=>False)) id)
  have HY6:=ah (HY5.o.keep (Keeps.of hb6 (Nat.le_refl _) (fun _=>False)) id)
  clear hb6
  have HTO:=ah (zo HT6.o hlen hb1 (fun e he=>(HDE.o e he).low HB6w.o) HKN.o)
  go_wp2_with fail
  refine HTO.o.mono ?_
  rintro e7 w7 ⟨rfl,ev7,ht7,hk7,he7⟩
  have HT7:=ah ht7
  have K7:=ah hk7
  have HE7:=ah he7
  have hX7:∀ q f,aD w6 143 q 5 f->¬ (q=t∨ev.ownBlock=some q∨bJ mv=some q):=fun q f hr c=>by
   rcases c with c|c|c
   ·exact hr.apart HT6.o.r (by decide) c
   ·exact ak HT6.o.e hr (by decide) c
   ·exact HT6.o.m.apart hr c
  have HX7:=ah (HX6.o.keep hk7 (hX7 _ _ HX6.o))
  have HY7:=ah (HY6.o.keep hk7 (hX7 _ _ HY6.o))
  have HD7:=ah ((HD.o.low HB6w.o).next HT6.o ht7 hk7)
  have hl7:(es.filter fun e=>e.2.isSome).length<=5000:=Nat.le_trans (List.length_filter_le _ _) hlen
  clear ht7 hk7 he7 hX7
  have HAD:=ah (pR HT7.o hl7 (k:=k) (v:=v) hk hs HVN.o (fun e he=>HNF.o e (List.mem_filter.1 he).1) HD7.o (Nat.le_trans (by rw [<-HXE.o] at hbs;exact hbs) (Nat.le_trans HB6w.o.size K7.o.size)))
  have x0:w7.cell? ⟨X,0,none⟩=some (.int .i64 (vk k)):=HX7.o.cell (j:=0) (by omega)
  have x1:w7.cell? ⟨X,1,none⟩=some (.int .i64 (vi k)):=HX7.o.cell (j:=1) (by omega)
  have x2:w7.cell? ⟨X,2,none⟩=some (.int .u64 0):=HX7.o.cell (j:=2) (by omega)
  have x3:w7.cell? ⟨X,3,none⟩=some (.string ByteArray.empty):=HX7.o.cell (j:=3) (by omega)
  have x4:w7.cell? ⟨X,4,none⟩=some (aG tb k):=HX7.o.cell (j:=4) (by omega)
  have y0:w7.cell? ⟨X+1,0,none⟩=some (.int .i64 (vk v)):=HY7.o.cell (j:=0) (by omega)
  have y1:w7.cell? ⟨X+1,1,none⟩=some (.int .i64 (vi v)):=HY7.o.cell (j:=1) (by omega)
  have y2:w7.cell? ⟨X+1,2,none⟩=some (.int .u64 0):=HY7.o.cell (j:=2) (by omega)
  have y3:w7.cell? ⟨X+1,3,none⟩=some (.string ByteArray.empty):=HY7.o.cell (j:=3) (by omega)
  have y4:w7.cell? ⟨X+1,4,none⟩=some (aG tb v):=HY7.o.cell (j:=4) (by omega)
  go_wp2_with fail
  refine HAD.o.mono ?_
  rintro e8 w8 ⟨rfl,ev8,mv8,ht8,hk8,he8,hm8⟩
  have H8:=ah (And.intro ht8 (And.intro hk8 (And.intro he8 hm8)))
  clear ht8 hk8 he8 hm8
  go_wp2
  go_ret
  have hsz:w.heap.size<=w7.heap.size:=Nat.le_trans HB6w.o.size K7.o.size
  refine ⟨rfl,ev8,mv8,by rw [HTI.o];exact H8.o.1,((Keeps.of HB6w.o (Nat.le_refl _) _).trans K7.o).trans (H8.o.2.1.mono (fun c e=>by rw [HE7.o] at e;exact e)),fun g hg=>?_,fun g hg=>?_⟩
  ·rcases H8.o.2.2.1 g hg with y|y
   ·exact .inl (by rw [<-HE7.o];exact y)
   ·exact .inr (Nat.le_trans hsz y)
  ·rcases H8.o.2.2.2 g hg with y|y
   ·exact .inl y
   ·exact .inr (Nat.le_trans hsz y)
 ·rw [show decide (16<=es.length/\es.length<2*aK es)=false by simpa using hcr] at HC
  have HTI:Hq (aI es=es):=ah (by unfold aI;rw [if_pos (by omega)])
  clear hcr
  go_wp2_with fail
  refine HC.o.mono ?_
  rintro e6 w6 ⟨rfl,hb6⟩
  have HB6w:=ah (HB5w.o.trans (hb6.mono HB5w.o.size))
  have HT6:=ah (HT5.o.low hb6)
  have HX6:=ah (HX5.o.keep (Keeps.of hb6 (Nat.le_refl _) (fun _=>False)) id)
  have HY6:=ah (HY5.o.keep (Keeps.of hb6 (Nat.le_refl _) (fun _=>False)) id)
  clear hb6
  have HAD:=ah (pR HT6.o hlen (k:=k) (v:=v) hk hs HVN.o HNF.o (HD.o.low HB6w.o) (Nat.le_trans (by rw [<-HXE.o] at hbs;exact hbs) HB6w.o.size))
  have x0:w6.cell? ⟨X,0,none⟩=some (.int .i64 (vk k)):=HX6.o.cell (j:=0) (by omega)
  have x1:w6.cell? ⟨X,1,none⟩=some (.int .i64 (vi k)):=HX6.o.cell (j:=1) (by omega)
  have x2:w6.cell? ⟨X,2,none⟩=some (.int .u64 0):=HX6.o.cell (j:=2) (by omega)
  have x3:w6.cell? ⟨X,3,none⟩=some (.string ByteArray.empty):=HX6.o.cell (j:=3) (by omega)
  have x4:w6.cell? ⟨X,4,none⟩=some (aG tb k):=HX6.o.cell (j:=4) (by omega)
  have y0:w6.cell? ⟨X+1,0,none⟩=some (.int .i64 (vk v)):=HY6.o.cell (j:=0) (by omega)
  have y1:w6.cell? ⟨X+1,1,none⟩=some (.int .i64 (vi v)):=HY6.o.cell (j:=1) (by omega)
  have y2:w6.cell? ⟨X+1,2,none⟩=some (.int .u64 0):=HY6.o.cell (j:=2) (by omega)
  have y3:w6.cell? ⟨X+1,3,none⟩=some (.string ByteArray.empty):=HY6.o.cell (j:=3) (by omega)
  have y4:w6.cell? ⟨X+1,4,none⟩=some (aG tb v):=HY6.o.cell (j:=4) (by omega)
  go_wp2_with fail
  refine HAD.o.mono ?_
  rintro e8 w8 ⟨rfl,ev8,mv8,ht8,hk8,he8,hm8⟩
  have H8:=ah (And.intro ht8 (And.intro hk8 (And.intro he8 hm8)))
  clear ht8 hk8 he8 hm8
  go_wp2
  go_ret
  refine ⟨rfl,ev8,mv8,by rw [HTI.o];exact H8.o.1,(Keeps.of HB6w.o (Nat.le_refl _) _).trans H8.o.2.1,fun g hg=>?_,fun g hg=>?_⟩
  ·exact (H8.o.2.2.1 g hg).imp id (Nat.le_trans HB6w.o.size)
  ·exact (H8.o.2.2.2 g hg).imp id (Nat.le_trans HB6w.o.size)
theorem yD (x:JL base tb t n o sz es ev mv w) {k v:HV} (hk:mD k) (hs:k.isSome=true) (hd:Hd tb w k) (hf:jJ es k=some i) {Z:World->World->Prop}
 (hp:∀ w',Below w.heap.size w w'->Calls Tryz.prog 123 #[.pointer (some ⟨t,0,none⟩),.int .i64 (i:Int),.agg #[.int .i64 (vk v),.int .i64 (vi v),.int .u64 0,.string ByteArray.empty,aG tb v]] w' fun e' w''=>e'=.returned (.tuple #[])/\Z w' w''):
 Calls Tryz.prog 104 #[.pointer (some ⟨t,0,none⟩),.agg #[.int .i64 (vk k),.int .i64 (vi k),.int .u64 0,.string ByteArray.empty,aG tb k],.agg #[.int .i64 (vk v),.int .i64 (vi v),.int .u64 0,.string ByteArray.empty,aG tb v]] w fun e' w'=>e'=.returned (.int .i64 1)/\∃ w1,Below w.heap.size w w1/\Z w1 w':=by
 have HPU:=ah hp
 clear hp
 have HX:=ah ((bX w tb k).keep (Keeps.of (aJ (w.alloc (.cells #[.int .i64 (vk k),.int .i64 (vi k),.int .u64 0,.string ByteArray.empty,aG tb k] 143)) (.cells #[.int .i64 (vk v),.int .i64 (vi v),.int .u64 0,.string ByteArray.empty,aG tb v] 143)) (Nat.le_refl _) (fun _=>False)) (fun x=>x))
 have HY:=ah (bX (w.alloc (.cells #[.int .i64 (vk k),.int .i64 (vi k),.int .u64 0,.string ByteArray.empty,aG tb k] 143)) tb v)
 have HB:=ah ((aJ w (.cells #[.int .i64 (vk k),.int .i64 (vi k),.int .u64 0,.string ByteArray.empty,aG tb k] 143)).trans ((aJ (w.alloc (.cells #[.int .i64 (vk k),.int .i64 (vi k),.int .u64 0,.string ByteArray.empty,aG tb k] 143)) (.cells #[.int .i64 (vk v),.int .i64 (vi v),.int .u64 0,.string ByteArray.empty,aG tb v] 143)).mono (aJ w (.cells #[.int .i64 (vk k),.int .i64 (vi k),.int .u64 0,.string ByteArray.empty,aG tb k] 143)).size))
 have hZ:(w.alloc (.cells #[.int .i64 (vk k),.int .i64 (vi k),.int .u64 0,.string ByteArray.empty,aG tb k] 143)).heap.size=w.heap.size+1:=Array.size_push _
 rw [hZ] at HY
 clear hZ
 have htl:=x.r.lt
 have HT:=ah x
 have HD:=ah hd
 have hX0:t≠w.heap.size:=by omega
 have hX1:t≠w.heap.size+1:=by omega
 have HLK:=ah (fun (w':World) (hb:Below w.heap.size w w')=>oL (x.low hb).m hk hs)
 rw [hf] at HLK
 have HTD:=ah (fun (w':World) (hb:Below w.heap.size w w')=>(hd.low hb).c)
 clear x hd
 go_enter Tryz.func104,Tryz.ntmps104
 go_upto_region 1 with (fail)
 change Code.wp _ _ _ _ ((w.alloc (.cells #[.int .i64 (vk k),.int .i64 (vi k),.int .u64 0,.string ByteArray.empty,aG tb k] 143)).alloc (.cells #[.int .i64 (vk v),.int .i64 (vi v),.int .u64 0,.string ByteArray.empty,aG tb v] 143))
 generalize (w.alloc (.cells #[.int .i64 (vk k),.int .i64 (vi k),.int .u64 0,.string ByteArray.empty,aG tb k] 143)).alloc (.cells #[.int .i64 (vk v),.int .i64 (vi v),.int .u64 0,.string ByteArray.empty,aG tb v] 143)=w2 at *
 generalize hX:w.heap.size=X at *
 have HXE:=ah hX
 clear hX
 have HAK:=ah (ji w2 tb k)
 have x0:w2.cell? ⟨X,0,none⟩=some (.int .i64 (vk k)):=HX.o.cell (j:=0) (by omega)
 have x1:w2.cell? ⟨X,1,none⟩=some (.int .i64 (vi k)):=HX.o.cell (j:=1) (by omega)
 have x2:w2.cell? ⟨X,2,none⟩=some (.int .u64 0):=HX.o.cell (j:=2) (by omega)
 have x3:w2.cell? ⟨X,3,none⟩=some (.string ByteArray.empty):=HX.o.cell (j:=3) (by omega)
 have x4:w2.cell? ⟨X,4,none⟩=some (aG tb k):=HX.o.cell (j:=4) (by omega)
 go_wp2_with fail
 refine HAK.o.mono ?_
 rintro e3 w3 ⟨rfl,hb3⟩
 have K3:=ah (Keeps.of hb3 (Nat.le_refl _) (fun _=>False))
 have HX3:=ah (HX.o.keep K3.o id)
 have HY3:=ah (HY.o.keep K3.o id)
 have HB3:=ah (HB.o.trans (hb3.mono (Nat.le_of_lt (Nat.lt_trans (Nat.lt_succ_self X) HY.o.lt))))
 clear hb3 x0 x1 x2 x3 x4
 have x0:w3.cell? ⟨X,0,none⟩=some (.int .i64 (vk k)):=HX3.o.cell (j:=0) (by omega)
 have x1:w3.cell? ⟨X,1,none⟩=some (.int .i64 (vi k)):=HX3.o.cell (j:=1) (by omega)
 have x2:w3.cell? ⟨X,2,none⟩=some (.int .u64 0):=HX3.o.cell (j:=2) (by omega)
 have x3:w3.cell? ⟨X,3,none⟩=some (.string ByteArray.empty):=HX3.o.cell (j:=3) (by omega)
 have x4:w3.cell? ⟨X,4,none⟩=some (aG tb k):=HX3.o.cell (j:=4) (by omega)
 have z0:=HX3.o.Jv 0
 have z1:=HX3.o.Jv 1
 have z2:=HX3.o.Jv 2
 have z3:=HX3.o.Jv 3
 have z4:=HX3.o.Jv 4
 have HV5:=ah (p8 HX3.o tb k)
 go_upto_region 2 with (fail)
 generalize ((((w3.setCell ⟨X,0,none⟩ (.int .i64 (vk k))).setCell ⟨X,1,none⟩ (.int .i64 (vi k))).setCell ⟨X,2,none⟩ (.int .u64 0)).setCell ⟨X,3,none⟩ (.string ByteArray.empty)).setCell ⟨X,4,none⟩ (aG tb k)=w4 at *
 have HY4:=ah (HY3.o.keep HV5.o.2 (Nat.succ_ne_self X))
 have HB4:=ah (HB3.o.trans (HV5.o.2.below (B:=X) (Nat.le_of_lt HX3.o.lt) (fun b e=>Nat.le_of_eq e.symm)))
 clear x0 x1 x2 x3 x4 z0 z1 z2 z3 z4
 have HX4:=ah HV5.o.1
 have x0:w4.cell? ⟨X,0,none⟩=some (.int .i64 (vk k)):=HX4.o.cell (j:=0) (by omega)
 have x1:w4.cell? ⟨X,1,none⟩=some (.int .i64 (vi k)):=HX4.o.cell (j:=1) (by omega)
 have x2:w4.cell? ⟨X,2,none⟩=some (.int .u64 0):=HX4.o.cell (j:=2) (by omega)
 have x3:w4.cell? ⟨X,3,none⟩=some (.string ByteArray.empty):=HX4.o.cell (j:=3) (by omega)
 have x4:w4.cell? ⟨X,4,none⟩=some (aG tb k):=HX4.o.cell (j:=4) (by omega)
 have htl4:t<w4.heap.size:=Nat.lt_trans htl HX4.o.lt
 have hXl4:=HX4.o.lt
 have c8:w4.cell? ⟨t,8,none⟩=some mv:=(HB4.o.cell (p:=⟨t,8,none⟩) htl).trans (HT.o.r.cell (j:=8) (by omega))
 go_wp2_with fail
 go_region_held3 (fun w'=>w'.cell? ⟨t,8,none⟩=some mv/\w'.cell? ⟨X,0,none⟩=some (.int .i64 (vk k))/\w'.cell? ⟨X,1,none⟩=some (.int .i64 (vi k))/\w'.cell? ⟨X,2,none⟩=some (.int .u64 0)/\w'.cell? ⟨X,3,none⟩=some (.string ByteArray.empty)/\w'.cell? ⟨X,4,none⟩=some (aG tb k)) (go_keep)
  (first
    |(refine fG (.tmp 16) rfl tb k rfl (HTD.o _ (HB4.o.trans (ay (Below.refl _ _) _))) ?_
      intro w9 hb9x
      have hb9:Below w4.heap.size w4 w9:=(ay (Below.refl w4.heap.size w4) _).trans hb9x
      have HB9:=ah (HB4.o.trans (hb9.mono (Nat.le_of_lt hXl4)))
      have HX9:=ah (HX4.o.keep (Keeps.of hb9 (Nat.le_refl _) (fun _=>False)) id)
      have HY9:=ah (HY4.o.keep (Keeps.of hb9 (Nat.le_refl _) (fun _=>False)) id)
      have hlk:=HLK.o w9 HB9.o
      have t1:=(hb9.cell (p:=⟨t,8,none⟩) htl4).trans c8
      have t2:=(hb9.cell (p:=⟨X,0,none⟩) hXl4).trans x0
      have t3:=(hb9.cell (p:=⟨X,1,none⟩) hXl4).trans x1
      have t4:=(hb9.cell (p:=⟨X,2,none⟩) hXl4).trans x2
      have t5:=(hb9.cell (p:=⟨X,3,none⟩) hXl4).trans x3
      have t6:=(hb9.cell (p:=⟨X,4,none⟩) hXl4).trans x4
      clear hb9 hb9x)
    |fail)
 clear hlk c8 x0 x1 x2 x3 x4 t1 t2 t3 t4 t5 t6
 have y0:w9.cell? ⟨X+1,0,none⟩=some (.int .i64 (vk v)):=HY9.o.cell (j:=0) (by omega)
 have y1:w9.cell? ⟨X+1,1,none⟩=some (.int .i64 (vi v)):=HY9.o.cell (j:=1) (by omega)
 have y2:w9.cell? ⟨X+1,2,none⟩=some (.int .u64 0):=HY9.o.cell (j:=2) (by omega)
 have y3:w9.cell? ⟨X+1,3,none⟩=some (.string ByteArray.empty):=HY9.o.cell (j:=3) (by omega)
 have y4:w9.cell? ⟨X+1,4,none⟩=some (aG tb v):=HY9.o.cell (j:=4) (by omega)
 have HPP:=ah (HPU.o w9 HB9.o)
 go_wp2_with fail
 refine HPP.o.mono ?_
 rintro e5 w5 ⟨rfl,hz5⟩
 have H5:=ah hz5
 clear hz5 y0 y1 y2 y3 y4
 go_wp2
 go_ret
 exact ⟨rfl,w9,by rw [HXE.o];exact HB9.o,H5.o⟩
theorem zI (a:JR base S h G L w) (ho:h.ob n=some o) {k v:HV} (hk:mD k) (hs:k.isSome=true) (hvk:fO h k) (hf:jJ o.es k=some i) (hlen:o.es.length<=5000):
 Calls Tryz.prog 104 #[.pointer (some ⟨L.tb n,0,none⟩),.agg #[.int .i64 (vk k),.int .i64 (vi k),.int .u64 0,.string ByteArray.empty,aG L.tb k],.agg #[.int .i64 (vk v),.int .i64 (vi v),.int .u64 0,.string ByteArray.empty,aG L.tb v]] w fun e' w'=>e'=.returned (.int .i64 1)/\JR base S (h.ents n (o.es.set i (k,v))) G L w'/\Keeps w w' S:=by
 obtain ⟨e,he,hek⟩:=rY hf
 refine (yD (Z:=fun w' w''=>JR base S (h.ents n (o.es.set i (k,v))) G L w''/\Keeps w' w'' S) (a.JA ho) hk hs (a.hd hvk) hf (fun w' hb=>?_)).mono ?_
 ·have:=lF (a.low hb) ho he v hlen
  rw [hek] at this
  exact this
 ·rintro e' w' ⟨rfl,w1,hb,h1,h2⟩
  exact ⟨rfl,h1,(Keeps.of hb (Nat.le_refl _) S).trans h2⟩
end
section
variable {G:Gh} {L L':PM} {S:Nat->Prop} {base c n:Nat} {h:Hp} {o:Ob} {w w':World} {x:List Nat}
attribute [local go_sem] bD
theorem Jm.of {g:Hp} (x:Jm G h c) (e:∀ n,g.Lv n↔h.Lv n):Jm G g c:=
 ⟨x.ks,x.sl,x.ku,fun n=>(x.kl n).trans ⟨fun y=>⟨(e n).2 y.1,y.2⟩,fun y=>⟨(e n).1 y.1,y.2⟩⟩,x.du,fun n=>(x.dl n).trans ⟨fun y=>⟨(e n).2 y.1,y.2⟩,fun y=>⟨(e n).1 y.1,y.2⟩⟩⟩
theorem PR.same {g:Hp} {y:List Nat} (r:PR h x y G) (hs:g.state=h.state) (hw:g.weak=h.weak) (he:g.D8=h.D8) (ha:g.again=h.again) (hp:g.D7=h.D7) (hl:g.objs.length=h.objs.length) (hv:∀ n,g.Lv n↔h.Lv n):PR g x y G:=
 ⟨fun e=>by rw [hw,he,ha];exact r.s1 (hs ▸ e),fun e=>by rw [hp];exact (r.s2 (hs ▸ e)).of hv,fun e=>(r.s0 (hs ▸ e)).of hv,by rw [hl];exact r.ol⟩
theorem Ac (h:Hp) (n:Nat) (es:List En) (m:Nat):(h.ents n es).Lv m↔h.Lv m:=by
 unfold Hp.Lv Hp.ents
 rw [Hp.Ed]
 split
 ·cases h.ob m<;>simp
 ·exact Iff.rfl
theorem BJ (h:Hp) (n:Nat) (m:Nat):(h.upd n fun o=>{ o with col:=2 }).Lv m↔h.Lv m:=by
 unfold Hp.Lv
 rw [Hp.Ed]
 split
 ·cases h.ob m<;>simp
 ·exact Iff.rfl
structure Jh (L L':PM):Prop where
 H:L'.H=L.H
 tb:L'.tb=L.tb
theorem JD.y (a:JD L L'):Jh L L':=⟨a.H,a.tb⟩
theorem Jh.refl (L:PM):Jh L L:=⟨rfl,rfl⟩
theorem Jh.trans {L L' L'':PM} (a:Jh L L') (b:Jh L' L''):Jh L L'':=⟨b.H.trans a.H,b.tb.trans a.tb⟩
theorem JR.I4 (a:JR base S h G L w) {e:Ending} (r:uT 67 base L.H 12 (L.li 12) (G.ag.map (cO L.tb 12)) (cO L.tb 12 n) w e w'):e=.returned (.tuple #[])/\∃ L',JD L L'/\JR base S h { G with ag:=G.ag++[n] } L' w'/\Keeps w w' S:=by
 obtain ⟨rfl,a2,k2,w1,rfl,h1,h2,h3⟩:=r
 have hlen:(G.ag.map (cO L.tb 12)).length+1=(G.ag++[n]).length:=by simp
 rw [hlen] at h1 h3 ⊢
 obtain ⟨-,p2,p3⟩:=a.Gm (h':=h) (G':={ G with ag:=G.ag++[n] }) 12 (by simp [b_]) h2 _ (by show World.ownsRow _ _ 67 _ _ (G.ag++[n]).length ((G.ag++[n]).map (cO L.tb 12));simpa using h1) h3 (fun _=>rfl) (fun j hj hn=>by rcases hj with rfl|rfl|rfl|rfl|rfl|rfl|rfl|rfl|rfl<;>first |rfl|exact absurd rfl hn) (aS _ rfl rfl rfl rfl rfl rfl rfl rfl rfl rfl rfl rfl rfl rfl rfl rfl rfl rfl rfl)
 exact ⟨rfl,{ L with li:=fun j=>if j=12 then .slice a2 (G.ag++[n]).length k2 else L.li j },⟨rfl,rfl,rfl,rfl⟩,p2,p3⟩
theorem mZ (p:PS base S h L w) (ho:h.ob n=some o) (hag:h.again.length<=20000):
 Calls Tryz.prog 106 #[.pointer (some ⟨L.H,0,none⟩),.pointer (some ⟨L.tb n,0,none⟩)] w fun e w'=>e=.returned (.tuple #[])/\∃ L',JD L L'/\PS base S (h.back n) L' w'/\Keeps w w' S:=by
 have c0:=p.cells.1
 obtain ⟨x,y,G,a,r⟩:=p
 have t0:w.cell? ⟨L.tb n,0,none⟩=some (.int .i64 (o.col:Int)):=(a.ob n o ho).cell (j:=0) (by omega)
 by_cases hs:h.state=1
 ·have hse:((h.state:Int)==1)=true:=by simp [hs]
  by_cases hc:o.col=3
  ·have hce:((o.col:Int)==3)=true:=by simp [hc]
   obtain ⟨rfl,rfl,hag2⟩:=r.s1 hs
   have HBK:Hq (h.back n={ h.upd n (fun o=>{ o with col:=2 }) with again:=h.again++[n] }):=ah (by unfold Hp.back;rw [ho];simp only;rw [if_pos ⟨hc,hs⟩])
   have z0:=(a.ob n o ho).Jv 0
   have HCL:=ah (JR.JE (show JR base S h G L w from a) n 0 (.int .i64 2) (fun o=>{ o with col:=2 }) (by decide) ho ⟨rfl,rfl⟩ (bK _ rfl rfl rfl rfl rfl rfl rfl rfl rfl rfl rfl rfl rfl))
   have HR:=ah r
   have HAG:=ah hag2
   have HST:=ah hs
   clear a r ho hc hs hag2
   go_enter Tryz.func106,Tryz.ntmps106
   go_upto_region 2 with (fail)
   generalize w.setCell ⟨L.tb n,0,none⟩ (.int .i64 2)=w3 at *
   have c12:w3.cell? ⟨L.H,12,none⟩=some (L.li 12):=HCL.o.1.hp.cell (j:=12) (by omega)
   have z12:=HCL.o.1.hp.Jv 12
   have hli:=HCL.o.1.li 12 (by simp [b_])
   have hli2:w3.ownsRow base 67 1 (L.li 12) (G.ag.map (cO L.tb 12)).length (G.ag.map (cO L.tb 12)):=by rw [List.length_map];exact hli
   have HAD:=ah (fF w3 base L.H 12 (L.li 12) (G.ag.map (cO L.tb 12)) (L.tb n) c12 z12 hli2 (fun e=>ak hli2 HCL.o.1.hp (by decide) e) (by rw [List.length_map,HAG.o];omega) HCL.o.1.bs)
   clear hli hli2 c12 z12 t0 z0 c0
   go_wp2_with fail
   refine HAD.o.mono ?_
   intro e4 w4 hr4
   obtain ⟨rfl,L4,hl4,ha4,hk4⟩:=HCL.o.1.I4 hr4
   have H4:=ah (And.intro hl4 (And.intro ha4 hk4))
   clear hr4 hl4 ha4 hk4
   go_wp2
   go_end0
   refine ⟨rfl,L4,H4.o.1,?_,HCL.o.2.trans H4.o.2.2⟩
   rw [HBK.o]
   refine ⟨h.weak,h.D8,{ G with ag:=G.ag++[n] },H4.o.2.1.aux (h.again++[n]) h.D7,⟨fun _=>⟨rfl,rfl,by rw [HAG.o]⟩,fun e=>?_,fun e=>?_,?_⟩⟩
   ·have h9:=HST.o
    have e':h.state=2:=e
    omega
   ·have:=HR.o.s0 e
    exact ⟨this.up,fun m=>(this.lv m).trans (BJ h n m).symm⟩
   ·show G.Jt.length<=(h.upd n fun o=>{ o with col:=2 }).objs.length
    rw [h.El]
    exact HR.o.ol
  ·have hce:((o.col:Int)==3)=false:=by simp;omega
   have HBK:Hq (h.back n=h):=ah (by unfold Hp.back;rw [ho];simp only;rw [if_neg (fun c=>hc c.1)])
   have HP:=ah (show PS base S h L w from ⟨x,y,G,a,r⟩)
   clear a r ho hc hs
   go_enter Tryz.func106,Tryz.ntmps106
   go_wp2
   go_end0
   exact ⟨rfl,L,JD.refl L,by rw [HBK.o];exact HP.o,Keeps.refl _ _⟩
 ·have hse:((h.state:Int)==1)=false:=by simp;omega
  have HBK:Hq (h.back n=h):=ah (by unfold Hp.back;rw [ho];simp only;rw [if_neg (fun c=>hs c.2)])
  have HP:=ah (show PS base S h L w from ⟨x,y,G,a,r⟩)
  clear a r ho hs
  go_enter Tryz.func106,Tryz.ntmps106
  go_wp2
  go_end0
  exact ⟨rfl,L,JD.refl L,by rw [HBK.o];exact HP.o,Keeps.refl _ _⟩
theorem iI (w:World) (t H:Nat) (s b d:Int) (h1:w.cell? ⟨t,2,none⟩=some (.int .i64 s)) (h2:w.cell? ⟨H,4,none⟩=some (.int .i64 b)) (z1:w.frozen? ⟨t,2,none⟩=false) (z2:w.frozen? ⟨H,4,none⟩=false) (hne:t≠H) (hs: -100000000<=s/\s<=100000000) (hb: -100000000<=b/\b<=100000000) (hd: -100000000<=d/\d<=100000000):
 Calls Tryz.prog 105 #[.pointer (some ⟨H,0,none⟩),.pointer (some ⟨t,0,none⟩),.int .i64 d] w fun e w'=>e=.returned (.tuple #[])/\w'=(w.setCell ⟨t,2,none⟩ (.int .i64 (s+d))).setCell ⟨H,4,none⟩ (.int .i64 (b+d)):=by
 have hne':H≠t:=fun c=>hne c.symm
 go_enter Tryz.func105,Tryz.ntmps105
 go_wp2
 go_end0
 exact ⟨rfl,rfl⟩
end
end Go.Proofs.YtedpifhlffcmkaaGreatDoor
