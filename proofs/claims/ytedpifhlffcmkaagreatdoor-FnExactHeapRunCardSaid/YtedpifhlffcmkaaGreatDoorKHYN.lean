import Derived.Test.YtedpifhlffcmkaaGreatDoorKHYM
namespace Go.Proofs.YtedpifhlffcmkaaGreatDoor
open Go Go.RowKit
set_option maxHeartbeats 6400000
set_option maxRecDepth 100000
set_option linter.unusedVariables false
variable {G:Gh} {L:PM} {S:Nat->Prop} {base i n t:Nat} {e:En} {ev mv:Value} {h:Hp} {o:Ob} {w:World}
attribute [local go_sem] bD
def mq (o:Ob) (n:Nat) (ev mv:Value) (B:Int) (k:Nat):Value:=if k=9 then .int .i64 B else lT o n ev mv k
theorem gU {B:Int} (h:aD w 136 t 13 (mq o n ev mv B)) (B':Int):aD (w.setCell ⟨t,9,none⟩ (.int .i64 B')) 136 t 13 (mq o n ev mv B'):=by
 refine (h.set (by decide) _).congr (fun k hk=>?_)
 unfold mq
 by_cases c:k=9
 ·subst c;rfl
 ·rw [if_neg c,if_neg c,if_neg c]
theorem zN (a:JR base S h G L w) (ho:h.ob n=some o) (hi:o.es[i]?=some e) (v:HV) (hlen:o.es.length<=5000) (he2:e.2.isNone=false) (hv2:v.isNone=false):
 Calls Tryz.prog 123 #[.pointer (some ⟨L.tb n,0,none⟩),.int .i64 (i:Int),.agg #[.int .i64 (vk v),.int .i64 (vi v),.int .u64 0,.string ByteArray.empty,aG L.tb v]] w fun e' w'=>e'=.returned (.tuple #[])/\JR base S (h.ents n (o.es.set i (e.1,v))) G L w'/\Keeps w w' S:=by
 have hil:i<o.es.length:=(List.getElem?_eq_some_iff.1 hi).1
 have hili:(i:Int)<(o.es.length:Int):=by omega
 have HX:=ah (bX w L.tb v)
 have HB:=ah (aJ w (.cells #[.int .i64 (vk v),.int .i64 (vi v),.int .u64 0,.string ByteArray.empty,aG L.tb v] 143))
 have HA:=ah (a.low (aJ w (.cells #[.int .i64 (vk v),.int .i64 (vi v),.int .u64 0,.string ByteArray.empty,aG L.tb v] 143)))
 have hsz:(w.alloc (.cells #[.int .i64 (vk v),.int .i64 (vi v),.int .u64 0,.string ByteArray.empty,aG L.tb v] 143)).heap.size=w.heap.size+1:=Array.size_push _
 have hXt:w.heap.size≠L.tb n:=by have:=(a.ob n o ho).lt;omega
 obtain ⟨A,cap,hev,hcap,hent⟩:=HA.o.ents ho
 obtain ⟨g,rfl,hglt,hcells⟩:=hent i e hi
 have hbl:=dP o.es
 obtain ⟨B,hB⟩:∃ B:Int,B=(aK o.es:Int):=⟨_,rfl⟩
 have hB1:0<=B:=by omega
 have hB2:B<=5000:=by omega
 have hbs:=dz hi (e.1,v)
 have HR:Hq (aD (w.alloc (.cells #[.int .i64 (vk v),.int .i64 (vi v),.int .u64 0,.string ByteArray.empty,aG L.tb v] 143)) 136 (L.tb n) 13 (mq o n (L.es n) (L.mp n) B)):=ah ((HA.o.ob n o ho).congr (fun k hk=>by
  unfold mq
  by_cases c:k=9
  ·subst c;rw [if_pos rfl,hB];rfl
  ·rw [if_neg c]))
 have HBF:Hq (B=(aK (o.es.set i (e.1,v)):Int)):=ah (by
  rw [he2,hv2] at hbs
  simp at hbs
  omega)
 have HO:=ah ho
 have HI:=ah hi
 have HE:=ah hev
 have HN1:=ah (aZ (w.alloc (.cells #[.int .i64 (vk v),.int .i64 (vi v),.int .u64 0,.string ByteArray.empty,aG L.tb v] 143)) L.tb e.2)
 rw [show e.2.isNone=false from he2] at HN1
 have HV0:=ah hv2
 clear a ho hi hent hbs hB hbl he2 hv2
 go_enter Tryz.func123,Tryz.ntmps123
 go_upto_region 1 with (fail)
 generalize w.alloc (.cells #[.int .i64 (vk v),.int .i64 (vi v),.int .u64 0,.string ByteArray.empty,aG L.tb v] 143)=w1 at *
 generalize hX:w.heap.size=X at *
 have HXE:=ah hX
 clear hX
 have c7:w1.cell? ⟨L.tb n,7,none⟩=some (.slice (some ⟨g,0,none⟩) o.es.length cap):=by rw [<-HE.o];exact HR.o.cell (j:=7) (by omega)
 have d5:=hcells 5 _ rfl
 have d6:=hcells 6 _ rfl
 have d7:=hcells 7 _ rfl
 have d8:=hcells 8 _ rfl
 have d9:=hcells 9 _ rfl
 have HC:=ah hcells
 clear hcells
 go_wp2_with fail
 refine HN1.o.mono ?_
 rintro e2 w2 ⟨rfl,hb2⟩
 have HK2:=ah (Keeps.of hb2 (Nat.le_refl _) (fun b=>b=L.tb n))
 have HX2:=ah (HX.o.keep (Keeps.of hb2 (Nat.le_refl _) (fun _=>False)) (fun y=>y))
 have HR2:=ah (HR.o.keep (Keeps.of hb2 (Nat.le_refl _) (fun _=>False)) (fun y=>y))
 clear hb2 c7 d5 d6 d7 d8 d9
 go_upto_region 4 with (fail)
 have HR3:=ah HR2.o
 have HX3:=ah HX2.o
 have HK3:=ah HK2.o
 generalize w2=w3 at *
 have x0:w3.cell? ⟨X,0,none⟩=some (.int .i64 (vk v)):=HX3.o.cell (j:=0) (by omega)
 have x1:w3.cell? ⟨X,1,none⟩=some (.int .i64 (vi v)):=HX3.o.cell (j:=1) (by omega)
 have x2:w3.cell? ⟨X,2,none⟩=some (.int .u64 0):=HX3.o.cell (j:=2) (by omega)
 have x3:w3.cell? ⟨X,3,none⟩=some (.string ByteArray.empty):=HX3.o.cell (j:=3) (by omega)
 have x4:w3.cell? ⟨X,4,none⟩=some (aG L.tb v):=HX3.o.cell (j:=4) (by omega)
 have HN2:=ah (aZ w3 L.tb v)
 rw [HV0.o] at HN2
 go_wp2_with fail
 refine HN2.o.mono ?_
 rintro e4 w4 ⟨rfl,hb4⟩
 have HK4:=ah (HK3.o.trans (Keeps.of hb4 (Nat.le_refl _) (fun b=>b=L.tb n)))
 have HX4:=ah (HX3.o.keep (Keeps.of hb4 (Nat.le_refl _) (fun _=>False)) (fun y=>y))
 have HR4:=ah (HR3.o.keep (Keeps.of hb4 (Nat.le_refl _) (fun _=>False)) (fun y=>y))
 clear hb4 x0 x1 x2 x3 x4
 go_upto_region 8 with (fail)
 have HK6:=ah HK4.o
 have HX6:=ah HX4.o
 have HR6:=ah HR4.o
 generalize w4=w6 at *
 have HEN:=ah (HA.o.en n o HO.o)
 have hgt:g≠L.tb n:=fun c=>(au HEN.o (g:=g) (by rw [HE.o];simp [Value.ownBlock])).apart (HA.o.ob n o HO.o) (by decide) c
 have x0:w6.cell? ⟨X,0,none⟩=some (.int .i64 (vk v)):=HX6.o.cell (j:=0) (by omega)
 have x1:w6.cell? ⟨X,1,none⟩=some (.int .i64 (vi v)):=HX6.o.cell (j:=1) (by omega)
 have x2:w6.cell? ⟨X,2,none⟩=some (.int .u64 0):=HX6.o.cell (j:=2) (by omega)
 have x3:w6.cell? ⟨X,3,none⟩=some (.string ByteArray.empty):=HX6.o.cell (j:=3) (by omega)
 have x4:w6.cell? ⟨X,4,none⟩=some (aG L.tb v):=HX6.o.cell (j:=4) (by omega)
 have y5:w6.cell? ⟨g,i*10+5,none⟩=some (.int .i64 (vk e.2)):=(World.cell?_of_block (a:=⟨g,i*10+5,none⟩) (HK6.o.block g hglt hgt)).trans (HC.o 5 _ rfl)
 have y6:w6.cell? ⟨g,i*10+6,none⟩=some (.int .i64 (vi e.2)):=(World.cell?_of_block (a:=⟨g,i*10+6,none⟩) (HK6.o.block g hglt hgt)).trans (HC.o 6 _ rfl)
 have y7:w6.cell? ⟨g,i*10+7,none⟩=some (.int .u64 0):=(World.cell?_of_block (a:=⟨g,i*10+7,none⟩) (HK6.o.block g hglt hgt)).trans (HC.o 7 _ rfl)
 have y8:w6.cell? ⟨g,i*10+8,none⟩=some (.string ByteArray.empty):=(World.cell?_of_block (a:=⟨g,i*10+8,none⟩) (HK6.o.block g hglt hgt)).trans (HC.o 8 _ rfl)
 have y9:w6.cell? ⟨g,i*10+9,none⟩=some (aG L.tb e.2):=(World.cell?_of_block (a:=⟨g,i*10+9,none⟩) (HK6.o.block g hglt hgt)).trans (HC.o 9 _ rfl)
 have hrg:=au HEN.o (g:=g) (by rw [HE.o];simp [Value.ownBlock])
 have zz:∀ j,w6.frozen? ⟨g,j,none⟩=false:=fun j=>(hrg.keep HK6.o hgt).Jv j
 clear hrg
 have HT:=ah (HA.o.Ik HO.o HI.out v HE.o HK6.o (HR6.o.congr (fun k hk=>by
  unfold mq
  by_cases c:k=9
  ·rw [if_pos c,if_pos c,HBF.o]
  ·rw [if_neg c,if_neg c])))
 go_wp2
 go_end0
 exact ⟨rfl,HT.o.1,(Keeps.of HB.o (Nat.le_of_eq HXE.o) S).trans HT.o.2⟩
theorem Ae (a:JR base S h G L w) (ho:h.ob n=some o) (hi:o.es[i]?=some e) (v:HV) (hlen:o.es.length<=5000) (he2:e.2.isNone=true) (hv2:v.isNone=false):
 Calls Tryz.prog 123 #[.pointer (some ⟨L.tb n,0,none⟩),.int .i64 (i:Int),.agg #[.int .i64 (vk v),.int .i64 (vi v),.int .u64 0,.string ByteArray.empty,aG L.tb v]] w fun e' w'=>e'=.returned (.tuple #[])/\JR base S (h.ents n (o.es.set i (e.1,v))) G L w'/\Keeps w w' S:=by
 have hil:i<o.es.length:=(List.getElem?_eq_some_iff.1 hi).1
 have hili:(i:Int)<(o.es.length:Int):=by omega
 have HX:=ah (bX w L.tb v)
 have HB:=ah (aJ w (.cells #[.int .i64 (vk v),.int .i64 (vi v),.int .u64 0,.string ByteArray.empty,aG L.tb v] 143))
 have HA:=ah (a.low (aJ w (.cells #[.int .i64 (vk v),.int .i64 (vi v),.int .u64 0,.string ByteArray.empty,aG L.tb v] 143)))
 have hsz:(w.alloc (.cells #[.int .i64 (vk v),.int .i64 (vi v),.int .u64 0,.string ByteArray.empty,aG L.tb v] 143)).heap.size=w.heap.size+1:=Array.size_push _
 have hXt:w.heap.size≠L.tb n:=by have:=(a.ob n o ho).lt;omega
 obtain ⟨A,cap,hev,hcap,hent⟩:=HA.o.ents ho
 obtain ⟨g,rfl,hglt,hcells⟩:=hent i e hi
 have hbl:=dP o.es
 obtain ⟨B,hB⟩:∃ B:Int,B=(aK o.es:Int):=⟨_,rfl⟩
 have hB1:0<=B:=by omega
 have hB2:B<=5000:=by omega
 have hbs:=dz hi (e.1,v)
 have HR:Hq (aD (w.alloc (.cells #[.int .i64 (vk v),.int .i64 (vi v),.int .u64 0,.string ByteArray.empty,aG L.tb v] 143)) 136 (L.tb n) 13 (mq o n (L.es n) (L.mp n) B)):=ah ((HA.o.ob n o ho).congr (fun k hk=>by
  unfold mq
  by_cases c:k=9
  ·subst c;rw [if_pos rfl,hB];rfl
  ·rw [if_neg c]))
 have HBF:Hq ((B-1)=(aK (o.es.set i (e.1,v)):Int)):=ah (by
  rw [he2,hv2] at hbs
  simp at hbs
  omega)
 have hB3:1<=B:=by
  have h9:=dz hi (e.1,some (.inl 0))
  rw [he2] at h9
  simp at h9
  omega
 have HO:=ah ho
 have HI:=ah hi
 have HE:=ah hev
 have HN1:=ah (aZ (w.alloc (.cells #[.int .i64 (vk v),.int .i64 (vi v),.int .u64 0,.string ByteArray.empty,aG L.tb v] 143)) L.tb e.2)
 rw [show e.2.isNone=true from he2] at HN1
 have HV0:=ah hv2
 clear a ho hi hent hbs hB hbl he2 hv2
 go_enter Tryz.func123,Tryz.ntmps123
 go_upto_region 1 with (fail)
 generalize w.alloc (.cells #[.int .i64 (vk v),.int .i64 (vi v),.int .u64 0,.string ByteArray.empty,aG L.tb v] 143)=w1 at *
 generalize hX:w.heap.size=X at *
 have HXE:=ah hX
 clear hX
 have c7:w1.cell? ⟨L.tb n,7,none⟩=some (.slice (some ⟨g,0,none⟩) o.es.length cap):=by rw [<-HE.o];exact HR.o.cell (j:=7) (by omega)
 have d5:=hcells 5 _ rfl
 have d6:=hcells 6 _ rfl
 have d7:=hcells 7 _ rfl
 have d8:=hcells 8 _ rfl
 have d9:=hcells 9 _ rfl
 have HC:=ah hcells
 clear hcells
 go_wp2_with fail
 refine HN1.o.mono ?_
 rintro e2 w2 ⟨rfl,hb2⟩
 have HK2:=ah (Keeps.of hb2 (Nat.le_refl _) (fun b=>b=L.tb n))
 have HX2:=ah (HX.o.keep (Keeps.of hb2 (Nat.le_refl _) (fun _=>False)) (fun y=>y))
 have HR2:=ah (HR.o.keep (Keeps.of hb2 (Nat.le_refl _) (fun _=>False)) (fun y=>y))
 clear hb2 c7 d5 d6 d7 d8 d9
 have c9:w2.cell? ⟨L.tb n,9,none⟩=some (.int .i64 B):=HR2.o.cell (j:=9) (by omega)
 have z9:=HR2.o.Jv 9
 go_upto_region 4 with (fail)
 have HR3:=ah (gU HR2.o (B-1))
 have HX3:=ah (HX2.o.keep (Keeps.setCell (S:=fun b=>b=L.tb n) (j:=9) (Keeps.refl w2 _) rfl (.int .i64 (B-1))) (fun y=>hXt y))
 have HK3:=ah (HK2.o.setCell (g:=L.tb n) (j:=9) rfl (.int .i64 (B-1)))
 generalize w2.setCell ⟨L.tb n,9,none⟩ (.int .i64 (B-1))=w3 at *
 clear c9 z9
 have x0:w3.cell? ⟨X,0,none⟩=some (.int .i64 (vk v)):=HX3.o.cell (j:=0) (by omega)
 have x1:w3.cell? ⟨X,1,none⟩=some (.int .i64 (vi v)):=HX3.o.cell (j:=1) (by omega)
 have x2:w3.cell? ⟨X,2,none⟩=some (.int .u64 0):=HX3.o.cell (j:=2) (by omega)
 have x3:w3.cell? ⟨X,3,none⟩=some (.string ByteArray.empty):=HX3.o.cell (j:=3) (by omega)
 have x4:w3.cell? ⟨X,4,none⟩=some (aG L.tb v):=HX3.o.cell (j:=4) (by omega)
 have HN2:=ah (aZ w3 L.tb v)
 rw [HV0.o] at HN2
 go_wp2_with fail
 refine HN2.o.mono ?_
 rintro e4 w4 ⟨rfl,hb4⟩
 have HK4:=ah (HK3.o.trans (Keeps.of hb4 (Nat.le_refl _) (fun b=>b=L.tb n)))
 have HX4:=ah (HX3.o.keep (Keeps.of hb4 (Nat.le_refl _) (fun _=>False)) (fun y=>y))
 have HR4:=ah (HR3.o.keep (Keeps.of hb4 (Nat.le_refl _) (fun _=>False)) (fun y=>y))
 clear hb4 x0 x1 x2 x3 x4
 go_upto_region 8 with (fail)
 have HK6:=ah HK4.o
 have HX6:=ah HX4.o
 have HR6:=ah HR4.o
 generalize w4=w6 at *
 have HEN:=ah (HA.o.en n o HO.o)
 have hgt:g≠L.tb n:=fun c=>(au HEN.o (g:=g) (by rw [HE.o];simp [Value.ownBlock])).apart (HA.o.ob n o HO.o) (by decide) c
 have x0:w6.cell? ⟨X,0,none⟩=some (.int .i64 (vk v)):=HX6.o.cell (j:=0) (by omega)
 have x1:w6.cell? ⟨X,1,none⟩=some (.int .i64 (vi v)):=HX6.o.cell (j:=1) (by omega)
 have x2:w6.cell? ⟨X,2,none⟩=some (.int .u64 0):=HX6.o.cell (j:=2) (by omega)
 have x3:w6.cell? ⟨X,3,none⟩=some (.string ByteArray.empty):=HX6.o.cell (j:=3) (by omega)
 have x4:w6.cell? ⟨X,4,none⟩=some (aG L.tb v):=HX6.o.cell (j:=4) (by omega)
 have y5:w6.cell? ⟨g,i*10+5,none⟩=some (.int .i64 (vk e.2)):=(World.cell?_of_block (a:=⟨g,i*10+5,none⟩) (HK6.o.block g hglt hgt)).trans (HC.o 5 _ rfl)
 have y6:w6.cell? ⟨g,i*10+6,none⟩=some (.int .i64 (vi e.2)):=(World.cell?_of_block (a:=⟨g,i*10+6,none⟩) (HK6.o.block g hglt hgt)).trans (HC.o 6 _ rfl)
 have y7:w6.cell? ⟨g,i*10+7,none⟩=some (.int .u64 0):=(World.cell?_of_block (a:=⟨g,i*10+7,none⟩) (HK6.o.block g hglt hgt)).trans (HC.o 7 _ rfl)
 have y8:w6.cell? ⟨g,i*10+8,none⟩=some (.string ByteArray.empty):=(World.cell?_of_block (a:=⟨g,i*10+8,none⟩) (HK6.o.block g hglt hgt)).trans (HC.o 8 _ rfl)
 have y9:w6.cell? ⟨g,i*10+9,none⟩=some (aG L.tb e.2):=(World.cell?_of_block (a:=⟨g,i*10+9,none⟩) (HK6.o.block g hglt hgt)).trans (HC.o 9 _ rfl)
 have hrg:=au HEN.o (g:=g) (by rw [HE.o];simp [Value.ownBlock])
 have zz:∀ j,w6.frozen? ⟨g,j,none⟩=false:=fun j=>(hrg.keep HK6.o hgt).Jv j
 clear hrg
 have HT:=ah (HA.o.Ik HO.o HI.out v HE.o HK6.o (HR6.o.congr (fun k hk=>by
  unfold mq
  by_cases c:k=9
  ·rw [if_pos c,if_pos c,HBF.o]
  ·rw [if_neg c,if_neg c])))
 go_wp2
 go_end0
 exact ⟨rfl,HT.o.1,(Keeps.of HB.o (Nat.le_of_eq HXE.o) S).trans HT.o.2⟩
theorem wm (a:JR base S h G L w) (ho:h.ob n=some o) (hi:o.es[i]?=some e) (v:HV) (hlen:o.es.length<=5000) (he2:e.2.isNone=false) (hv2:v.isNone=true) (hki:(vk e.1==2)=false):
 Calls Tryz.prog 123 #[.pointer (some ⟨L.tb n,0,none⟩),.int .i64 (i:Int),.agg #[.int .i64 (vk v),.int .i64 (vi v),.int .u64 0,.string ByteArray.empty,aG L.tb v]] w fun e' w'=>e'=.returned (.tuple #[])/\JR base S (h.ents n (o.es.set i (e.1,v))) G L w'/\Keeps w w' S:=by
 have hil:i<o.es.length:=(List.getElem?_eq_some_iff.1 hi).1
 have hili:(i:Int)<(o.es.length:Int):=by omega
 have HX:=ah (bX w L.tb v)
 have HB:=ah (aJ w (.cells #[.int .i64 (vk v),.int .i64 (vi v),.int .u64 0,.string ByteArray.empty,aG L.tb v] 143))
 have HA:=ah (a.low (aJ w (.cells #[.int .i64 (vk v),.int .i64 (vi v),.int .u64 0,.string ByteArray.empty,aG L.tb v] 143)))
 have hsz:(w.alloc (.cells #[.int .i64 (vk v),.int .i64 (vi v),.int .u64 0,.string ByteArray.empty,aG L.tb v] 143)).heap.size=w.heap.size+1:=Array.size_push _
 have hXt:w.heap.size≠L.tb n:=by have:=(a.ob n o ho).lt;omega
 obtain ⟨A,cap,hev,hcap,hent⟩:=HA.o.ents ho
 obtain ⟨g,rfl,hglt,hcells⟩:=hent i e hi
 have hbl:=dP o.es
 obtain ⟨B,hB⟩:∃ B:Int,B=(aK o.es:Int):=⟨_,rfl⟩
 have hB1:0<=B:=by omega
 have hB2:B<=5000:=by omega
 have hbs:=dz hi (e.1,v)
 have HR:Hq (aD (w.alloc (.cells #[.int .i64 (vk v),.int .i64 (vi v),.int .u64 0,.string ByteArray.empty,aG L.tb v] 143)) 136 (L.tb n) 13 (mq o n (L.es n) (L.mp n) B)):=ah ((HA.o.ob n o ho).congr (fun k hk=>by
  unfold mq
  by_cases c:k=9
  ·subst c;rw [if_pos rfl,hB];rfl
  ·rw [if_neg c]))
 have HBF:Hq ((B+1)=(aK (o.es.set i (e.1,v)):Int)):=ah (by
  rw [he2,hv2] at hbs
  simp at hbs
  omega)
 have HO:=ah ho
 have HI:=ah hi
 have HE:=ah hev
 have HN1:=ah (aZ (w.alloc (.cells #[.int .i64 (vk v),.int .i64 (vi v),.int .u64 0,.string ByteArray.empty,aG L.tb v] 143)) L.tb e.2)
 rw [show e.2.isNone=false from he2] at HN1
 have HV0:=ah hv2
 have HKI:=ah hki
 clear a ho hi hent hbs hB hbl he2 hv2 hki
 go_enter Tryz.func123,Tryz.ntmps123
 go_upto_region 1 with (fail)
 generalize w.alloc (.cells #[.int .i64 (vk v),.int .i64 (vi v),.int .u64 0,.string ByteArray.empty,aG L.tb v] 143)=w1 at *
 generalize hX:w.heap.size=X at *
 have HXE:=ah hX
 clear hX
 have c7:w1.cell? ⟨L.tb n,7,none⟩=some (.slice (some ⟨g,0,none⟩) o.es.length cap):=by rw [<-HE.o];exact HR.o.cell (j:=7) (by omega)
 have d5:=hcells 5 _ rfl
 have d6:=hcells 6 _ rfl
 have d7:=hcells 7 _ rfl
 have d8:=hcells 8 _ rfl
 have d9:=hcells 9 _ rfl
 have HC:=ah hcells
 clear hcells
 go_wp2_with fail
 refine HN1.o.mono ?_
 rintro e2 w2 ⟨rfl,hb2⟩
 have HK2:=ah (Keeps.of hb2 (Nat.le_refl _) (fun b=>b=L.tb n))
 have HX2:=ah (HX.o.keep (Keeps.of hb2 (Nat.le_refl _) (fun _=>False)) (fun y=>y))
 have HR2:=ah (HR.o.keep (Keeps.of hb2 (Nat.le_refl _) (fun _=>False)) (fun y=>y))
 clear hb2 c7 d5 d6 d7 d8 d9
 go_upto_region 4 with (fail)
 have HR3:=ah HR2.o
 have HX3:=ah HX2.o
 have HK3:=ah HK2.o
 generalize w2=w3 at *
 have x0:w3.cell? ⟨X,0,none⟩=some (.int .i64 (vk v)):=HX3.o.cell (j:=0) (by omega)
 have x1:w3.cell? ⟨X,1,none⟩=some (.int .i64 (vi v)):=HX3.o.cell (j:=1) (by omega)
 have x2:w3.cell? ⟨X,2,none⟩=some (.int .u64 0):=HX3.o.cell (j:=2) (by omega)
 have x3:w3.cell? ⟨X,3,none⟩=some (.string ByteArray.empty):=HX3.o.cell (j:=3) (by omega)
 have x4:w3.cell? ⟨X,4,none⟩=some (aG L.tb v):=HX3.o.cell (j:=4) (by omega)
 have HN2:=ah (aZ w3 L.tb v)
 rw [HV0.o] at HN2
 go_wp2_with fail
 refine HN2.o.mono ?_
 rintro e4 w4 ⟨rfl,hb4⟩
 have HK4:=ah (HK3.o.trans (Keeps.of hb4 (Nat.le_refl _) (fun b=>b=L.tb n)))
 have HX4:=ah (HX3.o.keep (Keeps.of hb4 (Nat.le_refl _) (fun _=>False)) (fun y=>y))
 have HR4:=ah (HR3.o.keep (Keeps.of hb4 (Nat.le_refl _) (fun _=>False)) (fun y=>y))
 clear hb4 x0 x1 x2 x3 x4
 have c9:w4.cell? ⟨L.tb n,9,none⟩=some (.int .i64 B):=HR4.o.cell (j:=9) (by omega)
 have z9:=HR4.o.Jv 9
 go_upto_region 6 with (fail)
 have HR5:=ah (gU HR4.o (B+1))
 have HX5:=ah (HX4.o.keep (Keeps.setCell (S:=fun b=>b=L.tb n) (j:=9) (Keeps.refl w4 _) rfl (.int .i64 (B+1))) (fun y=>hXt y))
 have HK5:=ah (HK4.o.setCell (g:=L.tb n) (j:=9) rfl (.int .i64 (B+1)))
 generalize w4.setCell ⟨L.tb n,9,none⟩ (.int .i64 (B+1))=w5 at *
 clear c9 z9
 have HEN:=ah (HA.o.en n o HO.o)
 have hgt:g≠L.tb n:=fun c=>(au HEN.o (g:=g) (by rw [HE.o];simp [Value.ownBlock])).apart (HA.o.ob n o HO.o) (by decide) c
 have k0:w5.cell? ⟨g,i*10,none⟩=some (.int .i64 (vk e.1)):=(World.cell?_of_block (a:=⟨g,i*10,none⟩) (HK5.o.block g hglt hgt)).trans (HC.o 0 _ rfl)
 have k1:w5.cell? ⟨g,i*10+1,none⟩=some (.int .i64 (vi e.1)):=(World.cell?_of_block (a:=⟨g,i*10+1,none⟩) (HK5.o.block g hglt hgt)).trans (HC.o 1 _ rfl)
 have hk2:=HKI.o
 go_upto_region 8 with (fail)
 have HK6:=ah HK5.o
 have HX6:=ah HX5.o
 have HR6:=ah HR5.o
 clear k0 k1 hk2
 generalize w5=w6 at *
 have x0:w6.cell? ⟨X,0,none⟩=some (.int .i64 (vk v)):=HX6.o.cell (j:=0) (by omega)
 have x1:w6.cell? ⟨X,1,none⟩=some (.int .i64 (vi v)):=HX6.o.cell (j:=1) (by omega)
 have x2:w6.cell? ⟨X,2,none⟩=some (.int .u64 0):=HX6.o.cell (j:=2) (by omega)
 have x3:w6.cell? ⟨X,3,none⟩=some (.string ByteArray.empty):=HX6.o.cell (j:=3) (by omega)
 have x4:w6.cell? ⟨X,4,none⟩=some (aG L.tb v):=HX6.o.cell (j:=4) (by omega)
 have y5:w6.cell? ⟨g,i*10+5,none⟩=some (.int .i64 (vk e.2)):=(World.cell?_of_block (a:=⟨g,i*10+5,none⟩) (HK6.o.block g hglt hgt)).trans (HC.o 5 _ rfl)
 have y6:w6.cell? ⟨g,i*10+6,none⟩=some (.int .i64 (vi e.2)):=(World.cell?_of_block (a:=⟨g,i*10+6,none⟩) (HK6.o.block g hglt hgt)).trans (HC.o 6 _ rfl)
 have y7:w6.cell? ⟨g,i*10+7,none⟩=some (.int .u64 0):=(World.cell?_of_block (a:=⟨g,i*10+7,none⟩) (HK6.o.block g hglt hgt)).trans (HC.o 7 _ rfl)
 have y8:w6.cell? ⟨g,i*10+8,none⟩=some (.string ByteArray.empty):=(World.cell?_of_block (a:=⟨g,i*10+8,none⟩) (HK6.o.block g hglt hgt)).trans (HC.o 8 _ rfl)
 have y9:w6.cell? ⟨g,i*10+9,none⟩=some (aG L.tb e.2):=(World.cell?_of_block (a:=⟨g,i*10+9,none⟩) (HK6.o.block g hglt hgt)).trans (HC.o 9 _ rfl)
 have hrg:=au HEN.o (g:=g) (by rw [HE.o];simp [Value.ownBlock])
 have zz:∀ j,w6.frozen? ⟨g,j,none⟩=false:=fun j=>(hrg.keep HK6.o hgt).Jv j
 clear hrg
 have HT:=ah (HA.o.Ik HO.o HI.out v HE.o HK6.o (HR6.o.congr (fun k hk=>by
  unfold mq
  by_cases c:k=9
  ·rw [if_pos c,if_pos c,HBF.o]
  ·rw [if_neg c,if_neg c])))
 go_wp2
 go_end0
 exact ⟨rfl,HT.o.1,(Keeps.of HB.o (Nat.le_of_eq HXE.o) S).trans HT.o.2⟩
theorem xq (a:JR base S h G L w) (ho:h.ob n=some o) (hi:o.es[i]?=some e) (v:HV) (hlen:o.es.length<=5000) (he2:e.2.isNone=false) (hv2:v.isNone=true) (hki:(vk e.1==2)=true):
 Calls Tryz.prog 123 #[.pointer (some ⟨L.tb n,0,none⟩),.int .i64 (i:Int),.agg #[.int .i64 (vk v),.int .i64 (vi v),.int .u64 0,.string ByteArray.empty,aG L.tb v]] w fun e' w'=>e'=.returned (.tuple #[])/\JR base S (h.ents n (o.es.set i (e.1,v))) G L w'/\Keeps w w' S:=by
 have hil:i<o.es.length:=(List.getElem?_eq_some_iff.1 hi).1
 have hili:(i:Int)<(o.es.length:Int):=by omega
 have HX:=ah (bX w L.tb v)
 have HB:=ah (aJ w (.cells #[.int .i64 (vk v),.int .i64 (vi v),.int .u64 0,.string ByteArray.empty,aG L.tb v] 143))
 have HA:=ah (a.low (aJ w (.cells #[.int .i64 (vk v),.int .i64 (vi v),.int .u64 0,.string ByteArray.empty,aG L.tb v] 143)))
 have hsz:(w.alloc (.cells #[.int .i64 (vk v),.int .i64 (vi v),.int .u64 0,.string ByteArray.empty,aG L.tb v] 143)).heap.size=w.heap.size+1:=Array.size_push _
 have hXt:w.heap.size≠L.tb n:=by have:=(a.ob n o ho).lt;omega
 obtain ⟨A,cap,hev,hcap,hent⟩:=HA.o.ents ho
 obtain ⟨g,rfl,hglt,hcells⟩:=hent i e hi
 have hbl:=dP o.es
 obtain ⟨B,hB⟩:∃ B:Int,B=(aK o.es:Int):=⟨_,rfl⟩
 have hB1:0<=B:=by omega
 have hB2:B<=5000:=by omega
 have hbs:=dz hi (e.1,v)
 have HR:Hq (aD (w.alloc (.cells #[.int .i64 (vk v),.int .i64 (vi v),.int .u64 0,.string ByteArray.empty,aG L.tb v] 143)) 136 (L.tb n) 13 (mq o n (L.es n) (L.mp n) B)):=ah ((HA.o.ob n o ho).congr (fun k hk=>by
  unfold mq
  by_cases c:k=9
  ·subst c;rw [if_pos rfl,hB];rfl
  ·rw [if_neg c]))
 have HBF:Hq ((B+1)=(aK (o.es.set i (e.1,v)):Int)):=ah (by
  rw [he2,hv2] at hbs
  simp at hbs
  omega)
 have HO:=ah ho
 have HI:=ah hi
 have HE:=ah hev
 have HN1:=ah (aZ (w.alloc (.cells #[.int .i64 (vk v),.int .i64 (vi v),.int .u64 0,.string ByteArray.empty,aG L.tb v] 143)) L.tb e.2)
 rw [show e.2.isNone=false from he2] at HN1
 have HV0:=ah hv2
 have HKI:=ah hki
 clear a ho hi hent hbs hB hbl he2 hv2 hki
 go_enter Tryz.func123,Tryz.ntmps123
 go_upto_region 1 with (fail)
 generalize w.alloc (.cells #[.int .i64 (vk v),.int .i64 (vi v),.int .u64 0,.string ByteArray.empty,aG L.tb v] 143)=w1 at *
 generalize hX:w.heap.size=X at *
 have HXE:=ah hX
 clear hX
 have c7:w1.cell? ⟨L.tb n,7,none⟩=some (.slice (some ⟨g,0,none⟩) o.es.length cap):=by rw [<-HE.o];exact HR.o.cell (j:=7) (by omega)
 have d5:=hcells 5 _ rfl
 have d6:=hcells 6 _ rfl
 have d7:=hcells 7 _ rfl
 have d8:=hcells 8 _ rfl
 have d9:=hcells 9 _ rfl
 have HC:=ah hcells
 clear hcells
 go_wp2_with fail
 refine HN1.o.mono ?_
 rintro e2 w2 ⟨rfl,hb2⟩
 have HK2:=ah (Keeps.of hb2 (Nat.le_refl _) (fun b=>b=L.tb n))
 have HX2:=ah (HX.o.keep (Keeps.of hb2 (Nat.le_refl _) (fun _=>False)) (fun y=>y))
 have HR2:=ah (HR.o.keep (Keeps.of hb2 (Nat.le_refl _) (fun _=>False)) (fun y=>y))
 clear hb2 c7 d5 d6 d7 d8 d9
 go_upto_region 4 with (fail)
 have HR3:=ah HR2.o
 have HX3:=ah HX2.o
 have HK3:=ah HK2.o
 generalize w2=w3 at *
 have x0:w3.cell? ⟨X,0,none⟩=some (.int .i64 (vk v)):=HX3.o.cell (j:=0) (by omega)
 have x1:w3.cell? ⟨X,1,none⟩=some (.int .i64 (vi v)):=HX3.o.cell (j:=1) (by omega)
 have x2:w3.cell? ⟨X,2,none⟩=some (.int .u64 0):=HX3.o.cell (j:=2) (by omega)
 have x3:w3.cell? ⟨X,3,none⟩=some (.string ByteArray.empty):=HX3.o.cell (j:=3) (by omega)
 have x4:w3.cell? ⟨X,4,none⟩=some (aG L.tb v):=HX3.o.cell (j:=4) (by omega)
 have HN2:=ah (aZ w3 L.tb v)
 rw [HV0.o] at HN2
 go_wp2_with fail
 refine HN2.o.mono ?_
 rintro e4 w4 ⟨rfl,hb4⟩
 have HK4:=ah (HK3.o.trans (Keeps.of hb4 (Nat.le_refl _) (fun b=>b=L.tb n)))
 have HX4:=ah (HX3.o.keep (Keeps.of hb4 (Nat.le_refl _) (fun _=>False)) (fun y=>y))
 have HR4:=ah (HR3.o.keep (Keeps.of hb4 (Nat.le_refl _) (fun _=>False)) (fun y=>y))
 clear hb4 x0 x1 x2 x3 x4
 have c9:w4.cell? ⟨L.tb n,9,none⟩=some (.int .i64 B):=HR4.o.cell (j:=9) (by omega)
 have z9:=HR4.o.Jv 9
 go_upto_region 6 with (fail)
 have HR5:=ah (gU HR4.o (B+1))
 have HX5:=ah (HX4.o.keep (Keeps.setCell (S:=fun b=>b=L.tb n) (j:=9) (Keeps.refl w4 _) rfl (.int .i64 (B+1))) (fun y=>hXt y))
 have HK5:=ah (HK4.o.setCell (g:=L.tb n) (j:=9) rfl (.int .i64 (B+1)))
 generalize w4.setCell ⟨L.tb n,9,none⟩ (.int .i64 (B+1))=w5 at *
 clear c9 z9
 have HEN:=ah (HA.o.en n o HO.o)
 have hgt:g≠L.tb n:=fun c=>(au HEN.o (g:=g) (by rw [HE.o];simp [Value.ownBlock])).apart (HA.o.ob n o HO.o) (by decide) c
 have k0:w5.cell? ⟨g,i*10,none⟩=some (.int .i64 (vk e.1)):=(World.cell?_of_block (a:=⟨g,i*10,none⟩) (HK5.o.block g hglt hgt)).trans (HC.o 0 _ rfl)
 have k1:w5.cell? ⟨g,i*10+1,none⟩=some (.int .i64 (vi e.1)):=(World.cell?_of_block (a:=⟨g,i*10+1,none⟩) (HK5.o.block g hglt hgt)).trans (HC.o 1 _ rfl)
 have hk2:=HKI.o
 have HL:=ah (fun m=>mR (w5.drewN m) (L.tb n) (vi e.1) (HR5.o.cell (j:=10) (by omega)) (HR5.o.cell (j:=11) (by omega)) (HR5.o.cell (j:=12) (by omega)))
 go_wp2_with fail
 go_quiet ((go_at_call 136;exact Calls.quiet_of_same (HL.o _)))
 go_upto_region 8 with (fail)
 have hb6:=ay (Below.refl w5.heap.size w5) nq
 have HK6:=ah (HK5.o.trans (Keeps.of hb6 (Nat.le_refl _) (fun b=>b=L.tb n)))
 have HX6:=ah (HX5.o.keep (Keeps.of hb6 (Nat.le_refl _) (fun _=>False)) (fun y=>y))
 have HR6:=ah (HR5.o.keep (Keeps.of hb6 (Nat.le_refl _) (fun _=>False)) (fun y=>y))
 clear hb6 k0 k1 hk2 HL
 generalize w5.drewN nq=w6 at *
 have x0:w6.cell? ⟨X,0,none⟩=some (.int .i64 (vk v)):=HX6.o.cell (j:=0) (by omega)
 have x1:w6.cell? ⟨X,1,none⟩=some (.int .i64 (vi v)):=HX6.o.cell (j:=1) (by omega)
 have x2:w6.cell? ⟨X,2,none⟩=some (.int .u64 0):=HX6.o.cell (j:=2) (by omega)
 have x3:w6.cell? ⟨X,3,none⟩=some (.string ByteArray.empty):=HX6.o.cell (j:=3) (by omega)
 have x4:w6.cell? ⟨X,4,none⟩=some (aG L.tb v):=HX6.o.cell (j:=4) (by omega)
 have y5:w6.cell? ⟨g,i*10+5,none⟩=some (.int .i64 (vk e.2)):=(World.cell?_of_block (a:=⟨g,i*10+5,none⟩) (HK6.o.block g hglt hgt)).trans (HC.o 5 _ rfl)
 have y6:w6.cell? ⟨g,i*10+6,none⟩=some (.int .i64 (vi e.2)):=(World.cell?_of_block (a:=⟨g,i*10+6,none⟩) (HK6.o.block g hglt hgt)).trans (HC.o 6 _ rfl)
 have y7:w6.cell? ⟨g,i*10+7,none⟩=some (.int .u64 0):=(World.cell?_of_block (a:=⟨g,i*10+7,none⟩) (HK6.o.block g hglt hgt)).trans (HC.o 7 _ rfl)
 have y8:w6.cell? ⟨g,i*10+8,none⟩=some (.string ByteArray.empty):=(World.cell?_of_block (a:=⟨g,i*10+8,none⟩) (HK6.o.block g hglt hgt)).trans (HC.o 8 _ rfl)
 have y9:w6.cell? ⟨g,i*10+9,none⟩=some (aG L.tb e.2):=(World.cell?_of_block (a:=⟨g,i*10+9,none⟩) (HK6.o.block g hglt hgt)).trans (HC.o 9 _ rfl)
 have hrg:=au HEN.o (g:=g) (by rw [HE.o];simp [Value.ownBlock])
 have zz:∀ j,w6.frozen? ⟨g,j,none⟩=false:=fun j=>(hrg.keep HK6.o hgt).Jv j
 clear hrg
 have HT:=ah (HA.o.Ik HO.o HI.out v HE.o HK6.o (HR6.o.congr (fun k hk=>by
  unfold mq
  by_cases c:k=9
  ·rw [if_pos c,if_pos c,HBF.o]
  ·rw [if_neg c,if_neg c])))
 go_wp2
 go_end0
 exact ⟨rfl,HT.o.1,(Keeps.of HB.o (Nat.le_of_eq HXE.o) S).trans HT.o.2⟩
theorem yT (a:JR base S h G L w) (ho:h.ob n=some o) (hi:o.es[i]?=some e) (v:HV) (hlen:o.es.length<=5000) (he2:e.2.isNone=true) (hv2:v.isNone=true) (hki:(vk e.1==2)=false):
 Calls Tryz.prog 123 #[.pointer (some ⟨L.tb n,0,none⟩),.int .i64 (i:Int),.agg #[.int .i64 (vk v),.int .i64 (vi v),.int .u64 0,.string ByteArray.empty,aG L.tb v]] w fun e' w'=>e'=.returned (.tuple #[])/\JR base S (h.ents n (o.es.set i (e.1,v))) G L w'/\Keeps w w' S:=by
 have hil:i<o.es.length:=(List.getElem?_eq_some_iff.1 hi).1
 have hili:(i:Int)<(o.es.length:Int):=by omega
 have HX:=ah (bX w L.tb v)
 have HB:=ah (aJ w (.cells #[.int .i64 (vk v),.int .i64 (vi v),.int .u64 0,.string ByteArray.empty,aG L.tb v] 143))
 have HA:=ah (a.low (aJ w (.cells #[.int .i64 (vk v),.int .i64 (vi v),.int .u64 0,.string ByteArray.empty,aG L.tb v] 143)))
 have hsz:(w.alloc (.cells #[.int .i64 (vk v),.int .i64 (vi v),.int .u64 0,.string ByteArray.empty,aG L.tb v] 143)).heap.size=w.heap.size+1:=Array.size_push _
 have hXt:w.heap.size≠L.tb n:=by have:=(a.ob n o ho).lt;omega
 obtain ⟨A,cap,hev,hcap,hent⟩:=HA.o.ents ho
 obtain ⟨g,rfl,hglt,hcells⟩:=hent i e hi
 have hbl:=dP o.es
 obtain ⟨B,hB⟩:∃ B:Int,B=(aK o.es:Int):=⟨_,rfl⟩
 have hB1:0<=B:=by omega
 have hB2:B<=5000:=by omega
 have hbs:=dz hi (e.1,v)
 have HR:Hq (aD (w.alloc (.cells #[.int .i64 (vk v),.int .i64 (vi v),.int .u64 0,.string ByteArray.empty,aG L.tb v] 143)) 136 (L.tb n) 13 (mq o n (L.es n) (L.mp n) B)):=ah ((HA.o.ob n o ho).congr (fun k hk=>by
  unfold mq
  by_cases c:k=9
  ·subst c;rw [if_pos rfl,hB];rfl
  ·rw [if_neg c]))
 have HBF:Hq (B=(aK (o.es.set i (e.1,v)):Int)):=ah (by
  rw [he2,hv2] at hbs
  simp at hbs
  omega)
 have hB3:1<=B:=by
  have h9:=dz hi (e.1,some (.inl 0))
  rw [he2] at h9
  simp at h9
  omega
 have HO:=ah ho
 have HI:=ah hi
 have HE:=ah hev
 have HN1:=ah (aZ (w.alloc (.cells #[.int .i64 (vk v),.int .i64 (vi v),.int .u64 0,.string ByteArray.empty,aG L.tb v] 143)) L.tb e.2)
 rw [show e.2.isNone=true from he2] at HN1
 have HV0:=ah hv2
 have HKI:=ah hki
 clear a ho hi hent hbs hB hbl he2 hv2 hki
 go_enter Tryz.func123,Tryz.ntmps123
 go_upto_region 1 with (fail)
 generalize w.alloc (.cells #[.int .i64 (vk v),.int .i64 (vi v),.int .u64 0,.string ByteArray.empty,aG L.tb v] 143)=w1 at *
 generalize hX:w.heap.size=X at *
 have HXE:=ah hX
 clear hX
 have c7:w1.cell? ⟨L.tb n,7,none⟩=some (.slice (some ⟨g,0,none⟩) o.es.length cap):=by rw [<-HE.o];exact HR.o.cell (j:=7) (by omega)
 have d5:=hcells 5 _ rfl
 have d6:=hcells 6 _ rfl
 have d7:=hcells 7 _ rfl
 have d8:=hcells 8 _ rfl
 have d9:=hcells 9 _ rfl
 have HC:=ah hcells
 clear hcells
 go_wp2_with fail
 refine HN1.o.mono ?_
 rintro e2 w2 ⟨rfl,hb2⟩
 have HK2:=ah (Keeps.of hb2 (Nat.le_refl _) (fun b=>b=L.tb n))
 have HX2:=ah (HX.o.keep (Keeps.of hb2 (Nat.le_refl _) (fun _=>False)) (fun y=>y))
 have HR2:=ah (HR.o.keep (Keeps.of hb2 (Nat.le_refl _) (fun _=>False)) (fun y=>y))
 clear hb2 c7 d5 d6 d7 d8 d9
 have c9:w2.cell? ⟨L.tb n,9,none⟩=some (.int .i64 B):=HR2.o.cell (j:=9) (by omega)
 have z9:=HR2.o.Jv 9
 go_upto_region 4 with (fail)
 have HR3:=ah (gU HR2.o (B-1))
 have HX3:=ah (HX2.o.keep (Keeps.setCell (S:=fun b=>b=L.tb n) (j:=9) (Keeps.refl w2 _) rfl (.int .i64 (B-1))) (fun y=>hXt y))
 have HK3:=ah (HK2.o.setCell (g:=L.tb n) (j:=9) rfl (.int .i64 (B-1)))
 generalize w2.setCell ⟨L.tb n,9,none⟩ (.int .i64 (B-1))=w3 at *
 clear c9 z9
 have x0:w3.cell? ⟨X,0,none⟩=some (.int .i64 (vk v)):=HX3.o.cell (j:=0) (by omega)
 have x1:w3.cell? ⟨X,1,none⟩=some (.int .i64 (vi v)):=HX3.o.cell (j:=1) (by omega)
 have x2:w3.cell? ⟨X,2,none⟩=some (.int .u64 0):=HX3.o.cell (j:=2) (by omega)
 have x3:w3.cell? ⟨X,3,none⟩=some (.string ByteArray.empty):=HX3.o.cell (j:=3) (by omega)
 have x4:w3.cell? ⟨X,4,none⟩=some (aG L.tb v):=HX3.o.cell (j:=4) (by omega)
 have HN2:=ah (aZ w3 L.tb v)
 rw [HV0.o] at HN2
 go_wp2_with fail
 refine HN2.o.mono ?_
 rintro e4 w4 ⟨rfl,hb4⟩
 have HK4:=ah (HK3.o.trans (Keeps.of hb4 (Nat.le_refl _) (fun b=>b=L.tb n)))
 have HX4:=ah (HX3.o.keep (Keeps.of hb4 (Nat.le_refl _) (fun _=>False)) (fun y=>y))
 have HR4:=ah (HR3.o.keep (Keeps.of hb4 (Nat.le_refl _) (fun _=>False)) (fun y=>y))
 clear hb4 x0 x1 x2 x3 x4
 have c9:w4.cell? ⟨L.tb n,9,none⟩=some (.int .i64 (B-1)):=HR4.o.cell (j:=9) (by omega)
 have z9:=HR4.o.Jv 9
 go_upto_region 6 with (fail)
 have HR5:=ah (gU HR4.o B)
 have HX5:=ah (HX4.o.keep (Keeps.setCell (S:=fun b=>b=L.tb n) (j:=9) (Keeps.refl w4 _) rfl (.int .i64 B)) (fun y=>hXt y))
 have HK5:=ah (HK4.o.setCell (g:=L.tb n) (j:=9) rfl (.int .i64 B))
 generalize w4.setCell ⟨L.tb n,9,none⟩ (.int .i64 B)=w5 at *
 clear c9 z9
 have HEN:=ah (HA.o.en n o HO.o)
 have hgt:g≠L.tb n:=fun c=>(au HEN.o (g:=g) (by rw [HE.o];simp [Value.ownBlock])).apart (HA.o.ob n o HO.o) (by decide) c
 have k0:w5.cell? ⟨g,i*10,none⟩=some (.int .i64 (vk e.1)):=(World.cell?_of_block (a:=⟨g,i*10,none⟩) (HK5.o.block g hglt hgt)).trans (HC.o 0 _ rfl)
 have k1:w5.cell? ⟨g,i*10+1,none⟩=some (.int .i64 (vi e.1)):=(World.cell?_of_block (a:=⟨g,i*10+1,none⟩) (HK5.o.block g hglt hgt)).trans (HC.o 1 _ rfl)
 have hk2:=HKI.o
 go_upto_region 8 with (fail)
 have HK6:=ah HK5.o
 have HX6:=ah HX5.o
 have HR6:=ah HR5.o
 clear k0 k1 hk2
 generalize w5=w6 at *
 have x0:w6.cell? ⟨X,0,none⟩=some (.int .i64 (vk v)):=HX6.o.cell (j:=0) (by omega)
 have x1:w6.cell? ⟨X,1,none⟩=some (.int .i64 (vi v)):=HX6.o.cell (j:=1) (by omega)
 have x2:w6.cell? ⟨X,2,none⟩=some (.int .u64 0):=HX6.o.cell (j:=2) (by omega)
 have x3:w6.cell? ⟨X,3,none⟩=some (.string ByteArray.empty):=HX6.o.cell (j:=3) (by omega)
 have x4:w6.cell? ⟨X,4,none⟩=some (aG L.tb v):=HX6.o.cell (j:=4) (by omega)
 have y5:w6.cell? ⟨g,i*10+5,none⟩=some (.int .i64 (vk e.2)):=(World.cell?_of_block (a:=⟨g,i*10+5,none⟩) (HK6.o.block g hglt hgt)).trans (HC.o 5 _ rfl)
 have y6:w6.cell? ⟨g,i*10+6,none⟩=some (.int .i64 (vi e.2)):=(World.cell?_of_block (a:=⟨g,i*10+6,none⟩) (HK6.o.block g hglt hgt)).trans (HC.o 6 _ rfl)
 have y7:w6.cell? ⟨g,i*10+7,none⟩=some (.int .u64 0):=(World.cell?_of_block (a:=⟨g,i*10+7,none⟩) (HK6.o.block g hglt hgt)).trans (HC.o 7 _ rfl)
 have y8:w6.cell? ⟨g,i*10+8,none⟩=some (.string ByteArray.empty):=(World.cell?_of_block (a:=⟨g,i*10+8,none⟩) (HK6.o.block g hglt hgt)).trans (HC.o 8 _ rfl)
 have y9:w6.cell? ⟨g,i*10+9,none⟩=some (aG L.tb e.2):=(World.cell?_of_block (a:=⟨g,i*10+9,none⟩) (HK6.o.block g hglt hgt)).trans (HC.o 9 _ rfl)
 have hrg:=au HEN.o (g:=g) (by rw [HE.o];simp [Value.ownBlock])
 have zz:∀ j,w6.frozen? ⟨g,j,none⟩=false:=fun j=>(hrg.keep HK6.o hgt).Jv j
 clear hrg
 have HT:=ah (HA.o.Ik HO.o HI.out v HE.o HK6.o (HR6.o.congr (fun k hk=>by
  unfold mq
  by_cases c:k=9
  ·rw [if_pos c,if_pos c,HBF.o]
  ·rw [if_neg c,if_neg c])))
 go_wp2
 go_end0
 exact ⟨rfl,HT.o.1,(Keeps.of HB.o (Nat.le_of_eq HXE.o) S).trans HT.o.2⟩
theorem w_ (a:JR base S h G L w) (ho:h.ob n=some o) (hi:o.es[i]?=some e) (v:HV) (hlen:o.es.length<=5000) (he2:e.2.isNone=true) (hv2:v.isNone=true) (hki:(vk e.1==2)=true):
 Calls Tryz.prog 123 #[.pointer (some ⟨L.tb n,0,none⟩),.int .i64 (i:Int),.agg #[.int .i64 (vk v),.int .i64 (vi v),.int .u64 0,.string ByteArray.empty,aG L.tb v]] w fun e' w'=>e'=.returned (.tuple #[])/\JR base S (h.ents n (o.es.set i (e.1,v))) G L w'/\Keeps w w' S:=by
 have hil:i<o.es.length:=(List.getElem?_eq_some_iff.1 hi).1
 have hili:(i:Int)<(o.es.length:Int):=by omega
 have HX:=ah (bX w L.tb v)
 have HB:=ah (aJ w (.cells #[.int .i64 (vk v),.int .i64 (vi v),.int .u64 0,.string ByteArray.empty,aG L.tb v] 143))
 have HA:=ah (a.low (aJ w (.cells #[.int .i64 (vk v),.int .i64 (vi v),.int .u64 0,.string ByteArray.empty,aG L.tb v] 143)))
 have hsz:(w.alloc (.cells #[.int .i64 (vk v),.int .i64 (vi v),.int .u64 0,.string ByteArray.empty,aG L.tb v] 143)).heap.size=w.heap.size+1:=Array.size_push _
 have hXt:w.heap.size≠L.tb n:=by have:=(a.ob n o ho).lt;omega
 obtain ⟨A,cap,hev,hcap,hent⟩:=HA.o.ents ho
 obtain ⟨g,rfl,hglt,hcells⟩:=hent i e hi
 have hbl:=dP o.es
 obtain ⟨B,hB⟩:∃ B:Int,B=(aK o.es:Int):=⟨_,rfl⟩
 have hB1:0<=B:=by omega
 have hB2:B<=5000:=by omega
 have hbs:=dz hi (e.1,v)
 have HR:Hq (aD (w.alloc (.cells #[.int .i64 (vk v),.int .i64 (vi v),.int .u64 0,.string ByteArray.empty,aG L.tb v] 143)) 136 (L.tb n) 13 (mq o n (L.es n) (L.mp n) B)):=ah ((HA.o.ob n o ho).congr (fun k hk=>by
  unfold mq
  by_cases c:k=9
  ·subst c;rw [if_pos rfl,hB];rfl
  ·rw [if_neg c]))
 have HBF:Hq (B=(aK (o.es.set i (e.1,v)):Int)):=ah (by
  rw [he2,hv2] at hbs
  simp at hbs
  omega)
 have hB3:1<=B:=by
  have h9:=dz hi (e.1,some (.inl 0))
  rw [he2] at h9
  simp at h9
  omega
 have HO:=ah ho
 have HI:=ah hi
 have HE:=ah hev
 have HN1:=ah (aZ (w.alloc (.cells #[.int .i64 (vk v),.int .i64 (vi v),.int .u64 0,.string ByteArray.empty,aG L.tb v] 143)) L.tb e.2)
 rw [show e.2.isNone=true from he2] at HN1
 have HV0:=ah hv2
 have HKI:=ah hki
 clear a ho hi hent hbs hB hbl he2 hv2 hki
 go_enter Tryz.func123,Tryz.ntmps123
 go_upto_region 1 with (fail)
 generalize w.alloc (.cells #[.int .i64 (vk v),.int .i64 (vi v),.int .u64 0,.string ByteArray.empty,aG L.tb v] 143)=w1 at *
 generalize hX:w.heap.size=X at *
 have HXE:=ah hX
 clear hX
 have c7:w1.cell? ⟨L.tb n,7,none⟩=some (.slice (some ⟨g,0,none⟩) o.es.length cap):=by rw [<-HE.o];exact HR.o.cell (j:=7) (by omega)
 have d5:=hcells 5 _ rfl
 have d6:=hcells 6 _ rfl
 have d7:=hcells 7 _ rfl
 have d8:=hcells 8 _ rfl
 have d9:=hcells 9 _ rfl
 have HC:=ah hcells
 clear hcells
 go_wp2_with fail
 refine HN1.o.mono ?_
 rintro e2 w2 ⟨rfl,hb2⟩
 have HK2:=ah (Keeps.of hb2 (Nat.le_refl _) (fun b=>b=L.tb n))
 have HX2:=ah (HX.o.keep (Keeps.of hb2 (Nat.le_refl _) (fun _=>False)) (fun y=>y))
 have HR2:=ah (HR.o.keep (Keeps.of hb2 (Nat.le_refl _) (fun _=>False)) (fun y=>y))
 clear hb2 c7 d5 d6 d7 d8 d9
 have c9:w2.cell? ⟨L.tb n,9,none⟩=some (.int .i64 B):=HR2.o.cell (j:=9) (by omega)
 have z9:=HR2.o.Jv 9
 go_upto_region 4 with (fail)
 have HR3:=ah (gU HR2.o (B-1))
 have HX3:=ah (HX2.o.keep (Keeps.setCell (S:=fun b=>b=L.tb n) (j:=9) (Keeps.refl w2 _) rfl (.int .i64 (B-1))) (fun y=>hXt y))
 have HK3:=ah (HK2.o.setCell (g:=L.tb n) (j:=9) rfl (.int .i64 (B-1)))
 generalize w2.setCell ⟨L.tb n,9,none⟩ (.int .i64 (B-1))=w3 at *
 clear c9 z9
 have x0:w3.cell? ⟨X,0,none⟩=some (.int .i64 (vk v)):=HX3.o.cell (j:=0) (by omega)
 have x1:w3.cell? ⟨X,1,none⟩=some (.int .i64 (vi v)):=HX3.o.cell (j:=1) (by omega)
 have x2:w3.cell? ⟨X,2,none⟩=some (.int .u64 0):=HX3.o.cell (j:=2) (by omega)
 have x3:w3.cell? ⟨X,3,none⟩=some (.string ByteArray.empty):=HX3.o.cell (j:=3) (by omega)
 have x4:w3.cell? ⟨X,4,none⟩=some (aG L.tb v):=HX3.o.cell (j:=4) (by omega)
 have HN2:=ah (aZ w3 L.tb v)
 rw [HV0.o] at HN2
 go_wp2_with fail
 refine HN2.o.mono ?_
 rintro e4 w4 ⟨rfl,hb4⟩
 have HK4:=ah (HK3.o.trans (Keeps.of hb4 (Nat.le_refl _) (fun b=>b=L.tb n)))
 have HX4:=ah (HX3.o.keep (Keeps.of hb4 (Nat.le_refl _) (fun _=>False)) (fun y=>y))
 have HR4:=ah (HR3.o.keep (Keeps.of hb4 (Nat.le_refl _) (fun _=>False)) (fun y=>y))
 clear hb4 x0 x1 x2 x3 x4
 have c9:w4.cell? ⟨L.tb n,9,none⟩=some (.int .i64 (B-1)):=HR4.o.cell (j:=9) (by omega)
 have z9:=HR4.o.Jv 9
 go_upto_region 6 with (fail)
 have HR5:=ah (gU HR4.o B)
 have HX5:=ah (HX4.o.keep (Keeps.setCell (S:=fun b=>b=L.tb n) (j:=9) (Keeps.refl w4 _) rfl (.int .i64 B)) (fun y=>hXt y))
 have HK5:=ah (HK4.o.setCell (g:=L.tb n) (j:=9) rfl (.int .i64 B))
 generalize w4.setCell ⟨L.tb n,9,none⟩ (.int .i64 B)=w5 at *
 clear c9 z9
 have HEN:=ah (HA.o.en n o HO.o)
 have hgt:g≠L.tb n:=fun c=>(au HEN.o (g:=g) (by rw [HE.o];simp [Value.ownBlock])).apart (HA.o.ob n o HO.o) (by decide) c
 have k0:w5.cell? ⟨g,i*10,none⟩=some (.int .i64 (vk e.1)):=(World.cell?_of_block (a:=⟨g,i*10,none⟩) (HK5.o.block g hglt hgt)).trans (HC.o 0 _ rfl)
 have k1:w5.cell? ⟨g,i*10+1,none⟩=some (.int .i64 (vi e.1)):=(World.cell?_of_block (a:=⟨g,i*10+1,none⟩) (HK5.o.block g hglt hgt)).trans (HC.o 1 _ rfl)
 have hk2:=HKI.o
 have HL:=ah (fun m=>mR (w5.drewN m) (L.tb n) (vi e.1) (HR5.o.cell (j:=10) (by omega)) (HR5.o.cell (j:=11) (by omega)) (HR5.o.cell (j:=12) (by omega)))
 go_wp2_with fail
 go_quiet ((go_at_call 136;exact Calls.quiet_of_same (HL.o _)))
 go_upto_region 8 with (fail)
 have hb6:=ay (Below.refl w5.heap.size w5) nq
 have HK6:=ah (HK5.o.trans (Keeps.of hb6 (Nat.le_refl _) (fun b=>b=L.tb n)))
 have HX6:=ah (HX5.o.keep (Keeps.of hb6 (Nat.le_refl _) (fun _=>False)) (fun y=>y))
 have HR6:=ah (HR5.o.keep (Keeps.of hb6 (Nat.le_refl _) (fun _=>False)) (fun y=>y))
 clear hb6 k0 k1 hk2 HL
 generalize w5.drewN nq=w6 at *
 have x0:w6.cell? ⟨X,0,none⟩=some (.int .i64 (vk v)):=HX6.o.cell (j:=0) (by omega)
 have x1:w6.cell? ⟨X,1,none⟩=some (.int .i64 (vi v)):=HX6.o.cell (j:=1) (by omega)
 have x2:w6.cell? ⟨X,2,none⟩=some (.int .u64 0):=HX6.o.cell (j:=2) (by omega)
 have x3:w6.cell? ⟨X,3,none⟩=some (.string ByteArray.empty):=HX6.o.cell (j:=3) (by omega)
 have x4:w6.cell? ⟨X,4,none⟩=some (aG L.tb v):=HX6.o.cell (j:=4) (by omega)
 have y5:w6.cell? ⟨g,i*10+5,none⟩=some (.int .i64 (vk e.2)):=(World.cell?_of_block (a:=⟨g,i*10+5,none⟩) (HK6.o.block g hglt hgt)).trans (HC.o 5 _ rfl)
 have y6:w6.cell? ⟨g,i*10+6,none⟩=some (.int .i64 (vi e.2)):=(World.cell?_of_block (a:=⟨g,i*10+6,none⟩) (HK6.o.block g hglt hgt)).trans (HC.o 6 _ rfl)
 have y7:w6.cell? ⟨g,i*10+7,none⟩=some (.int .u64 0):=(World.cell?_of_block (a:=⟨g,i*10+7,none⟩) (HK6.o.block g hglt hgt)).trans (HC.o 7 _ rfl)
 have y8:w6.cell? ⟨g,i*10+8,none⟩=some (.string ByteArray.empty):=(World.cell?_of_block (a:=⟨g,i*10+8,none⟩) (HK6.o.block g hglt hgt)).trans (HC.o 8 _ rfl)
 have y9:w6.cell? ⟨g,i*10+9,none⟩=some (aG L.tb e.2):=(World.cell?_of_block (a:=⟨g,i*10+9,none⟩) (HK6.o.block g hglt hgt)).trans (HC.o 9 _ rfl)
 have hrg:=au HEN.o (g:=g) (by rw [HE.o];simp [Value.ownBlock])
 have zz:∀ j,w6.frozen? ⟨g,j,none⟩=false:=fun j=>(hrg.keep HK6.o hgt).Jv j
 clear hrg
 have HT:=ah (HA.o.Ik HO.o HI.out v HE.o HK6.o (HR6.o.congr (fun k hk=>by
  unfold mq
  by_cases c:k=9
  ·rw [if_pos c,if_pos c,HBF.o]
  ·rw [if_neg c,if_neg c])))
 go_wp2
 go_end0
 exact ⟨rfl,HT.o.1,(Keeps.of HB.o (Nat.le_of_eq HXE.o) S).trans HT.o.2⟩
theorem lF (a:JR base S h G L w) (ho:h.ob n=some o) (hi:o.es[i]?=some e) (v:HV) (hlen:o.es.length<=5000):
 Calls Tryz.prog 123 #[.pointer (some ⟨L.tb n,0,none⟩),.int .i64 (i:Int),.agg #[.int .i64 (vk v),.int .i64 (vi v),.int .u64 0,.string ByteArray.empty,aG L.tb v]] w fun e' w'=>e'=.returned (.tuple #[])/\JR base S (h.ents n (o.es.set i (e.1,v))) G L w'/\Keeps w w' S:=by
 cases h1:e.2.isNone<;>cases h2:v.isNone
 ·exact zN a ho hi v hlen h1 h2
 ·cases h3:(vk e.1==2)
  ·exact wm a ho hi v hlen h1 h2 h3
  ·exact xq a ho hi v hlen h1 h2 h3
 ·exact Ae a ho hi v hlen h1 h2
 ·cases h3:(vk e.1==2)
  ·exact yT a ho hi v hlen h1 h2 h3
  ·exact w_ a ho hi v hlen h1 h2 h3
end Go.Proofs.YtedpifhlffcmkaaGreatDoor
