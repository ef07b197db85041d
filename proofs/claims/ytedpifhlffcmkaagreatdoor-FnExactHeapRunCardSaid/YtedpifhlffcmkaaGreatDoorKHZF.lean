import Derived.Test.YtedpifhlffcmkaaGreatDoorKHZD
import Derived.Test.YtedpifhlffcmkaaGreatDoorKHWG
namespace Go.Proofs.YtedpifhlffcmkaaGreatDoor
open Go Go.RowKit Go.WideMaps
open Go.ChangeMaps (setBlock)
set_option maxHeartbeats 6400000
set_option maxRecDepth 100000
set_option linter.unusedVariables false
variable {S:Nat->Prop} {base n t:Nat} {es:List En} {ev mv:Value} {o:Ob} {sz:Int} {tb:Nat->Nat} {w w1 w2:World}
attribute [local go_sem] bD
theorem zQ {k v:HV} (hnf:∀ e∈es,e.1≠k) (k':HV) (j:Nat):kK (es++[(k,v)]) k' j↔((k'=k/\j=es.length)∨(k'≠k/\kK es k' j)):=by
 unfold kK
 constructor
 ·rintro ⟨x,h1,h2⟩
  rw [List.getElem?_append] at h1
  split at h1
  ·exact .inr ⟨fun c=>hnf x (List.mem_of_getElem? h1) (h2.trans c),x,h1,h2⟩
  ·rename_i c
   rw [List.getElem?_singleton] at h1
   split at h1
   ·simp at h1
    subst h1
    exact .inl ⟨h2.symm,by omega⟩
   ·cases h1
 ·rintro (⟨h1,h2⟩|⟨h0,x,h1,h2⟩)
  ·exact ⟨(k,v),by rw [h2,List.getElem?_append_right (Nat.le_refl _)];simp,h1.symm⟩
  ·exact ⟨x,by rw [List.getElem?_append_left (List.getElem?_eq_some_iff.1 h1).1];exact h1,h2⟩
theorem vQ (es:List En) (k:HV) {v:HV} (hv:v.isNone=false):aK (es++[(k,v)])=aK es:=by
 unfold aK
 rw [List.filter_append]
 simp [hv]
structure Jd (base:Nat) (tb:Nat->Nat) (t n:Nat) (o:Ob) (sz:Int) (es:List En) (ev mv:Value) (w:World) (X:Nat) (k v:HV) (b:Nat) (wc:World):Prop where
 r:aD wc 136 t 13 (ql o n sz es ev (.map (some b)))
 e:wc.ownsRow base 167 10 ev es.length (fP tb es)
 p:jr wc b (kK es)
 x:aD wc 143 X 5 (fun j=>(iV tb k).getD j (.bool false))
 y:aD wc 143 (X+1) 5 (fun j=>(iV tb v).getD j (.bool false))
 k:Keeps w wc (fun c=>c=t)
 b:bJ mv=some b∨w.heap.size<=b
theorem jr.new (w:World) (clk:Nat):jr (w.alloc (.map #[] clk)) w.heap.size (kK []):=
 ⟨#[],clk,Array.getElem?_push_size ..,⟨fun m hm=>by simp at hm,fun k i h=>by obtain ⟨e,h1,_⟩:=h;simp at h1,List.Pairwise.nil,fun k i h=>by obtain ⟨e,h1,_⟩:=h;simp at h1,fun k i j h=>by obtain ⟨e,h1,_⟩:=h;simp at h1⟩⟩
theorem Keeps.fresh {b:Nat} (h:Keeps w w1 S) (k:Keeps w1 w2 (fun c=>c=b)) (hb:S b∨w.heap.size<=b):Keeps w w2 S:=
 ⟨k.os.trans h.os,k.tape.trans h.tape,k.output.trans h.output,Nat.le_trans h.size k.size,fun c hc hn=>(k.block c (Nat.lt_of_lt_of_le hc h.size) (fun e=>by
  rcases hb with x|x
  ·exact hn (e ▸ x)
  ·omega)).trans (h.block c hc hn)⟩
theorem Cw (w:World):(binOp .eql 132 (.map none) (.map none)).run Tryz.prog w=.ok (.bool true) w:=by kernel_rfl
theorem DR (w:World):(eqGuard .eql 132 (.tmp 9) (.const (.map none)) (.map none) (.map none)).run Tryz.prog w=.ok () w:=by kernel_rfl
theorem DJ (b:Nat) (w:World):(eqGuard .eql 132 (.tmp 9) (.const (.map none)) (.map (some b)) (.map none)).run Tryz.prog w=.ok () w:=by kernel_rfl
theorem Cg (w:World):(Instr.makeMap 132 none).run Tryz.prog w=.ok (.map (some w.heap.size)) (w.alloc (.map #[] 0)):=by kernel_rfl
theorem CQ (b:Nat) (w:World):(binOp .eql 132 (.map (some b)) (.map none)).run Tryz.prog w=.ok (.bool false) w:=by kernel_rfl
theorem pR (x:JL base tb t n o sz es ev mv w) (hlen:es.length<=5000) {k v:HV} (hk:mD k) (hs:k.isSome=true) (hv:v.isNone=false) (hnf:∀ e∈es,e.1≠k) (hd:Hd tb w k) (hbs:base<=w.heap.size):
 Calls Tryz.prog 126 #[.pointer (some ⟨t,0,none⟩),.agg #[.int .i64 (vk k),.int .i64 (vi k),.int .u64 0,.string ByteArray.empty,aG tb k],.agg #[.int .i64 (vk v),.int .i64 (vi v),.int .u64 0,.string ByteArray.empty,aG tb v]] w fun e' w'=>e'=.returned (.tuple #[])/\∃ ev' mv',JL base tb t n o sz (es++[(k,v)]) ev' mv' w'/\Keeps w w' (fun c=>c=t∨ev.ownBlock=some c∨bJ mv=some c)/\(∀ g,ev'.ownBlock=some g->ev.ownBlock=some g∨w.heap.size<=g)/\(∀ g,bJ mv'=some g->bJ mv=some g∨w.heap.size<=g):=by
 have HX:=ah ((bX w tb k).keep (Keeps.of (aJ (w.alloc (.cells #[.int .i64 (vk k),.int .i64 (vi k),.int .u64 0,.string ByteArray.empty,aG tb k] 143)) (.cells #[.int .i64 (vk v),.int .i64 (vi v),.int .u64 0,.string ByteArray.empty,aG tb v] 143)) (Nat.le_refl _) (fun _=>False)) (fun x=>x))
 have HY:=ah (bX (w.alloc (.cells #[.int .i64 (vk k),.int .i64 (vi k),.int .u64 0,.string ByteArray.empty,aG tb k] 143)) tb v)
 have HB:=ah ((aJ w (.cells #[.int .i64 (vk k),.int .i64 (vi k),.int .u64 0,.string ByteArray.empty,aG tb k] 143)).trans ((aJ (w.alloc (.cells #[.int .i64 (vk k),.int .i64 (vi k),.int .u64 0,.string ByteArray.empty,aG tb k] 143)) (.cells #[.int .i64 (vk v),.int .i64 (vi v),.int .u64 0,.string ByteArray.empty,aG tb v] 143)).mono (aJ w (.cells #[.int .i64 (vk k),.int .i64 (vi k),.int .u64 0,.string ByteArray.empty,aG tb k] 143)).size))
 have hZ:(w.alloc (.cells #[.int .i64 (vk k),.int .i64 (vi k),.int .u64 0,.string ByteArray.empty,aG tb k] 143)).heap.size=w.heap.size+1:=Array.size_push _
 rw [hZ] at HY
 clear hZ
 have htl:=x.r.lt
 have HT:=ah x
 have HD:=ah hd
 have HKO:=ah hk
 have HKS:=ah hs
 have HNF:=ah hnf
 have HV:=ah hv
 have hX0:t≠w.heap.size:=by omega
 have hX1:t≠w.heap.size+1:=by omega
 clear x hd hk hs hnf hv
 go_enter Tryz.func126,Tryz.ntmps126
 go_upto_region 1 with (fail)
 change Code.wp _ _ _ _ ((w.alloc (.cells #[.int .i64 (vk k),.int .i64 (vi k),.int .u64 0,.string ByteArray.empty,aG tb k] 143)).alloc (.cells #[.int .i64 (vk v),.int .i64 (vi v),.int .u64 0,.string ByteArray.empty,aG tb v] 143))
 generalize (w.alloc (.cells #[.int .i64 (vk k),.int .i64 (vi k),.int .u64 0,.string ByteArray.empty,aG tb k] 143)).alloc (.cells #[.int .i64 (vk v),.int .i64 (vi v),.int .u64 0,.string ByteArray.empty,aG tb v] 143)=w2 at *
 generalize hX:w.heap.size=X at *
 have K2:=ah (Keeps.of HB.o (Nat.le_of_eq hX) (fun _=>False))
 have HXE:=ah hX
 clear hX
 have HR2:=ah (HT.o.r.keep K2.o id)
 have HE2:=ah (aj HT.o.e K2.o (fun _ _ e=>e))
 have HM2:=ah (HT.o.m.keep K2.o (fun _ _ e=>e))
 have c8:w2.cell? ⟨t,8,none⟩=some mv:=HR2.o.cell (j:=8) (by omega)
 have z8:=HR2.o.Jv 8
 have hXl2:=HY.o.lt
 obtain ⟨B,heq,HBQ⟩:∃ B,(binOp .eql 132 mv (.map none)).run Tryz.prog w2=.ok (.bool B) w2/\Hq ((mv=.map none->B=true)/\∀ b,mv=.map (some b)->B=false):=by
  rcases HM2.o with ⟨rfl,h0⟩|⟨b,ents,clk,rfl,h1,h2⟩
  ·exact ⟨true,Cw w2,ah ⟨fun _=>rfl,fun b c=>by cases c⟩⟩
  ·exact ⟨false,CQ b w2,ah ⟨fun c=>(by cases c),fun _ _=>rfl⟩⟩
 have heg:(eqGuard .eql 132 (.tmp 9) (.const (.map none)) mv (.map none)).run Tryz.prog w2=.ok () w2:=by
  rcases HM2.o with ⟨rfl,h0⟩|⟨b,ents,clk,rfl,h1,h2⟩
  ·exact DR w2
  ·exact DJ b w2
 go_upto_if 10 with (fail)
 clear heq heg
 go_cut [] (fun wc=>Hq (∃ b,Jd base tb t n o sz es ev mv w X k v b wc))
 case first=>
  rcases HM2.o with ⟨rfl,h0⟩|⟨b,ents,clk,rfl,h1,h2⟩
  ·subst h0
   obtain rfl:=HBQ.o.1 rfl
   have hmk:=Cg w2
   have HMN:=ah (jr.new w2 0)
   have HBM:=ah (aJ w2 (.map #[] 0))
   have hm2:Hq (w2.heap.size≠t):=ah (by have:=HR2.o.lt;omega)
   generalize w2.alloc (.map #[] 0)=w2a at *
   obtain ⟨Y,hYe⟩:∃ Y,w2.heap.size=Y:=⟨_,rfl⟩
   have hY:w2.heap.size<=Y:=Nat.le_of_eq hYe
   rw [hYe] at hmk HMN HBM hm2
   have HYE:=ah hYe
   clear hYe
   have HR3:=ah (HR2.o.keep (Keeps.of HBM.o hY (fun _=>False)) id)
   have c8a:w2a.cell? ⟨t,8,none⟩=some (.map none):=HR3.o.cell (j:=8) (by omega)
   have z8a:=HR3.o.Jv 8
   clear c8 z8
   go_wp2_with fail
   go_meet
   have kt:Keeps w2a (w2a.setCell ⟨t,8,none⟩ (.map (some Y))) (fun c=>c=t):=Keeps.setCell (S:=fun c=>c=t) (Keeps.refl w2a _) rfl _
   have ka:=fun S=>Keeps.of HBM.o hY S
   refine ⟨Y,⟨(HR3.o.set (j:=8) (by omega) _).congr (fun j hj=>bK (fun j=>(if j=8 then (.map (some Y):Value) else ql o n sz [] ev (.map none) j)=ql o n sz [] ev (.map (some Y)) j) rfl rfl rfl rfl rfl rfl rfl rfl rfl rfl rfl rfl rfl j hj),?_,HMN.o.keep kt hm2.out,(HX.o.keep (ka fun _=>False) id).keep kt (fun c=>hX0 c.symm),(HY.o.keep (ka fun _=>False) id).keep kt (fun c=>hX1 c.symm),((K2.o.mono (fun _ e=>e.elim)).trans (ka _)).trans kt,.inr (by rw [HXE.o,<-HYE.o];omega)⟩⟩
   exact aj (aj HE2.o (ka fun _=>False) (fun _ _ e=>e)) kt (fun g hg c=>ak HE2.o HR2.o (by decide) (c ▸ hg))
  ·obtain rfl:=HBQ.o.2 b rfl
   go_wp2_with fail
   go_meet
   exact ⟨b,HR2.o,HE2.o,⟨ents,clk,h1,h2.p⟩,HX.o,HY.o,K2.o.mono (fun _ e=>e.elim),.inl rfl⟩
 case rest=>
 rename World=>w3
 obtain ⟨b,hI⟩:=hcut.out
 obtain ⟨A,cap,hev,hcap,-⟩:=fB hI.e
 subst hev
 have HI:=ah hI
 have hbX:b≠X:=fun c=>by
  obtain ⟨en,ck,h1,_⟩:=hI.p
  obtain ⟨cur,h2,_⟩:=hI.x
  rw [c] at h1
  rw [h2] at h1
  cases h1
 have hbY:b≠X+1:=fun c=>by
  obtain ⟨en,ck,h1,_⟩:=hI.p
  obtain ⟨cur,h2,_⟩:=hI.y
  rw [c] at h1
  rw [h2] at h1
  cases h1
 have hbt:b≠t:=fun c=>by
  obtain ⟨en,ck,h1,_⟩:=hI.p
  obtain ⟨cur,h2,_⟩:=hI.r
  rw [c] at h1
  rw [h2] at h1
  cases h1
 have hbE:∀ g,(Value.slice A es.length cap).ownBlock=some g->b≠g:=fun g hg c=>by
  obtain ⟨en,ck,h1,_⟩:=hI.p
  obtain ⟨cur,h2,_⟩:=au hI.e hg
  rw [c] at h1
  rw [h2] at h1
  cases h1
 have HBE:=ah hbE
 have hd3:Hd tb w3 k:=by
  intro m hm
  obtain ⟨f,h1,h2⟩:=HD.o m hm
  by_cases c:tb m=t
  ·have h3:=HT.o.r.cell (j:=1) (by omega)
   have h4:=h1.cell (j:=1) (by omega)
   rw [c,h3] at h4
   refine ⟨_,by rw [c];exact hI.r,?_⟩
   have h5:ql o n sz es (.slice A es.length cap) mv 1=f 1:=by simpa using h4
   rw [<-h2,<-h5]
   rfl
  ·exact ⟨f,h1.keep hI.k c,h2⟩
 have HT3:=ah (fun (w':World) (hb:Below w3.heap.size w3 w')=>(hd3.low hb).c)
 have HM3:=ah (fun (w':World) (hb:Below w3.heap.size w3 w')=>hI.p.keep (Keeps.of hb (Nat.le_refl _) (fun _=>False)) (fun e=>e))
 have htl3:=hI.r.lt
 have hXl3:=hI.x.lt
 have c7:w3.cell? ⟨t,7,none⟩=some (.slice A es.length cap):=hI.r.cell (j:=7) (by omega)
 have c8':w3.cell? ⟨t,8,none⟩=some (.map (some b)):=hI.r.cell (j:=8) (by omega)
 have x0:w3.cell? ⟨X,0,none⟩=some (.int .i64 (vk k)):=hI.x.cell (j:=0) (by omega)
 have x1:w3.cell? ⟨X,1,none⟩=some (.int .i64 (vi k)):=hI.x.cell (j:=1) (by omega)
 have x2:w3.cell? ⟨X,2,none⟩=some (.int .u64 0):=hI.x.cell (j:=2) (by omega)
 have x3:w3.cell? ⟨X,3,none⟩=some (.string ByteArray.empty):=hI.x.cell (j:=3) (by omega)
 have x4:w3.cell? ⟨X,4,none⟩=some (aG tb k):=hI.x.cell (j:=4) (by omega)
 clear hcut hI hbE hd3 c8 z8
 go_wp2_with fail
 go_region_held3 (fun w'=>w'.cell? ⟨t,7,none⟩=some (.slice A es.length cap)/\w'.cell? ⟨t,8,none⟩=some (.map (some b))/\w'.cell? ⟨X,0,none⟩=some (.int .i64 (vk k))/\w'.cell? ⟨X,1,none⟩=some (.int .i64 (vi k))/\w'.cell? ⟨X,2,none⟩=some (.int .u64 0)/\w'.cell? ⟨X,3,none⟩=some (.string ByteArray.empty)/\w'.cell? ⟨X,4,none⟩=some (aG tb k)) (go_keep)
  (first
    |(refine fG (.tmp 19) rfl tb k rfl (HT3.o _ (ay (Below.refl _ _) _)) ?_
      intro w9 hb9x
      have hb9:Below w3.heap.size w3 w9:=(ay (Below.refl w3.heap.size w3) _).trans hb9x
      have HB9:=ah hb9
      have t0:=(hb9.cell (p:=⟨t,7,none⟩) htl3).trans c7
      have t1:=(hb9.cell (p:=⟨t,8,none⟩) htl3).trans c8'
      have t2:=(hb9.cell (p:=⟨X,0,none⟩) hXl3).trans x0
      have t3:=(hb9.cell (p:=⟨X,1,none⟩) hXl3).trans x1
      have t4:=(hb9.cell (p:=⟨X,2,none⟩) hXl3).trans x2
      have t5:=(hb9.cell (p:=⟨X,3,none⟩) hXl3).trans x3
      have t6:=(hb9.cell (p:=⟨X,4,none⟩) hXl3).trans x4
      clear hb9 hb9x
      obtain ⟨w8,hup,hm8,hk8,hs8⟩:=wI (HM3.o _ HB9.o) HKO.o HKS.o es.length
      have u0:=(World.cell?_of_block (a:=⟨t,7,none⟩) (hk8.block _ (Nat.lt_of_lt_of_le htl3 HB9.o.size) hbt.symm)).trans t0
      have u1:=(World.cell?_of_block (a:=⟨t,8,none⟩) (hk8.block _ (Nat.lt_of_lt_of_le htl3 HB9.o.size) hbt.symm)).trans t1
      have u2:=(World.cell?_of_block (a:=⟨X,0,none⟩) (hk8.block _ (Nat.lt_of_lt_of_le hXl3 HB9.o.size) hbX.symm)).trans t2
      have u3:=(World.cell?_of_block (a:=⟨X,1,none⟩) (hk8.block _ (Nat.lt_of_lt_of_le hXl3 HB9.o.size) hbX.symm)).trans t3
      have u4:=(World.cell?_of_block (a:=⟨X,2,none⟩) (hk8.block _ (Nat.lt_of_lt_of_le hXl3 HB9.o.size) hbX.symm)).trans t4
      have u5:=(World.cell?_of_block (a:=⟨X,3,none⟩) (hk8.block _ (Nat.lt_of_lt_of_le hXl3 HB9.o.size) hbX.symm)).trans t5
      have u6:=(World.cell?_of_block (a:=⟨X,4,none⟩) (hk8.block _ (Nat.lt_of_lt_of_le hXl3 HB9.o.size) hbX.symm)).trans t6
      have H8:=ah (show jr w8 b (fun k' j=>(k'=k/\j=es.length)∨(k'≠k/\kK es k' j))/\Keeps w3 w8 (fun c=>c=b) from ⟨hm8,(Keeps.of HB9.o (Nat.le_refl _) _).trans hk8⟩)
      clear hm8 hk8 hs8)
    |fail)
 clear hup c7 c8' x0 x1 x2 x3 x4 t0 t1 t2 t3 t4 t5 t6 u0 u1 u2 u3 u4 u5 u6
 have HR8:=ah (HI.out.r.keep H8.o.2 hbt.symm)
 have HE8:=ah (aj HI.out.e H8.o.2 (fun g hg c=>HBE.o g hg c.symm))
 have HX8:=ah (HI.out.x.keep H8.o.2 hbX.symm)
 have HY8:=ah (HI.out.y.keep H8.o.2 hbY.symm)
 have c7:w8.cell? ⟨t,7,none⟩=some (.slice A es.length cap):=HR8.o.cell (j:=7) (by omega)
 have z7:=HR8.o.Jv 7
 have x0:w8.cell? ⟨X,0,none⟩=some (.int .i64 (vk k)):=HX8.o.cell (j:=0) (by omega)
 have x1:w8.cell? ⟨X,1,none⟩=some (.int .i64 (vi k)):=HX8.o.cell (j:=1) (by omega)
 have x2:w8.cell? ⟨X,2,none⟩=some (.int .u64 0):=HX8.o.cell (j:=2) (by omega)
 have x3:w8.cell? ⟨X,3,none⟩=some (.string ByteArray.empty):=HX8.o.cell (j:=3) (by omega)
 have x4:w8.cell? ⟨X,4,none⟩=some (aG tb k):=HX8.o.cell (j:=4) (by omega)
 have y0:w8.cell? ⟨X+1,0,none⟩=some (.int .i64 (vk v)):=HY8.o.cell (j:=0) (by omega)
 have y1:w8.cell? ⟨X+1,1,none⟩=some (.int .i64 (vi v)):=HY8.o.cell (j:=1) (by omega)
 have y2:w8.cell? ⟨X+1,2,none⟩=some (.int .u64 0):=HY8.o.cell (j:=2) (by omega)
 have y3:w8.cell? ⟨X+1,3,none⟩=some (.string ByteArray.empty):=HY8.o.cell (j:=3) (by omega)
 have y4:w8.cell? ⟨X+1,4,none⟩=some (aG tb v):=HY8.o.cell (j:=4) (by omega)
 have hbs8:base<=w8.heap.size:=Nat.le_trans hbs (Nat.le_trans (by rw [<-HXE.o];exact HI.out.k.size) H8.o.2.size)
 have HN8:=ah hbs8
 have htl8:=HR8.o.lt
 have hXl8:=HX8.o.lt
 have hYl8:=HY8.o.lt
 go_wp2_with fail
 go_region_law (
  refine yJ (wr:=w8) (.tmp 30) (.tmp 34) 131 167 10 112 _ rfl Tryz.underlying131 wW rfl (by decide) base (.slice A es.length cap) es.length (fP tb es) (gZ tb (k,v)) HE8.o rfl rfl rfl (fun u hu=>(List.mem_append.1 hu).elim (tK tb k u) (tK tb v u)) (by omega) (by decide) HN8.o ?_
  intro v' w9 hv1 hv2 hv3
  obtain ⟨a9,k9,hv9⟩:=aF hv1
  subst hv9
  have hr9:=HR8.o.keep hv2 (fun e=>ak HE8.o HR8.o (by decide) e)
  have c79:w9.cell? ⟨t,7,none⟩=some (.slice A es.length cap):=hr9.cell (j:=7) (by omega)
  have z79:=hr9.Jv 7
  have HR9:=ah hr9
  have H9:=ah (And.intro hv1 (And.intro hv2 hv3))
  clear hv1 hv2 hv3 hr9)
 all_goals
  go_wp2
  go_end0
  have kt:Keeps w9 (w9.setCell ⟨t,7,none⟩ (.slice a9 (es.length+1) k9)) (fun c=>c=t):=Keeps.setCell (S:=fun c=>c=t) (Keeps.refl w9 _) rfl _
  have hl9:(es++[(k,v)]).length=es.length+1:=by simp
  have hown:(w9.setCell ⟨t,7,none⟩ (.slice a9 (es.length+1) k9)).ownsRow base 167 10 (.slice a9 (es.length+1) k9) (es.length+1) (fP tb (es++[(k,v)])):=aj (by
   have:=H9.o.1
   unfold fP at this ⊢
   rw [List.flatMap_append]
   simpa using this) kt (fun g hg c=>ak H9.o.1 HR9.o (by decide) (c ▸ hg))
  have hmw:jr (w9.setCell ⟨t,7,none⟩ (.slice a9 (es.length+1) k9)) b (kK (es++[(k,v)])):=((H8.o.1.congr (fun k' j _=>zQ HNF.o k' j)).keep H9.o.2.1 (fun c=>HBE.o b c rfl)).keep kt hbt
  refine ⟨rfl,.slice a9 (es.length+1) k9,.map (some b),⟨?_,by rw [hl9];exact hown,hmw.a⟩,?_,fun g hg=>?_,fun g hg=>?_⟩
  ·refine (HR9.o.set (j:=7) (by omega) (.slice a9 (es.length+1) k9)).congr (fun j hj=>?_)
   refine bK (fun j=>(if j=7 then (.slice a9 (es.length+1) k9:Value) else ql o n sz es (.slice A es.length cap) (.map (some b)) j)=ql o n sz (es++[(k,v)]) (.slice a9 (es.length+1) k9) (.map (some b)) j) rfl rfl rfl rfl rfl rfl rfl rfl rfl ?_ rfl rfl rfl j hj
   simp [ql,vQ es k HV.out]
  ·have kf:Keeps w w8 (fun c=>c=t∨(Value.slice A es.length cap).ownBlock=some c∨bJ mv=some c):=Keeps.fresh (HI.out.k.mono (fun c e=>Or.inl e)) H8.o.2 (HI.out.b.imp (fun e=>Or.inr (Or.inr e)) id)
   exact (kf.trans (H9.o.2.1.mono (fun c e=>Or.inr (Or.inl e)))).trans (kt.mono (fun c e=>Or.inl e))
  ·rcases H9.o.2.2 g hg with y|y
   ·exact .inl y
   ·right
    have h1:=HI.out.k.size
    have h2:=H8.o.2.size
    omega
  ·simp [bJ] at hg
   subst hg
   exact HI.out.b
end Go.Proofs.YtedpifhlffcmkaaGreatDoor
