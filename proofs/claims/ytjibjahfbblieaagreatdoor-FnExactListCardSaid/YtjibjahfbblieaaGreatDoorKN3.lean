import Derived.Test.YtjibjahfbblieaaGreatDoorKM2
import Derived.Test.YtjibjahfbblieaaGreatDoorKBE
import Derived.Test.YtjibjahfbblieaaGreatDoorKBO
import Derived.Deep.RegionHeld3
import Derived.Deep.Onto
import Derived.Deep.RegionLaw
import Derived.Lib.ConvBytes
import Derived.Test.YtjibjahfbblieaaGreatDoorKP1D1
import Derived.Laws.Cover2
namespace Go.Proofs.YtjibjahfbblieaaGreatDoor
open Go Go.RowKit
set_option linter.unusedVariables false
theorem bL.mono {w:World} {base base':Nat} {v:Value} {L:List Int} (h:bL w base v L) (hb:base'<=base):bL w base' v L:=⟨h.1.mono hb,h.2⟩
theorem yH {w:World} {T k:Nat} {vs:Array Value} {Ls:List (List Int)} (hk:vs.size=k) (hl:Ls.length=k) (h:∀ i (hi:i<vs.size),iJ w vs[i] (Ls.getD i [])):F7 (w.alloc (.cells vs T)) (.slice (some ⟨w.heap.size,0,none⟩) k k) k (fun i=>Ls.getD i []):=by
 refine ⟨w.heap.size,0,k,rfl,by simp,Nat.le_refl _,fun i hi=>⟨vs[i]'(by omega),?_,(h i (by omega)).low (b_1 w _) (Nat.le_refl _)⟩⟩
 have hR:=(ah.mk' w T vs).cell (j:=i) (by omega)
 rw [Nat.zero_add,hR]
 simp [show i<vs.size by omega]
theorem OH (L0 L1:List Int):joinL (fun i=>[L0,L1].getD i []) 2=L0++L1:=by simp [joinL,List.range_succ]
theorem Oc (L0 L1 L2 L3 L4:List Int):joinL (fun i=>[L0,L1,L2,L3,L4].getD i []) 5=L0++(L1++(L2++(L3++L4))):=by simp [joinL,List.range_succ]
theorem Ca {w:World} {T:Nat} {v0 v1:Value} {L0 L1:List Int} (h0:iJ w v0 L0) (h1:iJ w v1 L1) (n0:L0.length<=10000000) (n1:L1.length<=10000000):
 Calls Tryz.prog 25 #[.slice (some ⟨w.heap.size,0,none⟩) 2 2] (w.alloc (.cells #[v0,v1] T)) fun e w'=>∃ v',e=.returned v'/\bL w' w.heap.size v' (L0++L1)/\Below w.heap.size w w':=by
 refine (yS _ 2 (fun i=>[L0,L1].getD i []) _ (by omega) (fun i hi=>?_) (yH rfl rfl fun i hi=>?_)).mono ?_
 ·match i,hi with
  |0,_=>exact n0
  |1,_=>exact n1
 ·match i,hi with
  |0,_=>exact h0
  |1,_=>exact h1
 ·rintro e w' ⟨v',rfl,ho,hb⟩
  rw [OH] at ho
  exact ⟨v',rfl,ho.mono (by simp),(b_1 w _).trans (hb.mono (by simp))⟩
theorem MB {w:World} {T:Nat} {v0 v1 v2 v3 v4:Value} {L0 L1 L2 L3 L4:List Int} (h0:iJ w v0 L0) (h1:iJ w v1 L1) (h2:iJ w v2 L2) (h3:iJ w v3 L3) (h4:iJ w v4 L4)
 (n0:L0.length<=10000000) (n1:L1.length<=10000000) (n2:L2.length<=10000000) (n3:L3.length<=10000000) (n4:L4.length<=10000000):
 Calls Tryz.prog 25 #[.slice (some ⟨w.heap.size,0,none⟩) 5 5] (w.alloc (.cells #[v0,v1,v2,v3,v4] T)) fun e w'=>∃ v',e=.returned v'/\bL w' w.heap.size v' (L0++(L1++(L2++(L3++L4))))/\Below w.heap.size w w':=by
 refine (yS _ 5 (fun i=>[L0,L1,L2,L3,L4].getD i []) _ (by omega) (fun i hi=>?_) (yH rfl rfl fun i hi=>?_)).mono ?_
 ·match i,hi with
  |0,_=>exact n0
  |1,_=>exact n1
  |2,_=>exact n2
  |3,_=>exact n3
  |4,_=>exact n4
 ·match i,hi with
  |0,_=>exact h0
  |1,_=>exact h1
  |2,_=>exact h2
  |3,_=>exact h3
  |4,_=>exact h4
 ·rintro e w' ⟨v',rfl,ho,hb⟩
  rw [Oc] at ho
  exact ⟨v',rfl,ho.mono (by simp),(b_1 w _).trans (hb.mono (by simp))⟩
theorem bL.low {w w':World} {base B:Nat} {v:Value} {L:List Int} (h:bL w base v L) (hb:Below B w w') (hB:w.heap.size<=B):bL w' base v L:=by
 obtain ⟨⟨h1,h2⟩,hv⟩:=h
 rcases h2 with ⟨rfl,_⟩|⟨g,cap,cur,rfl,hBg,hh,hr⟩
 ·exact absurd rfl hv
 ·have hg:g<w.heap.size:=by
   rcases Nat.lt_or_ge g w.heap.size with c|c
   ·exact c
   ·rw [Array.getElem?_eq_none c] at hh;cases hh
  exact ⟨⟨h1,.inr ⟨g,cap,cur,rfl,hBg,(hb.block g (Nat.lt_of_lt_of_le hg hB)).trans hh,hr⟩⟩,hv⟩
theorem dL {w w':World} (h:Below w.drew.heap.size w.drew w'):Below w.heap.size w w':=(Below.refl w.heap.size w).drew.trans h
theorem bL.blk {w:World} {base:Nat} {v:Value} {L:List Int} (h:bL w base v L):∃ g cap,v=.slice (some ⟨g,0,none⟩) L.length cap/\base<=g/\g<w.heap.size:=by
 obtain ⟨⟨h1,h2⟩,hv⟩:=h
 rcases h2 with ⟨rfl,_⟩|⟨g,cap,cur,rfl,hBg,hh,hr⟩
 ·exact absurd rfl hv
 ·refine ⟨g,cap,rfl,hBg,?_⟩
  rcases Nat.lt_or_ge g w.heap.size with c|c
  ·exact c
  ·rw [Array.getElem?_eq_none c] at hh;cases hh
theorem ah.same {w w':World} {T g N:Nat} {f:Nat->Value} (h:ah w T g N f) (e:w'.heap[g]?=w.heap[g]?):ah w' T g N f:=by
 obtain ⟨cur,h1,h2,h3⟩:=h
 exact ⟨cur,e.trans h1,h2,h3⟩
theorem bL.apart {w:World} {base T g N:Nat} {v:Value} {L:List Int} {f:Nat->Value} (h:bL w base v L) (hr:ah w T g N f) (hT:T≠5):v.ownBlock≠some g:=by
 obtain ⟨⟨h1,h2⟩,hv⟩:=h
 obtain ⟨c2,e2,-⟩:=hr
 rcases h2 with ⟨rfl,_⟩|⟨g',cap,cur,rfl,hBg,hh,hr⟩
 ·exact absurd rfl hv
 ·intro e
  have e9:g'=g:=by simpa [Value.ownBlock] using e
  subst e9
  rw [hh] at e2
  simp at e2
  exact hT e2.2.symm
theorem jW {wr:World} {o:Oper} {a:Act} {K:Act->World->Prop} {Q:Exit->Act->World->Prop} (s x:Operand)
 (ho:o.op=.call { callee:=.builtin .append,args:=#[s,x],argTypes:=#[35,35] }) (base:Nat) (v u:Value) (L L2:List Int) (hown:bL wr base v L) (hp:iJ wr u L2) (hs:a.eval s=v) (hx:a.eval x=u)
 (hlen:L.length+L2.length<=100000000000000) (hbase:base<=wr.heap.size)
 (h:∀ v' w',bL w' base v' (L++L2)->(∀ B w0,Below B w0 wr->B<=base->Below B w0 w')->(∀ gx,gx<wr.heap.size->v.ownBlock≠some gx->w'.heap[gx]?=wr.heap[gx]?)->K (a.put o.dst v') w'):
 o.wp Tryz.prog a wr K Q:=by
 obtain ⟨i0,hi,hz0,hz1,hz2⟩:=info_parts Tryz.info5
 obtain ⟨b,off,cap,rfl,hb,hc⟩:=hp
 refine wp_append_own _ s x 35 ho base 5 i0 (.int .u8 0) 1 1 Tryz.underlying35 hi hz0 hz1 hz2 rfl (by decide) v L.length (L.map (Value.int .u8)) hs hown.1 ⟨b,off,none⟩ L2.length cap (L2.map (Value.int .u8)) hx (by simp)
  (fun j z hj=>?_) (fun z hz=>?_) (by unfold maxLen;omega) (by omega) hbase ?_
 ·rw [List.getElem?_map] at hj
  obtain ⟨y,hy,rfl⟩:=Option.map_eq_some_iff.1 hj
  obtain ⟨hl,rfl⟩:=List.getElem?_eq_some_iff.1 hy
  rw [eu,hc j hl,List.getD_eq_getElem?_getD,List.getElem?_eq_getElem hl]
  rfl
 ·obtain ⟨y,_,rfl⟩:=List.mem_map.1 hz
  rfl
 ·intro v' w' h1 h2 h3
  refine h v' w' ⟨by simpa using h1,fun hh=>hown.2 (h3.1 hh).1⟩ (fun B w0 hb hB=>hb.grown h2 (by omega) (fun q hq=>?_)) (fun gx hgx hne=>h2.block gx hgx (fun e=>hne e.symm))
  have:=(hown.1.lt q hq).1
  omega
def u64n (v:Int) (n:Nat):List Int:=leI n (IntKind.u64.wrap v)
theorem dG (v:Int) (n:Nat):(u64n v n).length=n:=bO n _
def Ot (p:PV):List Int:=u64n p.params 1++([uI p.dots]++(u64n p.regs 1++(u64n p.line 4++u64n p.nu 1)))
def OY (p:PV) (k:Nat):List Int:=[uI (p.u0 k)]++u64n (p.u1 k) 1
def Ka (s:ByteArray):List Int:=s.data.toList.map fun c=>(c.toNat:Int)
def Le (p:PV) (k:Nat):List Int:=[IntKind.u8.wrap (p.c0 k)]++(if p.c0 k=4 then u64n (p.c1 k) 8 else if p.c0 k=5 then u64n (wrap64 (p.c2 k)) 8 else u64n (p.c3 k).size 4++Ka (p.c3 k))
def OQ (p:PV) (k:Nat):List Int:=u64n (p.i0 k) 1++(u64n (p.i1 k) 1++(u64n (p.i2 k) 4++(u64n (p.i3 k) 4++u64n (p.l0 k) 4)))
theorem sU {F:Nat->List Int} {m:Nat}:∀ i,(∀ k,k<i->(F k).length<=m)->(joinL F i).length<=i*m:=by
 intro i
 induction i with
 |zero=>intro _;simp [joinL]
 |succ i ih=>
  intro h
  have h1:=ih (fun k hk=>h k (by omega))
  have h2:=h i (by omega)
  rw [<-fF,List.length_append,Nat.succ_mul]
  omega
theorem J5 (p:PV):(Ot p).length=8:=by simp [Ot,u64n,bO]
def S1 (p:PV) (i:Nat):List Int:=Ot p++joinL (OY p) i
def S2 (p:PV) (i:Nat):List Int:=(S1 p p.nu++u64n p.nc 2)++joinL (Le p) i
def S3 (p:PV) (i:Nat):List Int:=(S2 p p.nc++u64n p.ni 2)++joinL (OQ p) i
def Mj (p:PV):List Int:=S3 p p.ni
theorem Qp (p:PV):S1 p 0=Ot p:=by simp [S1,joinL]
theorem QW (p:PV):S2 p 0=S1 p p.nu++u64n p.nc 2:=by simp [S2,joinL]
theorem QH (p:PV):S3 p 0=S2 p p.nc++u64n p.ni 2:=by simp [S3,joinL]
theorem Qt (p:PV) (i:Nat):S1 p i++OY p i=S1 p (i+1):=by rw [S1,List.append_assoc,fF];rfl
theorem MX (p:PV) (i:Nat):S2 p i++Le p i=S2 p (i+1):=by rw [S2,List.append_assoc,fF];rfl
theorem Qy (p:PV) (i:Nat):S3 p i++OQ p i=S3 p (i+1):=by rw [S3,List.append_assoc,fF];rfl
theorem Dm (p:PV) (k:Nat):(OY p k).length=2:=by simp [OY,dG]
theorem Ct (p:PV) (k:Nat):(OQ p k).length=14:=by simp [OQ,dG]
theorem z8 (p:PV) (i:Nat):(S1 p i).length<=8+i*2:=by
 have:=sU (F:=OY p) (m:=2) i (fun k _=>Nat.le_of_eq (Dm p k))
 rw [S1,List.length_append,J5]
 omega
theorem lI (s:ByteArray):(Ka s).length=s.size:=by rw [Ka,List.length_map,Array.length_toList];rfl
theorem KF (p:PV) (k:Nat):(Le p k).length<=9+(p.c3 k).size:=by
 unfold Le
 rw [List.length_append]
 split
 ·rw [dG,List.length_singleton];omega
 ·split
  ·rw [dG,List.length_singleton];omega
  ·rw [List.length_append,dG,lI,List.length_singleton];omega
theorem Ns (p:PV) (i:Nat):(joinL (Le p) i).length<=9*i+Ip p.c3 i:=by
 induction i with
 |zero=>simp [joinL]
 |succ i ih=>
  have:=KF p i
  rw [<-fF,List.length_append,H9]
  omega
theorem Ay (p:PV) (i:Nat):(S2 p i).length<=10+2*p.nu+9*i+Ip p.c3 i:=by
 have h1:=z8 p p.nu
 have h2:=Ns p i
 rw [S2,List.length_append,List.length_append,dG]
 omega
theorem GK (p:PV) (i:Nat):(S3 p i).length<=12+2*p.nu+9*p.nc+Ip p.c3 p.nc+14*i:=by
 have h1:=Ay p p.nc
 have h2:=sU (F:=OQ p) (m:=14) i (fun k _=>Nat.le_of_eq (Ct p k))
 rw [S3,List.length_append,List.length_append,dG]
 omega
theorem Je {x:Nat->ByteArray} {m:Nat}:∀ n,(∀ k,k<n->(x k).size<=m)->Ip x n<=n*m:=by
 intro n
 induction n with
 |zero=>intro _;simp [I5]
 |succ n ih=>
  intro h
  have h1:=ih (fun k hk=>h k (by omega))
  have h2:=h n (by omega)
  rw [H9,Nat.succ_mul]
  omega
theorem OC {x:Nat->ByteArray} {n m i:Nat} (h:∀ k,k<n->(x k).size<=m) (hi:i<n):Ip x i<=i*m/\(x i).size<=m:=⟨Je i (fun k hk=>h k (by omega)),h i hi⟩
theorem KZ {s:ByteArray} {j:Nat} (h:j<s.size):(Ka s).getD j 0=((s.data.toList.getD j 0).toNat:Int):=by
 have h1:j<s.data.toList.length:=by simpa using h
 rw [Ka,List.getD_eq_getElem?_getD,List.getElem?_map,List.getD_eq_getElem?_getD,List.getElem?_eq_getElem h1]
 rfl
theorem rT (s:ByteArray) (w:World):Sem.run Tryz.prog (convert 9 35 (.string s)) w=.ok (.slice (some ⟨w.heap.size,0,none⟩) s.size (grownCap w s.size 0 5)) (Lib.bytesWorld w 5 s):=
 Lib.run_convert_string_bytes w 9 35 5 s Tryz.underlying9 Tryz.underlying35 Tryz.underlying5
theorem tQ (w:World) (s:ByteArray):iJ (Lib.bytesWorld w 5 s) (.slice (some ⟨w.heap.size,0,none⟩) s.size (grownCap w s.size 0 5)) (Ka s):=by
 refine ⟨w.heap.size,0,_,by rw [lI],by rw [Lib.bytesWorld_size];omega,fun j hj=>?_⟩
 rw [lI] at hj
 rw [Nat.zero_add,Lib.bytesWorld_cell w 5 s j hj,KZ hj]
theorem iX (w:World) (s:ByteArray):Below w.heap.size w (Lib.bytesWorld w 5 s):=⟨rfl,rfl,rfl,by rw [Lib.bytesWorld_size];omega,fun j hj=>Lib.bytesWorld_at_old w 5 s j hj⟩
set_option maxHeartbeats 12800000 in
set_option maxRecDepth 100000 in
theorem NH (p:PV) (s4 s5 s6 s7:Value) (w:World) (hf:p.fits 1048576) (hl:p.nl=p.ni) (hbit:p.bitsOk) (h:PVA w p s4 s5 s6 s7):
 Calls Tryz.prog 28 #[p.agg s4 s5 s6 s7] w fun e w'=>∃ v',e=.returned v'/\bL w' w.heap.size v' (Mj p)/\Below w.heap.size w w':=by
 obtain ⟨a4,k4,rfl⟩:=h.u.val
 obtain ⟨a5,k5,rfl⟩:=h.c.val
 obtain ⟨a6,k6,rfl⟩:=h.i.val
 obtain ⟨a7,k7,rfl⟩:=h.l.val
 obtain ⟨hf1,hf2,hf3,hf4,hf5⟩:=hf
 have HF:=hide hf5
 have HBit:=hide hbit
 have HNL:=hide hl
 have HPC:=hide (PC.mk w 43 p (.slice a4 p.nu k4) (.slice a5 p.nc k5) (.slice a6 p.ni k6) (.slice a7 p.nl k7))
 have HB0:=hide (b_1 w (.cells #[.int .i64 p.params,.int .i64 p.regs,.int .i64 p.line,.bool p.dots,.slice a4 p.nu k4,.slice a5 p.nc k5,.slice a6 p.ni k6,.slice a7 p.nl k7] 43))
 have HA:=hide (h.low HB0.out (Nat.le_refl _))
 clear h hf5 hbit hl
 unfold PV.agg
 go_enter Tryz.func28,Tryz.ntmps28
 go_wp2_with fail
 generalize w.alloc (.cells #[.int .i64 p.params,.int .i64 p.regs,.int .i64 p.line,.bool p.dots,.slice a4 p.nu k4,.slice a5 p.nc k5,.slice a6 p.ni k6,.slice a7 p.nl k7] 43)=w1 at HPC HB0 HA ⊢
 have HB1:=hide (Below.refl w1.heap.size w1)
 obtain ⟨hl1,q10,q11,q12,q13,q14,q15,q16,q17⟩:=HPC.out
 go_region_held3 (fun w9=>w9.cell? ⟨w.heap.size,0,none⟩=some (.int .i64 p.params)/\w9.cell? ⟨w.heap.size,1,none⟩=some (.int .i64 p.regs)/\w9.cell? ⟨w.heap.size,2,none⟩=some (.int .i64 p.line)/\w9.cell? ⟨w.heap.size,3,none⟩=some (.bool p.dots)/\w9.cell? ⟨w.heap.size,4,none⟩=some (.slice a4 p.nu k4)) (go_keep)
  (first
    |(have _z:=HB6
      go_at_call 25
      clear _z
      refine (MB HP6_2.out HP6_3.out HP6_4.out HP6_5.out HP6_6.out (by rw [bO];omega) (by simp) (by rw [bO];omega) (by rw [bO];omega) (by rw [bO];omega)).mono ?_
      rintro e w7 ⟨v7,rfl,ho,hb⟩
      have HB7:=hide (HB6.out.trans (hb.mono HB6.out.size))
      have q70:=(hb.cell (p:=⟨w.heap.size,0,none⟩) (Nat.lt_of_lt_of_le hl1 HB6.out.size)).trans q60
      have q71:=(hb.cell (p:=⟨w.heap.size,1,none⟩) (Nat.lt_of_lt_of_le hl1 HB6.out.size)).trans q61
      have q72:=(hb.cell (p:=⟨w.heap.size,2,none⟩) (Nat.lt_of_lt_of_le hl1 HB6.out.size)).trans q62
      have q73:=(hb.cell (p:=⟨w.heap.size,3,none⟩) (Nat.lt_of_lt_of_le hl1 HB6.out.size)).trans q63
      have q74:=(hb.cell (p:=⟨w.heap.size,4,none⟩) (Nat.lt_of_lt_of_le hl1 HB6.out.size)).trans q64
      have HO7:=hide (ho.mono HB6.out.size)
      clear ho hb)
    |(have _z:=HB5
      go_at_call 26
      clear _z
      refine (bV (p.nu:Int) 1 _ (by omega)).mono ?_
      rintro e w6 ⟨v6,rfl,ho,hb⟩
      obtain ⟨b6,o6,c6,rfl,-⟩:=ho.part
      have HB6:=hide (HB5.out.trans (hb.mono HB5.out.size))
      have q60:=(hb.cell (p:=⟨w.heap.size,0,none⟩) (Nat.lt_of_lt_of_le hl1 HB5.out.size)).trans q50
      have q61:=(hb.cell (p:=⟨w.heap.size,1,none⟩) (Nat.lt_of_lt_of_le hl1 HB5.out.size)).trans q51
      have q62:=(hb.cell (p:=⟨w.heap.size,2,none⟩) (Nat.lt_of_lt_of_le hl1 HB5.out.size)).trans q52
      have q63:=(hb.cell (p:=⟨w.heap.size,3,none⟩) (Nat.lt_of_lt_of_le hl1 HB5.out.size)).trans q53
      have q64:=(hb.cell (p:=⟨w.heap.size,4,none⟩) (Nat.lt_of_lt_of_le hl1 HB5.out.size)).trans q54
      have HP6_2:=hide (HP5_2.out.low hb (Nat.le_refl _))
      have HP6_3:=hide (HP5_3.out.low hb (Nat.le_refl _))
      have HP6_4:=hide (HP5_4.out.low hb (Nat.le_refl _))
      have HP6_5:=hide (HP5_5.out.low hb (Nat.le_refl _))
      have HP6_6:=hide ho.part
      clear ho hb)
    |(have _z:=HB4
      go_at_call 26
      clear _z
      refine (bV p.line 4 _ (by omega)).mono ?_
      rintro e w5 ⟨v5,rfl,ho,hb⟩
      obtain ⟨b5,o5,c5,rfl,-⟩:=ho.part
      have HB5:=hide (HB4.out.trans (hb.mono HB4.out.size))
      have q50:=(hb.cell (p:=⟨w.heap.size,0,none⟩) (Nat.lt_of_lt_of_le hl1 HB4.out.size)).trans q40
      have q51:=(hb.cell (p:=⟨w.heap.size,1,none⟩) (Nat.lt_of_lt_of_le hl1 HB4.out.size)).trans q41
      have q52:=(hb.cell (p:=⟨w.heap.size,2,none⟩) (Nat.lt_of_lt_of_le hl1 HB4.out.size)).trans q42
      have q53:=(hb.cell (p:=⟨w.heap.size,3,none⟩) (Nat.lt_of_lt_of_le hl1 HB4.out.size)).trans q43
      have q54:=(hb.cell (p:=⟨w.heap.size,4,none⟩) (Nat.lt_of_lt_of_le hl1 HB4.out.size)).trans q44
      have HP5_2:=hide (HP4_2.out.low hb (Nat.le_refl _))
      have HP5_3:=hide (HP4_3.out.low hb (Nat.le_refl _))
      have HP5_4:=hide (HP4_4.out.low hb (Nat.le_refl _))
      have HP5_5:=hide ho.part
      clear ho hb)
    |(have _z:=HB3
      go_at_call 26
      clear _z
      refine (bV p.regs 1 _ (by omega)).mono ?_
      rintro e w4 ⟨v4,rfl,ho,hb⟩
      obtain ⟨b4,o4,c4,rfl,-⟩:=ho.part
      have HB4:=hide (HB3.out.trans (hb.mono HB3.out.size))
      have q40:=(hb.cell (p:=⟨w.heap.size,0,none⟩) (Nat.lt_of_lt_of_le hl1 HB3.out.size)).trans q30
      have q41:=(hb.cell (p:=⟨w.heap.size,1,none⟩) (Nat.lt_of_lt_of_le hl1 HB3.out.size)).trans q31
      have q42:=(hb.cell (p:=⟨w.heap.size,2,none⟩) (Nat.lt_of_lt_of_le hl1 HB3.out.size)).trans q32
      have q43:=(hb.cell (p:=⟨w.heap.size,3,none⟩) (Nat.lt_of_lt_of_le hl1 HB3.out.size)).trans q33
      have q44:=(hb.cell (p:=⟨w.heap.size,4,none⟩) (Nat.lt_of_lt_of_le hl1 HB3.out.size)).trans q34
      have HP4_2:=hide (HP3_2.out.low hb (Nat.le_refl _))
      have HP4_3:=hide (HP3_3.out.low hb (Nat.le_refl _))
      have HP4_4:=hide ho.part
      clear ho hb)
    |(have _z:=HB2
      go_at_call 52
      clear _z
      refine (zw p.dots _).mono ?_
      rintro e w3 ⟨v3,rfl,ho,hb⟩
      obtain ⟨b3,o3,c3,rfl,-⟩:=ho.part
      have HB3:=hide (HB2.out.trans (hb.mono HB2.out.size))
      have q30:=(hb.cell (p:=⟨w.heap.size,0,none⟩) (Nat.lt_of_lt_of_le hl1 HB2.out.size)).trans q20
      have q31:=(hb.cell (p:=⟨w.heap.size,1,none⟩) (Nat.lt_of_lt_of_le hl1 HB2.out.size)).trans q21
      have q32:=(hb.cell (p:=⟨w.heap.size,2,none⟩) (Nat.lt_of_lt_of_le hl1 HB2.out.size)).trans q22
      have q33:=(hb.cell (p:=⟨w.heap.size,3,none⟩) (Nat.lt_of_lt_of_le hl1 HB2.out.size)).trans q23
      have q34:=(hb.cell (p:=⟨w.heap.size,4,none⟩) (Nat.lt_of_lt_of_le hl1 HB2.out.size)).trans q24
      have HP3_2:=hide (HP2_2.out.low hb (Nat.le_refl _))
      have HP3_3:=hide ho.part
      clear ho hb)
    |(have _z:=HB1
      go_at_call 26
      clear _z
      refine (bV p.params 1 _ (by omega)).mono ?_
      rintro e w2 ⟨v2,rfl,ho,hb⟩
      obtain ⟨b2,o2,c2,rfl,-⟩:=ho.part
      have HB2:=hide (HB1.out.drew.trans (hb.mono HB1.out.size))
      have q20:=(hb.cell (p:=⟨w.heap.size,0,none⟩) (Nat.lt_of_lt_of_le hl1 HB1.out.size)).trans q10
      have q21:=(hb.cell (p:=⟨w.heap.size,1,none⟩) (Nat.lt_of_lt_of_le hl1 HB1.out.size)).trans q11
      have q22:=(hb.cell (p:=⟨w.heap.size,2,none⟩) (Nat.lt_of_lt_of_le hl1 HB1.out.size)).trans q12
      have q23:=(hb.cell (p:=⟨w.heap.size,3,none⟩) (Nat.lt_of_lt_of_le hl1 HB1.out.size)).trans q13
      have q24:=(hb.cell (p:=⟨w.heap.size,4,none⟩) (Nat.lt_of_lt_of_le hl1 HB1.out.size)).trans q14
      have HP2_2:=hide ho.part
      clear ho hb))
 have HO:=hide (show bL w7 w1.heap.size v7 (Ot p) from HO7.out)
 have hlen7:(Ot p).length=8:=by simp [Ot,u64n,bO]
 have HL7:=hide hlen7
 clear HP6_2 HP6_3 HP6_4 HP6_5 HP6_6 HP5_2 HP5_3 HP5_4 HP5_5 HP4_2 HP4_3 HP4_4 HP3_2 HP3_3 HP2_2 HO7 hlen7
 go_wp2_with fail
 have HSz:=hide (Je p.nc HF.out)
 rename_i hH K1 a1
 have HK1:=hide a1
 clear a1 hH q70 q71 q72 q73 q74 q60 q61 q62 q63 q64 q50 q51 q52 q53 q54 q40 q41 q42 q43 q44 q30 q31 q32 q33 q34 q20 q21 q22 q23 q24 HB2 HB3 HB4 HB5 HB6
 go_loopw [3,31] (fun ov iv wr=>∃ i:Nat,i<=p.nu/\iv=.int .i64 i/\Hid (bL wr w1.heap.size ov (S1 p i))/\Hid (Below w1.heap.size w1 wr)) (fun _ iv _=>match iv with | .int _ x=>p.nu-x.toNat|_=>0)
 case atStart=>exact ⟨0,by omega,rfl,hide (by rw [Qp];exact HO.out),HB7⟩
 case round=>
  clear HO HB7
  obtain ⟨i,hi9,rfl,HOw,HBw⟩:=hrel
  by_cases hin:i<p.nu
  ·rcases HA.out.u with ⟨h9,_⟩|⟨b,o,cap,e,hb,hcap,hc⟩
   ·omega
   ·cases e
    have c0:=(HBw.out.cell (p:=⟨b,o+i*2,none⟩) hb).trans (hc i hin).1
    have c1:=(HBw.out.cell (p:=⟨b,o+i*2+1,none⟩) hb).trans (hc i hin).2
    clear hc
    have HLw:=hide (z8 p i)
    obtain ⟨L,hLL⟩:∃ L,L=S1 p i:=⟨_,rfl⟩
    rw [<-hLL] at HOw HLw
    have HLL:=hide hLL
    clear hLL
    obtain ⟨g8,k8,rfl,hg8,hg9⟩:=HOw.out.blk
    go_wp2_with fail
    have HB1:=hide (HBw.out.alloc HBw.out.size (.cells #[.bool (p.u0 i),.int .i64 (p.u1 i)] 83))
    have HO1:=hide (HOw.out.low (b_1 wr (.cells #[.bool (p.u0 i),.int .i64 (p.u1 i)] 83)) (Nat.le_refl _))
    have HR1:=hide (ah.mk' wr 83 #[.bool (p.u0 i),.int .i64 (p.u1 i)])
    have q10:(wr.alloc (.cells #[.bool (p.u0 i),.int .i64 (p.u1 i)] 83)).cell? ⟨wr.heap.size,0,none⟩=some (.bool (p.u0 i)):=HR1.out.cell (j:=0) (by simp)
    have q11:(wr.alloc (.cells #[.bool (p.u0 i),.int .i64 (p.u1 i)] 83)).cell? ⟨wr.heap.size,1,none⟩=some (.int .i64 (p.u1 i)):=HR1.out.cell (j:=1) (by simp)
    clear c0 c1
    generalize wr.alloc (.cells #[.bool (p.u0 i),.int .i64 (p.u1 i)] 83)=wx at *
    go_region_held3 (fun w9=>w9.cell? ⟨wr.heap.size,0,none⟩=some (.bool (p.u0 i))/\w9.cell? ⟨wr.heap.size,1,none⟩=some (.int .i64 (p.u1 i))) (go_keep)
     (first
       |(have _z:=HB3
         go_at_call 25
         clear _z
         refine (Ca HP3_2.out HP3_3.out (by simp) (by rw [bO];omega)).mono ?_
         rintro e w4 ⟨v4,rfl,ho,hb⟩
         have HB4:=hide (HB3.out.trans (hb.mono HB3.out.size))
         have HR4:=hide (HR3.out.low hb HR3.out.lt)
         have q40:w4.cell? ⟨wr.heap.size,0,none⟩=some (.bool (p.u0 i)):=HR4.out.cell (j:=0) (by simp)
         have q41:w4.cell? ⟨wr.heap.size,1,none⟩=some (.int .i64 (p.u1 i)):=HR4.out.cell (j:=1) (by simp)
         have HO4:=hide (HO3.out.low hb (Nat.le_refl _))
         have HJ4:=hide ho
         clear ho hb q30 q31)
       |(have _z:=HB4
         rw [if_pos (by rfl)]
         clear _z
         refine jW _ _ rfl w1.heap.size _ _ (L) (OY p i) HO4.out HJ4.out.part rfl rfl (by have:=HLw.out;rw [Dm];omega) HB4.out.size ?_
         intro v5 w5 ho hb hc
         have HR5:=hide (HR4.out.same (hc _ HR4.out.lt (HO4.out.apart HR4.out (by decide))))
         have HB5:=hide (hb _ _ HB4.out (Nat.le_refl _))
         have q50:w5.cell? ⟨wr.heap.size,0,none⟩=some (.bool (p.u0 i)):=HR5.out.cell (j:=0) (by simp)
         have q51:w5.cell? ⟨wr.heap.size,1,none⟩=some (.int .i64 (p.u1 i)):=HR5.out.cell (j:=1) (by simp)
         have HO5:=hide ho
         clear ho hb hc q40 q41)
       |(have _z:=HB2
         go_at_call 26
         clear _z
         refine (bV (p.u1 i) 1 _ (by omega)).mono ?_
         rintro e w3 ⟨v3,rfl,ho,hb⟩
         obtain ⟨b3,o3,c3,rfl,-⟩:=ho.part
         have HB3:=hide (HB2.out.trans (hb.mono HB2.out.size))
         have HR3:=hide (HR2.out.low hb HR2.out.lt)
         have q30:w3.cell? ⟨wr.heap.size,0,none⟩=some (.bool (p.u0 i)):=HR3.out.cell (j:=0) (by simp)
         have q31:w3.cell? ⟨wr.heap.size,1,none⟩=some (.int .i64 (p.u1 i)):=HR3.out.cell (j:=1) (by simp)
         have HO3:=hide (HO2.out.low hb (Nat.le_refl _))
         have HP3_2:=hide (HP2_2.out.low hb (Nat.le_refl _))
         have HP3_3:=hide ho.part
         clear ho hb q20 q21)
       |(have _z:=HB1
         go_at_call 52
         clear _z
         refine (zw (p.u0 i) _).mono ?_
         rintro e w2 ⟨v2,rfl,ho,hb⟩
         obtain ⟨b2,o2,c2,rfl,-⟩:=ho.part
         replace hb:=dL hb
         have HB2:=hide (HB1.out.trans (hb.mono HB1.out.size))
         have HR2:=hide (HR1.out.low hb HR1.out.lt)
         have q20:w2.cell? ⟨wr.heap.size,0,none⟩=some (.bool (p.u0 i)):=HR2.out.cell (j:=0) (by simp)
         have q21:w2.cell? ⟨wr.heap.size,1,none⟩=some (.int .i64 (p.u1 i)):=HR2.out.cell (j:=1) (by simp)
         have HO2:=hide (HO1.out.low hb (Nat.le_refl _))
         have HP2_2:=hide ho.part
         clear ho hb q10 q11))
    have HX:=hide (show bL w5 w1.heap.size v5 (S1 p (i+1)) from by
     have h9:=HO5.out
     rw [HLL.out,Qt] at h9
     exact h9)
    clear HP2_2 HP3_2 HP3_3 HO2 HO3 HO4 HJ4 HO5 HO1 HOw HLL HLw
    go_wp2_with fail
    go_roundw
    case rel=>exact ⟨i+1,by omega,by simp,HX,HB5⟩
    case measure=>simp;omega
  ·obtain rfl:i=p.nu:=by omega
   go_wp2
   refine HK1.out _ _ ?_
   clear HK1
   obtain ⟨-,-,-,-,-,d4,d5,d6,d7⟩:=HPC.out.low HBw.out hl1
   go_wp2_with fail
   clear d4 d5 d6 d7
   refine (bV (p.nc:Int) 2 wr (by omega)).mono ?_
   rintro e wa ⟨va,rfl,ho,hb⟩
   obtain ⟨ba,oa,ca,rfl,-⟩:=ho.part
   have HOa:=hide (HOw.out.low hb (Nat.le_refl _))
   have HJa:=hide ho.part
   have HBa:=hide (HBw.out.trans (hb.mono HBw.out.size))
   have HLa:=hide (z8 p p.nu)
   clear ho hb
   obtain ⟨L,hLL⟩:∃ L,L=S1 p p.nu:=⟨_,rfl⟩
   rw [<-hLL] at HOw HOa HLa
   have HLL:=hide hLL
   clear hLL
   go_wp2_with (first
    |(at_builtin
      refine gU rfl _ _ rfl w1.heap.size _ _ L (u64n p.nc 2) HOa.out HJa.out rfl rfl (by have:=HLa.out;have:=HSz.out;rw [dG];omega) HBa.out.size ?_
      intro vb wb hob hgrow _
      have HBb:=hide (hgrow _ _ HBa.out (Nat.le_refl _))
      have HOb:=hide (show bL wb w1.heap.size vb (S2 p 0) from by rw [QW,<-HLL.out];exact hob)
      clear hob hgrow
      obtain ⟨-,-,-,-,-,d4,d5,d6,d7⟩:=HPC.out.low HBb.out hl1)
    |go_in)
   clear HOa HJa HBa HLa HOw HBw HLL d4 d5 d6 d7
   rename_i K2 a2
   have HK2:=hide a2
   clear a2
   go_loopw [3,55] (fun ov iv wr=>∃ i:Nat,i<=p.nc/\iv=.int .i64 i/\Hid (bL wr w1.heap.size ov (S2 p i))/\Hid (Below w1.heap.size w1 wr)) (fun _ iv _=>match iv with | .int _ x=>p.nc-x.toNat|_=>0)
   case atStart=>exact ⟨0,by omega,rfl,HOb,HBb⟩
   case round=>
    clear HOb HBb
    obtain ⟨i,hi9,rfl,HOw,HBw⟩:=hrel
    by_cases hin:i<p.nc
    ·rcases HA.out.c with ⟨h9,_⟩|⟨b,o,cap,e,hb,hcap,hc⟩
     ·omega
     ·cases e
      have c0:=(HBw.out.cell (p:=⟨b,o+i*4,none⟩) hb).trans (hc i hin).1
      have c1:=(HBw.out.cell (p:=⟨b,o+i*4+1,none⟩) hb).trans (hc i hin).2.1
      have c2:=(HBw.out.cell (p:=⟨b,o+i*4+2,none⟩) hb).trans (hc i hin).2.2.1
      have c3:=(HBw.out.cell (p:=⟨b,o+i*4+3,none⟩) hb).trans (hc i hin).2.2.2
      clear hc
      have HLw:=hide (Ay p i)
      obtain ⟨L,hLL⟩:∃ L,L=S2 p i:=⟨_,rfl⟩
      rw [<-hLL] at HOw HLw
      have HLL:=hide hLL
      clear hLL
      obtain ⟨g8,k8,rfl,hg8,hg9⟩:=HOw.out.blk
      obtain ⟨kd,hkd⟩:∃ kd,kd=p.c0 i:=⟨_,rfl⟩
      rw [<-hkd] at c0
      have HKD:=hide hkd
      clear hkd
      have HB1:=hide (HBw.out.alloc HBw.out.size (.cells #[.int .i64 kd,.int .i64 (p.c1 i),.int .u64 (p.c2 i),.string (p.c3 i)] 86))
      have HO1:=hide (HOw.out.low (b_1 wr (.cells #[.int .i64 kd,.int .i64 (p.c1 i),.int .u64 (p.c2 i),.string (p.c3 i)] 86)) (Nat.le_refl _))
      have HR1:=hide (ah.mk' wr 86 #[.int .i64 kd,.int .i64 (p.c1 i),.int .u64 (p.c2 i),.string (p.c3 i)])
      have HSi:=hide (OC HF.out hin)
      by_cases h4:kd=4
      ·subst h4
       go_wp2_with (first
       |(go_at_call 26
         refine (bV _ 8 _ (by omega)).mono ?_
         rintro e wc ⟨vc,rfl,ho,hb⟩
         obtain ⟨bc,oc,cc,rfl,-⟩:=ho.part
         have HBc:=hide (HBb.out.trans (hb.mono HBb.out.size))
         have HOc:=hide (HOb.out.low hb (Nat.le_refl _))
         have HPc:=hide ho.part
         clear ho hb)
       |(have _z:=HBc
         at_builtin
         clear _z
         refine gU rfl _ _ rfl w1.heap.size _ _ _ _ HOc.out HPc.out rfl rfl (by have:=HLw.out;have:=HSi.out;rw [List.length_append,bO,List.length_singleton];omega) HBc.out.size ?_
         intro vd wd hod hgrow _
         have HBd:=hide (hgrow _ _ HBc.out (Nat.le_refl _))
         have HOd:=hide hod
         clear hod hgrow)
       |(have _z:=HO1
         at_builtin
         clear _z
         refine nQ rfl _ _ rfl w1.heap.size _ L _ HO1.out rfl (by show Value.slice (some ⟨wr.heap.size+1,0,none⟩) 1 1=_;simp) (by have:=HLw.out;have:=HSi.out;omega) HB1.out.size ?_
         intro vb wb hob hgrow hc
         have HBb:=hide (hgrow _ _ HB1.out (Nat.le_refl _))
         have HOb:=hide hob
         have HRb:=hide (HR1.out.same (hc _ HR1.out.lt (HO1.out.apart HR1.out (by decide))))
         have r0:wb.cell? ⟨wr.heap.size,0,none⟩=some (.int .i64 4):=HRb.out.cell (j:=0) (by simp)
         have r1:wb.cell? ⟨wr.heap.size,1,none⟩=some (.int .i64 (p.c1 i)):=HRb.out.cell (j:=1) (by simp)
         have r2:wb.cell? ⟨wr.heap.size,2,none⟩=some (.int .u64 (p.c2 i)):=HRb.out.cell (j:=2) (by simp)
         have r3:wb.cell? ⟨wr.heap.size,3,none⟩=some (.string (p.c3 i)):=HRb.out.cell (j:=3) (by simp)
         clear hob hgrow hc HO1 HB1)
       |go_in)
       have HX:=hide (show bL wd w1.heap.size vd (S2 p (i+1)) from by
        have h9:=HOd.out
        rw [HLL.out] at h9
        rw [<-MX,Le,<-HKD.out]
        simpa [show IntKind.u8.wrap 4=4 from rfl,u64n] using h9)
       go_roundw
       case rel=>exact ⟨i+1,by omega,by simp,HX,HBd⟩
       case measure=>simp;omega
      ·by_cases h5:kd=5
       ·subst h5
        go_wp2_with (first
        |(go_at_call 26
          refine (bV _ 8 _ (by omega)).mono ?_
          rintro e wc ⟨vc,rfl,ho,hb⟩
          obtain ⟨bc,oc,cc,rfl,-⟩:=ho.part
          have HBc:=hide (HBb.out.trans (hb.mono HBb.out.size))
          have HOc:=hide (HOb.out.low hb (Nat.le_refl _))
          have HPc:=hide ho.part
          clear ho hb)
        |(have _z:=HBc
          at_builtin
          clear _z
          refine gU rfl _ _ rfl w1.heap.size _ _ _ _ HOc.out HPc.out rfl rfl (by have:=HLw.out;have:=HSi.out;rw [List.length_append,bO,List.length_singleton];omega) HBc.out.size ?_
          intro vd wd hod hgrow _
          have HBd:=hide (hgrow _ _ HBc.out (Nat.le_refl _))
          have HOd:=hide hod
          clear hod hgrow)
        |(have _z:=HO1
          at_builtin
          clear _z
          refine nQ rfl _ _ rfl w1.heap.size _ L _ HO1.out rfl (by show Value.slice (some ⟨wr.heap.size+1,0,none⟩) 1 1=_;simp) (by have:=HLw.out;have:=HSi.out;omega) HB1.out.size ?_
          intro vb wb hob hgrow hc
          have HBb:=hide (hgrow _ _ HB1.out (Nat.le_refl _))
          have HOb:=hide hob
          have HRb:=hide (HR1.out.same (hc _ HR1.out.lt (HO1.out.apart HR1.out (by decide))))
          have r0:wb.cell? ⟨wr.heap.size,0,none⟩=some (.int .i64 5):=HRb.out.cell (j:=0) (by simp)
          have r1:wb.cell? ⟨wr.heap.size,1,none⟩=some (.int .i64 (p.c1 i)):=HRb.out.cell (j:=1) (by simp)
          have r2:wb.cell? ⟨wr.heap.size,2,none⟩=some (.int .u64 (p.c2 i)):=HRb.out.cell (j:=2) (by simp)
          have r3:wb.cell? ⟨wr.heap.size,3,none⟩=some (.string (p.c3 i)):=HRb.out.cell (j:=3) (by simp)
          clear hob hgrow hc HO1 HB1)
        |go_in)
        have HX:=hide (show bL wd w1.heap.size vd (S2 p (i+1)) from by
         have h9:=HOd.out
         rw [HLL.out] at h9
         rw [<-MX,Le,<-HKD.out]
         simpa [show IntKind.u8.wrap 5=5 from rfl,u64n] using h9)
        go_roundw
        case rel=>exact ⟨i+1,by omega,by simp,HX,HBd⟩
        case measure=>simp;omega
       ·have n4:(kd==4)=false:=by simp;exact h4
        have n5:(kd==5)=false:=by simp;exact h5
        go_wp2_with (first
        |(have _z:=HO1
          at_builtin
          clear _z
          refine nQ rfl _ _ rfl w1.heap.size _ L _ HO1.out rfl (by show Value.slice (some ⟨wr.heap.size+1,0,none⟩) 1 1=_;simp) (by have:=HLw.out;have:=HSi.out;omega) HB1.out.size ?_
          intro vb wb hob hgrow hc
          have HBb:=hide (hgrow _ _ HB1.out (Nat.le_refl _))
          have HOb:=hide hob
          have HRb:=hide (HR1.out.same (hc _ HR1.out.lt (HO1.out.apart HR1.out (by decide))))
          have r0:wb.cell? ⟨wr.heap.size,0,none⟩=some (.int .i64 kd):=HRb.out.cell (j:=0) (by simp)
          have r1:wb.cell? ⟨wr.heap.size,1,none⟩=some (.int .i64 (p.c1 i)):=HRb.out.cell (j:=1) (by simp)
          have r2:wb.cell? ⟨wr.heap.size,2,none⟩=some (.int .u64 (p.c2 i)):=HRb.out.cell (j:=2) (by simp)
          have r3:wb.cell? ⟨wr.heap.size,3,none⟩=some (.string (p.c3 i)):=HRb.out.cell (j:=3) (by simp)
          clear hob hgrow hc HO1 HB1)
        |go_in)
        have HOc:=hide (show bL wb w1.heap.size vb (L++[IntKind.u8.wrap kd]) from HOb.out)
        obtain ⟨L9,hL9⟩:∃ L9,L9=L++[IntKind.u8.wrap kd]:=⟨_,rfl⟩
        rw [<-hL9] at HOc
        have HL9:=hide hL9
        have HLn:=hide (show L9.length=L.length+1 by rw [hL9];simp)
        clear hL9 HOb
        obtain ⟨g9,k9,rfl,hg8',hg9'⟩:=HOc.out.blk
        have HO1:=HOc
        have HB1:=HBb
        have HR1:=HRb
        have hconv:=rT (p.c3 i)
        have rB:(Lib.bytesWorld wb.drew 5 (p.c3 i)).cell? ⟨wr.heap.size,3,none⟩=some (.string (p.c3 i)):=((iX wb.drew (p.c3 i)).cell (p:=⟨wr.heap.size,3,none⟩) HRb.out.lt).trans r3
        go_region_law
         (first
         |(have _z:=HU3
           go_simp
           go_at_call 25
           clear _z
           refine (Ca HU3.out HV3.out (by rw [bO];omega) (by rw [lI];have:=HSi.out;omega)).mono ?_
           rintro e w4 ⟨v4,rfl,ho,hb⟩
           have HB4:=hide (HB3.out.trans (hb.mono HB3.out.size))
           have HR4:=hide (HR3.out.low hb HR3.out.lt)
           have HO4:=hide (HO3.out.low hb (Nat.le_refl _))
           have HJ4:=hide ho
           clear ho hb)
         |(have _z:=HB4
           rw [if_pos (by rfl)]
           clear _z
           refine jW _ _ rfl w1.heap.size _ _ L9 (u64n (p.c3 i).size 4++Ka (p.c3 i)) HO4.out HJ4.out.part rfl rfl (by have:=HLw.out;have:=HSi.out;have:=HLn.out;rw [List.length_append,dG,lI];omega) HB4.out.size ?_
           intro v5 w5 ho hb _
           have HB5:=hide (hb _ _ HB4.out (Nat.le_refl _))
           have HO5:=hide ho
           clear ho hb)
         |(have _z:=HU2
           go_simp
           go_at_call 25
           clear _z
           have hb0:=iX w2 (p.c3 i)
           have HB3:=hide (HB2.out.trans (hb0.mono HB2.out.size))
           have HR3:=hide (HR2.out.low hb0 HR2.out.lt)
           have HO3:=hide (HO2.out.low hb0 (Nat.le_refl _))
           have HU3:=hide (HU2.out.low hb0 (Nat.le_refl _))
           have HV3:=hide (tQ w2 (p.c3 i))
           clear hb0
           refine (Ca HU3.out HV3.out (by rw [bO];omega) (by rw [lI];have:=HSi.out;omega)).mono ?_
           rintro e w4 ⟨v4,rfl,ho,hb⟩
           have HB4:=hide (HB3.out.trans (hb.mono HB3.out.size))
           have HR4:=hide (HR3.out.low hb HR3.out.lt)
           have HO4:=hide (HO3.out.low hb (Nat.le_refl _))
           have HJ4:=hide ho
           clear ho hb)
         |(go_simp
           go_at_call 26
           show Calls _ _ _ (Lib.bytesWorld _ _ _) _
           have hb0:=iX wb.drew (p.c3 i)
           have HB9:=hide (HB1.out.drew.trans (hb0.mono HB1.out.size))
           have HR9:=hide (HR1.out.low ((Below.refl _ _).drew.trans hb0) HR1.out.lt)
           have HO9:=hide (HO1.out.low ((Below.refl _ _).drew.trans hb0) (Nat.le_refl _))
           have HV9:=hide (tQ wb.drew (p.c3 i))
           clear hb0
           refine (bV ((p.c3 i).size:Int) 4 _ (by omega)).mono ?_
           rintro e w3 ⟨v3,rfl,ho,hb⟩
           obtain ⟨b3,o3,c3,rfl,-⟩:=ho.part
           have HB3:=hide (HB9.out.trans (hb.mono HB9.out.size))
           have HR3:=hide (HR9.out.low hb HR9.out.lt)
           have HO3:=hide (HO9.out.low hb (Nat.le_refl _))
           have HV3:=hide (HV9.out.low hb (Nat.le_refl _))
           have HU3:=hide ho.part
           clear ho hb)
         |(go_simp
           go_at_call 26
           refine (bV ((p.c3 i).size:Int) 4 _ (by omega)).mono ?_
           rintro e w2 ⟨v2,rfl,ho,hb⟩
           obtain ⟨b2,o2,c2,rfl,-⟩:=ho.part
           have HB2:=hide (HB1.out.drew.trans (hb.mono HB1.out.size))
           have HR2:=hide (HR1.out.low ((Below.refl _ _).drew.trans hb) HR1.out.lt)
           have HO2:=hide (HO1.out.low ((Below.refl _ _).drew.trans hb) (Nat.le_refl _))
           have q23:w2.cell? ⟨wr.heap.size,3,none⟩=some (.string (p.c3 i)):=HR2.out.cell (j:=3) (by simp)
           have HU2:=hide ho.part
           clear ho hb))
        all_goals
         have HX:=hide (show bL w5 w1.heap.size v5 (S2 p (i+1)) from by
          have h9:=HO5.out
          rw [HL9.out,HLL.out] at h9
          rw [<-MX,Le,<-HKD.out,if_neg h4,if_neg h5]
          simpa using h9)
         clear HO5 HO4 HO3 HJ4 HU3 HV3 HR3 HR4
        all_goals go_wp2_with fail
        all_goals go_roundw
        all_goals first |exact ⟨i+1,by omega,by simp,HX,HB5⟩|(simp;omega)
    ·obtain rfl:i=p.nc:=by omega
     go_wp2
     refine HK2.out _ _ ?_
     clear HK2
     obtain ⟨-,-,-,-,-,d4,d5,d6,d7⟩:=HPC.out.low HBw.out hl1
     go_wp2_with fail
     clear d4 d5 d6 d7
     refine (bV (p.ni:Int) 2 wr (by omega)).mono ?_
     rintro e wa ⟨va,rfl,ho,hb⟩
     obtain ⟨ba,oa,ca,rfl,-⟩:=ho.part
     have HOa:=hide (HOw.out.low hb (Nat.le_refl _))
     have HJa:=hide ho.part
     have HBa:=hide (HBw.out.trans (hb.mono HBw.out.size))
     have HLa:=hide (Ay p p.nc)
     clear ho hb
     obtain ⟨L,hLL⟩:∃ L,L=S2 p p.nc:=⟨_,rfl⟩
     rw [<-hLL] at HOw HOa HLa
     have HLL:=hide hLL
     clear hLL
     go_wp2_with (first
      |(at_builtin
        refine gU rfl _ _ rfl w1.heap.size _ _ L (u64n p.ni 2) HOa.out HJa.out rfl rfl (by have:=HLa.out;have:=HSz.out;rw [dG];omega) HBa.out.size ?_
        intro vb wb hob hgrow _
        have HBb:=hide (hgrow _ _ HBa.out (Nat.le_refl _))
        have HOb:=hide (show bL wb w1.heap.size vb (S3 p 0) from by rw [QH,<-HLL.out];exact hob)
        clear hob hgrow
        obtain ⟨-,-,-,-,-,d4,d5,d6,d7⟩:=HPC.out.low HBb.out hl1)
      |go_in)
     clear HOa HJa HBa HLa HOw HBw HLL d4 d5 d6 d7
     rename_i K3 a3
     have HK3:=hide a3
     clear a3
     go_loopw [3,103] (fun ov iv wr=>∃ i:Nat,i<=p.ni/\iv=.int .i64 i/\Hid (bL wr w1.heap.size ov (S3 p i))/\Hid (Below w1.heap.size w1 wr)) (fun _ iv _=>match iv with | .int _ x=>p.ni-x.toNat|_=>0)
     case atStart=>exact ⟨0,by omega,rfl,HOb,HBb⟩
     case round=>
      clear HOb HBb
      obtain ⟨i,hi9,rfl,HOw,HBw⟩:=hrel
      by_cases hin:i<p.ni
      ·rcases HA.out.i with ⟨h9,_⟩|⟨b,o,cap,e,hb,hcap,hc⟩
       ·omega
       ·cases e
        have c0:=(HBw.out.cell (p:=⟨b,o+i*4,none⟩) hb).trans (hc i hin).1
        have c1:=(HBw.out.cell (p:=⟨b,o+i*4+1,none⟩) hb).trans (hc i hin).2.1
        have c2:=(HBw.out.cell (p:=⟨b,o+i*4+2,none⟩) hb).trans (hc i hin).2.2.1
        have c3:=(HBw.out.cell (p:=⟨b,o+i*4+3,none⟩) hb).trans (hc i hin).2.2.2
        clear hc
        have HLw:=hide (GK p i)
        obtain ⟨L,hLL⟩:∃ L,L=S3 p i:=⟨_,rfl⟩
        rw [<-hLL] at HOw HLw
        have HLL:=hide hLL
        clear hLL
        obtain ⟨g8,k8,rfl,hg8,hg9⟩:=HOw.out.blk
        rcases HA.out.l with ⟨h8,_⟩|⟨b7,o7,cap7,e7,hb7,hcap7,hc7⟩
        ·have:=HNL.out;omega
        cases e7
        have cL:=hc7 i (by have:=HNL.out;omega)
        have hiL:(i:Int)<(p.nl:Int):=by have:=HNL.out;omega
        clear hc7
        go_wp2_with fail
        have HB1:=hide (HBw.out.alloc HBw.out.size (.cells #[.int .i64 (p.i0 i),.int .i64 (p.i1 i),.int .i64 (p.i2 i),.int .i64 (p.i3 i)] 45))
        have HO1:=hide (HOw.out.low (b_1 wr (.cells #[.int .i64 (p.i0 i),.int .i64 (p.i1 i),.int .i64 (p.i2 i),.int .i64 (p.i3 i)] 45)) (Nat.le_refl _))
        have HR1:=hide (ah.mk' wr 45 #[.int .i64 (p.i0 i),.int .i64 (p.i1 i),.int .i64 (p.i2 i),.int .i64 (p.i3 i)])
        clear c0 c1 c2 c3
        have HQ7:=hide q17
        clear q10 q11 q12 q13 q14 q15 q16 q17
        have HQL:=hide cL
        clear cL
        have q10:(wr.alloc (.cells #[.int .i64 (p.i0 i),.int .i64 (p.i1 i),.int .i64 (p.i2 i),.int .i64 (p.i3 i)] 45)).cell? ⟨wr.heap.size,0,none⟩=some (.int .i64 (p.i0 i)):=HR1.out.cell (j:=0) (by simp)
        have q11:(wr.alloc (.cells #[.int .i64 (p.i0 i),.int .i64 (p.i1 i),.int .i64 (p.i2 i),.int .i64 (p.i3 i)] 45)).cell? ⟨wr.heap.size,1,none⟩=some (.int .i64 (p.i1 i)):=HR1.out.cell (j:=1) (by simp)
        have q12:(wr.alloc (.cells #[.int .i64 (p.i0 i),.int .i64 (p.i1 i),.int .i64 (p.i2 i),.int .i64 (p.i3 i)] 45)).cell? ⟨wr.heap.size,2,none⟩=some (.int .i64 (p.i2 i)):=HR1.out.cell (j:=2) (by simp)
        have q13:(wr.alloc (.cells #[.int .i64 (p.i0 i),.int .i64 (p.i1 i),.int .i64 (p.i2 i),.int .i64 (p.i3 i)] 45)).cell? ⟨wr.heap.size,3,none⟩=some (.int .i64 (p.i3 i)):=HR1.out.cell (j:=3) (by simp)
        have q17:=(HB1.out.cell (p:=⟨w.heap.size,7,none⟩) hl1).trans HQ7.out
        have q19:=(HB1.out.cell (p:=⟨b7,o7+i,none⟩) hb7).trans HQL.out
        generalize wr.alloc (.cells #[.int .i64 (p.i0 i),.int .i64 (p.i1 i),.int .i64 (p.i2 i),.int .i64 (p.i3 i)] 45)=wx at *
        go_region_held3 (fun w9=>w9.cell? ⟨wr.heap.size,0,none⟩=some (.int .i64 (p.i0 i))/\w9.cell? ⟨wr.heap.size,1,none⟩=some (.int .i64 (p.i1 i))/\w9.cell? ⟨wr.heap.size,2,none⟩=some (.int .i64 (p.i2 i))/\w9.cell? ⟨wr.heap.size,3,none⟩=some (.int .i64 (p.i3 i))/\w9.cell? ⟨w.heap.size,7,none⟩=some (.slice (some ⟨b7,o7,none⟩) p.nl k7)/\w9.cell? ⟨b7,o7+i,none⟩=some (.int .i64 (p.l0 i))) (first |exact ⟨q80,q81,q82,q83,q87,q89⟩|exact ⟨q70,q71,q72,q73,q77,q79⟩|exact ⟨q60,q61,q62,q63,q67,q69⟩|exact ⟨q50,q51,q52,q53,q57,q59⟩|exact ⟨q40,q41,q42,q43,q47,q49⟩|exact ⟨q30,q31,q32,q33,q37,q39⟩|exact ⟨q20,q21,q22,q23,q27,q29⟩|exact ⟨q10,q11,q12,q13,q17,q19⟩|go_keep)
         (first
         |(have _z:=HB6
           go_at_call 25
           clear _z
           refine (MB HP6_2.out HP6_3.out HP6_4.out HP6_5.out HP6_6.out (by rw [bO];omega) (by rw [bO];omega) (by rw [bO];omega) (by rw [bO];omega) (by rw [bO];omega)).mono ?_
           rintro e w7 ⟨v7,rfl,ho,hb⟩
           have HB7:=hide (HB6.out.trans (hb.mono HB6.out.size))
           have HR7:=hide (HR6.out.low hb HR6.out.lt)
           have q70:w7.cell? ⟨wr.heap.size,0,none⟩=some (.int .i64 (p.i0 i)):=HR7.out.cell (j:=0) (by simp)
           have q71:w7.cell? ⟨wr.heap.size,1,none⟩=some (.int .i64 (p.i1 i)):=HR7.out.cell (j:=1) (by simp)
           have q72:w7.cell? ⟨wr.heap.size,2,none⟩=some (.int .i64 (p.i2 i)):=HR7.out.cell (j:=2) (by simp)
           have q73:w7.cell? ⟨wr.heap.size,3,none⟩=some (.int .i64 (p.i3 i)):=HR7.out.cell (j:=3) (by simp)
           have q77:=(HB7.out.cell (p:=⟨w.heap.size,7,none⟩) hl1).trans HQ7.out
           have q79:=(HB7.out.cell (p:=⟨b7,o7+i,none⟩) hb7).trans HQL.out
           have HO7:=hide (HO6.out.low hb (Nat.le_refl _))
           have HJ7:=hide ho
           clear ho hb q60 q61 q62 q63 q67 q69)
         |(have _z:=HB7
           rw [if_pos (by rfl)]
           clear _z
           refine jW _ _ rfl w1.heap.size _ _ (L) (OQ p i) HO7.out HJ7.out.part rfl rfl (by have:=HLw.out;have:=HSz.out;rw [Ct];omega) HB7.out.size ?_
           intro v8 w8 ho hb hc
           have HR8:=hide (HR7.out.same (hc _ HR7.out.lt (HO7.out.apart HR7.out (by decide))))
           have HB8:=hide (hb _ _ HB7.out (Nat.le_refl _))
           have q80:w8.cell? ⟨wr.heap.size,0,none⟩=some (.int .i64 (p.i0 i)):=HR8.out.cell (j:=0) (by simp)
           have q81:w8.cell? ⟨wr.heap.size,1,none⟩=some (.int .i64 (p.i1 i)):=HR8.out.cell (j:=1) (by simp)
           have q82:w8.cell? ⟨wr.heap.size,2,none⟩=some (.int .i64 (p.i2 i)):=HR8.out.cell (j:=2) (by simp)
           have q83:w8.cell? ⟨wr.heap.size,3,none⟩=some (.int .i64 (p.i3 i)):=HR8.out.cell (j:=3) (by simp)
           have q87:=(HB8.out.cell (p:=⟨w.heap.size,7,none⟩) hl1).trans HQ7.out
           have q89:=(HB8.out.cell (p:=⟨b7,o7+i,none⟩) hb7).trans HQL.out
           have HO8:=hide ho
           clear ho hb hc q70 q71 q72 q73 q77 q79)
         |(have _z:=HB5
           go_at_call 26
           clear _z
           refine (bV (p.l0 i) 4 _ (by omega)).mono ?_
           rintro e w6 ⟨v6,rfl,ho,hb⟩
           obtain ⟨b6,o6,c6,rfl,-⟩:=ho.part
           have HB6:=hide (HB5.out.trans (hb.mono HB5.out.size))
           have HR6:=hide (HR5.out.low hb HR5.out.lt)
           have q60:w6.cell? ⟨wr.heap.size,0,none⟩=some (.int .i64 (p.i0 i)):=HR6.out.cell (j:=0) (by simp)
           have q61:w6.cell? ⟨wr.heap.size,1,none⟩=some (.int .i64 (p.i1 i)):=HR6.out.cell (j:=1) (by simp)
           have q62:w6.cell? ⟨wr.heap.size,2,none⟩=some (.int .i64 (p.i2 i)):=HR6.out.cell (j:=2) (by simp)
           have q63:w6.cell? ⟨wr.heap.size,3,none⟩=some (.int .i64 (p.i3 i)):=HR6.out.cell (j:=3) (by simp)
           have q67:=(HB6.out.cell (p:=⟨w.heap.size,7,none⟩) hl1).trans HQ7.out
           have q69:=(HB6.out.cell (p:=⟨b7,o7+i,none⟩) hb7).trans HQL.out
           have HO6:=hide (HO5.out.low hb (Nat.le_refl _))
           have HP6_2:=hide (HP5_2.out.low hb (Nat.le_refl _))
           have HP6_3:=hide (HP5_3.out.low hb (Nat.le_refl _))
           have HP6_4:=hide (HP5_4.out.low hb (Nat.le_refl _))
           have HP6_5:=hide (HP5_5.out.low hb (Nat.le_refl _))
           have HP6_6:=hide ho.part
           clear ho hb q50 q51 q52 q53 q57 q59)
         |(have _z:=HB4
           go_at_call 26
           clear _z
           refine (bV (p.i3 i) 4 _ (by omega)).mono ?_
           rintro e w5 ⟨v5,rfl,ho,hb⟩
           obtain ⟨b5,o5,c5,rfl,-⟩:=ho.part
           have HB5:=hide (HB4.out.trans (hb.mono HB4.out.size))
           have HR5:=hide (HR4.out.low hb HR4.out.lt)
           have q50:w5.cell? ⟨wr.heap.size,0,none⟩=some (.int .i64 (p.i0 i)):=HR5.out.cell (j:=0) (by simp)
           have q51:w5.cell? ⟨wr.heap.size,1,none⟩=some (.int .i64 (p.i1 i)):=HR5.out.cell (j:=1) (by simp)
           have q52:w5.cell? ⟨wr.heap.size,2,none⟩=some (.int .i64 (p.i2 i)):=HR5.out.cell (j:=2) (by simp)
           have q53:w5.cell? ⟨wr.heap.size,3,none⟩=some (.int .i64 (p.i3 i)):=HR5.out.cell (j:=3) (by simp)
           have q57:=(HB5.out.cell (p:=⟨w.heap.size,7,none⟩) hl1).trans HQ7.out
           have q59:=(HB5.out.cell (p:=⟨b7,o7+i,none⟩) hb7).trans HQL.out
           have HO5:=hide (HO4.out.low hb (Nat.le_refl _))
           have HP5_2:=hide (HP4_2.out.low hb (Nat.le_refl _))
           have HP5_3:=hide (HP4_3.out.low hb (Nat.le_refl _))
           have HP5_4:=hide (HP4_4.out.low hb (Nat.le_refl _))
           have HP5_5:=hide ho.part
           clear ho hb q40 q41 q42 q43 q47 q49)
         |(have _z:=HB3
           go_at_call 26
           clear _z
           refine (bV (p.i2 i) 4 _ (by omega)).mono ?_
           rintro e w4 ⟨v4,rfl,ho,hb⟩
           obtain ⟨b4,o4,c4,rfl,-⟩:=ho.part
           have HB4:=hide (HB3.out.trans (hb.mono HB3.out.size))
           have HR4:=hide (HR3.out.low hb HR3.out.lt)
           have q40:w4.cell? ⟨wr.heap.size,0,none⟩=some (.int .i64 (p.i0 i)):=HR4.out.cell (j:=0) (by simp)
           have q41:w4.cell? ⟨wr.heap.size,1,none⟩=some (.int .i64 (p.i1 i)):=HR4.out.cell (j:=1) (by simp)
           have q42:w4.cell? ⟨wr.heap.size,2,none⟩=some (.int .i64 (p.i2 i)):=HR4.out.cell (j:=2) (by simp)
           have q43:w4.cell? ⟨wr.heap.size,3,none⟩=some (.int .i64 (p.i3 i)):=HR4.out.cell (j:=3) (by simp)
           have q47:=(HB4.out.cell (p:=⟨w.heap.size,7,none⟩) hl1).trans HQ7.out
           have q49:=(HB4.out.cell (p:=⟨b7,o7+i,none⟩) hb7).trans HQL.out
           have HO4:=hide (HO3.out.low hb (Nat.le_refl _))
           have HP4_2:=hide (HP3_2.out.low hb (Nat.le_refl _))
           have HP4_3:=hide (HP3_3.out.low hb (Nat.le_refl _))
           have HP4_4:=hide ho.part
           clear ho hb q30 q31 q32 q33 q37 q39)
         |(have _z:=HB2
           go_at_call 26
           clear _z
           refine (bV (p.i1 i) 1 _ (by omega)).mono ?_
           rintro e w3 ⟨v3,rfl,ho,hb⟩
           obtain ⟨b3,o3,c3,rfl,-⟩:=ho.part
           have HB3:=hide (HB2.out.trans (hb.mono HB2.out.size))
           have HR3:=hide (HR2.out.low hb HR2.out.lt)
           have q30:w3.cell? ⟨wr.heap.size,0,none⟩=some (.int .i64 (p.i0 i)):=HR3.out.cell (j:=0) (by simp)
           have q31:w3.cell? ⟨wr.heap.size,1,none⟩=some (.int .i64 (p.i1 i)):=HR3.out.cell (j:=1) (by simp)
           have q32:w3.cell? ⟨wr.heap.size,2,none⟩=some (.int .i64 (p.i2 i)):=HR3.out.cell (j:=2) (by simp)
           have q33:w3.cell? ⟨wr.heap.size,3,none⟩=some (.int .i64 (p.i3 i)):=HR3.out.cell (j:=3) (by simp)
           have q37:=(HB3.out.cell (p:=⟨w.heap.size,7,none⟩) hl1).trans HQ7.out
           have q39:=(HB3.out.cell (p:=⟨b7,o7+i,none⟩) hb7).trans HQL.out
           have HO3:=hide (HO2.out.low hb (Nat.le_refl _))
           have HP3_2:=hide (HP2_2.out.low hb (Nat.le_refl _))
           have HP3_3:=hide ho.part
           clear ho hb q20 q21 q22 q23 q27 q29)
         |(have _z:=HB1
           go_at_call 26
           clear _z
           refine (bV (p.i0 i) 1 _ (by omega)).mono ?_
           rintro e w2 ⟨v2,rfl,ho,hb⟩
           obtain ⟨b2,o2,c2,rfl,-⟩:=ho.part
           replace hb:=dL hb
           have HB2:=hide (HB1.out.trans (hb.mono HB1.out.size))
           have HR2:=hide (HR1.out.low hb HR1.out.lt)
           have q20:w2.cell? ⟨wr.heap.size,0,none⟩=some (.int .i64 (p.i0 i)):=HR2.out.cell (j:=0) (by simp)
           have q21:w2.cell? ⟨wr.heap.size,1,none⟩=some (.int .i64 (p.i1 i)):=HR2.out.cell (j:=1) (by simp)
           have q22:w2.cell? ⟨wr.heap.size,2,none⟩=some (.int .i64 (p.i2 i)):=HR2.out.cell (j:=2) (by simp)
           have q23:w2.cell? ⟨wr.heap.size,3,none⟩=some (.int .i64 (p.i3 i)):=HR2.out.cell (j:=3) (by simp)
           have q27:=(HB2.out.cell (p:=⟨w.heap.size,7,none⟩) hl1).trans HQ7.out
           have q29:=(HB2.out.cell (p:=⟨b7,o7+i,none⟩) hb7).trans HQL.out
           have HO2:=hide (HO1.out.low hb (Nat.le_refl _))
           have HP2_2:=hide ho.part
           clear ho hb q10 q11 q12 q13 q17 q19))
        have HX:=hide (show bL w8 w1.heap.size v8 (S3 p (i+1)) from by
         have h9:=HO8.out
         rw [HLL.out,Qy] at h9
         exact h9)
        clear HP2_2 HP3_2 HP3_3 HP4_2 HP4_3 HP4_4 HP5_2 HP5_3 HP5_4 HP5_5 HP6_2 HP6_3 HP6_4 HP6_5 HP6_6 HO2 HO3 HO4 HO5 HO6 HO7 HJ7 HO8 HO1 HOw HLL HLw
        go_wp2_with fail
        go_roundw
        case rel=>exact ⟨i+1,by omega,by simp,HX,HB8⟩
        case measure=>simp;omega
      ·obtain rfl:i=p.ni:=by omega
       go_wp2
       refine HK3.out _ _ ?_
       clear HK3
       go_wp2_with fail
       go_ret
       exact ⟨_,rfl,HOw.out.mono HB0.out.size,HB0.out.trans (HBw.out.mono HB0.out.size)⟩
end Go.Proofs.YtjibjahfbblieaaGreatDoor
namespace Go.Proofs.YtjibjahfbblieaaGreatDoor.F
def Gb (r:Nat × Nat):Bool:=
 let off:=dn r*4503599627370496%2658455991569831745807614120560689152
 let l:=(5316911983139663491615228241121378304-9007199254740992-off)%2658455991569831745807614120560689152
 decide (0<l/\l+18014398509481984<2658455991569831745807614120560689152/\dn r%2658455991569831745807614120560689152≠0/\4503599627370496<=lb 300 (dn r%2658455991569831745807614120560689152) 2658455991569831745807614120560689152 l (l+18014398509481984))
theorem Jg {r:Nat × Nat} (h:Gb r=true) (x:Nat) (h1:4503599627370496<=x) (h2:x<9007199254740992):
 9007199254740992<x*dn r%2658455991569831745807614120560689152/\x*dn r%2658455991569831745807614120560689152<2658455991569831745807614120560689152-9007199254740992:=by
 have h':=of_decide_eq_true h
 generalize dn r=P at *
 obtain ⟨t,rfl⟩:∃ t,x=4503599627370496+t:=⟨x-4503599627370496,by omega⟩
 have ht:t<4503599627370496:=by omega
 have e:(4503599627370496+t)*P%2658455991569831745807614120560689152=(P*4503599627370496%2658455991569831745807614120560689152+P%2658455991569831745807614120560689152*t%2658455991569831745807614120560689152)%2658455991569831745807614120560689152:=by
  rw [Nat.add_mul,Nat.add_mod,Nat.mul_comm 4503599627370496 P,Nat.mul_comm t P,Nat.mod_mul_mod]
 rw [e]
 generalize ho:P*4503599627370496%2658455991569831745807614120560689152=off at *
 have hoff:off<2658455991569831745807614120560689152:=by rw [<-ho];exact Nat.mod_lt _ (by omega)
 obtain ⟨c1,c2,c3,c4⟩:=h'
 have snd:=xO 300 (P%2658455991569831745807614120560689152) 2658455991569831745807614120560689152 ((5316911983139663491615228241121378304-9007199254740992-off)%2658455991569831745807614120560689152) ((5316911983139663491615228241121378304-9007199254740992-off)%2658455991569831745807614120560689152+18014398509481984) t c1 (by omega) c2
 generalize hzz:P%2658455991569831745807614120560689152*t%2658455991569831745807614120560689152=z at *
 have hz:z<2658455991569831745807614120560689152:=by rw [<-hzz];exact Nat.mod_lt _ (by omega)
 have hl:(5316911983139663491615228241121378304-9007199254740992-off)%2658455991569831745807614120560689152=if off<=2658455991569831745807614120560689152-9007199254740992 then 2658455991569831745807614120560689152-9007199254740992-off else 5316911983139663491615228241121378304-9007199254740992-off:=by
  split<;>omega
 have hPm:P%2658455991569831745807614120560689152<2658455991569831745807614120560689152:=Nat.mod_lt _ (by omega)
 generalize lb 300 (P%2658455991569831745807614120560689152) 2658455991569831745807614120560689152 ((5316911983139663491615228241121378304-9007199254740992-off)%2658455991569831745807614120560689152) ((5316911983139663491615228241121378304-9007199254740992-off)%2658455991569831745807614120560689152+18014398509481984)=LB at *
 generalize (5316911983139663491615228241121378304-9007199254740992-off)%2658455991569831745807614120560689152=l at *
 by_cases hin:l<=z/\z<=l+18014398509481984
 ·have:=snd hin.1 hin.2 hPm
  omega
 ·have hr:(off+z)%2658455991569831745807614120560689152=if off+z<2658455991569831745807614120560689152 then off+z else off+z-2658455991569831745807614120560689152:=by
   split<;>omega
  rw [hr]
  split at hl<;>split<;>omega
def Et:Bool:=(List.range 696).all fun i=>(decide (326<=i)&&decide (i<=373))||Gb (Go.Pinned.pow10Rows.getD i (0,0))
set_option maxRecDepth 100000 in
theorem wW:Et=true:=by decide+kernel
def Fe:Bool:=(List.range 23).all fun i=>decide (36893488147419103232*10^i<=2^((127-dP (-(i:Int))).toNat+11)/\36893488147419103232*10^i<=2^(132+i)/\(dP (-(i:Int))-127).toNat=0)
theorem wX:Fe=true:=by decide+kernel
theorem E8 {p:Int} (h1: -348<=p) (h2:p<=347) (h3:p< -22∨25<p):Gb (rowAt p)=true:=by
 have:=b_ wW (i:=(p+348).toNat) (by omega)
 unfold rowAt
 simp only [Bool.or_eq_true,Bool.and_eq_true,decide_eq_true_eq] at this
 rcases this with h|h
 ·omega
 ·exact h
theorem KX {p:Int} (hp1: -348<=p) (hp2:p<=347) {x y s:Nat} (hxy:x=2048*y) (hx1:9223372036854775808<=x) (hx2:x<aF) (hs:4<=s):
 sM x (rowAt p).1 (rowAt p).2 s=unr (x*eO p) (aS p*(2^s*bg)):=by
 have hrow:=of_decide_eq_true (wR (p:=p) (by omega) (by omega))
 have hhi:=wh (p:=p) (by omega) (by omega)
 have hfr:=fun h3=>Jg (E8 hp1 hp2 h3) y (by omega) (by rw [e64] at hx2;omega)
 have hpm:dn (rowAt p)=(rowAt p).1*aF-(rowAt p).2:=rfl
 obtain ⟨r1,r2,r3,r4,r5⟩:=hrow
 generalize hrr:rowAt p=r at *
 obtain ⟨hi,lo⟩:=r
 simp only at *
 have hden:0<aS p:=Nat.mul_pos (Nat.pow_pos (by omega)) (Nat.pow_pos (by omega))
 have hS2:2<=2^s:=by
  have:2^1<=2^s:=Nat.pow_le_pow_right (by omega) (by omega)
  omega
 have hP:x*dn (hi,lo)+x*lo=x*hi*aF:=by
  rw [<-Nat.mul_add,hpm,Nat.mul_assoc]
  congr 1
  have:lo<=hi*aF:=r3
  omega
 have A1:x*eO p<=aS p*(x*dn (hi,lo)):=by
  have:=Nat.mul_le_mul_left x r4
  calc x*eO p<=x*(dn (hi,lo)*aS p):=this
   _=aS p*(x*dn (hi,lo)):=by rw [<-Nat.mul_assoc,Nat.mul_comm]
 have A2:aS p*(x*dn (hi,lo))<x*eO p+aS p*x:=by
  have:=Nat.mul_lt_mul_of_pos_left r5 (show 0<x by omega)
  rw [Nat.mul_add] at this
  calc aS p*(x*dn (hi,lo))=x*(dn (hi,lo)*aS p):=by rw [<-Nat.mul_assoc x,Nat.mul_comm (aS p)]
   _<x*eO p+x*aS p:=this
   _=x*eO p+aS p*x:=by rw [Nat.mul_comm x (aS p)]
 unfold sM
 refine uS (P:=x*dn (hi,lo)) hx1 hx2 r2 hS2 hden hP A1 A2 ?_ ?_
 ·rw [Nat.div_pos_iff]
  refine ⟨by rw [e64];omega,?_⟩
  have:9223372036854775808*9223372036854775808<=x*hi:=Nat.mul_le_mul hx1 hhi
  rw [e64];omega
 ·intro h hH hm1 hm2
  have hPf:x*dn (hi,lo)+x*lo%aF=h*2^s*bg+(x*hi%aF-x*lo/aF)*aF:=by
   have d1:=Nat.div_add_mod (x*hi) aF
   have d2:=Nat.div_add_mod (x*lo) aF
   rw [hH] at d1
   have e:x*hi*aF=h*2^s*bg+x*hi%aF*aF:=by
    conv=>lhs;rw [<-d1]
    rw [Nat.add_mul,NI,Nat.mul_comm aF,Nat.mul_assoc]
   rw [e] at hP
   rw [Nat.sub_mul,Nat.mul_comm (x*lo/aF)]
   have hle:aF*(x*lo/aF)<=x*hi%aF*aF:=by rw [Nat.mul_comm];exact Nat.mul_le_mul_right _ hm1
   omega
  have hf:x*lo%aF<aF:=Nat.mod_lt _ (by rw [e64];omega)
  by_cases hfarp:p< -22∨25<p
  ·exfalso
   have hq:=hfr hfarp
   have hM:(x*hi%aF-x*lo/aF)*aF<=aF:=by
    have:x*hi%aF-x*lo/aF<=1:=by omega
    calc _<=1*aF:=Nat.mul_le_mul_right _ this
     _=aF:=Nat.one_mul _
   have hZ:h*2^s*bg=2048*(h*2^(s-4)*2658455991569831745807614120560689152):=by
    have:s=s-4+4:=by omega
    conv=>lhs;rw [this,Nat.pow_add]
    rw [e128]
    generalize 2^(s-4)=z
    have:(2:Nat)^4=16:=rfl
    rw [this]
    have e0:h*(z*16)*340282366920938463463374607431768211456=h*z*(16*340282366920938463463374607431768211456):=by rw [<-Nat.mul_assoc h z 16,Nat.mul_assoc (h*z)]
    rw [e0,Nat.mul_left_comm 2048]
   have hPx:x*dn (hi,lo)=2048*(y*dn (hi,lo)):=by rw [hxy,Nat.mul_assoc]
   rw [hZ,hPx] at hPf
   generalize y*dn (hi,lo)=P at *
   generalize h*2^(s-4)=Y at *
   generalize (x*hi%aF-x*lo/aF)*aF=M at *
   generalize x*lo%aF=f at *
   rw [e64] at hM hf
   clear hP A1 A2 r4 r5 hZ hpm hfr hH hPx
   by_cases hge:Y*2658455991569831745807614120560689152<=P
   ·have e:P=2658455991569831745807614120560689152*Y+(P-Y*2658455991569831745807614120560689152):=by omega
    rw [e,Nat.mul_add_mod,Nat.mod_eq_of_lt (by omega)] at hq
    omega
   ·obtain ⟨Y',rfl⟩:∃ Y',Y=Y'+1:=⟨Y-1,by
     rcases Nat.eq_zero_or_pos Y with e|e
     ·subst e;omega
     ·omega⟩
    have e:P=2658455991569831745807614120560689152*Y'+(P-Y'*2658455991569831745807614120560689152):=by omega
    rw [e,Nat.mul_add_mod,Nat.mod_eq_of_lt (by omega)] at hq
    omega
  ·by_cases hp0:0<=p
   ·have hsm:=of_decide_eq_true (b_ oo (i:=p.toNat) (by omega))
    have ei:348+p.toNat=(p+348).toNat:=by omega
    have ep:((p.toNat:Nat):Int)=p:=by omega
    rw [ei,ep] at hsm
    have hra:Go.Pinned.pow10Rows.getD (p+348).toNat (0,0)=(hi,lo):=hrr
    rw [hra] at hsm
    obtain ⟨l0,h0,d1⟩:=hsm
    simp only at l0 h0
    subst l0
    rw [d1] at A1 A2 ⊢
    rw [Nat.one_mul] at A1 A2 ⊢
    rw [d1] at r4 r5
    have hev:x*hi%aF=0:=by
     have h2:x*hi%aF%2=0:=by
      rw [e64,Nat.mod_mod_of_dvd _ (by decide:2 ∣ 18446744073709551616),Nat.mul_mod,h0,Nat.mul_zero,Nat.zero_mod]
     rw [Nat.mul_zero,Nat.zero_div] at hm2
     omega
    rw [hev,Nat.mul_zero,Nat.zero_mod,Nat.zero_div,Nat.sub_zero,Nat.zero_mul,Nat.add_zero,Nat.add_zero] at hPf
    have hnp:eO p=dn (hi,0):=by omega
    rw [hnp,hPf,Nat.mul_assoc]
   ·have hng:=of_decide_eq_true (b_ wX (i:=(-p).toNat) (by omega))
    have ei:(((-p).toNat:Nat):Int)= -p:=by omega
    rw [ei,Int.neg_neg] at hng
    obtain ⟨g1,g2,g3⟩:=hng
    have hnum:eO p=2^(127-dP p).toNat:=by
     unfold eO
     have:p.toNat=0:=by omega
     rw [this,Nat.pow_zero,Nat.one_mul]
    have hdn:aS p=10^(-p).toNat:=by unfold aS;rw [g3,Nat.pow_zero,Nat.mul_one]
    have hM:(x*hi%aF-x*lo/aF)*aF<=aF:=by
     have:x*hi%aF-x*lo/aF<=1:=by omega
     calc _<=1*aF:=Nat.mul_le_mul_right _ this
      _=aF:=Nat.one_mul _
    have hv:h*(aS p*(2^s*bg))=aS p*(h*2^s*bg):=by rw [Nat.mul_left_comm,Nat.mul_assoc h]
    refine mF (g:=2^min ((127-dP p).toNat+11) (132+(-p).toNat)) (d:=36893488147419103232*aS p) ?_ ?_ ?_ ?_ ?_
    ·have e11:x*eO p=y*2^((127-dP p).toNat+11):=by
      rw [hnum,hxy,Nat.pow_add,Nat.mul_comm 2048 y,Nat.mul_assoc]
      congr 1
      rw [Nat.mul_comm]
     rw [e11]
     exact Nat.dvd_trans (Nat.pow_dvd_pow 2 (Nat.min_le_left _ _)) (Nat.dvd_mul_left _ _)
    ·rw [hdn]
     have e10:10^(-p).toNat=5^(-p).toNat*2^(-p).toNat:=by rw [<-Nat.mul_pow]
     have e3:h*(10^(-p).toNat*(2^s*bg))=h*5^(-p).toNat*2^(s-4)*2^(132+(-p).toNat):=by
      have f1:2^s=2^(s-4)*2^4:=by rw [<-Nat.pow_add];congr 1;omega
      have f2:(2:Nat)^(132+(-p).toNat)=2^4*bg*2^(-p).toNat:=by rw [Nat.pow_add];rfl
      rw [e10,f1,f2]
      generalize 5^(-p).toNat=a5
      generalize 2^(-p).toNat=a2
      generalize 2^(s-4)=a3
      generalize 2^4=a4
      generalize bg=a6
      simp only [Nat.mul_comm,Nat.mul_left_comm]
     rw [e3]
     exact Nat.dvd_trans (Nat.pow_dvd_pow 2 (Nat.min_le_right _ _)) (Nat.dvd_mul_left _ _)
    ·rw [hv]
     have h1:aS p*(x*dn (hi,lo))<=aS p*(h*2^s*bg+aF):=Nat.mul_le_mul_left _ (by omega)
     rw [Nat.mul_add,e64] at h1
     omega
    ·rw [hv]
     have h1:aS p*(h*2^s*bg)<=aS p*(x*dn (hi,lo)+aF):=Nat.mul_le_mul_left _ (by omega)
     have h2:aS p*x<=aS p*aF:=Nat.mul_le_mul_left _ (Nat.le_of_lt hx2)
     rw [Nat.mul_add,e64] at h1
     rw [e64] at h2
     omega
    ·rw [hdn]
     rcases Nat.le_total ((127-dP p).toNat+11) (132+(-p).toNat) with hh|hh
     ·rw [Nat.min_eq_left hh];exact g1
     ·rw [Nat.min_eq_right hh];exact g2
end Go.Proofs.YtjibjahfbblieaaGreatDoor.F
namespace Go.Proofs.YtjibjahfbblieaaGreatDoor
open Go Go.RowKit
set_option linter.unusedVariables false
theorem Bp (d:Ieee.Datum) (h:∀ s m,d≠ .nan s m):d.order d=some .eq:=by
 cases d with
 |nan s m=>exact absurd rfl (h s m)
 |infinity s=>simp [Ieee.Datum.order]
 |number s m i=>simp [Ieee.Datum.order]
theorem pO:Ieee.double.signWeight=9223372036854775808:=by decide
theorem qR:Ieee.double.infRung=9218868437227405312:=by decide
theorem rW (x:Nat):(FloatKind.f64.format.order x x !=some .eq)=isNanI (x:Int):=by
 have e:FloatKind.f64.format.order x x=(Ieee.double.read x).order (Ieee.double.read x):=rfl
 rw [e]
 by_cases h:9218868437227405312<x%9223372036854775808
 ·have hr:∃ s m,Ieee.double.read x=.nan s m:=by
   have hb:Ieee.double.binade<=Ieee.double.infRung:=by decide
   refine ⟨(x/9223372036854775808%2==1),x%9223372036854775808-9218868437227405312,?_⟩
   unfold Ieee.Format.read
   rw [pO,qR] at *
   dsimp only
   rw [if_neg (by omega),if_neg (by omega),if_neg (by omega)]
  obtain ⟨s,m,hr⟩:=hr
  rw [hr]
  have:isNanI (x:Int)=true:=by unfold isNanI;simp;omega
  rw [this]
  rfl
 ·have hr:∀ s m,Ieee.double.read x≠ .nan s m:=by
   intro s m
   unfold Ieee.Format.read
   rw [pO,qR]
   dsimp only
   split
   ·intro h;cases h
   ·split
    ·intro h;cases h
    ·split
     ·intro h;cases h
     ·omega
  rw [Bp _ hr]
  have:isNanI (x:Int)=false:=by unfold isNanI;simp;omega
  rw [this]
  rfl
set_option maxHeartbeats 400000 in
set_option maxRecDepth 100000 in
theorem zA (A:Nat) (w:World):Calls Tryz.prog 105 #[.float .f64 A] w fun e w'=>e=.returned (.bool (FloatKind.f64.format.order A A !=some .eq))/\w'=w:=by
 go_enter Tryz.func105,Tryz.ntmps105
 go_wp2
 all_goals go_ret
 all_goals exact ⟨rfl,rfl⟩
theorem sF (b:Int) (w:World) (h0:0<=b):Calls Tryz.prog 105 #[.float .f64 b.toNat] w fun e w'=>e=.returned (.bool (isNanI b))/\w'=w:=by
 have h:=rW b.toNat
 rw [show ((b.toNat:Nat):Int)=b by omega] at h
 rw [<-h]
 exact zA _ w
theorem bB (z:Int) (w:World):(callFunc 106 #[.int .u64 z]).run Tryz.prog w=.ok (.value (.float .f64 z.toNat)) w:=by
 rw [run_callFunc_extern (e:=Extern.MathFloatBits.float64frombits) Tryz.func106 (by kernel_rfl) (by kernel_rfl) (by kernel_rfl) (by kernel_rfl)]
 rfl
set_option maxHeartbeats 400000 in
set_option maxRecDepth 100000 in
theorem qd (b:Int) (w:World) (h0:0<=b):Calls Tryz.prog 89 #[.int .u64 b] w fun e w'=>e=.returned (.bool (decide (b=9221120237041090560)||!isNanI b))/\w'=w:=by
 have hfb:=bB b
 have HI:=hide (sF b · h0)
 by_cases hb:b=9221120237041090560
 ·subst hb
  go_enter Tryz.func89,Tryz.ntmps89
  go_wp2_with (go_at_call 105;refine (HI.out _).mono ?_;rintro e w' ⟨rfl,rfl⟩)
  all_goals go_ret
  all_goals exact ⟨rfl,rfl⟩
 ·rw [decide_eq_false hb,Bool.false_or]
  have hb':(b==9221120237041090560)=false:=by simpa using hb
  go_enter Tryz.func89,Tryz.ntmps89
  go_wp2_with (go_at_call 105;refine (HI.out _).mono ?_;rintro e w' ⟨rfl,rfl⟩)
  all_goals go_ret
  all_goals exact ⟨rfl,rfl⟩
set_option maxHeartbeats 400000 in
set_option maxRecDepth 100000 in
theorem jh (v lo hi:Int) (w:World):
 Calls Tryz.prog 88 #[.int .i64 v,.int .i64 lo,.int .i64 hi] w fun e w'=>e=.returned (.bool (inI v lo hi))/\w'=w:=by
 by_cases h1:lo<=v
 ·by_cases h2:v<=hi
  ·rw [tY ⟨h1,h2⟩]
   go_enter Tryz.func88,Tryz.ntmps88
   go_wp2
   go_ret
   exact ⟨rfl,rfl⟩
  ·rw [oC (by omega)]
   go_enter Tryz.func88,Tryz.ntmps88
   go_wp2
   go_ret
   exact ⟨rfl,rfl⟩
 ·rw [oC (by omega)]
  go_enter Tryz.func88,Tryz.ntmps88
  go_wp2
  go_ret
  exact ⟨rfl,rfl⟩
theorem yB (v:Int):(v==v%256)=inI v 0 255:=by
 by_cases h:0<=v/\v<=255
 ·rw [tY h];simp;omega
 ·rw [oC h];simp;omega
theorem O5 (v:Int):(v==(v+2147483648)%4294967296-2147483648)=inI v (-2147483648) 2147483647:=by
 by_cases h: -2147483648<=v/\v<=2147483647
 ·rw [tY h];simp;omega
 ·rw [oC h];simp;omega
set_option maxHeartbeats 400000 in
set_option maxRecDepth 100000 in
theorem jw (v:Int) (w:World):
 Calls Tryz.prog 61 #[.int .i64 v] w fun e w'=>e=.returned (.bool (inI v 0 255))/\w'=w:=by
 rw [<-yB]
 go_enter Tryz.func61,Tryz.ntmps61
 go_wp2
 go_ret
 exact ⟨rfl,rfl⟩
set_option maxHeartbeats 400000 in
set_option maxRecDepth 100000 in
theorem kg (v:Int) (w:World):
 Calls Tryz.prog 62 #[.int .i64 v] w fun e w'=>e=.returned (.bool (inI v 0 2147483647))/\w'=w:=by
 go_enter Tryz.func62,Tryz.ntmps62
 go_wp2_with (go_at_call 88;refine (jh _ _ _ _).mono ?_;rintro e w' ⟨rfl,rfl⟩)
 go_ret
 exact ⟨rfl,rfl⟩
set_option maxHeartbeats 400000 in
set_option maxRecDepth 100000 in
theorem rC (b:Bool) (v:Int) (w:World):
 Calls Tryz.prog 64 #[.agg #[.bool b,.int .i64 v]] w fun e w'=>e=.returned (.bool (inI v 0 255))/\Below w.heap.size w w':=by
 go_enter Tryz.func64,Tryz.ntmps64
 go_wp2_with (go_at_call 61;refine (jw _ _).mono ?_;rintro e w' ⟨rfl,rfl⟩)
 go_ret
 exact ⟨rfl,b_1 _ _⟩
set_option maxHeartbeats 6400000 in
set_option maxRecDepth 100000 in
theorem nL (o a b c:Int) (w:World):
 Calls Tryz.prog 67 #[.agg #[.int .i64 o,.int .i64 a,.int .i64 b,.int .i64 c]] w fun e w'=>jk (inI o 0 255=true/\inI a 0 255=true/\inI b (-2147483648) 2147483647=true/\inI c (-2147483648) 2147483647=true) w e w':=by
 have k1:∀ v:Int,(v%256=v/\inI v 0 255=true)∨((v==v%256)=false/\inI v 0 255=false):=fun v=>by
  by_cases h:0<=v/\v<=255
  ·exact .inl ⟨by omega,tY h⟩
  ·exact .inr ⟨by rw [yB,oC h],oC h⟩
 have k2:∀ v:Int,((wrap32 v=v/\wrap64 v=v)/\inI v (-2147483648) 2147483647=true)∨((∃ x:Int,wrap32 v=x/\wrap64 x=x/\¬ v=x)/\inI v (-2147483648) 2147483647=false):=fun v=>by
  by_cases h: -2147483648<=v/\v<=2147483647
  ·exact .inl ⟨⟨by unfold wrap32;omega,by unfold wrap64;omega⟩,tY h⟩
  ·exact .inr ⟨⟨wrap32 v,rfl,by unfold wrap64 wrap32;omega,by unfold wrap32;omega⟩,oC h⟩
 rcases k1 o with ⟨e1,f1⟩|⟨e1,f1⟩<;>rcases k1 a with ⟨e2,f2⟩|⟨e2,f2⟩<;>rcases k2 b with ⟨⟨e3,g3⟩,f3⟩|⟨⟨x3,e3,g3,i3⟩,f3⟩<;>rcases k2 c with ⟨⟨e4,g4⟩,f4⟩|⟨⟨x4,e4,g4,i4⟩,f4⟩
 all_goals rw [f1,f2,f3,f4]
 all_goals clear k1 k2 f1 f2 f3 f4
 all_goals go_enter Tryz.func67,Tryz.ntmps67
 all_goals go_wp2
 all_goals go_ret
 all_goals refine ⟨_,rfl,?_,b_1 _ _⟩
 all_goals first |exact .inl ⟨rfl,by simp⟩|exact .inr ⟨rfl,by simp⟩
set_option maxHeartbeats 1600000 in
set_option maxRecDepth 100000 in
theorem nU (k i b:Int) (t:ByteArray) (w:World) (h0:0<=b) (h1:b<18446744073709551616) (ht:t.size<=1048576):
 Calls Tryz.prog 66 #[.agg #[.int .i64 k,.int .i64 i,.int .u64 b,.string t]] w fun e w'=>jk (bI k i b t) w e w':=by
 clear h1
 by_cases k4:k=4
 ·subst k4
  go_enter Tryz.func66,Tryz.ntmps66
  go_wp2
  all_goals go_ret
  all_goals refine ⟨_,rfl,?_,b_1 _ _⟩
  all_goals first |exact .inl ⟨rfl,by simp_all [bI]⟩|exact .inr ⟨rfl,by simp_all [bI]⟩
 by_cases k5:k=5
 ·subst k5
  have HI:=hide (qd b · h0)
  by_cases hn:(decide (b=9221120237041090560)||!isNanI b)=true
  ·rw [hn] at HI
   have HNN:Hid (¬ (isNanI b=true/\b≠9221120237041090560)):=by
    refine hide (fun hq=>?_)
    rw [hq.1,decide_eq_false hq.2] at hn
    cases hn
   clear hn
   go_enter Tryz.func66,Tryz.ntmps66
   go_wp2_with (go_at_call 89;refine (HI.out _).mono ?_;rintro e w' ⟨rfl,rfl⟩)
   all_goals go_ret
   all_goals refine ⟨_,rfl,?_,b_1 _ _⟩
   all_goals first |exact .inl ⟨rfl,.inr (.inl ⟨rfl,by assumption,by assumption,HNN.out⟩)⟩|exact .inr ⟨rfl,by simp_all [bI]⟩
  ·rw [Bool.not_eq_true] at hn
   rw [hn] at HI
   go_enter Tryz.func66,Tryz.ntmps66
   go_wp2_with (go_at_call 89;refine (HI.out _).mono ?_;rintro e w' ⟨rfl,rfl⟩)
   all_goals go_ret
   all_goals refine ⟨_,rfl,?_,b_1 _ _⟩
   all_goals first |exact .inl ⟨rfl,by simp_all [bI]⟩|exact .inr ⟨rfl,by simp_all [bI]⟩
 by_cases k6:k=6
 ·subst k6
  by_cases hts:t.size<=65536
  ·have hti:((t.size:Int)<=65536):=by omega
   go_enter Tryz.func66,Tryz.ntmps66
   go_wp2
   all_goals go_ret
   all_goals refine ⟨_,rfl,?_,b_1 _ _⟩
   all_goals clear ht hti
   all_goals first |exact .inl ⟨rfl,by simp_all [bI]⟩|exact .inr ⟨rfl,by simp_all [bI]⟩
  ·have hti:¬ ((t.size:Int)<=65536):=by omega
   go_enter Tryz.func66,Tryz.ntmps66
   go_wp2
   all_goals go_ret
   all_goals refine ⟨_,rfl,.inr ⟨rfl,?_⟩,b_1 _ _⟩
   all_goals rintro (⟨h,_⟩|⟨h,_⟩|⟨_,_,_,h⟩)
   all_goals first |omega|exact hts h
 ·go_enter Tryz.func66,Tryz.ntmps66
  go_wp2
  all_goals go_ret
  all_goals refine ⟨_,rfl,?_,b_1 _ _⟩
  all_goals exact .inr ⟨rfl,by simp_all [bI]⟩
theorem dZ {Q:Nat->Prop} {i:Nat} (h:∀ k,k<i->Q k) (hi:Q i):∀ k,k<i+1->Q k:=fun k hk=>by
 by_cases e:k=i
 ·subst e;exact hi
 ·exact h k (by omega)
set_option maxHeartbeats 1600000 in
set_option maxRecDepth 100000 in
theorem Fz (v:Value) (n:Nat) (x0:Nat->Bool) (x1:Nat->Int) (Q:Nat->Prop) (w:World) (hn:n<=1048576) (h:mq w v n x0 x1)
 (HC:∀ i,i<n->∀ w',Below w.heap.size w w'->Calls Tryz.prog 64 #[.agg #[.bool (x0 i),.int .i64 (x1 i)]] w' fun e w2=>jk (Q i) w' e w2):
 Calls Tryz.prog 63 #[v,.func (.func 64) #[] #[]] w fun e w'=>jk (∀ k,k<n->Q k) w e w':=by
 have HA:=hide h
 obtain ⟨sa,cap,rfl⟩:=h.val
 clear h
 have HC:=hide HC
 go_enter Tryz.func63,Tryz.ntmps63
 go_wp2_with fail
 go_loopw [9] (fun iv wr=>∃ i:Nat,i<=n/\iv=.int .i64 i/\Hid (∀ k,k<i->Q k)/\Hid (Below w.heap.size w wr)) (fun iv _=>match iv with | .int _ x=>n-x.toNat|_=>0)
 case atStart=>exact ⟨0,by omega,rfl,hide (fun k hk=>by omega),hide (Below.refl _ _)⟩
 case round=>
  obtain ⟨i,hi9,rfl,HU,HBw⟩:=hrel
  by_cases hin:i<n
  ·rcases HA.out with ⟨h9,_⟩|⟨b,o,cap',e,hb,hcap,hc⟩
   ·omega
   cases e
   have c0:=(HBw.out.cell (p:=⟨b,o+i*2,none⟩) hb).trans (hc i hin).1
   have c1:=(HBw.out.cell (p:=⟨b,o+i*2+1,none⟩) hb).trans (hc i hin).2
   clear hc
   go_wp2_with fail
   refine (HC.out i hin _ (HBw.out.alloc HBw.out.size _)).mono ?_
   rintro e w3 ⟨r,rfl,hr,hb3⟩
   have HB4:=hide ((HBw.out.alloc HBw.out.size _).trans (hb3.mono (HBw.out.alloc HBw.out.size _).size))
   clear c0 c1 hb3
   rcases hr with ⟨rfl,hr⟩|⟨rfl,hr⟩
   ·have HR:=hide hr
    clear hr
    go_wp2
    go_roundw
    case rel=>exact ⟨i+1,by omega,by simp,hide (dZ HU.out HR.out),HB4⟩
    case measure=>simp;omega
   ·have HR:=hide hr
    clear hr
    go_wp2
    go_ret
    exact ⟨_,rfl,.inr ⟨rfl,fun hq=>HR.out (hq i hin)⟩,HB4.out⟩
  ·obtain rfl:i=n:=by omega
   go_wp2
   go_ret
   exact ⟨_,rfl,.inl ⟨rfl,HU.out⟩,HBw.out⟩
set_option maxHeartbeats 1600000 in
set_option maxRecDepth 100000 in
theorem wY (v:Value) (n:Nat) (x0:Nat->Int) (x1:Nat->Int) (x2:Nat->Int) (x3:Nat->ByteArray) (Q:Nat->Prop) (w:World) (hn:n<=1048576) (h:gD w v n x0 x1 x2 x3)
 (HC:∀ i,i<n->∀ w',Below w.heap.size w w'->Calls Tryz.prog 66 #[.agg #[.int .i64 (x0 i),.int .i64 (x1 i),.int .u64 (x2 i),.string (x3 i)]] w' fun e w2=>jk (Q i) w' e w2):
 Calls Tryz.prog 65 #[v,.func (.func 66) #[] #[]] w fun e w'=>jk (∀ k,k<n->Q k) w e w':=by
 have HA:=hide h
 obtain ⟨sa,cap,rfl⟩:=h.val
 clear h
 have HC:=hide HC
 go_enter Tryz.func65,Tryz.ntmps65
 go_wp2_with fail
 go_loopw [9] (fun iv wr=>∃ i:Nat,i<=n/\iv=.int .i64 i/\Hid (∀ k,k<i->Q k)/\Hid (Below w.heap.size w wr)) (fun iv _=>match iv with | .int _ x=>n-x.toNat|_=>0)
 case atStart=>exact ⟨0,by omega,rfl,hide (fun k hk=>by omega),hide (Below.refl _ _)⟩
 case round=>
  obtain ⟨i,hi9,rfl,HU,HBw⟩:=hrel
  by_cases hin:i<n
  ·rcases HA.out with ⟨h9,_⟩|⟨b,o,cap',e,hb,hcap,hc⟩
   ·omega
   cases e
   have c0:=(HBw.out.cell (p:=⟨b,o+i*4,none⟩) hb).trans (hc i hin).1
   have c1:=(HBw.out.cell (p:=⟨b,o+i*4+1,none⟩) hb).trans (hc i hin).2.1
   have c2:=(HBw.out.cell (p:=⟨b,o+i*4+2,none⟩) hb).trans (hc i hin).2.2.1
   have c3:=(HBw.out.cell (p:=⟨b,o+i*4+3,none⟩) hb).trans (hc i hin).2.2.2
   clear hc
   go_wp2_with fail
   refine (HC.out i hin _ (HBw.out.alloc HBw.out.size _)).mono ?_
   rintro e w3 ⟨r,rfl,hr,hb3⟩
   have HB4:=hide ((HBw.out.alloc HBw.out.size _).trans (hb3.mono (HBw.out.alloc HBw.out.size _).size))
   clear c0 c1 c2 c3 hb3
   rcases hr with ⟨rfl,hr⟩|⟨rfl,hr⟩
   ·have HR:=hide hr
    clear hr
    go_wp2
    go_roundw
    case rel=>exact ⟨i+1,by omega,by simp,hide (dZ HU.out HR.out),HB4⟩
    case measure=>simp;omega
   ·have HR:=hide hr
    clear hr
    go_wp2
    go_ret
    exact ⟨_,rfl,.inr ⟨rfl,fun hq=>HR.out (hq i hin)⟩,HB4.out⟩
  ·obtain rfl:i=n:=by omega
   go_wp2
   go_ret
   exact ⟨_,rfl,.inl ⟨rfl,HU.out⟩,HBw.out⟩
set_option maxHeartbeats 1600000 in
set_option maxRecDepth 100000 in
theorem wQ (v:Value) (n:Nat) (x0:Nat->Int) (x1:Nat->Int) (x2:Nat->Int) (x3:Nat->Int) (Q:Nat->Prop) (w:World) (hn:n<=1048576) (h:jQ w v n x0 x1 x2 x3)
 (HC:∀ i,i<n->∀ w',Below w.heap.size w w'->Calls Tryz.prog 67 #[.agg #[.int .i64 (x0 i),.int .i64 (x1 i),.int .i64 (x2 i),.int .i64 (x3 i)]] w' fun e w2=>jk (Q i) w' e w2):
 Calls Tryz.prog 41 #[v,.func (.func 67) #[] #[]] w fun e w'=>jk (∀ k,k<n->Q k) w e w':=by
 have HA:=hide h
 obtain ⟨sa,cap,rfl⟩:=h.val
 clear h
 have HC:=hide HC
 go_enter Tryz.func41,Tryz.ntmps41
 go_wp2_with fail
 go_loopw [9] (fun iv wr=>∃ i:Nat,i<=n/\iv=.int .i64 i/\Hid (∀ k,k<i->Q k)/\Hid (Below w.heap.size w wr)) (fun iv _=>match iv with | .int _ x=>n-x.toNat|_=>0)
 case atStart=>exact ⟨0,by omega,rfl,hide (fun k hk=>by omega),hide (Below.refl _ _)⟩
 case round=>
  obtain ⟨i,hi9,rfl,HU,HBw⟩:=hrel
  by_cases hin:i<n
  ·rcases HA.out with ⟨h9,_⟩|⟨b,o,cap',e,hb,hcap,hc⟩
   ·omega
   cases e
   have c0:=(HBw.out.cell (p:=⟨b,o+i*4,none⟩) hb).trans (hc i hin).1
   have c1:=(HBw.out.cell (p:=⟨b,o+i*4+1,none⟩) hb).trans (hc i hin).2.1
   have c2:=(HBw.out.cell (p:=⟨b,o+i*4+2,none⟩) hb).trans (hc i hin).2.2.1
   have c3:=(HBw.out.cell (p:=⟨b,o+i*4+3,none⟩) hb).trans (hc i hin).2.2.2
   clear hc
   go_wp2_with fail
   refine (HC.out i hin _ (HBw.out.alloc HBw.out.size _)).mono ?_
   rintro e w3 ⟨r,rfl,hr,hb3⟩
   have HB4:=hide ((HBw.out.alloc HBw.out.size _).trans (hb3.mono (HBw.out.alloc HBw.out.size _).size))
   clear c0 c1 c2 c3 hb3
   rcases hr with ⟨rfl,hr⟩|⟨rfl,hr⟩
   ·have HR:=hide hr
    clear hr
    go_wp2
    go_roundw
    case rel=>exact ⟨i+1,by omega,by simp,hide (dZ HU.out HR.out),HB4⟩
    case measure=>simp;omega
   ·have HR:=hide hr
    clear hr
    go_wp2
    go_ret
    exact ⟨_,rfl,.inr ⟨rfl,fun hq=>HR.out (hq i hin)⟩,HB4.out⟩
  ·obtain rfl:i=n:=by omega
   go_wp2
   go_ret
   exact ⟨_,rfl,.inl ⟨rfl,HU.out⟩,HBw.out⟩
set_option maxHeartbeats 1600000 in
set_option maxRecDepth 100000 in
theorem Aa (v:Value) (n:Nat) (x0:Nat->Int) (Q:Nat->Prop) (w:World) (hn:n<=1048576) (h:gy w v n x0)
 (HC:∀ i,i<n->∀ w',Below w.heap.size w w'->Calls Tryz.prog 62 #[.int .i64 (x0 i)] w' fun e w2=>jk (Q i) w' e w2):
 Calls Tryz.prog 68 #[v,.func (.func 62) #[] #[]] w fun e w'=>jk (∀ k,k<n->Q k) w e w':=by
 have HA:=hide h
 obtain ⟨sa,cap,rfl⟩:=h.val
 clear h
 have HC:=hide HC
 go_enter Tryz.func68,Tryz.ntmps68
 go_wp2_with fail
 go_loopw [9] (fun iv wr=>∃ i:Nat,i<=n/\iv=.int .i64 i/\Hid (∀ k,k<i->Q k)/\Hid (Below w.heap.size w wr)) (fun iv _=>match iv with | .int _ x=>n-x.toNat|_=>0)
 case atStart=>exact ⟨0,by omega,rfl,hide (fun k hk=>by omega),hide (Below.refl _ _)⟩
 case round=>
  obtain ⟨i,hi9,rfl,HU,HBw⟩:=hrel
  by_cases hin:i<n
  ·rcases HA.out with ⟨h9,_⟩|⟨b,o,cap',e,hb,hcap,hc⟩
   ·omega
   cases e
   have c0:=(HBw.out.cell (p:=⟨b,o+i,none⟩) hb).trans (hc i hin)
   clear hc
   go_wp2_with fail
   refine (HC.out i hin _ HBw.out).mono ?_
   rintro e w3 ⟨r,rfl,hr,hb3⟩
   have HB4:=hide (HBw.out.trans (hb3.mono HBw.out.size))
   clear c0 hb3
   rcases hr with ⟨rfl,hr⟩|⟨rfl,hr⟩
   ·have HR:=hide hr
    clear hr
    go_wp2
    go_roundw
    case rel=>exact ⟨i+1,by omega,by simp,hide (dZ HU.out HR.out),HB4⟩
    case measure=>simp;omega
   ·have HR:=hide hr
    clear hr
    go_wp2
    go_ret
    exact ⟨_,rfl,.inr ⟨rfl,fun hq=>HR.out (hq i hin)⟩,HB4.out⟩
  ·obtain rfl:i=n:=by omega
   go_wp2
   go_ret
   exact ⟨_,rfl,.inl ⟨rfl,HU.out⟩,HBw.out⟩
end Go.Proofs.YtjibjahfbblieaaGreatDoor
