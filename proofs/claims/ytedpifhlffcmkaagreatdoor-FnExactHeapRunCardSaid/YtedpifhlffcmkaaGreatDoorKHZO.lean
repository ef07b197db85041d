import Derived.Test.YtedpifhlffcmkaaGreatDoorKHZK
import Derived.Maps.AppendAt
import Derived.Test.YtedpifhlffcmkaaGreatDoorKHUD0
namespace Go.Proofs.YtedpifhlffcmkaaGreatDoor
open Go Go.RowKit
set_option maxHeartbeats 6400000
set_option maxRecDepth 100000
set_option linter.unusedVariables false
section
variable {G:Gh} {L:PM} {S S':Nat->Prop} {base n:Nat} {h:Hp} {o:Ob} {w w1 w2:World}
attribute [local go_sem] bD
theorem Keeps.into (h:Keeps w w1 S) (k:Keeps w1 w2 S') (hb:∀ c,S' c->S c∨w.heap.size<=c):Keeps w w2 S:=
 ⟨k.os.trans h.os,k.tape.trans h.tape,k.output.trans h.output,Nat.le_trans h.size k.size,fun c hc hn=>(k.block c (Nat.lt_of_lt_of_le hc h.size) (fun e=>by
  rcases hb c e with x|x
  ·exact hn x
  ·omega)).trans (h.block c hc hn)⟩
def su (m:Nat):Array Value:=#[.int .i64 0,.int .i64 0,.int .i64 0,.int .i64 0,.bool false,.int .i64 (m:Int),.pointer none,.slice none 0 0,.map none,.int .i64 0,.int .i64 0,.int .i64 0,.int .i64 0]
theorem yM (p:PS base S h L w) (g:Gd h) (b:Ja h) (m:Nat):
 Calls Tryz.prog 68 #[.pointer (some ⟨L.H,0,none⟩),.int .i64 (m:Int)] w fun e w'=>∃ L',e=.returned (.pointer (some ⟨L'.tb h.objs.length,0,none⟩))/\L'.H=L.H/\PS base S (h.make m) L' w'/\Keeps w w' S:=by
 obtain ⟨x,y,G,a,r⟩:=p
 have hb1:=aJ w (.cells (su m) 136)
 have HRX:=ah (show aD (w.alloc (.cells (su m) 136)) 136 w.heap.size 13 (fun j=>(su m).getD j (.bool false)) from aD.mk' w 136 (su m))
 have a1:=a.low hb1
 have hli:=a1.li 7 (by simp [b_])
 have hli2:(w.alloc (.cells (su m) 136)).ownsRow base 67 1 (L.li 7) (G.Jt.map (cO L.tb 7)).length (G.Jt.map (cO L.tb 7)):=by rw [List.length_map];exact hli
 have hol:G.Jt.length<=1000000:=by have:=r.ol;have:=g.s.len;omega
 have hps:=g.i.ps
 have hEN:=rT (X:=w.heap.size) a1.hp rfl rfl rfl rfl rfl rfl HRX.o rfl hli2 a1.bs (by rw [List.length_map];exact hol) (by have:=g.s.len;show 0<=(h.objs.length:Int)-1/\(h.objs.length:Int)-1<=1000000;omega) (by have:=g.s.fr;show 0<=(h.live:Int)/\(h.live:Int)<=1000000;omega) (by have:=g.s.JQ;show 0<=(h.bytes:Int)/\(h.bytes:Int)<=1000000;omega) (by have:=g.s.cr;show 0<=(h.D6:Int)/\(h.D6:Int)<=1000000;omega)
 rw [List.length_map] at hEN
 have HEN:=ah hEN
 have HB1:=ah hb1
 have HA:=ah a
 have HR:=ah r
 have HG:=ah g
 have HBN:=ah b
 clear hEN hb1 a a1 r g b hli hli2 HRX hol hps
 go_enter Tryz.func68,Tryz.ntmps68
 go_wp2_with fail
 refine HEN.o.mono ?_
 rintro e2 w2 ⟨rfl,v',h1,h2,h3,h4,h5⟩
 have H2:=ah (And.intro h1 (And.intro h2 (And.intro h3 (And.intro h4 h5))))
 clear h1 h2 h3 h4 h5
 go_wp2
 go_ret
 obtain ⟨h1,h2,h3,h4,h5⟩:=H2.o
 obtain ⟨B1,hB1⟩:=iA x
 obtain ⟨B2,hB2⟩:=iA y
 obtain ⟨B3,hB3⟩:=iA G.ag
 obtain ⟨B4,hB4⟩:=iA G.Jt
 have gi:=HG.o.i
 have lvl:∀ n,h.Lv n->n<h.objs.length:=fun n hn=>by obtain ⟨o,ho⟩:=hn;exact Hp.Es ho
 have hlst:∀ n,n∈h.roots∨n∈h.grey∨n∈h.finals∨n∈h.pending->n<h.objs.length:=by
  intro n hn
  rcases hn with hn|hn|hn|hn
  ·exact lvl n (Hp.ES (gi.ls n (.inl hn)))
  ·by_cases hs:h.state=1
   ·exact lvl n ((gi.s1 hs).ll n (.inl hn))
   ·rw [(HG.o.e hs).1] at hn;simp at hn
  ·exact lvl n (Hp.ES (gi.ls n (.inr (.inr hn))))
  ·exact lvl n (Hp.ES (gi.ls n (.inr (.inl hn))))
 have kk:Keeps w w2 (fun c=>c=L.H∨(L.li 7).ownBlock=some c):=Keeps.into (Keeps.of HB1.o (Nat.le_refl _) _) h4 (fun c e=>by
  rcases e with e|e|e
  ·exact .inl (.inl e)
  ·exact .inr (by omega)
  ·exact .inl (.inr e))
 have hsz:w.heap.size<=(w.alloc (.cells (su m) 136)).heap.size:=HB1.o.size
 have key:=HA.o.made (m:=m) (X:=w.heap.size) (N0:=h.objs.length+1+B1+B2+B3+B4) (v:=v') HBN.o hlst (by omega) (fun n hn=>by
  rcases hn with hn|hn|hn|hn
  ·have:=hB1 n hn;omega
  ·have:=hB2 n hn;omega
  ·have:=hB3 n hn;omega
  ·have:=hB4 n hn;omega) kk (Nat.le_refl _) (h1.congr (fun j hj=>?_)) (h2.congr (fun j hj=>?_)) h3 (fun q hq=>(h5 q hq).imp id (Nat.le_trans hsz))
 ·refine ⟨L.mk1 h.objs.length (h.objs.length+1+B1+B2+B3+B4) w.heap.size v',?_,rfl,⟨_,_,_,key.1,HR.o.made HG.o m _⟩,key.2⟩
  show _=Ending.returned (.pointer (some ⟨Ar L.tb h.objs.length _ w.heap.size h.objs.length,0,none⟩))
  unfold Ar
  rw [if_pos rfl]
  rfl
 ·have hlen:(h.objs++[some (⟨h.white,m,[],false⟩:Ob)]).length=h.objs.length+1:=by simp
  refine aS (fun j=>(if j=5 then (.int .i64 ((h.D6:Int)+40):Value) else if j=4 then .int .i64 ((h.bytes:Int)+40) else if j=7 then v' else if j=3 then .int .i64 ((h.live:Int)+1) else if j=2 then .int .i64 ((h.objs.length:Int)-1+1) else iY (h.wk x y) G L j)=iY ((h.make m).wk (x.map (j5 h.objs.length (h.objs.length+1+B1+B2+B3+B4))) (y.map (j5 h.objs.length (h.objs.length+1+B1+B2+B3+B4)))) (G.mk1 h.objs.length (h.objs.length+1+B1+B2+B3+B4)) (L.mk1 h.objs.length (h.objs.length+1+B1+B2+B3+B4) w.heap.size v') j) rfl rfl ?_ rfl rfl rfl rfl rfl rfl rfl rfl rfl rfl rfl rfl rfl rfl rfl rfl j hj
  show Value.int .i64 ((h.objs.length:Int)-1+1)=Value.int .i64 (((h.objs++[some (⟨h.white,m,[],false⟩:Ob)]).length:Int)-1)
  rw [hlen]
  congr 1
  omega
 ·refine bK (fun j=>(if j=2 then (.int .i64 (0+40):Value) else if j=0 then .int .i64 (h.white:Int) else if j=1 then .int .i64 ((h.objs.length:Int)-1+1) else (su m).getD j (.bool false))=lT ⟨h.white,m,[],false⟩ h.objs.length (.slice none 0 0) (.map none) j) rfl ?_ rfl rfl rfl rfl rfl rfl rfl rfl rfl rfl rfl j hj
  show Value.int .i64 ((h.objs.length:Int)-1+1)=Value.int .i64 (h.objs.length:Int)
  congr 1
  omega
theorem rz (p:PS base S h L w) (ho:h.ob n=some o) (hfl:h.finals.length<=20000):
 Calls Tryz.prog 80 #[.pointer (some ⟨L.H,0,none⟩),.iface 127 (.pointer (some ⟨L.tb n,0,none⟩))] w fun e w'=>e=.returned (.tuple #[])/\∃ L',JD L L'/\PS base S (h.EK n) L' w'/\Keeps w w' S:=by
 obtain ⟨x,y,G,a,r⟩:=p
 have t4:w.cell? ⟨L.tb n,4,none⟩=some (.bool o.fin):=(a.ob n o ho).cell (j:=4) (by omega)
 have z4:=(a.ob n o ho).Jv 4
 have HCL:=ah (a.JE n 4 (.bool true) (fun o=>{ o with fin:=true }) (by decide) ho ⟨rfl,rfl⟩ (bK _ rfl rfl rfl rfl rfl rfl rfl rfl rfl rfl rfl rfl rfl))
 have hm2:=fK (L.tb n)
 have HHD:=ah (d_ w (L.tb n))
 have HR:=ah r
 clear a r ho
 go_enter Tryz.func80,Tryz.ntmps80
 go_wp2_with fail
 refine HHD.o.mono ?_
 rintro e2 w2 ⟨rfl,rfl⟩
 go_upto_region 1 with (fail)
 generalize w2.setCell ⟨L.tb n,4,none⟩ (.bool true)=w3 at *
 have c15:w3.cell? ⟨L.H,15,none⟩=some (L.li 15):=HCL.o.1.hp.cell (j:=15) (by omega)
 have z15:=HCL.o.1.hp.Jv 15
 have hli:=HCL.o.1.li 15 (by simp [b_])
 have hlen:((dh ((h.wk x y).upd n fun o=>{ o with fin:=true }) G 15).map (cO L.tb 15)).length=(dh ((h.wk x y).upd n fun o=>{ o with fin:=true }) G 15).length:=by simp
 rw [<-hlen] at hli
 have HAD:=ah (fF w3 base L.H 15 (L.li 15) ((dh ((h.wk x y).upd n fun o=>{ o with fin:=true }) G 15).map (cO L.tb 15)) (L.tb n) c15 z15 hli (fun e=>ak hli HCL.o.1.hp (by decide) e) (by rw [hlen];show h.finals.length<=1000000;omega) HCL.o.1.bs)
 clear hli hlen c15 z15 t4 z4 hm2
 go_wp2_with fail
 refine HAD.o.mono ?_
 intro e4 w4 hr4
 obtain ⟨rfl,L4,hl4,ha4,hk4⟩:=HCL.o.1.add (k:=15) (by simp [iZ]) hr4
 have H4:=ah (And.intro hl4 (And.intro ha4 hk4))
 clear hr4 hl4 ha4 hk4
 go_wp2
 go_end0
 exact ⟨rfl,L4,H4.o.1.x,⟨x,y,G,H4.o.2.1,HR.o.same rfl rfl rfl rfl rfl (h.El n _) (wV h n _)⟩,HCL.o.2.trans H4.o.2.2⟩
theorem JR.less (a:JR base S h G L w) (v:Value) (hv:∀ g,v.ownBlock=some g->g<w.heap.size/\g≠L.H/\(∀ n o,h.ob n=some o->g≠L.tb n/\(L.es n).ownBlock≠some g/\bJ (L.mp n)≠some g)/\∀ k,b_ k->(L.li k).ownBlock≠some g):JR base (fun b=>S b/\v.ownBlock≠some b) h G L w:=
 ⟨a.hp,a.ob,a.en,a.mp,a.li,a.ij,a.ei,a.mi,a.lj,a.bH,a.bt,a.bm,a.bs,⟨a.sH,fun e=>(hv _ e).2.1 rfl⟩,fun n o e=>⟨a.st n o e,fun c=>((hv _ c).2.2.1 n o e).1 rfl⟩,fun n o g e hg=>⟨a.se n o g e hg,fun c=>((hv _ c).2.2.1 n o e).2.1 hg⟩,fun n o g e hg=>⟨a.sm n o g e hg,fun c=>((hv _ c).2.2.1 n o e).2.2 hg⟩,fun k g hk hg=>⟨a.sl k g hk hg,fun c=>(hv _ c).2.2.2 k hk hg⟩,fun b hb=>⟨a.up b hb,fun c=>by have:=(hv _ c).1;omega⟩⟩
end
section
variable {P base n:Nat} {Q:Exit->Act->World->Prop} {a:Act} {av v:Value} {l:List Value} {ops:Array Oper} {rest:List Oper} {tb:Nat->Nat} {td:List Nat} {w w':World}
attribute [local go_sem] bD
theorem BM (w:World):(eqGuard .eql 70 (.tmp 3) (.const (.slice none 0 0)) (.slice none 0 0) (.slice none 0 0)).run Tryz.prog w=.ok () w:=by kernel_rfl
theorem BF (a:Addr) (n c:Nat) (w:World):(eqGuard .eql 70 (.tmp 3) (.const (.slice none 0 0)) (.slice (some a) n c) (.slice none 0 0)).run Tryz.prog w=.ok () w:=by kernel_rfl
theorem Cy (w:World):(binOp .eql 70 (.slice none 0 0) (.slice none 0 0)).run Tryz.prog w=.ok (.bool true) w:=by kernel_rfl
theorem Db (a:Addr) (n c:Nat) (w:World):(binOp .eql 70 (.slice (some a) n c) (.slice none 0 0)).run Tryz.prog w=.ok (.bool false) w:=by kernel_rfl
theorem tu {o:Oper} (hgd:o.guard=none) (s x:Operand) (t:TypeId)
 (ho:o.op=.call { callee:=.builtin .append,args:=#[s,x],argTypes:=#[t,t] }) (vs vx v':Value) (hs:a.eval s=vs) (hx:a.eval x=vx) (hr:(Builtin.append_ #[t,t] o.type #[vs,vx]).run Tryz.prog w=.ok v' w')
 (h:wpList Tryz.prog ops Q rest (a.put o.dst v') w'):wpList Tryz.prog ops Q (o::rest) a w:=
 wpList_plain hgd fun _ hK=>by
  unfold Oper.wp execOp
  simp only [ho,resolve,invoke,builtin,Sem.run_bind,Sem.run_pure,Result.andThen_ok,List.map_toArray,List.map_cons,List.map_nil,hs,hx,hr]
  exact hK _ _ h
theorem rV (hown:w.ownsRow base 67 1 v l.length l) (h1:∀ u∈l,u.oneCell'=true) (hl:l.length<=1000000):
 Calls Tryz.prog 101 #[v] w fun e w'=>∃ v',e=.returned v'/\w'.ownsRow w.heap.size 67 1 v' l.length l/\Below w.heap.size w w':=by
 have hown':=hown
 rcases hown.2 with ⟨rfl,h0⟩|⟨g,cap,cur,rfl,h2,h3,h4,h5,h6,h7⟩
 ·have HL:=ah h0
  have h8:=BM w
  have h9:=Cy w
  clear hown hown' h0 hl h1
  go_enter Tryz.func101,Tryz.ntmps101
  go_wp2
  go_ret
  refine ⟨_,rfl,?_,Below.refl _ _⟩
  have:l=[]:=List.length_eq_zero_iff.1 HL.o
  subst this
  exact ⟨rfl,.inl ⟨rfl,rfl⟩⟩
 ·have h8:=BF ⟨g,0,none⟩ l.length cap w
  have h9:=Db ⟨g,0,none⟩ l.length cap w
  have hb:=aJ w (.cells #[] 67)
  have hrg:=au hown (g:=g) (by simp [Value.ownBlock])
  obtain ⟨i0,hi,hz0,hz1,hz2⟩:=info_parts eu
  obtain ⟨v',w',hr,ho,hg,-,hwh⟩:=run_append_own_at (P:=Tryz.prog) (w.alloc (.cells #[] 67)) w.heap.size 70 70 67 i0 .nilIface 1 16 Tryz.underlying70 hi hz0 hz1 hz2 rfl (by decide) (.slice (some ⟨w.heap.size,0,none⟩) 0 0) 0 [] ⟨rfl,.inr ⟨w.heap.size,0,#[],rfl,Nat.le_refl _,Array.getElem?_push_size ..,Nat.le_refl _,Nat.zero_le _,rfl,rfl⟩⟩ ⟨g,0,none⟩ l.length cap l (by simp) (fun j u hj=>by
   have hjl:=(List.getElem?_eq_some_iff.1 hj).1
   rw [aY,Nat.zero_add]
   rw [(hb.cell (p:=⟨g,j,none⟩) hrg.lt),hrg.cell (j:=j) (by omega),List.getD_eq_getElem?_getD,hj]
   rfl) h1 (by unfold maxLen;omega) (by omega) hb.size
  have H2:=ah (And.intro ho (And.intro hg hwh))
  have HB:=ah hb
  have HRR:=ah hr
  clear hr
  clear ho hg hwh hb hrg hown hown' h3 h7 hi hz0 hz1 hz2 h1
  go_enter Tryz.func101,Tryz.ntmps101
  go_wp2_with (first
   |(at_builtin
     refine tu rfl (.tmp 5) (.tmp 6) 70 rfl _ _ v' rfl rfl HRR.o ?_)
   |fail)
  go_ret
  have ho:w'.ownsRow w.heap.size 67 1 v' l.length l:=by simpa using H2.o.1
  have kk:Keeps (w.alloc (.cells #[] 67)) w' (fun b=>b=w.heap.size):=⟨H2.o.2.1.os,H2.o.2.1.tape,H2.o.2.1.output,H2.o.2.1.size,fun b hb hn=>H2.o.2.1.block b hb (fun e=>hn (by simpa [Value.ownBlock] using e))⟩
  exact ⟨_,rfl,ho,HB.o.trans (kk.below (B:=w.heap.size) HB.o.size (fun b e=>Nat.le_of_eq e.symm))⟩
structure Jf (base:Nat) (tb:Nat->Nat) (P:Nat) (av:Value) (td:List Nat) (w:World):Prop where
 r:aD w 72 P 1 (fun _=>av)
 o:w.ownsRow base 67 1 av td.length (td.map (iG tb))
 b:base<=w.heap.size
theorem Jf.low (x:Jf base tb P av td w) (hb:Below w.heap.size w w'):Jf base tb P av td w':=
 have k:=Keeps.of hb (Nat.le_refl _) (fun _=>False)
 ⟨x.r.keep k id,aj x.o k (fun _ _ e=>e),Nat.le_trans x.b hb.size⟩
theorem Jf.keep {base:Nat} {tb:Nat->Nat} {P:Nat} {av:Value} {td:List Nat} {w w':World} {S:Nat->Prop} (x:Jf base tb P av td w) (k:Keeps w w' S) (h1:¬ S P) (h2:∀ g,av.ownBlock=some g->¬ S g):Jf base tb P av td w':=
 ⟨x.r.keep k h1,aj x.o k h2,Nat.le_trans x.b k.size⟩
def DV (base:Nat) (tb:Nat->Nat) (P:Nat) (av:Value) (td:List Nat) (w:World) (e:Ending) (w':World):Prop:=
 e=.returned (.tuple #[])/\∃ av',Jf base tb P av' td w'/\Keeps w w' (fun c=>c=P∨av.ownBlock=some c)/\∀ g,av'.ownBlock=some g->av.ownBlock=some g∨w.heap.size<=g
theorem Jf.put (x:Jf base tb P av td w) {e:Ending} (r:uT 67 base P 0 av (td.map (iG tb)) (iG tb n) w e w'):DV base tb P av (td++[n]) w e w':=by
 obtain ⟨rfl,a2,k2,w1,rfl,h1,h2,h3⟩:=r
 rw [List.length_map] at h1 h3 ⊢
 have hr1:=x.r.keep h2 (fun c=>ak x.o x.r (by decide) c)
 have k3:Keeps w1 (w1.setCell ⟨P,0,none⟩ (.slice a2 (td.length+1) k2)) (fun c=>c=P):=Keeps.setCell (S:=fun c=>c=P) (Keeps.refl w1 _) rfl _
 refine ⟨rfl,.slice a2 (td.length+1) k2,⟨(hr1.set (j:=0) (by omega) _).congr (fun j hj=>by rw [if_pos (by omega)]),?_,Nat.le_trans x.b (Nat.le_trans h2.size k3.size)⟩,(h2.mono (fun c e=>Or.inr e)).trans (k3.mono (fun c e=>Or.inl e)),h3⟩
 have:=aj h1 k3 (fun g hg c=>ak h1 hr1 (by decide) (c ▸ hg))
 rw [List.length_append,List.map_append]
 exact this
theorem mh (x:Jf base tb P av td w) (v:HV) (hl:td.length<=999999):
 Calls Tryz.prog 103 #[.pointer (some ⟨P,0,none⟩),.agg #[.int .i64 (vk v),.int .i64 (vi v),.int .u64 0,.string ByteArray.empty,aG tb v]] w (DV base tb P av (td++bn v) w):=by
 have HX:=ah (bX w tb v)
 have HB:=ah (aJ w (.cells #[.int .i64 (vk v),.int .i64 (vi v),.int .u64 0,.string ByteArray.empty,aG tb v] 143))
 have HP:=ah (x.low (aJ w (.cells #[.int .i64 (vk v),.int .i64 (vi v),.int .u64 0,.string ByteArray.empty,aG tb v] 143)))
 cases h5:(vk v==5) with
 |false=>
  have HRF:Hq (bn v=[]):=ah (by
   cases v with
   |none=>rfl
   |some z=>cases z with
    |inl z=>rfl
    |inr n=>simp [vk] at h5)
  clear x
  go_enter Tryz.func103,Tryz.ntmps103
  go_upto_region 1 with (fail)
  generalize w.alloc (.cells #[.int .i64 (vk v),.int .i64 (vi v),.int .u64 0,.string ByteArray.empty,aG tb v] 143)=w1 at *
  generalize hX:w.heap.size=X at *
  have x0:w1.cell? ⟨X,0,none⟩=some (.int .i64 (vk v)):=HX.o.cell (j:=0) (by omega)
  go_wp2
  go_end0
  refine ⟨rfl,av,by rw [HRF.o,List.append_nil];exact HP.o,Keeps.of HB.o (Nat.le_of_eq hX) _,fun g hg=>.inl hg⟩
 |true=>
  obtain ⟨n,rfl⟩:=Dp h5
  have hli:=HP.o.o
  obtain ⟨ao,co,hv⟩:=aF hli
  have hli2:(w.alloc (.cells #[.int .i64 (vk (some (.inr n):HV)),.int .i64 (vi (some (.inr n):HV)),.int .u64 0,.string ByteArray.empty,aG tb (some (.inr n):HV)] 143)).ownsRow base 67 1 av (td.map (iG tb)).length (td.map (iG tb)):=by rw [List.length_map];exact hli
  have HAD:=ah (fF (w.alloc (.cells #[.int .i64 (vk (some (.inr n):HV)),.int .i64 (vi (some (.inr n):HV)),.int .u64 0,.string ByteArray.empty,aG tb (some (.inr n):HV)] 143)) base P 0 av (td.map (iG tb)) (tb n) (HP.o.r.cell (j:=0) (by omega)) (HP.o.r.Jv 0) hli2 (fun e=>ak hli HP.o.r (by decide) e) (by rw [List.length_map];omega) HP.o.b)
  clear x h5 hli hli2
  go_enter Tryz.func103,Tryz.ntmps103
  go_upto_region 1 with (fail)
  generalize w.alloc (.cells #[.int .i64 (vk (some (.inr n):HV)),.int .i64 (vi (some (.inr n):HV)),.int .u64 0,.string ByteArray.empty,aG tb (some (.inr n):HV)] 143)=w1 at *
  generalize hX:w.heap.size=X at *
  have x0:w1.cell? ⟨X,0,none⟩=some (.int .i64 5):=HX.o.cell (j:=0) (by omega)
  have x4:w1.cell? ⟨X,4,none⟩=some (.iface 127 (.pointer (some ⟨tb n,0,none⟩))):=HX.o.cell (j:=4) (by omega)
  go_wp2_with fail
  refine HAD.o.mono ?_
  intro e2 w2 hr2
  have H2:=ah (HP.o.put (n:=n) hr2)
  obtain ⟨rfl,-⟩:=H2.o
  clear hr2
  go_wp2
  go_end0
  obtain ⟨-,av',h1,h2,h3⟩:=H2.o
  refine ⟨rfl,av',h1,(Keeps.of HB.o (Nat.le_of_eq hX) _).trans h2,fun g hg=>(h3 g hg).imp id (fun z=>?_)⟩
  have:=HB.o.size
  omega
end
section
variable {F n:Nat} {sn:List Bool} {tb:Nat->Nat} {w:World} {z:Int}
attribute [local go_sem] bD
def qY (tb:Nat->Nat) (sn:List Bool) (q:Nat):Value:=if sn.getD q false then mG tb q else .pointer none
def fZ (sn:List Bool) (z:Int):Bool:=decide (1<=z)&&decide (z<=(sn.length:Int)-1)&&sn.getD z.toNat false
theorem lU (h:sn[n]?=some true):qY tb sn n=.pointer (some ⟨tb n,0,none⟩):=by
 unfold qY mG
 rw [List.getD_eq_getElem?_getD,h]
 rfl
theorem A8 (h:sn[n]?=some false):qY tb sn n=.pointer none:=by
 unfold qY
 rw [List.getD_eq_getElem?_getD,h]
 rfl
theorem g_ (h:fZ sn z=true):∃ n:Nat,z=(n:Int)/\1<=n/\n<sn.length/\sn[n]?=some true:=by
 unfold fZ at h
 simp only [Bool.and_eq_true,decide_eq_true_eq] at h
 obtain ⟨⟨h1,h2⟩,h3⟩:=h
 refine ⟨z.toNat,by omega,by omega,by omega,?_⟩
 rw [List.getD_eq_getElem?_getD] at h3
 cases h4:sn[z.toNat]? with
 |none=>rw [h4] at h3;simp at h3
 |some b=>rw [h4] at h3;simp at h3;rw [h3]
theorem wD (h1:1<=n) (h2:sn[n]?=some true):fZ sn (n:Int)=true:=by
 have h3:=(List.getElem?_eq_some_iff.1 h2).1
 unfold fZ
 simp only [Bool.and_eq_true,decide_eq_true_eq,Int.toNat_natCast,List.getD_eq_getElem?_getD,h2]
 exact ⟨⟨by omega,by omega⟩,rfl⟩
theorem gB (hr:aD w 127 F sn.length (qY tb sn)) (h0:1<=sn.length) (hN:sn.length<=1000000) (z:Int):
 Calls Tryz.prog 71 #[.slice (some ⟨F,0,none⟩) sn.length sn.length,.int .i64 z] w fun e w'=>e=.returned (.bool (fZ sn z))/\w'=w:=by
 have HW:=ah (dY w z 1 ((sn.length:Int)-1))
 by_cases hz:1<=z/\z<=(sn.length:Int)-1
 ·rw [show (decide ((1:Int)<=z)&&decide (z<=(sn.length:Int)-1))=true by simp;omega] at HW
  obtain ⟨n,rfl⟩:∃ n:Nat,z=(n:Int):=⟨z.toNat,by omega⟩
  have hn:n<sn.length:=by omega
  have hni:(n:Int)<(sn.length:Int):=by omega
  have hc:=hr.cell (j:=n) hn
  have hnn:sn[n]?=some sn[n]:=List.getElem?_eq_getElem hn
  cases hb:sn[n] with
  |true=>
   rw [hb] at hnn
   rw [lU hnn] at hc
   rw [show fZ sn (n:Int)=true from wD (by omega) hnn]
   clear hr hnn hb hz
   go_enter Tryz.func71,Tryz.ntmps71
   go_wp2_with fail
   refine HW.o.mono ?_
   rintro e2 w2 ⟨rfl,rfl⟩
   go_wp2
   go_ret
   exact ⟨rfl,rfl⟩
  |false=>
   rw [hb] at hnn
   rw [A8 hnn] at hc
   rw [show fZ sn (n:Int)=false by unfold fZ;simp [List.getD_eq_getElem?_getD,hnn]]
   clear hr hnn hb hz
   go_enter Tryz.func71,Tryz.ntmps71
   go_wp2_with fail
   refine HW.o.mono ?_
   rintro e2 w2 ⟨rfl,rfl⟩
   go_wp2
   go_ret
   exact ⟨rfl,rfl⟩
 ·have hwf:(decide ((1:Int)<=z)&&decide (z<=(sn.length:Int)-1))=false:=by simp;omega
  rw [hwf] at HW
  rw [show fZ sn z=false by unfold fZ;rw [hwf];rfl]
  clear hr hwf hz
  go_enter Tryz.func71,Tryz.ntmps71
  go_wp2_with fail
  refine HW.o.mono ?_
  rintro e2 w2 ⟨rfl,rfl⟩
  go_wp2
  go_ret
  exact ⟨rfl,rfl⟩
theorem mM (hr:aD w 127 F sn.length (qY tb sn)) (h0:1<=sn.length) (hN:sn.length<=1000000) (z:Int):
 Calls Tryz.prog 72 #[.slice (some ⟨F,0,none⟩) sn.length sn.length,.int .i64 z] w fun e w'=>e=.returned (.bool (z==0||fZ sn z))/\w'=w:=by
 have HH:=ah (gB hr h0 hN z)
 clear hr h0 hN
 cases hz:(z==0) with
 |true=>
  rw [Bool.true_or]
  go_enter Tryz.func72,Tryz.ntmps72
  go_wp2
  go_ret
  exact ⟨rfl,rfl⟩
 |false=>
  rw [Bool.false_or]
  obtain ⟨B,hB⟩:∃ B,fZ sn z=B:=⟨_,rfl⟩
  rw [hB] at HH ⊢
  clear hB
  go_enter Tryz.func72,Tryz.ntmps72
  go_wp2_with fail
  refine HH.o.mono ?_
  rintro e2 w2 ⟨rfl,rfl⟩
  go_wp2
  go_ret
  exact ⟨rfl,rfl⟩
theorem xE (w:World) (tb:Nat->Nat) (n:Nat):Calls Tryz.prog 107 #[.iface 127 (.pointer (some ⟨tb n,0,none⟩))] w fun e w'=>e=.returned (.agg #[.int .i64 (vk (some (.inr n):HV)),.int .i64 (vi (some (.inr n):HV)),.int .u64 0,.string ByteArray.empty,aG tb (some (.inr n):HV)])/\Below w.heap.size w w':=by
 have HZ:=ah (o_ w)
 have HB:=ah (aJ w (.cells #[.int .i64 0,.int .i64 0,.int .u64 0,.string ByteArray.empty,.nilIface] 143))
 go_enter Tryz.func107,Tryz.ntmps107
 go_upto_region 1 with (fail)
 change Code.wp _ _ _ _ (w.alloc (.cells #[.int .i64 0,.int .i64 0,.int .u64 0,.string ByteArray.empty,.nilIface] 143))
 generalize w.alloc (.cells #[.int .i64 0,.int .i64 0,.int .u64 0,.string ByteArray.empty,.nilIface] 143)=w3 at *
 generalize hX:w.heap.size=X at *
 have y0:=HZ.o.cell (j:=0) (by omega)
 have z0:=HZ.o.Jv 0
 have y1:=HZ.o.cell (j:=1) (by omega)
 have z1:=HZ.o.Jv 1
 have y2:=HZ.o.cell (j:=2) (by omega)
 have z2:=HZ.o.Jv 2
 have y3:=HZ.o.cell (j:=3) (by omega)
 have z3:=HZ.o.Jv 3
 have y4:=HZ.o.cell (j:=4) (by omega)
 have z4:=HZ.o.Jv 4
 go_wp2
 have HE:=ah (show aD (((((w3.setCell ⟨X,0,none⟩ (.int .i64 5)).setCell ⟨X,1,none⟩ (.int .i64 0)).setCell ⟨X,2,none⟩ (.int .u64 0)).setCell ⟨X,3,none⟩ (.string { data:=#[] })).setCell ⟨X,4,none⟩ (.iface 127 (.pointer (some ⟨tb n,0,none⟩)))) 143 X 5 (fun j=>(iV tb (some (.inr n))).getD j (.bool false))/\Keeps w3 (((((w3.setCell ⟨X,0,none⟩ (.int .i64 5)).setCell ⟨X,1,none⟩ (.int .i64 0)).setCell ⟨X,2,none⟩ (.int .u64 0)).setCell ⟨X,3,none⟩ (.string { data:=#[] })).setCell ⟨X,4,none⟩ (.iface 127 (.pointer (some ⟨tb n,0,none⟩)))) (fun b=>b=X) from p8 HZ.o tb (some (.inr n)))
 generalize (((((w3.setCell ⟨X,0,none⟩ (.int .i64 5)).setCell ⟨X,1,none⟩ (.int .i64 0)).setCell ⟨X,2,none⟩ (.int .u64 0)).setCell ⟨X,3,none⟩ (.string { data:=#[] })).setCell ⟨X,4,none⟩ (.iface 127 (.pointer (some ⟨tb n,0,none⟩))))=w7 at *
 have q0:w7.cell? ⟨X,0,none⟩=some (.int .i64 5):=HE.o.1.cell (j:=0) (by omega)
 have q1:w7.cell? ⟨X,1,none⟩=some (.int .i64 0):=HE.o.1.cell (j:=1) (by omega)
 have q2:w7.cell? ⟨X,2,none⟩=some (.int .u64 0):=HE.o.1.cell (j:=2) (by omega)
 have q3:w7.cell? ⟨X,3,none⟩=some (.string { data:=#[] }):=HE.o.1.cell (j:=3) (by omega)
 have q4:w7.cell? ⟨X,4,none⟩=some (.iface 127 (.pointer (some ⟨tb n,0,none⟩))):=HE.o.1.cell (j:=4) (by omega)
 have hXl:=HZ.o.lt
 refine bodyPost_ret (v:=.agg #[.int .i64 5,.int .i64 0,.int .u64 0,.string { data:=#[] },.iface 127 (.pointer (some ⟨tb n,0,none⟩))]) ?_ rfl ⟨rfl,by rw [hX];exact HB.o.trans (HE.o.2.below (B:=X) (Nat.le_of_lt hXl) (fun b e=>Nat.le_of_eq e.symm))⟩
 simp [results,Tryz.results107,go_sem,q0,q1,q2,q3,q4]
theorem rC (w:World) (tb:Nat->Nat) (z:Int):Calls Tryz.prog 74 #[.int .i64 z] w fun e w'=>e=.returned (.agg #[.int .i64 (vk (some (.inl z):HV)),.int .i64 (vi (some (.inl z):HV)),.int .u64 0,.string ByteArray.empty,aG tb (some (.inl z):HV)])/\Below w.heap.size w w':=by
 have HZ:=ah (o_ w)
 have HB:=ah (aJ w (.cells #[.int .i64 0,.int .i64 0,.int .u64 0,.string ByteArray.empty,.nilIface] 143))
 go_enter Tryz.func74,Tryz.ntmps74
 go_upto_region 1 with (fail)
 change Code.wp _ _ _ _ (w.alloc (.cells #[.int .i64 0,.int .i64 0,.int .u64 0,.string ByteArray.empty,.nilIface] 143))
 generalize w.alloc (.cells #[.int .i64 0,.int .i64 0,.int .u64 0,.string ByteArray.empty,.nilIface] 143)=w3 at *
 generalize hX:w.heap.size=X at *
 have y0:=HZ.o.cell (j:=0) (by omega)
 have z0:=HZ.o.Jv 0
 have y1:=HZ.o.cell (j:=1) (by omega)
 have z1:=HZ.o.Jv 1
 have y2:=HZ.o.cell (j:=2) (by omega)
 have z2:=HZ.o.Jv 2
 have y3:=HZ.o.cell (j:=3) (by omega)
 have z3:=HZ.o.Jv 3
 have y4:=HZ.o.cell (j:=4) (by omega)
 have z4:=HZ.o.Jv 4
 go_wp2
 have HE:=ah (show aD (((((w3.setCell ⟨X,0,none⟩ (.int .i64 2)).setCell ⟨X,1,none⟩ (.int .i64 z)).setCell ⟨X,2,none⟩ (.int .u64 0)).setCell ⟨X,3,none⟩ (.string { data:=#[] })).setCell ⟨X,4,none⟩ (.nilIface)) 143 X 5 (fun j=>(iV tb (some (.inl z))).getD j (.bool false))/\Keeps w3 (((((w3.setCell ⟨X,0,none⟩ (.int .i64 2)).setCell ⟨X,1,none⟩ (.int .i64 z)).setCell ⟨X,2,none⟩ (.int .u64 0)).setCell ⟨X,3,none⟩ (.string { data:=#[] })).setCell ⟨X,4,none⟩ (.nilIface)) (fun b=>b=X) from p8 HZ.o tb (some (.inl z)))
 generalize (((((w3.setCell ⟨X,0,none⟩ (.int .i64 2)).setCell ⟨X,1,none⟩ (.int .i64 z)).setCell ⟨X,2,none⟩ (.int .u64 0)).setCell ⟨X,3,none⟩ (.string { data:=#[] })).setCell ⟨X,4,none⟩ (.nilIface))=w7 at *
 have q0:w7.cell? ⟨X,0,none⟩=some (.int .i64 2):=HE.o.1.cell (j:=0) (by omega)
 have q1:w7.cell? ⟨X,1,none⟩=some (.int .i64 z):=HE.o.1.cell (j:=1) (by omega)
 have q2:w7.cell? ⟨X,2,none⟩=some (.int .u64 0):=HE.o.1.cell (j:=2) (by omega)
 have q3:w7.cell? ⟨X,3,none⟩=some (.string { data:=#[] }):=HE.o.1.cell (j:=3) (by omega)
 have q4:w7.cell? ⟨X,4,none⟩=some (.nilIface):=HE.o.1.cell (j:=4) (by omega)
 have hXl:=HZ.o.lt
 refine bodyPost_ret (v:=.agg #[.int .i64 2,.int .i64 z,.int .u64 0,.string { data:=#[] },.nilIface]) ?_ rfl ⟨rfl,by rw [hX];exact HB.o.trans (HE.o.2.below (B:=X) (Nat.le_of_lt hXl) (fun b e=>Nat.le_of_eq e.symm))⟩
 simp [results,Tryz.results74,go_sem,q0,q1,q2,q3,q4]
theorem jX (hr:aD w 127 F sn.length (qY tb sn)) (n:Nat) (hn:n=0∨sn[n]?=some true) (hN:sn.length<=1000000):
 Calls Tryz.prog 75 #[.slice (some ⟨F,0,none⟩) sn.length sn.length,.int .i64 (n:Int)] w fun e w'=>e=.returned (.agg #[.int .i64 (vk (cu n)),.int .i64 (vi (cu n)),.int .u64 0,.string ByteArray.empty,aG tb (cu n)])/\Below w.heap.size w w':=by
 by_cases h0:n=0
 ·subst h0
  have hX0:cu 0=none:=rfl
  rw [hX0]
  clear hX0 hr hn
  have HZ:=ah (o_ w)
  have HB:=ah (aJ w (.cells #[.int .i64 0,.int .i64 0,.int .u64 0,.string ByteArray.empty,.nilIface] 143))
  go_enter Tryz.func75,Tryz.ntmps75
  go_upto_region 1 with (fail)
  change Code.wp _ _ _ _ (w.alloc (.cells #[.int .i64 0,.int .i64 0,.int .u64 0,.string ByteArray.empty,.nilIface] 143))
  generalize w.alloc (.cells #[.int .i64 0,.int .i64 0,.int .u64 0,.string ByteArray.empty,.nilIface] 143)=w3 at *
  generalize hX:w.heap.size=X at *
  have y0:=HZ.o.cell (j:=0) (by omega)
  have z0:=HZ.o.Jv 0
  have y1:=HZ.o.cell (j:=1) (by omega)
  have z1:=HZ.o.Jv 1
  have y2:=HZ.o.cell (j:=2) (by omega)
  have z2:=HZ.o.Jv 2
  have y3:=HZ.o.cell (j:=3) (by omega)
  have z3:=HZ.o.Jv 3
  have y4:=HZ.o.cell (j:=4) (by omega)
  have z4:=HZ.o.Jv 4
  go_wp2
  have HE:=ah (show aD (((((w3.setCell ⟨X,0,none⟩ (.int .i64 0)).setCell ⟨X,1,none⟩ (.int .i64 0)).setCell ⟨X,2,none⟩ (.int .u64 0)).setCell ⟨X,3,none⟩ (.string { data:=#[] })).setCell ⟨X,4,none⟩ (.nilIface)) 143 X 5 (fun j=>(iV tb none).getD j (.bool false))/\Keeps w3 (((((w3.setCell ⟨X,0,none⟩ (.int .i64 0)).setCell ⟨X,1,none⟩ (.int .i64 0)).setCell ⟨X,2,none⟩ (.int .u64 0)).setCell ⟨X,3,none⟩ (.string { data:=#[] })).setCell ⟨X,4,none⟩ (.nilIface)) (fun b=>b=X) from p8 HZ.o tb none)
  generalize (((((w3.setCell ⟨X,0,none⟩ (.int .i64 0)).setCell ⟨X,1,none⟩ (.int .i64 0)).setCell ⟨X,2,none⟩ (.int .u64 0)).setCell ⟨X,3,none⟩ (.string { data:=#[] })).setCell ⟨X,4,none⟩ (.nilIface))=w7 at *
  have q0:w7.cell? ⟨X,0,none⟩=some (.int .i64 0):=HE.o.1.cell (j:=0) (by omega)
  have q1:w7.cell? ⟨X,1,none⟩=some (.int .i64 0):=HE.o.1.cell (j:=1) (by omega)
  have q2:w7.cell? ⟨X,2,none⟩=some (.int .u64 0):=HE.o.1.cell (j:=2) (by omega)
  have q3:w7.cell? ⟨X,3,none⟩=some (.string { data:=#[] }):=HE.o.1.cell (j:=3) (by omega)
  have q4:w7.cell? ⟨X,4,none⟩=some (.nilIface):=HE.o.1.cell (j:=4) (by omega)
  have hXl:=HZ.o.lt
  refine bodyPost_ret (v:=.agg #[.int .i64 0,.int .i64 0,.int .u64 0,.string { data:=#[] },.nilIface]) ?_ rfl ⟨rfl,by rw [hX];exact HB.o.trans (HE.o.2.below (B:=X) (Nat.le_of_lt hXl) (fun b e=>Nat.le_of_eq e.symm))⟩
  simp [results,Tryz.results75,go_sem,q0,q1,q2,q3,q4]
 ·have hsn:=hn.resolve_left h0
  have hnl:=(List.getElem?_eq_some_iff.1 hsn).1
  have hnl':(n:Int)<(sn.length:Int):=by omega
  have hz0:((n:Int)==0)=false:=by simp;omega
  rw [iJ h0]
  have hc:=hr.cell (j:=n) hnl
  rw [lU hsn] at hc
  have hFl:=hr.lt
  clear h0 hn hr hsn
  have HZ:=ah (o_ w)
  have HB:=ah (aJ w (.cells #[.int .i64 0,.int .i64 0,.int .u64 0,.string ByteArray.empty,.nilIface] 143))
  go_enter Tryz.func75,Tryz.ntmps75
  go_upto_region 1 with (fail)
  change Code.wp _ _ _ _ (w.alloc (.cells #[.int .i64 0,.int .i64 0,.int .u64 0,.string ByteArray.empty,.nilIface] 143))
  generalize w.alloc (.cells #[.int .i64 0,.int .i64 0,.int .u64 0,.string ByteArray.empty,.nilIface] 143)=w3 at *
  generalize hX:w.heap.size=X at *
  have y0:=HZ.o.cell (j:=0) (by omega)
  have z0:=HZ.o.Jv 0
  have y1:=HZ.o.cell (j:=1) (by omega)
  have z1:=HZ.o.Jv 1
  have y2:=HZ.o.cell (j:=2) (by omega)
  have z2:=HZ.o.Jv 2
  have y3:=HZ.o.cell (j:=3) (by omega)
  have z3:=HZ.o.Jv 3
  have y4:=HZ.o.cell (j:=4) (by omega)
  have z4:=HZ.o.Jv 4
  have hc3:w3.cell? ⟨F,n,none⟩=some (.pointer (some ⟨tb n,0,none⟩)):=(HB.o.cell (p:=⟨F,n,none⟩) (by omega)).trans hc
  have HO:=ah (xE w3 tb n)
  clear hc
  go_wp2_with fail
  refine HO.o.mono ?_
  rintro e4 w4 ⟨rfl,hb4⟩
  have HZ4:=ah (HZ.o.keep (Keeps.of hb4 (Nat.le_refl _) (fun _=>False)) id)
  have HB4:=ah (HB.o.trans (hb4.mono (Nat.le_of_lt HZ.o.lt)))
  clear hb4 hc3 y0 y1 y2 y3 y4 z0 z1 z2 z3 z4 HZ HB
  have y0:=HZ4.o.cell (j:=0) (by omega)
  have z0:=HZ4.o.Jv 0
  have y1:=HZ4.o.cell (j:=1) (by omega)
  have z1:=HZ4.o.Jv 1
  have y2:=HZ4.o.cell (j:=2) (by omega)
  have z2:=HZ4.o.Jv 2
  have y3:=HZ4.o.cell (j:=3) (by omega)
  have z3:=HZ4.o.Jv 3
  have y4:=HZ4.o.cell (j:=4) (by omega)
  have z4:=HZ4.o.Jv 4
  go_wp2
  have HE:=ah (p8 HZ4.o tb (some (.inr n):HV))
  generalize (((((w4.setCell ⟨X,0,none⟩ (.int .i64 (vk (some (.inr n):HV)))).setCell ⟨X,1,none⟩ (.int .i64 (vi (some (.inr n):HV)))).setCell ⟨X,2,none⟩ (.int .u64 0)).setCell ⟨X,3,none⟩ (.string ByteArray.empty)).setCell ⟨X,4,none⟩ (aG tb (some (.inr n):HV)))=w7 at *
  have q0:w7.cell? ⟨X,0,none⟩=some (.int .i64 (vk (some (.inr n):HV))):=HE.o.1.cell (j:=0) (by omega)
  have q1:w7.cell? ⟨X,1,none⟩=some (.int .i64 (vi (some (.inr n):HV))):=HE.o.1.cell (j:=1) (by omega)
  have q2:w7.cell? ⟨X,2,none⟩=some (.int .u64 0):=HE.o.1.cell (j:=2) (by omega)
  have q3:w7.cell? ⟨X,3,none⟩=some (.string ByteArray.empty):=HE.o.1.cell (j:=3) (by omega)
  have q4:w7.cell? ⟨X,4,none⟩=some (aG tb (some (.inr n):HV)):=HE.o.1.cell (j:=4) (by omega)
  have hXl:=HZ4.o.lt
  refine bodyPost_ret (v:=.agg #[.int .i64 (vk (some (.inr n):HV)),.int .i64 (vi (some (.inr n):HV)),.int .u64 0,.string ByteArray.empty,aG tb (some (.inr n):HV)]) ?_ rfl ⟨rfl,by rw [hX];exact HB4.o.trans (HE.o.2.below (B:=X) (Nat.le_of_lt hXl) (fun b e=>Nat.le_of_eq e.symm))⟩
  simp [results,Tryz.results75,go_sem,q0,q1,q2,q3,q4]
end
section
variable {P base k n:Nat} {av:Value} {dn:List En} {e:En} {h:Hp} {o:Ob} {sn:List Bool} {tb:Nat->Nat} {td:List Nat} {w:World}
structure Df (h:Hp) (sn:List Bool) (td:List Nat) (k:Nat) (dn:List En):Prop where
 len:sn.length=h.objs.length
 tr:∀ n∈td,h.Reach n
 re:∀ n:Nat,sn[n]?=some true->h.Reach n
 ro:∀ r∈h.roots,sn[r]?=some true∨r∈td
 ex:∀ (m:Nat) o,sn[m]?=some true->h.ob m=some o->m≠k->∀ e∈o.es,e.2.isSome=true->∀ r∈bM e,sn[r]?=some true∨r∈td
 kk:∀ e∈dn,e.2.isSome=true->∀ r∈bM e,sn[r]?=some true∨r∈td
theorem Df.start (h:Hp):Df h (List.replicate h.objs.length false) h.roots 0 []:=by
 have hf:∀ n:Nat,(List.replicate h.objs.length false)[n]?≠some true:=by
  intro n c
  rw [List.getElem?_replicate] at c
  split at c<;>simp at c
 exact ⟨List.length_replicate ..,fun n hn=>Hp.FV hn,fun n hn=>absurd hn (hf n),fun r hr=>.inr hr,fun m o hm=>absurd hm (hf m),fun e he=>by simp at he⟩
theorem Df.skip (d:Df h sn (td++[n]) 0 []) (hn:sn[n]?=some true):Df h sn td 0 []:=by
 have hx:∀ r,sn[r]?=some true∨r∈td++[n]->sn[r]?=some true∨r∈td:=by
  intro r hr
  rcases hr with c|c
  ·exact .inl c
  ·rcases List.mem_append.1 c with c|c
   ·exact .inr c
   ·simp at c;subst c;exact .inl hn
 exact ⟨d.len,fun m hm=>d.tr m (List.mem_append_left _ hm),d.re,fun r hr=>hx r (d.ro r hr),fun m o hm ho hk e he hs r hr=>hx r (d.ex m o hm ho hk e he hs r hr),fun e he=>by simp at he⟩
theorem Df.take (i:Inv h) (d:Df h sn (td++[n]) 0 []) (hn:n<sn.length):Df h (sn.set n true) td n []:=by
 have up:∀ r:Nat,sn[r]?=some true->(sn.set n true)[r]?=some true:=by
  intro r hr
  rw [List.getElem?_set]
  split
  ·rename_i c;subst c;simp
  ·exact hr
 have dn:∀ r:Nat,(sn.set n true)[r]?=some true->r=n∨sn[r]?=some true:=by
  intro r hr
  rw [List.getElem?_set] at hr
  split at hr
  ·rename_i c;exact .inl c.symm
  ·exact .inr hr
 have hx:∀ r,sn[r]?=some true∨r∈td++[n]->(sn.set n true)[r]?=some true∨r∈td:=by
  intro r hr
  rcases hr with c|c
  ·exact .inl (up r c)
  ·rcases List.mem_append.1 c with c|c
   ·exact .inr c
   ·simp at c;subst c;exact .inl (by simp [hn])
 refine ⟨by rw [List.length_set];exact d.len,fun m hm=>d.tr m (List.mem_append_left _ hm),fun r hr=>?_,fun r hr=>hx r (d.ro r hr),fun m o hm ho hk e he hs r hr=>?_,fun e he=>by simp at he⟩
 ·rcases dn r hr with c|c
  ·subst c;exact d.tr r (List.mem_append_right _ (List.mem_singleton.2 rfl))
  ·exact d.re r c
 ·rcases dn m hm with c|c
  ·exact absurd c hk
  ·exact hx r (d.ex m o c ho (fun z=>by subst z;rw [i.zero] at ho;cases ho) e he hs r hr)
theorem Df.more (d:Df h sn td k dn) (hk:h.Reach k) (ho:h.ob k=some o) (he:e∈o.es) (hs:e.2.isSome=true):Df h sn (td++bM e) k (dn++[e]):=by
 have hx:∀ r,sn[r]?=some true∨r∈td->sn[r]?=some true∨r∈td++bM e:=fun r hr=>hr.imp id (List.mem_append_left _)
 refine ⟨d.len,fun n hn=>?_,d.re,fun r hr=>hx r (d.ro r hr),fun m o' hm ho' hk' e' he' hs' r hr=>hx r (d.ex m o' hm ho' hk' e' he' hs' r hr),fun e' he' hs' r hr=>?_⟩
 ·rcases List.mem_append.1 hn with c|c
  ·exact d.tr n c
  ·exact Hp.Fv hk ho he hs c
 ·rcases List.mem_append.1 he' with c|c
  ·exact hx r (d.kk e' c hs' r hr)
  ·simp at c;subst c;exact .inr (List.mem_append_right _ hr)
theorem Df.pass (d:Df h sn td k dn) (hs:e.2.isNone=true):Df h sn td k (dn++[e]):=by
 refine ⟨d.len,d.tr,d.re,d.ro,d.ex,fun e' he' hs' r hr=>?_⟩
 rcases List.mem_append.1 he' with c|c
 ·exact d.kk e' c hs' r hr
 ·simp at c
  subst c
  cases h9:e'.2 with
  |none=>rw [h9] at hs';cases hs'
  |some _=>rw [h9] at hs;cases hs
theorem Df.fin (d:Df h sn td k dn) (ho:h.ob k=some o) (hd:dn=o.es):Df h sn td 0 []:=by
 refine ⟨d.len,d.tr,d.re,d.ro,fun m o' hm ho' hk e he hs r hr=>?_,fun e he=>by simp at he⟩
 by_cases c:m=k
 ·subst c
  rw [ho] at ho';cases ho'
  exact d.kk e (hd ▸ he) hs r hr
 ·exact d.ex m o' hm ho' c e he hs r hr
theorem Df.done (i:Inv h) (d:Df h sn [] 0 []) (n:Nat):sn[n]?=some true↔h.Reach n:=by
 have hx:∀ r:Nat,sn[r]?=some true∨r∈([]:List Nat)->sn[r]?=some true:=fun r hr=>hr.resolve_right (by simp)
 refine ⟨d.re n,fun r=>r (fun n=>sn[n]?=some true) (fun r hr=>hx r (d.ro r hr)) (fun m o e hm ho he hs q hq=>hx q (d.ex m o hm ho (fun c=>?_) e he hs q hq))⟩
 subst c;rw [i.zero] at ho;cases ho
def uG (o:Option Ob):Nat:=match o with
 |some o=>o.es.length
 |none=>0
def dM:List (Option Ob)->List Bool->Nat
 |o::os,b::bs=>(if b then 0 else 2*uG o)+dM os bs
 |_,_=>0
theorem yC:∀ (os:List (Option Ob)) (sn:List Bool) (r:Nat) (x:Option Ob),sn[r]?=some false->os[r]?=some x->dM os (sn.set r true)+2*uG x=dM os sn
 | [],_,_,_,_,h=>by simp at h
 |_::_,[],_,_,h,_=>by simp at h
 |o::os,b::bs,0,x,h1,h2=>by
  simp at h1 h2
  subst h1 h2
  simp [dM]
  omega
 |o::os,b::bs,r+1,x,h1,h2=>by
  have:=yC os bs r x (by simpa using h1) (by simpa using h2)
  simp only [List.set_cons_succ,dM]
  omega
theorem Bg:∀ (os:List (Option Ob)) (sn:List Bool),20*dM os sn<=eY wt (os.map fun o=>o.map fun o=>o.es.length)
 | [],_=>by simp [dM]
 |o::os,[]=>by simp [dM]
 |o::os,b::bs=>by
  have h1:=Bg os bs
  rw [List.map_cons]
  have h2:eY wt ((o.map fun o=>o.es.length)::os.map fun o=>o.map fun o=>o.es.length)=wt (o.map fun o=>o.es.length)+eY wt (os.map fun o=>o.map fun o=>o.es.length):=by simp [eY]
  rw [h2,dM]
  cases o with
  |none=>simp [uG];omega
  |some o=>
   have h3:wt ((some o).map fun o:Ob=>o.es.length)=40+40*o.es.length:=rfl
   rw [h3]
   simp only [uG]
   split<;>omega
theorem uH (hn:n<sn.length) (q:Nat):(if q=n then Value.pointer (some ⟨tb n,0,none⟩) else qY tb sn q)=qY tb (sn.set n true) q:=by
 unfold qY
 by_cases c:q=n
 ·subst c;simp [List.getD_eq_getElem?_getD,hn,mG]
 ·have:n≠q:=fun e=>c e.symm
  simp [List.getD_eq_getElem?_getD,c,this]
theorem Jf.pop (x:Jf base tb P av (td++[n]) w):∃ g cap,av=.slice (some ⟨g,0,none⟩) (td.length+1) cap/\td.length+1<=cap/\w.cell? ⟨g,td.length,none⟩=some (.iface 127 (.pointer (some ⟨tb n,0,none⟩)))/\Jf base tb P (.slice (some ⟨g,0,none⟩) td.length cap) td (w.setCell ⟨P,0,none⟩ (.slice (some ⟨g,0,none⟩) td.length cap)):=by
 have ho:=x.o
 rw [List.length_append,List.length_singleton,List.map_append] at ho
 rcases ho.2 with ⟨_,h2⟩|⟨g,cap,cur,hv,h3,h4,h5,h6,h7,h8⟩
 ·omega
 ·subst hv
  have hr:=au ho (g:=g) (by simp [Value.ownBlock])
  have kt:Keeps w (w.setCell ⟨P,0,none⟩ (.slice (some ⟨g,0,none⟩) td.length cap)) (fun c=>c=P):=Keeps.setCell (S:=fun c=>c=P) (Keeps.refl w _) rfl _
  refine ⟨g,cap,rfl,h5,?_,?_⟩
  ·rw [hr.cell (j:=td.length) (by omega),List.getD_eq_getElem?_getD,List.getElem?_append_right (by simp)]
   simp [iG,mG]
  ·refine ⟨(x.r.set (j:=0) (by omega) _).congr (fun j hj=>by rw [if_pos (by omega)]),?_,Nat.le_trans x.b kt.size⟩
   have h9:=jZ ho (k:=td.length) (by omega)
   rw [List.take_append_of_le_length (by simp),List.take_of_length_le (by simp)] at h9
   exact aj h9 kt (fun q hq c=>by
    simp [Value.ownBlock] at hq
    exact hr.apart x.r (by decide) (hq.trans c))
theorem Cj (w:World) {MC:Array Value} (h:MC=madeCells #[Value.pointer none] n):aD (w.alloc (.cells MC 127)) 127 w.heap.size n (fun _=>.pointer none):=by
 have h1:=aD.mk' w 127 MC
 have hs:MC.size=n:=by rw [h];exact size_madeCells _ _
 rw [hs] at h1
 refine h1.congr (fun j hj=>?_)
 have h2:MC.toList=List.replicate n (Value.pointer none):=by rw [h];exact toList_madeCells_one _ _
 have h3:MC[j]?=some (Value.pointer none):=by
  rw [<-Array.getElem?_toList,h2]
  simp [hj]
 simp [Array.getD_eq_getD_getElem?,h3]
theorem u_ (w:World) (n:Nat) (hn:n<=6000) (MC:Array Value) (hMC:MC=madeCells #[Value.pointer none] n):(Instr.makeSlice 137 (.int .i64 (n:Int)) (.int .i64 (n:Int))).run Tryz.prog w=.ok (.slice (some ⟨w.heap.size,0,none⟩) n n) (w.alloc (.cells MC 127)):=by
 obtain ⟨i0,hi,hz0,hz1,hz2⟩:=info_parts qz
 have h9:=run_make (P:=Tryz.prog) w 137 127 i0 (.pointer none) Tryz.underlying137 hi hz0 .i64 .i64 n n (by omega) (Int.le_refl _) (by rw [hz2];omega) (by omega)
 rw [h9,hMC]
 simp [hz1]
 rfl
end
section
variable {F P R base hand k:Nat} {L:PM} {S:Nat->Prop} {av av':Value} {dn:List En} {h:Hp} {sn:List Bool} {tb:Nat->Nat} {td td':List Nat} {w w' wr:World}
attribute [local go_sem] bD
def Cr (H:Nat) (pv:Value) (k:Nat):Value:=if k=0 then .pointer (some ⟨H,0,none⟩) else pv
structure JI (h:Hp) (tb:Nat->Nat) (F P:Nat) (w:World) (sn:List Bool) (td:List Nat) (k:Nat) (dn:List En) (av:Value) (wr:World):Prop where
 f:aD wr 127 F h.objs.length (qY tb sn)
 p:Jf w.heap.size tb P av td wr
 d:Df h sn td k dn
 b:Below w.heap.size w wr
theorem JI.ap (x:JI h tb F P w sn td k dn av wr):F≠P/\av.ownBlock≠some F:=⟨fun c=>x.f.apart x.p.r (by decide) c,fun c=>ak x.p.o x.f (by decide) c⟩
theorem JI.low {h:Hp} {tb:Nat->Nat} {F P:Nat} {w:World} {sn:List Bool} {td:List Nat} {k:Nat} {dn:List En} {av:Value} {wr w':World} (x:JI h tb F P w sn td k dn av wr) (hb:Below wr.heap.size wr w'):JI h tb F P w sn td k dn av w':=
 ⟨x.f.keep (Keeps.of hb (Nat.le_refl _) (fun _=>False)) id,x.p.low hb,x.d,x.b.trans (hb.mono x.b.size)⟩
theorem JI.pile (x:JI h tb F P w sn td k dn av wr) (hP:w.heap.size<=P) (p:Jf w.heap.size tb P av' td' w') (kk:Keeps wr w' (fun c=>c=P∨av.ownBlock=some c)):aD w' 127 F h.objs.length (qY tb sn)/\Below w.heap.size w w':=by
 refine ⟨x.f.keep kk (fun c=>?_),x.b.trans (kk.below x.b.size (fun c e=>?_))⟩
 ·rcases c with c|c
  ·exact x.ap.1 c
  ·exact x.ap.2 c
 ·rcases e with e|e
  ·omega
  ·exact (x.p.o.lt c e).1
theorem qO (v:HV):(bn v).length<=1:=by
 cases v with
 |none=>simp [bn]
 |some x=>cases x<;>simp [bn]
def DZ (h:Hp) (tb:Nat->Nat) (hand:Nat) (w:World) (e:Ending) (w':World):Prop:=
 ∃ F sn,e=.returned (.slice (some ⟨F,0,none⟩) sn.length sn.length)/\sn.length=h.objs.length/\aD w' 127 F sn.length (qY tb sn)/\w.heap.size<=F/\(∀ n:Nat,1<=n->(sn[n]?=some true↔(n=hand∨h.Reach n)))/\Below w.heap.size w w'
theorem B_ (w:World):(Instr.typeAssert .nilIface 67 127 true).run Tryz.prog w=.ok (.tuple #[.pointer none,.bool false]) w:=by kernel_rfl
theorem iU (p:PS base S h L w) (g:Gd h) (hl9:h.objs.length<=5001) (hR:aD w 69 R 2 (Cr L.H (aG L.tb (cu hand)))) (hok:hand=0∨h.Ok hand) (hrl:h.roots.length<=5001):
 Calls Tryz.prog 70 #[.pointer (some ⟨R,0,none⟩)] w (DZ h L.tb hand w):=by
 obtain ⟨x,y,G,a,r⟩:=p
 have hp:=g.i.ps
 have hE9:∀ n o,h.ob n=some o->o.es.length<=5000:=fun n o e=>by
  have h1:=g.n.es e
  have h2:=g.s.JQ
  omega
 have hdm:∀ sn,dM h.objs sn<=15000:=fun sn=>by
  have h1:=Bg h.objs sn
  have h2:h.bytes=eY wt (h.objs.map fun o=>o.map fun o=>o.es.length):=g.n.1
  have h3:=g.s.JQ
  omega
 have r0:w.cell? ⟨R,0,none⟩=some (.pointer (some ⟨L.H,0,none⟩)):=hR.cell (j:=0) (by omega)
 have c2:w.cell? ⟨L.H,2,none⟩=some (.int .i64 ((h.objs.length:Int)-1)):=a.hp.cell (j:=2) (by omega)
 have hro:=a.li 10 (by simp [b_])
 obtain ⟨ar,cr,hrv⟩:=aF hro
 have hro2:w.ownsRow base 67 1 (.slice ar h.roots.length cr) (h.roots.map (iG L.tb)).length (h.roots.map (iG L.tb)):=by rw [List.length_map,<-(show L.li 10=.slice ar h.roots.length cr from hrv)];exact hro
 have hn1:((h.objs.length:Int)-1+1)=(h.objs.length:Int):=by omega
 obtain ⟨MC,hMC⟩:∃ MC,MC=madeCells #[Value.pointer none] h.objs.length:=⟨_,rfl⟩
 have hmk:=fun w9:World=>u_ w9 h.objs.length (by omega) MC hMC
 have HSN:=ah (Cj w hMC)
 have HB1:=ah (aJ w (.cells MC 127))
 have hRl:=hR.lt
 have hHl:=a.hp.lt
 have HA:=ah a
 have HG:=ah g
 have HR:=ah hR
 have HRV:=ah (show L.li 10=.slice ar h.roots.length cr from hrv)
 have HRO:=ah hro2
 have HE9:=ah hE9
 have HDM:=ah hdm
 have HOK:=ah hok
 clear a r g hR hro hro2 hrv hE9 hdm hok hMC
 go_enter Tryz.func70,Tryz.ntmps70
 go_upto_region 2 with (fail)
 clear hmk
 have K1:=ah (Keeps.of HB1.o (Nat.le_refl _) (fun _=>False))
 generalize w.alloc (.cells MC 127)=w1 at *
 have HRO1:=ah (aj HRO.o K1.o (fun _ _ e=>e))
 have HR1:=ah (HR.o.keep K1.o id)
 have HA1:=ah (HA.o.low HB1.o)
 clear r0 c2
 have r0:w1.cell? ⟨R,0,none⟩=some (.pointer (some ⟨L.H,0,none⟩)):=HR1.o.cell (j:=0) (by omega)
 have c10:w1.cell? ⟨L.H,10,none⟩=some (.slice ar h.roots.length cr):=by rw [HA1.o.hp.cell (j:=10) (by omega)];exact congrArg some HRV.o
 have HCL:=ah (rV HRO1.o (fun u hu=>by
  obtain ⟨n,_,rfl⟩:=List.mem_map.1 hu
  rfl) (by rw [List.length_map];omega))
 go_wp2_with fail
 refine HCL.o.mono ?_
 rintro e2 w2 ⟨v2,rfl,ho2,hb2⟩
 rw [List.length_map] at ho2
 obtain ⟨a2,k2,hv2⟩:=aF ho2
 subst hv2
 have HO2:=ah ho2
 have HB2:=ah hb2
 clear ho2 hb2 r0 c10 HCL
 go_upto_region 3 with (fail)
 have HR3:=ah (show aD (w2.alloc (.cells #[.slice a2 h.roots.length k2] 72)) 72 w2.heap.size 1 _ from aD.mk' w2 _ #[.slice a2 h.roots.length k2])
 have HB3:=ah (aJ w2 (.cells #[.slice a2 h.roots.length k2] 72))
 have hX1:w.heap.size<=w1.heap.size:=HB1.o.size
 have hX2:w1.heap.size<=w2.heap.size:=HB2.o.size
 have HI0:Hq (JI h L.tb w.heap.size w2.heap.size w (List.replicate h.objs.length false) h.roots 0 [] (.slice a2 h.roots.length k2) (w2.alloc (.cells #[.slice a2 h.roots.length k2] 72))):=ah (by
  have k23:=Keeps.of HB3.o (Nat.le_refl _) (fun _=>False)
  have f2:=((HSN.o.keep (Keeps.of HB2.o (Nat.le_refl _) (fun _=>False)) id).keep k23 id)
  refine ⟨f2.congr (fun j hj=>?_),⟨HR3.o.congr (fun j hj=>by rw [show j=0 by omega];rfl),fq (aj HO2.o k23 (fun _ _ e=>e)) hX1,by have:=HB3.o.size;omega⟩,Df.start h,?_⟩
  ·unfold qY
   rw [List.getD_eq_getElem?_getD,List.getElem?_replicate,if_pos hj]
   rfl
  ·exact (HB1.o.trans (HB2.o.mono hX1)).trans (HB3.o.mono (by omega)))
 generalize w2.alloc (.cells #[.slice a2 h.roots.length k2] 72)=w3 at *
 obtain ⟨P,hP⟩:∃ P,w2.heap.size=P:=⟨_,rfl⟩
 have hXP:w.heap.size<=P:=by omega
 rw [hP] at HI0 ⊢
 clear HR3 HB3 hP HO2 HB2 HRO1 HR1 HA1 K1 HSN
 have hM0:h.roots.length+dM h.objs (List.replicate h.objs.length false)<=20001:=by
  have:=HDM.o (List.replicate h.objs.length false)
  omega
 have HM0:=ah hM0
 clear hM0
 go_wp2
 go_loopg [] (h.roots.length+dM h.objs (List.replicate h.objs.length false)) (fun m wr=>∃ (sn:List Bool) (td:List Nat) (av:Value),m=td.length+dM h.objs sn/\m<=20001/\Hq (JI h L.tb w.heap.size P w sn td 0 [] av wr))
 case atStart=>exact ⟨_,_,_,rfl,HM0.o,HI0.o⟩
 case round=>
  clear HI0 HM0
  obtain ⟨sn,td,av,hm,hm2,HJ⟩:=hrel
  have hsl:=HJ.o.d.len
  rcases List.eq_nil_or_concat td with htd|⟨td',n,htd⟩
  ·subst htd
   obtain ⟨A,cap,hav⟩:=aF HJ.o.p.o
   have cP:wr.cell? ⟨P,0,none⟩=some (.slice A 0 cap):=by rw [HJ.o.p.r.cell (j:=0) (by omega)];exact congrArg some hav
   have HE:=ah (dF wr P 0 A 0 cap cP)
   rw [show (((0:Nat):Int)==0)=true from rfl] at HE
   have HDN:=ah (HJ.o.d.done HG.o.i)
   have r1:wr.cell? ⟨R,1,none⟩=some (aG L.tb (cu hand)):=(HJ.o.b.cell (p:=⟨R,1,none⟩) hRl).trans (HR.o.cell (j:=1) (by omega))
   have HSL:=ah hsl
   clear hav hm cP hsl
   by_cases hh0:hand=0
   ·rw [hh0] at r1
    have hta:=B_ wr
    have r1':wr.cell? ⟨R,1,none⟩=some .nilIface:=r1
    clear r1
    go_wp2_with fail
    refine HE.o.mono ?_
    rintro e4 w4 ⟨rfl,rfl⟩
    go_wp2
    go_ret
    refine ⟨w.heap.size,sn,by rw [HSL.o];rfl,HSL.o,by rw [HSL.o];exact HJ.o.f,Nat.le_refl _,fun q hq=>?_,HJ.o.b⟩
    rw [HDN.o q]
    exact ⟨.inr,fun c=>c.resolve_left (by omega)⟩
   ·obtain ⟨oh,hoh,-⟩:=HOK.o.resolve_left hh0
    have hhl:=Hp.Es hoh
    rw [iJ hh0] at r1
    have r1':wr.cell? ⟨R,1,none⟩=some (.iface 127 (.pointer (some ⟨L.tb hand,0,none⟩))):=r1
    have hta:=rD (.pointer (some ⟨L.tb hand,0,none⟩)) wr
    have t1:wr.cell? ⟨L.tb hand,1,none⟩=some (.int .i64 (hand:Int)):=(HJ.o.b.cell (p:=⟨L.tb hand,1,none⟩) (HA.o.ob hand oh hoh).lt).trans ((HA.o.ob hand oh hoh).cell (j:=1) (by omega))
    have f1:=HJ.o.f.cell (j:=hand) hhl
    have z1:=HJ.o.f.Jv hand
    have hhi:(hand:Int)<(h.objs.length:Int):=by omega
    have HHL:=ah hhl
    clear r1 hoh hhl
    obtain ⟨fv,hfv⟩:∃ fv,qY L.tb sn hand=fv:=⟨_,rfl⟩
    rw [hfv] at f1
    clear hfv
    go_wp2_with fail
    refine HE.o.mono ?_
    rintro e4 w4 ⟨rfl,rfl⟩
    go_wp2
    go_ret
    have hls:(sn.set hand true).length=h.objs.length:=by rw [List.length_set];exact HSL.o
    refine ⟨w.heap.size,sn.set hand true,by rw [hls];rfl,hls,by rw [hls];exact (HJ.o.f.set (j:=hand) HHL.o _).congr (fun q hq=>uH (by rw [HSL.o];exact HHL.o) q),Nat.le_refl _,fun q hq=>?_,HJ.o.b.trans ((Keeps.setCell (S:=fun c=>c=w.heap.size) (Keeps.refl _ _) rfl _).below (B:=w.heap.size) HJ.o.b.size (fun c e=>Nat.le_of_eq e.symm))⟩
    rw [List.getElem?_set]
    split
    ·rename_i c
     rw [if_pos (by rw [HSL.o];exact HHL.o)]
     exact ⟨fun _=>.inl c.symm,fun _=>rfl⟩
    ·rename_i c
     rw [HDN.o q]
     exact ⟨.inr,fun d=>d.resolve_left (fun e=>c e.symm)⟩
  ·rw [List.concat_eq_append] at htd
   subst htd
   obtain ⟨gp,cap,hav,hcap,hcn,hpop⟩:=HJ.o.p.pop
   subst hav
   have cP:wr.cell? ⟨P,0,none⟩=some (.slice (some ⟨gp,0,none⟩) (td'.length+1) cap):=HJ.o.p.r.cell (j:=0) (by omega)
   have hreach:=HJ.o.d.tr n (List.mem_append_right _ (List.mem_singleton.2 rfl))
   obtain ⟨o,ho,-⟩:=Hp.FI HG.o.i hreach
   have hnl:=Hp.Es ho
   have hlen:td'.length+1+dM h.objs sn<=20001:=by rw [List.length_append,List.length_singleton] at hm;omega
   have HE:=ah (dF wr P 0 (some ⟨gp,0,none⟩) (td'.length+1) cap cP)
   rw [show (((td'.length+1:Nat):Int)==0)=false by simp;omega] at HE
   have HT:=ah (iR wr P 0 gp td'.length cap (L.tb n) cP (HJ.o.p.r.Jv 0) hcn (by omega) hcap)
   have hta:=fun w9=>rD (.pointer (some ⟨L.tb n,0,none⟩)) w9
   have kP:Keeps wr (wr.setCell ⟨P,0,none⟩ (.slice (some ⟨gp,0,none⟩) td'.length cap)) (fun c=>c=P∨(Value.slice (some ⟨gp,0,none⟩) (td'.length+1) cap).ownBlock=some c):=Keeps.setCell (S:=fun c=>c=P∨(Value.slice (some ⟨gp,0,none⟩) (td'.length+1) cap).ownBlock=some c) (Keeps.refl _ _) (.inl rfl) _
   have HP4:=ah (HJ.o.pile hXP hpop kP)
   have HPL:=ah hpop
   have HD:=ah HJ.o.d
   have HO:=ah ho
   have HRE:=ah hreach
   rw [List.length_append,List.length_singleton] at hm
   clear hpop hreach ho hcn kP cP HJ
   go_wp2_with fail
   refine HE.o.mono ?_
   rintro e4 w4 ⟨rfl,rfl⟩
   go_wp2_with fail
   refine HT.o.mono ?_
   rintro e5 w5 ⟨rfl,rfl⟩
   generalize w4.setCell ⟨P,0,none⟩ (.slice (some ⟨gp,0,none⟩) td'.length cap)=w5 at *
   have htl:=(HA.o.ob n o HO.o).lt
   have t1:w5.cell? ⟨L.tb n,1,none⟩=some (.int .i64 (n:Int)):=(HP4.o.2.cell (p:=⟨L.tb n,1,none⟩) htl).trans ((HA.o.ob n o HO.o).cell (j:=1) (by omega))
   have f1:=HP4.o.1.cell (j:=n) hnl
   have hni:(n:Int)<(h.objs.length:Int):=by omega
   have hsn:sn[n]?=some sn[n]:=List.getElem?_eq_getElem (by omega)
   cases hb:sn[n] with
   |true=>
    rw [hb] at hsn
    rw [lU hsn] at f1
    have HSK:=ah (HD.o.skip hsn)
    clear hb hsn
    go_wp2
    go_roundg (td'.length+dM h.objs sn)
    case rel=>exact ⟨sn,td',_,rfl,by omega,HP4.o.1,HPL.o,HSK.o,HP4.o.2⟩
    case measure=>omega
   |false=>
    rw [hb] at hsn
    rw [A8 hsn] at f1
    have HTK:=ah (HD.o.take HG.o.i (by omega))
    have hdd:=yC h.objs sn n (some o) hsn (Hp.E_ HO.o)
    have hesl:=HE9.o n o HO.o
    have hdd2:dM h.objs (sn.set n true)+2*o.es.length=dM h.objs sn:=hdd
    have z1:=HP4.o.1.Jv n
    have HS6:=ah ((HP4.o.1.set (j:=n) hnl (.pointer (some ⟨L.tb n,0,none⟩))).congr (fun q hq=>uH (sn:=sn) (by omega) q))
    have K6:Hq (Keeps w5 (w5.setCell ⟨w.heap.size,n,none⟩ (.pointer (some ⟨L.tb n,0,none⟩))) (fun c=>c=w.heap.size)):=ah (Keeps.setCell (S:=fun c=>c=w.heap.size) (Keeps.refl _ _) rfl _)
    have HPL6:=ah (HPL.o.keep K6.o (fun c=>HP4.o.1.apart HPL.o.r (by decide) c.symm) (fun q hq c=>ak HPL.o.o HP4.o.1 (by decide) (c ▸ hq)))
    have HB6:=ah (HP4.o.2.trans (K6.o.below (B:=w.heap.size) HP4.o.2.size (fun c e=>Nat.le_of_eq e.symm)))
    clear hb hsn hdd
    go_upto_region 7 with (fail)
    generalize w5.setCell ⟨w.heap.size,n,none⟩ (.pointer (some ⟨L.tb n,0,none⟩))=w6 at *
    clear t1 f1 z1
    obtain ⟨A,cape,hev,hcape,hent⟩:=HA.o.ents HO.o
    have c7:w6.cell? ⟨L.tb n,7,none⟩=some (.slice A o.es.length cape):=by rw [<-hev];exact (HB6.o.cell (p:=⟨L.tb n,7,none⟩) htl).trans ((HA.o.ob n o HO.o).cell (j:=7) (by omega))
    have HEN:=ah hent
    have HI6:Hq (JI h L.tb w.heap.size P w (sn.set n true) td' n [] (.slice (some ⟨gp,0,none⟩) td'.length cap) w6):=ah ⟨HS6.o,HPL6.o,HTK.o,HB6.o⟩
    clear hent hev HS6 HPL6 HTK HB6 HPL HP4 K6
    go_wp2
    go_loopw [62] (fun iv ws=>∃ (i:Nat) (av2:Value) (td2:List Nat),i<=o.es.length/\iv=.int .i64 i/\td2.length<=td'.length+2*i/\Hq (JI h L.tb w.heap.size P w (sn.set n true) td2 n (o.es.take i) av2 ws)) (fun iv _=>o.es.length-aU iv)
    case atStart=>exact ⟨0,_,td',by omega,rfl,by omega,HI6.o⟩
    case round=>
     clear HI6 c7
     obtain ⟨i,av2,td2,hi9,rfl,htl2,HK⟩:=hrel
     by_cases hin:i<o.es.length
     ·obtain ⟨e,he⟩:∃ e,o.es[i]?=some e:=⟨_,List.getElem?_eq_getElem hin⟩
      obtain ⟨ge,rfl,hglt,hcells⟩:=HEN.o i e he
      have hem:=List.mem_of_getElem? he
      have htk:o.es.take (i+1)=o.es.take i++[e]:=by rw [List.take_add_one,he];rfl
      have d0:wr.cell? ⟨ge,i*10,none⟩=some (.int .i64 (vk e.1)):=(HK.o.b.cell (p:=⟨ge,_,none⟩) hglt).trans (hcells 0 _ rfl)
      have d1:wr.cell? ⟨ge,i*10+1,none⟩=some (.int .i64 (vi e.1)):=(HK.o.b.cell (p:=⟨ge,_,none⟩) hglt).trans (hcells 1 _ rfl)
      have d2:wr.cell? ⟨ge,i*10+2,none⟩=some (.int .u64 0):=(HK.o.b.cell (p:=⟨ge,_,none⟩) hglt).trans (hcells 2 _ rfl)
      have d3:wr.cell? ⟨ge,i*10+3,none⟩=some (.string ByteArray.empty):=(HK.o.b.cell (p:=⟨ge,_,none⟩) hglt).trans (hcells 3 _ rfl)
      have d4:wr.cell? ⟨ge,i*10+4,none⟩=some (aG L.tb e.1):=(HK.o.b.cell (p:=⟨ge,_,none⟩) hglt).trans (hcells 4 _ rfl)
      have d5:wr.cell? ⟨ge,i*10+5,none⟩=some (.int .i64 (vk e.2)):=(HK.o.b.cell (p:=⟨ge,_,none⟩) hglt).trans (hcells 5 _ rfl)
      have d6:wr.cell? ⟨ge,i*10+6,none⟩=some (.int .i64 (vi e.2)):=(HK.o.b.cell (p:=⟨ge,_,none⟩) hglt).trans (hcells 6 _ rfl)
      have d7:wr.cell? ⟨ge,i*10+7,none⟩=some (.int .u64 0):=(HK.o.b.cell (p:=⟨ge,_,none⟩) hglt).trans (hcells 7 _ rfl)
      have d8:wr.cell? ⟨ge,i*10+8,none⟩=some (.string ByteArray.empty):=(HK.o.b.cell (p:=⟨ge,_,none⟩) hglt).trans (hcells 8 _ rfl)
      have d9:wr.cell? ⟨ge,i*10+9,none⟩=some (aG L.tb e.2):=(HK.o.b.cell (p:=⟨ge,_,none⟩) hglt).trans (hcells 9 _ rfl)
      have hini:(i:Int)<(o.es.length:Int):=by omega
      have HX:=ah (kF wr L.tb e)
      have HBX:=ah (aJ wr (.cells #[.int .i64 (vk e.1),.int .i64 (vi e.1),.int .u64 0,.string ByteArray.empty,aG L.tb e.1,.int .i64 (vk e.2),.int .i64 (vi e.2),.int .u64 0,.string ByteArray.empty,aG L.tb e.2] 167))
      have HI7:=ah (HK.o.low (aJ wr (.cells #[.int .i64 (vk e.1),.int .i64 (vi e.1),.int .u64 0,.string ByteArray.empty,aG L.tb e.1,.int .i64 (vk e.2),.int .i64 (vi e.2),.int .u64 0,.string ByteArray.empty,aG L.tb e.2] 167)))
      have HTK:=ah htk
      have HEM:=ah hem
      clear hcells he hem htk HK
      go_upto_region 10 with (fail)
      generalize wr.alloc (.cells #[.int .i64 (vk e.1),.int .i64 (vi e.1),.int .u64 0,.string ByteArray.empty,aG L.tb e.1,.int .i64 (vk e.2),.int .i64 (vi e.2),.int .u64 0,.string ByteArray.empty,aG L.tb e.2] 167)=w7 at *
      generalize wr.heap.size=Y at *
      clear d0 d1 d2 d3 d4 d5 d6 d7 d8 d9
      have y5:w7.cell? ⟨Y,5,none⟩=some (.int .i64 (vk e.2)):=HX.o.cell (j:=5) (by omega)
      have y6:w7.cell? ⟨Y,6,none⟩=some (.int .i64 (vi e.2)):=HX.o.cell (j:=6) (by omega)
      have y7:w7.cell? ⟨Y,7,none⟩=some (.int .u64 0):=HX.o.cell (j:=7) (by omega)
      have y8:w7.cell? ⟨Y,8,none⟩=some (.string ByteArray.empty):=HX.o.cell (j:=8) (by omega)
      have y9:w7.cell? ⟨Y,9,none⟩=some (aG L.tb e.2):=HX.o.cell (j:=9) (by omega)
      have HN:=ah (aZ w7 L.tb e.2)
      cases hb:e.2.isNone with
      |true=>
       rw [hb] at HN
       have HPS:=ah (HI7.o.d.pass hb)
       clear hb
       go_wp2_with fail
       refine HN.o.mono ?_
       rintro e8 w8 ⟨rfl,hb8⟩
       have HI8:=ah (HI7.o.low hb8)
       clear hb8
       go_wp2
       go_roundw
       case rel=>exact ⟨i+1,av2,td2,by omega,by simp,by omega,HI8.o.f,HI8.o.p,by rw [HTK.o];exact HPS.o,HI8.o.b⟩
       case measure=>simp [aU];omega
      |false=>
       rw [hb] at HN
       have hes:e.2.isSome=true:=by cases h9:e.2 with
        |none=>rw [h9] at hb;cases hb
        |some _=>rfl
       have HMO:=ah (HI7.o.d.more HRE.o HO.o HEM.o hes)
       clear hb hes
       go_wp2_with fail
       refine HN.o.mono ?_
       rintro e8 w8 ⟨rfl,hb8⟩
       have HI8:=ah (HI7.o.low hb8)
       have HX8:=ah (HX.o.keep (Keeps.of hb8 (Nat.le_refl _) (fun _=>False)) id)
       clear hb8 y5 y6 y7 y8 y9
       have hYP:Y≠P:=fun c=>HX8.o.apart HI8.o.p.r (by decide) c
       have hYo:av2.ownBlock≠some Y:=fun c=>ak HI8.o.p.o HX8.o (by decide) c
       have HRK:=ah (mh HI8.o.p e.1 (by omega))
       have y0:w8.cell? ⟨Y,0,none⟩=some (.int .i64 (vk e.1)):=HX8.o.cell (j:=0) (by omega)
       have y1:w8.cell? ⟨Y,1,none⟩=some (.int .i64 (vi e.1)):=HX8.o.cell (j:=1) (by omega)
       have y2:w8.cell? ⟨Y,2,none⟩=some (.int .u64 0):=HX8.o.cell (j:=2) (by omega)
       have y3:w8.cell? ⟨Y,3,none⟩=some (.string ByteArray.empty):=HX8.o.cell (j:=3) (by omega)
       have y4:w8.cell? ⟨Y,4,none⟩=some (aG L.tb e.1):=HX8.o.cell (j:=4) (by omega)
       go_wp2_with fail
       refine HRK.o.mono ?_
       rintro e9 w9 ⟨rfl,av9,hp9,hk9,ho9⟩
       have H9:=ah (HI8.o.pile hXP hp9 hk9)
       have HP9:=ah hp9
       have HX9:=ah (HX8.o.keep hk9 (fun c=>by
        rcases c with c|c
        ·exact hYP c
        ·exact hYo c))
       clear hp9 hk9 ho9 y0 y1 y2 y3 y4
       have hl1:(bn e.1).length<=1:=qO e.1
       have hl2:(bn e.2).length<=1:=qO e.2
       have HRV2:=ah (mh HP9.o e.2 (by rw [List.length_append];omega))
       have y5:w9.cell? ⟨Y,5,none⟩=some (.int .i64 (vk e.2)):=HX9.o.cell (j:=5) (by omega)
       have y6:w9.cell? ⟨Y,6,none⟩=some (.int .i64 (vi e.2)):=HX9.o.cell (j:=6) (by omega)
       have y7:w9.cell? ⟨Y,7,none⟩=some (.int .u64 0):=HX9.o.cell (j:=7) (by omega)
       have y8:w9.cell? ⟨Y,8,none⟩=some (.string ByteArray.empty):=HX9.o.cell (j:=8) (by omega)
       have y9:w9.cell? ⟨Y,9,none⟩=some (aG L.tb e.2):=HX9.o.cell (j:=9) (by omega)
       go_wp2_with fail
       refine HRV2.o.mono ?_
       rintro eA wA ⟨rfl,avA,hpA,hkA,hoA⟩
       have HIA:Hq (JI h L.tb w.heap.size P w (sn.set n true) (td2++bM e) n (o.es.take (i+1)) avA wA):=ah (by
        have f9:=H9.o.1
        have b9:=H9.o.2
        have fA:aD wA 127 w.heap.size h.objs.length (qY L.tb (sn.set n true)):=f9.keep hkA (fun c=>by
         rcases c with c|c
         ·exact f9.apart HP9.o.r (by decide) c
         ·exact ak HP9.o.o f9 (by decide) c)
        have bA:=b9.trans (hkA.below b9.size (fun c ec=>by
         rcases ec with ec|ec
         ·omega
         ·exact (HP9.o.o.lt c ec).1))
        refine ⟨fA,?_,?_,bA⟩
        ·have:=hpA
         rw [List.append_assoc] at this
         exact this
        ·rw [HTK.o];exact HMO.o)
       clear hpA hkA hoA y5 y6 y7 y8 y9
       go_wp2
       go_roundw
       case rel=>exact ⟨i+1,avA,td2++bM e,by omega,by simp,by unfold bM;rw [List.length_append,List.length_append];omega,HIA.o⟩
       case measure=>simp [aU];omega
     ·have hie:i=o.es.length:=by omega
      subst hie
      rw [List.take_length] at HK
      have HFN:=ah (HK.o.d.fin HO.o rfl)
      go_wp2
      go_roundg (td2.length+dM h.objs (sn.set n true))
      case rel=>exact ⟨sn.set n true,td2,av2,rfl,by omega,HK.o.f,HK.o.p,HFN.o,HK.o.b⟩
      case measure=>omega
end
end Go.Proofs.YtedpifhlffcmkaaGreatDoor
