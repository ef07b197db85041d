import Derived.Test.YtedpifhlffcmkaaGreatDoorKHST0
namespace Go.Proofs.YtedpifhlffcmkaaGreatDoor
open Go Go.RowKit
set_option maxHeartbeats 6400000
set_option maxRecDepth 100000
set_option linter.unusedVariables false
variable {K:Act->World->Prop} {Q:Exit->Act->World->Prop} {S:Nat->Prop} {a:Act} {base n:Nat} {h:Hp} {o:Ob} {w wr:World}
theorem yH {L:SM} (a:JU base S h L w) (ho:h.ob n=some o) (he9:o.es.length<=5000) (hkd:Kd o.es) (k:HV):
 Calls Tryz.prog 60 #[.pointer (some ⟨L.ob n,0,none⟩),.agg #[.int .i64 (vk k),.int .i64 (vi k),.int .u64 0,.string ByteArray.empty,.int .i64 (vr k)]] w fun e w'=>e=.returned (.int .i64 (fD o.es k))/\Below w.heap.size w w':=by
 by_cases hk:vk k=2
 ·obtain ⟨z,hz⟩:∃ z,k=some (.inl z):=by
   cases k with
   |none=>cases hk
   |some x=>cases x with
    |inl z=>exact ⟨z,rfl⟩
    |inr m=>cases hk
  exact yh a ho he9 hkd z k hz
 ·exact xC a ho he9 k hk
theorem sF {o:Oper} (s x:Operand)
 (ho:o.op=.call { callee:=.builtin .append,args:=#[s,x],argTypes:=#[91,91] })
 (base:Nat) (v:Value) (l:List En) (n:En) (hown:wr.ownsRow base 122 10 v l.length (iO l)) (hs:a.eval s=v) (hx:a.eval x=.slice (some ⟨wr.heap.size,0,none⟩) 1 1) (hlen:l.length<=10000) (hbase:base<=wr.heap.size)
 (h:∀ v' w',w'.ownsRow base 122 10 v' (l++[n]).length (iO (l++[n]))->Keeps wr w' (fun b=>v.ownBlock=some b)->(∀ g,v'.ownBlock=some g->v.ownBlock=some g∨wr.heap.size<=g)->K (a.put o.dst v') w'):
 Oper.wp Tryz.prog o a (wr.alloc (.cells (gD n).toArray 122)).drew K Q:=by
 obtain ⟨i0,hi,hz0,hz1,hz2⟩:=info_parts qb
 have hown':(wr.alloc (.cells (gD n).toArray 122)).drew.ownsRow base 122 10 v l.length (iO l):=aj hown (Keeps.of ((aJ wr (.cells (gD n).toArray 122)).drew) (Nat.le_refl _) (fun _=>False)) (fun _ _ x=>x)
 have hrow:aD (wr.alloc (.cells (gD n).toArray 122)).drew 122 wr.heap.size 10 (fun j=>(gD n).toArray.getD j (.bool false)):=aD.mk' wr 122 (gD n).toArray
 have hnews:∀ j u,(gD n)[j]?=some u->(wr.alloc (.cells (gD n).toArray 122)).drew.cell? ((⟨wr.heap.size,0,none⟩:Addr).add j)=some u:=by
  intro j u hj
  have hj0:j<10:=(List.getElem?_eq_some_iff.1 hj).1
  rw [aY]
  have:=hrow.cell (j:=j) hj0
  rw [show (⟨wr.heap.size,0+j,none⟩:Addr)=⟨wr.heap.size,j,none⟩ by rw [Nat.zero_add],this]
  have hg:(gD n).toArray.getD j (.bool false)=u:=by
   rw [Array.getD_eq_getD_getElem?,List.getElem?_toArray,hj]
   rfl
  rw [hg]
 have h1:=t_ n
 obtain ⟨v',w',hr,h2,h3,h4⟩:=run_append_own (P:=Tryz.prog) (wr.alloc (.cells (gD n).toArray 122)).drew base 91 o.type 122 i0 (.agg #[.int .i64 0,.int .i64 0,.int .u64 0,.string ByteArray.empty,.int .i64 0,.int .i64 0,.int .i64 0,.int .u64 0,.string ByteArray.empty,.int .i64 0]) 10 96 Tryz.underlying91 hi hz0 hz1 hz2 rfl (by decide) v l.length (iO l) hown' ⟨wr.heap.size,0,none⟩ 1 1 (gD n) rfl hnews h1 (by unfold maxLen;omega) (by omega) (by simp;omega)
 have h5:=dG (wr.alloc (.cells (gD n).toArray 122)).drew base 91 o.type 122 i0 (.agg #[.int .i64 0,.int .i64 0,.int .u64 0,.string ByteArray.empty,.int .i64 0,.int .i64 0,.int .i64 0,.int .u64 0,.string ByteArray.empty,.int .i64 0]) 10 96 Tryz.underlying91 hi hz0 hz1 hz2 rfl (by decide) v l.length (iO l) hown' ⟨wr.heap.size,0,none⟩ 1 1 (gD n) rfl hnews h1 (by unfold maxLen;omega) (by omega) (by decide) hr
 have hb1:Below wr.heap.size wr (wr.alloc (.cells (gD n).toArray 122)).drew:=(aJ wr _).drew
 unfold Oper.wp execOp
 simp only [ho,resolve,invoke,builtin,Sem.run_bind,Sem.run_pure,Result.andThen_ok,List.map_toArray,List.map_cons,List.map_nil,hs,hx,hr]
 refine h v' w' (by simpa [iO] using h2) ?_ (fun g e=>?_)
 ·refine ⟨h3.os.trans hb1.os,h3.tape.trans hb1.tape,h3.output.trans hb1.output,Nat.le_trans hb1.size h3.size,fun b hb hn=>?_⟩
  exact (h3.block b (Nat.lt_of_lt_of_le hb hb1.size) (fun e=>hn e.symm)).trans (hb1.block b hb)
 ·rcases h5 g e with y|y
  ·exact .inl y
  ·right
   have:=hb1.size
   omega
theorem vH {k v:HV} (ho:h.ob n=some o):h.Er n o k v=Hp.back { Hp.ents { h.ents n (aI o.es) with bytes:=h.bytes-40*(o.es.length-(aI o.es).length) } n (aI o.es++[(k,v)]) with bytes:=h.bytes-40*(o.es.length-(aI o.es).length)+40,D6:=h.D6+40 } n:=by
 unfold Hp.Er Hp.ents Hp.upd
 have hx:=Hp.E_ ho
 have:h.objs.modify n (Option.map fun o':Ob=>{ o' with es:=aI o'.es++[(k,v)] })=(h.objs.modify n (Option.map fun o':Ob=>{ o' with es:=aI o.es })).modify n (Option.map fun o':Ob=>{ o' with es:=aI o.es++[(k,v)] }):=by
  refine List.ext_getElem? (fun i=>?_)
  simp only [List.getElem?_modify]
  by_cases c:n=i
  ·subst c
   rw [hx]
   simp
  ·simp [c]
 rw [this]
theorem jH (es:List En):(aI es).length<=es.length:=by
 unfold aI
 split
 ·exact Nat.le_refl _
 ·exact List.length_filter_le _ _
theorem yY {L:SM} (a:JU base S h L w) (hp:1<=h.objs.length) (hl9:h.objs.length<=5001) (hag:h.again.length<=20000) (ho:h.ob n=some o) (he9:o.es.length<=5000) (hkd:Kd o.es) (hby:40*o.es.length<=h.bytes) (hby2:h.bytes<=300000) (hcr:h.D6<=300000) (k v:HV):
 Calls Tryz.prog 44 #[.pointer (some ⟨L.H,0,none⟩),.int .i64 (n:Int),.agg #[.int .i64 (vk k),.int .i64 (vi k),.int .u64 0,.string ByteArray.empty,.int .i64 (vr k)],.agg #[.int .i64 (vk v),.int .i64 (vi v),.int .u64 0,.string ByteArray.empty,.int .i64 (vr v)]] w fun e w'=>e=.returned (.tuple #[])/\Keeps w w' S/\∃ L',L'.H=L.H/\L'.ob=L.ob/\JU base S (h.put n k v) L' w':=by
 have HA:=ah a
 have HO:=ah ho
 clear a ho
 have HA2:=ah ((HA.o.hole (.cells #[.int .i64 (vk k),.int .i64 (vi k),.int .u64 0,.string ByteArray.empty,.int .i64 (vr k)] 95)).hole (.cells #[.int .i64 (vk v),.int .i64 (vi v),.int .u64 0,.string ByteArray.empty,.int .i64 (vr v)] 95))
 have HV:=ah (oz (w.alloc (.cells #[.int .i64 (vk k),.int .i64 (vi k),.int .u64 0,.string ByteArray.empty,.int .i64 (vr k)] 95)) v)
 have HX:=ah ((oz w k).keep (Keeps.of (aJ (w.alloc (.cells #[.int .i64 (vk k),.int .i64 (vi k),.int .u64 0,.string ByteArray.empty,.int .i64 (vr k)] 95)) (.cells #[.int .i64 (vk v),.int .i64 (vi v),.int .u64 0,.string ByteArray.empty,.int .i64 (vr v)] 95)) (Nat.le_refl _) (fun _=>False)) (fun x=>x))
 have HB:=ah ((aJ w (.cells #[.int .i64 (vk k),.int .i64 (vi k),.int .u64 0,.string ByteArray.empty,.int .i64 (vr k)] 95)).trans ((aJ (w.alloc (.cells #[.int .i64 (vk k),.int .i64 (vi k),.int .u64 0,.string ByteArray.empty,.int .i64 (vr k)] 95)) (.cells #[.int .i64 (vk v),.int .i64 (vi v),.int .u64 0,.string ByteArray.empty,.int .i64 (vr v)] 95)).mono (aJ w (.cells #[.int .i64 (vk k),.int .i64 (vi k),.int .u64 0,.string ByteArray.empty,.int .i64 (vr k)] 95)).size))
 have hZ:(w.alloc (.cells #[.int .i64 (vk k),.int .i64 (vi k),.int .u64 0,.string ByteArray.empty,.int .i64 (vr k)] 95)).heap.size=w.heap.size+1:=Array.size_push _
 rw [hZ] at HV HA2
 clear hZ
 go_enter Tryz.func44,Tryz.ntmps44
 go_upto_region 1 with (fail)
 generalize (w.alloc (.cells #[.int .i64 (vk k),.int .i64 (vi k),.int .u64 0,.string ByteArray.empty,.int .i64 (vr k)] 95)).alloc (.cells #[.int .i64 (vk v),.int .i64 (vi v),.int .u64 0,.string ByteArray.empty,.int .i64 (vr v)] 95)=w3 at *
 generalize hX:w.heap.size=X at *
 obtain ⟨go,capo,hoS,hcapo,hcell⟩:=HA2.o.slot hp
 have hnl:=Hp.Es HO.o
 have c0:w3.cell? ⟨L.H,0,none⟩=some (.slice (some ⟨go,0,none⟩) h.objs.length capo):=by
  have:=HA2.o.hp.cell (j:=0) (by omega)
  rw [this]
  exact congrArg some hoS
 have cn:=hcell n hnl
 have x0:w3.cell? ⟨X,0,none⟩=some (.int .i64 (vk k)):=HX.o.cell (j:=0) (by omega)
 have x1:w3.cell? ⟨X,1,none⟩=some (.int .i64 (vi k)):=HX.o.cell (j:=1) (by omega)
 have x2:w3.cell? ⟨X,2,none⟩=some (.int .u64 0):=HX.o.cell (j:=2) (by omega)
 have x3:w3.cell? ⟨X,3,none⟩=some (.string ByteArray.empty):=HX.o.cell (j:=3) (by omega)
 have x4:w3.cell? ⟨X,4,none⟩=some (.int .i64 (vr k)):=HX.o.cell (j:=4) (by omega)
 have HOS:=ah hoS
 have HKD:=ah hkd
 have HK:=ah (Ad w3 k)
 clear hoS hcell hkd
 go_wp2_with fail
 refine HK.o.mono ?_
 rintro e4 w4 ⟨rfl,hb4⟩
 have HA4:=ah (HA2.o.low hb4)
 have HX4:=ah (HX.o.keep (Keeps.of hb4 (Nat.le_refl _) (fun _=>False)) (fun x=>x))
 have HV4:=ah (HV.out.keep (Keeps.of hb4 (Nat.le_refl _) (fun _=>False)) (fun x=>x))
 have HB4:=ah (HB.o.trans (hb4.mono (hX ▸ HB.o.size)))
 clear hb4 HK HX HV HB x0 x1 x2 x3 x4 c0 cn
 have y0:w4.cell? ⟨X,0,none⟩=some (.int .i64 (vk k)):=HX4.o.cell (j:=0) (by omega)
 have y1:w4.cell? ⟨X,1,none⟩=some (.int .i64 (vi k)):=HX4.o.cell (j:=1) (by omega)
 have y2:w4.cell? ⟨X,2,none⟩=some (.int .u64 0):=HX4.o.cell (j:=2) (by omega)
 have y3:w4.cell? ⟨X,3,none⟩=some (.string ByteArray.empty):=HX4.o.cell (j:=3) (by omega)
 have y4:w4.cell? ⟨X,4,none⟩=some (.int .i64 (vr k)):=HX4.o.cell (j:=4) (by omega)
 have z0:=HX4.o.Jv 0
 have z1:=HX4.o.Jv 1
 have z2:=HX4.o.Jv 2
 have z3:=HX4.o.Jv 3
 have z4:=HX4.o.Jv 4
 have HX5:=ah (((((HX4.o.set (j:=0) (by omega) (.int .i64 (vk k))).set (j:=1) (by omega) (.int .i64 (vi k))).set (j:=2) (by omega) (.int .u64 0)).set (j:=3) (by omega) (.string ByteArray.empty)).set (j:=4) (by omega) (.int .i64 (vr k)))
 have HK5:=ah ((((((Keeps.setCell (S:=fun b=>b=X) (Keeps.refl w4 _) (g:=X) (j:=0) rfl (.int .i64 (vk k))).setCell (g:=X) (j:=1) rfl (.int .i64 (vi k))).setCell (g:=X) (j:=2) rfl (.int .u64 0)).setCell (g:=X) (j:=3) rfl (.string ByteArray.empty)).setCell (g:=X) (j:=4) rfl (.int .i64 (vr k))))
 have HB5:=ah (HB4.o.trans (HK5.o.below (B:=X) (Nat.le_of_lt HX4.o.lt) (fun b e=>by omega)))
 have HA5:=ah (HA4.o.out (HK5.o.mono (fun b e c=>c.1.2 e)))
 have HV5:=ah (HV4.o.keep HK5.o (by omega))
 go_upto_region 3 with (fail)
 generalize ((((w4.setCell ⟨X,0,none⟩ (.int .i64 (vk k))).setCell ⟨X,1,none⟩ (.int .i64 (vi k))).setCell ⟨X,2,none⟩ (.int .u64 0)).setCell ⟨X,3,none⟩ (.string ByteArray.empty)).setCell ⟨X,4,none⟩ (.int .i64 (vr k))=w5 at *
 clear y0 y1 y2 y3 y4 z0 z1 z2 z3 z4 HX4 HA4 HV4 HB4 HK5
 have q0:w5.cell? ⟨X,0,none⟩=some (.int .i64 (vk k)):=HX5.o.cell (j:=0) (by omega)
 have q1:w5.cell? ⟨X,1,none⟩=some (.int .i64 (vi k)):=HX5.o.cell (j:=1) (by omega)
 have q2:w5.cell? ⟨X,2,none⟩=some (.int .u64 0):=HX5.o.cell (j:=2) (by omega)
 have q3:w5.cell? ⟨X,3,none⟩=some (.string ByteArray.empty):=HX5.o.cell (j:=3) (by omega)
 have q4:w5.cell? ⟨X,4,none⟩=some (.int .i64 (vr k)):=HX5.o.cell (j:=4) (by omega)
 have HF:=ah (yH HA5.o HO.o he9 HKD.o k)
 go_wp2_with fail
 refine HF.o.mono ?_
 rintro e6 w6 ⟨rfl,hb6⟩
 have HA6:=ah (HA5.o.low hb6)
 have HX6:=ah (HX5.o.keep (Keeps.of hb6 (Nat.le_refl _) (fun _=>False)) (fun x=>x))
 have HV6:=ah (HV5.o.keep (Keeps.of hb6 (Nat.le_refl _) (fun _=>False)) (fun x=>x))
 have HB6:=ah (HB5.o.trans (hb6.mono (hX ▸ HB5.o.size)))
 clear hb6 HF HX5 HV5 HB5 HA5 q0 q1 q2 q3 q4
 have HKW:=ah (Keeps.of HB6.o (Nat.le_of_eq hX) S)
 have v0:w6.cell? ⟨X+1,0,none⟩=some (.int .i64 (vk v)):=HV6.o.cell (j:=0) (by omega)
 cases hf:jJ o.es k with
 |none=>
  have hfi:fD o.es k= -1:=by unfold fD;rw [hf]
  rw [hfi]
  clear hfi
  cases hv:v.isSome with
  |false=>
   have hvk:(vk v==0)=true:=by
    have:=dB v
    rw [hv] at this
    simpa using this
   have HP:=ah (show h.put n k v=h by unfold Hp.put;rw [HO.o];simp only [hf];rw [if_pos (by cases v with |none=>rfl|some y=>cases hv)])
   clear hf hv
   go_wp2
   ((try simp only [Exit.inBlock,Exit.then]);refine bodyPost_ret (results_none rfl _ _ _) rfl ?_)
   exact ⟨rfl,HKW.o,L,rfl,rfl,by rw [HP.o];exact HA6.o.mono (fun b e=>e.1.1)⟩
  |true=>
   have hvk:(vk v==0)=false:=by
    have:=dB v
    rw [hv] at this
    simpa using this
   have HP:=ah (show h.put n k v=h.Er n o k v by unfold Hp.put;rw [HO.o];simp only [hf];rw [if_neg (by cases v with |none=>cases hv|some y=>simp)])
   clear hf hv
   have HT:=ah (xX HA6.o HO.o he9 hby (by omega))
   go_wp2_with fail
   refine HT.o.mono ?_
   rintro e7 w7 ⟨rfl,hk7,⟨H7,oS7,ob7,es7,li7,rS7⟩,hH7,hO7,ha7⟩
   obtain rfl:H7=L.H:=hH7
   obtain rfl:ob7=L.ob:=hO7
   have HK7:=ah hk7
   have HA7:=ah ha7
   have HQ:=ah (show Hp.ob { h.ents n (aI o.es) with bytes:=h.bytes-40*(o.es.length-(aI o.es).length) } n=some { o with es:=aI o.es } from Hp.Eu HO.o (aI o.es))
   obtain ⟨A7,cap7,hev7,hcap7,-⟩:=HA7.o.ents HQ.o
   obtain ⟨r7,hr7⟩:=HA7.o.ob n _ HQ.o
   have c5:w7.cell? ⟨L.ob n,5,none⟩=some (.slice A7 (aI o.es).length cap7):=by
    have:=hr7.cell (j:=5) (by omega)
    rw [this]
    exact congrArg some hev7
   have z5:=hr7.Jv 5
   have hen:=HA7.o.en n _ HQ.o
   rw [hev7] at hen
   have HEN:=ah hen
   have HEV:=ah hev7
   have hx7:=HX6.o.keep hk7 (fun e=>e.1.2 rfl)
   have hv7:=HV6.o.keep hk7 (fun e=>e.2 rfl)
   have x0:w7.cell? ⟨X,0,none⟩=some (.int .i64 (vk k)):=hx7.cell (j:=0) (by omega)
   have x1:w7.cell? ⟨X,1,none⟩=some (.int .i64 (vi k)):=hx7.cell (j:=1) (by omega)
   have x2:w7.cell? ⟨X,2,none⟩=some (.int .u64 0):=hx7.cell (j:=2) (by omega)
   have x3:w7.cell? ⟨X,3,none⟩=some (.string ByteArray.empty):=hx7.cell (j:=3) (by omega)
   have x4:w7.cell? ⟨X,4,none⟩=some (.int .i64 (vr k)):=hx7.cell (j:=4) (by omega)
   have y0:w7.cell? ⟨X+1,0,none⟩=some (.int .i64 (vk v)):=hv7.cell (j:=0) (by omega)
   have y1:w7.cell? ⟨X+1,1,none⟩=some (.int .i64 (vi v)):=hv7.cell (j:=1) (by omega)
   have y2:w7.cell? ⟨X+1,2,none⟩=some (.int .u64 0):=hv7.cell (j:=2) (by omega)
   have y3:w7.cell? ⟨X+1,3,none⟩=some (.string ByteArray.empty):=hv7.cell (j:=3) (by omega)
   have y4:w7.cell? ⟨X+1,4,none⟩=some (.int .i64 (vr v)):=hv7.cell (j:=4) (by omega)
   have htl:=jH o.es
   have HR7:=ah hr7
   have hoL:=hr7.lt
   have hXL:=hx7.lt
   have hVL:=hv7.lt
   clear hk7 ha7 hr7 hen hev7 hx7 hv7 HT v0
   go_wp2_with fail
   go_cut [] (fun wc=>∃ v',Hq (JU base (fun b=>(S b/\b≠X)/\b≠X+1) (Hp.ents { h.ents n (aI o.es) with bytes:=h.bytes-40*(o.es.length-(aI o.es).length) } n (aI o.es++[(k,v)])) (SM.Ju ⟨L.H,oS7,L.ob,es7,li7,rS7⟩ n v') wc/\Keeps w7 wc (fun b=>(S b/\b≠X)/\b≠X+1)))
   case first=>
    go_region_law (
     refine sF (wr:=w7) _ _ rfl base (.slice A7 (aI o.es).length cap7) (aI o.es) (k,v) HEN.o rfl rfl (by omega) HA7.o.bs ?_
     intro v' w8 hv1 hv2 hv3
     obtain ⟨a8,k8,rfl⟩:=aF hv1
     have H8:=ah (HA7.o.IL HQ.o (w1:=w8) (v':=.slice a8 (aI o.es++[(k,v)]).length k8) (es':=aI o.es++[(k,v)]) (by show Keeps w7 w8 (fun b=>(es7 n).ownBlock=some b);rw [show es7 n=_ from HEV.o];exact hv2) hv1 (by show ∀ g,_->(es7 n).ownBlock=some g∨_;rw [show es7 n=_ from HEV.o];exact hv3))
     have hr8:=HR7.o.keep hv2 (fun e=>ak HEN.o HR7.o (by decide) e)
     have c58:w8.cell? ⟨L.ob n,5,none⟩=some (es7 n):=hr8.cell (j:=5) (by omega)
     have z58:=hr8.Jv 5
     clear hv1 hv2 hv3 hr8)
    all_goals
     go_wp2_with fail
     go_meet
     exact ⟨.slice a8 ((aI o.es).length+1) k8,(by
      have h9:=H8.o
      have e9:(aI o.es++[(k,v)]).length=(aI o.es).length+1:=by simp
      rw [e9] at h9
      exact h9)⟩
   case rest=>
    obtain ⟨v',HF4⟩:=hcut
    rename World=>w8
    clear c5 z5 x0 x1 x2 x3 x4 y0 y1 y2 y3 y4 hoL hXL hVL
    have HG:=ah (qI HF4.o.1 40 (by omega) (show h.bytes-40*(o.es.length-(aI o.es).length)<=300000 by omega) (show h.D6<=300000 from hcr))
    go_wp2_with fail
    refine HG.o.mono ?_
    rintro e9 w9 ⟨rfl,ha9,hk9⟩
    have HA9:=ah ha9
    have HK9:=ah hk9
    clear ha9 hk9 HG
    have HBK:=ah (qN HA9.o (by show 1<=(Hp.ents _ _ _).objs.length;rw [Hp.Ep];show 1<=(h.ents _ _).objs.length;rw [Hp.Ep];exact hp) (by show (Hp.ents _ _ _).objs.length<=5001;rw [Hp.Ep];show (h.ents _ _).objs.length<=5001;rw [Hp.Ep];exact hl9) hag (n:=n) (o:={ o with es:=aI o.es++[(k,v)] }) (Hp.Eu HQ.o _))
    go_wp2_with fail
    refine HBK.o.mono ?_
    rintro e10 w10 ⟨rfl,L10,hL10,ha10,hk10⟩
    go_wp2
    go_end0
    refine ⟨rfl,?_,L10,hL10.H,hL10.ob,?_⟩
    ·exact HKW.o.trans ((((HK7.o.trans HF4.o.2).trans HK9.o).trans hk10).mono (fun b e=>e.1.1))
    ·rw [HP.o,vH HO.o]
     exact ha10.mono (fun b e=>e.1.1)
 |some i=>
  have hfi:fD o.es k=(i:Int):=by unfold fD;rw [hf]
  have hil:i<o.es.length:=by
   unfold jJ at hf
   exact (List.findIdx?_eq_some_iff_getElem.mp hf).1
  rw [hfi]
  clear hfi
  obtain ⟨e,he⟩:∃ e,o.es[i]?=some e:=⟨_,List.getElem?_eq_getElem hil⟩
  obtain ⟨A3,cap3,hev2,hcap2,hent2⟩:=HA6.o.ents HO.o
  obtain ⟨g2,rfl,hg2,hcells⟩:=hent2 i e he
  obtain ⟨r6,hr6⟩:=HA6.o.ob n o HO.o
  have c5:w6.cell? ⟨L.ob n,5,none⟩=some (.slice (some ⟨g2,0,none⟩) o.es.length cap3):=by rw [<-hev2];exact hr6.cell (j:=5) (by omega)
  have d5:=hcells 5 _ rfl
  have d6:=hcells 6 _ rfl
  have d7:=hcells 7 _ rfl
  have d8:=hcells 8 _ rfl
  have d9:=hcells 9 _ rfl
  have v1:w6.cell? ⟨X+1,1,none⟩=some (.int .i64 (vi v)):=HV6.o.cell (j:=1) (by omega)
  have v2:w6.cell? ⟨X+1,2,none⟩=some (.int .u64 0):=HV6.o.cell (j:=2) (by omega)
  have v3:w6.cell? ⟨X+1,3,none⟩=some (.string ByteArray.empty):=HV6.o.cell (j:=3) (by omega)
  have v4:w6.cell? ⟨X+1,4,none⟩=some (.int .i64 (vr v)):=HV6.o.cell (j:=4) (by omega)
  have hrw:=au (HA6.o.en n o HO.o) (g:=g2) (by rw [hev2];simp [Value.ownBlock])
  have f5:=hrw.Jv (i*10+5)
  have f6:=hrw.Jv (i*10+6)
  have f7:=hrw.Jv (i*10+7)
  have f8:=hrw.Jv (i*10+8)
  have f9:=hrw.Jv (i*10+9)
  have HEV:=ah hev2
  have HEE:=ah he
  have HP:=ah (show h.put n k v=h.putAt n i v by unfold Hp.put;rw [HO.o];simp only [hf])
  clear hf hev2 hent2 hcells he hr6 hrw
  have HD:=ah ((HA6.o.low (Below.refl w6.heap.size w6).drew).I5 v (o:=o) HO.o HEV.o HEE.o)
  have HKD6:=ah (Keeps.of (Below.refl w6.heap.size w6).drew (Nat.le_refl _) (fun b=>(S b/\b≠X)/\b≠X+1))
  go_wp2_with fail
  go_cut [] (fun wc=>Hq (JU base (fun b=>(S b/\b≠X)/\b≠X+1) (h.ents n (o.es.set i (e.1,v))) L wc/\Keeps w6 wc (fun b=>(S b/\b≠X)/\b≠X+1)))
  case first=>
   go_region
   all_goals
    go_wp2_with fail
    go_meet
    exact ⟨HD.o.1,HKD6.o.trans HD.o.2⟩
  case rest=>
   have HF4:=hcut
   rename World=>w8
   clear hcut HD HKD6 d5 d6 d7 d8 d9 f5 f6 f7 f8 f9 v0 v1 v2 v3 v4 c5
   have HBK:=ah (qN HF4.o.1 (by rw [Hp.Ep];exact hp) (by rw [Hp.Ep];exact hl9) hag (n:=n) (o:={ o with es:=o.es.set i (e.1,v) }) (Hp.Eu HO.o _))
   go_wp2_with fail
   refine HBK.o.mono ?_
   rintro e10 w10 ⟨rfl,L10,hL10,ha10,hk10⟩
   go_wp2
   go_end0
   refine ⟨rfl,?_,L10,hL10.H,hL10.ob,?_⟩
   ·exact HKW.o.trans ((HF4.o.2.trans hk10).mono (fun b e=>e.1.1))
   ·rw [HP.o,qm HO.o HEE.o]
    exact ha10.mono (fun b e=>e.1.1)
end Go.Proofs.YtedpifhlffcmkaaGreatDoor
