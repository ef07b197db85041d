import Derived.Test.YtbpcdfbmnklcjaaGreatDoorKHST0
namespace Go.Proofs.YtbpcdfbmnklcjaaGreatDoor
open Go Go.RowKit
set_option maxHeartbeats 6400000
set_option maxRecDepth 100000
set_option linter.unusedVariables false
variable {K:Act->World->Prop} {Q:Exit->Act->World->Prop} {S:Nat->Prop} {a:Act} {base n:Nat} {h:Hp} {o:Ob} {w wr:World}
theorem Au {L:SM} (a:MV base S h L w) (ho:h.ob n=some o) (b:o.es.length<=5000) (c:Kd o.es) (k:HV):
 Calls Tryz.prog 60 #[.pointer (some ⟨L.ob n,0,none⟩),.agg #[.int .i64 (vk k),.int .i64 (vi k),.int .u64 0,.string ByteArray.empty,.int .i64 (vr k)]] w fun e w'=>e=.returned (.int .i64 (iF o.es k))/\Below w.heap.size w w':=by
 by_cases hk:vk k=2
 ·obtain ⟨z,d⟩:∃ z,k=some (.inl z):=by
   cases k with
   |none=>cases hk
   |some x=>cases x with
    |inl z=>exact ⟨z,rfl⟩
    |inr m=>cases hk
  exact Bc a ho b c z k d
 ·exact zG a ho b k hk
theorem vK {o:Oper} (s x:Operand)
 (ho:o.op=.call { callee:=.builtin .append,args:=#[s,x],argTypes:=#[91,91] })
 (base:Nat) (v:Value) (l:List En) (n:En) (hown:wr.ownsRow base 122 10 v l.length (kr l)) (D:a.eval s=v) (hx:a.eval x=.slice (some ⟨wr.heap.size,0,none⟩) 1 1) (A:l.length<=10000) (t:base<=wr.heap.size)
 (h:∀ v' w',w'.ownsRow base 122 10 v' (l++[n]).length (kr (l++[n]))->Keeps wr w' (fun b=>v.ownBlock=some b)->(∀ g,v'.ownBlock=some g->v.ownBlock=some g∨wr.heap.size<=g)->K (a.put o.dst v') w'):
 Oper.wp Tryz.prog o a (wr.alloc (.cells (iX n).toArray 122)).drew K Q:=by
 obtain ⟨z,hi,m,k,i⟩:=info_parts sK;have d:(wr.alloc (.cells (iX n).toArray 122)).drew.ownsRow base 122 10 v l.length (kr l):=aj hown (Keeps.of ((aU wr (.cells (iX n).toArray 122)).drew) (au _) (fun _=>False)) (fun _ _ x=>x);have p:aD (wr.alloc (.cells (iX n).toArray 122)).drew 122 wr.heap.size 10 (fun j=>(iX n).toArray.getD j (.bool false)):=aD.mk' wr 122 (iX n).toArray;have f:∀ j u,(iX n)[j]?=some u->(wr.alloc (.cells (iX n).toArray 122)).drew.cell? ((⟨wr.heap.size,0,none⟩:Addr).add j)=some u:=by
  intro j u B;have r:j<10:=(aJ.1 B).1;rw [bL];have:=p.cell (j:=j) r;rw [show (⟨wr.heap.size,0+j,none⟩:Addr)=⟨wr.heap.size,j,none⟩ by rw [Nat.zero_add],this];have E:(iX n).toArray.getD j (.bool false)=u:=by
   rw [Array.getD_eq_getD_getElem?,List.getElem?_toArray,B];rfl
  rw [E]
 have C:=wz n;obtain ⟨v',w',hr,G,q,H⟩:=run_append_own (P:=Tryz.prog) (wr.alloc (.cells (iX n).toArray 122)).drew base 91 o.type 122 z (.agg #[.int .i64 0,.int .i64 0,.int .u64 0,.string ByteArray.empty,.int .i64 0,.int .i64 0,.int .i64 0,.int .u64 0,.string ByteArray.empty,.int .i64 0]) 10 96 Tryz.underlying91 hi m k i rfl (by decide) v l.length (kr l) d ⟨wr.heap.size,0,none⟩ 1 1 (iX n) rfl f C (by unfold maxLen;omega) (by omega) (by simp;omega);have F:=fG (wr.alloc (.cells (iX n).toArray 122)).drew base 91 o.type 122 z (.agg #[.int .i64 0,.int .i64 0,.int .u64 0,.string ByteArray.empty,.int .i64 0,.int .i64 0,.int .i64 0,.int .u64 0,.string ByteArray.empty,.int .i64 0]) 10 96 Tryz.underlying91 hi m k i rfl (by decide) v l.length (kr l) d ⟨wr.heap.size,0,none⟩ 1 1 (iX n) rfl f C (by unfold maxLen;omega) (by omega) (by decide) hr;have c:Below wr.heap.size wr (wr.alloc (.cells (iX n).toArray 122)).drew:=(aU wr _).drew;unfold Oper.wp execOp;simp only [ho,resolve,invoke,builtin,Sem.run_bind,Sem.run_pure,Result.andThen_ok,List.map_toArray,List.map_cons,List.map_nil,D,hx,hr];refine h v' w' (by simpa [kr] using G) ?_ (fun g e=>?_)
 ·refine ⟨q.os.trans c.os,q.tape.trans c.tape,q.output.trans c.output,aI c.size q.size,fun b hb hn=>?_⟩
  exact (q.block b (aW hb c.size) (fun e=>hn e.symm)).trans (c.block b hb)
 ·rcases F g e with y|y
  ·exact .inl y
  ·right
   have:=c.size;omega
theorem yK {k v:HV} (ho:h.ob n=some o):h.Ic n o k v=Hp.back { Hp.ents { h.ents n (aS o.es) with bytes:=h.bytes-40*(o.es.length-(aS o.es).length) } n (aS o.es++[(k,v)]) with bytes:=h.bytes-40*(o.es.length-(aS o.es).length)+40,G6:=h.G6+40 } n:=by
 unfold Hp.Ic Hp.ents Hp.upd;have hx:=Hp.I_ ho;have:h.objs.modify n (Option.map fun o':Ob=>{ o' with es:=aS o'.es++[(k,v)] })=(h.objs.modify n (Option.map fun o':Ob=>{ o' with es:=aS o.es })).modify n (Option.map fun o':Ob=>{ o' with es:=aS o.es++[(k,v)] }):=by
  refine List.ext_getElem? (fun i=>?_);simp only [List.getElem?_modify];by_cases c:n=i
  ·subst c
   rw [hx];simp
  ·simp [c]
 rw [this]
theorem lD (es:List En):(aS es).length<=es.length:=by
 unfold aS;split
 ·exact au _
 ·exact List.length_filter_le _ _
theorem BI {L:SM} (a:MV base S h L w) (hp:1<=h.objs.length) (b6:h.objs.length<=5001) (c1:h.again.length<=20000) (ho:h.ob n=some o) (b9:o.es.length<=5000) (b7:Kd o.es) (g1:40*o.es.length<=h.bytes) (h4:h.bytes<=300000) (f2:h.G6<=300000) (k v:HV):
 Calls Tryz.prog 44 #[.pointer (some ⟨L.H,0,none⟩),.int .i64 (n:Int),.agg #[.int .i64 (vk k),.int .i64 (vi k),.int .u64 0,.string ByteArray.empty,.int .i64 (vr k)],.agg #[.int .i64 (vk v),.int .i64 (vi v),.int .u64 0,.string ByteArray.empty,.int .i64 (vr v)]] w fun e w'=>e=.returned (.tuple #[])/\Keeps w w' S/\∃ L',L'.H=L.H/\L'.ob=L.ob/\MV base S (h.put n k v) L' w':=by
 have HA:=ah a;have r:=ah ho;clear a ho;have Y:=ah ((HA.o.hole (.cells (Nu k) 95)).hole (.cells (Nu v) 95));have HV:=ah (rA (w.alloc (.cells (Nu k) 95)) v);have HX:=ah ((rA w k).keep (Keeps.of (aU (w.alloc (.cells (Nu k) 95)) (.cells (Nu v) 95)) (au _) (fun _=>False)) (fun x=>x));have HB:=ah ((aU w (.cells (Nu k) 95)).trans ((aU (w.alloc (.cells (Nu k) 95)) (.cells (Nu v) 95)).mono (aU w (.cells (Nu k) 95)).size));have hZ:(w.alloc (.cells (Nu k) 95)).heap.size=w.heap.size+1:=aG _;rw [hZ] at HV Y;clear hZ;go_enter Tryz.func44,Tryz.ntmps44;go_upto_region 1 with (fail)
 generalize (w.alloc (.cells (Nu k) 95)).alloc (.cells (Nu v) 95)=w3 at *;generalize hX:w.heap.size=X at *;obtain ⟨go,c4,a5,f3,G⟩:=Y.o.slot hp;have f0:=Hp.Ia r.o;have c0:w3.cell? ⟨L.H,0,none⟩=some (.slice (some ⟨go,0,none⟩) h.objs.length c4):=by
  have:=Y.o.hp.c 0;rw [this];exact congrArg some a5
 have cn:=G n f0;obtain ⟨x0,x1,x2,x3,x4⟩:NQ w3 X k:=HX.o.c5;have i0:=ah a5;have g9:=ah b7;have HK:=ah (CW w3 k);clear a5 G b7;go_wp2_with fail;refine HK.o.mono ?_;rintro e4 w4 ⟨rfl,M⟩;have d3:=ah (Y.o.low M);have f:=ah (HX.o.keep (Keeps.of M (au _) (fun _=>False)) (fun x=>x));have c8:=ah (HV.out.keep (Keeps.of M (au _) (fun _=>False)) (fun x=>x));have d2:=ah (HB.o.trans (M.mono (hX ▸ HB.o.size)));clear M HK HX HV HB x0 x1 x2 x3 x4 c0 cn;obtain ⟨y0,y1,y2,y3,y4⟩:NQ w4 X k:=f.o.c5;have z0:=f.o.ME 0;have z1:=f.o.ME 1;have z2:=f.o.ME 2;have z3:=f.o.ME 3;have z4:=f.o.ME 4;have a9:=ah (((((f.o.set (j:=0) (by omega) (.int .i64 (vk k))).set (j:=1) (by omega) (.int .i64 (vi k))).set (j:=2) (by omega) (.int .u64 0)).set (j:=3) (by omega) (.string ByteArray.empty)).set (j:=4) (by omega) (.int .i64 (vr k)));have V:=ah ((((((Keeps.setCell (S:=fun b=>b=X) (Keeps.refl w4 _) (g:=X) (j:=0) rfl (.int .i64 (vk k))).setCell (g:=X) (j:=1) rfl (.int .i64 (vi k))).setCell (g:=X) (j:=2) rfl (.int .u64 0)).setCell (g:=X) (j:=3) rfl (.string ByteArray.empty)).setCell (g:=X) (j:=4) rfl (.int .i64 (vr k))));have b2:=ah (d2.o.trans (V.o.below (B:=X) (dh f.o.lt) (fun b e=>by omega)));have b3:=ah (d3.o.out (V.o.mono (fun b e c=>c.1.2 e)));have c7:=ah (c8.o.keep V.o (by omega));go_upto_region 3 with (fail)
 generalize ((((w4.setCell ⟨X,0,none⟩ (.int .i64 (vk k))).setCell ⟨X,1,none⟩ (.int .i64 (vi k))).setCell ⟨X,2,none⟩ (.int .u64 0)).setCell ⟨X,3,none⟩ (.string ByteArray.empty)).setCell ⟨X,4,none⟩ (.int .i64 (vr k))=w5 at *;clear y0 y1 y2 y3 y4 z0 z1 z2 z3 z4 f d3 c8 d2 V;obtain ⟨q0,q1,q2,q3,q4⟩:NQ w5 X k:=a9.o.c5;have HF:=ah (Au b3.o r.o b9 g9.o k);go_wp2_with fail;refine HF.o.mono ?_;rintro e6 A ⟨rfl,J⟩;have z:=ah (b3.o.low J);have g8:=ah (a9.o.keep (Keeps.of J (au _) (fun _=>False)) (fun x=>x));have u:=ah (c7.o.keep (Keeps.of J (au _) (fun _=>False)) (fun x=>x));have h2:=ah (b2.o.trans (J.mono (hX ▸ b2.o.size)));clear J HF a9 c7 b2 b3 q0 q1 q2 q3 q4;have b0:=ah (Keeps.of h2.o (aO hX) S);have v0:A.cell? ⟨X+1,0,none⟩=some (.int .i64 (vk v)):=u.o.c 0;cases hf:kG o.es k with
 |none=>
  have E:iF o.es k= -1:=by unfold iF;rw [hf]
  rw [E];clear E;cases hv:v.isSome with
  |false=>
   have e5:(vk v==0)=true:=by
    have:=fq v;rw [hv] at this
    simpa using this
   have HP:=ah (show h.put n k v=h by unfold Hp.put;rw [r.o];simp only [hf];rw [if_pos (by cases v with |none=>rfl|some y=>cases hv)]);clear hf hv;go_wp2
   ((try simp only [Exit.inBlock,Exit.then]);refine bodyPost_ret (results_none rfl _ _ _) rfl ?_)
   exact ⟨rfl,b0.o,L,rfl,rfl,by rw [HP.o];exact z.o.mono (fun b e=>e.1.1)⟩
  |true=>
   have e5:(vk v==0)=false:=by
    have:=fq v;rw [hv] at this
    simpa using this
   have HP:=ah (show h.put n k v=h.Ic n o k v by unfold Hp.put;rw [r.o];simp only [hf];rw [if_neg (by cases v with |none=>cases hv|some y=>simp)]);clear hf hv;have HT:=ah (zK z.o r.o b9 g1 (by omega));go_wp2_with fail;refine HT.o.mono ?_;rintro e7 T ⟨rfl,U,⟨H7,e2,e1,t,e3,e0⟩,g6,g5,c3⟩;obtain rfl:H7=L.H:=g6;obtain rfl:e1=L.ob:=g5;have h1:=ah U;have R:=ah c3;have HQ:=ah (show Hp.ob { h.ents n (aS o.es) with bytes:=h.bytes-40*(o.es.length-(aS o.es).length) } n=some { o with es:=aS o.es } from Hp.Ij r.o (aS o.es));obtain ⟨A7,Z,p,f4,-⟩:=R.o.ents HQ.o;obtain ⟨r7,C⟩:=R.o.ob n _ HQ.o;have c5:T.cell? ⟨L.ob n,5,none⟩=some (.slice A7 (aS o.es).length Z):=by
    have:=C.c 5;rw [this];exact congrArg some p
   have z5:=C.ME 5;have a6:=R.o.en n _ HQ.o;rw [p] at a6;have d0:=ah a6;have W:=ah p;have a1:=g8.o.keep U (fun e=>e.1.2 rfl);have m:=u.o.keep U (fun e=>e.2 rfl);obtain ⟨x0,x1,x2,x3,x4⟩:NQ T X k:=a1.c5;have y0:T.cell? ⟨X+1,0,none⟩=some (.int .i64 (vk v)):=m.c 0;have y1:T.cell? ⟨X+1,1,none⟩=some (.int .i64 (vi v)):=m.c 1;have y2:T.cell? ⟨X+1,2,none⟩=some (.int .u64 0):=m.c 2;have y3:T.cell? ⟨X+1,3,none⟩=some (.string ByteArray.empty):=m.c 3;have y4:T.cell? ⟨X+1,4,none⟩=some (.int .i64 (vr v)):=m.c 4;have h6:=lD o.es;have c9:=ah C;have e8:=C.lt;have g3:=a1.lt;have g4:=m.lt;clear U c3 C a6 p a1 m HT v0;go_wp2_with fail
   go_cut [] (fun wc=>∃ v',Hq (MV base (fun b=>(S b/\b≠X)/\b≠X+1) (Hp.ents { h.ents n (aS o.es) with bytes:=h.bytes-40*(o.es.length-(aS o.es).length) } n (aS o.es++[(k,v)])) (SM.MW ⟨L.H,e2,L.ob,t,e3,e0⟩ n v') wc/\Keeps T wc (fun b=>(S b/\b≠X)/\b≠X+1)))
   case first=>
    go_region_law (
     refine vK (wr:=T) _ _ rfl base (.slice A7 (aS o.es).length Z) (aS o.es) (k,v) d0.o rfl rfl (by omega) R.o.bs ?_;intro v' w8 a3 a2 b4;obtain ⟨a8,k8,rfl⟩:=aF a3;have H8:=ah (R.o.LB HQ.o (w1:=w8) (v':=.slice a8 (aS o.es++[(k,v)]).length k8) (es':=aS o.es++[(k,v)]) (by show Keeps T w8 (fun b=>(t n).ownBlock=some b);rw [show t n=_ from W.o];exact a2) a3 (by show ∀ g,_->(t n).ownBlock=some g∨_;rw [show t n=_ from W.o];exact b4));have a4:=c9.o.keep a2 (fun e=>ak d0.o c9.o (by decide) e);have h8:w8.cell? ⟨L.ob n,5,none⟩=some (t n):=a4.c 5;have h5:=a4.ME 5;clear a3 a2 b4 a4)
    all_goals
     go_wp2_with fail;go_meet;exact ⟨.slice a8 ((aS o.es).length+1) k8,(by
      have h9:=H8.o;have e9:(aS o.es++[(k,v)]).length=(aS o.es).length+1:=by simp
      rw [e9] at h9;exact h9)⟩
   case rest=>
    obtain ⟨v',P⟩:=hcut;rename World=>w8;clear c5 z5 x0 x1 x2 x3 x4 y0 y1 y2 y3 y4 e8 g3 g4;have HG:=ah (tN P.o.1 40 (by omega) (show h.bytes-40*(o.es.length-(aS o.es).length)<=300000 by omega) (show h.G6<=300000 from f2));go_wp2_with fail;refine HG.o.mono ?_;rintro e9 w9 ⟨rfl,c2,b8⟩;have h3:=ah c2;have h0:=ah b8;clear c2 b8 HG;have b1:=ah (rZ h3.o (by show 1<=(Hp.ents _ _ _).objs.length;rw [Hp.Ie];show 1<=(h.ents _ _).objs.length;rw [Hp.Ie];exact hp) (by show (Hp.ents _ _ _).objs.length<=5001;rw [Hp.Ie];show (h.ents _ _).objs.length<=5001;rw [Hp.Ie];exact b6) c1 (n:=n) (o:={ o with es:=aS o.es++[(k,v)] }) (Hp.Ij HQ.o _));go_wp2_with fail;refine b1.o.mono ?_;rintro g7 d4 ⟨rfl,a7,l,N,D⟩;go_wp2;go_end0;refine ⟨rfl,?_,a7,l.H,l.ob,?_⟩
    ·exact b0.o.trans ((((h1.o.trans P.o.2).trans h0.o).trans D).mono (fun b e=>e.1.1))
    ·rw [HP.o,yK r.o]
     exact N.mono (fun b e=>e.1.1)
 |some i=>
  have E:iF o.es k=(i:Int):=by unfold iF;rw [hf]
  have f1:i<o.es.length:=by
   unfold kG at hf;exact (List.findIdx?_eq_some_iff_getElem.mp hf).1
  rw [E];clear E;obtain ⟨e,he⟩:∃ e,o.es[i]?=some e:=⟨_,aN f1⟩
  obtain ⟨A3,c6,q,g0,F⟩:=z.o.ents r.o;obtain ⟨g2,rfl,h7,d⟩:=F i e he;obtain ⟨r6,b5⟩:=z.o.ob n o r.o;have c5:A.cell? ⟨L.ob n,5,none⟩=some (.slice (some ⟨g2,0,none⟩) o.es.length c6):=by rw [<-q];exact b5.c 5
  have d5:=d 5 _ rfl;have d6:=d 6 _ rfl;have d7:=d 7 _ rfl;have d8:=d 8 _ rfl;have d9:=d 9 _ rfl;have v1:A.cell? ⟨X+1,1,none⟩=some (.int .i64 (vi v)):=u.o.c 1;have v2:A.cell? ⟨X+1,2,none⟩=some (.int .u64 0):=u.o.c 2;have v3:A.cell? ⟨X+1,3,none⟩=some (.string ByteArray.empty):=u.o.c 3;have v4:A.cell? ⟨X+1,4,none⟩=some (.int .i64 (vr v)):=u.o.c 4;have s:=ay (z.o.en n o r.o) (g:=g2) (by rw [q];simp [Value.ownBlock]);have f5:=s.ME (i*10+5);have f6:=s.ME (i*10+6);have f7:=s.ME (i*10+7);have f8:=s.ME (i*10+8);have f9:=s.ME (i*10+9);have W:=ah q;have d1:=ah he;have HP:=ah (show h.put n k v=h.putAt n i v by unfold Hp.put;rw [r.o];simp only [hf]);clear hf q F d he b5 s;have HD:=ah ((z.o.low (aT A.heap.size A).drew).Mc v (o:=o) r.o W.o d1.o);have a0:=ah (Keeps.of (aT A.heap.size A).drew (au _) (fun b=>(S b/\b≠X)/\b≠X+1));go_wp2_with fail
  go_cut [] (fun wc=>Hq (MV base (fun b=>(S b/\b≠X)/\b≠X+1) (h.ents n (o.es.set i (e.1,v))) L wc/\Keeps A wc (fun b=>(S b/\b≠X)/\b≠X+1)))
  case first=>
   go_region
   all_goals
    go_wp2_with fail;go_meet;exact ⟨HD.o.1,a0.o.trans HD.o.2⟩
  case rest=>
   have P:=hcut;rename World=>w8;clear hcut HD a0 d5 d6 d7 d8 d9 f5 f6 f7 f8 f9 v0 v1 v2 v3 v4 c5;have b1:=ah (rZ P.o.1 (by rw [Hp.Ie];exact hp) (by rw [Hp.Ie];exact b6) c1 (n:=n) (o:={ o with es:=o.es.set i (e.1,v) }) (Hp.Ij r.o _));go_wp2_with fail;refine b1.o.mono ?_;rintro g7 d4 ⟨rfl,a7,l,N,D⟩;go_wp2;go_end0;refine ⟨rfl,?_,a7,l.H,l.ob,?_⟩
   ·exact b0.o.trans ((P.o.2.trans D).mono (fun b e=>e.1.1))
   ·rw [HP.o,sW r.o d1.o]
    exact N.mono (fun b e=>e.1.1)
end Go.Proofs.YtbpcdfbmnklcjaaGreatDoor
