import Derived.Test.YtedpifhlffcmkaaGreatDoorKHSH
namespace Go.Proofs.YtedpifhlffcmkaaGreatDoor
open Go Go.RowKit
set_option maxHeartbeats 6400000
set_option maxRecDepth 100000
set_option linter.unusedVariables false
section
variable {S:Nat->Prop} {base j:Nat} {w:World}
theorem Hp.FR {h:Hp} (hj:¬ (j<h.objs.length/\h.ob j=none)):h.skip j=j:=by rw [Hp.skip,dif_neg hj]
theorem Hp.Ie {h:Hp} (hj:j<h.objs.length/\h.ob j=none):h.skip j=h.skip (j+1):=by rw [Hp.skip,dif_pos hj]
theorem pE {h:Hp} {L:SM} (a:JU base S h L w) (hl9:h.objs.length<=5001) (hp:1<=h.objs.length) (hs:h.D7<=10000):
 Calls Tryz.prog 90 #[.pointer (some ⟨L.H,0,none⟩)] w fun e w'=>e=.returned (.tuple #[])/\JU base S h.skipped L w'/\Keeps w w' S:=by
 have HA:=ah a
 clear a
 go_enter Tryz.func90,Tryz.ntmps90
 go_wp2
 go_loopg [] (h.objs.length-h.D7) (fun m wr=>∃ j:Nat,j<=10000/\Hq (m=h.objs.length-j/\h.skip j=h.skip h.D7/\JU base S { h with D7:=j } L wr/\Keeps w wr S))
 case atStart=>exact ⟨h.D7,hs,rfl,rfl,HA.o,Keeps.refl _ _⟩
 case round=>
  clear HA
  obtain ⟨j,hj9,HI⟩:=hrel
  have hat:=HI.out.2.2.1
  obtain ⟨go,capo,hoS,hcapo,hcell⟩:=hat.slot (show 1<=h.objs.length from hp)
  have c0:wr.cell? ⟨L.H,0,none⟩=some (.slice (some ⟨go,0,none⟩) h.objs.length capo):=by
   have:=hat.hp.cell (j:=0) (by omega)
   rw [this]
   exact congrArg some hoS
  have c14:wr.cell? ⟨L.H,14,none⟩=some (.int .i64 (j:Int)):=hat.hp.cell (j:=14) (by omega)
  by_cases hj:j<h.objs.length
  ·have hcj:=hcell j hj
   obtain ⟨r,kd,c,md,ev,fn,hrow,hcw,hsome⟩:=hat.any (n:=j) hj
   have d2:wr.cell? ⟨L.ob j,2,none⟩=some (.bool (h.ob j).isNone):=hrow.cell (j:=2) (by omega)
   have hji:(j:Int)<(h.objs.length:Int):=by omega
   have hdec:decide ((j:Int)<(h.objs.length:Int))=true:=by simpa using hji
   cases ho:h.ob j with
   |some o=>
    have hn:(h.ob j).isNone=false:=by rw [ho];rfl
    rw [hn] at d2
    have HSK:=ah (Hp.FR (h:=h) (j:=j) (fun x=>by rw [ho] at x;cases x.2))
    have HB:=ah (fun nq:Nat=>ay (Below.refl wr.heap.size wr) nq)
    clear hat hoS hcell hrow hcw hsome hn ho
    go_wp2_with fail
    go_quiet (fail)
    go_wp2
    go_end0
    refine ⟨rfl,?_,HI.out.2.2.2.trans (Keeps.of (HB.o _) (Nat.le_refl _) S)⟩
    have e:h.skipped={ h with D7:=j }:=by
     unfold Hp.skipped
     rw [<-HI.out.2.1,HSK.o]
    rw [e]
    exact HI.out.2.2.1.low (HB.o _)
   |none=>
    have hn:(h.ob j).isNone=true:=by rw [ho];rfl
    rw [hn] at d2
    have HSK:=ah (Hp.Ie (h:=h) (j:=j) ⟨hj,ho⟩)
    have HB:=ah (fun nq:Nat=>ay (Below.refl wr.heap.size wr) nq)
    clear hat hoS hcell hrow hcw hsome hn ho
    go_wp2_with fail
    go_quiet (fail)
    have HA2:=ah (HI.out.2.2.1.low (HB.o nq))
    have HK2:=ah (HI.out.2.2.2.trans (Keeps.of (HB.o nq) (Nat.le_refl _) S))
    generalize wr.drewN nq=w2 at *
    have e14:w2.cell? ⟨L.H,14,none⟩=some (.int .i64 (j:Int)):=HA2.o.hp.cell (j:=14) (by omega)
    have z14:=HA2.o.hp.Jv 14
    have hst:=HA2.o.num (h':={ h with D7:=j+1 }) 14 (.int .i64 ((j:Int)+1)) (by decide) rfl ⟨rfl,rfl,rfl,rfl,rfl,rfl,rfl⟩ rfl (bg _ rfl rfl rfl rfl rfl rfl rfl rfl rfl rfl rfl rfl rfl rfl rfl rfl rfl rfl)
    have HST:=ah hst
    clear hst c0 c14 hcj d2
    go_wp2
    go_roundg (h.objs.length-(j+1))
    case rel=>exact ⟨j+1,by omega,rfl,by rw [<-HSK.o];exact HI.out.2.1,HST.o.1,HK2.o.trans HST.o.2⟩
    case measure=>
     have:=HI.out.1
     omega
  ·have hdec:decide ((j:Int)<(h.objs.length:Int))=false:=by
    simp
    omega
   have HSK:=ah (Hp.FR (h:=h) (j:=j) (fun x=>hj x.1))
   have HB:=ah (fun nq:Nat=>ay (Below.refl wr.heap.size wr) nq)
   clear hat hoS hcell
   go_wp2_with fail
   go_quiet (fail)
   go_wp2
   go_end0
   refine ⟨rfl,?_,HI.out.2.2.2.trans (Keeps.of (HB.o _) (Nat.le_refl _) S)⟩
   have e:h.skipped={ h with D7:=j }:=by
    unfold Hp.skipped
    rw [<-HI.out.2.1,HSK.o]
   rw [e]
   exact HI.out.2.2.1.low (HB.o _)
theorem pF (w:World) (b:Nat) (A:Option Addr) (n cap:Nat) (hn:n<=5000) (h0:w.cell? ⟨b,0,none⟩=some (.int .i64 5)) (h5:w.cell? ⟨b,5,none⟩=some (.slice A n cap)):Calls Tryz.prog 58 #[.pointer (some ⟨b,0,none⟩)] w fun e w'=>e=.returned (.int .i64 ((40+40*n:Nat):Int))/\w'=w:=by
 go_enter Tryz.func58,Tryz.ntmps58
 go_wp2
 go_ret
 exact ⟨by simp,rfl⟩
end
theorem JU.freed {base:Nat} {S:Nat->Prop} {h h':Hp} {L:SM} {w wF:World} (a:JU base S h L w) {n:Nat} {o:Ob} (ho:h.ob n=some o) {v':Value} {X go capo c:Nat} {rx:Nat->Value} (hoS:L.oS=.slice (some ⟨go,0,none⟩) h.objs.length capo)
 (kk:Keeps w wF (fun b=>b=L.ob n∨b=L.H∨(L.li 15).ownBlock=some b∨b=go)) (hobj:h'.objs=h.objs.set n none) (hls:∀ k,cB k->k≠15->eX h' k=eX h k) (hfr:h'.freed=h.freed++[n]) (hro:h'.roots=h.roots)
 (hH:aD wF 105 L.H 18 (qZ h' { L with ob:=fun m=>if m=n then X else L.ob m,li:=fun j=>if j=15 then v' else L.li j }))
 (hoo:wF.ownsRow base 90 1 L.oS h.objs.length ((List.range h.objs.length).map fun m=>.pointer (some ⟨if m=n then X else L.ob m,0,none⟩)))
 (hX:aD wF 101 X 25 (jw rx 0 c true 0 (.slice none 0 0) false)) (hc:eP c=true) (hXs:w.heap.size<=X)
 (hl:wF.ownsRow base 3 1 v' (h.freed++[n]).length (bU (h.freed++[n]))) (hv:∀ g,v'.ownBlock=some g->(L.li 15).ownBlock=some g∨w.heap.size<=g):
 JU base S h' { L with ob:=fun m=>if m=n then X else L.ob m,li:=fun j=>if j=15 then v' else L.li j } wF/\Keeps w wF S:=by
 have i15:cB 15:=by simp [cB]
 have hn:=Hp.Es ho
 obtain ⟨r0,hr0⟩:=a.ob n o ho
 have hlen:h'.objs.length=h.objs.length:=by rw [hobj];simp
 have hob:∀ m,h'.ob m=if n=m then none else h.ob m:=by
  intro m
  have:=h.G_ n m
  unfold Hp.ob at this ⊢
  rw [hobj]
  exact this
 have hgo:L.oS.ownBlock=some go:=by rw [hoS];simp [Value.ownBlock]
 have hrgo:=au a.oo hgo
 have hT:∀ {T s n':Nat} {v:Value} {xs:List Value},w.ownsRow base T s v n' xs->T≠101->T≠105->T≠3->T≠90->∀ g,v.ownBlock=some g->¬ (g=L.ob n∨g=L.H∨(L.li 15).ownBlock=some g∨g=go):=by
  intro T s n' v xs h1 h2 h3 h4 h5 g h6 h7
  rcases h7 with h7|h7|h7|h7
  ·exact ak h1 hr0 h2 (h7 ▸ h6)
  ·exact ak h1 a.hp h3 (h7 ▸ h6)
  ·exact aV h1 (a.li 15 i15) h4 h7 h6
  ·exact ak h1 hrgo h5 (h7 ▸ h6)
 have hXo:∀ m,m<h.objs.length->L.ob m<w.heap.size:=by
  intro m hm
  cases e:h.ob m with
  |none=>obtain ⟨r,c,_,hr⟩:=a.dd m hm e;exact hr.lt
  |some o=>obtain ⟨r,hr⟩:=a.ob m o e;exact hr.lt
 have hO:∀ {m:Nat} {f:Nat->Value},m<h.objs.length->m≠n->aD w 101 (L.ob m) 25 f->aD wF 101 (L.ob m) 25 f:=by
  intro m f hm hmn hr
  refine hr.keep kk (fun x=>?_)
  rcases x with x|x|x|x
  ·exact hmn (a.ij m n hm hn x)
  ·exact hr.apart a.hp (by decide) x
  ·exact ak (a.li 15 i15) hr (by decide) x
  ·exact hr.apart hrgo (by decide) x
 refine ⟨⟨hH,?_,fun m o' e=>?_,fun m hm e=>?_,fun m o' e=>?_,fun k hk=>?_,?_,fun m m' hm hm' e=>?_,fun m m' o1 o2 g e1 e2=>?_,fun k k' g hk hk' e e'=>?_,a.bH,fun m hm=>?_,Nat.le_trans a.bs kk.size,a.sH,fun m hm=>?_,a.sO,fun m o' g e=>?_,fun k g hk e=>?_,a.sr,fun b hb=>a.up b (Nat.le_trans kk.size hb)⟩,kk.mono (fun b e=>?_)⟩
 ·rw [hlen];exact hoo
 ·rw [hob] at e
  split at e
  ·cases e
  ·rename_i c9
   obtain ⟨r,hr⟩:=a.ob m o' e
   simp only [if_neg (Ne.symm c9)]
   exact ⟨r,hO (Hp.Es e) (Ne.symm c9) hr⟩
 ·rw [hlen] at hm
  by_cases c9:m=n
  ·simp only [if_pos c9]
   exact ⟨rx,c,hc,hX⟩
  ·rw [hob,if_neg (Ne.symm c9)] at e
   obtain ⟨r,c',hc',hr⟩:=a.dd m hm e
   simp only [if_neg c9]
   exact ⟨r,c',hc',hO hm c9 hr⟩
 ·rw [hob] at e
  split at e
  ·cases e
  ·exact aj (a.en m o' e) kk (hT (a.en m o' e) (by decide) (by decide) (by decide) (by decide))
 ·by_cases c9:k=15
  ·subst c9
   rw [show eX h' 15=h.freed++[n] from hfr]
   simp only [if_true]
   exact hl
  ·rw [hls k hk c9]
   simp only [if_neg c9]
   refine aj (a.li k hk) kk (fun g hg x=>?_)
   rcases x with x|x|x|x
   ·exact ak (a.li k hk) hr0 (by decide) (x ▸ hg)
   ·exact ak (a.li k hk) a.hp (by decide) (x ▸ hg)
   ·exact c9 (a.lj k 15 g hk i15 hg x)
   ·exact ak (a.li k hk) hrgo (by decide) (x ▸ hg)
 ·rw [hro];exact aj a.ro kk (hT a.ro (by decide) (by decide) (by decide) (by decide))
 ·rw [hlen] at hm hm'
  have b1:=hXo m hm
  have b2:=hXo m' hm'
  by_cases c1:m=n<;>by_cases c2:m'=n
  ·rw [c1,c2]
  ·simp only [c1,c2,if_true,if_false] at e;omega
  ·simp only [c1,c2,if_true,if_false] at e;omega
  ·simp only [c1,c2,if_false] at e
   exact a.ij m m' hm hm' e
 ·rw [hob] at e1 e2
  split at e1
  ·cases e1
  ·split at e2
   ·cases e2
   ·exact a.ei m m' o1 o2 g e1 e2
 ·have hlt:∀ q,cB q->(L.li q).ownBlock=some g->g<w.heap.size:=fun q hq e=>(au (a.li q hq) e).lt
  by_cases c:k=15<;>by_cases c':k'=15
  ·rw [c,c']
  ·simp only [c,c',if_true,if_false] at e e'
   rcases hv g e with x|x
   ·rw [c];exact a.lj 15 k' g i15 hk' x e'
   ·have:=hlt k' hk' e';omega
  ·simp only [c,c',if_true,if_false] at e e'
   rcases hv g e' with x|x
   ·rw [c'];exact a.lj k 15 g hk i15 e x
   ·have:=hlt k hk e;omega
  ·simp only [c,c',if_false] at e e'
   exact a.lj k k' g hk hk' e e'
 ·rw [hlen] at hm
  have b0:=a.bs
  by_cases c9:m=n
  ·simp only [if_pos c9];omega
  ·simp only [if_neg c9];exact a.bo m hm
 ·rw [hlen] at hm
  by_cases c9:m=n
  ·simp only [if_pos c9];exact a.up X hXs
  ·simp only [if_neg c9];exact a.so m hm
 ·rw [hob] at e
  split at e
  ·cases e
  ·exact a.se m o' g e
 ·by_cases c9:k=15
  ·simp only [c9,if_true] at e
   rcases hv g e with x|x
   ·exact a.sl 15 g i15 x
   ·exact a.up g x
  ·simp only [c9,if_false] at e
   exact a.sl k g hk e
 ·rcases e with e|e|e|e
  ·exact e ▸ a.so n hn
  ·exact e ▸ a.sH
  ·exact a.sl 15 b i15 e
  ·exact e ▸ a.sO go hgo
section
variable {K:Act->World->Prop} {Q:Exit->Act->World->Prop} {a:Act} {capo:Nat} {l':List Nat} {v':Value} {w' w1 wr:World}
theorem je {o:Oper} (s x:Operand)
 (ho:o.op=.call { callee:=.builtin .append,args:=#[s,x],argTypes:=#[30,30] })
 (base:Nat) (v:Value) (l:List Nat) (n:Nat) (hown:wr.ownsRow base 3 1 v l.length (bU l)) (hs:a.eval s=v) (hx:a.eval x=.slice (some ⟨wr.heap.size,0,none⟩) 1 1) (hlen:l.length<=1000000) (hbase:base<=wr.heap.size)
 (h:∀ v' w',w'.ownsRow base 3 1 v' (l++[n]).length (bU (l++[n]))->Keeps wr w' (fun b=>v.ownBlock=some b)->(∀ g,v'.ownBlock=some g->v.ownBlock=some g∨wr.heap.size<=g)->K (a.put o.dst v') w'):
 Oper.wp Tryz.prog o a (wr.alloc (.cells #[.int .i64 (n:Int)] 3)).drew K Q:=by
 obtain ⟨i0,hi,hz0,hz1,hz2⟩:=info_parts iK
 have hown':(wr.alloc (.cells #[.int .i64 (n:Int)] 3)).drew.ownsRow base 3 1 v l.length (bU l):=aj hown (Keeps.of ((aJ wr (.cells #[.int .i64 (n:Int)] 3)).drew) (Nat.le_refl _) (fun _=>False)) (fun _ _ x=>x)
 have hrow:aD (wr.alloc (.cells #[.int .i64 (n:Int)] 3)).drew 3 wr.heap.size 1 (fun j=>(#[Value.int .i64 (n:Int)]:Array Value).getD j (.bool false)):=aD.mk' wr 3 #[.int .i64 (n:Int)]
 have hnews:∀ j u,[Value.int .i64 (n:Int)][j]?=some u->(wr.alloc (.cells #[.int .i64 (n:Int)] 3)).drew.cell? ((⟨wr.heap.size,0,none⟩:Addr).add j)=some u:=by
  intro j u hj
  have hj0:j=0:=by
   have:=(List.getElem?_eq_some_iff.1 hj).1
   simpa using this
  subst hj0
  simp at hj
  subst hj
  rw [aY]
  exact hrow.cell (j:=0) (by omega)
 have h1:∀ u∈[Value.int .i64 (n:Int)],u.oneCell'=true:=fun u hu=>by simp at hu;subst hu;rfl
 obtain ⟨v',w',hr,h2,h3,h4⟩:=run_append_own (P:=Tryz.prog) (wr.alloc (.cells #[.int .i64 (n:Int)] 3)).drew base 30 o.type 3 i0 (.int .i64 0) 1 8 Tryz.underlying30 hi hz0 hz1 hz2 rfl (by decide) v l.length (bU l) hown' ⟨wr.heap.size,0,none⟩ 1 1 [.int .i64 (n:Int)] rfl hnews h1 (by unfold maxLen;omega) (by omega) (by simp;omega)
 have h5:=dG (wr.alloc (.cells #[.int .i64 (n:Int)] 3)).drew base 30 o.type 3 i0 (.int .i64 0) 1 8 Tryz.underlying30 hi hz0 hz1 hz2 rfl (by decide) v l.length (bU l) hown' ⟨wr.heap.size,0,none⟩ 1 1 [.int .i64 (n:Int)] rfl hnews h1 (by unfold maxLen;omega) (by omega) (by decide) hr
 have hb1:Below wr.heap.size wr (wr.alloc (.cells #[.int .i64 (n:Int)] 3)).drew:=(aJ wr _).drew
 unfold Oper.wp execOp
 simp only [ho,resolve,invoke,builtin,Sem.run_bind,Sem.run_pure,Result.andThen_ok,List.map_toArray,List.map_cons,List.map_nil,hs,hx,hr]
 refine h v' w' (by simpa [bU] using h2) ?_ (fun g e=>?_)
 ·refine ⟨h3.os.trans hb1.os,h3.tape.trans hb1.tape,h3.output.trans hb1.output,Nat.le_trans hb1.size h3.size,fun b hb hn=>?_⟩
  exact (h3.block b (Nat.lt_of_lt_of_le hb hb1.size) (fun e=>hn e.symm)).trans (hb1.block b hb)
 ·rcases h5 g e with y|y
  ·exact .inl y
  ·right
   have:=hb1.size
   omega
structure FB (base:Nat) (q:Hp) (L:SM) (n go:Nat) (w0:World) (f g:Nat->Value) (ps:Nat->Nat) (v:Value) (l:List Nat) (w:World):Prop where
 hH:aD w 105 L.H 18 f
 hO:aD w 101 (L.ob n) 25 g
 oo:w.ownsRow base 90 1 L.oS q.objs.length ((List.range q.objs.length).map fun m=>.pointer (some ⟨ps m,0,none⟩))
 li:w.ownsRow base 3 1 v l.length (bU l)
 kk:Keeps w0 w (fun b=>b=L.ob n∨b=L.H∨(L.li 15).ownBlock=some b∨b=go)
 vv:∀ g,v.ownBlock=some g->(L.li 15).ownBlock=some g∨w0.heap.size<=g
 bs:base<=w.heap.size
section
variable {base : Nat} {q : Hp} {L : SM} {n go : Nat} {w0 w : World} {f g : Nat → Value} {ps : Nat → Nat} {v : Value} {l : List Nat}
theorem FB.low (b:FB base q L n go w0 f g ps v l w) (hb:Below w.heap.size w w'):FB base q L n go w0 f g ps v l w':=
 have k:=Keeps.of hb (Nat.le_refl _) (fun _=>False)
 ⟨b.hH.keep k (fun x=>x),b.hO.keep k (fun x=>x),aj b.oo k (fun _ _ x=>x),aj b.li k (fun _ _ x=>x),b.kk.trans (Keeps.of hb (Nat.le_refl _) _),b.vv,Nat.le_trans b.bs hb.size⟩
theorem FB.setH (b:FB base q L n go w0 f g ps v l w) (k:Nat) (hk:k<18) (x:Value):FB base q L n go w0 (fun i=>if i=k then x else f i) g ps v l (w.setCell ⟨L.H,k,none⟩ x):=by
 have kk:Keeps w (w.setCell ⟨L.H,k,none⟩ x) (fun b=>b=L.H):=Keeps.setCell (S:=fun b=>b=L.H) (Keeps.refl w _) rfl x
 exact ⟨b.hH.set hk x,b.hO.keep kk (fun e=>b.hO.apart b.hH (by decide) e),aj b.oo kk (fun g hg e=>ak b.oo b.hH (by decide) (e ▸ hg)),aj b.li kk (fun g hg e=>ak b.li b.hH (by decide) (e ▸ hg)),b.kk.trans (kk.mono (fun c e=>.inr (.inl e))),b.vv,Nat.le_trans b.bs kk.size⟩
theorem FB.IX (b:FB base q L n go w0 f g ps v l w) (k:Nat) (hk:k<25) (x:Value):FB base q L n go w0 f (fun i=>if i=k then x else g i) ps v l (w.setCell ⟨L.ob n,k,none⟩ x):=by
 have kk:Keeps w (w.setCell ⟨L.ob n,k,none⟩ x) (fun b=>b=L.ob n):=Keeps.setCell (S:=fun b=>b=L.ob n) (Keeps.refl w _) rfl x
 exact ⟨b.hH.keep kk (fun e=>b.hH.apart b.hO (by decide) e),b.hO.set hk x,aj b.oo kk (fun g hg e=>ak b.oo b.hO (by decide) (e ▸ hg)),aj b.li kk (fun g hg e=>ak b.li b.hO (by decide) (e ▸ hg)),b.kk.trans (kk.mono (fun c e=>.inl e)),b.vv,Nat.le_trans b.bs kk.size⟩
theorem FB.I9 (b:FB base q L n go w0 f g ps v l w) (kk:Keeps w w1 (fun c=>v.ownBlock=some c)) (hl:w1.ownsRow base 3 1 v' l'.length (bU l')) (hv:∀ g,v'.ownBlock=some g->v.ownBlock=some g∨w.heap.size<=g) (h0:w0.heap.size<=w.heap.size):FB base q L n go w0 f g ps v' l' w1:=by
 have hlt:∀ c,v.ownBlock=some c->c<w.heap.size:=fun c e=>(au b.li e).lt
 refine ⟨b.hH.keep kk (fun e=>ak b.li b.hH (by decide) e),b.hO.keep kk (fun e=>ak b.li b.hO (by decide) e),aj b.oo kk (fun g hg e=>aV b.oo b.li (by decide) e hg),hl,⟨kk.os.trans b.kk.os,kk.tape.trans b.kk.tape,kk.output.trans b.kk.output,Nat.le_trans b.kk.size kk.size,fun c hc hn=>?_⟩,fun g e=>?_,Nat.le_trans b.bs kk.size⟩
 ·refine (kk.block c (Nat.lt_of_lt_of_le hc b.kk.size) (fun e=>?_)).trans (b.kk.block c hc hn)
  rcases b.vv c e with y|y
  ·exact hn (.inr (.inr (.inl y)))
  ·omega
 ·rcases hv g e with y|y
  ·exact b.vv g y
  ·exact .inr (Nat.le_trans h0 y)
theorem FB.I7 (b:FB base q L n go w0 f g ps v l w) (hoS:L.oS=.slice (some ⟨go,0,none⟩) q.objs.length capo) (hn:n<q.objs.length) (X:Nat):FB base q L n go w0 f g (fun m=>if m=n then X else ps m) v l (w.setCell ⟨go,n,none⟩ (.pointer (some ⟨X,0,none⟩))):=by
 have kk:Keeps w (w.setCell ⟨go,n,none⟩ (.pointer (some ⟨X,0,none⟩))) (fun b=>b=go):=Keeps.setCell (S:=fun b=>b=go) (Keeps.refl w _) rfl _
 have hgo:L.oS.ownBlock=some go:=by rw [hoS];simp [Value.ownBlock]
 have hr:=au b.oo hgo
 refine ⟨b.hH.keep kk (fun e=>b.hH.apart hr (by decide) e),b.hO.keep kk (fun e=>b.hO.apart hr (by decide) e),?_,aj b.li kk (fun g hg e=>ak b.li hr (by decide) (e ▸ hg)),b.kk.trans (kk.mono (fun c e=>.inr (.inr (.inr e)))),b.vv,Nat.le_trans b.bs kk.size⟩
 have h1:=b.oo
 rw [hoS] at h1 ⊢
 have h2:=aH h1 (i:=n) (by omega) (.pointer (some ⟨X,0,none⟩))
 have e:((List.range q.objs.length).map fun m=>Value.pointer (some ⟨ps m,0,none⟩)).set n (.pointer (some ⟨X,0,none⟩))=(List.range q.objs.length).map fun m=>Value.pointer (some ⟨if m=n then X else ps m,0,none⟩):=by
  refine List.ext_getElem? (fun i=>?_)
  rw [List.getElem?_set]
  by_cases c:n=i
  ·subst c
   rw [if_pos rfl,if_pos (by simp;omega)]
   simp [hn]
  ·rw [if_neg c]
   by_cases d:i<q.objs.length
   ·simp [d,Ne.symm c]
   ·simp [d]
 rw [e] at h2
 exact h2
end
end
end Go.Proofs.YtedpifhlffcmkaaGreatDoor
