import Derived.Test.YtbpcdfbmnklcjaaGreatDoorKHSH
namespace Go.Proofs.YtbpcdfbmnklcjaaGreatDoor
open Go Go.RowKit
set_option maxHeartbeats 6400000
set_option maxRecDepth 100000
set_option linter.unusedVariables false
section
variable {S:Nat->Prop} {base j:Nat} {w:World}
theorem Hp.Jr {h:Hp} (a:¬ (j<h.objs.length/\h.ob j=none)):h.skip j=j:=by rw [Hp.skip,dif_neg a]
theorem Hp.KU {h:Hp} (a:j<h.objs.length/\h.ob j=none):h.skip j=h.skip (j+1):=by rw [Hp.skip,dif_pos a]
theorem tO {h:Hp} {L:SM} (a:MW base S h L w) (M:h.objs.length<=5001) (hp:1<=h.objs.length) (K:h.G5<=10000):
 Calls Tryz.prog 90 #[.pointer (some ⟨L.H,0,none⟩)] w fun e w'=>e=.returned (.tuple #[])/\MW base S h.skipped L w'/\Keeps w w' S:=by
 have G:=ah a;clear a;go_enter Tryz.func90,Tryz.ntmps90;go_wp2
 go_loopg [] (h.objs.length-h.G5) (fun m wr=>∃ j:Nat,j<=10000/\Hq (m=h.objs.length-j/\h.skip j=h.skip h.G5/\MW base S { h with G5:=j } L wr/\Keeps w wr S))
 case atStart=>exact ⟨h.G5,K,rfl,rfl,G.o,Keeps.refl _ _⟩
 case round=>
  clear G;obtain ⟨j,N,HI⟩:=hrel;have d:=HI.out.2.2.1;obtain ⟨P,v,k,C,b⟩:=d.slot (show 1<=h.objs.length from hp);have R:wr.cell? ⟨L.H,0,none⟩=some (.slice (some ⟨P,0,none⟩) h.objs.length v):=by
   have:=d.hp.c 0;rw [this];exact congrArg some k
  have E:wr.cell? ⟨L.H,14,none⟩=some (.int .i64 (j:Int)):=d.hp.c 14;by_cases z:j<h.objs.length
  ·have B:=b j z
   obtain ⟨r,kd,c,md,ev,fn,g,u,f⟩:=d.any (n:=j) z;have D:wr.cell? ⟨L.ob j,2,none⟩=some (.bool (h.ob j).isNone):=g.c 2;have A:(j:Int)<(h.objs.length:Int):=by omega
   have t:decide ((j:Int)<(h.objs.length:Int))=true:=by simpa using A
   cases ho:h.ob j with
   |some o=>
    have s:(h.ob j).isNone=false:=by rw [ho];rfl
    rw [s] at D;have i:=ah (Hp.Jr (h:=h) (j:=j) (fun x=>by rw [ho] at x;cases x.2));have l:=ah (fun nq:Nat=>aC (aG wr.heap.size wr) nq);clear d k b g u f s ho;go_wp2_with fail;go_quiet (fail);go_wp2;go_end0;refine ⟨rfl,?_,HI.out.2.2.2.trans (Keeps.of (l.o _) (au _) S)⟩;have e:h.skipped={ h with G5:=j }:=by
     unfold Hp.skipped;rw [<-HI.out.2.1,i.o]
    rw [e];exact HI.out.2.2.1.low (l.o _)
   |none=>
    have s:(h.ob j).isNone=true:=by rw [ho];rfl
    rw [s] at D;have i:=ah (Hp.KU (h:=h) (j:=j) ⟨z,ho⟩);have l:=ah (fun nq:Nat=>aC (aG wr.heap.size wr) nq);clear d k b g u f s ho;go_wp2_with fail;go_quiet (fail);have p:=ah (HI.out.2.2.1.low (l.o nq));have F:=ah (HI.out.2.2.2.trans (Keeps.of (l.o nq) (au _) S));generalize wr.drewN nq=w2 at *;have Q:w2.cell? ⟨L.H,14,none⟩=some (.int .i64 (j:Int)):=p.o.hp.c 14;have J:=p.o.hp.Nq 14;have q:=p.o.num (h':={ h with G5:=j+1 }) 14 (.int .i64 ((j:Int)+1)) (by decide) rfl ⟨rfl,rfl,rfl,rfl,rfl,rfl,rfl⟩ rfl (bV _ rfl rfl rfl rfl rfl rfl rfl rfl rfl rfl rfl rfl rfl rfl rfl rfl rfl rfl);have y:=ah q;clear q R E B D;go_wp2
    go_roundg (h.objs.length-(j+1))
    case rel=>exact ⟨j+1,by omega,rfl,by rw [<-i.o];exact HI.out.2.1,y.o.1,F.o.trans y.o.2⟩
    case measure=>
     have:=HI.out.1;omega
  ·have t:decide ((j:Int)<(h.objs.length:Int))=false:=by
    simp;omega
   have i:=ah (Hp.Jr (h:=h) (j:=j) (fun x=>z x.1));have l:=ah (fun nq:Nat=>aC (aG wr.heap.size wr) nq);clear d k b;go_wp2_with fail;go_quiet (fail);go_wp2;go_end0;refine ⟨rfl,?_,HI.out.2.2.2.trans (Keeps.of (l.o _) (au _) S)⟩;have e:h.skipped={ h with G5:=j }:=by
    unfold Hp.skipped;rw [<-HI.out.2.1,i.o]
   rw [e];exact HI.out.2.2.1.low (l.o _)
theorem tJ (w:World) (b:Nat) (A:Option Addr) (n a:Nat) (c:n<=5000) (f:w.cell? ⟨b,0,none⟩=some (.int .i64 5)) (d:w.cell? ⟨b,5,none⟩=some (.slice A n a)):Calls Tryz.prog 58 #[.pointer (some ⟨b,0,none⟩)] w fun e w'=>e=.returned (.int .i64 ((40+40*n:Nat):Int))/\w'=w:=by
 go_enter Tryz.func58,Tryz.ntmps58;go_wp2;go_ret;exact ⟨by simp,rfl⟩
end
theorem MW.freed {base:Nat} {S:Nat->Prop} {h h':Hp} {L:SM} {w wF:World} (a:MW base S h L w) {n:Nat} {o:Ob} (ho:h.ob n=some o) {v':Value} {X go capo c:Nat} {rx:Nat->Value} (P:L.oS=.slice (some ⟨go,0,none⟩) h.objs.length capo)
 (kk:Keeps w wF (fun b=>b=L.ob n∨b=L.H∨(L.li 15).ownBlock=some b∨b=go)) (y:h'.objs=h.objs.set n none) (R:∀ k,eO k->k≠15->h_ h' k=h_ h k) (U:h'.freed=h.freed++[n]) (M:h'.roots=h.roots)
 (hH:aD wF 105 L.H 18 (uz h' { L with ob:=fun m=>if m=n then X else L.ob m,li:=fun j=>if j=15 then v' else L.li j }))
 (N:wF.ownsRow base 90 1 L.oS h.objs.length ((List.range h.objs.length).map fun m=>.pointer (some ⟨if m=n then X else L.ob m,0,none⟩)))
 (hX:aD wF 101 X 25 (kY rx 0 c true 0 (.slice none 0 0) false)) (hc:gu c=true) (W:w.heap.size<=X)
 (hl:wF.ownsRow base 3 1 v' (h.freed++[n]).length (dZ (h.freed++[n]))) (K:∀ g,v'.ownBlock=some g->(L.li 15).ownBlock=some g∨w.heap.size<=g):
 MW base S h' { L with ob:=fun m=>if m=n then X else L.ob m,li:=fun j=>if j=15 then v' else L.li j } wF/\Keeps w wF S:=by
 have l:eO 15:=by simp [eO]
 have hn:=Hp.Hy ho;obtain ⟨r0,A⟩:=a.ob n o ho;have i:h'.objs.length=h.objs.length:=by rw [y];simp
 have t:∀ m,h'.ob m=if n=m then none else h.ob m:=by
  intro m;have:=h.Kc n m;unfold Hp.ob at this ⊢;rw [y];exact this
 have C:L.oS.ownBlock=some go:=by rw [P];simp [Value.ownBlock]
 have p:=ay a.oo C;have hT:∀ {T s Z:Nat} {v:Value} {Y:List Value},w.ownsRow base T s v Z Y->T≠101->T≠105->T≠3->T≠90->∀ g,v.ownBlock=some g->¬ (g=L.ob n∨g=L.H∨(L.li 15).ownBlock=some g∨g=go):=by
  intro T s Z v Y F h2 h3 h4 h5 g E u;rcases u with u|u|u|u
  ·exact ak F A h2 (u ▸ E)
  ·exact ak F a.hp h3 (u ▸ E)
  ·exact aV F (a.li 15 l) h4 u E
  ·exact ak F p h5 (u ▸ E)
 have D:∀ m,m<h.objs.length->L.ob m<w.heap.size:=by
  intro m hm;cases e:h.ob m with
  |none=>obtain ⟨r,c,_,hr⟩:=a.dd m hm e;exact hr.lt
  |some o=>obtain ⟨r,hr⟩:=a.ob m o e;exact hr.lt
 have hO:∀ {m:Nat} {f:Nat->Value},m<h.objs.length->m≠n->aD w 101 (L.ob m) 25 f->aD wF 101 (L.ob m) 25 f:=by
  intro m f hm Q hr;refine hr.keep kk (fun x=>?_);rcases x with x|x|x|x
  ·exact Q (a.ij m n hm hn x)
  ·exact hr.apart a.hp (by decide) x
  ·exact ak (a.li 15 l) hr (by decide) x
  ·exact hr.apart p (by decide) x
 refine ⟨⟨hH,?_,fun m o' e=>?_,fun m hm e=>?_,fun m o' e=>?_,fun k hk=>?_,?_,fun m m' hm hm' e=>?_,fun m m' o1 o2 g e1 e2=>?_,fun k k' g hk hk' e e'=>?_,a.bH,fun m hm=>?_,aI a.bs kk.size,a.sH,fun m hm=>?_,a.sO,fun m o' g e=>?_,fun k g hk e=>?_,a.sr,fun b hb=>a.up b (aI kk.size hb)⟩,kk.mono (fun b e=>?_)⟩
 ·rw [i];exact N
 ·rw [t] at e
  split at e
  ·cases e
  ·rename_i d
   obtain ⟨r,hr⟩:=a.ob m o' e;simp only [if_neg (Ne.symm d)];exact ⟨r,hO (Hp.Hy e) (Ne.symm d) hr⟩
 ·rw [i] at hm
  by_cases d:m=n
  ·simp only [if_pos d]
   exact ⟨rx,c,hc,hX⟩
  ·rw [t,if_neg (Ne.symm d)] at e
   obtain ⟨r,z,V,hr⟩:=a.dd m hm e;simp only [if_neg d];exact ⟨r,z,V,hO hm d hr⟩
 ·rw [t] at e
  split at e
  ·cases e
  ·exact aj (a.en m o' e) kk (hT (a.en m o' e) (by decide) (by decide) (by decide) (by decide))
 ·by_cases d:k=15
  ·subst d
   rw [show h_ h' 15=h.freed++[n] from U];simp only [if_true];exact hl
  ·rw [R k hk d]
   simp only [if_neg d];refine aj (a.li k hk) kk (fun g hg x=>?_);rcases x with x|x|x|x
   ·exact ak (a.li k hk) A (by decide) (x ▸ hg)
   ·exact ak (a.li k hk) a.hp (by decide) (x ▸ hg)
   ·exact d (a.lj k 15 g hk l hg x)
   ·exact ak (a.li k hk) p (by decide) (x ▸ hg)
 ·rw [M];exact aj a.ro kk (hT a.ro (by decide) (by decide) (by decide) (by decide))
 ·rw [i] at hm hm'
  have b1:=D m hm;have b2:=D m' hm';by_cases J:m=n<;>by_cases G:m'=n
  ·rw [J,G]
  ·simp only [J,G,if_true,if_false] at e;omega
  ·simp only [J,G,if_true,if_false] at e;omega
  ·simp only [J,G,if_false] at e
   exact a.ij m m' hm hm' e
 ·rw [t] at e1 e2
  split at e1
  ·cases e1
  ·split at e2
   ·cases e2
   ·exact a.ei m m' o1 o2 g e1 e2
 ·have B:∀ q,eO q->(L.li q).ownBlock=some g->g<w.heap.size:=fun q hq e=>(ay (a.li q hq) e).lt
  by_cases c:k=15<;>by_cases z:k'=15
  ·rw [c,z]
  ·simp only [c,z,if_true,if_false] at e e'
   rcases K g e with x|x
   ·rw [c];exact a.lj 15 k' g l hk' x e'
   ·have:=B k' hk' e';omega
  ·simp only [c,z,if_true,if_false] at e e'
   rcases K g e' with x|x
   ·rw [z];exact a.lj k 15 g hk l e x
   ·have:=B k hk e;omega
  ·simp only [c,z,if_false] at e e'
   exact a.lj k k' g hk hk' e e'
 ·rw [i] at hm
  have b0:=a.bs;by_cases d:m=n
  ·simp only [if_pos d];omega
  ·simp only [if_neg d];exact a.bo m hm
 ·rw [i] at hm
  by_cases d:m=n
  ·simp only [if_pos d];exact a.up X W
  ·simp only [if_neg d];exact a.so m hm
 ·rw [t] at e
  split at e
  ·cases e
  ·exact a.se m o' g e
 ·by_cases d:k=15
  ·simp only [d,if_true] at e
   rcases K g e with x|x
   ·exact a.sl 15 g l x
   ·exact a.up g x
  ·simp only [d,if_false] at e
   exact a.sl k g hk e
 ·rcases e with e|e|e|e
  ·exact e ▸ a.so n hn
  ·exact e ▸ a.sH
  ·exact a.sl 15 b l e
  ·exact e ▸ a.sO go C
section
variable {K:Act->World->Prop} {Q:Exit->Act->World->Prop} {a:Act} {capo:Nat} {l':List Nat} {v':Value} {w' w1 wr:World}
theorem kV {o:Oper} (s x:Operand)
 (ho:o.op=.call { callee:=.builtin .append,args:=#[s,x],argTypes:=#[30,30] })
 (base:Nat) (v:Value) (l:List Nat) (n:Nat) (hown:wr.ownsRow base 3 1 v l.length (dZ l)) (G:a.eval s=v) (hx:a.eval x=.slice (some ⟨wr.heap.size,0,none⟩) 1 1) (E:l.length<=1000000) (C:base<=wr.heap.size)
 (h:∀ v' w',w'.ownsRow base 3 1 v' (l++[n]).length (dZ (l++[n]))->Keeps wr w' (fun b=>v.ownBlock=some b)->(∀ g,v'.ownBlock=some g->v.ownBlock=some g∨wr.heap.size<=g)->K (a.put o.dst v') w'):
 Oper.wp Tryz.prog o a (wr.alloc (.cells #[.int .i64 (n:Int)] 3)).drew K Q:=by
 obtain ⟨D,hi,r,p,m⟩:=info_parts iX;have i:(wr.alloc (.cells #[.int .i64 (n:Int)] 3)).drew.ownsRow base 3 1 v l.length (dZ l):=aj hown (Keeps.of ((aU wr (.cells #[.int .i64 (n:Int)] 3)).drew) (au _) (fun _=>False)) (fun _ _ x=>x);have t:aD (wr.alloc (.cells #[.int .i64 (n:Int)] 3)).drew 3 wr.heap.size 1 (fun j=>(#[Value.int .i64 (n:Int)]:Array Value).getD j (.bool false)):=aD.mk' wr 3 #[.int .i64 (n:Int)];have k:∀ j u,[Value.int .i64 (n:Int)][j]?=some u->(wr.alloc (.cells #[.int .i64 (n:Int)] 3)).drew.cell? ((⟨wr.heap.size,0,none⟩:Addr).add j)=some u:=by
  intro j u B;have A:j=0:=by
   have:=(aJ.1 B).1
   simpa using this
  subst A;simp at B;subst B;rw [bL];exact t.c 0
 have F:∀ u∈[Value.int .i64 (n:Int)],u.oneCell'=true:=fun u hu=>by simp at hu;subst hu;rfl
 obtain ⟨v',w',hr,J,z,M⟩:=run_append_own (P:=Tryz.prog) (wr.alloc (.cells #[.int .i64 (n:Int)] 3)).drew base 30 o.type 3 D (.int .i64 0) 1 8 Tryz.underlying30 hi r p m rfl (by decide) v l.length (dZ l) i ⟨wr.heap.size,0,none⟩ 1 1 [.int .i64 (n:Int)] rfl k F (by unfold maxLen;omega) (by omega) (by simp;omega);have H:=fG (wr.alloc (.cells #[.int .i64 (n:Int)] 3)).drew base 30 o.type 3 D (.int .i64 0) 1 8 Tryz.underlying30 hi r p m rfl (by decide) v l.length (dZ l) i ⟨wr.heap.size,0,none⟩ 1 1 [.int .i64 (n:Int)] rfl k F (by unfold maxLen;omega) (by omega) (by decide) hr;have d:Below wr.heap.size wr (wr.alloc (.cells #[.int .i64 (n:Int)] 3)).drew:=(aU wr _).drew;unfold Oper.wp execOp;simp only [ho,resolve,invoke,builtin,Sem.run_bind,Sem.run_pure,Result.andThen_ok,List.map_toArray,List.map_cons,List.map_nil,G,hx,hr];refine h v' w' (by simpa [dZ] using J) ?_ (fun g e=>?_)
 ·refine ⟨z.os.trans d.os,z.tape.trans d.tape,z.output.trans d.output,aI d.size z.size,fun b hb hn=>?_⟩
  exact (z.block b (aX hb d.size) (fun e=>hn e.symm)).trans (d.block b hb)
 ·rcases H g e with y|y
  ·exact .inl y
  ·right
   have:=d.size;omega
structure FB (base:Nat) (q:Hp) (L:SM) (n go:Nat) (w0:World) (f g:Nat->Value) (ps:Nat->Nat) (v:Value) (l:List Nat) (w:World):Prop where
 hH:aD w 105 L.H 18 f
 hO:aD w 101 (L.ob n) 25 g
 oo:w.ownsRow base 90 1 L.oS q.objs.length ((List.range q.objs.length).map fun m=>.pointer (some ⟨ps m,0,none⟩))
 li:w.ownsRow base 3 1 v l.length (dZ l)
 kk:Keeps w0 w (fun b=>b=L.ob n∨b=L.H∨(L.li 15).ownBlock=some b∨b=go)
 vv:∀ g,v.ownBlock=some g->(L.li 15).ownBlock=some g∨w0.heap.size<=g
 bs:base<=w.heap.size
section
variable {base : Nat} {q : Hp} {L : SM} {n go : Nat} {w0 w : World} {f g : Nat → Value} {ps : Nat → Nat} {v : Value} {l : List Nat}
theorem FB.low (b:FB base q L n go w0 f g ps v l w) (hb:Below w.heap.size w w'):FB base q L n go w0 f g ps v l w':=
 have k:=Keeps.of hb (au _) (fun _=>False)
 ⟨b.hH.keep k (fun x=>x),b.hO.keep k (fun x=>x),aj b.oo k (fun _ _ x=>x),aj b.li k (fun _ _ x=>x),b.kk.trans (Keeps.of hb (au _) _),b.vv,aI b.bs hb.size⟩
theorem FB.setH (b:FB base q L n go w0 f g ps v l w) (k:Nat) (hk:k<18) (x:Value):FB base q L n go w0 (fun i=>if i=k then x else f i) g ps v l (w.setCell ⟨L.H,k,none⟩ x):=by
 have kk:Keeps w (w.setCell ⟨L.H,k,none⟩ x) (fun b=>b=L.H):=Keeps.setCell (S:=fun b=>b=L.H) (Keeps.refl w _) rfl x;exact ⟨b.hH.set hk x,b.hO.keep kk (fun e=>b.hO.apart b.hH (by decide) e),aj b.oo kk (fun g hg e=>ak b.oo b.hH (by decide) (e ▸ hg)),aj b.li kk (fun g hg e=>ak b.li b.hH (by decide) (e ▸ hg)),b.kk.trans (kk.mono (fun c e=>.inr (.inl e))),b.vv,aI b.bs kk.size⟩
theorem FB.LH (b:FB base q L n go w0 f g ps v l w) (k:Nat) (hk:k<25) (x:Value):FB base q L n go w0 f (fun i=>if i=k then x else g i) ps v l (w.setCell ⟨L.ob n,k,none⟩ x):=by
 have kk:Keeps w (w.setCell ⟨L.ob n,k,none⟩ x) (fun b=>b=L.ob n):=Keeps.setCell (S:=fun b=>b=L.ob n) (Keeps.refl w _) rfl x;exact ⟨b.hH.keep kk (fun e=>b.hH.apart b.hO (by decide) e),b.hO.set hk x,aj b.oo kk (fun g hg e=>ak b.oo b.hO (by decide) (e ▸ hg)),aj b.li kk (fun g hg e=>ak b.li b.hO (by decide) (e ▸ hg)),b.kk.trans (kk.mono (fun c e=>.inl e)),b.vv,aI b.bs kk.size⟩
theorem FB.Mc (b:FB base q L n go w0 f g ps v l w) (kk:Keeps w w1 (fun c=>v.ownBlock=some c)) (i:w1.ownsRow base 3 1 v' l'.length (dZ l')) (d:∀ g,v'.ownBlock=some g->v.ownBlock=some g∨w.heap.size<=g) (j:w0.heap.size<=w.heap.size):FB base q L n go w0 f g ps v' l' w1:=by
 have h:∀ c,v.ownBlock=some c->c<w.heap.size:=fun c e=>(ay b.li e).lt;refine ⟨b.hH.keep kk (fun e=>ak b.li b.hH (by decide) e),b.hO.keep kk (fun e=>ak b.li b.hO (by decide) e),aj b.oo kk (fun g hg e=>aV b.oo b.li (by decide) e hg),i,⟨kk.os.trans b.kk.os,kk.tape.trans b.kk.tape,kk.output.trans b.kk.output,aI b.kk.size kk.size,fun c hc hn=>?_⟩,fun g e=>?_,aI b.bs kk.size⟩
 ·refine (kk.block c (aX hc b.kk.size) (fun e=>?_)).trans (b.kk.block c hc hn)
  rcases b.vv c e with y|y
  ·exact hn (.inr (.inr (.inl y)))
  ·omega
 ·rcases d g e with y|y
  ·exact b.vv g y
  ·exact .inr (aI j y)
theorem FB.L_ (b:FB base q L n go w0 f g ps v l w) (h:L.oS=.slice (some ⟨go,0,none⟩) q.objs.length capo) (p:n<q.objs.length) (X:Nat):FB base q L n go w0 f g (fun m=>if m=n then X else ps m) v l (w.setCell ⟨go,n,none⟩ (.pointer (some ⟨X,0,none⟩))):=by
 have kk:Keeps w (w.setCell ⟨go,n,none⟩ (.pointer (some ⟨X,0,none⟩))) (fun b=>b=go):=Keeps.setCell (S:=fun b=>b=go) (Keeps.refl w _) rfl _;have j:L.oS.ownBlock=some go:=by rw [h];simp [Value.ownBlock]
 have hr:=ay b.oo j;refine ⟨b.hH.keep kk (fun e=>b.hH.apart hr (by decide) e),b.hO.keep kk (fun e=>b.hO.apart hr (by decide) e),?_,aj b.li kk (fun g hg e=>ak b.li hr (by decide) (e ▸ hg)),b.kk.trans (kk.mono (fun c e=>.inr (.inr (.inr e)))),b.vv,aI b.bs kk.size⟩;have o:=b.oo;rw [h] at o ⊢;have k:=aL o (i:=n) (by omega) (.pointer (some ⟨X,0,none⟩));have e:((List.range q.objs.length).map fun m=>Value.pointer (some ⟨ps m,0,none⟩)).set n (.pointer (some ⟨X,0,none⟩))=(List.range q.objs.length).map fun m=>Value.pointer (some ⟨if m=n then X else ps m,0,none⟩):=by
  refine List.ext_getElem? (fun i=>?_);rw [bY];by_cases c:n=i
  ·subst c
   rw [if_pos rfl,if_pos (by simp;omega)];simp [p]
  ·rw [if_neg c]
   by_cases d:i<q.objs.length
   ·simp [d,Ne.symm c]
   ·simp [d]
 rw [e] at k;exact k
end
end
end Go.Proofs.YtbpcdfbmnklcjaaGreatDoor
