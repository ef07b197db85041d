import Derived.Test.YtedpifhlffcmkaaGreatDoorKIJ
import Derived.BigRegion
import Derived.Deep.RegionHeld3
import Derived.Test.YtedpifhlffcmkaaGreatDoorKIP0
namespace Go.Proofs.YtedpifhlffcmkaaGreatDoor
open Go Go.RowKit
set_option maxHeartbeats 6400000
set_option maxRecDepth 100000
set_option linter.unusedVariables false
section
variable {cv:Nat->Value} {n:Nat} {v:Value} {w:World}
structure Hg (w:World) (v:Value) (n:Nat) (x:Nat->An) (cv:Nat->Value):Prop where
 l:(n=0/\∃ a cap,v=.slice a 0 cap)∨∃ b cap,v=.slice (some ⟨b,0,none⟩) n cap/\b<w.heap.size/\n<=cap/\∀ i,i<n->w.cell? ⟨b,i*7,none⟩=some (.int .i64 (x i).code)/\w.cell? ⟨b,i*7+1,none⟩=some (.int .i64 (x i).id)/\w.cell? ⟨b,i*7+2,none⟩=some (.int .i64 (x i).live)/\w.cell? ⟨b,i*7+3,none⟩=some (.int .i64 (x i).bytes)/\w.cell? ⟨b,i*7+4,none⟩=some (.int .i64 (x i).state)/\w.cell? ⟨b,i*7+5,none⟩=some (.int .i64 (x i).pend)/\w.cell? ⟨b,i*7+6,none⟩=some (cv i)
 c:∀ i,i<n->iy w (cv i) (x i).freed.length (fun j=>(((x i).freed.getD j 0:Nat):Int))
theorem Hg.val {x:Nat->An} (h:Hg w v n x cv):∃ a cap,v=.slice a n cap:=by
 rcases h.l with ⟨rfl,a,cap,rfl⟩|⟨b,cap,rfl,_⟩
 ·exact ⟨a,cap,rfl⟩
 ·exact ⟨_,cap,rfl⟩
theorem Hg.low {w w':World} {v:Value} {n:Nat} {x:Nat->An} {cv:Nat->Value} (h:Hg w v n x cv) (hb:Below w.heap.size w w'):Hg w' v n x cv:=by
 refine ⟨?_,fun i hi=>(h.c i hi).low hb (Nat.le_refl _)⟩
 rcases h.l with h|⟨b,cap,rfl,hbB,hcap,hc⟩
 ·exact .inl h
 ·exact .inr ⟨b,cap,rfl,Nat.lt_of_lt_of_le hbB hb.size,hcap,fun i hi=>⟨(hb.cell (p:=⟨b,i*7,none⟩) hbB).trans (hc i hi).1,(hb.cell (p:=⟨b,i*7+1,none⟩) hbB).trans (hc i hi).2.1,(hb.cell (p:=⟨b,i*7+2,none⟩) hbB).trans (hc i hi).2.2.1,(hb.cell (p:=⟨b,i*7+3,none⟩) hbB).trans (hc i hi).2.2.2.1,(hb.cell (p:=⟨b,i*7+4,none⟩) hbB).trans (hc i hi).2.2.2.2.1,(hb.cell (p:=⟨b,i*7+5,none⟩) hbB).trans (hc i hi).2.2.2.2.2.1,(hb.cell (p:=⟨b,i*7+6,none⟩) hbB).trans (hc i hi).2.2.2.2.2.2⟩⟩
theorem vL (c0 c1 c2 c3 c4 c5:Int) (v v':Value) (n:Nat) (x0:Nat->Int) (w:World) (hn:n<=1048576) (h:iy w v n x0) (h':iy w v' n x0):
 Calls Tryz.prog 37 #[.agg #[.int .i64 c0,.int .i64 c1,.int .i64 c2,.int .i64 c3,.int .i64 c4,.int .i64 c5,v],.agg #[.int .i64 c0,.int .i64 c1,.int .i64 c2,.int .i64 c3,.int .i64 c4,.int .i64 c5,v']] w fun e w'=>e=.returned (.bool true)/\Below w.heap.size w w':=by
 obtain ⟨a,cap,rfl⟩:=h.val
 obtain ⟨a',cap',rfl⟩:=h'.val
 have HB:=ah (zO w (.cells #[.int .i64 c0,.int .i64 c1,.int .i64 c2,.int .i64 c3,.int .i64 c4,.int .i64 c5,.slice a n cap] 36) (.cells #[.int .i64 c0,.int .i64 c1,.int .i64 c2,.int .i64 c3,.int .i64 c4,.int .i64 c5,.slice a' n cap'] 36))
 have H1:=ah (And.intro (h.low HB.o (Nat.le_refl _)) (h'.low HB.o (Nat.le_refl _)))
 clear h h'
 go_enter Tryz.func37,Tryz.ntmps37
 go_wp2_with fail
 refine (rM _ _ n x0 _ hn H1.o.1 H1.o.2).mono ?_
 rintro e w1 ⟨rfl,hb1⟩
 have HB1:=ah (HB.o.trans (hb1.mono HB.o.size))
 clear hb1
 go_wp2_with fail
 go_ret
 exact ⟨rfl,HB1.o⟩
theorem rR (v v':Value) (n:Nat) (x:Nat->An) (cv cv':Nat->Value) (w:World) (hn:n<=1048576) (hf:∀ i,i<n->(x i).freed.length<=10000) (h:Hg w v n x cv) (h':Hg w v' n x cv'):
 Calls Tryz.prog 29 #[v,v'] w fun e w'=>e=.returned (.bool true)/\Below w.heap.size w w':=by
 by_cases h0:n=0
 ·subst h0
  obtain ⟨a,cap,rfl⟩:=h.val
  obtain ⟨a',cap',rfl⟩:=h'.val
  clear h h' hf
  go_enter Tryz.func29,Tryz.ntmps29
  go_wp2
  go_loopw [5] (fun iv wr=>iv=.int .i64 0/\wr=w) (fun _ _=>0)
  case atStart=>exact ⟨rfl,rfl⟩
  case round=>
   obtain ⟨rfl,rfl⟩:=hrel
   go_wp2
   go_ret
   exact ⟨rfl,Below.refl _ _⟩
 ·have HCP:=ah (And.intro h.c h'.c)
  have HFF:=ah hf
  rcases h.l with ⟨h9,_⟩|⟨b,cap,rfl,hb,hcap,hc⟩
  ·exact absurd h9 h0
  rcases h'.l with ⟨h9,_⟩|⟨b',cap',rfl,hb',hcap',hc'⟩
  ·exact absurd h9 h0
  have HC:=ah hc
  have HC':=ah hc'
  clear hc hc' h h' hf
  go_enter Tryz.func29,Tryz.ntmps29
  go_wp2
  go_loopw [5] (fun iv wr=>∃ i:Nat,i<=n/\iv=.int .i64 i/\Below w.heap.size w wr) (fun iv _=>match iv with | .int _ x=>n-x.toNat|_=>0)
  case atStart=>exact ⟨0,by omega,rfl,Below.refl _ _⟩
  case round=>
   obtain ⟨i,hi9,rfl,hbw⟩:=hrel
   by_cases hin:i<n
   ·skip
    have c0:=(hbw.cell (p:=⟨b,i*7,none⟩) (by assumption)).trans (HC.o i hin).1
    have e0:=(hbw.cell (p:=⟨b',i*7,none⟩) (by assumption)).trans (HC'.o i hin).1
    have c1:=(hbw.cell (p:=⟨b,i*7+1,none⟩) (by assumption)).trans (HC.o i hin).2.1
    have e1:=(hbw.cell (p:=⟨b',i*7+1,none⟩) (by assumption)).trans (HC'.o i hin).2.1
    have c2:=(hbw.cell (p:=⟨b,i*7+2,none⟩) (by assumption)).trans (HC.o i hin).2.2.1
    have e2:=(hbw.cell (p:=⟨b',i*7+2,none⟩) (by assumption)).trans (HC'.o i hin).2.2.1
    have c3:=(hbw.cell (p:=⟨b,i*7+3,none⟩) (by assumption)).trans (HC.o i hin).2.2.2.1
    have e3:=(hbw.cell (p:=⟨b',i*7+3,none⟩) (by assumption)).trans (HC'.o i hin).2.2.2.1
    have c4:=(hbw.cell (p:=⟨b,i*7+4,none⟩) (by assumption)).trans (HC.o i hin).2.2.2.2.1
    have e4:=(hbw.cell (p:=⟨b',i*7+4,none⟩) (by assumption)).trans (HC'.o i hin).2.2.2.2.1
    have c5:=(hbw.cell (p:=⟨b,i*7+5,none⟩) (by assumption)).trans (HC.o i hin).2.2.2.2.2.1
    have e5:=(hbw.cell (p:=⟨b',i*7+5,none⟩) (by assumption)).trans (HC'.o i hin).2.2.2.2.2.1
    have c6:=(hbw.cell (p:=⟨b,i*7+6,none⟩) (by assumption)).trans (HC.o i hin).2.2.2.2.2.2
    have e6:=(hbw.cell (p:=⟨b',i*7+6,none⟩) (by assumption)).trans (HC'.o i hin).2.2.2.2.2.2
    have hlb:b<wr.heap.size:=Nat.lt_of_lt_of_le hb hbw.size
    have hlb':b'<wr.heap.size:=Nat.lt_of_lt_of_le hb' hbw.size
    have hC1:=(HCP.o.1 i hin).low hbw.drew (Nat.le_refl _)
    have hC2:=(HCP.o.2 i hin).low hbw.drew (Nat.le_refl _)
    obtain ⟨ac,kc,hcv⟩:=hC1.val
    obtain ⟨ac',kc',hcv'⟩:=hC2.val
    rw [hcv] at c6 hC1
    rw [hcv'] at e6 hC2
    have HC12:=ah (And.intro hC1 hC2)
    have HFI:=ah (HFF.o i hin)
    have HB:=ah hbw
    clear hbw hC1 hC2 hcv hcv'
    generalize (x i).code=y0 at *
    generalize (x i).id=y1 at *
    generalize (x i).live=y2 at *
    generalize (x i).bytes=y3 at *
    generalize (x i).state=y4 at *
    generalize (x i).pend=y5 at *
    generalize (x i).freed=yf at *
    go_wp2_with fail
    go_region_held3 (fun w9=>(w9.cell? ⟨b,i*7,none⟩=some (.int .i64 y0)/\w9.cell? ⟨b,i*7+1,none⟩=some (.int .i64 y1)/\w9.cell? ⟨b,i*7+2,none⟩=some (.int .i64 y2)/\w9.cell? ⟨b,i*7+3,none⟩=some (.int .i64 y3)/\w9.cell? ⟨b,i*7+4,none⟩=some (.int .i64 y4)/\w9.cell? ⟨b,i*7+5,none⟩=some (.int .i64 y5)/\w9.cell? ⟨b,i*7+6,none⟩=some (.slice ac yf.length kc))/\w9.cell? ⟨b',i*7,none⟩=some (.int .i64 y0)/\w9.cell? ⟨b',i*7+1,none⟩=some (.int .i64 y1)/\w9.cell? ⟨b',i*7+2,none⟩=some (.int .i64 y2)/\w9.cell? ⟨b',i*7+3,none⟩=some (.int .i64 y3)/\w9.cell? ⟨b',i*7+4,none⟩=some (.int .i64 y4)/\w9.cell? ⟨b',i*7+5,none⟩=some (.int .i64 y5)/\w9.cell? ⟨b',i*7+6,none⟩=some (.slice ac' yf.length kc')) (go_keep)
     (first |(go_at_call 37;refine (vL y0 y1 y2 y3 y4 y5 (.slice ac yf.length kc) (.slice ac' yf.length kc') yf.length _ _ (Nat.le_trans HFI.o (by omega)) HC12.o.1 HC12.o.2).mono ?_;rintro e w2 ⟨rfl,hb2⟩;have q0:=(hb2.cell (p:=⟨b,i*7,none⟩) hlb).trans c0;have r0:=(hb2.cell (p:=⟨b',i*7,none⟩) hlb').trans e0;have q1:=(hb2.cell (p:=⟨b,i*7+1,none⟩) hlb).trans c1;have r1:=(hb2.cell (p:=⟨b',i*7+1,none⟩) hlb').trans e1;have q2:=(hb2.cell (p:=⟨b,i*7+2,none⟩) hlb).trans c2;have r2:=(hb2.cell (p:=⟨b',i*7+2,none⟩) hlb').trans e2;have q3:=(hb2.cell (p:=⟨b,i*7+3,none⟩) hlb).trans c3;have r3:=(hb2.cell (p:=⟨b',i*7+3,none⟩) hlb').trans e3;have q4:=(hb2.cell (p:=⟨b,i*7+4,none⟩) hlb).trans c4;have r4:=(hb2.cell (p:=⟨b',i*7+4,none⟩) hlb').trans e4;have q5:=(hb2.cell (p:=⟨b,i*7+5,none⟩) hlb).trans c5;have r5:=(hb2.cell (p:=⟨b',i*7+5,none⟩) hlb').trans e5;have q6:=(hb2.cell (p:=⟨b,i*7+6,none⟩) hlb).trans c6;have r6:=(hb2.cell (p:=⟨b',i*7+6,none⟩) hlb').trans e6;have HB2:=ah hb2;clear hb2))
    have HB3:=ah (HB.o.drew.trans (HB2.o.mono HB.o.size))
    rename_i hh
    clear hh c0 e0 q0 r0 c1 e1 q1 r1 c2 e2 q2 r2 c3 e3 q3 r3 c4 e4 q4 r4 c5 e5 q5 r5 c6 e6 q6 r6
    go_wp2
    go_roundw
    case rel=>exact ⟨i+1,by omega,by simp,HB3.o⟩
    case measure=>simp;omega
   ·obtain rfl:i=n:=by omega
    go_wp2
    go_ret
    exact ⟨rfl,hbw⟩
end
section
variable {B M i n:Nat} {S:Nat->Prop} {al:List An} {av v v':Value} {cv cv':Nat->Value} {fs:List Value} {w w':World}
def xA (al:List An) (i:Nat):An:=al.getD i (An.no 0)
def qE (fs:List Value) (i:Nat):Value:=fs.getD i (.slice none 0 0)
theorem yB:∀ (al:List An) (fs:List Value) (i j:Nat),fs.length=al.length->i<al.length->j<7->(qg al fs)[i*7+j]?=(kI (xA al i) (qE fs i))[j]?
 | [],fs,i,j,_,h,_=>by simp at h
 |a::al,[],i,j,h,_,_=>by simp at h
 |a::al,f::fs,0,j,h,_,hj=>by
  show (kI a f++qg al fs)[0*7+j]?=(kI a f)[j]?
  rw [Nat.zero_mul,Nat.zero_add,List.getElem?_append_left (show j<(kI a f).length from hj)]
 |a::al,f::fs,i+1,j,h,hi,hj=>by
  have ih:=yB al fs i j (by simpa using h) (by simpa using hi) hj
  show (kI a f++qg al fs)[(i+1)*7+j]?=_
  rw [List.getElem?_append_right (show (kI a f).length<=_ by show 7<=_;omega),show (i+1)*7+j-(kI a f).length=i*7+j by show (i+1)*7+j-7=_;omega,ih]
  rfl
theorem zM {l:List Nat} (h:w.ownsRow B 3 1 v l.length (bU l)):iy w v l.length (fun j=>((l.getD j 0:Nat):Int)):=by
 have h0:=h
 obtain ⟨h1,⟨rfl,h3⟩|⟨g,cap,cur,rfl,hb,hg,hnc,hr⟩⟩:=h0
 ·exact .inl ⟨h3,none,0,rfl⟩
 ·refine .inr ⟨g,0,cap,rfl,(h.lt g rfl).2,hnc,fun i hi=>?_⟩
  have hj:(bU l)[i]?=some (.int .i64 ((l.getD i 0:Nat):Int)):=by
   unfold bU
   rw [List.getElem?_map,List.getElem?_eq_getElem hi,List.getD_eq_getElem?_getD,List.getElem?_eq_getElem hi]
   rfl
  have:=h.cells (g:=g) rfl i _ hj
  rw [aY] at this
  exact this
structure GI (w:World) (B:Nat) (av:Value) (al:List An) (fs:List Value):Prop where
 l:w.ownsRow B 36 7 av al.length (qg al fs)
 fl:fs.length=al.length
 f:∀ (i:Nat) (b:An) (f:Value),al[i]?=some b->fs[i]?=some f->w.ownsRow B 3 1 f b.freed.length (bU b.freed)
theorem GI.keep (h:GI w B av al fs) (k:Keeps w w' S) (hS:∀ b,S b->b<B∨w.heap.size<=b):GI w' B av al fs:=by
 have key:∀ {T s n v xs},w.ownsRow B T s v n xs->w'.ownsRow B T s v n xs:=fun h9=>aj h9 k (fun g hg e=>by
  have:=h9.lt g hg
  rcases hS g e with c|c<;>omega)
 exact ⟨key h.l,h.fl,fun i b f h1 h2=>key (h.f i b f h1 h2)⟩
theorem GI.sub (h:GI w B av al fs) (hi:i<al.length):w.ownsRow B 3 1 (qE fs i) (xA al i).freed.length (bU (xA al i).freed):=by
 have h1:al[i]?=some (xA al i):=by unfold xA;rw [List.getD_eq_getElem?_getD,List.getElem?_eq_getElem hi];rfl
 have h2:fs[i]?=some (qE fs i):=by unfold qE;rw [List.getD_eq_getElem?_getD,List.getElem?_eq_getElem (by rw [h.fl];exact hi)];rfl
 exact h.f i _ _ h1 h2
theorem GI.cell {w:World} {B g cap:Nat} {al:List An} {fs:List Value} (h:GI w B (.slice (some ⟨g,0,none⟩) al.length cap) al fs) {i:Nat} (hi:i<al.length) (j:Nat) (hj:j<7) {u:Value} (hu:(kI (xA al i) (qE fs i))[j]?=some u):w.cell? ⟨g,i*7+j,none⟩=some u:=by
 have:=h.l.cells (g:=g) rfl (i*7+j) u (by rw [yB al fs i j h.fl hi hj];exact hu)
 rwa [aY,Nat.zero_add] at this
theorem GI.ans (h:GI w B av al fs):Hg w av al.length (xA al) (qE fs):=by
 refine ⟨?_,fun i hi=>zM (h.sub hi)⟩
 have h0:=h.l
 obtain ⟨h1,⟨rfl,h3⟩|⟨g,cap,cur,rfl,hb,hg,hnc,hr⟩⟩:=h0
 ·exact .inl ⟨h3,none,0,rfl⟩
 ·exact .inr ⟨g,cap,rfl,(h.l.lt g rfl).2,hnc,fun i hi=>⟨h.cell hi 0 (by omega) rfl,h.cell hi 1 (by omega) rfl,h.cell hi 2 (by omega) rfl,h.cell hi 3 (by omega) rfl,h.cell hi 4 (by omega) rfl,h.cell hi 5 (by omega) rfl,h.cell hi 6 (by omega) rfl⟩⟩
def uy (al:List An) (i:Nat):Nat:=(xA al i).freed.length
def Am (w:World) (v:Value) (al:List An) (fs:List Value):Prop:=(v=.slice none 0 0/\al.length=0)∨∃ g cap f,v=.slice (some ⟨g,0,none⟩) al.length cap/\al.length<=cap/\Jw w g al.length 1 (uy al) f (qE fs) al.length
theorem Jw.low {w w':World} {g n k:Nat} {fl:Nat->Nat} {f cv:Nat->Value} {i:Nat} (h:Jw w g n k fl f cv i) (hb:Below w.heap.size w w'):Jw w' g n k fl f cv i:=
 ⟨h.l.low hb h.l.lt,fun q hq=>(h.m q hq).low hb (Nat.le_refl _),fun q hq hq'=>by obtain ⟨f9,h9⟩:=h.u q hq hq';exact ⟨f9,h9.low hb (Nat.le_refl _)⟩⟩
theorem Am.low {w w':World} {v:Value} {al:List An} {fs:List Value} (h:Am w v al fs) (hb:Below w.heap.size w w'):Am w' v al fs:=by
 rcases h with h|⟨g,cap,f,h1,h2,h3⟩
 ·exact .inl h
 ·exact .inr ⟨g,cap,f,h1,h2,h3.low hb⟩
theorem Am.val (h:Am w v al fs):∃ a cap,v=.slice a al.length cap:=by
 rcases h with ⟨rfl,h⟩|⟨g,cap,f,rfl,_⟩
 ·exact ⟨none,0,by rw [h]⟩
 ·exact ⟨_,_,rfl⟩
theorem CF (h:fs.Pairwise (fun a b=>∀ g,a.ownBlock=some g->b.ownBlock≠some g)):∀ p q,p<fs.length->q<fs.length->p≠q->∀ b,(qE fs p).ownBlock=some b->(qE fs q).ownBlock≠some b:=by
 have key:∀ p q,p<q->q<fs.length->∀ b,(qE fs p).ownBlock=some b->(qE fs q).ownBlock≠some b:=fun p q hpq hq b h1 h2=>by
  have:=List.pairwise_iff_getElem.1 h p q (by omega) hq hpq
  unfold qE at h1 h2
  rw [List.getD_eq_getElem?_getD,List.getElem?_eq_getElem (by omega)] at h1 h2
  exact this b h1 h2
 intro p q hp hq hne b h1 h2
 rcases Nat.lt_or_gt_of_ne hne with e|e
 ·exact key p q e hq b h1 h2
 ·exact key q p e hp b h2 h1
theorem oQ (w:World):Calls Tryz.prog 31 #[.slice none 0 0,.int .i64 1] w fun e w'=>e=.returned (.int .i64 1)/\w'=w:=by
 go_enter Tryz.func31,Tryz.ntmps31
 go_wp2
 go_loopw [1,5] (fun kv iv wr=>kv=.int .i64 1/\iv=.int .i64 0/\wr=w) (fun _ _ _=>0)
 case atStart=>exact ⟨rfl,rfl,rfl⟩
 case round=>
  obtain ⟨rfl,rfl,rfl⟩:=hrel
  go_wp2
  go_ret
  exact ⟨rfl,rfl⟩
theorem nT (w:World):Calls Tryz.prog 32 #[.slice none 0 0,.int .i64 1] w fun e w'=>e=.returned (.int .i64 1)/\w'=w:=by
 go_enter Tryz.func32,Tryz.ntmps32
 go_wp2
 go_loopw [1,5] (fun kv iv wr=>kv=.int .i64 1/\iv=.int .i64 0/\wr=w) (fun _ _ _=>0)
 case atStart=>exact ⟨rfl,rfl,rfl⟩
 case round=>
  obtain ⟨rfl,rfl,rfl⟩:=hrel
  go_wp2
  go_ret
  exact ⟨rfl,rfl⟩
theorem rA (hN:al.length<=5000) (hfl:∀ i,i<al.length->uy al i<=10000) (h:GI w B v al fs) (hd:fs.Pairwise (fun a b=>∀ g,a.ownBlock=some g->b.ownBlock≠some g)):
 Calls Tryz.prog 31 #[v,.int .i64 1] w fun e w'=>e=.returned (.int .i64 (dQ 1 (uy al) al.length:Int))/\Am w' v al fs/\Keeps w w' (fun b=>B<=b)/\∀ P N f,aD w 27 P N f->aD w' 27 P N f:=by
 have h0:=h.l
 obtain ⟨h1,⟨rfl,h3⟩|⟨g,cap,cur,rfl,hb,hg,hnc,hcm,hcss,htake⟩⟩:=h0
 ·refine (oQ w).mono ?_
  rintro e w' ⟨rfl,rfl⟩
  exact ⟨by rw [h3];rfl,.inl ⟨rfl,h3⟩,Keeps.refl _ _,fun P N f h=>h⟩
 ·obtain ⟨f,hf⟩:∃ f,aD w 36 g (al.length*7) f:=⟨_,au h.l (g:=g) rfl⟩
  have hI:Jw w g al.length 1 (uy al) f (qE fs) 0:=⟨hf.congr (fun j hj=>by simp),fun q hq=>by omega,fun q _ hq=>iN.of (h.sub hq)⟩
  have hm:=nS 1 (by omega) (by omega) g al.length cap (uy al) f (qE fs) w hN hfl hnc hI (fun i hi=>by
   have e1:=hf.cell (j:=i*7+6) (by omega)
   have e2:=h.cell hi 6 (by omega) (u:=qE fs i) rfl
   rw [e1] at e2
   exact Option.some.inj e2) (fun p q hp hq=>CF hd p q (by rw [h.fl];exact hp) (by rw [h.fl];exact hq))
  refine Calls.mono (R:=_) hm ?_
  rintro e w' ⟨rfl,h4,h5⟩
  refine ⟨rfl,.inr ⟨g,cap,f,rfl,hnc,h4⟩,h5.mono (fun b hb'=>?_),fun P N f9 h9=>h9.keep h5 (fun e=>by
   rcases e with rfl|⟨q,hq,e⟩
   ·exact h9.apart hf (by decide) rfl
   ·exact h9.apart (au (h.sub hq) e) (by decide) rfl)⟩
  rcases hb' with rfl|⟨q,hq,e⟩
  ·exact hb
  ·exact ((h.sub hq).lt b e).1
theorem rF (hN:al.length<=5000) (hfl:∀ i,i<al.length->uy al i<=10000) (h:Am w v al fs):
 Calls Tryz.prog 32 #[v,.int .i64 1] w fun e w'=>e=.returned (.int .i64 (dQ 1 (uy al) al.length:Int))/\Below w.heap.size w w':=by
 rcases h with ⟨rfl,h3⟩|⟨g,cap,f,rfl,h1,h2⟩
 ·refine (nT w).mono ?_
  rintro e w' ⟨rfl,rfl⟩
  exact ⟨by rw [h3];rfl,Below.refl _ _⟩
 ·exact oI 1 (by omega) (by omega) g al.length cap (uy al) f (qE fs) w hN hfl h1 h2
theorem uU {c:Int} (hN:al.length<=5000) (hfl:∀ i,i<al.length->uy al i<=10000) (hM:dQ 1 (uy al) al.length=M) (hB:B<=w.heap.size) (h:GI w B v al fs) (hd:fs.Pairwise (fun a b=>∀ g,a.ownBlock=some g->b.ownBlock≠some g)):
 Calls Tryz.prog 18 #[.agg #[.int .i64 c,v],.int .i64 1] w fun e w'=>e=.returned (.int .i64 (M:Int))/\Am w' v al fs/\Keeps w w' (fun b=>B<=b)/\∀ P N f,aD w 27 P N f->aD w' 27 P N f:=by
 obtain ⟨a,cap,rfl⟩:=aF h.l
 have HB:=ah (aJ w (.cells #[.int .i64 c,.slice a al.length cap] 27))
 have HM:=ah (rA hN hfl (h.keep (Keeps.of HB.o (Nat.le_refl _) (fun _=>False)) (fun b e=>e.elim)) hd)
 rw [hM] at HM
 clear h hd hfl
 go_enter Tryz.func18,Tryz.ntmps18
 go_wp2_with fail
 refine HM.o.mono ?_
 rintro e w2 ⟨rfl,h2,h3,h4⟩
 have H2:=ah (And.intro h2 (And.intro ((Keeps.of HB.o (Nat.le_refl _) (fun b=>B<=b)).trans h3) (fun (P N:Nat) (f:Nat->Value) (h9:aD w 27 P N f)=>h4 P N f (h9.low HB.o h9.lt))))
 clear h2 h3 h4 HM
 go_wp2_with fail
 go_ret
 exact ⟨rfl,H2.o.1,H2.o.2.1,H2.o.2.2⟩
theorem mY {c:Int} (hN:al.length<=5000) (hfl:∀ i,i<al.length->uy al i<=10000) (hM:dQ 1 (uy al) al.length=M) (h:Am w v al fs):
 Calls Tryz.prog 19 #[.agg #[.int .i64 c,v],.int .i64 1] w fun e w'=>e=.returned (.int .i64 (M:Int))/\Below w.heap.size w w':=by
 obtain ⟨a,cap,rfl⟩:=h.val
 have HB:=ah (aJ w (.cells #[.int .i64 c,.slice a al.length cap] 27))
 have HM:=ah (rF hN hfl (h.low HB.o))
 rw [hM] at HM
 clear h hfl hM
 have hk:¬ ((M:Int)<0):=by omega
 go_enter Tryz.func19,Tryz.ntmps19
 go_wp2_with fail
 refine HM.o.mono ?_
 rintro e w2 ⟨rfl,h2⟩
 have H2:=ah (HB.o.trans (h2.mono HB.o.size))
 clear h2 HM
 go_wp2_with fail
 go_ret
 exact ⟨rfl,H2.o⟩
theorem jT {c:Int} {x:Nat->An} (hn:n<=1048576) (hf:∀ i,i<n->(x i).freed.length<=10000) (h:Hg w v n x cv) (h':Hg w v' n x cv'):
 Calls Tryz.prog 15 #[.agg #[.int .i64 c,v],.agg #[.int .i64 c,v']] w fun e w'=>e=.returned (.bool true)/\Below w.heap.size w w':=by
 obtain ⟨a,cap,rfl⟩:=h.val
 obtain ⟨a',cap',rfl⟩:=h'.val
 have HB:=ah (zO w (.cells #[.int .i64 c,.slice a n cap] 27) (.cells #[.int .i64 c,.slice a' n cap'] 27))
 have HM:=ah (rR _ _ n x cv cv' _ hn hf (h.low HB.o) (h'.low HB.o))
 clear h h' hf
 go_enter Tryz.func15,Tryz.ntmps15
 go_wp2_with fail
 refine HM.o.mono ?_
 rintro e w2 ⟨rfl,h2⟩
 have H2:=ah (HB.o.trans (h2.mono HB.o.size))
 clear h2 HM
 go_wp2_with fail
 go_ret
 exact ⟨rfl,H2.o⟩
end
section
variable {g k n:Nat} {r:Rn} {v:Value} {w:World} {x0 x1 x2 x3:Nat->Int}
theorem rO (x:r.Ok k) (hk:k+1<=5000) (kd A B C:Int):(dI r kd A B C).1.freed.length<=10000:=by
 unfold dI
 split
 ·rename_i hh
  have h1:=(rJ (x.forget (by omega)) hk rfl (cZ.2 hh)).1.g.s.fr
  simp only
  split
  ·exact Nat.zero_le _
  ·show (eD r.h.forget r.root kd A B C).h.freed.length<=10000
   omega
 ·exact Nat.zero_le _
theorem kZ (l:List mJ):∀ j,j<=l.length->j<=5000->∀ a∈(cK (l.take j)).1,a.freed.length<=10000
 |0,_,_=>by rw [List.take_zero];intro a ha;simp [xB] at ha
 |j+1,h1,h2=>by
  have b:=kZ l j (by omega) (by omega)
  have hj:l[j]?=some l[j]:=List.getElem?_eq_getElem (by omega)
  rw [gu hj]
  intro a ha
  rcases List.mem_append.1 ha with c|c
  ·exact b a c
  ·simp at c
   subst c
   exact rO (iL l j (by omega) (by omega)).1 h2 _ _ _ _
noncomputable def kg (ops:List mJ):List An:=if 5000<ops.length then [] else (cK ops).1
theorem AJ (ops:List mJ):(kg ops).length<=5000/\∀ i,i<(kg ops).length->uy (kg ops) i<=10000:=by
 unfold kg
 by_cases h:5000<ops.length
 ·rw [if_pos h];exact ⟨Nat.zero_le _,fun i hi=>by simp at hi⟩
 ·rw [if_neg h]
  have h1:=(iL ops ops.length (Nat.le_refl _) (by omega)).2
  have h2:=kZ ops ops.length (Nat.le_refl _) (by omega)
  rw [List.take_length] at h1 h2
  refine ⟨by omega,fun i hi=>h2 _ ?_⟩
  unfold xA
  rw [List.getD_eq_getElem?_getD,List.getElem?_eq_getElem hi]
  exact List.getElem_mem hi
def nX (n:Nat) (x0 x1 x2 x3:Nat->Int):List mJ:=(List.range n).map fun i=>(x0 i,x1 i,x2 i,x3 i)
theorem ig (n:Nat) (x0 x1 x2 x3:Nat->Int):(nX n x0 x1 x2 x3).length=n:=by unfold nX;simp
theorem yK (h:jN w g n x0 x1 x2 x3):wR w (.slice (some ⟨g,0,none⟩) n n) (nX n x0 x1 x2 x3):=by
 obtain ⟨f,h1,h2⟩:=h
 refine ⟨some ⟨g,0,none⟩,n,by rw [ig],by rw [ig];exact Nat.le_refl _,fun i o ho=>?_⟩
 have hi:i<n:=by have:=(List.getElem?_eq_some_iff.1 ho).1;rwa [ig] at this
 have ho':o=(x0 i,x1 i,x2 i,x3 i):=by
  unfold nX at ho
  rw [List.getElem?_map,List.getElem?_range hi] at ho
  exact (Option.some.inj ho).symm
 subst ho'
 obtain ⟨e0,e1,e2,e3⟩:=h2 i hi
 exact ⟨g,rfl,h1.lt,by rw [h1.cell (j:=i*4) (by omega),e0],by rw [h1.cell (j:=i*4+1) (by omega),e1],by rw [h1.cell (j:=i*4+2) (by omega),e2],by rw [h1.cell (j:=i*4+3) (by omega),e3]⟩
theorem Di (a:Option Addr) (n cap:Nat) (w:World) (h:n<=1048576):Calls Tryz.prog 13 #[.slice a n cap,.int .i64 1048576] w fun e w'=>e=.returned (.int .i64 (1048576-(n:Int)))/\w'=w:=by
 have h1:¬ ((1048576:Int)-(n:Int)<0):=by omega
 go_enter Tryz.func13,Tryz.ntmps13
 go_wp2
 go_ret
 exact ⟨rfl,rfl⟩
theorem CZ (a:Option Addr) (n cap:Nat) (w:World) (h:1048576<n) (h9:n<=9223372036854775807):Calls Tryz.prog 13 #[.slice a n cap,.int .i64 1048576] w fun e w'=>e=.returned (.int .i64 (-1))/\w'=w:=by
 have h1:((1048576:Int)-(n:Int)<0):=by omega
 go_enter Tryz.func13,Tryz.ntmps13
 go_wp2
 go_ret
 exact ⟨rfl,rfl⟩
def Dx (ops:List mJ):Int:=if 5000<ops.length then 5 else 0
theorem xJ {ops:List mJ} (hv:wR w v ops) (hn:ops.length<=1048576):Calls Tryz.prog 7 #[v] w fun e w'=>Below w.heap.size w w'/\∃ aA kA fs,e=.returned (.agg #[.int .i64 (Dx ops),.slice aA (kg ops).length kA])/\GI w' w.heap.size (.slice aA (kg ops).length kA) (kg ops) fs:=by
 refine (uW hv hn).mono ?_
 rintro e w' ⟨hb,c,av,al,fs,rfl,hc,hal,ho,hfl,hf⟩
 subst hc
 have e:al=kg ops:=hal
 subst e
 obtain ⟨aA,kA,rfl⟩:=aF ho
 exact ⟨hb,aA,kA,fs,rfl,ho,hfl,hf⟩
theorem yE {ops:List mJ} (hv:wR w v ops) (hn:ops.length<=1048576) (hB:∀ o∈ops,-9223372036854775808<=o.2.2.1/\o.2.2.1<=9223372036854775807):Calls Tryz.prog 8 #[v] w fun e w'=>Below w.heap.size w w'/\∃ aA kA fs,e=.returned (.agg #[.int .i64 (Dx ops),.slice aA (kg ops).length kA])/\GI w' w.heap.size (.slice aA (kg ops).length kA) (kg ops) fs/\fs.Pairwise (fun a b=>∀ g,a.ownBlock=some g->b.ownBlock≠some g):=by
 refine (AQ hv hn hB).mono ?_
 rintro e w' ⟨hb,c,av,al,fs,rfl,hc,hal,ho,hfl,hf,hd⟩
 subst hc
 have e:al=kg ops:=hal
 subst e
 obtain ⟨aA,kA,rfl⟩:=aF ho
 exact ⟨hb,aA,kA,fs,rfl,⟨ho,hfl,hf⟩,hd⟩
end
theorem pX (v:Value) (n:Nat) (x0 x1 x2 x3:Nat->Int) (w:World) (h:lJ w v n x0 x1 x2 x3) (hB:∀ i,i<n-> -9223372036854775808<=x2 i/\x2 i<=9223372036854775807) (h9:n<=9223372036854775807):
 Calls Tryz.prog 5 #[v] w fun e w'=>e=.returned (.bool true)/\Below w.heap.size w w':=by
 obtain ⟨a,cap,rfl⟩:=h.val
 by_cases hn:n<=1048576
 ·have HA:=ah h
  have HSZ:=ah (Di a n cap w hn)
  have h0:¬ ((1048576:Int)-(n:Int)<0):=by omega
  have hBB:∀ o∈nX n x0 x1 x2 x3,-9223372036854775808<=o.2.2.1/\o.2.2.1<=9223372036854775807:=fun o ho=>by
   unfold nX at ho
   obtain ⟨i,hi,rfl⟩:=List.mem_map.1 ho
   exact hB i (List.mem_range.1 hi)
  have HSP:=ah (fun (W:World) (g:Nat) (hW:jN W g n x0 x1 x2 x3)=>xJ (yK hW) (by rw [ig];exact hn))
  have HPR:=ah (fun (W:World) (g:Nat) (hW:jN W g n x0 x1 x2 x3)=>yE (yK hW) (by rw [ig];exact hn) hBB)
  obtain ⟨hN5,hFL⟩:=AJ (nX n x0 x1 x2 x3)
  generalize kg (nX n x0 x1 x2 x3)=AL at *
  generalize Dx (nX n x0 x1 x2 x3)=CC at *
  have HFL:=ah hFL
  obtain ⟨M,hM⟩:∃ M,dQ 1 (uy AL) AL.length=M:=⟨_,rfl⟩
  have HM:=ah hM
  clear h hB hBB hFL hM
  go_enter Tryz.func5,Tryz.ntmps5
  go_wp2_with fail
  refine HSZ.o.mono ?_
  rintro e w0 ⟨rfl,rfl⟩
  go_wp2_with fail
  refine (iT _ n x0 x1 x2 x3 _ hn HA.o).mono ?_
  rintro e w1 ⟨rfl,hi1,hb1⟩
  have H1:=ah (And.intro hi1 hb1)
  clear hi1 hb1
  go_wp2_with fail
  refine (HSP.o w1 _ H1.o.1).mono ?_
  rintro e w2 ⟨hb2,aA,kA,fs,rfl,ho⟩
  have hb02:=H1.o.2.trans (hb2.mono H1.o.2.size)
  have hba:=aJ w2 (.cells #[.int .i64 CC,.slice aA AL.length kA] 27)
  have H3:=ah (And.intro (hb02.trans (hba.mono hb02.size)) (And.intro (ho.keep (Keeps.of hba (Nat.le_refl _) (fun _=>False)) (fun _ e=>e.elim)).ans (rE w2 CC aA AL.length kA)))
  clear hb2 ho hb02 hba H1
  go_upto_region 6 with (fail)
  generalize w2.alloc (.cells #[.int .i64 CC,.slice aA AL.length kA] 27)=w3 at *
  generalize w2.heap.size=P0 at *
  generalize hNn:AL.length=N at *
  have HNN:=ah hNn
  clear hNn
  go_wp2_with fail
  refine (iT _ n x0 x1 x2 x3 _ hn (HA.o.low H3.o.1 (Nat.le_refl _))).mono ?_
  rintro e w4 ⟨rfl,hi4,hb4⟩
  have H4:=ah (And.intro hi4 hb4)
  clear hi4 hb4
  go_wp2_with fail
  refine (HPR.o w4 _ H4.o.1).mono ?_
  rintro e w5 ⟨hb5,aB,kB,fs2,rfl,ho5,hd5⟩
  have hba:=aJ w5 (.cells #[.int .i64 CC,.slice aB N kB] 27)
  have hb35:=H4.o.2.trans (hb5.mono H4.o.2.size)
  have hb36:=hb35.trans (hba.mono hb35.size)
  have H6:=ah (And.intro hb36 (And.intro (ho5.keep (Keeps.of hba (Nat.le_refl _) (fun _=>False)) (fun _ e=>e.elim)) (And.intro (rE w5 CC aB N kB) (And.intro ((H4.o.1.low hb5 H4.o.1.lt).low hba (Nat.lt_of_lt_of_le H4.o.1.lt hb5.size)) hd5))))
  have hl1:w4.heap.size<=w5.heap.size:=hb5.size
  have hl2:w3.heap.size<w4.heap.size:=H4.o.1.lt
  have hl3:P0<w3.heap.size:=H3.o.2.2.lt
  have hl0:w0.heap.size<=w3.heap.size:=H3.o.1.size
  clear hb5 ho5 hd5 hba hb35 hb36 H4
  go_upto_region 8 with (fail)
  generalize w5.alloc (.cells #[.int .i64 CC,.slice aB N kB] 27)=w6 at *
  generalize w5.heap.size=P1 at *
  generalize w4.heap.size=B4 at *
  have hN1:N<=1048576:=by omega
  have HFF:Hq (∀ i,i<N->(xA AL i).freed.length<=10000):=HFL
  have HAN:Hq (∀ W B aX kX fx,GI W B (.slice aX N kX) AL fx->Hg W (.slice aX N kX) N (xA AL) (qE fx)):=ah (fun W B aX kX fx hx=>by have:=hx.ans;rwa [HNN.o] at this)
  have p0:w6.cell? ⟨P0,0,none⟩=some (.int .i64 CC):=(H3.o.2.2.low H6.o.1 hl3).cell (j:=0) (by omega)
  have p1:w6.cell? ⟨P0,1,none⟩=some (.slice aA N kA):=(H3.o.2.2.low H6.o.1 hl3).cell (j:=1) (by omega)
  have q0:w6.cell? ⟨P1,0,none⟩=some (.int .i64 CC):=H6.o.2.2.1.cell (j:=0) (by omega)
  have q1:w6.cell? ⟨P1,1,none⟩=some (.slice aB N kB):=H6.o.2.2.1.cell (j:=1) (by omega)
  go_wp2_with fail
  refine (jT hN1 HFF.o (HAN.o _ _ _ _ _ H6.o.2.1) (H3.o.2.1.low H6.o.1)).mono ?_
  rintro e w7 ⟨rfl,hb7⟩
  have k7:=Keeps.of hb7 (Nat.le_refl _) (fun _=>False)
  have hs6:=H6.o.1.size
  have hB6:B4<=w6.heap.size:=Nat.le_trans hl1 (Nat.le_of_lt H6.o.2.2.1.lt)
  have H7:=ah (And.intro (H6.o.1.trans (hb7.mono hs6)) (And.intro (H6.o.2.1.keep k7 (fun _ e=>e.elim)) (And.intro (H6.o.2.2.1.keep k7 (fun e=>e)) (And.intro (H6.o.2.2.2.1.low hb7 (by omega)) (And.intro H6.o.2.2.2.2 (Nat.le_trans hB6 hb7.size))))))
  have HX7:=ah (H3.o.1.trans (H7.o.1.mono hl0))
  clear hb7 k7 p0 p1 q0 q1 hs6 hB6
  go_wp2_with fail
  refine (iT _ n x0 x1 x2 x3 _ hn (HA.o.low HX7.o (Nat.le_refl _))).mono ?_
  rintro e w8 ⟨rfl,hi8,hb8⟩
  have H8:=ah (And.intro hi8 hb8)
  have hG7:w3.heap.size<w7.heap.size:=H7.o.2.2.2.1.lt
  clear hi8 hb8
  go_wp2_with fail
  refine (u7 _ _ n x0 x1 x2 x3 _ hn (H7.o.2.2.2.1.low H8.o.2 hG7).by H8.o.1.by).mono ?_
  rintro e w9 ⟨rfl,hb9⟩
  have hb79:=H8.o.2.trans (hb9.mono H8.o.2.size)
  have k9:=Keeps.of hb79 (Nat.le_refl _) (fun _=>False)
  have H9:=ah (And.intro (H7.o.1.trans (hb79.mono H7.o.1.size)) (And.intro (H7.o.2.1.keep k9 (fun _ e=>e.elim)) (And.intro (H7.o.2.2.1.keep k9 (fun e=>e)) (And.intro (H7.o.2.2.2.1.low hb79 hG7) (And.intro H7.o.2.2.2.2.1 (Nat.le_trans H7.o.2.2.2.2.2 hb79.size))))))
  clear hb9 hb79 k9 H8 hG7
  obtain ⟨fx,hr9,-⟩:=H9.o.2.2.2.1
  have HMO:Hq (Calls Tryz.prog 17 #[.slice (some ⟨w3.heap.size,0,none⟩) n n,.int .i64 1] w9 fun e w'=>e=.returned (.int .i64 (1+(n:Int)*4))/\aD w' 39 w3.heap.size (n*4) (gY 1)/\Keeps w9 w' (fun b=>b=w3.heap.size)):=ah (qC w3.heap.size n n 1 fx w9 (by omega) (by omega) (by omega) (Nat.le_refl _) hr9)
  clear hr9
  have hk4:¬ ((1:Int)+(n:Int)*4<0):=by omega
  go_wp2_with fail
  refine HMO.o.mono ?_
  rintro e w10 ⟨rfl,-,hk10⟩
  have hb310:Below w3.heap.size w3 w10:=H9.o.1.trans (hk10.below H9.o.1.size (fun b e=>Nat.le_of_eq e.symm))
  have H10:=ah (And.intro hb310 (And.intro (H9.o.2.1.keep hk10 (fun b e=>.inl (by omega))) (And.intro (H9.o.2.2.1.keep hk10 (fun e=>by omega)) (And.intro H9.o.2.2.2.2.1 (Nat.le_trans H9.o.2.2.2.2.2 hk10.size)))))
  clear hk10 hb310 H9 HMO
  have p0:w10.cell? ⟨P0,0,none⟩=some (.int .i64 CC):=(H3.o.2.2.low H10.o.1 hl3).cell (j:=0) (by omega)
  have p1:w10.cell? ⟨P0,1,none⟩=some (.slice aA N kA):=(H3.o.2.2.low H10.o.1 hl3).cell (j:=1) (by omega)
  have q0:w10.cell? ⟨P1,0,none⟩=some (.int .i64 CC):=H10.o.2.2.1.cell (j:=0) (by omega)
  have q1:w10.cell? ⟨P1,1,none⟩=some (.slice aB N kB):=H10.o.2.2.1.cell (j:=1) (by omega)
  go_wp2_with fail
  refine (jT hN1 HFF.o (HAN.o _ _ _ _ _ H10.o.2.1) (H3.o.2.1.low H10.o.1)).mono ?_
  rintro e w11 ⟨rfl,hb11⟩
  have k11:=Keeps.of hb11 (Nat.le_refl _) (fun _=>False)
  have H11:=ah (And.intro (H10.o.1.trans (hb11.mono H10.o.1.size)) (And.intro (H10.o.2.1.keep k11 (fun _ e=>e.elim)) (And.intro (H10.o.2.2.1.keep k11 (fun e=>e)) (And.intro H10.o.2.2.2.1 (Nat.le_trans H10.o.2.2.2.2 hb11.size)))))
  clear hb11 k11 p0 p1 q0 q1 H10
  have q0:w11.cell? ⟨P1,0,none⟩=some (.int .i64 CC):=H11.o.2.2.1.cell (j:=0) (by omega)
  have q1:w11.cell? ⟨P1,1,none⟩=some (.slice aB N kB):=H11.o.2.2.1.cell (j:=1) (by omega)
  have HMK:=ah (uU (c:=CC) (M:=M) (by rw [HNN.o];exact hN5) (fun i hi=>HFL.o i (by rw [<-HNN.o];exact hi)) (by rw [HNN.o];exact HM.o) H11.o.2.2.2.2 H11.o.2.1 H11.o.2.2.2.1)
  have hkM:¬ ((M:Int)<0):=by omega
  go_wp2_with fail
  refine HMK.o.mono ?_
  rintro e w12 ⟨rfl,hm12,hk12,hr12⟩
  have H12:=ah (And.intro (H11.o.1.trans (hk12.below H11.o.1.size (fun b e=>by omega))) (And.intro hm12 (hr12 _ _ _ H11.o.2.2.1)))
  clear hm12 hk12 hr12 q0 q1 HMK H11
  have q0:w12.cell? ⟨P1,0,none⟩=some (.int .i64 CC):=H12.o.2.2.cell (j:=0) (by omega)
  have q1:w12.cell? ⟨P1,1,none⟩=some (.slice aB N kB):=H12.o.2.2.cell (j:=1) (by omega)
  have HHD:=ah (mY (c:=CC) (M:=M) (by rw [HNN.o];exact hN5) (fun i hi=>HFL.o i (by rw [<-HNN.o];exact hi)) (by rw [HNN.o];exact HM.o) H12.o.2.1)
  go_wp2_with fail
  refine HHD.o.mono ?_
  rintro e w13 ⟨rfl,hb13⟩
  have H13:=ah (And.intro (H12.o.1.trans (hb13.mono H12.o.1.size)) (And.intro (H12.o.2.1.low hb13) (H12.o.2.2.low hb13 H12.o.2.2.lt)))
  clear hb13 q0 q1 HHD H12
  go_wp2_with fail
  have hbx:=H3.o.1.trans (H13.o.1.mono hl0)
  have HX13:=ah hbx
  clear hbx
  refine (iT _ n x0 x1 x2 x3 _ hn (HA.o.low HX13.o (Nat.le_refl _))).mono ?_
  rintro e w14 ⟨rfl,hi14,hb14⟩
  have H14:=ah (And.intro hi14 hb14)
  clear hi14 hb14
  go_wp2_with fail
  refine (HPR.o w14 _ H14.o.1).mono ?_
  rintro e w15 ⟨hb15,aC,kC,fs3,rfl,ho15,-⟩
  have hba:=aJ w15 (.cells #[.int .i64 CC,.slice aC N kC] 27)
  have hbb:=(H14.o.2.trans (hb15.mono H14.o.2.size))
  have hbc:=hbb.trans (hba.mono hbb.size)
  have H16:=ah (And.intro (H13.o.1.trans (hbc.mono H13.o.1.size)) (And.intro (H13.o.2.1.low hbc) (And.intro (H13.o.2.2.low hbc H13.o.2.2.lt) (And.intro (ho15.keep (Keeps.of hba (Nat.le_refl _) (fun _=>False)) (fun _ e=>e.elim)) (rE w15 CC aC N kC)))))
  clear hb15 ho15 hba hbb hbc H14 H13
  go_upto_region 25 with (fail)
  generalize w15.alloc (.cells #[.int .i64 CC,.slice aC N kC] 27)=w16 at *
  generalize w15.heap.size=P2 at *
  generalize w14.heap.size=B5 at *
  have p0:w16.cell? ⟨P0,0,none⟩=some (.int .i64 CC):=(H3.o.2.2.low H16.o.1 hl3).cell (j:=0) (by omega)
  have p1:w16.cell? ⟨P0,1,none⟩=some (.slice aA N kA):=(H3.o.2.2.low H16.o.1 hl3).cell (j:=1) (by omega)
  have q0:w16.cell? ⟨P2,0,none⟩=some (.int .i64 CC):=H16.o.2.2.2.2.cell (j:=0) (by omega)
  have q1:w16.cell? ⟨P2,1,none⟩=some (.slice aC N kC):=H16.o.2.2.2.2.cell (j:=1) (by omega)
  go_wp2_with fail
  refine (jT hN1 HFF.o (HAN.o _ _ _ _ _ H16.o.2.2.2.1) (H3.o.2.1.low H16.o.1)).mono ?_
  rintro e w17 ⟨rfl,hb17⟩
  have H17:=ah (And.intro (H16.o.1.trans (hb17.mono H16.o.1.size)) (And.intro (H16.o.2.1.low hb17) (H16.o.2.2.1.low hb17 H16.o.2.2.1.lt)))
  clear hb17 p0 p1 q0 q1 H16
  have q0:w17.cell? ⟨P1,0,none⟩=some (.int .i64 CC):=H17.o.2.2.cell (j:=0) (by omega)
  have q1:w17.cell? ⟨P1,1,none⟩=some (.slice aB N kB):=H17.o.2.2.cell (j:=1) (by omega)
  have HHD:=ah (mY (c:=CC) (M:=M) (by rw [HNN.o];exact hN5) (fun i hi=>HFL.o i (by rw [<-HNN.o];exact hi)) (by rw [HNN.o];exact HM.o) H17.o.2.1)
  go_wp2_with fail
  refine HHD.o.mono ?_
  rintro e w18 ⟨rfl,hb18⟩
  have H18:=ah (H3.o.1.trans ((H17.o.1.trans (hb18.mono H17.o.1.size)).mono hl0))
  clear hb18 q0 q1 HHD H17
  go_wp2_with fail
  go_ret
  exact ⟨rfl,H18.o⟩
 ·have HSZ:=ah (CZ a n cap w (by omega) h9)
  clear h hB
  go_enter Tryz.func5,Tryz.ntmps5
  go_wp2_with fail
  refine HSZ.o.mono ?_
  rintro e w0 ⟨rfl,rfl⟩
  go_wp2_with fail
  go_ret
  exact ⟨rfl,Below.refl _ _⟩
end Go.Proofs.YtedpifhlffcmkaaGreatDoor
namespace Go.Proofs.YtedpifhlffcmkaaGreatDoor
open Go.ChangeShapes Go.WideShapes Go.ChangeAt Go Go.RowKit Go.ChangeMaps Go.WideElems Go.Joins Go.Deep
set_option maxRecDepth 100000
set_option linter.unusedVariables false
theorem mE (H:Type) (enc:TypeId × Value->H) (W:World) (base:Nat) (args:Array Value) (ds gs:List (DataW H)) (before:List MemPlace)
 (hval:∀ (j:Nat) t v,Tryz.f5.params[j]?=some t->args[j]?=some v->Value.okWide Tryz.prog W .any base t v)
 (hW:DataW.Whole enc Tryz.prog Tryz.f5.params.toList Rows.fnExactHeapRunSpec.vars false W args.toList ds gs before):
 Calls Tryz.prog 5 args W fun e W'=>∃ v,e=.returned v/\Rows.fnExactHeapRunSpec.post enc Tryz.prog Tryz.f5 false true false false W args v W':=by
 have hW':=hW
 obtain ⟨p,q,hA0,hV0,rfl,hfz,hnd⟩:=hW
 have hA:DataW.TrodAll enc Tryz.prog W 0 (fun _=>true) true Tryz.f5.params.toList args.toList ds p:=hA0
 have hV:DataW.TrodVars enc Tryz.prog W (fun _=>true) ["loop.example/g00002/impl.errNumWhole"] gs q:=hV0
 rw [Tryz.params5] at hA hval
 obtain ⟨v0,vs0,d0,ds0,p0,q0,hargs,rfl,rfl,h0,r0⟩:=trodAll_cons hA
 obtain ⟨rfl,rfl,rfl⟩:=trodAll_nil r0
 obtain rfl:args=#[v0]:=by cases args;simp_all
 obtain ⟨g1,rfl⟩:=xM hV
 have hlt:=hW'.lt
 obtain ⟨fuel,hf⟩:=h0
 clear hA0 hV0
 obtain ⟨a0,len0,cap0,rfl⟩:=okWide_slice Tryz.underlying46 (hval 0 46 v0 rfl rfl)
 have hf':DataW.trod enc Tryz.prog W 0 (fun _=>true) true fuel 46 [.slice a0 len0 cap0]=some (d0,p0):=hf
 obtain ⟨hn,x0,x1,x2,x3,hI,hB⟩:=yj hf'
 have h9:len0<=9223372036854775807:=by
  have:maxLen<=9223372036854775807:=by decide+kernel
  omega
 refine (pX _ _ x0 x1 x2 x3 W hI hB h9).mono fun e W' ⟨he,hb⟩=>?_
 subst he
 have hst:∀ (sp:Nat->Bool),(∀ x∈p0,sp x.block=true)->DataW.Trod enc Tryz.prog W' 0 sp true 46 (.slice a0 len0 cap0) d0 p0:=fun sp hsp=>by
  exact ⟨fuel,DataW.trod_stays (kids_book Tryz.laidOut BI.1) (book_sized BI.1) (fun h=>by cases h) ⟨BI.2,book_self 46⟩ hf (fun x hx=>hb.same (hlt x (by simp [hx]))) hsp⟩
 refine ⟨_,rfl,yt hW' (pa:=p0++[]) (pv:=q) (fun _ _ _=>trodAll_cons_mk (shut_bool Tryz.underlying4 _) trodAll_mk0) (fun sp hsp=>trodAll_cons_mk (hst sp (fun x hx=>hsp x (by simp [hx]))) trodAll_mk0)
  (fun sp hsp=>mX Tryz.laidOut hb CX (fun x hx=>hsp x (by simp [hx])) hV) (by simp) hb (ok_one (by kernel_rfl) rfl (okWide_bool_mk Tryz.underlying4 _))⟩
end Go.Proofs.YtedpifhlffcmkaaGreatDoor
