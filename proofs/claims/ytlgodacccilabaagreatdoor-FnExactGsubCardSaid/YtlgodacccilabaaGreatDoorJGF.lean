import Derived.Test.YtlgodacccilabaaGreatDoorJGH9
import Derived.Test.YtlgodacccilabaaGreatDoorJGH3
import Derived.RangeFuncCalls
import Derived.RangeFuncLeaves
import Derived.OwnWalkIn
import Derived.TacticsInMore
import Derived.LoopNIn
import Derived.LoopIn
import Derived.Test.YtlgodacccilabaaGreatDoorGD
import Derived.Shelf.RegionOpenPlain
import Derived.Lib.MakeNoZero
import Derived.Lib.QuietBelow
namespace Go.Proofs.YtlgodacccilabaaGreatDoor
open Go Go.RowKit
set_option linter.unusedVariables false
def nxA (f:Fd):Nat:=if f.en=f.fr then f.en+1 else f.en
def allM (s:ByteArray) (t:Pt) (m:Nat):Nat→Nat→Nat→Nat→List Fd × Nat
 |0,_,n,_=>([],n)
 |k+1,at_,n,c=>
  if at_≤s.size∧c<m then
   match srM s t (s.size+1) at_ n with
   |(some f,n')=>(f::(allM s t m k (nxA f) n' (c+1)).1,(allM s t m k (nxA f) n' (c+1)).2)
   |(none,n')=>([],n')
  else ([],n)
theorem allM_end {s:ByteArray} {t:Pt} {m k at_ n c:Nat} (h:¬ (at_≤s.size∧c<m)):allM s t m (k+1) at_ n c=([],n):=by rw [allM,if_neg h]
theorem allM_none {s:ByteArray} {t:Pt} {m k at_ n n' c:Nat} (h:at_≤s.size∧c<m) (hs:srM s t (s.size+1) at_ n=(none,n')):allM s t m (k+1) at_ n c=([],n'):=by rw [allM,if_pos h,hs]
theorem allM_some {s:ByteArray} {t:Pt} {m k at_ n n' c:Nat} {f:Fd} (h:at_≤s.size∧c<m) (hs:srM s t (s.size+1) at_ n=(some f,n')):allM s t m (k+1) at_ n c=(f::(allM s t m k (nxA f) n' (c+1)).1,(allM s t m k (nxA f) n' (c+1)).2):=by rw [allM,if_pos h,hs]
theorem srM_rng {s:ByteArray} {t:Pt}:∀ {k at_ n:Nat} {f:Fd},(srM s t k at_ n).1=some f→at_≤f.fr∧f.fr≤f.en∧f.en≤s.size
 |0,_,_,f,h=>by simp [srM] at h
 |k+1,at_,n,f,h=>by
  rw [srM] at h
  split at h
  ·rename_i h1
   split at h
   ·rename_i e σ he
    cases h
    have:=tryM_rng s t.place t.items at_ (s0 n) e h1.1 (by rw [he])
    exact ⟨Nat.le_refl _,this.1,this.2⟩
   ·split at h
    ·cases h
    ·have:=srM_rng h
     omega
  ·cases h
theorem nxA_lt {s:ByteArray} {t:Pt} {k at_ n:Nat} {f:Fd} (h:(srM s t k at_ n).1=some f):at_<nxA f∧nxA f≤s.size+1:=by
 have:=srM_rng h
 unfold nxA
 split<;>omega
abbrev Fv:=Fd × Value
def fsC (us:List Fv):List Value:=us.flatMap fun u=>[.int .i64 (u.1.fr:Int),.int .i64 (u.1.en:Int),u.2]
structure FsO (w:World) (B:Nat) (v:Value) (us:List Fv):Prop where
 l:w.ownsRow B 32 3 v us.length (fsC us)
 c:∀ u∈us,w.ownsRow B 56 3 u.2 u.1.caps.length (capC u.1.caps)
 r:us.Pairwise (fun a b=>∀ g g',a.2.ownBlock=some g→b.2.ownBlock=some g'→g<g')
theorem FsO.keep {w w':World} {B:Nat} {v:Value} {us:List Fv} {S:Nat→Prop} (h:FsO w B v us) (k:Keeps w w' S) (hS:∀ b,S b→b<B):FsO w' B v us:=
 ⟨owns_keep h.l k hS,fun u hu=>owns_keep (h.c u hu) k hS,h.r⟩
theorem FsO.app {w w5:World} {B:Nat} {v v':Value} {us:List Fv} (h:FsO w B v us) (u:Fv) (hu:w.ownsRow B 56 3 u.2 u.1.caps.length (capC u.1.caps)) (hur:∀ a∈us,∀ g g',a.2.ownBlock=some g→u.2.ownBlock=some g'→g<g')
 (h1:w5.ownsRow B 32 3 v' (us.length+1) (fsC us++[.int .i64 (u.1.fr:Int),.int .i64 (u.1.en:Int),u.2])) (h3:∀ gx,gx<w.heap.size→v.ownBlock≠some gx→w5.heap[gx]?=w.heap[gx]?):FsO w5 B v' (us++[u]):=by
 have hc:∀ a:Fv,w.ownsRow B 56 3 a.2 a.1.caps.length (capC a.1.caps)→w5.ownsRow B 56 3 a.2 a.1.caps.length (capC a.1.caps):=fun a ha=>
  owns_stay ha (fun g hg=>h3 g (owns_blt ha hg).2 (owns_apart ha h.l (by decide) hg))
 refine ⟨?_,fun a ha=>?_,?_⟩
 ·rw [List.length_append,List.length_singleton,show fsC (us++[u])=fsC us++[.int .i64 (u.1.fr:Int),.int .i64 (u.1.en:Int),u.2] by simp [fsC]]
  exact h1
 ·rcases List.mem_append.1 ha with ha|ha
  ·exact hc a (h.c a ha)
  ·rw [List.mem_singleton.1 ha];exact hc u hu
 ·rw [List.pairwise_append]
  exact ⟨h.r,List.pairwise_singleton _ _,fun a ha b hb=>by rw [List.mem_singleton.1 hb];exact hur a ha⟩
theorem Tryz.infoFd:(Tryz.prog.info? 32).map (fun i=>(i.zero,i.size,i.bytes))=some (some (.agg #[.int .i64 0,.int .i64 0,nilS]),3,40):=by kernel_rfl
theorem one_fd (x y:Int) (a:Option Addr) (n c:Nat):∀ v∈[Value.int .i64 x,.int .i64 y,.slice a n c],v.oneCell'=true:=by
 intro v hv
 simp only [List.mem_cons,List.not_mem_nil,or_false] at hv
 rcases hv with rfl|rfl|rfl<;>rfl
theorem kp_app {B:Nat} {w3 w5:World} {v:Value} (h2:∀ B' w0,Below B' w0 w3→B'≤B→Below B' w0 w5) (h3:∀ gx,gx<w3.heap.size→v.ownBlock≠some gx→w5.heap[gx]?=w3.heap[gx]?):Keeps w3 w5 (fun b=>v.ownBlock=some b):=
 have h:=h2 B w3 (Below.refl _ _) (Nat.le_refl _)
 ⟨h.os,h.tape,h.output,h.size,fun b hb hn=>h3 b hb hn⟩
theorem MB.pastO {w w':World} {M B m:Nat} {s:ByteArray} {t:Pt} {us:List (It × Value)} {vi vp v:Value} {n:Nat} {xs:List Value} (h:MB w M s t us vi vp n) (ho:w.ownsRow B 32 3 v m xs) (k:Keeps w w' (fun b=>v.ownBlock=some b)):MB w' M s t us vi vp n:=by
 obtain ⟨a1,n1,c1,a2,n2,c2,hm⟩:=h.m
 refine ⟨⟨_,_,_,_,_,_,hm.keep k (fun e=>?_)⟩,h.i.keep k (fun b hb e=>?_),h.p.keep k (fun b hb e=>?_),fun u hu=>(h.s u hu).keep k (fun g hg e=>?_)⟩
 ·obtain ⟨f9,h9⟩:=owns_rowF ho e
  exact hm.apart h9 (by decide) rfl
 ·obtain ⟨f9,h9⟩:=owns_rowF ho e
  exact (h.i.own hb).apart h9 (by decide) rfl
 ·obtain ⟨f9,h9⟩:=owns_rowF ho e
  exact (h.p.own hb).apart h9 (by decide) rfl
 ·obtain ⟨f9,h9⟩:=owns_rowF ho e
  exact RowF.apart hg h9 (by decide) rfl
structure SaI (m:Nat) (w wr:World) (M:Nat) (s:ByteArray) (t:Pt) (us:List (It × Value)) (vi vp:Value) (T:List Fd × Nat) (ov:Value) (fs:List Fv) (at_ n k:Nat):Prop where
 f:FsO wr w.heap.size ov fs
 kp:Keeps w wr (fun b=>b=M)
 mb:MB wr M s t us vi vp n
 n9:n≤200000
 a9:at_≤s.size+1
 l9:fs.length≤at_
 fu:s.size+2≤k+at_
 val:T=(fs.map Prod.fst++(allM s t m k at_ n fs.length).1,(allM s t m k at_ n fs.length).2)
theorem SaI.step {m:Nat} {w wr w2 w3 w5:World} {M:Nat} {s:ByteArray} {t:Pt} {us:List (It × Value)} {vi vp:Value} {T:List Fd × Nat} {ov v v':Value} {fs:List Fv} {at_ n n2 k:Nat} {f:Fd}
 (h:SaI m w wr M s t us vi vp T ov fs at_ n (k+1)) (hML:M<w.heap.size) (hin:at_≤s.size) (hl:fs.length<m) (hr:srM s t (s.size+1) at_ n=(some f,n2)) (hk2:Keeps wr w2 (fun b=>b=M)) (hm2:MB w2 M s t us vi vp n2) (hn2:n2≤200000)
 (hv:w2.ownsRow wr.heap.size 56 3 v f.caps.length (capC f.caps)) (kb:Keeps w2 w3 (fun _=>False))
 (h1:w5.ownsRow w.heap.size 32 3 v' (fs.length+1) (fsC fs++[.int .i64 (f.fr:Int),.int .i64 (f.en:Int),v])) (h2:∀ B w0,Below B w0 w3→B≤w.heap.size→Below B w0 w5) (h3:∀ gx,gx<w3.heap.size→ov.ownBlock≠some gx→w5.heap[gx]?=w3.heap[gx]?):
 SaI m w w5 M s t us vi vp T v' (fs++[(f,v)]) (nxA f) n2 k:=by
 have hf2:=(h.f.keep hk2 (fun b (e:b=M)=>e ▸ hML)).keep kb (fun _ x=>x.elim)
 have hkA:=kp_app h2 h3
 have hz:=h.kp.size
 have hx:=nxA_lt (s:=s) (t:=t) (k:=s.size+1) (at_:=at_) (n:=n) (f:=f) (by rw [hr])
 have hfu:=h.fu
 have hl9:=h.l9
 refine ⟨?_,?_,(hm2.low kb).pastO hf2.l hkA,hn2,hx.2,by simp;omega,by omega,?_⟩
 ·refine hf2.app (f,v) (owns_less (owns_keep hv kb (fun _ x=>x.elim)) hz) (fun a ha g g' hg hg'=>?_) h1 h3
  have e1:=(owns_blt (h.f.c a ha) hg).2
  have e2:=(owns_blt hv hg').1
  omega
 ·refine ((h.kp.trans hk2).fresh kb (fun _ x=>x.elim)).fresh hkA (fun b hb=>.inr (owns_blt hf2.l hb).1)
 ·rw [h.val,allM_some ⟨hin,hl⟩ hr]
  simp
theorem SaI.fin {m:Nat} {w wr:World} {M:Nat} {s:ByteArray} {t:Pt} {us:List (It × Value)} {vi vp:Value} {T:List Fd × Nat} {ov:Value} {fs:List Fv} {at_ n k:Nat}
 (h:SaI m w wr M s t us vi vp T ov fs at_ n (k+1)) (hc:¬ (at_≤s.size∧fs.length<m)):T=(fs.map Prod.fst,n):=by
 rw [h.val,allM_end hc];simp
theorem SaI.non {m:Nat} {w wr:World} {M:Nat} {s:ByteArray} {t:Pt} {us:List (It × Value)} {vi vp:Value} {T:List Fd × Nat} {ov:Value} {fs:List Fv} {at_ n n2 k:Nat}
 (h:SaI m w wr M s t us vi vp T ov fs at_ n (k+1)) (hin:at_≤s.size) (hl:fs.length<m) (hr:srM s t (s.size+1) at_ n=(none,n2)):T=(fs.map Prod.fst,n2):=by
 rw [h.val,allM_none ⟨hin,hl⟩ hr];simp
def SaR (w:World) (M:Nat) (s:ByteArray) (t:Pt) (us:List (It × Value)) (vi vp:Value) (T:List Fd × Nat) (e:Ending) (w':World):Prop:=
 Keeps w w' (fun b=>b=M)∧MB w' M s t us vi vp T.2∧T.2≤200000∧∃ v fs,e=.returned v∧fs.map Prod.fst=T.1∧FsO w' w.heap.size v fs
set_option maxHeartbeats 3200000 in
set_option maxRecDepth 100000 in
theorem sall_any (m:Nat) (mo:Int) (hmo:∀ n:Nat,(n:Int)<mo↔n<m) (M:Nat) (s:ByteArray) (t:Pt) (us:List (It × Value)) (vi vp:Value) (w:World) (hs:s.size≤65536) (ho:ItsOk t us) (hit:us.map Prod.fst=t.items) (hm:MB w M s t us vi vp 0):
 Calls Tryz.prog 8 #[.pointer (some ⟨M,0,none⟩),.int .i64 mo] w fun e w'=>SaR w M s t us vi vp (allM s t m (s.size+2) 0 0 0) e w':=by
 have hML:M<w.heap.size:=by obtain ⟨_,_,_,_,_,_,h⟩:=hm.m;exact h.lt
 have HO:=hide (And.intro ho hit)
 have HMo:=hide hmo
 clear hmo
 obtain ⟨T,hT⟩:∃ T,allM s t m (s.size+2) 0 0 0=T:=⟨_,rfl⟩
 rw [hT]
 have kb:Keeps w (w.alloc (.cells #[] 32)) (fun _=>False):=Keeps.of (b_1 w _) (Nat.le_refl _) _
 have hI:SaI m w (w.alloc (.cells #[] 32)) M s t us vi vp T (.slice (some ⟨w.heap.size,0,none⟩) 0 0) [] 0 0 (s.size+2):=
  ⟨⟨⟨rfl,.inr ⟨w.heap.size,0,#[],rfl,Nat.le_refl _,heap_alloc_new w _,Nat.le_refl _,by simp,rfl,rfl⟩⟩,fun u hu=>by simp at hu,List.Pairwise.nil⟩,kb.mono (fun _ x=>x.elim),hm.low kb,by omega,by omega,by simp,by omega,by rw [←hT];simp⟩
 have HI:=hide hI
 clear hm ho hit hI kb hT
 go_enter Tryz.func8,Tryz.ntmps8
 go_wp2_with fail
 generalize w.alloc (.cells #[] 32)=w0 at *
 go_loopw [5,6] (fun ov av wr=>∃ (fs:List Fv) (at_ n k:Nat),av=.int .i64 at_∧Hid (SaI m w wr M s t us vi vp T ov fs at_ n k)) (fun _ av _=>s.size+2-ivN av)
 case atStart=>exact ⟨[],0,0,s.size+2,rfl,HI⟩
 case round=>
  clear HI
  obtain ⟨fs,at_,n,k0,rfl,HI⟩:=hrel
  obtain ⟨ao,co,rfl⟩:=owns_val HI.out.f.l
  obtain ⟨a1,q1,c1,a2,q2,c2,hmm⟩:=HI.out.mb.m
  have d0:wr.cell? ⟨M,0,none⟩=some (.string s):=hmm.cell (j:=0) (by omega)
  clear hmm
  have hl9:=HI.out.l9
  have ha9:=HI.out.a9
  have hn9:=HI.out.n9
  have hfu:=HI.out.fu
  have hkp:w.heap.size≤wr.heap.size:=HI.out.kp.size
  obtain ⟨k,rfl⟩:∃ k,k0=k+1:=⟨k0-1,by omega⟩
  by_cases hin:at_≤s.size
  ·have hin2:(at_:Int)≤(s.size:Int):=by omega
   by_cases hl:fs.length<m
   ·have hl2:(fs.length:Int)<mo:=(HMo.out _).2 hl
    go_wp2_with fail
    refine (search_any M s t us vi vp at_ n wr hs HO.out.1 HO.out.2 (by omega) hn9 HI.out.mb).mono ?_
    rintro e w2 ⟨hk2,hm2,hn2,hor⟩
    obtain ⟨r,hr⟩:∃ r,srM s t (s.size+1) at_ n=r:=⟨_,rfl⟩
    rw [hr] at hm2 hn2 hor
    obtain ⟨o,n2⟩:=r
    dsimp only at hm2 hn2 hor
    rcases hor with ⟨rfl,rfl⟩|⟨f,v,rfl,rfl,hv⟩
    ·have HT:=hide (HI.out.non hin hl hr)
     have kb:Keeps w2 (w2.alloc (.cells #[.int .i64 0,.int .i64 0,nilS] 32)) (fun _=>False):=Keeps.of (b_1 w2 _) (Nat.le_refl _) _
     have HF:=hide ((HI.out.f.keep hk2 (fun b (e:b=M)=>e ▸ hML)).keep kb (fun _ x=>x.elim))
     have HK:=hide ((HI.out.kp.trans hk2).fresh kb (fun _ x=>x.elim))
     have HM:=hide (hm2.low kb)
     clear hk2 hm2 hr HI kb d0
     go_wp2_with fail
     refine bodyPost_ret (v:=.slice ao fs.length co) ?_ rfl ⟨HK.out,by rw [HT.out];exact HM.out,by rw [HT.out];exact hn2,_,fs,rfl,by rw [HT.out],HF.out⟩
     simp [results,Tryz.results8,go_sem]
    ·obtain ⟨av,kv,rfl⟩:=owns_val hv
     have hrg:=srM_rng (s:=s) (t:=t) (k:=s.size+1) (at_:=at_) (n:=n) (f:=f) (by rw [hr])
     have hnx:=nxA_lt (s:=s) (t:=t) (k:=s.size+1) (at_:=at_) (n:=n) (f:=f) (by rw [hr])
     have HR:=hide hr
     have kb:Keeps w2 (w2.alloc (.cells #[.int .i64 f.fr,.int .i64 f.en,.slice av f.caps.length kv] 32)) (fun _=>False):=Keeps.of (b_1 w2 _) (Nat.le_refl _) _
     have HX:=hide (show RowF (w2.alloc (.cells #[.int .i64 f.fr,.int .i64 f.en,.slice av f.caps.length kv] 32)) 32 w2.heap.size 3 (fun j=>#[Value.int .i64 f.fr,.int .i64 f.en,.slice av f.caps.length kv].getD j (.bool false)) from RowF.mk' w2 32 #[.int .i64 f.fr,.int .i64 f.en,.slice av f.caps.length kv])
     have HF:=hide ((HI.out.f.keep hk2 (fun b (e:b=M)=>e ▸ hML)))
     have HF3:=hide (HF.out.keep kb (fun _ x=>x.elim))
     have HS:=hide (fun (w3 w5:World) (v':Value) (kb:Keeps w2 w3 (fun _=>False))=>HI.out.step (w3:=w3) (w5:=w5) (v':=v') hML hin hl hr hk2 hm2 hn2 hv kb)
     have hk9:wr.heap.size≤w2.heap.size:=hk2.size
     have HNE:=hide (show ∀ g,(Value.slice ao fs.length co).ownBlock=some g→g<w2.heap.size from fun g hg=>(owns_blt HF.out.l hg).2)
     have KB:=hide kb
     have HF3:=hide (HF.out.keep kb (fun _ x=>x.elim))
     clear hk2 hm2 hr HI kb d0 hv HF
     have x0:(w2.alloc (.cells #[.int .i64 f.fr,.int .i64 f.en,.slice av f.caps.length kv] 32)).cell? ⟨w2.heap.size,0,none⟩=some (.int .i64 f.fr):=HX.out.cell (j:=0) (by omega)
     have x1:(w2.alloc (.cells #[.int .i64 f.fr,.int .i64 f.en,.slice av f.caps.length kv] 32)).cell? ⟨w2.heap.size,1,none⟩=some (.int .i64 f.en):=HX.out.cell (j:=1) (by omega)
     have x2:(w2.alloc (.cells #[.int .i64 f.fr,.int .i64 f.en,.slice av f.caps.length kv] 32)).cell? ⟨w2.heap.size,2,none⟩=some (.slice av f.caps.length kv):=HX.out.cell (j:=2) (by omega)
     have hlt:w2.heap.size<(w2.alloc (.cells #[.int .i64 f.fr,.int .i64 f.en,.slice av f.caps.length kv] 32)).heap.size:=HX.out.lt
     go_upto_region 6 with (fail)
     generalize w2.alloc (.cells #[.int .i64 f.fr,.int .i64 f.en,.slice av f.caps.length kv] 32)=w3 at *
     generalize w2.heap.size=X at *
     go_upto_region 8 with (first
      |(have _z:=HNE
        at_builtin
        clear _z
        refine app_new rfl _ _ 40 32 3 40 _ rfl Tryz.underlying40 Tryz.infoFd rfl (by omega) w.heap.size (.slice ao fs.length co) fs.length (fsC fs) [.int .i64 f.fr,.int .i64 f.en,.slice av f.caps.length kv] HF3.out.l rfl rfl rfl (one_fd _ _ _ _ _) (by omega) (by omega) (by omega) ?_
        intro v' w5 h1 _ h2 h3
        obtain ⟨a9,k9,rfl⟩:=owns_val h1
        have HI5:=hide (HS.out _ _ _ KB.out h1 h2 h3)
        have hX5:=HX.out.same (h3 _ hlt (fun e=>by have:=HNE.out _ e;omega))
        have r0:w5.cell? ⟨X,0,none⟩=some (.int .i64 f.fr):=hX5.cell (j:=0) (by omega)
        have r1:w5.cell? ⟨X,1,none⟩=some (.int .i64 f.en):=hX5.cell (j:=1) (by omega)
        clear h1 h2 h3 hX5)
      |fail)
     clear x0 x1 x2 HX HF3 KB HS HNE
     by_cases hfe:f.en=f.fr
     ·have hfe2:((f.en:Int)==(f.fr:Int))=true:=by rw [hfe];simp
      have HNX:=hide (show nxA f=f.en+1 by rw [nxA,if_pos hfe])
      clear hfe
      go_wp2_with fail
      go_roundw
      case rel=>exact ⟨fs++[(f,.slice av f.caps.length kv)],nxA f,n2,k,by rw [HNX.out];simp,HI5⟩
      case measure=>have:=HNX.out;simp [ivN];omega
     ·have hfe2:((f.en:Int)==(f.fr:Int))=false:=by simp;omega
      have HNX:=hide (show nxA f=f.en by rw [nxA,if_neg hfe])
      clear hfe
      go_wp2_with fail
      go_roundw
      case rel=>exact ⟨fs++[(f,.slice av f.caps.length kv)],nxA f,n2,k,by rw [HNX.out],HI5⟩
      case measure=>have:=HNX.out;simp [ivN];omega
   ·have hl2:¬ ((fs.length:Int)<mo):=fun e=>hl ((HMo.out _).1 e)
    have HT:=hide (HI.out.fin (fun h=>hl h.2))
    have HF:=hide HI.out.f
    have HK:=hide HI.out.kp
    have HM:=hide HI.out.mb
    clear HI
    go_wp2_with fail
    refine bodyPost_ret (v:=.slice ao fs.length co) ?_ rfl ⟨HK.out,by rw [HT.out];exact HM.out,by rw [HT.out];exact hn9,_,fs,rfl,by rw [HT.out],HF.out⟩
    simp [results,Tryz.results8,go_sem]
  ·have hin2:¬ ((at_:Int)≤(s.size:Int)):=by omega
   have HT:=hide (HI.out.fin (fun h=>hin h.1))
   have HF:=hide HI.out.f
   have HK:=hide HI.out.kp
   have HM:=hide HI.out.mb
   clear HI
   go_wp2_with fail
   refine bodyPost_ret (v:=.slice ao fs.length co) ?_ rfl ⟨HK.out,by rw [HT.out];exact HM.out,by rw [HT.out];exact hn9,_,fs,rfl,by rw [HT.out],HF.out⟩
   simp [results,Tryz.results8,go_sem]
end Go.Proofs.YtlgodacccilabaaGreatDoor
namespace Go.Proofs.YtlgodacccilabaaGreatDoor
open Go Go.RowKit
set_option linter.unusedVariables false
def OrdF:Nat→List Fd→Prop
 |_,[]=>True
 |a,f::r=>a≤f.fr∧OrdF f.en r
theorem OrdF.mono:∀ {r:List Fd} {a b:Nat},OrdF a r→b≤a→OrdF b r
 | [],_,_,_,_=>trivial
 |f::r,a,b,h,hb=>⟨Nat.le_trans hb h.1,h.2⟩
theorem allM_ok {s:ByteArray} {t:Pt} {m:Nat} (hk:PtK t):∀ {k at_ n c:Nat},OrdF at_ (allM s t m k at_ n c).1∧∀ f∈(allM s t m k at_ n c).1,FdK s t f
 |0,at_,n,c=>⟨trivial,fun f hf=>by simp [allM] at hf⟩
 |k+1,at_,n,c=>by
  by_cases h:at_≤s.size∧c<m
  ·obtain ⟨r,hr⟩:∃ r,srM s t (s.size+1) at_ n=r:=⟨_,rfl⟩
   obtain ⟨o,n'⟩:=r
   cases o with
   |none=>rw [allM_none h hr];exact ⟨trivial,fun f hf=>by simp at hf⟩
   |some f=>
    rw [allM_some h hr]
    obtain ⟨h1,h2⟩:=srM_k hk (s:=s) (k:=s.size+1) (at_:=at_) (n:=n) (f:=f) (by rw [hr])
    obtain ⟨i1,i2⟩:=allM_ok (s:=s) (m:=m) hk (k:=k) (at_:=nxA f) (n:=n') (c:=c+1)
    refine ⟨⟨h1,i1.mono (by unfold nxA;split<;>omega)⟩,fun g hg=>?_⟩
    rcases List.mem_cons.1 hg with e|e
    ·rw [e];exact h2
    ·exact i2 g e
  ·rw [allM_end h];exact ⟨trivial,fun f hf=>by simp at hf⟩
theorem allM_len {s:ByteArray} {t:Pt} {m:Nat}:∀ {k at_ n c:Nat},(allM s t m k at_ n c).1.length≤s.size+1-at_
 |0,at_,n,c=>by simp [allM]
 |k+1,at_,n,c=>by
  by_cases h:at_≤s.size∧c<m
  ·obtain ⟨r,hr⟩:∃ r,srM s t (s.size+1) at_ n=r:=⟨_,rfl⟩
   obtain ⟨o,n'⟩:=r
   cases o with
   |none=>rw [allM_none h hr];simp
   |some f=>
    rw [allM_some h hr]
    have h1:=nxA_lt (s:=s) (t:=t) (k:=s.size+1) (at_:=at_) (n:=n) (f:=f) (by rw [hr])
    have h2:=allM_len (s:=s) (t:=t) (m:=m) (k:=k) (at_:=nxA f) (n:=n') (c:=c+1)
    simp only [List.length_cons]
    omega
  ·rw [allM_end h];simp
theorem fold_at (s:ByteArray) (ps:List Pc):∀ (fs:List Fd) (x:List UInt8 × Nat) (j:Nat) (hj:j<fs.length),OrdF x.2 fs→((fs.take j).foldl (stp s ps) x).2≤fs[j].fr
 | [],x,j,hj,_=>by simp at hj
 |f::r,x,0,hj,h=>h.1
 |f::r,x,j+1,hj,h=>by
  have:=fold_at s ps r (stp s ps x f) j (by simpa using hj) h.2
  simpa using this
theorem stW_at {s:ByteArray} {ps:List Pc} {fs:List Fd} (h:OrdF 0 fs) {j:Nat} (hj:j<fs.length):(stW s ps (fs.take j)).2≤fs[j].fr:=fold_at s ps fs ([],0) j hj h
theorem stW_take (s:ByteArray) (ps:List Pc) (fs:List Fd) {j:Nat} (hj:j<fs.length):stW s ps (fs.take (j+1))=stp s ps (stW s ps (fs.take j)) fs[j]:=by
 rw [List.take_succ_eq_append_getElem hj,stW_snoc]
theorem stW_end {s:ByteArray} {t:Pt} (ps:List Pc):∀ (fs:List Fd),(∀ f∈fs,FdK s t f)→(stW s ps fs).2≤s.size:=by
 intro fs h
 rcases fs.eq_nil_or_concat with rfl|⟨r,f,rfl⟩
 ·simp [stW]
 ·rw [List.concat_eq_append] at h ⊢
  rw [stW_snoc]
  exact (h f (by simp)).en
theorem fsC_at:∀ (l:List Fv) (i:Nat) (h:i<l.length),(fsC l)[i*3]?=some (.int .i64 (l[i].1.fr:Int))∧(fsC l)[i*3+1]?=some (.int .i64 (l[i].1.en:Int))∧(fsC l)[i*3+2]?=some l[i].2
 | [],i,h=>by simp at h
 |c::l,0,h=>⟨rfl,rfl,rfl⟩
 |c::l,i+1,h=>by
  have ih:=fsC_at l i (by simpa using h)
  rw [show fsC (c::l)=[.int .i64 (c.1.fr:Int),.int .i64 (c.1.en:Int),c.2]++fsC l from rfl]
  rw [List.getElem?_append_right (by simp;omega),List.getElem?_append_right (by simp;omega),List.getElem?_append_right (by simp;omega)]
  simp only [List.length_cons,List.length_nil]
  rw [show (i+1)*3-(0+1+1+1)=i*3 by omega,show (i+1)*3+1-(0+1+1+1)=i*3+1 by omega,show (i+1)*3+2-(0+1+1+1)=i*3+2 by omega]
  exact ih
theorem FsO.cells {w:World} {B g n cap:Nat} {us:List Fv} (h:FsO w B (.slice (some ⟨g,0,none⟩) n cap) us) {i:Nat} (hi:i<us.length):
 w.cell? ⟨g,i*3,none⟩=some (.int .i64 (us[i].1.fr:Int))∧w.cell? ⟨g,i*3+1,none⟩=some (.int .i64 (us[i].1.en:Int))∧w.cell? ⟨g,i*3+2,none⟩=some us[i].2:=by
 have h3:=fsC_at us i hi
 have hc:∀ j u,(fsC us)[j]?=some u→w.cell? ⟨g,j,none⟩=some u:=fun j u hj=>by
  have:=h.l.cells (g:=g) rfl j u hj
  rwa [add_none',Nat.zero_add] at this
 exact ⟨hc _ _ h3.1,hc _ _ h3.2.1,hc _ _ h3.2.2⟩
def gsubM (s p t:ByteArray) (m:Nat):ByteArray × Nat × Int:=
 if 65536<s.size then (⟨#[]⟩,0,1)
 else match rdPat p with
  |none=>(⟨#[]⟩,0,2)
  |some q=>match rdRp t q.caps (t.size+1) 0 with
   |none=>(⟨#[]⟩,0,5)
   |some ps=>if 50000<(allM s q m (s.size+2) 0 0 0).2 then (⟨#[]⟩,0,4) else gsE s ps (allM s q m (s.size+2) 0 0 0).1
def GsR (r:ByteArray × Nat × Int) (w:World) (e:Ending) (w':World):Prop:=Below w.heap.size w w'∧e=.returned (.tuple #[.string r.1,.int .i64 (r.2.1:Int),.int .i64 r.2.2])
theorem gsE_long {s:ByteArray} {ps:List Pc} {fs:List Fd} {j:Nat} (h:65536<(stW s ps (fs.take j)).1.length):gsE s ps fs=(⟨#[]⟩,0,6):=by
 unfold gsE
 rw [if_pos]
 have h1:=stW_le s ps (fs.take j) (fs.drop j)
 rw [List.take_append_drop] at h1
 unfold whW
 rw [List.length_append]
 omega
end Go.Proofs.YtlgodacccilabaaGreatDoor
namespace Go.Proofs.YtlgodacccilabaaGreatDoor
open Go Go.RowKit Go.Shelf
set_option linter.unusedVariables false
attribute [local go_sem] Oper.semAt_some
def NoC (W:World) (b:Nat):Prop:=∀ arr T fr,W.heap[b]?≠some (.cells arr T fr)
theorem RowF.noc {w:World} {T g N:Nat} {f:Nat→Value} (h:RowF w T g N f):¬ NoC w g:=by
 obtain ⟨cur,h1,_⟩:=h
 exact fun x=>x _ _ _ h1
def KpG (Own:World→Nat→Prop) (A C:World):Prop:=∀ b arr T fr,A.heap[b]?=some (.cells arr T fr)→¬ Own A b→C.heap[b]?=A.heap[b]?∧¬ Own C b
theorem KpG.trans {Own:World→Nat→Prop} {A B C:World} (h:KpG Own A B) (k:KpG Own B C):KpG Own A C:=fun b arr T fr h1 h3=>by
 obtain ⟨e1,n1⟩:=h b arr T fr h1 h3
 obtain ⟨e2,n2⟩:=k b arr T fr (e1.trans h1) n1
 exact ⟨e2.trans e1,n2⟩
theorem KpG.row {Own:World→Nat→Prop} {T g N:Nat} {A C:World} {f:Nat→Value} (h:KpG Own A C) (hr:RowF A T g N f) (ho:¬ Own A g):RowF C T g N f:=by
 obtain ⟨cur,h1,h2⟩:=hr
 exact ⟨cur,(h g _ _ _ h1 ho).1.trans h1,h2⟩
structure LpK (X:Sx) (Own:World→Nat→Prop) (LP:List Fv→World→Prop):Prop where
 noc:∀ pre W C P,LP pre W→Keeps W C P→(∀ b,P b→NoC W b)→LP pre C
 look:∀ pre W C n nt to_,LP pre W→SB W X.S X.s X.fx X.cn X.wh n nt to_→Keeps W C (fun b=>b=X.S)→LP pre C
 ownS:∀ pre W n nt to_,LP pre W→SB W X.S X.s X.fx X.cn X.wh n nt to_→¬ Own W X.S
 ownlt:∀ pre W b,LP pre W→Own W b→b<W.heap.size
 ownk:∀ pre W C b,LP pre W→Keeps W C (fun _=>False)→Own C b→Own W b
structure Ai (W0:World) (X:Sx) (D:World→Prop) (N:Nat) (LP:List Fv→World→Prop) (pre:List Fv) (W:World):Prop where
 ls:LP pre W
 sb:∃ n nt to_,SB W X.S X.s X.fx X.cn X.wh n nt to_∧n≤1000000
 d:D W
 bl:Below W0.heap.size W0 W
 ln:pre.length<N
section
variable {W0 W C : World} {X : Sx} {D : World → Prop} {N : Nat} {Own : World → Nat → Prop} {LP : List Fv → World → Prop} {pre : List Fv}
theorem Ai.keep {P:Nat→Prop} (hl:LpK X Own LP) (h:Ai W0 X D N LP pre W) (k:Keeps W C P) (hP:∀ b,P b→W0.heap.size≤b∧NoC W b) (hd:D C):Ai W0 X D N LP pre C:=by
 obtain ⟨n,nt,to_,s1,s2⟩:=h.sb
 exact ⟨hl.noc _ _ _ _ h.ls k (fun b e=>(hP b e).2),⟨n,nt,to_,s1.keep k (fun e=>RowF.noc s1 (hP _ e).2),s2⟩,hd,h.bl.trans (k.below h.bl.size (fun b e=>(hP b e).1)),h.ln⟩
theorem Ai.look (hl:LpK X Own LP) (h:Ai W0 X D N LP pre W) (k:Keeps W C (fun b=>b=X.S)) (hS:W0.heap.size≤X.S) (hs:∃ n nt to_,SB C X.S X.s X.fx X.cn X.wh n nt to_∧n≤1000000) (hd:D C):Ai W0 X D N LP pre C:=by
 obtain ⟨n,nt,to_,s1,s2⟩:=h.sb
 exact ⟨hl.look _ _ _ _ _ _ h.ls s1 k,hs,hd,h.bl.trans (k.below h.bl.size (fun b (e:b=X.S)=>e ▸ hS)),h.ln⟩
end
theorem ai_own {W0:World} {Bd B9 N:Nat} {X:Sx} {pl:Nat→Bool} {fn:Nat} {bd cs:Array Value} {D:World→Prop} {Own:World→Nat→Prop} {LP:List Fv→World→Prop} (hl:LpK X Own LP) (hx:WyAll X pl fn bd cs D Bd) (hB:Bd≤B9) (hW0:W0.heap.size≤B9):OwnFrom B9 (Ai W0 X D N LP):=by
 rintro pre W C row h hg hr
 have k:Keeps W C (fun b=>row=some b):=⟨hg.os,hg.tape,hg.output,hg.size,fun b hb hn=>hg.block b hb (fun e=>hn e.symm)⟩
 have hd:D C:=by
  cases row with
  |none=>exact hx.new _ _ h.d (k.mono (fun b e=>by cases e))
  |some r=>exact hx.fresh _ _ r h.d (k.mono (fun b e=>by cases e;rfl)) (Nat.le_trans hB (hr r rfl).1)
 refine h.keep hl k (fun b e=>⟨?_,?_⟩) hd
 ·have:=(hr b e).1
  omega
 ·obtain ⟨_,o,ho,hc⟩:=hr b e
  intro arr T fr h9
  rw [ho] at h9
  cases h9
  simp [Obj.isCells] at hc
def Vx (X:Sx) (Bd:Nat) (T:List Fd × Nat) (pre:List Fv) (x:Fv) (W:World):Prop:=
 W.ownsRow Bd 56 3 x.2 x.1.caps.length (capC x.1.caps)∧(∃ rest,T.1=pre.map Prod.fst++x.1::rest)∧∃ n nt to_,SB W X.S X.s X.fx X.cn X.wh n nt to_∧n≤50000
def encF (x:Fv):Array Value:=#[.agg #[.int .i64 (x.1.fr:Int),.int .i64 (x.1.en:Int),x.2]]
def Se (X:Sx) (T:List Fd × Nat) (xs:List Fv) (W:World):Prop:=
 (T.2≤50000∧xs.map Prod.fst=T.1∧∃ nt to_,SB W X.S X.s X.fx X.cn X.wh T.2 nt to_)∨(50000<T.2∧∃ n nt to_,SB W X.S X.s X.fx X.cn X.wh n nt to_∧50000<n∧n≤1000000)
def Sq (N:Nat) (T:List Fd × Nat) (pre:List Fv):Prop:=pre.length=N→T.2≤50000∧pre.map Prod.fst=T.1
theorem allM_much {s:ByteArray} {t:Pt} {m:Nat}:∀ {k at_ n c:Nat},50000<n→(allM s t m k at_ n c).2=n
 |0,_,_,_,_=>rfl
 |k+1,at_,n,c,h=>by
  by_cases h1:at_≤s.size∧c<m
  ·rw [allM_none h1 (srM_out (by omega))]
  ·rw [allM_end h1]
end Go.Proofs.YtlgodacccilabaaGreatDoor
namespace Go.Proofs.YtlgodacccilabaaGreatDoor
open Go Go.RowKit Go.Shelf
set_option linter.unusedVariables false
attribute [local go_sem] Oper.semAt_some
structure AlC (N:Nat) (Own:World→Nat→Prop) (LP:List Fv→World→Prop) (W0:World) (Bd B9:Nat) (X:Sx) (t:Pt) (fn:Nat) (bd cs:Array Value) (D:World→Prop) (J:List Fv→World→Prop):Prop where
 lk:LpK X Own LP
 hs:X.s.size≤65536
 hwh:X.wh=.func (.func fn) bd cs
 hfx:X.fx=t.start
 hcn:X.cn=t.caps
 hits:X.its=t.items
 hk:PtK t
 hlen:t.items.length≤200
 hx:WyAll X t.place fn bd cs D Bd
 hS0:W0.heap.size≤X.S
 hSB:X.S<B9
 hBd:Bd≤B9
 hJ:∀ pre A,J pre A→Ai W0 X D N LP pre A∧B9+2≤A.heap.size
 hJs:∀ pre A C,J pre A→Ai W0 X D N LP pre C→(∀ b,B9≤b→b<B9+2→C.heap[b]?=A.heap[b]?)→J pre C
structure AlI (N:Nat) (X:Sx) (t:Pt) (T:List Fd × Nat) (J:List Fv→World→Prop) (pre:List Fv) (at_ n k:Nat) (wr:World):Prop where
 j:J pre wr
 sb:∃ nt to_,SB wr X.S X.s X.fx X.cn X.wh n nt to_
 n9:n≤50000
 a9:at_≤X.s.size+1
 fu:X.s.size+2≤k+at_
 val:T=(pre.map Prod.fst++(allM X.s t N k at_ n pre.length).1,(allM X.s t N k at_ n pre.length).2)
section
variable {W0 : World} {Bd B9 N : Nat} {Own : World → Nat → Prop} {LP : List Fv → World → Prop} {X : Sx} {t : Pt} {fn : Nat} {bd cs : Array Value} {D : World → Prop} {J : List Fv → World → Prop} {T : List Fd × Nat} {pre : List Fv} {at_ n k : Nat} {wr w2 w3 : World}
theorem WyAll.mono {pl:Nat→Bool} {B B':Nat} (h:WyAll X pl fn bd cs D B) (hB:B≤B'):WyAll X pl fn bd cs D B':=⟨h.ok,fun w w' b h1 h2 h3=>h.fresh w w' b h1 h2 (Nat.le_trans hB h3),h.new⟩
theorem AlC.look (C:AlC N Own LP W0 Bd B9 X t fn bd cs D J) (hj:J pre wr) (hk2:Keeps wr w2 (fun b=>b=X.S)) (hD:D w2) (hs:∃ n nt to_,SB w2 X.S X.s X.fx X.cn X.wh n nt to_∧n≤1000000) (kb:Keeps w2 w3 (fun _=>False)):Ai W0 X D N LP pre w2∧Ai W0 X D N LP pre w3∧J pre w3:=by
 obtain ⟨a1,a2⟩:=C.hJ _ _ hj
 have b1:=a1.look C.lk hk2 C.hS0 hs hD
 have b2:=b1.keep C.lk kb (fun _ x=>x.elim) (C.hx.new _ _ hD kb)
 have hSB:=C.hSB
 refine ⟨b1,b2,C.hJs _ _ _ hj b2 (fun b h1 h2=>(kb.block b (by have:=hk2.size;omega) (fun x=>x)).trans (hk2.block b (by omega) (by omega)))⟩
theorem AlI.fin (h:AlI N X t T J pre at_ n (k+1) wr) (hc:¬ at_≤X.s.size):Se X T pre wr:=by
 obtain ⟨nt,to_,hb⟩:=h.sb
 have hv:=h.val
 rw [allM_end (fun x=>hc x.1)] at hv
 subst hv
 exact .inl ⟨h.n9,by simp,nt,to_,hb⟩
theorem AlI.non (h:AlI N X t T J pre at_ n (k+1) wr) (hc:at_≤X.s.size) (hl:pre.length<N) {n':Nat} {nt:Nt} {to_:Nat} {r:Option Fd × Nat} (hr:srM X.s t (X.s.size+1) at_ n=r) (h1:r.2≤50000) (h2:n'=r.2) (h3:r.1=none) (hb:SB w3 X.S X.s X.fx X.cn X.wh n' nt to_):Se X T pre w3:=by
 obtain ⟨o,n2⟩:=r
 dsimp only at *
 subst h2 h3
 have hv:=h.val
 rw [allM_none ⟨hc,hl⟩ hr] at hv
 subst hv
 exact .inl ⟨h1,by simp,nt,to_,hb⟩
theorem AlI.spt (h:AlI N X t T J pre at_ n (k+1) wr) (hc:at_≤X.s.size) (hl:pre.length<N) {n':Nat} {nt:Nt} {to_:Nat} {r:Option Fd × Nat} (hr:srM X.s t (X.s.size+1) at_ n=r) (h1:50000<r.2) (h2:50000<n') (h3:n'≤1000000) (hb:SB w3 X.S X.s X.fx X.cn X.wh n' nt to_):Se X T pre w3:=by
 obtain ⟨o,n2⟩:=r
 dsimp only at *
 refine .inr ⟨?_,n',nt,to_,hb,h2,h3⟩
 have hv:=h.val
 cases o with
 |none=>
  rw [allM_none ⟨hc,hl⟩ hr] at hv
  subst hv
  exact h1
 |some f=>
  rw [allM_some ⟨hc,hl⟩ hr] at hv
  subst hv
  show 50000<(allM X.s t N k (nxA f) n2 (pre.length+1)).2
  rw [allM_much h1]
  exact h1
theorem AlC.found (C:AlC N Own LP W0 Bd B9 X t fn bd cs D J) (h:AlI N X t T J pre at_ n (k+1) wr) (hc:at_≤X.s.size) {n':Nat} {nt:Nt} {to_:Nat} {r:Option Fd × Nat} {f:Fd} {v:Value} (hr:srM X.s t (X.s.size+1) at_ n=r) (h1:r.2≤50000) (h2:n'=r.2) (h3:r.1=some f)
 (hk2:Keeps wr w2 (fun b=>b=X.S)) (hD:D w2) (hb:SB w2 X.S X.s X.fx X.cn X.wh n' nt to_) (hv:w2.ownsRow wr.heap.size 56 3 v f.caps.length (capC f.caps)) (kb:Keeps w2 w3 (fun _=>False)) {g3:Nat→Value} (hX:RowF w3 32 w2.heap.size 3 g3):
 J pre w3∧Vx X Bd T pre (f,v) w3∧pre.length<N∧(Sq N T (pre++[(f,v)]))∧∀ W4,J (pre++[(f,v)]) W4→KpG Own w3 W4→AlI N X t T J (pre++[(f,v)]) (nxA f) n' k W4∧RowF W4 32 w2.heap.size 3 g3:=by
 obtain ⟨o,n2⟩:=r
 dsimp only at *
 subst h2 h3
 obtain ⟨a1,a2⟩:=C.hJ _ _ h.j
 have hl:=a1.ln
 have hBd:=C.hBd
 obtain ⟨b1,b2,b3⟩:=C.look h.j hk2 hD ⟨n',nt,to_,hb,by omega⟩ kb
 have hb3:=hb.keep kb (fun x=>x)
 have hval:=h.val
 rw [allM_some ⟨hc,hl⟩ hr] at hval
 have hnx:=nxA_lt (s:=X.s) (t:=t) (k:=X.s.size+1) (at_:=at_) (n:=n) (f:=f) (by rw [hr])
 refine ⟨b3,⟨owns_less (owns_keep hv kb (fun _ x=>x.elim)) (by omega),⟨_,by rw [hval]⟩,n',nt,to_,hb3,h1⟩,hl,fun h9=>?_,fun W4 hj4 hk4=>⟨⟨hj4,⟨nt,to_,?_⟩,h1,hnx.2,by have:=h.fu;omega,?_⟩,?_⟩⟩
 ·have e9:pre.length+1=N:=by simpa using h9
  have hh:∀ k9,allM X.s t N k9 (nxA f) n' (pre.length+1)=([],n'):=fun k9=>by
   cases k9 with
   |zero=>rfl
   |succ k9=>exact allM_end (fun x=>by omega)
  rw [hh] at hval
  subst hval
  exact ⟨h1,by simp⟩
 ·exact KpG.row hk4 hb3 (C.lk.ownS _ _ _ _ _ b2.ls hb3)
 ·rw [hval]
  simp
 ·exact KpG.row hk4 hX (fun e=>by have:=C.lk.ownlt _ _ _ b1.ls (C.lk.ownk _ _ _ _ b1.ls kb e);omega)
end
set_option maxRecDepth 100000 in
set_option maxHeartbeats 3200000 in
theorem all_in {N:Nat} {Own:World→Nat→Prop} {LP:List Fv→World→Prop} {W0:World} {Bd B9:Nat} {X:Sx} {t:Pt} {fn:Nat} {bd cs:Array Value} {D:World→Prop} {J Jx:List Fv→World→Prop} (T:List Fd × Nat) (C:AlC N Own LP W0 Bd B9 X t fn bd cs D J) (n l:Nat) (hn:1≤n) (hT:allM X.s t N (X.s.size+2) 0 0 0=T)
 (hY:∀ pre x W1,J pre W1→Vx X Bd T pre x W1→pre.length<N→YieldAt Fence.wide (n-1) Tryz.prog l (encF x) W1 fun e W'=>(e=.returned (.bool true)∧J (pre++[x]) W'∧KpG Own W1 W')∨(e=.returned (.bool false)∧Jx (pre++[x]) W'))
 (W:World) (h0:J [] W) (hsb:∃ nt to_,SB W X.S X.s X.fx X.cn X.wh 0 nt to_):
 CallsIn Fence.wide n Tryz.prog 22 #[.pointer (some ⟨X.S,0,none⟩),.func (.yield l) #[] #[]] W fun e W'=>(∃ v,e=.returned v)∧((∃ xs,Se X T xs W'∧J xs W')∨(∃ pre,Sq N T pre∧Jx pre W')):=by
 have HC:=hide C
 have HY:=hide hY
 have HI:=hide (show AlI N X t T J [] 0 0 (X.s.size+2) W from ⟨h0,hsb,by omega,by omega,by omega,by rw [←hT];simp⟩)
 have hs9:=C.hs
 clear C hY hsb h0 hT
 refine callsIn_of_wp Tryz.func22 rfl trivial ?_ rfl
 simp only [Tryz.ntmps22,List.size_toArray,List.length_cons,List.length_nil,Nat.reduceAdd,Nat.reduceSub,Array.replicate_succ,Array.replicate_zero,List.push_toArray,List.append_toArray,List.nil_append,List.cons_append]
 gi_wp2
 gi_loopw [4] (fun av wr=>∃ (pre:List Fv) (at_ n1 k:Nat),av=.int .i64 at_∧at_≤X.s.size+1∧X.s.size+2≤k+at_∧Hid (AlI N X t T J pre at_ n1 k wr)) (fun av _=>X.s.size+2-ivN av)
 case atStart=>exact ⟨[],0,0,X.s.size+2,rfl,by omega,by omega,HI⟩
 case round=>
  clear HI
  obtain ⟨pre,at_,n1,k0,rfl,ha9,hfu,HI⟩:=hrel
  obtain ⟨k,rfl⟩:∃ k,k0=k+1:=⟨k0-1,by omega⟩
  obtain ⟨nt,to_,hb⟩:=HI.out.sb
  have HSB:=hide hb
  have d0:wr.cell? ⟨X.S,0,none⟩=some (.string X.s):=hb.subj
  clear hb
  by_cases hin:at_≤X.s.size
  ·have hin2:(at_:Int)≤(X.s.size:Int):=by omega
   have HF:=hide (first_any X t fn bd cs D at_ n1 nt to_ wr hs9 HC.out.hwh HC.out.hfx HC.out.hcn HC.out.hits HC.out.hk HC.out.hlen (HC.out.hx.mono (by have:=(HC.out.hJ _ _ HI.out.j).2;have:=HC.out.hBd;omega)) (HC.out.hJ _ _ HI.out.j).1.d HSB.out HI.out.n9 hin)
   gi_wp2
   refine ⟨trivial,(callsIn_wide.2 HF.out).mono ?_⟩
   clear HF d0
   obtain ⟨r,hr⟩:∃ r,srM X.s t (X.s.size+1) at_ n1=r:=⟨_,rfl⟩
   rw [hr]
   have hl:=(HC.out.hJ _ _ HI.out.j).1.ln
   rintro e w2 ⟨hk2,hD2,n',nt',to',hb2,(⟨r1,r2,r3,rfl⟩|⟨r1,r2,r3,rfl⟩|⟨r1,r2,f,v,r3,rfl,hv⟩)⟩
   ·have kb:Keeps w2 (w2.alloc (.cells #[.int .i64 0,.int .i64 0,nilS] 32)) (fun _=>False):=Keeps.of (b_1 w2 _) (Nat.le_refl _) _
    have HSe:=hide (HI.out.spt hin hl hr r1 r2 r3 (hb2.keep kb (fun x=>x)))
    have HJ:=hide (HC.out.look HI.out.j hk2 hD2 ⟨n',nt',to',hb2,r3⟩ kb).2.2
    clear hk2 hD2 hb2 kb HI HSB hr r1 r2 r3
    gi_wp2
    refine ⟨(fun f h=>nomatch h),?_⟩
    gi_wp2
    refine bodyPost_ret (results_none rfl _ _ _) rfl ?_
    exact ⟨⟨_,rfl⟩,.inl ⟨_,HSe.out,HJ.out⟩⟩
   ·have kb:Keeps w2 (w2.alloc (.cells #[.int .i64 0,.int .i64 0,nilS] 32)) (fun _=>False):=Keeps.of (b_1 w2 _) (Nat.le_refl _) _
    have HSe:=hide (HI.out.non hin hl hr r1 r2 r3 (hb2.keep kb (fun x=>x)))
    have HJ:=hide (HC.out.look HI.out.j hk2 hD2 ⟨n',nt',to',hb2,by omega⟩ kb).2.2
    clear hk2 hD2 hb2 kb HI HSB hr r1 r2 r3
    gi_wp2
    refine ⟨(fun f h=>nomatch h),?_⟩
    gi_wp2
    refine bodyPost_ret (results_none rfl _ _ _) rfl ?_
    exact ⟨⟨_,rfl⟩,.inl ⟨_,HSe.out,HJ.out⟩⟩
   ·obtain ⟨av,kv,rfl⟩:=owns_val hv
    have kb:Keeps w2 (w2.alloc (.cells #[.int .i64 f.fr,.int .i64 f.en,.slice av f.caps.length kv] 32)) (fun _=>False):=Keeps.of (b_1 w2 _) (Nat.le_refl _) _
    have hX:RowF (w2.alloc (.cells #[.int .i64 f.fr,.int .i64 f.en,.slice av f.caps.length kv] 32)) 32 w2.heap.size 3 (fun j=>#[Value.int .i64 f.fr,.int .i64 f.en,.slice av f.caps.length kv].getD j (.bool false)):=RowF.mk' w2 32 #[.int .i64 f.fr,.int .i64 f.en,.slice av f.caps.length kv]
    obtain ⟨g1,g2,g3,g4,g5⟩:=HC.out.found HI.out hin hr r1 r2 r3 hk2 hD2 hb2 hv kb hX
    have hnx:=nxA_lt (s:=X.s) (t:=t) (k:=X.s.size+1) (at_:=at_) (n:=n1) (f:=f) (by rw [hr];exact r3)
    have hrg:=srM_rng (s:=X.s) (t:=t) (k:=X.s.size+1) (at_:=at_) (n:=n1) (f:=f) (by rw [hr];exact r3)
    obtain ⟨yf,ytmps,yassign,ybody,hy,hR⟩:=HY.out _ _ _ g1 g2 g3
    dsimp only [encF] at hy
    have HR:=hide hR
    have H4:=hide g4
    have H5:=hide g5
    have x0:(w2.alloc (.cells #[.int .i64 f.fr,.int .i64 f.en,.slice av f.caps.length kv] 32)).cell? ⟨w2.heap.size,0,none⟩=some (.int .i64 f.fr):=hX.cell (j:=0) (by omega)
    have x1:(w2.alloc (.cells #[.int .i64 f.fr,.int .i64 f.en,.slice av f.caps.length kv] 32)).cell? ⟨w2.heap.size,1,none⟩=some (.int .i64 f.en):=hX.cell (j:=1) (by omega)
    have x2:(w2.alloc (.cells #[.int .i64 f.fr,.int .i64 f.en,.slice av f.caps.length kv] 32)).cell? ⟨w2.heap.size,2,none⟩=some (.slice av f.caps.length kv):=hX.cell (j:=2) (by omega)
    clear hk2 hD2 hb2 kb HI HSB hr r1 r2 r3 g1 g2 g4 g5 hR hv hX HY
    gi_wp2
    refine HR.out.mono ?_
    rintro e W4 (⟨rfl,hJ4,hk4⟩|⟨rfl,hJx4⟩)
    ·obtain ⟨hI5,hX5⟩:=H5.out W4 hJ4 hk4
     have HI5:=hide hI5
     have r0:W4.cell? ⟨w2.heap.size,0,none⟩=some (.int .i64 f.fr):=hX5.cell (j:=0) (by omega)
     have r1:W4.cell? ⟨w2.heap.size,1,none⟩=some (.int .i64 f.en):=hX5.cell (j:=1) (by omega)
     clear hI5 hX5 hJ4 hk4 H5 HR x0 x1 x2 hy
     by_cases hfe:f.fr=f.en
     ·have hfe2:((f.fr:Int)==(f.en:Int))=true:=by rw [hfe];simp
      have HNX:=hide (show nxA f=f.en+1 by rw [nxA,if_pos hfe.symm])
      clear hfe
      gi_wp2
      go_roundw
      case rel=>exact ⟨_,nxA f,n',k,by rw [HNX.out];simp,hnx.2,by omega,HI5⟩
      case measure=>have:=HNX.out;simp [ivN];omega
     ·have hfe2:((f.fr:Int)==(f.en:Int))=false:=by simp;omega
      have HNX:=hide (show nxA f=f.en by rw [nxA,if_neg (fun e=>hfe e.symm)])
      clear hfe
      gi_wp2
      go_roundw
      case rel=>exact ⟨_,nxA f,n',k,by rw [HNX.out],hnx.2,by omega,HI5⟩
      case measure=>have:=HNX.out;simp [ivN];omega
    ·clear HR H5 hy x0 x1 x2
     gi_wp2
     refine bodyPost_ret (results_none rfl _ _ _) rfl ?_
     exact ⟨⟨_,rfl⟩,.inr ⟨_,H4.out,hJx4⟩⟩
  ·have hin2:¬ ((at_:Int)≤(X.s.size:Int)):=by omega
   have HSe:=hide (HI.out.fin hin)
   gi_wp2
   go_end0
   exact ⟨⟨_,rfl⟩,.inl ⟨_,HSe.out,HI.out.j⟩⟩
end Go.Proofs.YtlgodacccilabaaGreatDoor
namespace Go.Proofs.YtlgodacccilabaaGreatDoor
open Go Go.RowKit
set_option linter.unusedVariables false
def rpF (P:ByteArray) (sv:Nat→Value):Nat→Value:=fun j=>if j=0 then .string P else sv (j-1)
def slC2 (l:List (Nat × Nat)):List Value:=l.flatMap fun x=>[.int .i64 (x.1:Int),.int .i64 (x.2:Int)]
theorem slC2_at:∀ (l:List (Nat × Nat)) (j:Nat) (x:Nat × Nat),l[j]?=some x→(slC2 l)[j*2]?=some (.int .i64 (x.1:Int))∧(slC2 l)[j*2+1]?=some (.int .i64 (x.2:Int))
 | [],j,x,h=>by simp at h
 |a::r,0,x,h=>by simp at h;subst h;exact ⟨rfl,rfl⟩
 |a::r,j+1,x,h=>by
  have ih:=slC2_at r j x (by simpa using h)
  rw [show slC2 (a::r)=[.int .i64 (a.1:Int),.int .i64 (a.2:Int)]++slC2 r from rfl]
  rw [List.getElem?_append_right (by simp;omega),List.getElem?_append_right (by simp;omega)]
  simp only [List.length_cons,List.length_nil]
  rw [show (j+1)*2-(0+1+1)=j*2 by omega,show (j+1)*2+1-(0+1+1)=j*2+1 by omega]
  exact ih
def OwS (w:World) (B:Nat) (v:Value) (l:List (Nat × Nat)):Prop:=w.ownsRow B 83 2 v l.length (slC2 l)
theorem OwS.ah {w:World} {B:Nat} {v:Value} {l:List (Nat × Nat)} (h:OwS w B v l):AhV w v l:=by
 have h0:=h
 obtain ⟨h1,⟨rfl,h3⟩|⟨g,cap,cur,rfl,hb,hg,hnc,hcm,hcs,htake⟩⟩:=h0
 ·have:l=[]:=List.eq_nil_of_length_eq_zero h3
  subst this
  exact AhV.nil w
 ·refine ⟨_,cap,rfl,hnc,.inr ⟨g,0,l.length*2,_,rfl,rowF_owns h,fun j x hx=>?_⟩⟩
  have hj:j<l.length:=(List.getElem?_eq_some_iff.1 hx).1
  have h3:=slC2_at l j x hx
  refine ⟨by omega,?_,?_⟩
  ·rw [Nat.zero_add,List.getD_eq_getElem?_getD,h3.1];rfl
  ·rw [Nat.zero_add,List.getD_eq_getElem?_getD,h3.2];rfl
theorem info_slot:(Tryz.prog.info? 83).map (fun i=>(i.zero,i.size,i.bytes))=some (some (.agg #[.int .i64 0,.int .i64 0]),2,16):=by kernel_rfl
structure RrI (w wr:World) (t:ByteArray) (c:Nat) (T:Option (List Pc)) (pv:Value) (sv:Nat→Value) (ps:List Pc) (k fu:Nat):Prop where
 b:Below w.heap.size w wr
 r:RowF wr 50 w.heap.size 11 (rpF ⟨#[]⟩ (fun _=>nilS))
 f:RowF wr 50 (w.heap.size+1) 11 (rpF ⟨#[]⟩ sv)
 p:OwB wr (w.heap.size+2) pv (pla ps)
 s:∀ i,i<10→OwS wr (w.heap.size+2) (sv i) (slF i ps 0 0)
 a:∀ i j,i<10→j<10→i≠j→∀ g,(sv i).ownBlock=some g→(sv j).ownBlock≠some g
 k9:k≤t.size
 l:ps.length≤k
 fu9:t.size<fu+k
 z:w.heap.size+2≤wr.heap.size
 ok:∀ n,Pc.s n∈ps→n<10
 v:T=(rdRp t c fu k).map (fun r=>ps++r)
theorem slF_b (i:Nat) (ps:List Pc) (x:UInt8):slF i (ps++[.b x]) 0 0=slF i ps 0 0:=by rw [slF_app];simp [slF]
theorem slF_s (i n:Nat) (ps:List Pc):slF i (ps++[.s n]) 0 0=if n=i then slF i ps 0 0++[(nsl ps,(pla ps).length)] else slF i ps 0 0:=by
 rw [slF_app]
 simp only [slF,Nat.zero_add]
 split<;>simp
section
variable {w wr w5 : World} {t : ByteArray} {c : Nat} {T : Option (List Pc)} {pv v' : Value} {sv : Nat → Value} {ps : List Pc} {k fu : Nat}
theorem RrI.value (h:RrI w wr t c T pv sv ps k (fu+1)) {d:Nat} {p:Pc} (hv:rdRp t c (fu+1) k=(rdRp t c fu (k+d)).map (p::·)):T=(rdRp t c fu (k+d)).map (fun r=>(ps++[p])++r):=by
 rw [h.v,hv,Option.map_map]
 congr 1
 funext r
 simp
theorem RrI.byte (h:RrI w wr t c T pv sv ps k (fu+1)) (x:UInt8) (d:Nat) (ho:OwB w5 (w.heap.size+2) v' (pla ps++[x])) (h2:∀ B w0,Below B w0 wr→B≤w.heap.size+2→Below B w0 w5) (h3:∀ gx,gx<wr.heap.size→pv.ownBlock≠some gx→w5.heap[gx]?=wr.heap[gx]?)
 (hd:1≤d) (hk:k+d≤t.size) (hv:rdRp t c (fu+1) k=(rdRp t c fu (k+d)).map (.b x::·)):RrI w w5 t c T v' sv (ps++[.b x]) (k+d) fu:=by
 have hb:=h2 _ _ (Below.refl (w.heap.size+2) wr) (Nat.le_refl _)
 have hl:=h.l
 have hf:=h.fu9
 refine ⟨h2 _ _ h.b (by omega),h.r.low hb (by omega),h.f.low hb (by omega),by rw [pla_app];exact ho,fun i hi=>?_,h.a,hk,by simp;omega,by omega,Nat.le_trans h.z hb.size,fun n hn=>h.ok n (by simpa using hn),h.value hv⟩
 rw [slF_b]
 exact owns_stay (h.s i hi) (fun g hg=>h3 g (owns_blt (h.s i hi) hg).2 (owns_apart (h.s i hi) h.p (by decide) hg))
theorem RrI.slot (h:RrI w wr t c T pv sv ps k (fu+1)) {n:Nat} (hn:n<10) (d:Nat) (ho:w5.ownsRow (w.heap.size+2) 83 2 v' ((slF n ps 0 0).length+1) (slC2 (slF n ps 0 0)++[.int .i64 (nsl ps:Int),.int .i64 ((pla ps).length:Int)])) (h2:∀ B w0,Below B w0 wr→B≤w.heap.size+2→Below B w0 w5)
 (h3:∀ gx,gx<wr.heap.size→(sv n).ownBlock≠some gx→w5.heap[gx]?=wr.heap[gx]?) (h4:∀ gx,gx<wr.heap.size→(sv n).ownBlock≠some gx→v'.ownBlock≠some gx)
 (hd:1≤d) (hk:k+d≤t.size) (hv:rdRp t c (fu+1) k=(rdRp t c fu (k+d)).map (.s n::·)):RrI w (w5.setCell ⟨w.heap.size+1,n+1,none⟩ v') t c T pv (fun i=>if i=n then v' else sv i) (ps++[.s n]) (k+d) fu:=by
 have hb:=h2 _ _ (Below.refl (w.heap.size+2) wr) (Nat.le_refl _)
 have hl:=h.l
 have hf:=h.fu9
 have kk:Keeps w5 (w5.setCell ⟨w.heap.size+1,n+1,none⟩ v') (fun b=>b=w.heap.size+1):=(Keeps.refl w5 (fun b=>b=w.heap.size+1)).setCell (S:=fun b=>b=w.heap.size+1) (j:=n+1) rfl v'
 have hS:∀ b,b=w.heap.size+1→b<w.heap.size+2:=fun b e=>by omega
 have hz5:w.heap.size+2≤w5.heap.size:=Nat.le_trans h.z hb.size
 refine ⟨(h2 _ _ h.b (by omega)).trans (kk.below (by omega) (fun b (e:b=w.heap.size+1)=>by omega)),(h.r.low hb (by omega)).keep kk (fun e=>by omega),((h.f.low hb (by omega)).set (j:=n+1) (by omega) v').congr (fun j hj=>?_),?_,fun i hi=>?_,fun i j hi hj hij g hg=>?_,hk,by simp;omega,by omega,Nat.le_trans hz5 kk.size,fun m hm=>?_,h.value hv⟩
 ·by_cases e:j=n+1
  ·subst e;simp [rpF]
  ·rw [if_neg e]
   simp only [rpF]
   by_cases e0:j=0
   ·rw [if_pos e0,if_pos e0]
   ·rw [if_neg e0,if_neg e0,if_neg (by omega)]
 ·have e1:pla (ps++[.s n])=pla ps:=by rw [pla_app];simp [pla]
  rw [e1]
  exact owns_keep (owns_stay h.p (fun g hg=>h3 g (owns_blt h.p hg).2 (owns_apart h.p (h.s n hn) (by decide) hg))) kk hS
 ·rw [slF_s]
  by_cases e:i=n
  ·subst e
   rw [if_pos rfl,if_pos rfl]
   unfold OwS
   rw [List.length_append,List.length_singleton,show slC2 (slF i ps 0 0++[(nsl ps,(pla ps).length)])=slC2 (slF i ps 0 0)++[.int .i64 (nsl ps:Int),.int .i64 ((pla ps).length:Int)] by simp [slC2]]
   exact owns_keep ho kk hS
  ·rw [if_neg e,if_neg (fun x=>e x.symm)]
   exact owns_keep (owns_stay (h.s i hi) (fun g hg=>h3 g (owns_blt (h.s i hi) hg).2 (h.a i n hi hn e g hg))) kk hS
 ·by_cases e1:i=n
  ·rw [if_pos e1] at hg
   have e2:j≠n:=fun x=>hij (by omega)
   rw [if_neg e2]
   intro hg2
   have hlt:=(owns_blt (h.s j hj) hg2).2
   exact h4 g hlt (h.a j n hj hn e2 g hg2) hg
  ·rw [if_neg e1] at hg
   by_cases e2:j=n
   ·rw [if_pos e2]
    have hlt:=(owns_blt (h.s i hi) hg).2
    exact h4 g hlt (h.a i n hi hn e1 g hg)
   ·rw [if_neg e2];exact h.a i j hi hj hij g hg
 ·rcases List.mem_append.1 hm with e|e
  ·exact h.ok m e
  ·simp at e;omega
end
def RdQ (T:Option (List Pc)) (w:World) (e:Ending) (w':World):Prop:=
 Below w.heap.size w w'∧((T=none∧e=.returned (.tuple #[.agg #[.string ⟨#[]⟩,nilS,nilS,nilS,nilS,nilS,nilS,nilS,nilS,nilS,nilS],.bool false]))∨
  ∃ (ps:List Pc) (P:ByteArray) (sv:Nat→Value),T=some ps∧P.data.toList=pla ps∧(∀ n,Pc.s n∈ps→n<10)∧ps.length≤1048576∧e=.returned (.tuple #[.agg #[.string P,.slice (slA (sv 0)) (slN (sv 0)) (slC (sv 0)),.slice (slA (sv 1)) (slN (sv 1)) (slC (sv 1)),.slice (slA (sv 2)) (slN (sv 2)) (slC (sv 2)),.slice (slA (sv 3)) (slN (sv 3)) (slC (sv 3)),.slice (slA (sv 4)) (slN (sv 4)) (slC (sv 4)),.slice (slA (sv 5)) (slN (sv 5)) (slC (sv 5)),.slice (slA (sv 6)) (slN (sv 6)) (slC (sv 6)),.slice (slA (sv 7)) (slN (sv 7)) (slC (sv 7)),.slice (slA (sv 8)) (slN (sv 8)) (slC (sv 8)),.slice (slA (sv 9)) (slN (sv 9)) (slC (sv 9))],.bool true])∧∀ i,i<10→OwS w' w.heap.size (sv i) (slF i ps 0 0))
end Go.Proofs.YtlgodacccilabaaGreatDoor
namespace Go.Proofs.YtlgodacccilabaaGreatDoor
open Go Go.RowKit
set_option linter.unusedVariables false
def elA (v:Nat→Value):Array Value:=#[v 0,v 1,v 2,v 3,v 4,v 5,v 6,v 7,v 8,v 9,v 10]
def zvF:Nat→Value
 |0=>.string ⟨#[]⟩
 |_+1=>nilS
theorem one_sl (a b:Int):∀ v∈[Value.int .i64 a,.int .i64 b],v.oneCell'=true:=by
 intro v hv
 simp only [List.mem_cons,List.not_mem_nil,or_false] at hv
 rcases hv with rfl|rfl<;>rfl
def svF (P:ByteArray) (sv:Nat→Value):Nat→Value
 |0=>.string P
 |k+1=>.slice (slA (sv k)) (slN (sv k)) (slC (sv k))
theorem el_cases {i:Nat} (h:i<11):i=0∨i=1∨i=2∨i=3∨i=4∨i=5∨i=6∨i=7∨i=8∨i=9∨i=10:=by omega
theorem elA_at (v:Nat→Value) {i:Nat} (h:i<11):(elA v)[i]?=some (v i):=by
 rcases el_cases h with rfl|rfl|rfl|rfl|rfl|rfl|rfl|rfl|rfl|rfl|rfl<;>rfl
theorem elA_row {w:World} {g T:Nat} {v:Nat→Value} (h:w.heap[g]?=some (.cells (elA v) T)):RowF w T g 11 v:=⟨elA v,h,Nat.le_refl _,fun j hj=>elA_at v hj⟩
theorem info_rp:(Tryz.prog.info? 50).map (·.size)=some 11:=by kernel_rfl
theorem el_set {w:World} {T g:Nat} {u:Nat→Value} (v:Nat→Value) (h:RowF w T g 11 u):RowF (((((((((((w.setCell ⟨g,0,none⟩ (v 0)).setCell ⟨g,1,none⟩ (v 1)).setCell ⟨g,2,none⟩ (v 2)).setCell ⟨g,3,none⟩ (v 3)).setCell ⟨g,4,none⟩ (v 4)).setCell ⟨g,5,none⟩ (v 5)).setCell ⟨g,6,none⟩ (v 6)).setCell ⟨g,7,none⟩ (v 7)).setCell ⟨g,8,none⟩ (v 8)).setCell ⟨g,9,none⟩ (v 9)).setCell ⟨g,10,none⟩ (v 10)) T g 11 v:=by
 refine ((((((((((((h.set (j:=0) (by omega) (v 0)).set (j:=1) (by omega) (v 1)).set (j:=2) (by omega) (v 2)).set (j:=3) (by omega) (v 3)).set (j:=4) (by omega) (v 4)).set (j:=5) (by omega) (v 5)).set (j:=6) (by omega) (v 6)).set (j:=7) (by omega) (v 7)).set (j:=8) (by omega) (v 8)).set (j:=9) (by omega) (v 9)).set (j:=10) (by omega) (v 10))).congr (fun j hj=>?_)
 rcases el_cases hj with rfl|rfl|rfl|rfl|rfl|rfl|rfl|rfl|rfl|rfl|rfl<;>simp
theorem el_below {w0 w:World} {B g:Nat} (v:Nat→Value) (hB:B≤g) (h:Below B w0 w):Below B w0 (((((((((((w.setCell ⟨g,0,none⟩ (v 0)).setCell ⟨g,1,none⟩ (v 1)).setCell ⟨g,2,none⟩ (v 2)).setCell ⟨g,3,none⟩ (v 3)).setCell ⟨g,4,none⟩ (v 4)).setCell ⟨g,5,none⟩ (v 5)).setCell ⟨g,6,none⟩ (v 6)).setCell ⟨g,7,none⟩ (v 7)).setCell ⟨g,8,none⟩ (v 8)).setCell ⟨g,9,none⟩ (v 9)).setCell ⟨g,10,none⟩ (v 10)):=
 (((((((((((h.setCell (p:=⟨g,0,none⟩) hB (v 0)).setCell (p:=⟨g,1,none⟩) hB (v 1)).setCell (p:=⟨g,2,none⟩) hB (v 2)).setCell (p:=⟨g,3,none⟩) hB (v 3)).setCell (p:=⟨g,4,none⟩) hB (v 4)).setCell (p:=⟨g,5,none⟩) hB (v 5)).setCell (p:=⟨g,6,none⟩) hB (v 6)).setCell (p:=⟨g,7,none⟩) hB (v 7)).setCell (p:=⟨g,8,none⟩) hB (v 8)).setCell (p:=⟨g,9,none⟩) hB (v 9)).setCell (p:=⟨g,10,none⟩) hB (v 10))
theorem el_keeps {w:World} {g:Nat} (v:Nat→Value):Keeps w (((((((((((w.setCell ⟨g,0,none⟩ (v 0)).setCell ⟨g,1,none⟩ (v 1)).setCell ⟨g,2,none⟩ (v 2)).setCell ⟨g,3,none⟩ (v 3)).setCell ⟨g,4,none⟩ (v 4)).setCell ⟨g,5,none⟩ (v 5)).setCell ⟨g,6,none⟩ (v 6)).setCell ⟨g,7,none⟩ (v 7)).setCell ⟨g,8,none⟩ (v 8)).setCell ⟨g,9,none⟩ (v 9)).setCell ⟨g,10,none⟩ (v 10)) (fun b=>b=g):=
 (((((((((((Keeps.refl w (fun b=>b=g)).setCell (S:=fun b=>b=g) (g:=g) (j:=0) rfl (v 0)).setCell (S:=fun b=>b=g) (g:=g) (j:=1) rfl (v 1)).setCell (S:=fun b=>b=g) (g:=g) (j:=2) rfl (v 2)).setCell (S:=fun b=>b=g) (g:=g) (j:=3) rfl (v 3)).setCell (S:=fun b=>b=g) (g:=g) (j:=4) rfl (v 4)).setCell (S:=fun b=>b=g) (g:=g) (j:=5) rfl (v 5)).setCell (S:=fun b=>b=g) (g:=g) (j:=6) rfl (v 6)).setCell (S:=fun b=>b=g) (g:=g) (j:=7) rfl (v 7)).setCell (S:=fun b=>b=g) (g:=g) (j:=8) rfl (v 8)).setCell (S:=fun b=>b=g) (g:=g) (j:=9) rfl (v 9)).setCell (S:=fun b=>b=g) (g:=g) (j:=10) rfl (v 10)
theorem ld_rp {w:World} {g:Nat} {v:Nat→Value} (h:RowF w 50 g 11 v):(loadVar 50 ⟨g,0,none⟩).run Tryz.prog w=.ok (.agg (elA v)) w:=
 run_loadVar_mid (P:=Tryz.prog) w g 0 50 _ _ (row_range h) Tryz.underlying50 rfl (by rw [info_rp];simp)
set_option maxHeartbeats 6400000 in
set_option maxRecDepth 100000 in
theorem readRepl_any (t:ByteArray) (c:Nat) (w:World) (ht:t.size≤1048576) (hc:c≤16):
 Calls Tryz.prog 11 #[.string t,.int .i64 (c:Int)] w fun e w'=>RdQ (rdRp t c (t.size+1) 0) w e w':=by
 obtain ⟨T,hT⟩:∃ T,rdRp t c (t.size+1) 0=T:=⟨_,rfl⟩
 rw [hT]
 have hI:RrI w ((w.alloc (.cells #[.string ⟨#[]⟩,nilS,nilS,nilS,nilS,nilS,nilS,nilS,nilS,nilS,nilS] 50)).alloc (.cells #[.string ⟨#[]⟩,nilS,nilS,nilS,nilS,nilS,nilS,nilS,nilS,nilS,nilS] 50)) t c T nilS (fun _=>nilS) [] 0 (t.size+1):=by
  refine ⟨b_2 w _ _,?_,?_,⟨rfl,.inl ⟨rfl,rfl⟩⟩,fun i hi=>⟨rfl,.inl ⟨rfl,rfl⟩⟩,fun i j _ _ _ g hg=>by simp [Value.ownBlock] at hg,by omega,by simp,by omega,by simp,fun n hn=>by simp at hn,?_⟩
  ·refine RowF.keep (RowF.congr (elA_row (v:=fun j=>if j=0 then .string ⟨#[]⟩ else nilS) (heap_alloc_new w _)) (fun j hj=>by simp [rpF])) (Keeps.of (b_1 _ _) (Nat.le_refl _) (fun _=>False)) (fun x=>x)
  ·refine RowF.congr (elA_row (v:=fun j=>if j=0 then .string ⟨#[]⟩ else nilS) ?_) (fun j hj=>by simp [rpF])
   have:=heap_alloc_new (w.alloc (.cells #[.string ⟨#[]⟩,nilS,nilS,nilS,nilS,nilS,nilS,nilS,nilS,nilS,nilS] 50)) (.cells #[.string ⟨#[]⟩,nilS,nilS,nilS,nilS,nilS,nilS,nilS,nilS,nilS,nilS] 50)
   simpa [elA] using this
  ·rw [←hT];simp
 have HI:=hide hI
 clear hI hT
 go_enter Tryz.func11,Tryz.ntmps11
 go_wp2_with fail
 generalize (w.alloc (.cells #[.string ⟨#[]⟩,nilS,nilS,nilS,nilS,nilS,nilS,nilS,nilS,nilS,nilS] 50)).alloc (.cells #[.string ⟨#[]⟩,nilS,nilS,nilS,nilS,nilS,nilS,nilS,nilS,nilS,nilS] 50)=w0 at *
 go_loopw [7,8,9] (fun pv tv kv wr=>∃ (ps:List Pc) (sv:Nat→Value) (k fu:Nat),kv=.int .i64 k∧tv=.int .i64 (nsl ps:Int)∧k≤t.size∧t.size<fu+k∧Hid (RrI w wr t c T pv sv ps k fu)) (fun _ _ kv _=>t.size+1-ivN kv)
 case atStart=>exact ⟨[],fun _=>nilS,0,t.size+1,rfl,rfl,by omega,by omega,HI⟩
 case round=>
  clear HI
  obtain ⟨ps,sv,k,fu0,rfl,rfl,hk9,hfu,HI⟩:=hrel
  obtain ⟨ao,co,rfl⟩:=owns_val HI.out.p
  have hl9:=HI.out.l
  have hpl:=pla_len ps
  have hnl:=nsl_len ps
  have hsz:=HI.out.z
  by_cases hin:k<t.size
  ·obtain ⟨fu,rfl⟩:∃ fu,fu0=fu+1:=⟨fu0-1,by omega⟩
   have hin2:(k:Int)<(t.size:Int):=by omega
   have hi0:∀ w':World,(Instr.index 9 (.string t) (.int .i64 (k:Int))).run Tryz.prog w'=.ok (.int .u8 (hb t k)) w':=fun w'=>by
    have:=idx_str t (i:=(k:Int)) w' (by omega) (by omega)
    simpa using this
   by_cases h37:hb t k=37
   ·have hq37:(hb t k==37)=true:=by rw [h37];rfl
    by_cases h2:k+1<t.size
    ·have h22:(((k:Int)+1)==(t.size:Int))=false:=by simp;omega
     have hi1:∀ w':World,(Instr.index 9 (.string t) (.int .i64 ((k:Int)+1))).run Tryz.prog w'=.ok (.int .u8 (hb t (k+1))) w':=fun w'=>by
      have:=idx_str t (i:=((k:Int)+1)) w' (by omega) (by omega)
      rw [this,show ((k:Int)+1).toNat=k+1 by omega]
     have hrg:=hb_rng t (k+1)
     have HV0:=hide (And.intro h37 h2)
     clear h37
     by_cases hp:hb t (k+1)=37
     ·have hp2:(hb t (k+1)==37)=true:=by rw [hp];rfl
      have HRd:=hide (rdRp_pct (caps:=c) (f:=fu) hin HV0.out.1 HV0.out.2 hp)
      clear hp
      generalize hb t (k+1)=y at *
      generalize hb t k=x at *
      go_wp2_with (first
       |(have _z:=HI
         at_builtin
         clear _z
         refine app_b rfl _ _ rfl (w.heap.size+2) _ (pla ps) 37 HI.out.p rfl rfl (by omega) hsz ?_
         intro v' w5 h1 hn h2 h3
         have HI5:=hide (HI.out.byte (w5:=w5) (v':=v') 37 2 h1 h2 h3 (by omega) (by omega) HRd.out)
         clear h1 hn h2 h3)
       |fail)
      go_roundw
      case rel=>exact ⟨ps++[.b 37],sv,k+2,fu,by simp;omega,by rw [nsl_app];simp [nsl],by omega,by omega,HI5⟩
      case measure=>simp [ivN];omega
     ·have hp2:(hb t (k+1)==37)=false:=by simp [hp]
      have HP:=hide hp
      clear hp
      have HNc:=hide (named_any (hb t (k+1)) c hrg wr hc)
      obtain ⟨on,hnm⟩:∃ on,nmd c (hb t (k+1)).toNat=on:=⟨_,rfl⟩
      cases on with
      |none=>
       have HV:=hide (show T=none by rw [HI.out.v,rdRp_bad hin HV0.out.1 HV0.out.2 HP.out hnm];rfl)
       clear HP HV0
       generalize hb t (k+1)=y at *
       generalize hb t k=x at *
       have r0:wr.cell? ⟨w.heap.size,0,none⟩=some (.string ⟨#[]⟩):=(HI.out.r.cell (j:=0) (by omega)).trans (by simp [rpF])
       have z0:wr.frozen? ⟨w.heap.size,0,none⟩=false:=HI.out.r.frz 0
       have r1:wr.cell? ⟨w.heap.size,1,none⟩=some (nilS):=(HI.out.r.cell (j:=1) (by omega)).trans (by simp [rpF])
       have z1:wr.frozen? ⟨w.heap.size,1,none⟩=false:=HI.out.r.frz 1
       have r2:wr.cell? ⟨w.heap.size,2,none⟩=some (nilS):=(HI.out.r.cell (j:=2) (by omega)).trans (by simp [rpF])
       have z2:wr.frozen? ⟨w.heap.size,2,none⟩=false:=HI.out.r.frz 2
       have r3:wr.cell? ⟨w.heap.size,3,none⟩=some (nilS):=(HI.out.r.cell (j:=3) (by omega)).trans (by simp [rpF])
       have z3:wr.frozen? ⟨w.heap.size,3,none⟩=false:=HI.out.r.frz 3
       have r4:wr.cell? ⟨w.heap.size,4,none⟩=some (nilS):=(HI.out.r.cell (j:=4) (by omega)).trans (by simp [rpF])
       have z4:wr.frozen? ⟨w.heap.size,4,none⟩=false:=HI.out.r.frz 4
       have r5:wr.cell? ⟨w.heap.size,5,none⟩=some (nilS):=(HI.out.r.cell (j:=5) (by omega)).trans (by simp [rpF])
       have z5:wr.frozen? ⟨w.heap.size,5,none⟩=false:=HI.out.r.frz 5
       have r6:wr.cell? ⟨w.heap.size,6,none⟩=some (nilS):=(HI.out.r.cell (j:=6) (by omega)).trans (by simp [rpF])
       have z6:wr.frozen? ⟨w.heap.size,6,none⟩=false:=HI.out.r.frz 6
       have r7:wr.cell? ⟨w.heap.size,7,none⟩=some (nilS):=(HI.out.r.cell (j:=7) (by omega)).trans (by simp [rpF])
       have z7:wr.frozen? ⟨w.heap.size,7,none⟩=false:=HI.out.r.frz 7
       have r8:wr.cell? ⟨w.heap.size,8,none⟩=some (nilS):=(HI.out.r.cell (j:=8) (by omega)).trans (by simp [rpF])
       have z8:wr.frozen? ⟨w.heap.size,8,none⟩=false:=HI.out.r.frz 8
       have r9:wr.cell? ⟨w.heap.size,9,none⟩=some (nilS):=(HI.out.r.cell (j:=9) (by omega)).trans (by simp [rpF])
       have z9:wr.frozen? ⟨w.heap.size,9,none⟩=false:=HI.out.r.frz 9
       have r10:wr.cell? ⟨w.heap.size,10,none⟩=some (nilS):=(HI.out.r.cell (j:=10) (by omega)).trans (by simp [rpF])
       have z10:wr.frozen? ⟨w.heap.size,10,none⟩=false:=HI.out.r.frz 10
       have HBb:=hide HI.out.b
       have HRr:=hide HI.out.r
       clear HI
       go_wp2_with fail
       refine HNc.out.mono ?_
       rintro e w2 ⟨hw2,n,ok,rfl,hok⟩
       obtain rfl:=hw2.symm
       rcases hok with ⟨rfl,hbad⟩|⟨rfl,m,rfl,hgood⟩
       rotate_left
       ·rw [hgood] at hnm;cases hnm
       go_wp2_with fail
       have hF:=el_set zvF HRr.out
       have hBf:=el_below zvF (Nat.le_refl w.heap.size) HBb.out
       have hld:=ld_rp hF
       clear hF
       dsimp only [elA,zvF] at hld hBf
       generalize (((((((((((wr.setCell ⟨w.heap.size,0,none⟩ (.string ⟨#[]⟩)).setCell ⟨w.heap.size,1,none⟩ (nilS)).setCell ⟨w.heap.size,2,none⟩ (nilS)).setCell ⟨w.heap.size,3,none⟩ (nilS)).setCell ⟨w.heap.size,4,none⟩ (nilS)).setCell ⟨w.heap.size,5,none⟩ (nilS)).setCell ⟨w.heap.size,6,none⟩ (nilS)).setCell ⟨w.heap.size,7,none⟩ (nilS)).setCell ⟨w.heap.size,8,none⟩ (nilS)).setCell ⟨w.heap.size,9,none⟩ (nilS)).setCell ⟨w.heap.size,10,none⟩ (nilS))=wF at *
       refine bodyPost_ret (v:=.tuple #[.agg #[.string ⟨#[]⟩,nilS,nilS,nilS,nilS,nilS,nilS,nilS,nilS,nilS,nilS],.bool false]) ?_ rfl ⟨hBf,.inl ⟨HV.out,rfl⟩⟩
       simp [results,Tryz.f11,asAddr,hld]
      |some m=>
       have HRd:=hide (rdRp_slot (caps:=c) (f:=fu) hin HV0.out.1 HV0.out.2 HP.out hnm)
       have hm10:=(nmd_lt hnm).1
       have hmI:(m:Int)<10:=by omega
       have hsm:=HI.out.s m hm10
       obtain ⟨am,cm,hvm⟩:=owns_val hsm
       have hslen:=slF_len m ps 0 0
       have cF:wr.cell? ⟨w.heap.size+1,1+m,none⟩=some (.slice am (slF m ps 0 0).length cm):=(HI.out.f.cell (j:=1+m) (by omega)).trans (by rw [←hvm];simp only [rpF];rw [if_neg (by omega),Nat.add_sub_cancel_left])
       have zF:wr.frozen? ⟨w.heap.size+1,1+m,none⟩=false:=HI.out.f.frz (1+m)
       rw [hvm] at hsm
       have HSm:=hide hsm
       have HVm:=hide hvm
       clear HP HV0 hsm hvm
       generalize hb t (k+1)=y at *
       generalize hb t k=x at *
       go_wp2_with fail
       refine HNc.out.mono ?_
       rintro e w2 ⟨hw2,n,ok,rfl,hok⟩
       obtain rfl:=hw2.symm
       rcases hok with ⟨rfl,hbad⟩|⟨rfl,m2,rfl,hgood⟩
       ·rw [hbad] at hnm;cases hnm
       obtain rfl:m2=m:=by rw [hgood] at hnm;exact Option.some.inj hnm
       clear hgood hnm HNc
       go_wp2_with (first
        |(have _z:=HSm
          at_builtin
          clear _z
          refine app_at rfl _ _ 47 83 2 16 _ rfl Tryz.underlying47 info_slot rfl (by omega) (w.heap.size+2) (.slice am (slF m2 ps 0 0).length cm) (slF m2 ps 0 0).length (slC2 (slF m2 ps 0 0)) [.int .i64 (nsl ps:Int),.int .i64 ((pla ps).length:Int)] HSm.out rfl rfl rfl (one_sl _ _) (by omega) (by omega) hsz ?_
          intro v' w5 h1 h2 h3 h4
          have hFl:w.heap.size+1<wr.heap.size:=HI.out.f.lt
          have hoF:(Value.slice am (slF m2 ps 0 0).length cm).ownBlock≠some (w.heap.size+1):=fun e=>by have:=(owns_blt HSm.out e).1;omega
          have hF5:=HI.out.f.same (h3 _ hFl hoF)
          have c5:w5.cell? ⟨w.heap.size+1,1+m2,none⟩=some (.slice am (slF m2 ps 0 0).length cm):=(World.cell?_of_block (a:=⟨w.heap.size+1,1+m2,none⟩) (h3 _ hFl hoF)).trans cF
          have z5:w5.frozen? ⟨w.heap.size+1,1+m2,none⟩=false:=hF5.frz (1+m2)
          obtain ⟨a5,k5,hv5⟩:=owns_val h1
          have HI5:=hide (HI.out.slot (w5:=w5) (v':=v') hm10 2 h1 h2 (by rw [HVm.out];exact h3) (by rw [HVm.out];exact h4) (by omega) (by omega) HRd.out)
          rw [Nat.add_comm m2 1] at HI5
          subst hv5
          clear h1 h2 h3 h4 hF5 hoF)
        |fail)
       go_roundw
       case rel=>exact ⟨ps++[.s m2],_,k+2,fu,by simp;omega,by rw [nsl_app];simp [nsl],by omega,by omega,HI5⟩
       case measure=>simp [ivN];omega
    ·have h22:(((k:Int)+1)==(t.size:Int))=true:=by simp;omega
     have HV:=hide (show T=none by rw [HI.out.v,rdRp_cut hin h37 h2];rfl)
     clear h37
     generalize hb t k=x at *
     have r0:wr.cell? ⟨w.heap.size,0,none⟩=some (.string ⟨#[]⟩):=(HI.out.r.cell (j:=0) (by omega)).trans (by simp [rpF])
     have z0:wr.frozen? ⟨w.heap.size,0,none⟩=false:=HI.out.r.frz 0
     have r1:wr.cell? ⟨w.heap.size,1,none⟩=some (nilS):=(HI.out.r.cell (j:=1) (by omega)).trans (by simp [rpF])
     have z1:wr.frozen? ⟨w.heap.size,1,none⟩=false:=HI.out.r.frz 1
     have r2:wr.cell? ⟨w.heap.size,2,none⟩=some (nilS):=(HI.out.r.cell (j:=2) (by omega)).trans (by simp [rpF])
     have z2:wr.frozen? ⟨w.heap.size,2,none⟩=false:=HI.out.r.frz 2
     have r3:wr.cell? ⟨w.heap.size,3,none⟩=some (nilS):=(HI.out.r.cell (j:=3) (by omega)).trans (by simp [rpF])
     have z3:wr.frozen? ⟨w.heap.size,3,none⟩=false:=HI.out.r.frz 3
     have r4:wr.cell? ⟨w.heap.size,4,none⟩=some (nilS):=(HI.out.r.cell (j:=4) (by omega)).trans (by simp [rpF])
     have z4:wr.frozen? ⟨w.heap.size,4,none⟩=false:=HI.out.r.frz 4
     have r5:wr.cell? ⟨w.heap.size,5,none⟩=some (nilS):=(HI.out.r.cell (j:=5) (by omega)).trans (by simp [rpF])
     have z5:wr.frozen? ⟨w.heap.size,5,none⟩=false:=HI.out.r.frz 5
     have r6:wr.cell? ⟨w.heap.size,6,none⟩=some (nilS):=(HI.out.r.cell (j:=6) (by omega)).trans (by simp [rpF])
     have z6:wr.frozen? ⟨w.heap.size,6,none⟩=false:=HI.out.r.frz 6
     have r7:wr.cell? ⟨w.heap.size,7,none⟩=some (nilS):=(HI.out.r.cell (j:=7) (by omega)).trans (by simp [rpF])
     have z7:wr.frozen? ⟨w.heap.size,7,none⟩=false:=HI.out.r.frz 7
     have r8:wr.cell? ⟨w.heap.size,8,none⟩=some (nilS):=(HI.out.r.cell (j:=8) (by omega)).trans (by simp [rpF])
     have z8:wr.frozen? ⟨w.heap.size,8,none⟩=false:=HI.out.r.frz 8
     have r9:wr.cell? ⟨w.heap.size,9,none⟩=some (nilS):=(HI.out.r.cell (j:=9) (by omega)).trans (by simp [rpF])
     have z9:wr.frozen? ⟨w.heap.size,9,none⟩=false:=HI.out.r.frz 9
     have r10:wr.cell? ⟨w.heap.size,10,none⟩=some (nilS):=(HI.out.r.cell (j:=10) (by omega)).trans (by simp [rpF])
     have z10:wr.frozen? ⟨w.heap.size,10,none⟩=false:=HI.out.r.frz 10
     have HBb:=hide HI.out.b
     have HRr:=hide HI.out.r
     clear HI
     go_wp2_with fail
     have hF:=el_set zvF HRr.out
     have hBf:=el_below zvF (Nat.le_refl w.heap.size) HBb.out
     have hld:=ld_rp hF
     clear hF
     dsimp only [elA,zvF] at hld hBf
     generalize (((((((((((wr.setCell ⟨w.heap.size,0,none⟩ (.string ⟨#[]⟩)).setCell ⟨w.heap.size,1,none⟩ (nilS)).setCell ⟨w.heap.size,2,none⟩ (nilS)).setCell ⟨w.heap.size,3,none⟩ (nilS)).setCell ⟨w.heap.size,4,none⟩ (nilS)).setCell ⟨w.heap.size,5,none⟩ (nilS)).setCell ⟨w.heap.size,6,none⟩ (nilS)).setCell ⟨w.heap.size,7,none⟩ (nilS)).setCell ⟨w.heap.size,8,none⟩ (nilS)).setCell ⟨w.heap.size,9,none⟩ (nilS)).setCell ⟨w.heap.size,10,none⟩ (nilS))=wF at *
     refine bodyPost_ret (v:=.tuple #[.agg #[.string ⟨#[]⟩,nilS,nilS,nilS,nilS,nilS,nilS,nilS,nilS,nilS,nilS],.bool false]) ?_ rfl ⟨hBf,.inl ⟨HV.out,rfl⟩⟩
     simp [results,Tryz.f11,asAddr,hld]
   ·have hq37:(hb t k==37)=false:=by simp [h37]
    have HRd:=hide (rdRp_byte (caps:=c) (f:=fu) hin h37)
    have hby:=hb_nat hin
    clear h37
    obtain ⟨y,hy⟩:∃ y,t[k]=y:=⟨_,rfl⟩
    rw [hy] at hby HRd
    rw [hby] at hi0 hq37
    clear hby hy
    go_wp2_with (first
     |(have _z:=HI
       at_builtin
       clear _z
       refine app_b rfl _ _ rfl (w.heap.size+2) _ (pla ps) y HI.out.p rfl rfl (by omega) hsz ?_
       intro v' w5 h1 hn h2 h3
       have HI5:=hide (HI.out.byte (w5:=w5) (v':=v') y 1 h1 h2 h3 (by omega) (by omega) HRd.out)
       clear h1 hn h2 h3)
     |fail)
    go_roundw
    case rel=>exact ⟨ps++[.b y],sv,k+1,fu,by simp,by rw [nsl_app];simp [nsl],by omega,by omega,HI5⟩
    case measure=>simp [ivN];omega
  ·have hin2:¬ ((k:Int)<(t.size:Int)):=by omega
   have HV:=hide (show T=some ps by rw [HI.out.v,rdRp_end hin];simp)
   have hcs:=ow_string HI.out.p
   have g0:wr.cell? ⟨w.heap.size+1,0,none⟩=some (.string ⟨#[]⟩):=(HI.out.f.cell (j:=0) (by omega)).trans (by simp [rpF])
   have gz:wr.frozen? ⟨w.heap.size+1,0,none⟩=false:=HI.out.f.frz 0
   have hse:∀ i,i<10→sv i=.slice (slA (sv i)) (slN (sv i)) (slC (sv i)):=fun i hi=>by
    obtain ⟨a,cap,e⟩:=owns_val (HI.out.s i hi)
    exact sl_eq ⟨_,_,_,e⟩
   have kk:Keeps wr (wr.setCell ⟨w.heap.size+1,0,none⟩ (.string ⟨(pla ps).toArray⟩)) (fun b=>b=w.heap.size+1):=(Keeps.refl wr (fun b=>b=w.heap.size+1)).setCell (S:=fun b=>b=w.heap.size+1) (j:=0) rfl _
   have hF6:RowF (wr.setCell ⟨w.heap.size+1,0,none⟩ (.string ⟨(pla ps).toArray⟩)) 50 (w.heap.size+1) 11 (svF ⟨(pla ps).toArray⟩ sv):=(HI.out.f.set (j:=0) (by omega) _).congr (fun j hj=>by
    cases j with
    |zero=>rfl
    |succ j=>rw [if_neg (by omega)];simp only [rpF,svF];rw [if_neg (by omega),Nat.add_sub_cancel];exact hse j (by omega))
   have hR6:=HI.out.r.keep kk (fun e=>by omega)
   have f0:(wr.setCell ⟨w.heap.size+1,0,none⟩ (.string ⟨(pla ps).toArray⟩)).cell? ⟨w.heap.size+1,0,none⟩=some (.string ⟨(pla ps).toArray⟩):=(hF6.cell (j:=0) (by omega)).trans (by rfl)
   have r0:(wr.setCell ⟨w.heap.size+1,0,none⟩ (.string ⟨(pla ps).toArray⟩)).cell? ⟨w.heap.size,0,none⟩=some (.string ⟨#[]⟩):=(hR6.cell (j:=0) (by omega)).trans (by simp [rpF])
   have z0:(wr.setCell ⟨w.heap.size+1,0,none⟩ (.string ⟨(pla ps).toArray⟩)).frozen? ⟨w.heap.size,0,none⟩=false:=hR6.frz 0
   have f1:(wr.setCell ⟨w.heap.size+1,0,none⟩ (.string ⟨(pla ps).toArray⟩)).cell? ⟨w.heap.size+1,1,none⟩=some (.slice (slA (sv 0)) (slN (sv 0)) (slC (sv 0))):=(hF6.cell (j:=1) (by omega)).trans (by rfl)
   have r1:(wr.setCell ⟨w.heap.size+1,0,none⟩ (.string ⟨(pla ps).toArray⟩)).cell? ⟨w.heap.size,1,none⟩=some (nilS):=(hR6.cell (j:=1) (by omega)).trans (by simp [rpF])
   have z1:(wr.setCell ⟨w.heap.size+1,0,none⟩ (.string ⟨(pla ps).toArray⟩)).frozen? ⟨w.heap.size,1,none⟩=false:=hR6.frz 1
   have f2:(wr.setCell ⟨w.heap.size+1,0,none⟩ (.string ⟨(pla ps).toArray⟩)).cell? ⟨w.heap.size+1,2,none⟩=some (.slice (slA (sv 1)) (slN (sv 1)) (slC (sv 1))):=(hF6.cell (j:=2) (by omega)).trans (by rfl)
   have r2:(wr.setCell ⟨w.heap.size+1,0,none⟩ (.string ⟨(pla ps).toArray⟩)).cell? ⟨w.heap.size,2,none⟩=some (nilS):=(hR6.cell (j:=2) (by omega)).trans (by simp [rpF])
   have z2:(wr.setCell ⟨w.heap.size+1,0,none⟩ (.string ⟨(pla ps).toArray⟩)).frozen? ⟨w.heap.size,2,none⟩=false:=hR6.frz 2
   have f3:(wr.setCell ⟨w.heap.size+1,0,none⟩ (.string ⟨(pla ps).toArray⟩)).cell? ⟨w.heap.size+1,3,none⟩=some (.slice (slA (sv 2)) (slN (sv 2)) (slC (sv 2))):=(hF6.cell (j:=3) (by omega)).trans (by rfl)
   have r3:(wr.setCell ⟨w.heap.size+1,0,none⟩ (.string ⟨(pla ps).toArray⟩)).cell? ⟨w.heap.size,3,none⟩=some (nilS):=(hR6.cell (j:=3) (by omega)).trans (by simp [rpF])
   have z3:(wr.setCell ⟨w.heap.size+1,0,none⟩ (.string ⟨(pla ps).toArray⟩)).frozen? ⟨w.heap.size,3,none⟩=false:=hR6.frz 3
   have f4:(wr.setCell ⟨w.heap.size+1,0,none⟩ (.string ⟨(pla ps).toArray⟩)).cell? ⟨w.heap.size+1,4,none⟩=some (.slice (slA (sv 3)) (slN (sv 3)) (slC (sv 3))):=(hF6.cell (j:=4) (by omega)).trans (by rfl)
   have r4:(wr.setCell ⟨w.heap.size+1,0,none⟩ (.string ⟨(pla ps).toArray⟩)).cell? ⟨w.heap.size,4,none⟩=some (nilS):=(hR6.cell (j:=4) (by omega)).trans (by simp [rpF])
   have z4:(wr.setCell ⟨w.heap.size+1,0,none⟩ (.string ⟨(pla ps).toArray⟩)).frozen? ⟨w.heap.size,4,none⟩=false:=hR6.frz 4
   have f5:(wr.setCell ⟨w.heap.size+1,0,none⟩ (.string ⟨(pla ps).toArray⟩)).cell? ⟨w.heap.size+1,5,none⟩=some (.slice (slA (sv 4)) (slN (sv 4)) (slC (sv 4))):=(hF6.cell (j:=5) (by omega)).trans (by rfl)
   have r5:(wr.setCell ⟨w.heap.size+1,0,none⟩ (.string ⟨(pla ps).toArray⟩)).cell? ⟨w.heap.size,5,none⟩=some (nilS):=(hR6.cell (j:=5) (by omega)).trans (by simp [rpF])
   have z5:(wr.setCell ⟨w.heap.size+1,0,none⟩ (.string ⟨(pla ps).toArray⟩)).frozen? ⟨w.heap.size,5,none⟩=false:=hR6.frz 5
   have f6:(wr.setCell ⟨w.heap.size+1,0,none⟩ (.string ⟨(pla ps).toArray⟩)).cell? ⟨w.heap.size+1,6,none⟩=some (.slice (slA (sv 5)) (slN (sv 5)) (slC (sv 5))):=(hF6.cell (j:=6) (by omega)).trans (by rfl)
   have r6:(wr.setCell ⟨w.heap.size+1,0,none⟩ (.string ⟨(pla ps).toArray⟩)).cell? ⟨w.heap.size,6,none⟩=some (nilS):=(hR6.cell (j:=6) (by omega)).trans (by simp [rpF])
   have z6:(wr.setCell ⟨w.heap.size+1,0,none⟩ (.string ⟨(pla ps).toArray⟩)).frozen? ⟨w.heap.size,6,none⟩=false:=hR6.frz 6
   have f7:(wr.setCell ⟨w.heap.size+1,0,none⟩ (.string ⟨(pla ps).toArray⟩)).cell? ⟨w.heap.size+1,7,none⟩=some (.slice (slA (sv 6)) (slN (sv 6)) (slC (sv 6))):=(hF6.cell (j:=7) (by omega)).trans (by rfl)
   have r7:(wr.setCell ⟨w.heap.size+1,0,none⟩ (.string ⟨(pla ps).toArray⟩)).cell? ⟨w.heap.size,7,none⟩=some (nilS):=(hR6.cell (j:=7) (by omega)).trans (by simp [rpF])
   have z7:(wr.setCell ⟨w.heap.size+1,0,none⟩ (.string ⟨(pla ps).toArray⟩)).frozen? ⟨w.heap.size,7,none⟩=false:=hR6.frz 7
   have f8:(wr.setCell ⟨w.heap.size+1,0,none⟩ (.string ⟨(pla ps).toArray⟩)).cell? ⟨w.heap.size+1,8,none⟩=some (.slice (slA (sv 7)) (slN (sv 7)) (slC (sv 7))):=(hF6.cell (j:=8) (by omega)).trans (by rfl)
   have r8:(wr.setCell ⟨w.heap.size+1,0,none⟩ (.string ⟨(pla ps).toArray⟩)).cell? ⟨w.heap.size,8,none⟩=some (nilS):=(hR6.cell (j:=8) (by omega)).trans (by simp [rpF])
   have z8:(wr.setCell ⟨w.heap.size+1,0,none⟩ (.string ⟨(pla ps).toArray⟩)).frozen? ⟨w.heap.size,8,none⟩=false:=hR6.frz 8
   have f9:(wr.setCell ⟨w.heap.size+1,0,none⟩ (.string ⟨(pla ps).toArray⟩)).cell? ⟨w.heap.size+1,9,none⟩=some (.slice (slA (sv 8)) (slN (sv 8)) (slC (sv 8))):=(hF6.cell (j:=9) (by omega)).trans (by rfl)
   have r9:(wr.setCell ⟨w.heap.size+1,0,none⟩ (.string ⟨(pla ps).toArray⟩)).cell? ⟨w.heap.size,9,none⟩=some (nilS):=(hR6.cell (j:=9) (by omega)).trans (by simp [rpF])
   have z9:(wr.setCell ⟨w.heap.size+1,0,none⟩ (.string ⟨(pla ps).toArray⟩)).frozen? ⟨w.heap.size,9,none⟩=false:=hR6.frz 9
   have f10:(wr.setCell ⟨w.heap.size+1,0,none⟩ (.string ⟨(pla ps).toArray⟩)).cell? ⟨w.heap.size+1,10,none⟩=some (.slice (slA (sv 9)) (slN (sv 9)) (slC (sv 9))):=(hF6.cell (j:=10) (by omega)).trans (by rfl)
   have r10:(wr.setCell ⟨w.heap.size+1,0,none⟩ (.string ⟨(pla ps).toArray⟩)).cell? ⟨w.heap.size,10,none⟩=some (nilS):=(hR6.cell (j:=10) (by omega)).trans (by simp [rpF])
   have z10:(wr.setCell ⟨w.heap.size+1,0,none⟩ (.string ⟨(pla ps).toArray⟩)).frozen? ⟨w.heap.size,10,none⟩=false:=hR6.frz 10
   have hb6:Below w.heap.size w (wr.setCell ⟨w.heap.size+1,0,none⟩ (.string ⟨(pla ps).toArray⟩)):=HI.out.b.trans (kk.below (by omega) (fun b (e:b=w.heap.size+1)=>by omega))
   have hs6:=fun i hi=>owns_keep (HI.out.s i hi) kk (fun b (e:b=w.heap.size+1)=>by omega)
   have HFin:=hide (And.intro hR6 (And.intro hb6 (And.intro hs6 HI.out.ok)))
   clear hF6 hR6 hb6 hs6 HI hse kk
   go_wp2_with fail
   generalize (wr.setCell ⟨w.heap.size+1,0,none⟩ (.string ⟨(pla ps).toArray⟩))=w6 at *
   obtain ⟨hR6,hb6,hs6,hok6⟩:=HFin.out
   have hF:=el_set (svF ⟨(pla ps).toArray⟩ sv) hR6
   have hBf:=el_below (svF ⟨(pla ps).toArray⟩ sv) (Nat.le_refl w.heap.size) hb6
   have hk9:=el_keeps (w:=w6) (g:=w.heap.size) (svF ⟨(pla ps).toArray⟩ sv)
   have hs9:=fun i hi=>owns_less (owns_keep (hs6 i hi) hk9 (fun b (e:b=w.heap.size)=>by omega)) (show w.heap.size≤w.heap.size+2 by omega)
   have hld:=ld_rp hF
   clear hF hk9 hs6
   dsimp only [elA,svF] at hld hBf hs9
   generalize (((((((((((w6.setCell ⟨w.heap.size,0,none⟩ (.string ⟨(pla ps).toArray⟩)).setCell ⟨w.heap.size,1,none⟩ (.slice (slA (sv 0)) (slN (sv 0)) (slC (sv 0)))).setCell ⟨w.heap.size,2,none⟩ (.slice (slA (sv 1)) (slN (sv 1)) (slC (sv 1)))).setCell ⟨w.heap.size,3,none⟩ (.slice (slA (sv 2)) (slN (sv 2)) (slC (sv 2)))).setCell ⟨w.heap.size,4,none⟩ (.slice (slA (sv 3)) (slN (sv 3)) (slC (sv 3)))).setCell ⟨w.heap.size,5,none⟩ (.slice (slA (sv 4)) (slN (sv 4)) (slC (sv 4)))).setCell ⟨w.heap.size,6,none⟩ (.slice (slA (sv 5)) (slN (sv 5)) (slC (sv 5)))).setCell ⟨w.heap.size,7,none⟩ (.slice (slA (sv 6)) (slN (sv 6)) (slC (sv 6)))).setCell ⟨w.heap.size,8,none⟩ (.slice (slA (sv 7)) (slN (sv 7)) (slC (sv 7)))).setCell ⟨w.heap.size,9,none⟩ (.slice (slA (sv 8)) (slN (sv 8)) (slC (sv 8)))).setCell ⟨w.heap.size,10,none⟩ (.slice (slA (sv 9)) (slN (sv 9)) (slC (sv 9))))=wF at *
   refine bodyPost_ret (v:=.tuple #[.agg #[.string ⟨(pla ps).toArray⟩,.slice (slA (sv 0)) (slN (sv 0)) (slC (sv 0)),.slice (slA (sv 1)) (slN (sv 1)) (slC (sv 1)),.slice (slA (sv 2)) (slN (sv 2)) (slC (sv 2)),.slice (slA (sv 3)) (slN (sv 3)) (slC (sv 3)),.slice (slA (sv 4)) (slN (sv 4)) (slC (sv 4)),.slice (slA (sv 5)) (slN (sv 5)) (slC (sv 5)),.slice (slA (sv 6)) (slN (sv 6)) (slC (sv 6)),.slice (slA (sv 7)) (slN (sv 7)) (slC (sv 7)),.slice (slA (sv 8)) (slN (sv 8)) (slC (sv 8)),.slice (slA (sv 9)) (slN (sv 9)) (slC (sv 9))],.bool true]) ?_ rfl ⟨hBf,.inr ⟨ps,⟨(pla ps).toArray⟩,sv,HV.out,by simp,hok6,by omega,rfl,hs9⟩⟩
   simp [results,Tryz.f11,asAddr,hld]
end Go.Proofs.YtlgodacccilabaaGreatDoor
namespace Go.Proofs.YtlgodacccilabaaGreatDoor
open Go Go.RowKit Go.Shelf
set_option linter.unusedVariables false
theorem mixT:Tryz.prog.follows .mixedOrders=true:=by kernel_rfl
theorem us_none (w:World) (p:Option Addr):(Builtin.unsafeString_ #[86,3] 9 #[.pointer p,.int .i64 0]).run Tryz.prog w=.ok (.string ⟨#[]⟩) w:=
 Lib.run_unsafeString_none w _ _ _ p
set_option maxHeartbeats 4000000 in
set_option maxRecDepth 100000 in
theorem str_nil (w:World) (B R g cap:Nat) (L:List UInt8) (cur:Array Value) (hRl:R<w.heap.size) (hB:B≤w.heap.size) (c0:w.cell? ⟨R,14,none⟩=some (.slice none 0 0)):
 Calls Tryz.prog 14 #[.pointer (some ⟨R,13,none⟩)] w fun e w'=>e=.returned (.string ⟨([]:List UInt8).toArray⟩)∧Below B w w':=by
 have c1:w.drew.cell? ⟨R,14,none⟩=some (.slice none 0 0):=c0
 have hUS:=us_none w.drew none
 have hSD:(Builtin.unsafeSliceData_ #[43] 86 #[.slice none 0 0]).run Tryz.prog w.drew=.ok (.pointer none) w.drew:=rfl
 have mixed:=mixT
 go_enter Tryz.func14,Tryz.ntmps14
 go_wp2
 go_region_o
 all_goals (go_wp2;go_ret;exact ⟨rfl,Below.drew (Below.refl B w)⟩)
set_option maxHeartbeats 4000000 in
set_option maxRecDepth 100000 in
theorem str_zero (w:World) (B R g cap:Nat) (L:List UInt8) (cur:Array Value) (hRl:R<w.heap.size) (hB:B≤w.heap.size) (c0:w.cell? ⟨R,14,none⟩=some (.slice (some ⟨g,0,none⟩) 0 0)) (hg:w.heap[g]?=some (.cells cur 5 (0,0))):
 Calls Tryz.prog 14 #[.pointer (some ⟨R,13,none⟩)] w fun e w'=>e=.returned (.string ⟨([]:List UInt8).toArray⟩)∧Below B w w':=by
 have c1:w.drew.cell? ⟨R,14,none⟩=some (.slice (some ⟨g,0,none⟩) 0 0):=c0
 have hUS:=us_none
 have hSD:(Builtin.unsafeSliceData_ #[43] 86 #[.slice (some ⟨g,0,none⟩) 0 0]).run Tryz.prog w.drew=.ok (.pointer (some ⟨w.drew.heap.size,0,none⟩)) (w.drew.alloc (.view ⟨g,0,none⟩ 5)):=
  Lib.run_unsafeSliceData_zero w.drew _ _ 5 Tryz.underlying86 ⟨g,0,none⟩ 0 (5,cur.size) (by have hg':w.drew.heap[g]?=some (.cells cur 5 (0,0)):=hg;simp [World.shape?,hg'])
 have c2:(w.drew.alloc (.view ⟨g,0,none⟩ 5)).cell? ⟨R,14,none⟩=some (.slice (some ⟨g,0,none⟩) 0 0):=(World.cell?_of_block (a:=⟨R,14,none⟩) (Lib.alloc_old w.drew _ R hRl)).trans c1
 have c3:(w.alloc (.view ⟨g,0,none⟩ 5)).drew.cell? ⟨R,14,none⟩=some (.slice (some ⟨g,0,none⟩) 0 0):=c2
 clear hg
 have mixed:=mixT
 go_enter Tryz.func14,Tryz.ntmps14
 go_wp2
 go_region_o
 all_goals (go_wp2;go_ret;exact ⟨rfl,(Below.drew (Below.refl B w)).alloc hB _⟩)
set_option maxHeartbeats 4000000 in
set_option maxRecDepth 100000 in
theorem str_room (w:World) (B R g cap:Nat) (L:List UInt8) (cur:Array Value) (hRl:R<w.heap.size) (hB:B≤w.heap.size) (c0:w.cell? ⟨R,14,none⟩=some (.slice (some ⟨g,0,none⟩) 0 cap)) (hc0:cap≠0):
 Calls Tryz.prog 14 #[.pointer (some ⟨R,13,none⟩)] w fun e w'=>e=.returned (.string ⟨([]:List UInt8).toArray⟩)∧Below B w w':=by
 have c1:w.drew.cell? ⟨R,14,none⟩=some (.slice (some ⟨g,0,none⟩) 0 cap):=c0
 have hUS:=us_none
 have hSD:(Builtin.unsafeSliceData_ #[43] 86 #[.slice (some ⟨g,0,none⟩) 0 cap]).run Tryz.prog w.drew=.ok (.pointer (some ⟨g,0,none⟩)) w.drew:=Lib.run_unsafeSliceData_row _ _ _ _ _ _ hc0
 clear hc0
 have mixed:=mixT
 go_enter Tryz.func14,Tryz.ntmps14
 go_wp2
 go_region_o
 all_goals (go_wp2;go_ret;exact ⟨rfl,Below.drew (Below.refl B w)⟩)
set_option maxHeartbeats 4000000 in
set_option maxRecDepth 100000 in
theorem str_some (w:World) (B R g cap:Nat) (L:List UInt8) (cur:Array Value) (hRl:R<w.heap.size) (hB:B≤w.heap.size) (c0:w.cell? ⟨R,14,none⟩=some (.slice (some ⟨g,0,none⟩) L.length cap)) (hbg:B≤g) (hSD:(Builtin.unsafeSliceData_ #[43] 86 #[.slice (some ⟨g,0,none⟩) L.length cap]).run Tryz.prog w.drew=.ok (.pointer (some ⟨g,0,none⟩)) w.drew) (hUS:(Builtin.unsafeString_ #[86,3] 9 #[.pointer (some ⟨g,0,none⟩),.int .i64 L.length]).run Tryz.prog w.drew=.ok (.string ⟨L.toArray⟩) (w.drew.freeze ⟨g,0,none⟩ L.length)):
 Calls Tryz.prog 14 #[.pointer (some ⟨R,13,none⟩)] w fun e w'=>e=.returned (.string ⟨L.toArray⟩)∧Below B w w':=by
 have c1:w.drew.cell? ⟨R,14,none⟩=some (.slice (some ⟨g,0,none⟩) L.length cap):=c0
 have mixed:=mixT
 go_enter Tryz.func14,Tryz.ntmps14
 go_wp2
 go_region_o
 all_goals (go_wp2;go_ret;exact ⟨rfl,Lib.below_freeze (Below.drew (Below.refl B w)) (p:=⟨g,0,none⟩) hbg _⟩)
theorem string_any (w:World) (B R:Nat) (s P:ByteArray) (sv:Nat→Value) (dn:Nat) (tl:Bool) (L:List UInt8) (ad bf:Value) (h:RwI w B R s P sv dn tl L ad bf) (hB:B≤w.heap.size):
 Calls Tryz.prog 14 #[.pointer (some ⟨R,13,none⟩)] w fun e w'=>e=.returned (.string ⟨L.toArray⟩)∧Below B w w':=by
 have c0:=h.c14
 have hRl:R<w.heap.size:=h.r.f.lt
 have ho:=h.o
 have ho2:=ho
 obtain ⟨h1,⟨rfl,h2⟩|⟨g,cap,cur,rfl,hbg,hg,hnc,hcm,hcs,htake⟩⟩:=ho2
 ·have hL:L=[]:=List.eq_nil_of_length_eq_zero h2
  subst hL
  exact str_nil w B R 0 0 [] #[] hRl hB c0
 ·by_cases hL0:L=[]
  ·subst hL0
   by_cases hc0:cap=0
   ·subst hc0
    exact str_zero w B R g 0 [] cur hRl hB c0 hg
   ·exact str_room w B R g cap [] #[] hRl hB c0 hc0
  ·have hl0:L.length≠0:=by simpa using hL0
   refine str_some w B R g cap L #[] hRl hB c0 hbg (Lib.run_unsafeSliceData_row _ _ _ _ _ _ (by omega)) ?_
   refine Lib.run_unsafeString_row w.drew 86 3 9 5 Tryz.underlying86 (by kernel_rfl) g cur.size (by have hg':w.drew.heap[g]?=some (.cells cur 5 (0,0)):=hg;simp [World.shape?,hg']) L hL0 (by omega) (by unfold maxLen at hcm;omega) ?_
   intro j x hx
   exact World.ownsRow.cells ho (g:=g) rfl j (.int .u8 x.toNat) (by simp [Lib.byteCells,hx])
end Go.Proofs.YtlgodacccilabaaGreatDoor
namespace Go.Proofs.YtlgodacccilabaaGreatDoor
open Go Go.RowKit
set_option linter.unusedVariables false
theorem mixedT:Tryz.prog.follows .mixedOrders=true:=by kernel_rfl
structure GsI (w wr:World) (s:ByteArray) (ps:List Pc) (fs:List Fd) (ov:Value) (j:Nat):Prop where
 b:Below w.heap.size w wr
 o:OwB wr w.heap.size ov (stW s ps (fs.take j)).1
 nn:ov≠ .slice none 0 0
 l:(stW s ps (fs.take j)).1.length≤131072
theorem flr_some {T:Option (List UInt8)} {L:List UInt8} {w w':World} {e:Ending} (h:FlR T w e w') (hT:T=some L):Below w.heap.size w w'∧e=.returned (.tuple #[.string ⟨L.toArray⟩,.bool true]):=by
 obtain ⟨h1,⟨h2,_⟩|⟨L',h2,h3⟩⟩:=h
 ·rw [h2] at hT;cases hT
 ·rw [h2] at hT;cases hT;exact ⟨h1,h3⟩
set_option maxHeartbeats 6400000 in
set_option maxRecDepth 100000 in
theorem sgsub_any (s p t:ByteArray) (mo:Int) (w:World) (hs:s.size≤1048576) (hp:p.size≤1048576) (ht:t.size≤1048576):
 Calls Tryz.prog 4 #[.string s,.string p,.string t,.int .i64 mo] w fun e w'=>GsR (gsubM s p t mo.toNat) w e w':=by
 go_enter Tryz.func4,Tryz.ntmps4
 go_wp2_with fail
 refine (check_any s p w hs hp).mono ?_
 rintro e w1 ⟨hb1,⟨h1,rfl⟩|⟨h1,h2,rfl⟩|⟨q,us,vi,vp,M,h1,h2,rfl,hM,hmb,hok,hit⟩⟩
 ·have HR:=hide (show gsubM s p t mo.toNat=(⟨#[]⟩,0,1) by rw [gsubM,if_pos h1])
  have HB:=hide hb1
  clear hb1
  go_wp2_with fail
  refine bodyPost_ret (v:=.tuple #[.string ⟨#[]⟩,.int .i64 0,.int .i64 1]) ?_ rfl ⟨HB.out,by rw [HR.out];rfl⟩
  simp [results,Tryz.results4,go_sem]
 ·have HR:=hide (show gsubM s p t mo.toNat=(⟨#[]⟩,0,2) by rw [gsubM,if_neg (by omega),h2])
  have HB:=hide hb1
  clear hb1 h2
  go_wp2_with fail
  refine bodyPost_ret (v:=.tuple #[.string ⟨#[]⟩,.int .i64 0,.int .i64 2]) ?_ rfl ⟨HB.out,by rw [HR.out];rfl⟩
  simp [results,Tryz.results4,go_sem]
 ·have HK:=hide (rdPat_k h2)
  have hcap:q.caps≤16:=HK.out.caps
  have HF:=hide (show gsubM s p t mo.toNat=match rdRp t q.caps (t.size+1) 0 with
   |none=>(⟨#[]⟩,0,5)
   |some ps=>if 50000<(allM s q mo.toNat (s.size+2) 0 0 0).2 then (⟨#[]⟩,0,4) else gsE s ps (allM s q mo.toNat (s.size+2) 0 0 0).1 by
   rw [gsubM,if_neg (by omega),h2]<;>rfl)
  have HB:=hide hb1
  have HMB:=hide hmb
  have HOK:=hide (And.intro hok hit)
  have hs1:w.heap.size≤w1.heap.size:=hb1.size
  obtain ⟨a1,q1,d1,a2,q2,d2,hmm⟩:=hmb.m
  obtain ⟨ap,kp,hvp⟩:=hmb.p.form
  subst hvp
  have m2:w1.cell? ⟨M,2,none⟩=some (.slice ap q.caps kp):=hmm.cell (j:=2) (by omega)
  have hML:M<w1.heap.size:=hmm.lt
  clear hb1 h2 hmb hok hit hmm
  have HC0:=hide (fun w'=>sfill_any s t ⟨0,0,[]⟩ q.caps nilS w' h1 ht hcap (Nat.le_refl _) (by simp) (fun x hx=>by simp at hx) (by simp) (.inl ⟨rfl,none,0,rfl⟩))
  go_wp2_with fail
  cases hrd:rdRp t q.caps (t.size+1) 0 with
  |none=>
   refine (HC0.out _).mono ?_
   rintro e w2 ⟨g1,⟨_,rfl⟩|⟨L9,g2,g3⟩⟩
   ·have HR:=hide (show gsubM s p t mo.toNat=(⟨#[]⟩,0,5) by rw [HF.out,hrd])
    have HB2:=hide (HB.out.trans (g1.mono hs1))
    clear g1 hrd HC0
    go_wp2_with fail
    refine bodyPost_ret (v:=.tuple #[.string ⟨#[]⟩,.int .i64 0,.int .i64 5]) ?_ rfl ⟨HB2.out,by rw [HR.out];rfl⟩
    simp [results,Tryz.results4,go_sem]
   ·rw [hrd] at g2;cases g2
  |some ps=>
   refine (HC0.out _).mono ?_
   rintro e w2 hfl
   obtain ⟨g1,rfl⟩:=flr_some hfl (by rw [hrd];rfl)
   clear HC0 hfl
   have HRD:=hide hrd
   have HF2:=hide (show gsubM s p t mo.toNat=if 50000<(allM s q mo.toNat (s.size+2) 0 0 0).2 then (⟨#[]⟩,0,4) else gsE s ps (allM s q mo.toNat (s.size+2) 0 0 0).1 by rw [HF.out,hrd])
   have HB2:=hide (HB.out.trans (g1.mono hs1))
   have HMB2:=hide (HMB.out.low (Keeps.of g1 (Nat.le_refl _) _))
   have hs2:=g1.size
   clear g1 hrd HF HB HMB m2
   generalize fil (hdl s ⟨0,0,[]⟩) ps=F0 at *
   have HA:=hide (sall_any mo.toNat mo (fun n=>by omega) M s q us vi (.slice ap q.caps kp) w2 h1 HOK.out.1 HOK.out.2 HMB2.out)
   have HAK:=hide (allM_ok (s:=s) (m:=mo.toNat) HK.out (k:=s.size+2) (at_:=0) (n:=0) (c:=0))
   have HTl:=hide (allM_len (s:=s) (t:=q) (m:=mo.toNat) (k:=s.size+2) (at_:=0) (n:=0) (c:=0))
   generalize allM s q mo.toNat (s.size+2) 0 0 0=T at *
   go_wp2_with fail
   refine HA.out.mono ?_
   rintro e w3 ⟨hk3,hm3,hn3,v,fs,rfl,hfs,hf⟩
   obtain ⟨av,kv,rfl⟩:=owns_val hf.l
   have HB3:=hide (show Below w.heap.size w w3 from HB2.out.trans (hk3.below (by omega) (fun b (e:b=M)=>e ▸ hM)))
   have hs3:=hk3.size
   obtain ⟨a1,q1,d1,a2,q2,d2,hmm⟩:=hm3.m
   have m2:w3.cell? ⟨M,2,none⟩=some (.slice ap q.caps kp):=hmm.cell (j:=2) (by omega)
   have hML3:M<w3.heap.size:=hmm.lt
   have HMM:=hide hmm
   have HFs:=hide (And.intro hfs hf)
   clear hk3 hm3 hfs hf HA HB2 hmm HMB2
   go_wp2_with fail
   refine (spent_any M _ T.2 w3 HMM.out rfl).mono ?_
   rintro e w4 ⟨rfl,hw⟩
   obtain rfl:=hw.symm
   by_cases hsp:50000<T.2
   ·have hspb:decide (50000<T.2)=true:=decide_eq_true hsp
    have HR:=hide (HF2.out.trans (if_pos hsp))
    go_wp2_with fail
    refine bodyPost_ret (v:=.tuple #[.string ⟨#[]⟩,.int .i64 0,.int .i64 4]) ?_ rfl ⟨HB3.out,by rw [HR.out];rfl⟩
    simp [results,Tryz.results4,go_sem]
   ·have hspb:decide (50000<T.2)=false:=decide_eq_false hsp
    have HR:=hide (HF2.out.trans (if_neg hsp))
    obtain ⟨FL,hFL⟩:∃ FL,fs.map Prod.fst=FL:=⟨_,rfl⟩
    have hFT:T.1=FL:=by rw [←HFs.out.1];exact hFL
    have hlen:fs.length=FL.length:=by rw [←hFL];simp
    rw [hFT] at HR HAK HTl
    have hFl9:FL.length≤65537:=by have:=HTl.out;omega
    have hI:GsI w3 (w3.alloc (.cells #[] 5)) s ps FL (.slice (some ⟨w3.heap.size,0,none⟩) 0 0) 0:=
     ⟨b_1 w3 _,⟨rfl,.inr ⟨w3.heap.size,0,#[],rfl,Nat.le_refl _,heap_alloc_new w3 _,Nat.le_refl _,by simp,rfl,rfl⟩⟩,by simp,by simp [stW]⟩
    have HI:=hide hI
    clear hI
    have hAt:=HAK.out
    have HKf:=hide hAt.2
    have HOr:=hide hAt.1
    clear hAt HAK
    have hps:=HRD.out
    have HPl:=hide (rdRp_len hps)
    clear hps
    go_wp2_with fail
    generalize w3.alloc (.cells #[] 5)=w5 at *
    go_loopw [16,17,54] (fun ov atv jv wr=>∃ j:Nat,jv=.int .i64 j∧j≤FL.length∧atv=.int .i64 ((stW s ps (FL.take j)).2:Int)∧Hid (GsI w3 wr s ps FL ov j)) (fun _ _ jv _=>FL.length+1-ivN jv)
    case atStart=>exact ⟨0,rfl,by omega,by simp [stW],HI⟩
    case round=>
     clear HI
     obtain ⟨j,rfl,hj9,rfl,HI⟩:=hrel
     obtain ⟨ao,co,hov⟩:=owns_val HI.out.o
     subst hov
     have hl9:=HI.out.l
     have hsz:=HI.out.b.size
     by_cases hj:j<FL.length
     ·have hjf:j<fs.length:=by omega
      have hj2:(j:Int)<(fs.length:Int):=by omega
      obtain ⟨f,hf⟩:∃ f,FL[j]=f:=⟨_,rfl⟩
      have hff:fs[j].1=f:=by rw [←hf];simp [←hFL]
      have hmem:f∈FL:=by rw [←hf];exact List.getElem_mem hj
      have hfk:=HKf.out f hmem
      have hcown:=HFs.out.2.c fs[j] (List.getElem_mem hjf)
      obtain ⟨g,rfl⟩:∃ g,av=some ⟨g,0,none⟩:=by
       obtain ⟨_,⟨e,e2⟩|⟨g,cap,cur,e,_⟩⟩:=HFs.out.2.l
       ·omega
       ·cases e;exact ⟨g,rfl⟩
      have hgl:g<w3.heap.size:=(owns_blt HFs.out.2.l (g:=g) (by simp [Value.ownBlock])).2
      have hcl:=HFs.out.2.cells hjf
      rw [hff] at hcl hcown
      obtain ⟨ac,kc,hcv⟩:=owns_val hcown
      rw [hcv] at hcl hcown
      have c0:wr.cell? ⟨g,j*3,none⟩=some (.int .i64 (f.fr:Int)):=(HI.out.b.cell (p:=⟨g,j*3,none⟩) hgl).trans hcl.1
      have c1:wr.cell? ⟨g,j*3+1,none⟩=some (.int .i64 (f.en:Int)):=(HI.out.b.cell (p:=⟨g,j*3+1,none⟩) hgl).trans hcl.2.1
      have c2:wr.cell? ⟨g,j*3+2,none⟩=some (.slice ac f.caps.length kc):=(HI.out.b.cell (p:=⟨g,j*3+2,none⟩) hgl).trans hcl.2.2
      have HTk:=hide (stW_take s ps FL hj)
      have hat:=stW_at (s:=s) (ps:=ps) HOr.out hj
      rw [hf] at HTk hat
      have hfe:=hfk.le
      have hen:=hfk.en
      have hcnl:f.caps.length≤16:=by have:=hfk.cn;omega
      have kA:=Keeps.of (b_1 wr (.cells #[.int .i64 (f.fr:Int),.int .i64 (f.en:Int),.slice ac f.caps.length kc] 32)) (Nat.le_refl _) (fun _=>False)
      have HCp:=hide (((CpA.of hcown).low (HI.out.b.trans ((b_1 wr (.cells #[.int .i64 (f.fr:Int),.int .i64 (f.en:Int),.slice ac f.caps.length kc] 32)).mono hsz))))
      have HO1:=hide (owns_keep HI.out.o kA (fun _ x=>x.elim))
      have HX:=hide (RowF.mk' wr 32 #[.int .i64 (f.fr:Int),.int .i64 (f.en:Int),.slice ac f.caps.length kc])
      have HB1:=hide (HI.out.b.trans ((b_1 wr (.cells #[.int .i64 (f.fr:Int),.int .i64 (f.en:Int),.slice ac f.caps.length kc] 32)).mono hsz))
      have hNN:=HI.out.nn
      have m2r:(wr.alloc (.cells #[.int .i64 (f.fr:Int),.int .i64 (f.en:Int),.slice ac f.caps.length kc] 32)).cell? ⟨M,2,none⟩=some (.slice ap q.caps kp):=(HB1.out.cell (p:=⟨M,2,none⟩) (by omega)).trans m2
      have x0:(wr.alloc (.cells #[.int .i64 (f.fr:Int),.int .i64 (f.en:Int),.slice ac f.caps.length kc] 32)).cell? ⟨wr.heap.size,0,none⟩=some (.int .i64 f.fr):=HX.out.cell (j:=0) (by simp)
      have x1:(wr.alloc (.cells #[.int .i64 (f.fr:Int),.int .i64 (f.en:Int),.slice ac f.caps.length kc] 32)).cell? ⟨wr.heap.size,1,none⟩=some (.int .i64 f.en):=HX.out.cell (j:=1) (by simp)
      have x2:(wr.alloc (.cells #[.int .i64 (f.fr:Int),.int .i64 (f.en:Int),.slice ac f.caps.length kc] 32)).cell? ⟨wr.heap.size,2,none⟩=some (.slice ac f.caps.length kc):=HX.out.cell (j:=2) (by simp)
      have hlt1:wr.heap.size<(wr.alloc (.cells #[.int .i64 (f.fr:Int),.int .i64 (f.en:Int),.slice ac f.caps.length kc] 32)).heap.size:=HX.out.lt
      have HC:=hide (fun d os=>Calls.regrown_of (w:=wr.alloc (.cells #[.int .i64 (f.fr:Int),.int .i64 (f.en:Int),.slice ac f.caps.length kc] 32)) (d:=d) (os:=os) ((sfill_any s t f q.caps (.slice ac f.caps.length kc) (Go.Sort.grow (redrawn (wr.alloc (.cells #[.int .i64 (f.fr:Int),.int .i64 (f.en:Int),.slice ac f.caps.length kc] 32)) d) os) h1 ht hcap hfe hen hfk.cp (by omega) (HCp.out.low (below_regrown _ _ _))).mono (fun e w' h=>(flr_some h (L:=fil (hdl s f) ps) (by rw [HRD.out];rfl)).symm)))
      have hfl:(fil (hdl s f) ps).length≤100000000000:=by
       have h1:=fil_len (hdl_len h1 hfk) ps
       have h2:=HPl.out
       omega
      clear hcl hcown hcv hfk hff hf hmem HI kA
      have HNew:=hide (show (stW s ps (FL.take (j+1))).1=(stW s ps (FL.take j)).1++(s.extract (stW s ps (FL.take j)).2 f.fr).data.toList++fil (hdl s f) ps∧(stW s ps (FL.take (j+1))).2=f.en by rw [HTk.out];exact ⟨rfl,rfl⟩)
      have HLong:=hide (fun h=>gsE_long (s:=s) (ps:=ps) (fs:=FL) (j:=j+1) h)
      generalize fil (hdl s f) ps=F1 at *
      generalize (stW s ps (FL.take j)).1=L1 at *
      generalize (stW s ps (FL.take j)).2=A1 at *
      have hsl:∀ w':World,(Instr.slice 9 (.string s) (some (.int .i64 (A1:Int))) (some (.int .i64 (f.fr:Int))) none).run Tryz.prog w'=.ok (.string (s.extract A1 f.fr)) w':=fun w'=>sl_run s A1 f.fr hat (by omega) w'
      have hez:(s.extract A1 f.fr).size≤65536:=by rw [ByteArray.size_extract];omega
      generalize s.extract A1 f.fr=E1 at *
      go_wp2_with fail
      generalize wr.alloc (.cells #[.int .i64 (f.fr:Int),.int .i64 (f.en:Int),.slice ac f.caps.length kc] 32)=wA at *
      generalize wr.heap.size=X at *
      have k0:=fun d os=>cell_regrown (w:=wA) (a:=⟨X,0,none⟩) (v:=.int .i64 f.fr) x0 d os
      have k1:=fun d os=>cell_regrown (w:=wA) (a:=⟨X,1,none⟩) (v:=.int .i64 f.en) x1 d os
      have k2:=fun d os=>cell_regrown (w:=wA) (a:=⟨X,2,none⟩) (v:=.slice ac f.caps.length kc) x2 d os
      have k3:=fun d os=>cell_regrown (w:=wA) (a:=⟨M,2,none⟩) (v:=.slice ap q.caps kp) m2r d os
      refine wp_region_quiet_below mixedT (by kernel_rfl) ?_
      repeat (quiet_step (exact HC.out _ _))
      refine wpQuiet_nil ?_
      rintro w6 ⟨⟨dq,osq⟩,hw6⟩
      have hb6:Below wA.heap.size wA w6:=by rw [hw6];exact below_regrown _ _ _
      clear hw6 k0 k1 k2 k3 x2 m2r HC
      have hs6:=hb6.size
      have HO6:=hide (owns_keep HO1.out (Keeps.of hb6 (Nat.le_refl _) (fun _=>False)) (fun _ x=>x.elim))
      have HB6:=hide (show Below w3.heap.size w3 w6 from HB1.out.trans (hb6.mono HB1.out.size))
      have hs36:=HB6.out.size
      have y0:w6.cell? ⟨X,0,none⟩=some (.int .i64 f.fr):=(hb6.cell (p:=⟨X,0,none⟩) hlt1).trans x0
      have y1:w6.cell? ⟨X,1,none⟩=some (.int .i64 f.en):=(hb6.cell (p:=⟨X,1,none⟩) hlt1).trans x1
      have hX6:X<w6.heap.size:=by omega
      have HXO:=hide (show (Value.slice ao L1.length co).ownBlock≠some X from fun e=>by
       obtain ⟨f9,h9⟩:=owns_rowF HO1.out e
       exact h9.apart HX.out (by decide) rfl)
      have HX6:=hide (HX.out.keep (Keeps.of hb6 (Nat.le_refl _) (fun _=>False)) (fun x=>x))
      clear x0 x1 hb6 HB1 HO1 HX HCp
      have HFz:=hide (show (⟨F1.toArray⟩:ByteArray).size=F1.length by show F1.toArray.size=_;simp)
      by_cases hlg:131072<L1.length+E1.size+F1.length
      ·have HR6:=hide (HR.out.trans (HLong.out (by rw [HNew.out.1,List.length_append,List.length_append,Array.length_toList];show _<L1.length+E1.size+F1.length;omega)))
       have hqq:(131072:Int)<(L1.length:Int)+(E1.size:Int)+(F1.length:Int):=by omega
       clear HLong HNew
       go_wp2_with (first
        |(have _z:=HO6
          at_builtin
          clear _z
          refine app_str rfl _ _ rfl w3.heap.size _ L1 E1 HO6.out rfl rfl (by omega) hs36 ?_
          intro v7 w7 h1 hn h2 h3
          have hL7:(L1++E1.data.toList).length=L1.length+E1.size:=by rw [List.length_append,Array.length_toList];rfl
          obtain ⟨a7,k7,hv7⟩:=owns_val h1
          rw [hL7] at hv7
          clear hL7
          subst hv7
          have HB7:=hide (h2 _ _ HB6.out (Nat.le_refl _))
          have HO7:=hide (And.intro h1 (hn hNN))
          have hX7a:=HX6.out.same (h3 X hX6 HXO.out)
          have y17:w7.cell? ⟨X,1,none⟩=some (.int .i64 f.en):=hX7a.cell (j:=1) (by simp)
          have hX7:X<w7.heap.size:=hX7a.lt
          have HXO7:=hide (show (Value.slice a7 (L1.length+E1.size) k7).ownBlock≠some X from fun e=>by
           obtain ⟨f9,h9⟩:=owns_rowF h1 e
           exact h9.apart hX7a (by decide) rfl)
          have hs7:=HB7.out.size
          clear h1 hn h2 h3 hX7a HO6)
        |fail)
       refine bodyPost_ret (v:=.tuple #[.string ⟨#[]⟩,.int .i64 0,.int .i64 6]) ?_ rfl ⟨HB3.out.trans (HB7.out.mono HB3.out.size),by rw [HR6.out];rfl⟩
       simp [results,Tryz.results4,go_sem]
      ·have hqq:¬ ((131072:Int)<(L1.length:Int)+(E1.size:Int)+(F1.length:Int)):=by omega
       clear HLong
       go_wp2_with (first
        |(have _z:=HO6
          at_builtin
          clear _z
          refine app_str rfl _ _ rfl w3.heap.size _ L1 E1 HO6.out rfl rfl (by omega) hs36 ?_
          intro v7 w7 h1 hn h2 h3
          have hL7:(L1++E1.data.toList).length=L1.length+E1.size:=by rw [List.length_append,Array.length_toList];rfl
          obtain ⟨a7,k7,hv7⟩:=owns_val h1
          rw [hL7] at hv7
          clear hL7
          subst hv7
          have HB7:=hide (h2 _ _ HB6.out (Nat.le_refl _))
          have HO7:=hide (And.intro h1 (hn hNN))
          have hX7a:=HX6.out.same (h3 X hX6 HXO.out)
          have y17:w7.cell? ⟨X,1,none⟩=some (.int .i64 f.en):=hX7a.cell (j:=1) (by simp)
          have hX7:X<w7.heap.size:=hX7a.lt
          have HXO7:=hide (show (Value.slice a7 (L1.length+E1.size) k7).ownBlock≠some X from fun e=>by
           obtain ⟨f9,h9⟩:=owns_rowF h1 e
           exact h9.apart hX7a (by decide) rfl)
          have hs7:=HB7.out.size
          clear h1 hn h2 h3 hX7a HO6)
        |(have _z:=HO7
          at_builtin
          clear _z
          refine app_str rfl _ _ rfl w3.heap.size _ (L1++E1.data.toList) ⟨F1.toArray⟩ HO7.out.1 rfl rfl (by rw [HFz.out,List.length_append,Array.length_toList];show L1.length+E1.size+F1.length≤_;omega) hs7 ?_
          intro v8 w8 h1 hn h2 h3
          have HI8:=hide (show GsI w3 w8 s ps FL v8 (j+1) from ⟨h2 _ _ HB7.out (Nat.le_refl _),by rw [HNew.out.1];exact h1,hn HO7.out.2,by rw [HNew.out.1,List.length_append,List.length_append,Array.length_toList];show L1.length+E1.size+F1.length≤_;omega⟩)
          have z1:w8.cell? ⟨X,1,none⟩=some (.int .i64 f.en):=(World.cell?_of_block (a:=⟨X,1,none⟩) (h3 X hX7 HXO7.out)).trans y17
          clear h1 hn h2 h3)
        |fail)
       go_roundw
       case rel=>exact ⟨j+1,by simp,by omega,by rw [HNew.out.2],HI8⟩
       case measure=>simp [ivN];omega
     ·obtain rfl:j=FL.length:=by omega
      have hj2:¬ ((FL.length:Int)<(fs.length:Int)):=by omega
      rw [List.take_length] at HI hl9
      have hen:=stW_end (s:=s) (t:=q) ps FL HKf.out
      have HWh:=hide (show whW s ps FL=(stW s ps FL).1++(s.extract (stW s ps FL).2 s.size).data.toList from rfl)
      have HO:=hide HI.out.o
      rw [List.take_length] at HO
      have HBx:=hide HI.out.b
      have HE:=hide (show gsE s ps FL=if 65536<(whW s ps FL).length then (⟨#[]⟩,0,6) else (⟨(whW s ps FL).toArray⟩,FL.length,0) from rfl)
      rw [List.take_length]
      clear HI
      generalize (stW s ps FL).1=L1 at *
      generalize (stW s ps FL).2=A1 at *
      have hsl:∀ w':World,(Instr.slice 9 (.string s) (some (.int .i64 (A1:Int))) none none).run Tryz.prog w'=.ok (.string (s.extract A1 s.size)) w':=fun w'=>by
       rw [run_slice_string_l w' 9 s Tryz.underlying9 .i64 _ (by omega) (by omega),Int.toNat_natCast]
      have hez:(s.extract A1 s.size).size≤65536:=by rw [ByteArray.size_extract];omega
      generalize s.extract A1 s.size=E1 at *
      have hwl:(whW s ps FL).length=L1.length+E1.size:=by rw [HWh.out,List.length_append,Array.length_toList];rfl
      have HWL:=hide hwl
      clear hwl
      have HLF:=hide hlen
      clear hlen
      by_cases hlg:65536<L1.length+E1.size
      ·have hqq:(65536:Int)<(L1.length:Int)+(E1.size:Int):=by omega
       have HR6:=hide (HR.out.trans (HE.out.trans (if_pos (by rw [HWL.out];exact hlg))))
       go_wp2_with (first
        |(have _z:=HO
          at_builtin
          clear _z
          refine app_str rfl _ _ rfl w3.heap.size _ L1 E1 HO.out rfl rfl (by omega) hsz ?_
          intro v7 w7 h1 hn h2 h3
          have hL7:(L1++E1.data.toList).length=L1.length+E1.size:=by rw [List.length_append,Array.length_toList];rfl
          obtain ⟨a7,k7,hv7⟩:=owns_val h1
          rw [hL7] at hv7
          clear hL7
          subst hv7
          have HB7:=hide (h2 _ _ HBx.out (Nat.le_refl _))
          have hcs:=ow_string h1
          rw [←HWh.out] at hcs
          clear h1 hn h2 h3 HO)
        |fail)
       refine bodyPost_ret (v:=.tuple #[.string ⟨#[]⟩,.int .i64 0,.int .i64 6]) ?_ rfl ⟨HB3.out.trans (HB7.out.mono HB3.out.size),by rw [HR6.out];rfl⟩
       simp [results,Tryz.results4,go_sem]
      ·have hqq:¬ ((65536:Int)<(L1.length:Int)+(E1.size:Int)):=by omega
       have HR6:=hide (HR.out.trans (HE.out.trans (if_neg (by rw [HWL.out];exact hlg))))
       go_wp2_with (first
        |(have _z:=HO
          at_builtin
          clear _z
          refine app_str rfl _ _ rfl w3.heap.size _ L1 E1 HO.out rfl rfl (by omega) hsz ?_
          intro v7 w7 h1 hn h2 h3
          have hL7:(L1++E1.data.toList).length=L1.length+E1.size:=by rw [List.length_append,Array.length_toList];rfl
          obtain ⟨a7,k7,hv7⟩:=owns_val h1
          rw [hL7] at hv7
          clear hL7
          subst hv7
          have HB7:=hide (h2 _ _ HBx.out (Nat.le_refl _))
          have hcs:=ow_string h1
          rw [←HWh.out] at hcs
          clear h1 hn h2 h3 HO)
        |fail)
       refine bodyPost_ret (v:=.tuple #[.string ⟨(whW s ps FL).toArray⟩,.int .i64 FL.length,.int .i64 0]) ?_ rfl ⟨HB3.out.trans (HB7.out.mono HB3.out.size),by rw [HR6.out]⟩
       simp [results,Tryz.results4,go_sem]
end Go.Proofs.YtlgodacccilabaaGreatDoor
