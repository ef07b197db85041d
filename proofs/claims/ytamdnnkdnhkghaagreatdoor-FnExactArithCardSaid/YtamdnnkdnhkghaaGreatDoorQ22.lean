import Derived.Test.YtamdnnkdnhkghaaGreatDoorQ21
set_option maxHeartbeats 12800000
set_option maxRecDepth 100000
set_option linter.unusedVariables false
namespace Go.Proofs.YtamdnnkdnhkghaaGreatDoor
open Go Go.RowKit
theorem zbi (c:Int) (l:List Int):dval (c::l)=(c-48).toNat*10^l.length+dval l:=by
 have key:∀ (l:List Int) (a:Nat),l.foldl (fun a c=>a*10+(c-48).toNat) a=a*10^l.length+l.foldl (fun a c=>a*10+(c-48).toNat) 0:=by
  intro l
  induction l with
  |nil=>intro a;simp
  |cons c l ih=>
   intro a
   rw [List.foldl_cons,List.foldl_cons,ih,ih (0*10+(c-48).toNat),List.length_cons,Nat.pow_succ,Nat.zero_mul,Nat.zero_add,Nat.add_mul]
   generalize 10^l.length=p
   grind
 unfold dval
 rw [List.foldl_cons,key,Nat.zero_mul,Nat.zero_add]
theorem zcL {c:Int} {l:List Int} (h:zae (c::l)=true):48<=c/\c<=57/\zae l=true:=by
 unfold zae at h ⊢
 rw [List.all_cons,Bool.and_eq_true] at h
 have:=of_decide_eq_true h.1
 exact ⟨this.1,this.2,h.2⟩
theorem zgc {l:List Int} (h:zae l=true):dval l<10^l.length:=by
 induction l with
 |nil=>simp [dval]
 |cons c l ih=>
  obtain ⟨h1,h2,h3⟩:=zcL h
  have h4:=ih h3
  rw [zbi,List.length_cons,Nat.pow_succ]
  have h5:(c-48).toNat<=9:=by omega
  have h6:=Nat.mul_le_mul_right (10^l.length) h5
  omega
theorem dval_inj:∀ {l m:List Int},zae l=true->zae m=true->l.length=m.length->dval l=dval m->l=m
 | [],[],_,_,_,_=>rfl
 | [],_::_,_,_,h,_=>by cases h
 |_::_,[],_,_,h,_=>by cases h
 |c::l,d::m,h1,h2,h3,h4=>by
  obtain ⟨a1,a2,a3⟩:=zcL h1
  obtain ⟨b1,b2,b3⟩:=zcL h2
  have hl:l.length=m.length:=by simpa using h3
  rw [zbi,zbi,hl] at h4
  have e1:=zgc a3
  have e2:=zgc b3
  rw [hl] at e1
  have hp:0<10^m.length:=Nat.pow_pos (by omega)
  have hc:(c-48).toNat=(d-48).toNat:=by
   have x1:((c-48).toNat*10^m.length+dval l)/10^m.length=(c-48).toNat:=by
    rw [Nat.add_comm,Nat.add_mul_div_right _ _ hp,Nat.div_eq_of_lt e1,Nat.zero_add]
   have x2:((d-48).toNat*10^m.length+dval m)/10^m.length=(d-48).toNat:=by
    rw [Nat.add_comm,Nat.add_mul_div_right _ _ hp,Nat.div_eq_of_lt e2,Nat.zero_add]
   rw [<-x1,h4,x2]
  have hv:dval l=dval m:=by rw [hc] at h4;omega
  have hcd:c=d:=by omega
  rw [hcd,dval_inj a3 b3 hl hv]
def top63:List Int:=[57,50,50,51,51,55,50,48,51,54,56,53,52,55,55,53,56,48,56]
theorem top63_val:dval top63=9223372036854775808:=by decide
theorem top63_dig:zae top63=true:=by decide
theorem zmY (l:List Int):dval (48::l)=dval l:=by rw [zbi];simp
theorem zj8 {l:List Int} (h:zae l=true) (hv:dval l=9223372036854775808) (h0:¬ (1<l.length/\l.getD 0 0=48)):l=top63:=by
 cases l with
 |nil=>simp [dval] at hv
 |cons c l=>
  have hlt:=zgc h
  obtain ⟨h1,h2,h3⟩:=zcL h
  have hlen:(c::l).length=19:=by
   rw [hv] at hlt
   have u:19<=(c::l).length:=by
    refine Classical.byContradiction fun hn=>?_
    have:10^(c::l).length<=10^18:=Nat.pow_le_pow_right (by omega) (by omega)
    omega
   refine Nat.le_antisymm ?_ u
   refine Classical.byContradiction fun hn=>?_
   have hc:c≠48:=fun hc=>h0 ⟨by omega,by rw [hc];rfl⟩
   rw [zbi] at hv
   have h5:1<=(c-48).toNat:=by omega
   have h6:=Nat.mul_le_mul_right (10^l.length) h5
   have h7:10^19<=10^l.length:=Nat.pow_le_pow_right (by omega) (by simp at hn;omega)
   omega
  exact dval_inj h top63_dig (by rw [hlen];rfl) (by rw [hv,top63_val])
theorem ztK {s t:ByteArray} (h:bs s=bs t):s=t:=by
 unfold bs at h
 have:s.data.toList=t.data.toList:=by
  refine List.map_inj_right (fun a b hab=>?_)|>.1 h
  have:a.toNat=b.toNat:=by omega
  exact UInt8.toNat_inj.1 this
 cases s;cases t
 simp at this
 rw [this]
theorem zmR {t:ByteArray} (h:bs t≠top63):(t.toList==[57,50,50,51,51,55,50,48,51,54,56,53,52,55,55,53,56,48,56])=false:=by
 rw [beq_eq_false_iff_ne]
 intro hh
 rw [ByteArray.toList_eq] at hh
 apply h
 unfold bs
 rw [hh]
 rfl
theorem zm0 {t:ByteArray} (h:bs t=top63):(t.toList==[57,50,50,51,51,55,50,48,51,54,56,53,52,55,55,53,56,48,56])=true:=by
 have e:t=⟨#[57,50,50,51,51,55,50,48,51,54,56,53,52,55,55,53,56,48,56]⟩:=ztK (by rw [h];rfl)
 rw [e,ByteArray.toList_eq]
 decide
def za8 (s:ByteArray) (v:Value):Value:=if zae (bs s)=true/\dval (bs s)=9223372036854775808 then intV (-9223372036854775808) else v
theorem zca {w wr:World} {A B:Obj} (h:Below ((w.alloc A).alloc B).heap.size ((w.alloc A).alloc B) wr):Below w.heap.size w wr:=
 (((Below.refl w.heap.size w).alloc (Nat.le_refl _) A).alloc (by simp) B).trans (h.mono (by simp;omega))
def strSize:Value->Nat
 | .string t=>t.size
 |_=>0
theorem zlv {t s:ByteArray} (h1:1<t.size) (h2:((t[0].toNat:Nat):Int)=48) (h:zae (bs t)=true/\dval (bs t)=dval (bs s)):
 zae (bs (t.extract 1 t.size))=true/\dval (bs (t.extract 1 t.size))=dval (bs s):=by
 rw [zeT]
 have hg:=zaf (s:=t) (k:=0) (by omega)
 have hl:=zad t
 cases hb:bs t with
 |nil=>rw [hb] at hl;simp at hl;omega
 |cons c l=>
  rw [hb] at h hg
  have hc:c=48:=by rw [<-h2,<-hg];rfl
  subst hc
  exact ⟨(zcL h.1).2.2,by rw [<-h.2,zmY];rfl⟩
theorem zfV (s:ByteArray) (f f':Bool) (i i' u u':Int) (w:World) (hs:s.size<=1000)
 (hA:∀ w,Rb 44 #[.int .i64 13,.agg #[.bool f,.int .i64 i,.int .u64 u],.agg #[.bool f,.int .i64 i,.int .u64 u]] w (.tuple #[.agg #[.bool f',.int .i64 i',.int .u64 u'],.int .i64 0])):
 Rb 70 #[.string s,.agg #[.bool f,.int .i64 i,.int .u64 u]] w (za8 s (.agg #[.bool f',.int .i64 i',.int .u64 u'])):=by
 have HA:=hide hA
 clear hA
 have Hl:=hide (zad s)
 go_enter Tryz.func70,Tryz.ntmps70
 go_wp2
 go_loop [5,6] (fun dv iv=>∃ (k:Nat),k<=s.size/\iv=.int .i64 k/\dv=.bool (zae ((bs s).take k))) (fun _ iv=>s.size-(intOf iv).toNat)
 case atStart=>exact ⟨0,Nat.zero_le _,rfl,rfl⟩
 obtain ⟨k,hk,rfl,rfl⟩:=hrel
 by_cases hlt:k<s.size
 ·have Hg:=hide (zaf hlt)
  have Ht:=hide (zi1 (l:=bs s) (k:=k) (by rw [Hl.out];exact hlt))
  have hb0:(0:Int)<=((s[k].toNat:Nat):Int):=by omega
  have hb1:((s[k].toNat:Nat):Int)<256:=by have:=s[k].toNat_lt;omega
  cases hb:zae ((bs s).take k) with
  |true=>
   go_wp2_with (go_at_call 115;refine (zan _ _ hb0 hb1).mono ?_;rintro e w' ⟨rfl,rfl⟩)
   go_round
   case rel=>exact ⟨k+1,by omega,by go_num,by rw [Ht.out,hb,Hg.out,Bool.true_and];rfl⟩
   case measure=>simp [intOf];omega
  |false=>
   go_wp2
   go_round
   case rel=>exact ⟨k+1,by omega,by go_num,by rw [Ht.out,hb,Bool.false_and]⟩
   case measure=>simp [intOf];omega
 have hks:k=s.size:=by omega
 subst hks
 have e0:(bs s).take s.size=bs s:=by rw [<-Hl.out,List.take_length]
 rw [e0]
 clear e0
 cases hb:zae (bs s) with
 |false=>
  have Ho:Hid (∀ v,za8 s v=v):=hide (fun v=>by unfold za8;rw [if_neg];rw [hb];exact fun h=>Bool.noConfusion h.1)
  have hne:=zmR (t:=s) (fun h=>by rw [h,top63_dig] at hb;cases hb)
  go_wp2
  refine wp_loop_rounds 1 ?_
  rw [rounds_succ]
  go_wp2_with fail
  refine rb (HA.out _) fun w1 hb1=>?_
  have hb2:=hb1.alloc hb1.size (.cells #[.bool f',.int .i64 i',.int .u64 u'] 26)
  obtain ⟨hc,hf⟩:=bcell hb1
  obtain ⟨hc2,hf2⟩:=bcell hb2
  have HB2:=hide hb2
  have hz:w.heap.size+1≠w1.heap.size:=by have:=hb1.size;simp at this;omega
  have hz2:¬ (w.heap.size+1=w1.heap.size):=hz
  clear hb1 hb2
  go_wp2
  refine bodyPost_ret (v:=.agg #[.bool f',.int .i64 i',.int .u64 u']) ?_ rfl ⟨by rw [Ho.out],?_⟩
  ·simp [results,Tryz.results70,go_sem,hc2]
  refine Below.setCell (Below.setCell (Below.setCell (zca HB2.out) ?_ _) ?_ _) ?_ _
  all_goals simp
 |true=>
  go_wp2
  go_loop [0] (fun dv=>∃ t:ByteArray,dv=.string t/\t.size<=1000/\Hid (zae (bs t)=true/\dval (bs t)=dval (bs s))) (fun dv=>strSize dv)
  case atStart=>exact ⟨s,rfl,hs,hide ⟨hb,rfl⟩⟩
  obtain ⟨t,rfl,hts,Ht⟩:=hrel
  by_cases h1:1<t.size
  ·by_cases h2:((t[0].toNat:Nat):Int)=48
   ·have Hn:Hid (zae (bs (t.extract 1 t.size))=true/\dval (bs (t.extract 1 t.size))=dval (bs s)):=hide (zlv h1 h2 Ht.out)
    have hsz:(t.extract 1 t.size).size=t.size-1:=by simp
    clear Ht
    have hq:((t[0].toNat:Nat):Int)==48:=by rw [h2];rfl
    go_wp2
    go_round
    case rel=>exact ⟨_,rfl,by omega,Hn⟩
    case measure=>simp [strSize];omega
   have hq:(((t[0].toNat:Nat):Int)==48)=false:=by rw [beq_eq_false_iff_ne];exact h2
   have hlead:¬ (1<(bs t).length/\(bs t).getD 0 0=48):=by
    intro hh
    rw [zaf (show 0<t.size by omega)] at hh
    exact h2 hh.2
   by_cases hv:dval (bs s)=9223372036854775808
   ·have heq:=zm0 (zj8 Ht.out.1 (by rw [Ht.out.2,hv]) hlead)
    have Ho:Hid (∀ v,za8 s v=intV (-9223372036854775808)):=hide (fun v=>by unfold za8;rw [if_pos ⟨hb,hv⟩])
    clear hlead hv Ht
    go_wp2_with fail
    refine rb (zdR _ _) fun w1 hb1=>?_
    obtain ⟨hc,hf⟩:=bcell hb1
    have HB1:=hide hb1
    clear hb1
    go_wp2
    refine bodyPost_ret (v:=intV (-9223372036854775808)) ?_ rfl ⟨by rw [Ho.out],?_⟩
    ·simp [results,Tryz.results70,go_sem,hc]
    refine Below.setCell (Below.setCell (Below.setCell (zca HB1.out) ?_ _) ?_ _) ?_ _
    all_goals simp
   have heq:=zmR (t:=t) (fun h=>hv (by rw [<-Ht.out.2,h,top63_val]))
   have Ho:Hid (∀ v,za8 s v=v):=hide (fun v=>by unfold za8;rw [if_neg (fun h=>hv h.2)])
   clear hlead hv Ht
   go_wp2_with fail
   refine rb (HA.out _) fun w1 hb1=>?_
   have hb2:=hb1.alloc hb1.size (.cells #[.bool f',.int .i64 i',.int .u64 u'] 26)
   obtain ⟨hc,hf⟩:=bcell hb1
   obtain ⟨hc2,hf2⟩:=bcell hb2
   have HB2:=hide hb2
   have hz:w.heap.size+1≠w1.heap.size:=by have:=hb1.size;simp at this;omega
   have hz2:¬ (w.heap.size+1=w1.heap.size):=hz
   clear hb1 hb2
   go_wp2
   refine bodyPost_ret (v:=.agg #[.bool f',.int .i64 i',.int .u64 u']) ?_ rfl ⟨by rw [Ho.out],?_⟩
   ·simp [results,Tryz.results70,go_sem,hc2]
   refine Below.setCell (Below.setCell (Below.setCell (zca HB2.out) ?_ _) ?_ _) ?_ _
   all_goals simp
  skip
  have hlead:¬ (1<(bs t).length/\(bs t).getD 0 0=48):=by
   intro hh
   rw [zad] at hh
   exact h1 hh.1
  by_cases hv:dval (bs s)=9223372036854775808
  ·have heq:=zm0 (zj8 Ht.out.1 (by rw [Ht.out.2,hv]) hlead)
   have Ho:Hid (∀ v,za8 s v=intV (-9223372036854775808)):=hide (fun v=>by unfold za8;rw [if_pos ⟨hb,hv⟩])
   clear hlead hv Ht
   go_wp2_with fail
   refine rb (zdR _ _) fun w1 hb1=>?_
   obtain ⟨hc,hf⟩:=bcell hb1
   have HB1:=hide hb1
   clear hb1
   go_wp2
   refine bodyPost_ret (v:=intV (-9223372036854775808)) ?_ rfl ⟨by rw [Ho.out],?_⟩
   ·simp [results,Tryz.results70,go_sem,hc]
   refine Below.setCell (Below.setCell (Below.setCell (zca HB1.out) ?_ _) ?_ _) ?_ _
   all_goals simp
  have heq:=zmR (t:=t) (fun h=>hv (by rw [<-Ht.out.2,h,top63_val]))
  have Ho:Hid (∀ v,za8 s v=v):=hide (fun v=>by unfold za8;rw [if_neg (fun h=>hv h.2)])
  clear hlead hv Ht
  go_wp2_with fail
  refine rb (HA.out _) fun w1 hb1=>?_
  have hb2:=hb1.alloc hb1.size (.cells #[.bool f',.int .i64 i',.int .u64 u'] 26)
  obtain ⟨hc,hf⟩:=bcell hb1
  obtain ⟨hc2,hf2⟩:=bcell hb2
  have HB2:=hide hb2
  have hz:w.heap.size+1≠w1.heap.size:=by have:=hb1.size;simp at this;omega
  have hz2:¬ (w.heap.size+1=w1.heap.size):=hz
  clear hb1 hb2
  go_wp2
  refine bodyPost_ret (v:=.agg #[.bool f',.int .i64 i',.int .u64 u']) ?_ rfl ⟨by rw [Ho.out],?_⟩
  ·simp [results,Tryz.results70,go_sem,hc2]
  refine Below.setCell (Below.setCell (Below.setCell (zca HB2.out) ?_ _) ?_ _) ?_ _
  all_goals simp
abbrev numG (f:Bool) (i u:Int):Value:=.agg #[.bool f,.int .i64 i,.int .u64 u]
abbrev resG (f:Bool) (i u:Int) (ok:Bool):Value:=.tuple #[numG f i u,.bool ok]
def NumOK (f:Bool) (i u:Int):Prop:=(f=false/\u=0/\ -9223372036854775808<=i/\i<=9223372036854775807)∨(f=true/\i=0/\∃ W:Nat,W<infW/\u=W)
theorem za6 (x:Int): -9223372036854775808<=wrap64 x/\wrap64 x<=9223372036854775807:=by unfold wrap64;omega
theorem zbE {f g:Bool} {i j u v:Int} {a b:Bool} (h:resG f i u a=resG g j v b):f=g/\i=j/\u=v/\a=b:=by
 simp at h
 exact ⟨h.1.1,h.1.2.1,h.1.2.2,h.2⟩
theorem zbj.ok {N:Nat} {E:Int} {f:Bool} {i u:Int} (h:zbj N E (resG f i u true)):f=true/\i=0/\∃ W:Nat,W<infW/\u=W:=by
 obtain ⟨W,hW,h⟩:=h
 split at h
 ·have:=(zbE (show resG f i u true=resG false 0 0 false from h)).2.2.2
  cases this
 obtain ⟨h1,h2,h3,_⟩:=zbE (show resG f i u true=resG true 0 W true from h)
 exact ⟨h1,h2,W,by have:=zas hW;omega,h3⟩
theorem DecR.ok {l:List Int} {f:Bool} {i u:Int} (h:DecR l (resG f i u true)):NumOK f i u:=by
 unfold DecR at h
 split at h
 ·have:=(zbE (show resG f i u true=resG false 0 0 false from h)).2.2.2
  cases this
 split at h
 ·rename_i hc
  obtain ⟨h1,h2,h3,_⟩:=zbE (show resG f i u true=resG false _ 0 true from h)
  exact .inl ⟨h1,h3,by omega,by omega⟩
 split at h
 ·have:=(zbE (show resG f i u true=resG false 0 0 false from h)).2.2.2
  cases this
 exact .inr h.ok
theorem PNR.ok {s:ByteArray} {f:Bool} {i u:Int} (h:PNR s (resG f i u true)):NumOK f i u/\s.size<=100:=by
 unfold PNR at h
 split at h
 ·have:=(zbE (show resG f i u true=resG false 0 0 false from h)).2.2.2
  cases this
 refine ⟨?_,by omega⟩
 split at h
 ·obtain ⟨h1,h2,h3,_⟩:=zbE (show resG f i u true=resG false _ 0 _ from h)
  refine .inl ⟨h1,h3,?_⟩
  rw [h2]
  split
  ·exact za6 _
  omega
 exact h.ok
theorem zp2 {l:List Int} (h:zae l=true):mlen l=l.length:=by
 refine zha ?_
 refine List.all_eq_true.2 (fun c hc=>?_)
 have:=List.all_eq_true.1 h c hc
 unfold isDP
 rw [this]
 rfl
theorem zlq {l:List Int} (h:zae l=true):zcv l=false:=by
 unfold zcv
 cases l with
 |nil=>rfl
 |cons a l=>
  cases l with
  |nil=>rfl
  |cons b l=>
   have h2:=zcL (zcL h).2.2
   have e1:(b==120)=false:=by rw [beq_eq_false_iff_ne];omega
   have e2:(b==88)=false:=by rw [beq_eq_false_iff_ne];omega
   show (_&&_&&((b==120)||(b==88)))=false
   rw [e1,e2]
   simp
theorem PNR.digits {s:ByteArray} {f:Bool} {i u:Int} (h:PNR s (resG f i u true)) (hd:zae (bs s)=true):
 if dval (bs s)<9223372036854775808 then f=false/\i=dval (bs s) else f=true:=by
 have hsz:=h.ok.2
 unfold PNR at h
 rw [if_neg (by omega),zlq hd,if_neg (by decide)] at h
 unfold DecR at h
 have e1:(dscan (bs s)).1=bs s:=by
  rw [(zbz (bs s)).1]
  refine List.filter_eq_self.2 (fun c hc=>?_)
  have:=List.all_eq_true.1 hd c hc
  have:=of_decide_eq_true this
  simp
  omega
 have e2:(dscan (bs s)).2.2=0:=by
  rw [(zbz (bs s)).2]
  refine List.count_eq_zero.2 (fun hc=>?_)
  have:=of_decide_eq_true (List.all_eq_true.1 hd _ hc)
  omega
 rw [zp2 hd,List.take_length,e1,e2] at h
 split at h
 ·have:=(zbE (show resG f i u true=resG false 0 0 false from h)).2.2.2
  cases this
 split at h
 ·rename_i hc
  rw [if_pos hc.2.2]
  obtain ⟨h1,h2,_⟩:=zbE (show resG f i u true=resG false _ 0 true from h)
  exact ⟨h1,h2⟩
 rename_i hc
 rw [if_neg (fun hh=>hc ⟨rfl,rfl,hh⟩)]
 rw [if_neg (Nat.lt_irrefl _)] at h
 exact zbj.ok h|>.1
def negN (f:Bool) (i u:Int):Value:=if f then numG true 0 (9223372036854775808+u) else numG false (wrap64 (-i)) 0
def OpR (t:ByteArray) (o:Option Value):Prop:=
 if t.data.toList=[110,97,110] then o=some (fltV 9221120237041090560)
 else if t.data.toList=[105,110,102] then o=some (fltV infW)
 else if t.data.toList=[45,105,110,102] then o=some (fltV (9223372036854775808+infW))
 else if (bs t).getD 0 0=45 then ∃ f i u ok,PNR (t.extract 1 t.size) (resG f i u ok)/\o=if ok then some (za8 (t.extract 1 t.size) (negN f i u)) else none
 else ∃ f i u ok,PNR t (resG f i u ok)/\o=if ok then some (numG f i u) else none
def IsNum (v:Value):Prop:=(∃ i,v=intV i/\ -9223372036854775808<=i/\i<=9223372036854775807)∨(∃ s r,v=fltV (wordS s r)/\r<9223372036854775808)
theorem zdd {W:Nat} (h:W<18446744073709551616):IsNum (fltV W):=by
 refine .inr ⟨_,_,by rw [<-zbo h],?_⟩
 omega
theorem OpR.num {t:ByteArray} {v:Value} (h:OpR t (some v)):IsNum v:=by
 unfold OpR at h
 split at h
 ·cases h;exact zdd (by decide)
 split at h
 ·cases h;exact zdd (by decide)
 split at h
 ·cases h;exact zdd (by decide)
 split at h
 ·obtain ⟨f,i,u,ok,hp,h⟩:=h
  cases ok with
  |false=>cases h
  |true=>
   cases h
   unfold za8
   split
   ·exact .inl ⟨_,rfl,by omega,by omega⟩
   unfold negN
   rcases hp.ok.1 with ⟨rfl,rfl,h1⟩|⟨rfl,rfl,W,hW,rfl⟩
   ·exact .inl ⟨_,rfl,za6 _⟩
   have:=zdd (W:=9223372036854775808+W) (by unfold infW at hW;omega)
   unfold fltV at this
   rw [Int.natCast_add] at this
   exact this
 obtain ⟨f,i,u,ok,hp,h⟩:=h
 cases ok with
 |false=>cases h
 |true=>
  cases h
  rcases hp.ok.1 with ⟨rfl,rfl,h1⟩|⟨rfl,rfl,W,hW,rfl⟩
  ·exact .inl ⟨_,rfl,h1⟩
  exact zdd (by unfold infW at hW;omega)
def opV:Option Value->Value
 |some v=>.tuple #[v,.bool true]
 |none=>.tuple #[numG false 0 0,.bool false]
theorem zuv (t:ByteArray) (w:World) (h:(t.toList==[110,97,110])=true):
 Rb 36 #[.string t] w (opV (some (fltV 9221120237041090560))):=by
 go_enter Tryz.func36,Tryz.ntmps36
 go_wp2_with fail
 refine rb (zm5 _) fun w1 hb1=>?_
 obtain ⟨hc,hf⟩:=bcell hb1
 have HB1:=hide hb1
 clear hb1
 go_wp2
 refine bodyPost_ret (v:=opV (some (fltV 9221120237041090560))) ?_ rfl ⟨rfl,?_⟩
 ·simp [results,Tryz.results36,go_sem,hc,opV]
 refine Below.setCell (Below.setCell (Below.setCell (zab (HB1.out.mono (by simp))) ?_ _) ?_ _) ?_ _
 all_goals simp
def zjc (t:ByteArray):Prop:=t.size=0∨∃ h:0<t.size,(((t[0].toNat:Nat):Int)==45)=false
theorem zpR (t:ByteArray) (f:Bool) (i u:Int) (ok:Bool) (w:World) (hs:t.size<=1048576) (h:(t.toList==[110,97,110])=false) (h2:(t.toList==[105,110,102])=false) (hm:zjc t)
 (hP:∀ w,Rb 69 #[.string t] w (resG f i u ok)):
 Rb 36 #[.string t] w (opV (if ok then some (numG f i u) else none)):=by
 have HP:=hide hP
 clear hP
 unfold resG numG at HP
 rcases hm with hm|⟨hm1,hm2⟩
 all_goals cases ok
 ·skip
  go_enter Tryz.func36,Tryz.ntmps36
  go_wp2_with fail
  refine rb (HP.out _) fun w1 hb1=>?_
  have hb2:=hb1.alloc hb1.size (.cells #[.bool f,.int .i64 i,.int .u64 u] 26)
  obtain ⟨hc2,hf2⟩:=bcell hb2
  have HB2:=hide hb2
  have hz:w.heap.size≠w1.heap.size:=by have:=hb1.size;simp at this;omega
  have hz2:¬ (w.heap.size=w1.heap.size):=hz
  have hz3:¬ (w1.heap.size=w.heap.size):=fun h=>hz h.symm
  clear hb1 hb2
  go_wp2
  refine bodyPost_ret (v:=opV (none)) ?_ rfl ⟨rfl,?_⟩
  ·simp [results,Tryz.results36,go_sem,hc2,opV]
  refine Below.setCell (Below.setCell (Below.setCell (zab (HB2.out.mono (by simp))) ?_ _) ?_ _) ?_ _
  all_goals simp
 ·skip
  go_enter Tryz.func36,Tryz.ntmps36
  go_wp2_with fail
  refine rb (HP.out _) fun w1 hb1=>?_
  have hb2:=hb1.alloc hb1.size (.cells #[.bool f,.int .i64 i,.int .u64 u] 26)
  obtain ⟨hc2,hf2⟩:=bcell hb2
  have HB2:=hide hb2
  have hz:w.heap.size≠w1.heap.size:=by have:=hb1.size;simp at this;omega
  have hz2:¬ (w.heap.size=w1.heap.size):=hz
  have hz3:¬ (w1.heap.size=w.heap.size):=fun h=>hz h.symm
  clear hb1 hb2
  go_wp2
  refine bodyPost_ret (v:=opV (some (numG f i u))) ?_ rfl ⟨rfl,?_⟩
  ·simp [results,Tryz.results36,go_sem,hc2,opV]
  refine Below.setCell (Below.setCell (Below.setCell (zab (HB2.out.mono (by simp))) ?_ _) ?_ _) ?_ _
  all_goals simp
 ·skip
  go_enter Tryz.func36,Tryz.ntmps36
  go_wp2_with fail
  refine rb (HP.out _) fun w1 hb1=>?_
  have hb2:=hb1.alloc hb1.size (.cells #[.bool f,.int .i64 i,.int .u64 u] 26)
  obtain ⟨hc2,hf2⟩:=bcell hb2
  have HB2:=hide hb2
  have hz:w.heap.size≠w1.heap.size:=by have:=hb1.size;simp at this;omega
  have hz2:¬ (w.heap.size=w1.heap.size):=hz
  have hz3:¬ (w1.heap.size=w.heap.size):=fun h=>hz h.symm
  clear hb1 hb2
  go_wp2
  refine bodyPost_ret (v:=opV (none)) ?_ rfl ⟨rfl,?_⟩
  ·simp [results,Tryz.results36,go_sem,hc2,opV]
  refine Below.setCell (Below.setCell (Below.setCell (zab (HB2.out.mono (by simp))) ?_ _) ?_ _) ?_ _
  all_goals simp
 skip
 go_enter Tryz.func36,Tryz.ntmps36
 go_wp2_with fail
 refine rb (HP.out _) fun w1 hb1=>?_
 have hb2:=hb1.alloc hb1.size (.cells #[.bool f,.int .i64 i,.int .u64 u] 26)
 obtain ⟨hc2,hf2⟩:=bcell hb2
 have HB2:=hide hb2
 have hz:w.heap.size≠w1.heap.size:=by have:=hb1.size;simp at this;omega
 have hz2:¬ (w.heap.size=w1.heap.size):=hz
 have hz3:¬ (w1.heap.size=w.heap.size):=fun h=>hz h.symm
 clear hb1 hb2
 go_wp2
 refine bodyPost_ret (v:=opV (some (numG f i u))) ?_ rfl ⟨rfl,?_⟩
 ·simp [results,Tryz.results36,go_sem,hc2,opV]
 refine Below.setCell (Below.setCell (Below.setCell (zab (HB2.out.mono (by simp))) ?_ _) ?_ _) ?_ _
 all_goals simp
theorem zuj (t:ByteArray) (f:Bool) (i u:Int) (ok:Bool) (w:World) (hs:t.size<=1048576) (h:(t.toList==[110,97,110])=false) (h2:(t.toList==[105,110,102])=true) (hm:zjc t)
 (hP:∀ w,Rb 69 #[.string t] w (resG f i u ok)):
 Rb 36 #[.string t] w (opV (some (fltV infW))):=by
 have HP:=hide hP
 clear hP
 unfold resG numG at HP
 have HF:=hide (fun w=>zd7 infW w (by decide))
 unfold fltV infW at *
 rcases hm with hm|⟨hm1,hm2⟩
 ·skip
  go_enter Tryz.func36,Tryz.ntmps36
  go_wp2_with fail
  refine rb (HP.out _) fun w1 hb1=>?_
  have hb2:=hb1.alloc hb1.size (.cells #[.bool f,.int .i64 i,.int .u64 u] 26)
  have hsz:w.heap.size+1<=w1.heap.size:=by have:=hb1.size;simp at this;omega
  have hz:w.heap.size≠w1.heap.size:=by omega
  have hz2:¬ (w.heap.size=w1.heap.size):=hz
  have hz3:¬ (w1.heap.size=w.heap.size):=fun h=>hz h.symm
  have HB0:=hide hb2
  clear hb1 hb2
  go_wp2_with fail
  refine rb (HF.out _) fun w2 hb3=>?_
  have hb2:=bt HB0.out hb3
  obtain ⟨hc2,hf2⟩:=bcell hb2
  obtain ⟨hc3,hf3⟩:=bcell hb3
  have HB2:=hide hb2
  clear hb2 hb3
  go_wp2
  refine bodyPost_ret (v:=opV (some (.agg #[.bool true,.int .i64 0,.int .u64 9218868437227405312]))) ?_ rfl ⟨rfl,?_⟩
  ·simp [results,Tryz.results36,go_sem,hc2,opV]
  refine Below.setCell (Below.setCell (Below.setCell (Below.setCell (Below.setCell (Below.setCell (zab (HB2.out.mono (by simp))) ?_ _) ?_ _) ?_ _) ?_ _) ?_ _) ?_ _
  all_goals (simp;try omega)
 skip
 go_enter Tryz.func36,Tryz.ntmps36
 go_wp2_with fail
 refine rb (HP.out _) fun w1 hb1=>?_
 have hb2:=hb1.alloc hb1.size (.cells #[.bool f,.int .i64 i,.int .u64 u] 26)
 have hsz:w.heap.size+1<=w1.heap.size:=by have:=hb1.size;simp at this;omega
 have hz:w.heap.size≠w1.heap.size:=by omega
 have hz2:¬ (w.heap.size=w1.heap.size):=hz
 have hz3:¬ (w1.heap.size=w.heap.size):=fun h=>hz h.symm
 have HB0:=hide hb2
 clear hb1 hb2
 go_wp2_with fail
 refine rb (HF.out _) fun w2 hb3=>?_
 have hb2:=bt HB0.out hb3
 obtain ⟨hc2,hf2⟩:=bcell hb2
 obtain ⟨hc3,hf3⟩:=bcell hb3
 have HB2:=hide hb2
 clear hb2 hb3
 go_wp2
 refine bodyPost_ret (v:=opV (some (.agg #[.bool true,.int .i64 0,.int .u64 9218868437227405312]))) ?_ rfl ⟨rfl,?_⟩
 ·simp [results,Tryz.results36,go_sem,hc2,opV]
 refine Below.setCell (Below.setCell (Below.setCell (Below.setCell (Below.setCell (Below.setCell (zab (HB2.out.mono (by simp))) ?_ _) ?_ _) ?_ _) ?_ _) ?_ _) ?_ _
 all_goals (simp;try omega)
def Minus (t:ByteArray):Prop:=∃ h:0<t.size,(((t[0].toNat:Nat):Int)==45)=true
theorem zi3 (t:ByteArray) (f:Bool) (i u:Int) (w:World) (hs:t.size<=1048576) (h:(t.toList==[110,97,110])=false) (h2:((t.extract 1 t.size).toList==[105,110,102])=false) (hm:Minus t)
 (hP:∀ w,Rb 69 #[.string (t.extract 1 t.size)] w (resG f i u false)):
 Rb 36 #[.string t] w (opV none):=by
 have HP:=hide hP
 clear hP
 unfold resG numG at HP
 obtain ⟨hm1,hm2⟩:=hm
 go_enter Tryz.func36,Tryz.ntmps36
 go_wp2_with fail
 refine rb (HP.out _) fun w1 hb1=>?_
 have hb2:=hb1.alloc hb1.size (.cells #[.bool f,.int .i64 i,.int .u64 u] 26)
 have hsz:w.heap.size+1<=w1.heap.size:=by have:=hb1.size;simp at this;omega
 have hz:w.heap.size≠w1.heap.size:=by omega
 have hz2:¬ (w.heap.size=w1.heap.size):=hz
 have hz3:¬ (w1.heap.size=w.heap.size):=fun h=>hz h.symm
 have HB0:=hide hb2
 clear hb1 hb2
 obtain ⟨hc2,hf2⟩:=bcell HB0.out
 go_wp2
 refine bodyPost_ret (v:=opV none) ?_ rfl ⟨rfl,?_⟩
 ·simp [results,Tryz.results36,go_sem,hc2,opV]
 refine Below.setCell (Below.setCell (Below.setCell (zab (HB0.out.mono (by simp))) ?_ _) ?_ _) ?_ _
 all_goals (simp;try omega)
theorem zoV (t:ByteArray) (f f':Bool) (i u i' u':Int) (w:World) (hs:t.size<=1048576) (h:(t.toList==[110,97,110])=false) (h2:((t.extract 1 t.size).toList==[105,110,102])=false) (hm:Minus t)
 (hP:∀ w,Rb 69 #[.string (t.extract 1 t.size)] w (resG f i u true))
 (hN:∀ w,Rb 70 #[.string (t.extract 1 t.size),numG f i u] w (numG f' i' u')):
 Rb 36 #[.string t] w (opV (some (numG f' i' u'))):=by
 have HP:=hide hP
 have HN:=hide hN
 clear hP hN
 unfold resG numG at HP
 unfold numG at HN
 obtain ⟨hm1,hm2⟩:=hm
 go_enter Tryz.func36,Tryz.ntmps36
 go_wp2_with fail
 refine rb (HP.out _) fun w1 hb1=>?_
 have hb2:=hb1.alloc hb1.size (.cells #[.bool f,.int .i64 i,.int .u64 u] 26)
 have hsz:w.heap.size+1<=w1.heap.size:=by have:=hb1.size;simp at this;omega
 have hz:w.heap.size≠w1.heap.size:=by omega
 have hz2:¬ (w.heap.size=w1.heap.size):=hz
 have hz3:¬ (w1.heap.size=w.heap.size):=fun h=>hz h.symm
 have HB0:=hide hb2
 clear hb1 hb2
 obtain ⟨hc2,hf2⟩:=bcell HB0.out
 go_wp2_with fail
 refine rb (HN.out _) fun w2 hb3=>?_
 clear hc2 hf2
 have hb2:=bt HB0.out hb3
 obtain ⟨hc2,hf2⟩:=bcell hb2
 obtain ⟨hc3,hf3⟩:=bcell hb3
 have HB2:=hide hb2
 clear hb2 hb3
 go_wp2
 refine bodyPost_ret (v:=opV (some (.agg #[.bool f',.int .i64 i',.int .u64 u']))) ?_ rfl ⟨rfl,?_⟩
 ·simp [results,Tryz.results36,go_sem,hc2,opV]
 refine Below.setCell (Below.setCell (Below.setCell (Below.setCell (Below.setCell (Below.setCell (zab (HB2.out.mono (by simp))) ?_ _) ?_ _) ?_ _) ?_ _) ?_ _) ?_ _
 all_goals (simp;try omega)
theorem zs9 (t:ByteArray) (f:Bool) (i u:Int) (ok:Bool) (w:World) (hs:t.size<=1048576) (h:(t.toList==[110,97,110])=false) (h2:((t.extract 1 t.size).toList==[105,110,102])=true) (hm:Minus t)
 (hP:∀ w,Rb 69 #[.string (t.extract 1 t.size)] w (resG f i u ok))
 (hN:∀ w,Rb 70 #[.string (t.extract 1 t.size),fltV infW] w (fltV (9223372036854775808+infW))):
 Rb 36 #[.string t] w (opV (some (fltV (9223372036854775808+infW)))):=by
 have HP:=hide hP
 have HN:=hide hN
 clear hP hN
 unfold resG numG at HP
 have HF:=hide (fun w=>zd7 infW w (by decide))
 unfold fltV infW at *
 have e1:((9223372036854775808+9218868437227405312:Nat):Int)=18442240474082181120:=rfl
 have e2:((9218868437227405312:Nat):Int)=9218868437227405312:=rfl
 rw [e1] at HN ⊢
 rw [e2] at HN HF
 obtain ⟨hm1,hm2⟩:=hm
 go_enter Tryz.func36,Tryz.ntmps36
 go_wp2_with fail
 refine rb (HP.out _) fun w1 hb1=>?_
 have hb2:=hb1.alloc hb1.size (.cells #[.bool f,.int .i64 i,.int .u64 u] 26)
 have hsz:w.heap.size+1<=w1.heap.size:=by have:=hb1.size;simp at this;omega
 have hz:w.heap.size≠w1.heap.size:=by omega
 have hz2:¬ (w.heap.size=w1.heap.size):=hz
 have hz3:¬ (w1.heap.size=w.heap.size):=fun h=>hz h.symm
 have HB0:=hide hb2
 clear hb1 hb2
 go_wp2_with fail
 refine rb (HF.out _) fun w2 hb3=>?_
 have hb2:=bt HB0.out hb3
 have hb5:Below w.heap.size w w2:=zab (hb2.mono (by simp))
 obtain ⟨hc2,hf2⟩:=bcell hb2
 obtain ⟨hc3,hf3⟩:=bcell hb3
 have HB2:=hide hb2
 have hsz2:w1.heap.size+1<=w2.heap.size:=by have:=hb3.size;simp at this;omega
 have HB5:=hide hb5
 clear hb2 hb3 hb5
 go_wp2_with fail
 refine rb (HN.out _) fun w4 hb4=>?_
 have k10:w4.cell? ⟨w.heap.size,0,none⟩=some (.bool false):=by rw [hb4.cell (p:=⟨w.heap.size,0,none⟩) (by simp;omega)];simp [go_sem,hc2]
 have k20:w4.cell? ⟨w1.heap.size,0,none⟩=some (.bool true):=by rw [hb4.cell (p:=⟨w1.heap.size,0,none⟩) (by simp;omega)];simp [go_sem,hc3]
 have f10:w4.frozen? ⟨w.heap.size,0,none⟩=false:=by rw [hb4.frozen (p:=⟨w.heap.size,0,none⟩) (by simp;omega)];simp [hf2]
 have f20:w4.frozen? ⟨w1.heap.size,0,none⟩=false:=by rw [hb4.frozen (p:=⟨w1.heap.size,0,none⟩) (by simp;omega)];simp [hf3]
 have k11:w4.cell? ⟨w.heap.size,1,none⟩=some (.int .i64 0):=by rw [hb4.cell (p:=⟨w.heap.size,1,none⟩) (by simp;omega)];simp [go_sem,hc2]
 have k21:w4.cell? ⟨w1.heap.size,1,none⟩=some (.int .i64 0):=by rw [hb4.cell (p:=⟨w1.heap.size,1,none⟩) (by simp;omega)];simp [go_sem,hc3]
 have f11:w4.frozen? ⟨w.heap.size,1,none⟩=false:=by rw [hb4.frozen (p:=⟨w.heap.size,1,none⟩) (by simp;omega)];simp [hf2]
 have f21:w4.frozen? ⟨w1.heap.size,1,none⟩=false:=by rw [hb4.frozen (p:=⟨w1.heap.size,1,none⟩) (by simp;omega)];simp [hf3]
 have k12:w4.cell? ⟨w.heap.size,2,none⟩=some (.int .u64 0):=by rw [hb4.cell (p:=⟨w.heap.size,2,none⟩) (by simp;omega)];simp [go_sem,hc2]
 have k22:w4.cell? ⟨w1.heap.size,2,none⟩=some (.int .u64 9218868437227405312):=by rw [hb4.cell (p:=⟨w1.heap.size,2,none⟩) (by simp;omega)];simp [go_sem,hc3]
 have f12:w4.frozen? ⟨w.heap.size,2,none⟩=false:=by rw [hb4.frozen (p:=⟨w.heap.size,2,none⟩) (by simp;omega)];simp [hf2]
 have f22:w4.frozen? ⟨w1.heap.size,2,none⟩=false:=by rw [hb4.frozen (p:=⟨w1.heap.size,2,none⟩) (by simp;omega)];simp [hf3]
 have hb6:=(Below.setCell (Below.setCell (Below.setCell HB5.out (show w.heap.size<=w1.heap.size by omega) (.bool true) (p:=⟨w1.heap.size,0,none⟩)) (show w.heap.size<=w1.heap.size by omega) (.int .i64 0) (p:=⟨w1.heap.size,1,none⟩)) (show w.heap.size<=w1.heap.size by omega) (.int .u64 9218868437227405312) (p:=⟨w1.heap.size,2,none⟩)).trans (hb4.mono (by simp;omega))
 have HB6:=hide hb6
 clear hb4 hb6
 clear hc2 hf2 hc3 hf3
 go_wp2
 refine bodyPost_ret (v:=opV (some (.agg #[.bool true,.int .i64 0,.int .u64 18442240474082181120]))) ?_ rfl ⟨rfl,?_⟩
 ·simp [results,Tryz.results36,go_sem,opV,k10,k11,k12]
 refine Below.setCell (Below.setCell (Below.setCell (Below.setCell (Below.setCell (Below.setCell HB6.out ?_ _) ?_ _) ?_ _) ?_ _) ?_ _) ?_ _
 all_goals (simp;try omega)
theorem zjb {s:Bool} {r:Nat} (h:r<=infW):FloatKind.f64.format.order (wordS s r) (wordS s r)=some .eq:=by
 show Ieee.double.order _ _=_
 unfold Ieee.Format.order
 by_cases hr:r<infW
 ·rw [zaj hr,zfp (a:=0) (c:=0) (by omega)]
 have:r=infW:=by omega
 rw [this,zaq]
 cases s<;>rfl
theorem zbt (W:Nat) (w:World) (ho:FloatKind.f64.format.order W W=some Ordering.eq):Rb 68 #[.float .f64 W] w (.agg #[.bool true,.int .i64 0,.int .u64 W]):=by
 have hfb:=zbl
 go_enter Tryz.func68,Tryz.ntmps68
 go_wp2
 exact bodyPost_ret (v:=.agg #[.bool true,.int .i64 0,.int .u64 W]) (by simp [results,Tryz.results68,go_sem]) rfl ⟨rfl,(Below.refl _ _).alloc (Nat.le_refl _) _⟩
theorem zcc (W:Nat) (w:World) (ho:FloatKind.f64.format.order W W=none):Rb 68 #[.float .f64 W] w (fltV 9221120237041090560):=by
 go_enter Tryz.func68,Tryz.ntmps68
 go_wp2
 exact bodyPost_ret (v:=fltV 9221120237041090560) (by simp [results,Tryz.results68,go_sem]) rfl ⟨rfl,(Below.refl _ _).alloc (Nat.le_refl _) _⟩
theorem zr2 {x:Nat} (h:x<9223372036854775808):Op.negFloat .f64 x=9223372036854775808+x:=zhd h
theorem zlJ (i:Int) (w:World) (h0: -9223372036854775808<=i) (h1:i<=9223372036854775807):Rb 120 #[intV i] w (intV (wrap64 (-i))):=by
 go_enter Tryz.func120,Tryz.ntmps120
 go_wp2_with fail
 refine rb (zcT _ _) fun w1 hb1=>?_
 obtain ⟨hc,hf⟩:=bcell hb1
 have HB1:=hide hb1
 clear hb1
 go_wp2
 refine bodyPost_ret (v:=intV (wrap64 (-i))) ?_ rfl ⟨rfl,?_⟩
 ·simp [results,Tryz.results120,go_sem,hc]
 refine Below.setCell (Below.setCell (Below.setCell (zca HB1.out) ?_ _) ?_ _) ?_ _
 all_goals simp
theorem ztq (x y:Nat) (h:Op.negFloat .f64 x=y) (w:World):(Op.unary .neg (.float .f64 x)).run Tryz.prog w=.ok (.float .f64 y) w:=by
 unfold Op.unary
 simp only [h]
 rfl
theorem zlG (x y:Nat) (w:World) (hx:x<infW) (hy:y=9223372036854775808+x):Rb 120 #[fltV x] w (fltV y):=by
 have hneg:Op.negFloat .f64 x=y:=by rw [hy];exact zr2 (by unfold infW at hx;omega)
 have ho:FloatKind.f64.format.order y y=some Ordering.eq:=by rw [hy];exact zjb (s:=true) (Nat.le_of_lt hx)
 have HN:=hide (fun w=>zbt y w ho)
 have HF:=hide (fun w=>zc4 x w)
 have hng:=fun w=>ztq x y hneg w
 clear ho hx hy
 unfold fltV
 go_enter Tryz.func120,Tryz.ntmps120
 go_wp2_with fail
 refine rb (HF.out _) fun w1 hb1=>?_
 go_wp2_with fail
 refine rb (HN.out _) fun w2 hb2=>?_
 have hb12:=bt hb1 hb2
 obtain ⟨hc,hf⟩:=bcell hb12
 have HB2:=hide hb12
 clear hb1 hb2 hb12
 go_wp2
 refine bodyPost_ret (v:=.agg #[.bool true,.int .i64 0,.int .u64 y]) ?_ rfl ⟨rfl,?_⟩
 ·simp [results,Tryz.results120,go_sem,hc]
 refine Below.setCell (Below.setCell (Below.setCell (zca HB2.out) ?_ _) ?_ _) ?_ _
 all_goals simp
theorem ziR (t d:ByteArray) (ht:t.data.toList=45::d.data.toList) (h0:0<d.size) (h:zae (bs d)=true):
 (dval (bs d)<=9223372036854775808->Lib.parseIntB 64 t.data.toList=.ok (-(dval (bs d):Int)))/\(¬ dval (bs d)<=9223372036854775808->Lib.parseIntB 64 t.data.toList=.range):=by
 have hd:∀ c∈d.data.toList,48<=c.toNat/\c.toNat<=57:=by
  intro c hc
  unfold zae at h
  rw [List.all_eq_true] at h
  have:=h ((c.toNat:Nat):Int) (List.mem_map.2 ⟨c,hc,rfl⟩)
  unfold zax at this
  rw [decide_eq_true_eq] at this
  omega
 have hv:=zgH d hd
 have hne:d.data.toList≠[]:=by
  intro e
  have:d.size=0:=by show d.data.size=0;rw [<-Array.length_toList,e];rfl
  omega
 have hu:Lib.parseUintB 64 d.data.toList=if dval (bs d)<=18446744073709551615 then .ok (dval (bs d)) else .range:=by
  unfold Lib.parseUintB
  rw [if_neg hne,hv]
  exact ziT (M:=2^64-1) (by decide) _ 0 (Nat.zero_le _) hd
 have hp:Lib.parseIntB 64 t.data.toList=match Lib.parseUintB 64 d.data.toList with
  | .syntax=>.syntax
  | .range=>.range
  | .ok u=>if 9223372036854775808<u then .range else .ok (-(u:Int)):=by
  rw [ht]
  unfold Lib.parseIntB
  have e45:(45:UInt8).toNat=45:=rfl
  simp only [e45,or_true,if_true,not_true,false_and,if_false,true_and]
  cases Lib.parseUintB 64 d.data.toList<;>rfl
 rw [hp,hu]
 constructor
 ·intro hle
  rw [if_pos (by omega)]
  simp only
  rw [if_neg (by omega)]
 intro hgt
 by_cases h2:dval (bs d)<=18446744073709551615
 ·rw [if_pos h2]
  simp only
  rw [if_pos (by omega)]
 rw [if_neg h2]
theorem zbj.ex (N:Nat) (E:Int):∃ r,zbj N E r:=by
 obtain ⟨W,hW⟩:=zam.ex N E
 exact ⟨_,W,hW,rfl⟩
theorem DecR.ex (l:List Int):∃ r,DecR l r:=by
 unfold DecR
 split
 ·exact ⟨_,rfl⟩
 split
 ·exact ⟨_,rfl⟩
 split
 ·exact ⟨_,rfl⟩
 exact zbj.ex _ _
theorem PNR.ex (s:ByteArray):∃ f i u ok,PNR s (resG f i u ok):=by
 have:∃ r,PNR s r:=by
  unfold PNR
  split
  ·exact ⟨_,rfl⟩
  split
  ·exact ⟨_,rfl⟩
  exact DecR.ex _
 obtain ⟨r,hr⟩:=this
 obtain ⟨f,i,u,ok,rfl⟩:=hr.form
 exact ⟨f,i,u,ok,hr⟩
structure Ready (w:World) (ev1 ev5:Value):Prop where
 env:∃ G o P po C co ev m,Env w G o P po C co ev m
 e1:w.cell? ⟨1,0,none⟩=some ev1
 e5:w.cell? ⟨5,0,none⟩=some ev5
theorem Ready.size {w:World} {ev1 ev5:Value} (h:Ready w ev1 ev5):21<w.heap.size:=by
 obtain ⟨G,o,P,po,C,co,ev,m,hE⟩:=h.env
 exact hE.vars.h12
theorem Ready.below {w w':World} {ev1 ev5:Value} (h:Ready w ev1 ev5) (hb:Below w.heap.size w w'):Ready w' ev1 ev5:=by
 have hs:=h.size
 obtain ⟨G,o,P,po,C,co,ev,m,hE⟩:=h.env
 exact ⟨⟨G,o,P,po,C,co,ev,m,hE.below hb⟩,(hb.cell (p:=⟨1,0,none⟩) (show 1<w.heap.size by omega)).trans h.e1,(hb.cell (p:=⟨5,0,none⟩) (show 5<w.heap.size by omega)).trans h.e5⟩
theorem znW {s:ByteArray} {f:Bool} {i u:Int} {ok:Bool} (hp:PNR s (resG f i u ok)) {ev1 ev5:Value} (w:World) (hr:s.size<=140737488351232) (hR:Ready w ev1 ev5):
 Rb 13 #[.string s] w (resG f i u ok):=by
 obtain ⟨G,o,P,po,C,co,ev,m,hE⟩:=hR.env
 refine (zlz idx_any s G o P po C co ev m w hr hE).mono ?_
 rintro e w' ⟨r,rfl,hr',hb⟩
 exact ⟨by rw [hr'.unique hp],hb⟩
theorem zfR {s:ByteArray} {f:Bool} {i u:Int} {ok:Bool} (hp:PNR s (resG f i u ok)) (w:World) (hr:s.size<=140737488351232):
 Rb 69 #[.string s] w (resG f i u ok):=by
 refine (zlr s w hr).mono ?_
 rintro e w' ⟨r,rfl,hr',hb⟩
 exact ⟨by rw [hr'.unique hp],hb⟩
theorem zln {f:Bool} {i u:Int} (h:NumOK f i u):∃ f' i' u',negN f i u=numG f' i' u'/\∀ w,Rb 120 #[numG f i u] w (numG f' i' u'):=by
 rcases h with ⟨rfl,rfl,h0,h1⟩|⟨rfl,rfl,W,hW,rfl⟩
 ·exact ⟨_,_,_,rfl,fun w=>zlJ i w h0 h1⟩
 refine ⟨true,0,((9223372036854775808+W:Nat):Int),?_,fun w=>zlG W _ w hW rfl⟩
 unfold negN
 rw [Int.natCast_add]
 rfl
theorem zmp {f:Bool} {i u:Int} (h:NumOK f i u):∃ f' i' u',negN f i u=numG f' i' u'/\∀ w,Rb 44 #[.int .i64 13,numG f i u,numG f i u] w (.tuple #[numG f' i' u',.int .i64 0]):=by
 rcases h with ⟨rfl,rfl,h0,h1⟩|⟨rfl,rfl,W,hW,rfl⟩
 ·exact ⟨_,_,_,rfl,fun w=>zhf i w h0 h1⟩
 refine ⟨true,0,((9223372036854775808+W:Nat):Int),?_,fun w=>zeh W _ w (Nat.le_of_lt hW) rfl⟩
 unfold negN
 rw [Int.natCast_add]
 rfl
theorem zaO (t:ByteArray) (l:List UInt8):(t.toList==l)=decide (t.data.toList=l):=by
 rw [ByteArray.toList_eq]
 by_cases h:t.data.toList=l
 ·rw [decide_eq_true h,h,beq_self_eq_true]
 rw [decide_eq_false h,beq_eq_false_iff_ne];exact h
theorem bs_of {t:ByteArray} {l:List UInt8} (h:t.data.toList=l):bs t=l.map fun b=>((b.toNat:Nat):Int):=by unfold bs;rw [h]
theorem zrQ {t:ByteArray} {l:List UInt8} (h:t.data.toList=l):t.size=l.length:=by
 show t.data.size=_
 rw [<-h,Array.length_toList]
theorem zfz {t:ByteArray} (h:(bs t).getD 0 0=45):Minus t:=by
 have h0:0<t.size:=by
  refine Classical.byContradiction fun hn=>?_
  have:bs t=[]:=List.length_eq_zero_iff.1 (by rw [zad];omega)
  rw [this] at h
  cases h
 refine ⟨h0,?_⟩
 rw [zaf h0] at h
 rw [h]
 rfl
theorem zkD {t:ByteArray} (h:(bs t).getD 0 0≠45):zjc t:=by
 by_cases h0:0<t.size
 ·refine .inr ⟨h0,?_⟩
  rw [zaf h0] at h
  rw [beq_eq_false_iff_ne]
  exact h
 exact .inl (by omega)
theorem ziN (t:ByteArray):(t.extract 1 t.size).data.toList=t.data.toList.drop 1:=by
 rw [ByteArray.data_extract,Array.toList_extract]
 simp
 rw [List.take_of_length_le]
 rw [List.length_tail,Array.length_toList]
 show t.data.size-1<=t.size-1
 exact Nat.le_refl _
theorem zfF (t:ByteArray):(t.extract 1 t.size).size=t.size-1:=by simp
theorem zeD {t:ByteArray} (h:(bs t).getD 0 0=45):t.data.toList=45::(t.extract 1 t.size).data.toList:=by
 rw [ziN]
 cases hl:t.data.toList with
 |nil=>
  have:bs t=[]:=by unfold bs;rw [hl];rfl
  rw [this] at h
  cases h
 |cons a l=>
  have:bs t=((a.toNat:Nat):Int)::l.map fun b=>((b.toNat:Nat):Int):=by unfold bs;rw [hl];rfl
  rw [this] at h
  have h1:a.toNat=45:=by
   have:((a.toNat:Nat):Int)=45:=h
   omega
  have:a=45:=UInt8.toNat_inj.1 h1
  rw [this]
  rfl
theorem zi4 (s:ByteArray) (f:Bool) (i u:Int):∃ f' i' u',za8 s (numG f i u)=numG f' i' u':=by
 unfold za8
 split
 ·exact ⟨_,_,_,rfl⟩
 exact ⟨_,_,_,rfl⟩
theorem zgm (t:ByteArray) (hs:t.size<=1048576):∃ o,OpR t o/\∀ w,Rb 36 #[.string t] w (opV o):=by
 by_cases h1:t.data.toList=[110,97,110]
 ·refine ⟨some (fltV 9221120237041090560),by unfold OpR;rw [if_pos h1],fun w=>zuv t w ?_⟩
  rw [zaO,decide_eq_true h1]
 have n1:(t.toList==[110,97,110])=false:=by rw [zaO,decide_eq_false h1]
 by_cases h2:t.data.toList=[105,110,102]
 ·obtain ⟨f,i,u,ok,hp⟩:=PNR.ex t
  refine ⟨some (fltV infW),by unfold OpR;rw [if_neg h1,if_pos h2],fun w=>zuj t f i u ok w hs n1 ?_ (zkD ?_) (fun w=>zfR hp w (by omega))⟩
  ·rw [zaO,decide_eq_true h2]
  rw [bs_of h2];decide
 by_cases h3:t.data.toList=[45,105,110,102]
 ·have hm:(bs t).getD 0 0=45:=by rw [bs_of h3];rfl
  have hd:(t.extract 1 t.size).data.toList=[105,110,102]:=by rw [ziN,h3];rfl
  obtain ⟨f,i,u,ok,hp⟩:=PNR.ex (t.extract 1 t.size)
  have hsz:=zfF t
  refine ⟨some (fltV (9223372036854775808+infW)),by unfold OpR;rw [if_neg h1,if_neg h2,if_pos h3],fun w=>zs9 t f i u ok w hs n1 ?_ (zfz hm) (fun w=>zfR hp w (by omega)) (fun w=>?_)⟩
  ·rw [zaO,decide_eq_true hd]
  have:=zfV (t.extract 1 t.size) true true 0 0 infW (((9223372036854775808+infW:Nat)):Int) w (by rw [zrQ hd];decide) (fun w=>zeh infW _ w (Nat.le_refl _) rfl)
  have hno:∀ v,za8 (t.extract 1 t.size) v=v:=fun v=>by
   unfold za8
   rw [if_neg]
   rw [bs_of hd]
   exact fun hh=>absurd hh.1 (by decide)
  rw [hno] at this
  exact this
 by_cases h4:(bs t).getD 0 0=45
 ·have hl:=zeD h4
  have hd:(t.extract 1 t.size).data.toList≠[105,110,102]:=fun hh=>h3 (by rw [hl,hh])
  have n2:((t.extract 1 t.size).toList==[105,110,102])=false:=by rw [zaO,decide_eq_false hd]
  obtain ⟨f,i,u,ok,hp⟩:=PNR.ex (t.extract 1 t.size)
  have hsz:=zfF t
  have hO:OpR t (if ok then some (za8 (t.extract 1 t.size) (negN f i u)) else none):=by unfold OpR;rw [if_neg h1,if_neg h2,if_neg h3,if_pos h4];exact ⟨f,i,u,ok,hp,rfl⟩
  refine ⟨_,hO,fun w=>?_⟩
  cases ok with
  |false=>exact zi3 t f i u w hs n1 n2 (zfz h4) (fun w=>zfR hp w (by omega))
  |true=>
   obtain ⟨hk,h100⟩:=hp.ok
   obtain ⟨f',i',u',hn,hA⟩:=zmp hk
   obtain ⟨f2,i2,u2,hn2⟩:=zi4 (t.extract 1 t.size) f' i' u'
   have hN:=fun w=>zfV (t.extract 1 t.size) f f' i i' u u' w (by omega) hA
   rw [hn2] at hN
   rw [hn,hn2]
   exact zoV t f f2 i u i2 u2 w hs n1 n2 (zfz h4) (fun w=>zfR hp w (by omega)) hN
 obtain ⟨f,i,u,ok,hp⟩:=PNR.ex t
 have n2:(t.toList==[105,110,102])=false:=by rw [zaO,decide_eq_false h2]
 refine ⟨_,by unfold OpR;rw [if_neg h1,if_neg h2,if_neg h3,if_neg h4];exact ⟨f,i,u,ok,hp,rfl⟩,fun w=>zpR t f i u ok w hs n1 n2 (zkD h4) (fun w=>zfR hp w (by omega))⟩
end Go.Proofs.YtamdnnkdnhkghaaGreatDoor
