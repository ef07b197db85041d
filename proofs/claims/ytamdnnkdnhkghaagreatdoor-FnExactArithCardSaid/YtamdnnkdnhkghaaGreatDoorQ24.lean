import Derived.Laws.IdiomStrings
import Derived.LaidEql
import Derived.Stop.Asserts
import Derived.RowKitTokens
import Derived.Lib.AppendIntMem
import Derived.Maps.AppendAt
import Derived.Test.YtamdnnkdnhkghaaGreatDoorQ22
import Derived.Test.YtamdnnkdnhkghaaGreatDoorQ23
set_option maxHeartbeats 12800000
set_option maxRecDepth 100000
set_option linter.unusedVariables false
namespace Go.Proofs.YtamdnnkdnhkghaaGreatDoor
open Go Go.RowKit
def OpS (t:ByteArray) (o:Option Value):Prop:=
 if (bs t).getD 0 0=45 then ∃ f i u ok,PNR (t.extract 1 t.size) (resG f i u ok)/\o=if ok then some (za8 (t.extract 1 t.size) (negN f i u)) else none
 else ∃ f i u ok,PNR t (resG f i u ok)/\o=if ok then some (numG f i u) else none
theorem zub {t:ByteArray} (h:(bs t).getD 0 0≠45) (w:World):Rs 119 #[.string t,.string ⟨#[45]⟩] w (.tuple #[.string t,.bool false]):=by
 have:=Tryz.strings_CutPrefix t ⟨#[45]⟩ w
 have e1:Lib.hasPrefix t.data.toList [45]=false:=by
  cases hl:t.data.toList with
  |nil=>rfl
  |cons a l=>
   have ha:a≠45:=fun ha=>h (by rw [bs_of hl,ha];rfl)
   show ([45]:List UInt8).isPrefixOf (a::l)=false
   simp [List.isPrefixOf]
   exact fun hh=>ha hh.symm
 have e2:Lib.trimPrefix t.data.toList [45]=t.data.toList:=by
  unfold Lib.trimPrefix
  rw [e1]
  rfl
 have e3:(⟨#[45]⟩:ByteArray).data.toList=[45]:=rfl
 rw [e3,e1,e2] at this
 exact this
theorem zhe {t:ByteArray} (h:(bs t).getD 0 0=45) (w:World):Rs 119 #[.string t,.string ⟨#[45]⟩] w (.tuple #[.string (t.extract 1 t.size),.bool true]):=by
 have:=Tryz.strings_CutPrefix t ⟨#[45]⟩ w
 have hl:=zeD h
 have e1:Lib.hasPrefix t.data.toList [45]=true:=by
  rw [hl]
  show ([45]:List UInt8).isPrefixOf _=true
  simp [List.isPrefixOf]
 have e2:Lib.trimPrefix t.data.toList [45]=(t.extract 1 t.size).data.toList:=by
  unfold Lib.trimPrefix
  rw [e1,hl]
  rfl
 have e3:(⟨#[45]⟩:ByteArray).data.toList=[45]:=rfl
 rw [e3,e1,e2] at this
 exact this
theorem zpV (t:ByteArray) (f:Bool) (i u:Int) (ok:Bool) (w:World) (h:(bs t).getD 0 0≠45)
 (hP:∀ w',Below w.heap.size w w'->Rb 13 #[.string t] w' (resG f i u ok)):
 Rb 74 #[.string t] w (resG f i u ok):=by
 have HC:=hide (fun w=>zub h w)
 have HP:=hide hP
 clear hP h
 unfold resG numG at *
 go_enter Tryz.func74,Tryz.ntmps74
 go_wp2_with fail
 refine rs (HC.out _) ?_
 go_wp2_with fail
 refine rb (HP.out _ ((Below.refl _ _).alloc (Nat.le_refl _) _)) fun w1 hb1=>?_
 have hb2:=hb1.alloc hb1.size (.cells #[.bool f,.int .i64 i,.int .u64 u] 26)
 have hsz:w.heap.size+1<=w1.heap.size:=by have:=hb1.size;simp at this;omega
 have hz:w.heap.size≠w1.heap.size:=by omega
 have hz2:¬ (w.heap.size=w1.heap.size):=hz
 have hz3:¬ (w1.heap.size=w.heap.size):=fun h=>hz h.symm
 have HB0:=hide hb2
 obtain ⟨hc2,hf2⟩:=bcell hb2
 clear hb1 hb2
 cases ok
 ·go_wp2
  refine bodyPost_ret (v:=.tuple #[.agg #[.bool f,.int .i64 i,.int .u64 u],.bool false]) ?_ rfl ⟨rfl,?_⟩
  ·simp [results,Tryz.results74,go_sem,hc2]
  refine Below.setCell (Below.setCell (Below.setCell (zab (HB0.out.mono (by simp))) ?_ _) ?_ _) ?_ _
  all_goals simp
 go_wp2
 refine bodyPost_ret (v:=.tuple #[.agg #[.bool f,.int .i64 i,.int .u64 u],.bool true]) ?_ rfl ⟨rfl,?_⟩
 ·simp [results,Tryz.results74,go_sem,hc2]
 refine Below.setCell (Below.setCell (Below.setCell (zab (HB0.out.mono (by simp))) ?_ _) ?_ _) ?_ _
 all_goals simp
theorem ps_no (t:ByteArray) (f:Bool) (i u:Int) (w:World) (h:(bs t).getD 0 0=45)
 (hP:∀ w',Below w.heap.size w w'->Rb 13 #[.string (t.extract 1 t.size)] w' (resG f i u false)):
 Rb 74 #[.string t] w (resG f i u false):=by
 have HC:=hide (fun w=>zhe h w)
 have HP:=hide hP
 clear hP h
 unfold resG numG at *
 generalize t.extract 1 t.size=d at *
 go_enter Tryz.func74,Tryz.ntmps74
 go_wp2_with fail
 refine rs (HC.out _) ?_
 go_wp2_with fail
 refine rb (HP.out _ ((Below.refl _ _).alloc (Nat.le_refl _) _)) fun w1 hb1=>?_
 have hb2:=hb1.alloc hb1.size (.cells #[.bool f,.int .i64 i,.int .u64 u] 26)
 have hsz:w.heap.size+1<=w1.heap.size:=by have:=hb1.size;simp at this;omega
 have hz:w.heap.size≠w1.heap.size:=by omega
 have hz2:¬ (w.heap.size=w1.heap.size):=hz
 have hz3:¬ (w1.heap.size=w.heap.size):=fun h=>hz h.symm
 have HB0:=hide hb2
 obtain ⟨hc2,hf2⟩:=bcell hb2
 clear hb1 hb2
 go_wp2
 refine bodyPost_ret (v:=.tuple #[.agg #[.bool f,.int .i64 i,.int .u64 u],.bool false]) ?_ rfl ⟨rfl,?_⟩
 ·simp [results,Tryz.results74,go_sem,hc2]
 refine Below.setCell (Below.setCell (Below.setCell (zab (HB0.out.mono (by simp))) ?_ _) ?_ _) ?_ _
 all_goals simp
theorem zpZ (t:ByteArray) (f f':Bool) (i u i' u':Int) (w:World) (h:(bs t).getD 0 0=45)
 (hP:∀ w',Below w.heap.size w w'->Rb 13 #[.string (t.extract 1 t.size)] w' (resG f i u true))
 (hd:∀ w,Rs 65 #[.string (t.extract 1 t.size)] w (.bool false))
 (hN:∀ w,Rb 120 #[numG f i u] w (numG f' i' u')):
 Rb 74 #[.string t] w (resG f' i' u' true):=by
 have HD:=hide hd
 have HN:=hide hN
 clear hd hN
 have HC:=hide (fun w=>zhe h w)
 have HP:=hide hP
 clear hP h
 unfold resG numG at *
 generalize t.extract 1 t.size=d at *
 go_enter Tryz.func74,Tryz.ntmps74
 go_wp2_with fail
 refine rs (HC.out _) ?_
 go_wp2_with fail
 refine rb (HP.out _ ((Below.refl _ _).alloc (Nat.le_refl _) _)) fun w1 hb1=>?_
 have hb2:=hb1.alloc hb1.size (.cells #[.bool f,.int .i64 i,.int .u64 u] 26)
 have hsz:w.heap.size+1<=w1.heap.size:=by have:=hb1.size;simp at this;omega
 have hz:w.heap.size≠w1.heap.size:=by omega
 have hz2:¬ (w.heap.size=w1.heap.size):=hz
 have hz3:¬ (w1.heap.size=w.heap.size):=fun h=>hz h.symm
 have HB0:=hide hb2
 obtain ⟨hc2,hf2⟩:=bcell hb2
 clear hb1 hb2
 go_wp2_with fail
 refine rs (HD.out _) ?_
 go_wp2_with fail
 refine rb (HN.out _) fun w3 hb3=>?_
 have hb5:=bt HB0.out hb3
 clear hc2 hf2
 obtain ⟨hc2,hf2⟩:=bcell hb5
 have HB5:=hide hb5
 clear hb5 hb3
 go_wp2
 refine bodyPost_ret (v:=.tuple #[.agg #[.bool f',.int .i64 i',.int .u64 u'],.bool true]) ?_ rfl ⟨rfl,?_⟩
 ·simp [results,Tryz.results74,go_sem,hc2]
 refine Below.setCell (Below.setCell (Below.setCell (zab (HB5.out.mono (by simp))) ?_ _) ?_ _) ?_ _
 all_goals simp
theorem zp0 (t:ByteArray) (f f':Bool) (i u i' u' x:Int) (w:World) (h:(bs t).getD 0 0=45)
 (hP:∀ w',Below w.heap.size w w'->Rb 13 #[.string (t.extract 1 t.size)] w' (resG f i u true))
 (hd:∀ w,Rs 65 #[.string (t.extract 1 t.size)] w (.bool true))
 (hI:∀ w',Below w.heap.size w w'->Calls Tryz.prog 66 #[.string t,.int .i64 10,.int .i64 64] w' fun e w''=>∃ N,e=.returned (.tuple #[.int .i64 x,.iface 150 (.pointer (some ⟨N,0,none⟩))])/\Below w'.heap.size w' w'')
 (hN:∀ w,Rb 120 #[numG f i u] w (numG f' i' u')):
 Rb 74 #[.string t] w (resG f' i' u' true):=by
 have HD:=hide hd
 have HN:=hide hN
 have HI:=hide hI
 clear hd hN hI
 have HC:=hide (fun w=>zhe h w)
 have HP:=hide hP
 clear hP h
 unfold resG numG at *
 generalize t.extract 1 t.size=d at *
 go_enter Tryz.func74,Tryz.ntmps74
 go_wp2_with fail
 refine rs (HC.out _) ?_
 go_wp2_with fail
 refine rb (HP.out _ ((Below.refl _ _).alloc (Nat.le_refl _) _)) fun w1 hb1=>?_
 have hb2:=hb1.alloc hb1.size (.cells #[.bool f,.int .i64 i,.int .u64 u] 26)
 have hsz:w.heap.size+1<=w1.heap.size:=by have:=hb1.size;simp at this;omega
 have hz:w.heap.size≠w1.heap.size:=by omega
 have hz2:¬ (w.heap.size=w1.heap.size):=hz
 have hz3:¬ (w1.heap.size=w.heap.size):=fun h=>hz h.symm
 have HB0:=hide hb2
 obtain ⟨hc2,hf2⟩:=bcell hb2
 clear hb1 hb2
 go_wp2_with fail
 refine rs (HD.out _) ?_
 go_wp2_with fail
 refine (HI.out _ (zab (HB0.out.mono (by simp)))).mono ?_
 rintro e w2 ⟨B,rfl,hb4⟩
 obtain ⟨hc3,hf3⟩:=bcell hb4
 have hb6:=bt HB0.out hb4
 have HB6:=hide hb6
 clear hb6 hb4
 go_wp2_with fail
 refine rb (HN.out _) fun w3 hb3=>?_
 have hb5:=bt HB6.out hb3
 clear hc2 hf2
 obtain ⟨hc2,hf2⟩:=bcell hb5
 have HB5:=hide hb5
 clear hb5 hb3
 go_wp2
 refine bodyPost_ret (v:=.tuple #[.agg #[.bool f',.int .i64 i',.int .u64 u'],.bool true]) ?_ rfl ⟨rfl,?_⟩
 ·simp [results,Tryz.results74,go_sem,hc2]
 refine Below.setCell (Below.setCell (Below.setCell (zab (HB5.out.mono (by simp))) ?_ _) ?_ _) ?_ _
 all_goals simp
theorem zup (t:ByteArray) (f:Bool) (i u x:Int) (w:World) (h:(bs t).getD 0 0=45)
 (hP:∀ w',Below w.heap.size w w'->Rb 13 #[.string (t.extract 1 t.size)] w' (resG f i u true))
 (hd:∀ w,Rs 65 #[.string (t.extract 1 t.size)] w (.bool true))
 (hI:∀ w',Rb 66 #[.string t,.int .i64 10,.int .i64 64] w' (.tuple #[.int .i64 x,.nilIface])) (hx0: -9223372036854775808<=x) (hx1:x<=9223372036854775807):
 Rb 74 #[.string t] w (resG false x 0 true):=by
 have HD:=hide hd
 have HI:=hide hI
 clear hd hI
 have HC:=hide (fun w=>zhe h w)
 have HP:=hide hP
 clear hP h
 unfold resG numG at *
 generalize t.extract 1 t.size=d at *
 go_enter Tryz.func74,Tryz.ntmps74
 go_wp2_with fail
 refine rs (HC.out _) ?_
 go_wp2_with fail
 refine rb (HP.out _ ((Below.refl _ _).alloc (Nat.le_refl _) _)) fun w1 hb1=>?_
 have hb2:=hb1.alloc hb1.size (.cells #[.bool f,.int .i64 i,.int .u64 u] 26)
 have hsz:w.heap.size+1<=w1.heap.size:=by have:=hb1.size;simp at this;omega
 have hz:w.heap.size≠w1.heap.size:=by omega
 have hz2:¬ (w.heap.size=w1.heap.size):=hz
 have hz3:¬ (w1.heap.size=w.heap.size):=fun h=>hz h.symm
 have HB0:=hide hb2
 obtain ⟨hc2,hf2⟩:=bcell hb2
 clear hb1 hb2
 go_wp2_with fail
 refine rs (HD.out _) ?_
 go_wp2_with fail
 refine rb (HI.out _) fun w2 hb4=>?_
 have hb6:=bt HB0.out hb4
 have HB6:=hide hb6
 clear hb6 hb4
 go_wp2_with fail
 refine rb (zcT _ _) fun w3 hb3=>?_
 have hb5:=bt HB6.out hb3
 clear hc2 hf2
 obtain ⟨hc2,hf2⟩:=bcell hb5
 have HB5:=hide hb5
 clear hb5 hb3
 go_wp2
 refine bodyPost_ret (v:=.tuple #[.agg #[.bool false,.int .i64 x,.int .u64 0],.bool true]) ?_ rfl ⟨rfl,?_⟩
 ·simp [results,Tryz.results74,go_sem,hc2]
 refine Below.setCell (Below.setCell (Below.setCell (zab (HB5.out.mono (by simp))) ?_ _) ?_ _) ?_ _
 all_goals simp
theorem PNR.pos {s:ByteArray} {f:Bool} {i u:Int} (h:PNR s (resG f i u true)):0<s.size:=by
 refine Classical.byContradiction fun hn=>?_
 have hb:bs s=[]:=List.length_eq_zero_iff.1 (by rw [zad];omega)
 unfold PNR at h
 rw [if_neg (by omega),hb,if_neg (by decide)] at h
 unfold DecR at h
 rw [if_pos (.inl rfl)] at h
 have:=(zbE (show resG f i u true=resG false 0 0 false from h)).2.2.2
 cases this
theorem zdL {s:ByteArray} {v:Value} (h:¬ (zae (bs s)=true/\dval (bs s)=9223372036854775808)):za8 s v=v:=by unfold za8;rw [if_neg h]
theorem zkS {t:ByteArray} {o:Option Value} (h:OpS t o) (hs:t.size<=1048576):∃ f i u ok,(o=if ok then some (numG f i u) else none)/\
 ∀ w ev1 ev5,Ready w ev1 ev5->Rb 74 #[.string t] w (resG f i u ok):=by
 unfold OpS at h
 by_cases h4:(bs t).getD 0 0=45
 ·rw [if_pos h4] at h
  obtain ⟨f,i,u,ok,hp,rfl⟩:=h
  have hsz:=zfF t
  have hl:=zeD h4
  generalize hde:t.extract 1 t.size=d at *
  have hP:∀ w ev1 ev5,Ready w ev1 ev5->∀ w',Below w.heap.size w w'->Rb 13 #[.string (t.extract 1 t.size)] w' (resG f i u ok):=by
   rw [hde]
   exact fun w ev1 ev5 hR w' hb=>znW hp w' (by omega) (hR.below hb)
  cases ok with
  |false=>exact ⟨f,i,u,false,rfl,fun w ev1 ev5 hR=>ps_no t f i u w h4 (hP w ev1 ev5 hR)⟩
  |true=>
   obtain ⟨hk,h100⟩:=hp.ok
   obtain ⟨f',i',u',hn,hN⟩:=zln hk
   have hA:∀ w,Rs 65 #[.string (t.extract 1 t.size)] w (.bool (zae (bs d))):=by
    rw [hde]
    exact fun w=>zao d w (by omega)
   cases hb:zae (bs d) with
   |false=>
    rw [hb] at hA
    refine ⟨f',i',u',true,?_,fun w ev1 ev5 hR=>zpZ t f f' i u i' u' w h4 (hP w ev1 ev5 hR) hA hN⟩
    rw [zdL (by rw [hb];exact fun hh=>Bool.noConfusion hh.1),hn]
   |true=>
    rw [hb] at hA
    have hdg:=hp.digits hb
    have hpi:=ziR t d hl hp.pos hb
    by_cases hv:dval (bs d)<=9223372036854775808
    ·have hok:=hpi.1 hv
     refine ⟨false,-(dval (bs d):Int),0,true,?_,fun w ev1 ev5 hR=>zup t f i u _ w h4 (hP w ev1 ev5 hR) hA (fun w'=>?_) (by omega) (by omega)⟩
     ·by_cases htop:dval (bs d)=9223372036854775808
      ·have e0:za8 d (negN f i u)=intV (-9223372036854775808):=by unfold za8;rw [if_pos];exact ⟨hb,htop⟩
       rw [e0,htop]
       rfl
      rw [zdL (fun hh=>htop hh.2)]
      rw [if_pos (by omega)] at hdg
      unfold negN
      rw [hdg.1,hdg.2]
      have:wrap64 (-(dval (bs d):Int))= -(dval (bs d):Int):=by unfold wrap64;omega
      rw [this]
      rfl
     refine rb (Tryz.strconv_ParseInt_10_at64_ok t (by omega) _ hok w') fun w2 hw2=>?_
     refine ⟨rfl,?_⟩
     rcases hw2 with rfl|⟨t,rfl⟩
     ·exact Below.refl _ _
     exact zdI _ _
    have hrg:=hpi.2 hv
    refine ⟨f',i',u',true,?_,fun w ev1 ev5 hR=>zp0 t f f' i u i' u' (Lib.intSat 64 t.data.toList) w h4 (hP w ev1 ev5 hR) hA (fun w' hbw=>?_) hN⟩
    ·rw [zdL (fun hh=>hv (Nat.le_of_eq hh.2)),hn]
    obtain ⟨G,o,P,po,C,co,ev,m,hE⟩:=(hR.below hbw).env
    refine (Tryz.strconv_ParseInt_10_at64_range t (by omega) hrg ev w' hE.er hE.er2).mono ?_
    rintro e w2 ⟨B,rfl,_,_,hb2⟩
    exact ⟨B,rfl,hb2⟩
 rw [if_neg h4] at h
 obtain ⟨f,i,u,ok,hp,rfl⟩:=h
 exact ⟨f,i,u,ok,rfl,fun w ev1 ev5 hR=>zpV t f i u ok w h4 (fun w' hb=>znW hp w' (by omega) (hR.below hb))⟩
theorem zj9 (w:World):Rs 72 #[] w (.float .f64 9221120237041090561):=by
 have ht:=zaJ 9221120237041090561
 have e1:((9221120237041090561:Nat):Int)=9221120237041090561:=rfl
 rw [e1] at ht
 go_enter Tryz.func72,Tryz.ntmps72
 go_wp2
 all_goals go_ret
 all_goals exact ⟨rfl,rfl⟩
theorem zpJ (w:World):Rs 73 #[.int .i64 1] w (.float .f64 9218868437227405312):=by
 have ht:=zaJ 9218868437227405312
 have e1:((9218868437227405312:Nat):Int)=9218868437227405312:=rfl
 rw [e1] at ht
 go_enter Tryz.func73,Tryz.ntmps73
 go_wp2
 all_goals go_ret
 all_goals exact ⟨rfl,rfl⟩
theorem zoy (w:World):Rs 73 #[.int .i64 (-1)] w (.float .f64 18442240474082181120):=by
 have ht:=zaJ 18442240474082181120
 have e1:((18442240474082181120:Nat):Int)=18442240474082181120:=rfl
 rw [e1] at ht
 go_enter Tryz.func73,Tryz.ntmps73
 go_wp2
 all_goals go_ret
 all_goals exact ⟨rfl,rfl⟩
def rdV (ev:Value):Option Value->Value
 |some v=>.tuple #[v,.nilIface]
 |none=>.tuple #[numG false 0 0,ev]
theorem zuW (t:ByteArray) (ev:Value) (w:World) (h:(t.toList==[110,97,110])=true):
 Rb 39 #[.string t] w (rdV ev (some (fltV 9221120237041090560))):=by
 have HN:=hide (fun w=>zcc 9221120237041090561 w (by decide+kernel))
 go_enter Tryz.func39,Tryz.ntmps39
 go_wp2_with fail
 refine rs (zj9 _) ?_
 go_wp2_with fail
 refine rb (HN.out _) fun w1 hb1=>?_
 obtain ⟨hc,hf⟩:=bcell hb1
 have HB1:=hide hb1
 clear hb1
 go_wp2
 refine bodyPost_ret (v:=rdV ev (some (fltV 9221120237041090560))) ?_ rfl ⟨rfl,?_⟩
 ·simp [results,Tryz.results39,go_sem,hc,rdV]
 refine Below.setCell (Below.setCell (Below.setCell (zab (HB1.out.mono (by simp))) ?_ _) ?_ _) ?_ _
 all_goals simp
theorem zuo (t:ByteArray) (ev:Value) (w:World) (h0:(t.toList==[110,97,110])=false) (h:(t.toList==[105,110,102])=true):
 Rb 39 #[.string t] w (rdV ev (some (fltV infW))):=by
 have HN:=hide (fun w=>zbt 9218868437227405312 w (by decide+kernel))
 unfold fltV infW
 go_enter Tryz.func39,Tryz.ntmps39
 go_wp2_with fail
 refine rs (zpJ _) ?_
 go_wp2_with fail
 refine rb (HN.out _) fun w1 hb1=>?_
 obtain ⟨hc,hf⟩:=bcell hb1
 have HB1:=hide hb1
 clear hb1
 go_wp2
 refine bodyPost_ret (v:=rdV ev (some (.agg #[.bool true,.int .i64 0,.int .u64 9218868437227405312]))) ?_ rfl ⟨rfl,?_⟩
 ·simp [results,Tryz.results39,go_sem,hc,rdV]
 refine Below.setCell (Below.setCell (Below.setCell (zab (HB1.out.mono (by simp))) ?_ _) ?_ _) ?_ _
 all_goals simp
theorem zsi (t:ByteArray) (ev:Value) (w:World) (h0:(t.toList==[110,97,110])=false) (h1:(t.toList==[105,110,102])=false) (h:(t.toList==[45,105,110,102])=true):
 Rb 39 #[.string t] w (rdV ev (some (fltV (9223372036854775808+infW)))):=by
 have HN:=hide (fun w=>zbt 18442240474082181120 w (by decide+kernel))
 unfold fltV infW
 have e1:((9223372036854775808+9218868437227405312:Nat):Int)=18442240474082181120:=rfl
 rw [e1]
 go_enter Tryz.func39,Tryz.ntmps39
 go_wp2_with fail
 refine rs (zoy _) ?_
 go_wp2_with fail
 refine rb (HN.out _) fun w1 hb1=>?_
 obtain ⟨hc,hf⟩:=bcell hb1
 have HB1:=hide hb1
 clear hb1
 go_wp2
 refine bodyPost_ret (v:=rdV ev (some (.agg #[.bool true,.int .i64 0,.int .u64 18442240474082181120]))) ?_ rfl ⟨rfl,?_⟩
 ·simp [results,Tryz.results39,go_sem,hc,rdV]
 refine Below.setCell (Below.setCell (Below.setCell (zab (HB1.out.mono (by simp))) ?_ _) ?_ _) ?_ _
 all_goals simp
theorem zqM (t:ByteArray) (f:Bool) (i u:Int) (ok:Bool) (ev:Value) (w:World) (h0:(t.toList==[110,97,110])=false) (h1:(t.toList==[105,110,102])=false) (h2:(t.toList==[45,105,110,102])=false)
 (hsz:1<w.heap.size) (hev:w.cell? ⟨1,0,none⟩=some ev)
 (hP:∀ w',Below w.heap.size w w'->Rb 74 #[.string t] w' (resG f i u ok)):
 Rb 39 #[.string t] w (rdV ev (if ok then some (numG f i u) else none)):=by
 have HP:=hide hP
 have Hev:=hide hev
 clear hP hev
 unfold resG numG at *
 go_enter Tryz.func39,Tryz.ntmps39
 go_wp2_with fail
 refine rb (HP.out _ ((Below.refl _ _).alloc (Nat.le_refl _) _)) fun w1 hb1=>?_
 have hb2:=hb1.alloc hb1.size (.cells #[.bool f,.int .i64 i,.int .u64 u] 26)
 have hsz:w.heap.size+1<=w1.heap.size:=by have:=hb1.size;simp at this;omega
 have hz:w.heap.size≠w1.heap.size:=by omega
 have hz2:¬ (w.heap.size=w1.heap.size):=hz
 have hz3:¬ (w1.heap.size=w.heap.size):=fun h=>hz h.symm
 have hb7:Below w.heap.size w (w1.alloc (.cells #[.bool f,.int .i64 i,.int .u64 u] 26)):=zab (hb2.mono (by simp))
 have hg:(w1.alloc (.cells #[.bool f,.int .i64 i,.int .u64 u] 26)).cell? ⟨1,0,none⟩=some ev:=(hb7.cell (p:=⟨1,0,none⟩) (by assumption)).trans Hev.out
 have HB0:=hide hb2
 obtain ⟨hc2,hf2⟩:=bcell hb2
 clear hb1 hb2 hb7
 cases ok
 ·go_wp2
  go_region
  go_wp2
  refine bodyPost_ret (v:=rdV ev none) ?_ rfl ⟨rfl,?_⟩
  ·simp [results,Tryz.results39,go_sem,hc2,rdV]
  refine Below.drew (Below.setCell (Below.setCell (Below.setCell (zab (HB0.out.mono (by simp))) ?_ _) ?_ _) ?_ _)
  all_goals simp
 go_wp2
 refine bodyPost_ret (v:=rdV ev (some (.agg #[.bool f,.int .i64 i,.int .u64 u]))) ?_ rfl ⟨rfl,?_⟩
 ·simp [results,Tryz.results39,go_sem,hc2,rdV]
 refine Below.setCell (Below.setCell (Below.setCell (zab (HB0.out.mono (by simp))) ?_ _) ?_ _) ?_ _
 all_goals simp
theorem OpR.rest {t:ByteArray} {o:Option Value} (h1:t.data.toList≠[110,97,110]) (h2:t.data.toList≠[105,110,102]) (h3:t.data.toList≠[45,105,110,102]) (h:OpR t o):OpS t o:=by
 unfold OpR at h
 rw [if_neg h1,if_neg h2,if_neg h3] at h
 exact h
theorem zoT {t:ByteArray} {o:Option Value} (h:OpR t o) (hs:t.size<=1048576) (w:World) (ev1 ev5:Value) (hR:Ready w ev1 ev5):
 Rb 39 #[.string t] w (rdV ev1 o):=by
 by_cases h1:t.data.toList=[110,97,110]
 ·have:o=some (fltV 9221120237041090560):=by unfold OpR at h;rw [if_pos h1] at h;exact h
  rw [this]
  exact zuW t ev1 w (by rw [zaO,decide_eq_true h1])
 have n1:(t.toList==[110,97,110])=false:=by rw [zaO,decide_eq_false h1]
 by_cases h2:t.data.toList=[105,110,102]
 ·have:o=some (fltV infW):=by unfold OpR at h;rw [if_neg h1,if_pos h2] at h;exact h
  rw [this]
  exact zuo t ev1 w n1 (by rw [zaO,decide_eq_true h2])
 have n2:(t.toList==[105,110,102])=false:=by rw [zaO,decide_eq_false h2]
 by_cases h3:t.data.toList=[45,105,110,102]
 ·have:o=some (fltV (9223372036854775808+infW)):=by unfold OpR at h;rw [if_neg h1,if_neg h2,if_pos h3] at h;exact h
  rw [this]
  exact zsi t ev1 w n1 n2 (by rw [zaO,decide_eq_true h3])
 have n3:(t.toList==[45,105,110,102])=false:=by rw [zaO,decide_eq_false h3]
 obtain ⟨f,i,u,ok,ho,hP⟩:=zkS (h.rest h1 h2 h3) hs
 rw [ho]
 exact zqM t f i u ok ev1 w n1 n2 n3 (by have:=hR.size;omega) hR.e1 (fun w' hb=>hP w' ev1 ev5 (hR.below hb))
theorem zh3 {w:World} {g:Nat} {l:List Int} (h5:∀ j,j<l.length->w.cell? ⟨g,j,none⟩=some (.int .u8 (l.getD j 0))) (o:Obj) (hg:g<w.heap.size):
 ∀ j u,(l.map (Value.int .u8))[j]?=some u->(w.alloc o).cell? ((⟨g,0,none⟩:Addr).add j)=some u:=by
 intro j u hj
 rw [List.getElem?_map] at hj
 cases hx:l[j]? with
 |none=>rw [hx] at hj;simp at hj
 |some x=>
  rw [hx] at hj
  simp at hj
  subst hj
  obtain ⟨hlt,hxx⟩:=List.getElem?_eq_some_iff.1 hx
  have:=h5 j hlt
  rw [zaz hlt,hxx] at this
  rw [<-this]
  have hb:Below w.heap.size w (w.alloc o):=(Below.refl _ _).alloc (Nat.le_refl _) o
  rw [<-hb.cell (p:=⟨g,j,none⟩) hg]
  simp only [Addr.add]
  by_cases e:j=0
  ·subst e;simp
  simp [e]
theorem zfd {wr:World} {ops:Array Oper} {rest:List Oper} {o:Oper} {a:Act} {Q:Exit->Act->World->Prop} (hgd:o.guard=none) (s x:Operand)
 (ho:o.op=.call { callee:=.builtin .append,args:=#[s,x],argTypes:=#[29,29] }) (v:Value) (c:Int) (L:List Int) (hbig:Byt wr v L) (hx:a.eval x=v) (hs:a.eval s=.slice (some ⟨wr.heap.size,0,none⟩) 1 1)
 (hlen:L.length<=10000000000)
 (h:∀ v' w',Byt w' v' (c::L)->Below wr.heap.size wr w'->wpList Tryz.prog ops Q rest (a.put o.dst v') w'):
 wpList Tryz.prog ops Q (o::rest) a (wr.alloc (.cells #[.int .u8 c] 5)):=by
 obtain ⟨i0,hi,hz0,hz1,hz2⟩:=info_parts Tryz.info5
 obtain ⟨g,cap,rfl,h2,h3,h4,h5⟩:=hbig
 have hown:=World.ownsRow_lit (base:=wr.heap.size) (e:=5) (size:=1) wr #[.int .u8 c] 1 (Nat.le_refl _) (by simp [maxLen]) rfl
 refine wpList_append_own _ hgd s x 29 ho wr.heap.size 5 i0 (.int .u8 0) 1 1 Tryz.underlying29 hi hz0 hz1 hz2 rfl (by decide) _ 1 _ hs hown ⟨g,0,none⟩ L.length cap (L.map (Value.int .u8)) hx (by simp) (zh3 h5 _ h4)
  (ints_oneCell _ _) (by unfold maxLen;omega) (by omega) (by simp) ?_
 intro v' w' h1 h2 h3
 refine h v' w' (OwnB.byt (base:=wr.heap.size) (L:=c::L) ⟨?_,(fun hh=>by have:=(h3.1 hh).1;cases this)⟩) (((Below.refl _ _).alloc (Nat.le_refl _) _).grown h2 (by simp) (fun q hq=>by cases hq;exact Nat.le_refl _))
 have e:(c::L).length=1+L.length:=by simp;omega
 rw [e];simpa using h1
def decL (u:Nat):List Int:=(Lib.decDigits u).map fun b=>((b.toNat:Nat):Int)
theorem zgT {k:Nat} (h:k<10):(((UInt8.ofNat (48+k)).toNat:Nat):Int)=48+k:=by
 rw [UInt8.toNat_ofNat']
 omega
theorem zbp {u:Nat} (h:u<10):decL u=[48+((u%10:Nat):Int)]:=by
 unfold decL
 rw [Lib.decDigits,dif_pos h]
 simp only [List.map_cons,List.map_nil]
 rw [zgT h,Nat.mod_eq_of_lt h]
theorem zcz {u:Nat} (h:¬ u<10):decL u=decL (u/10)++[48+((u%10:Nat):Int)]:=by
 unfold decL
 rw [Lib.decDigits,dif_neg h,List.map_append]
 simp only [List.map_cons,List.map_nil]
 rw [zgT (show u%10<10 by omega)]
def zck (u:Nat):List Int:=if u<10 then [] else decL (u/10)
theorem zec (u:Nat):decL u=zck u++[48+((u%10:Nat):Int)]:=by
 unfold zck
 split
 ·rw [zbp (by assumption)];rfl
 rw [zcz (by assumption)]
theorem zhu {u:Nat} {k:Nat} (h:u<10^k) (hk:1<=k):(decL u).length<=k:=by
 induction k generalizing u with
 |zero=>omega
 |succ k ih=>
  by_cases hu:u<10
  ·rw [zbp hu];simp
  by_cases hk0:k=0
  ·subst hk0;simp at h;omega
  rw [zcz hu,List.length_append]
  have:=ih (u:=u/10) (by rw [Nat.pow_succ] at h;omega) (by omega)
  simp
  exact this
theorem zdB {w:World} {v:Value} {l:List UInt8} (h:Byt w v (l.map fun b=>((b.toNat:Nat):Int))):(convert 29 9 v).run Tryz.prog w=.ok (.string ⟨l.toArray⟩) w:=by
 obtain ⟨g,cap,rfl,h2,h3,h4,h5⟩:=h
 rw [List.length_map] at h5 ⊢
 refine run_convert_bytes_back w 29 9 5 ⟨g,0,none⟩ cap l Tryz.underlying29 Tryz.underlying5 Tryz.underlying9 (fun j hj=>?_)
 have e:(⟨g,0,none⟩:Addr).add j=⟨g,j,none⟩:=by
  simp only [Addr.add]
  by_cases e:j=0
  ·subst e;simp
  simp [e]
 rw [e,h5 j hj,zaz (by rw [List.length_map];exact hj)]
 simp
theorem zng (w:World) (c:Int):Byt (w.alloc (.cells #[.int .u8 c] 5)) (.slice (some ⟨w.heap.size,0,none⟩) 1 1) [c]:=by
 refine ⟨w.heap.size,1,rfl,by simp,by simp [maxLen],by simp,fun j hj=>?_⟩
 have:j=0:=by simpa using hj
 subst this
 simp
theorem znO (v:Int) (w:World) (h0: -9223372036854775808<=v) (h1:v<=9223372036854775807):
 Rb 38 #[.int .i64 v] w (.string ⟨(Lib.itoa v).toArray⟩):=by
 by_cases hn:v<0
 ·obtain ⟨U,hU⟩:∃ U:Nat,v= -(U:Int):=⟨v.natAbs,by omega⟩
  subst hU
  have hu1:U<=9223372036854775808:=by omega
  have hu0:0<U:=by omega
  have HL:=hide (zhu (u:=U) (k:=20) (by omega) (by omega))
  have HI:Hid ((Lib.itoa (-(U:Int))).map (fun b=>((b.toNat:Nat):Int))=45::decL U):=hide (by
   unfold Lib.itoa
   rw [if_pos hn]
   have:(-(U:Int)).natAbs=U:=by omega
   rw [this]
   rfl)
  generalize Lib.itoa (-(U:Int))=out at *
  have hw:IntKind.u64.wrap (-IntKind.u64.wrap (-(U:Int)))=U:=by rw [IntKind.wrap_u64,IntKind.wrap_u64];omega
  go_enter Tryz.func38,Tryz.ntmps38
  go_wp2
  go_loopw [3,4] (fun uv ov wr=>∃ (x:Nat) (L:List Int),uv=.int .u64 x/\x<=9223372036854775808/\Byt wr ov L/\Hid (decL U=zck x++L)/\Below w.heap.size w wr) (fun uv _ _=>(intOf uv).toNat)
  case atStart=>
   exact ⟨U,[48+((U%10:Nat):Int)],rfl,hu1,zng w _,hide (zec U),(Below.refl _ _).alloc (Nat.le_refl _) _⟩
  obtain ⟨x,L,rfl,hx,hbyt,He,hb⟩:=hrel
  have hlen:L.length<=20:=by
   have:=HL.out
   rw [He.out,List.length_append] at this
   omega
  by_cases hx10:10<=x
  ·have Hn:Hid (decL U=zck (x/10)++((48+((x/10%10:Nat):Int))::L)):=hide (by
    rw [He.out]
    have:zck x=decL (x/10):=by unfold zck;rw [if_neg (by omega)]
    rw [this,zec,List.append_assoc]
    rfl)
   clear He
   go_wp2_with (first
    |(at_builtin;(refine zfd rfl _ _ rfl _ (48+(x:Int)/10%10) L hbyt rfl rfl (by omega) ?_;intro v' w1 hbyt' hb'))
    |go_in)
   go_wp2
   go_roundw
   case rel=>exact ⟨x/10,(48+((x/10%10:Nat):Int))::L,by go_num,by omega,hbyt',Hn,bt hb hb'⟩
   case measure=>simp [intOf];omega
  have Hn:Hid (decL U=L):=hide (by
   rw [He.out]
   have:zck x=[]:=by unfold zck;rw [if_pos (by omega)]
   rw [this]
   rfl)
  clear He
  go_wp2_with (first
   |(at_builtin;(refine zfd rfl _ _ rfl _ 45 L hbyt rfl rfl (by omega) ?_;intro v' w1 hbyt' hb'))
   |go_in)
  rw [<-Hn.out,<-HI.out] at hbyt'
  have hcv:=zdB hbyt'
  rw [hcv]
  go_wp2
  go_ret
  exact ⟨rfl,bt hb hb'⟩
 obtain ⟨U,hU⟩:∃ U:Nat,v=(U:Int):=⟨v.toNat,by omega⟩
 subst hU
 have hu1:U<=9223372036854775808:=by omega
 have HL:=hide (zhu (u:=U) (k:=20) (by omega) (by omega))
 have HI:Hid ((Lib.itoa (U:Int)).map (fun b=>((b.toNat:Nat):Int))=decL U):=hide (by
  unfold Lib.itoa
  rw [if_neg hn]
  rfl)
 generalize Lib.itoa (U:Int)=out at *
 go_enter Tryz.func38,Tryz.ntmps38
 go_wp2
 go_loopw [3,4] (fun uv ov wr=>∃ (x:Nat) (L:List Int),uv=.int .u64 x/\x<=9223372036854775808/\Byt wr ov L/\Hid (decL U=zck x++L)/\Below w.heap.size w wr) (fun uv _ _=>(intOf uv).toNat)
 case atStart=>
  exact ⟨U,[48+((U%10:Nat):Int)],rfl,hu1,zng w _,hide (zec U),(Below.refl _ _).alloc (Nat.le_refl _) _⟩
 obtain ⟨x,L,rfl,hx,hbyt,He,hb⟩:=hrel
 have hlen:L.length<=20:=by
  have:=HL.out
  rw [He.out,List.length_append] at this
  omega
 by_cases hx10:10<=x
 ·have Hn:Hid (decL U=zck (x/10)++((48+((x/10%10:Nat):Int))::L)):=hide (by
   rw [He.out]
   have:zck x=decL (x/10):=by unfold zck;rw [if_neg (by omega)]
   rw [this,zec,List.append_assoc]
   rfl)
  clear He
  go_wp2_with (first
   |(at_builtin;(refine zfd rfl _ _ rfl _ (48+(x:Int)/10%10) L hbyt rfl rfl (by omega) ?_;intro v' w1 hbyt' hb'))
   |go_in)
  go_wp2
  go_roundw
  case rel=>exact ⟨x/10,(48+((x/10%10:Nat):Int))::L,by go_num,by omega,hbyt',Hn,bt hb hb'⟩
  case measure=>simp [intOf];omega
 have Hn:Hid (decL U=L):=hide (by
  rw [He.out]
  have:zck x=[]:=by unfold zck;rw [if_pos (by omega)]
  rw [this]
  rfl)
 clear He
 have hbyt':=hbyt
 rw [<-Hn.out,<-HI.out] at hbyt'
 have hcv:=zdB hbyt'
 go_wp2
 go_ret
 exact ⟨rfl,hb⟩
end Go.Proofs.YtamdnnkdnhkghaaGreatDoor
namespace Go.Proofs.YtamdnnkdnhkghaaGreatDoor
open Go Go.RowKit Go.Extern.Stop Go.Stop Go.Extern
theorem zhS (v:Value) (w:World):(Go.method 409 171 v "Comparable").run Tryz.prog w=.ok (287,v) w:=by kernel_rfl
theorem is_comp:(Tryz.prog.info? 228).map (·.comparable)=some true:=by kernel_rfl
theorem is_size:(Tryz.prog.info? 230).map (·.size)=some 1:=by kernel_rfl
theorem zqR (w:World):(callFunc 287 #[.agg #[.pointer (some ⟨22,228,none⟩)]]).run Tryz.prog w=.ok (.value (.bool true)) w:=by
 rw [run_callFunc_extern (e:=Extern.ReflectliteType.method fun t=>do Extern.Rtype.noPackHeld "Comparable" t;pure (.bool (<-typeInfo t).comparable)) Tryz.func287 (by kernel_rfl) (by kernel_rfl) (by kernel_rfl) (by kernel_rfl)]
 kernel_rfl
theorem zrh (v:Value) (w:World):(callFunc 121 #[.iface 228 v]).run Tryz.prog w=.ok (.value (.iface 171 (.agg #[.pointer (some ⟨22,228,none⟩)]))) w:=by
 rw [run_callFunc_extern (e:=Extern.ReflectliteType.typeOf) Tryz.func121 (by kernel_rfl) (by kernel_rfl) (by kernel_rfl) (by kernel_rfl)]
 kernel_rfl
theorem no_is (v:Value) (xT:TypeId) (w:World):(Instr.typeAssert (.iface 228 v) xT 173 true).run Tryz.prog w=.ok (.tuple #[.nilIface,.bool false]) w:=run_typeAssert_lacksB Tryz.underlying173 (by kernel_rfl) (by kernel_rfl) v xT w
theorem zmZ (v:Value) (xT:TypeId) (w:World):(Instr.typeAssert (.iface 228 v) xT 176 true).run Tryz.prog w=.ok (.tuple #[.nilIface,.bool false]) w:=run_typeAssert_lacksB Tryz.underlying176 (by kernel_rfl) (by kernel_rfl) v xT w
theorem zly (v:Value) (xT:TypeId) (w:World):(Instr.typeAssert (.iface 228 v) xT 178 true).run Tryz.prog w=.ok (.tuple #[.nilIface,.bool false]) w:=run_typeAssert_lacksB Tryz.underlying178 (by kernel_rfl) (by kernel_rfl) v xT w
theorem zf3 (a:Addr) (w:World):
 Rs 75 #[.iface 228 (.pointer (some a)),.iface 228 (.pointer (some a))] w (.bool true):=by
 obtain ⟨i,hi,hcmp⟩:=Option.map_eq_some_iff.1 is_comp
 obtain ⟨j,hj,hjs⟩:=Option.map_eq_some_iff.1 is_size
 have tT:=zrh
 have cT:=zqR
 have mR:=zhS
 have heq:=run_eql_iface_ptr_same (P:=Tryz.prog) w a Tryz.underlying61 Tryz.underlying228 hi hcmp hj
 go_enter Tryz.func75,Tryz.ntmps75
 go_wp2
 refine wp_loop_rounds 1 ?_
 rw [rounds_succ]
 go_wp2
 go_ret
 exact ⟨rfl,rfl⟩
theorem zpI (a b:Addr) (ca cb:Array Value) (ta tb:TypeId) (w:World) (hne:a≠b) (ha:w.heap[a.block]?=some (.cells ca ta (0,0))) (hb:w.heap[b.block]?=some (.cells cb tb (0,0))):
 Rs 75 #[.iface 228 (.pointer (some a)),.iface 228 (.pointer (some b))] w (.bool false):=by
 obtain ⟨i,hi,hcmp⟩:=Option.map_eq_some_iff.1 is_comp
 obtain ⟨j,hj,hjs⟩:=Option.map_eq_some_iff.1 is_size
 have tT:=zrh
 have cT:=zqR
 have mR:=zhS
 have nE:=no_is
 have uE:=zmZ
 have vE:=zly
 have heq:=run_eql_iface_ptr_other (P:=Tryz.prog) w Tryz.underlying61 Tryz.underlying228 hi hcmp hj (by rw [hjs];decide) hne ha hb
 go_enter Tryz.func75,Tryz.ntmps75
 go_wp2
 refine wp_loop_rounds 1 ?_
 rw [rounds_succ]
 go_wp2
 go_ret
 exact ⟨rfl,rfl⟩
end Go.Proofs.YtamdnnkdnhkghaaGreatDoor
namespace Go.Proofs.YtamdnnkdnhkghaaGreatDoor
open Go Go.RowKit
abbrev senV (a:Addr):Value:=.iface 228 (.pointer (some a))
structure Apart (w:World) (a b:Addr):Prop where
 ne:a≠b
 ha:∃ c t,w.heap[a.block]?=some (.cells c t (0,0))
 hb:∃ c t,w.heap[b.block]?=some (.cells c t (0,0))
theorem znh {w:World} {b:Nat} {o:Obj} (h:w.heap[b]?=some o):b<w.heap.size:=(Array.getElem?_eq_some_iff.1 h).1
theorem Apart.below {w w':World} {a b:Addr} (h:Apart w a b) (hb:Below w.heap.size w w'):Apart w' a b:=by
 obtain ⟨h1,⟨c,t,h2⟩,⟨c',t',h3⟩⟩:=h
 exact ⟨h1,⟨c,t,by rw [hb.block _ (znh h2)];exact h2⟩,⟨c',t',by rw [hb.block _ (znh h3)];exact h3⟩⟩
theorem Apart.is {w:World} {a b:Addr} (h:Apart w a b):Rs 75 #[senV a,senV b] w (.bool false):=by
 obtain ⟨h1,⟨c,t,h2⟩,⟨c',t',h3⟩⟩:=h
 exact zpI a b c c' t t' w h1 h2 h3
structure Sents (w:World) (a1 a2 a3 a4 a5:Addr):Prop where
 g1:w.cell? ⟨1,0,none⟩=some (senV a1)
 g2:w.cell? ⟨2,0,none⟩=some (senV a2)
 g3:w.cell? ⟨3,0,none⟩=some (senV a3)
 g4:w.cell? ⟨4,0,none⟩=some (senV a4)
 g5:w.cell? ⟨5,0,none⟩=some (senV a5)
 d1:Apart w a5 a1
 d2:Apart w a5 a2
 d3:Apart w a5 a3
 d4:Apart w a5 a4
theorem Sents.below {w w':World} {a1 a2 a3 a4 a5:Addr} (h:Sents w a1 a2 a3 a4 a5) (hs:5<w.heap.size) (hb:Below w.heap.size w w'):Sents w' a1 a2 a3 a4 a5:=
 ⟨(hb.cell (p:=⟨1,0,none⟩) (show 1<w.heap.size by omega)).trans h.g1,(hb.cell (p:=⟨2,0,none⟩) (show 2<w.heap.size by omega)).trans h.g2,(hb.cell (p:=⟨3,0,none⟩) (show 3<w.heap.size by omega)).trans h.g3,
  (hb.cell (p:=⟨4,0,none⟩) (show 4<w.heap.size by omega)).trans h.g4,(hb.cell (p:=⟨5,0,none⟩) hs).trans h.g5,h.d1.below hb,h.d2.below hb,h.d3.below hb,h.d4.below hb⟩
theorem zmn (a1:Addr) (w:World) (h:w.cell? ⟨1,0,none⟩=some (senV a1)):
 Rb 40 #[senV a1] w (.int .i64 1):=by
 have HS:=hide (fun w=>zf3 a1 w)
 go_enter Tryz.func40,Tryz.ntmps40
 go_wp2_with fail
 refine rs (HS.out _) ?_
 go_wp2
 all_goals go_ret
 all_goals exact ⟨rfl,Below.refl _ _⟩
theorem zlt (a1 a2 a3 a4 a5:Addr) (w:World) (h:Sents w a1 a2 a3 a4 a5):
 Rb 40 #[senV a5] w (.int .i64 5):=by
 have HS:=hide (zf3 a5 w)
 have H1:=hide h.d1.is
 have H2:=hide h.d2.is
 have H3:=hide h.d3.is
 have H4:=hide h.d4.is
 have g1:=h.g1
 have g2:=h.g2
 have g3:=h.g3
 have g4:=h.g4
 have g5:=h.g5
 clear h
 go_enter Tryz.func40,Tryz.ntmps40
 go_wp2_with fail
 refine rs H1.out ?_
 go_wp2_with fail
 refine rs H2.out ?_
 go_wp2_with fail
 refine rs H3.out ?_
 go_wp2_with fail
 refine rs H4.out ?_
 go_wp2_with fail
 refine rs HS.out ?_
 go_wp2
 all_goals go_ret
 all_goals exact ⟨rfl,Below.refl _ _⟩
structure Full (w:World) (a1 a2 a3 a4 a5:Addr):Prop where
 env:∃ G o P po C co ev m,Env w G o P po C co ev m
 sents:Sents w a1 a2 a3 a4 a5
 tab:Lib.TabIs Tryz.prog w "internal/strconv.uint64pow10" .u64 Lib.pow10Tab
theorem Full.ready {w:World} {a1 a2 a3 a4 a5:Addr} (h:Full w a1 a2 a3 a4 a5):Ready w (senV a1) (senV a5):=⟨h.env,h.sents.g1,h.sents.g5⟩
theorem Full.below {w w':World} {a1 a2 a3 a4 a5:Addr} (h:Full w a1 a2 a3 a4 a5) (hb:Below w.heap.size w w'):Full w' a1 a2 a3 a4 a5:=by
 have hs:=h.ready.size
 exact ⟨(h.ready.below hb).env,h.sents.below (by omega) hb,Lib.tabBelow_of_tabIs h.tab w' hb⟩
theorem zqp (k:Int) (h0: -9223372036854775808<=k) (h1:k<=9223372036854775807) (w:World) (ht:Lib.TabIs Tryz.prog w "internal/strconv.uint64pow10" .u64 Lib.pow10Tab):
 Rb 21 #[.int .i64 k] w (.string ⟨(Lib.itoa k).toArray⟩):=by
 refine (Tryz.strconv_Itoa k h0 h1 w ht).mono ?_
 rintro e w' ⟨rfl,n,os,rfl⟩
 exact ⟨rfl,Lib.below_grow _ _ (Nat.le_refl _) _ _⟩
end Go.Proofs.YtamdnnkdnhkghaaGreatDoor
namespace Go.Proofs.YtamdnnkdnhkghaaGreatDoor
def wV (r:Nat):Nat:=wM r*2^wK r
theorem znD {r q:Nat} (h:r<=q):wK r<=wK q:=by unfold wK;omega
theorem wV_lt {r q:Nat} (h:r<q):wV r<wV q:=by
 unfold wV
 have hk:=znD (Nat.le_of_lt h)
 have p:∀ x:Nat,0<2^x:=fun x=>Nat.pow_pos (by omega)
 rcases Nat.lt_or_ge (wK r) (wK q) with hlt|hge
 ·have h1:=wM_lt r
  have h2:=wM_ge (r:=q) (by omega)
  have h3:wM r*2^wK r<9007199254740992*2^wK r:=Nat.mul_lt_mul_of_pos_right h1 (p _)
  have h4:4503599627370496*2^wK q<=wM q*2^wK q:=Nat.mul_le_mul_right _ h2
  have h5:9007199254740992*2^wK r=4503599627370496*2^(wK r+1):=by rw [Nat.pow_succ];omega
  have h6:2^(wK r+1)<=2^wK q:=Nat.pow_le_pow_right (by omega) hlt
  have h7:=Nat.mul_le_mul_left 4503599627370496 h6
  omega
 have he:wK r=wK q:=Nat.le_antisymm hk hge
 rw [he]
 have h1:=zcX r
 have h2:=zcX q
 rw [he] at h1
 exact Nat.mul_lt_mul_of_pos_right (by omega) (p _)
theorem wV_le {r q:Nat} (h:r<=q):wV r<=wV q:=by
 rcases Nat.lt_or_eq_of_le h with h|h
 ·exact Nat.le_of_lt (wV_lt h)
 rw [h];exact Nat.le_refl _
theorem wV_zero:wV 0=0:=by unfold wV;rw [show wM 0=0 from rfl,Nat.zero_mul]
theorem zeo {r:Nat} (h:r≠0):0<wV r:=by
 have:=wV_lt (r:=0) (q:=r) (by omega)
 rw [wV_zero] at this
 exact this
theorem zey (s:Bool) (a c:Nat):sgZ s (a*c)=sgZ s a*(c:Int):=by
 unfold sgZ
 cases s with
 |false=>simp only [Bool.false_eq_true,if_false];rw [Int.natCast_mul]
 |true=>simp only [if_true];rw [Int.natCast_mul,Int.neg_mul]
theorem zf2 {a b:Int} {c:Nat} (hc:0<c):compare (a*(c:Int)) (b*(c:Int))=compare a b:=by
 have hc':(0:Int)<c:=by omega
 rcases Int.lt_trichotomy a b with h|h|h
 ·rw [zbx h,zbx (Int.mul_lt_mul_of_pos_right h hc')]
 ·rw [h,zcK rfl,zcK rfl]
 rw [zbY h,zbY (Int.mul_lt_mul_of_pos_right h hc')]
theorem zeR {s t:Bool} {r q:Nat} (hr:r<infW) (hq:q<infW):
 Ieee.double.order (wordS s r) (wordS t q)=some (compare (sgZ s (wV r)) (sgZ t (wV q))):=by
 unfold Ieee.Format.order
 rw [zaj hr,zaj hq]
 unfold Ieee.Datum.order
 simp only [zbd]
 obtain ⟨b,hb⟩:∃ b,b=min (wK r) (wK q):=⟨_,rfl⟩
 have e0:min (wE r) (wE q)=(b:Int)-1074:=by unfold wE;omega
 rw [e0]
 have e1:(wE r-((b:Int)-1074)).toNat=wK r-b:=by unfold wE;omega
 have e2:(wE q-((b:Int)-1074)).toNat=wK q-b:=by unfold wE;omega
 rw [e1,e2]
 have v1:wV r=wM r*2^(wK r-b)*2^b:=by
  unfold wV
  rw [Nat.mul_assoc,<-Nat.pow_add]
  congr 2
  omega
 have v2:wV q=wM q*2^(wK q-b)*2^b:=by
  unfold wV
  rw [Nat.mul_assoc,<-Nat.pow_add]
  congr 2
  omega
 rw [v1,v2,zey s (wM r*2^(wK r-b)),zey t (wM q*2^(wK q-b)),zf2 (Nat.pow_pos (by omega))]
theorem zbL {s t:Bool} {r q:Nat} (hr:r<=infW) (hq:q<=infW):
 Ieee.double.order (wordS s r) (wordS t q)=some (compare (sgZ s (wV r)) (sgZ t (wV q))):=by
 rcases Nat.lt_or_eq_of_le hr with hr1|hr1
 ·rcases Nat.lt_or_eq_of_le hq with hq1|hq1
  ·exact zeR hr1 hq1
  subst hq1
  have hlt:=wV_lt hr1
  unfold Ieee.Format.order
  rw [zaj hr1,zaq]
  generalize wV infW=Y at *
  generalize wV r=X at *
  cases t with
  |false=>
   rw [zbx]
   ·rfl
   unfold sgZ;cases s<;>simp<;>omega
  |true=>
   rw [zbY]
   ·rfl
   unfold sgZ;cases s<;>simp<;>omega
 subst hr1
 rcases Nat.lt_or_eq_of_le hq with hq1|hq1
 ·have hlt:=wV_lt hq1
  unfold Ieee.Format.order
  rw [zaj hq1,zaq]
  generalize wV infW=Y at *
  generalize wV q=X at *
  cases s with
  |false=>
   rw [zbY]
   ·rfl
   unfold sgZ;cases t<;>simp<;>omega
  |true=>
   rw [zbx]
   ·rfl
   unfold sgZ;cases t<;>simp<;>omega
 subst hq1
 have hp:=zeo (r:=infW) (by decide)
 unfold Ieee.Format.order
 rw [zaq,zaq]
 generalize wV infW=Y at *
 cases s<;>cases t
 ·rw [zcK rfl];rfl
 ·rw [zbY]
  ·rfl
  unfold sgZ;simp;omega
 ·rw [zbx]
  ·rfl
  unfold sgZ;simp;omega
 rw [zcK rfl];rfl
theorem zro {d c:Nat} (h:d<9007199254740992) (hc:c=1074):wV (Ieee.double.nearest false d 0)=d*2^c/\Ieee.double.nearest false d 0<infW:=by
 by_cases h0:d=0
 ·subst h0
  have e:Ieee.double.nearest false 0 0=0:=by decide+kernel
  rw [e,wV_zero,Nat.zero_mul]
  exact ⟨rfl,by decide⟩
 obtain ⟨q,g,hr,hq,hg⟩:=zhD h0 h
 have hle:=zbr d 0
 have hlt:Ieee.double.nearest false d 0<infW:=by
  rcases Nat.lt_or_eq_of_le hle with h1|h1
  ·exact h1
  rw [h1] at hr
  have:=zaq false
  have e:wordS false infW=infW:=rfl
  rw [e,hr] at this
  cases this
 refine ⟨?_,hlt⟩
 rw [zhj hlt] at hr
 generalize Ieee.double.nearest false d 0=x at *
 injection hr with _ h1 h2
 unfold wV
 have hk:wK x=c-g:=by unfold wE at h2;omega
 rw [h1,hk,hq,Nat.mul_assoc,<-Nat.pow_add]
 congr 2
 omega
end Go.Proofs.YtamdnnkdnhkghaaGreatDoor
namespace Go.Proofs.YtamdnnkdnhkghaaGreatDoor
open Go Go.RowKit
theorem zgN (x:Int) (w:World) (h0:0<=x):Rs 108 #[.int .u64 x] w (.bool (x%9223372036854775808==0)):=by
 go_enter Tryz.func108,Tryz.ntmps108
 go_wp2
 all_goals go_ret
 all_goals exact ⟨rfl,rfl⟩
end Go.Proofs.YtamdnnkdnhkghaaGreatDoor
namespace Go.Proofs.YtamdnnkdnhkghaaGreatDoor
theorem zoU (neg:Bool) (n drop:Nat):Ieee.Toward.down.cut neg n drop=n/2^drop+(neg&&n%2^drop !=0).toNat:=by
 unfold Ieee.Toward.cut
 simp only [Nat.one_shiftLeft]
 by_cases h:drop<=n.log2+2
 ·rw [Nat.min_eq_left h]
 rw [Nat.min_eq_right (by omega)]
 have h1:n<2^(n.log2+1):=Nat.lt_log2_self
 have h2:2^(n.log2+1)<=2^(n.log2+2):=Nat.pow_le_pow_right (by omega) (by omega)
 have h3:2^(n.log2+2)<=2^drop:=Nat.pow_le_pow_right (by omega) (by omega)
 rw [Nat.div_eq_of_lt (show n<2^(n.log2+2) by omega),Nat.div_eq_of_lt (show n<2^drop by omega),Nat.mod_eq_of_lt (show n<2^(n.log2+2) by omega),Nat.mod_eq_of_lt (show n<2^drop by omega)]
def zbg (s:Bool) (r:Nat):Nat:=wT (wM r) (wE r)+(s&&wM r*2^(wE r).toNat%2^(-(wE r)).toNat !=0).toNat
theorem zgV (s:Bool) (r:Nat):Ieee.Datum.integral .down (.number s (wM r) (wE r))=.number s (zbg s r) 0:=by
 unfold Ieee.Datum.integral
 simp only [zoU,Nat.shiftLeft_eq,zbg,wT]
theorem zdN {s:Bool} {r:Nat} (h:0<=wE r):zbg s r=wT (wM r) (wE r):=by
 unfold zbg
 have e0:(-(wE r)).toNat=0:=by omega
 rw [e0,Nat.pow_zero,Nat.mod_one]
 simp
theorem zhG {r c:Nat} (hc:c=1074) (h:0<=wE r):wT (wM r) (wE r)*2^c=wV r:=by
 have e0:(-(wE r)).toNat=0:=by omega
 unfold wT wV
 rw [e0,Nat.pow_zero,Nat.div_one,Nat.mul_assoc,<-Nat.pow_add]
 congr 2
 unfold wE at *
 omega
theorem zd6 {r c:Nat} (hc:c=1074) (h:wE r<0):∃ d,d=(-(wE r)).toNat/\1<=d/\d<=c/\wV r=wM r*2^(c-d)/\wT (wM r) (wE r)=wM r/2^d/\∀ s,zbg s r=wM r/2^d+(s&&wM r%2^d !=0).toNat:=by
 have e0:(wE r).toNat=0:=by omega
 refine ⟨(-(wE r)).toNat,rfl,by omega,by unfold wE at *;omega,?_,?_,fun s=>?_⟩
 ·unfold wV
  congr 2
  unfold wE at *
  omega
 ·unfold wT;rw [e0,Nat.pow_zero,Nat.mul_one]
 unfold zbg wT;rw [e0,Nat.pow_zero,Nat.mul_one]
theorem zdP {s:Bool} {r:Nat} (h:wE r<0):zbg s r<=4503599627370496:=by
 obtain ⟨d,_,h1,_,_,_,hf⟩:=zd6 (c:=1074) rfl h
 rw [hf]
 have hm:=wM_lt r
 have h2:2^1<=2^d:=Nat.pow_le_pow_right (by omega) h1
 have h3:wM r/2^d<=wM r/2^1:=Nat.div_le_div_left h2 (by omega)
 have h4:(s&&wM r%2^d !=0).toNat<=1:=Bool.toNat_le _
 omega
theorem zjr {x n c:Nat} (hc:c=1074) (h:wV x=n*2^c):wT (wM x) (wE x)=n/\wM x%2^(-(wE x)).toNat=0:=by
 have p:∀ x:Nat,0<2^x:=fun x=>Nat.pow_pos (by omega)
 by_cases hE:0<=wE x
 ·have h1:=zhG hc hE
  rw [h] at h1
  have e0:(-(wE x)).toNat=0:=by omega
  exact ⟨Nat.eq_of_mul_eq_mul_right (p c) h1,by rw [e0,Nat.pow_zero,Nat.mod_one]⟩
 obtain ⟨d,hd,h1,h2,hv,ht,hf⟩:=zd6 hc (show wE x<0 by omega)
 rw [<-hd,ht]
 have e:2^c=2^d*2^(c-d):=by rw [<-Nat.pow_add];congr 1;omega
 rw [hv,e,<-Nat.mul_assoc] at h
 have h3:=Nat.eq_of_mul_eq_mul_right (p (c-d)) h
 rw [h3]
 exact ⟨Nat.mul_div_cancel _ (p d),Nat.mul_mod_left _ _⟩
theorem zrS {x n c:Nat} (hc:c=1074) (h:wV x=n*2^c) (hn:n<9007199254740992):wE x<=10:=by
 refine Classical.byContradiction fun hE=>?_
 have h1:=zhG hc (show 0<=wE x by omega)
 have p:∀ x:Nat,0<2^x:=fun x=>Nat.pow_pos (by omega)
 rw [h] at h1
 have h2:=Nat.eq_of_mul_eq_mul_right (p c) h1
 have e0:(-(wE x)).toNat=0:=by omega
 unfold wT at h2
 rw [e0,Nat.pow_zero,Nat.div_one] at h2
 have hm:=wM_ge (r:=x) (by unfold wE at hE;omega)
 have h3:2^11<=2^(wE x).toNat:=Nat.pow_le_pow_right (by omega) (by omega)
 have h4:=Nat.mul_le_mul hm h3
 omega
theorem zeO {s:Bool} {x n c:Nat} (hx:x<infW) (hc:c=1074) (h:wV x=n*2^c) (hn:n<9007199254740992):zaL s x=some (sgZ s n)/\fitsB s x=true:=by
 obtain ⟨h1,h2⟩:=zjr hc h
 have hf:fitsB s x=true:=decide_eq_true ⟨hx,.inl (zrS hc h hn)⟩
 refine ⟨?_,hf⟩
 unfold zaL
 rw [if_pos ⟨hf,h2⟩,h1]
def zcB (s:Bool) (r:Nat):Nat:=Ieee.double.nearest false (zbg s r) 0
theorem zdg {s:Bool} {r c:Nat} (hr:r<infW) (hc:c=1074):zcB s r<infW/\wV (zcB s r)=zbg s r*2^c:=by
 unfold zcB
 by_cases h:0<=wE r
 ·rw [zdN h,zez hr h,zhG hc h]
  exact ⟨hr,rfl⟩
 have hs:=zdP (s:=s) (r:=r) (by omega)
 obtain ⟨h1,h2⟩:=zro (d:=zbg s r) (by omega) hc
 exact ⟨h2,h1⟩
theorem zfO {s:Bool} {r:Nat} (h:fitsB s r=true):fitsB s (zcB s r)=true:=by
 have hr:=(of_decide_eq_true h).1
 obtain ⟨c,hc⟩:∃ c:Nat,c=1074:=⟨_,rfl⟩
 obtain ⟨h1,h2⟩:=zdg (s:=s) hr hc
 by_cases hE:0<=wE r
 ·have:zcB s r=r:=by unfold zcB;rw [zdN hE,zez hr hE]
  rw [this]
  exact h
 have hs:=zdP (s:=s) (r:=r) (by omega)
 exact (zeO h1 hc h2 (by omega)).2
theorem zlh {s:Bool} {r:Nat} (h:fitsB s r=true):floatToIntVal .f64 (wordS s (zcB s r)) .i64=some (sgZ s (zbg s r)):=by
 have hr:=(of_decide_eq_true h).1
 obtain ⟨c,hc⟩:∃ c:Nat,c=1074:=⟨_,rfl⟩
 obtain ⟨h1,h2⟩:=zdg (s:=s) hr hc
 rw [zfY (zfO h),(zjr hc h2).1]
theorem zia {s:Bool} {r:Nat} (h:fitsB s r=true): -9223372036854775808<=sgZ s (zbg s r)/\sgZ s (zbg s r)<=9223372036854775807:=by
 have hr:=(of_decide_eq_true h).1
 obtain ⟨c,hc⟩:∃ c:Nat,c=1074:=⟨_,rfl⟩
 obtain ⟨h1,h2⟩:=zdg (s:=s) hr hc
 have:=zfx (zfO h)
 rw [(zjr hc h2).1] at this
 exact this
def l10 (x:Int):Int:=x*78913/262144
def logOk (x:Int):Bool:=
 decide (10^(l10 x).toNat*2^(-x).toNat<=2^x.toNat*10^(-(l10 x)).toNat/\2^x.toNat*10^(-(l10 x+1)).toNat<10^(l10 x+1).toNat*2^(-x).toNat)
def logRows:Bool:=(List.range 2098).all fun i=>logOk ((i:Int)-1074)
theorem logRows_ok:logRows=true:=by decide+kernel
theorem zq4 {x:Int} (h1: -1074<=x) (h2:x<=1023):logOk x=true:=by
 have:=za2 logRows_ok (i:=(x+1074).toNat) (by omega)
 have e:(((x+1074).toNat:Nat):Int)-1074=x:=by omega
 rw [e] at this
 exact this
def fpP (n:Nat) (x:Int):Int:=(n:Int)-1-l10 x
def fpS (n:Nat) (x:Int):Int:= -(x-63+lp10 (fpP n x)+3)
def shiftRows:Bool:=(List.range 17).all fun n=>(List.range 2098).all fun i=>decide (4<=fpS (n+1) ((i:Int)-1074)/\fpS (n+1) ((i:Int)-1074)<64)
theorem shiftRows_ok:shiftRows=true:=by decide+kernel
theorem zqy {n:Nat} {x:Int} (hn1:1<=n) (hn2:n<=17) (h1: -1074<=x) (h2:x<=1023):4<=fpS n x/\fpS n x<64:=by
 have h:=za2 (za2 shiftRows_ok (i:=n-1) (by omega)) (i:=(x+1074).toNat) (by omega)
 have e:(((x+1074).toNat:Nat):Int)-1074=x:=by omega
 have e2:n-1+1=n:=by omega
 rw [e,e2] at h
 exact of_decide_eq_true h
theorem zmm {n:Nat} {x:Int} (hn1:1<=n) (hn2:n<=17) (h1: -1074<=x) (h2:x<=1023): -348<=fpP n x/\fpP n x<=347:=by
 unfold fpP l10
 omega
def fA (x:Nat) (E p:Int):Nat:=x*10^p.toNat*2^E.toNat
def fB (E p:Int):Nat:=10^(-p).toNat*2^(-E).toNat
theorem zj5 (E p:Int):0<fB E p:=Nat.mul_pos (Nat.pow_pos (by omega)) (Nat.pow_pos (by omega))
theorem zr1 {x y s:Nat} {E p:Int} (hxy:x=2048*y) (hx1:9223372036854775808<=x) (hx2:x<T64) (hp1: -348<=p) (hp2:p<=347) (hs:(s:Int)= -(E+lp10 p+3)) (hs4:4<=s):
 usc x (rowAt p).1 (rowAt p).2 s=unr (4*fA x E p) (fB E p):=by
 rw [ztb hp1 hp2 hxy hx1 hx2 hs4]
 have q:∀ z:Nat,0<2^z:=fun z=>Nat.pow_pos (by omega)
 have hden:0<denT p:=Nat.mul_pos (Nat.pow_pos (by omega)) (q _)
 refine zhV (Nat.mul_pos hden (Nat.mul_pos (q s) (by decide))) (zj5 E p) ?_
 unfold fA fB numT denT
 rw [t128_pow]
 have e:(127-lp10 p).toNat+(-E).toNat=2+E.toNat+(lp10 p-127).toNat+s+128:=by omega
 have h4:(4:Nat)=2^2:=rfl
 have e2:2^(127-lp10 p).toNat*2^(-E).toNat=2^2*2^E.toNat*2^(lp10 p-127).toNat*2^s*2^128:=by
  rw [<-Nat.pow_add,e,Nat.pow_add,Nat.pow_add,Nat.pow_add,Nat.pow_add]
 rw [h4]
 clear hs hs4 e h4 hden
 generalize 10^p.toNat=a
 generalize 10^(-p).toNat=b
 generalize (2:Nat)^(127-lp10 p).toNat=c1 at *
 generalize (2:Nat)^(-E).toNat=c2 at *
 generalize (2:Nat)^E.toNat=c3 at *
 generalize (2:Nat)^(lp10 p-127).toNat=c4 at *
 generalize (2:Nat)^s=c5 at *
 generalize (2:Nat)^128=c6 at *
 generalize (2:Nat)^2=c7 at *
 calc x*(a*c1)*(b*c2)=x*a*b*(c1*c2):=by grind
  _=x*a*b*(c7*c3*c4*c5*c6):=by rw [e2]
  _=_:=by grind
theorem zhT {x n:Nat} {E:Int} (hn1:1<=n) (h1: -1074<=E+63) (h2:E+63<=1023) (hx1:9223372036854775808<=x):
 10^(n-1)*fB E (fpP n (E+63))<=fA x E (fpP n (E+63)):=by
 have hlog:=(of_decide_eq_true (zq4 h1 h2)).1
 obtain ⟨k,hk⟩:∃ k,k=l10 (E+63):=⟨_,rfl⟩
 obtain ⟨p,hp⟩:∃ p,p=fpP n (E+63):=⟨_,rfl⟩
 have hpk:p=(n:Int)-1-k:=by rw [hp,hk];rfl
 rw [<-hk] at hlog
 rw [<-hp]
 unfold fA fB
 have q:∀ z:Nat,0<2^z:=fun z=>Nat.pow_pos (by omega)
 have t:∀ z:Nat,0<10^z:=fun z=>Nat.pow_pos (by omega)
 have e1:10^(n-1)*10^(-p).toNat*10^(-k).toNat=10^p.toNat*10^k.toNat:=by
  rw [<-Nat.pow_add,<-Nat.pow_add,<-Nat.pow_add];congr 1;omega
 have e2:9223372036854775808*2^E.toNat*2^(-(E+63)).toNat=2^(-E).toNat*2^(E+63).toNat:=by
  have:(9223372036854775808:Nat)=2^63:=rfl
  rw [this,<-Nat.pow_add,<-Nat.pow_add,<-Nat.pow_add];congr 1;omega
 refine Nat.le_of_mul_le_mul_right (c:=10^(-k).toNat*2^(-(E+63)).toNat) ?_ (Nat.mul_pos (t _) (q _))
 clear hk hp hpk
 generalize (10:Nat)^(n-1)=a0 at *
 generalize (10:Nat)^(-p).toNat=a1 at *
 generalize (10:Nat)^p.toNat=a2 at *
 generalize (10:Nat)^(-k).toNat=a3 at *
 generalize (10:Nat)^k.toNat=a4 at *
 generalize (2:Nat)^(-E).toNat=b1 at *
 generalize (2:Nat)^E.toNat=b2 at *
 generalize (2:Nat)^(-(E+63)).toNat=b3 at *
 generalize (2:Nat)^(E+63).toNat=b4 at *
 clear h1 h2
 calc a0*(a1*b1)*(a3*b3)=(a0*a1*a3)*b1*b3:=by grind
  _=a2*b1*(a4*b3):=by rw [e1];grind
  _<=a2*b1*(b4*a3):=Nat.mul_le_mul_left _ hlog
  _=a2*a3*(b1*b4):=by grind
  _=a2*a3*(9223372036854775808*b2*b3):=by rw [e2]
  _=9223372036854775808*(a2*a3*b2*b3):=by grind
  _<=x*(a2*a3*b2*b3):=Nat.mul_le_mul_right _ hx1
  _=x*a2*b2*(a3*b3):=by grind
theorem ziO {x n:Nat} {E:Int} (hn1:1<=n) (h1: -1074<=E+63) (h2:E+63<=1023) (hx2:x<T64):
 fA x E (fpP n (E+63))<2*10^n*fB E (fpP n (E+63)):=by
 have hlog:=(of_decide_eq_true (zq4 h1 h2)).2
 obtain ⟨k,hk⟩:∃ k,k=l10 (E+63):=⟨_,rfl⟩
 obtain ⟨p,hp⟩:∃ p,p=fpP n (E+63):=⟨_,rfl⟩
 have hpk:p=(n:Int)-1-k:=by rw [hp,hk];rfl
 rw [<-hk] at hlog
 rw [<-hp]
 unfold fA fB
 have q:∀ z:Nat,0<2^z:=fun z=>Nat.pow_pos (by omega)
 have t:∀ z:Nat,0<10^z:=fun z=>Nat.pow_pos (by omega)
 have e1:10^n*10^(-p).toNat*10^(-(k+1)).toNat=10^p.toNat*10^(k+1).toNat:=by
  rw [<-Nat.pow_add,<-Nat.pow_add,<-Nat.pow_add];congr 1;omega
 have e2:9223372036854775808*2^E.toNat*2^(-(E+63)).toNat=2^(-E).toNat*2^(E+63).toNat:=by
  have:(9223372036854775808:Nat)=2^63:=rfl
  rw [this,<-Nat.pow_add,<-Nat.pow_add,<-Nat.pow_add];congr 1;omega
 have c1:=t p.toNat
 have c2:=q (-E).toNat
 have c3:=t (-(k+1)).toNat
 have c4:=q (-(E+63)).toNat
 have c5:=q E.toNat
 refine Nat.lt_of_mul_lt_mul_right (a:=10^(-(k+1)).toNat*2^(-(E+63)).toNat) ?_
 clear hk hp hpk
 generalize (10:Nat)^n=a0 at *
 generalize (10:Nat)^(-p).toNat=a1 at *
 generalize (10:Nat)^p.toNat=a2 at *
 generalize (10:Nat)^(-(k+1)).toNat=a3 at *
 generalize (10:Nat)^(k+1).toNat=a4 at *
 generalize (2:Nat)^(-E).toNat=b1 at *
 generalize (2:Nat)^E.toNat=b2 at *
 generalize (2:Nat)^(-(E+63)).toNat=b3 at *
 generalize (2:Nat)^(E+63).toNat=b4 at *
 clear h1 h2
 calc x*a2*b2*(a3*b3)=x*(a2*a3*b2*b3):=by grind
  _<T64*(a2*a3*b2*b3):=Nat.mul_lt_mul_of_pos_right hx2 (Nat.mul_pos (Nat.mul_pos (Nat.mul_pos c1 c3) c5) c4)
  _=2*(a2*a3*(9223372036854775808*b2*b3)):=by rw [show T64=2*9223372036854775808 from rfl];grind
  _=2*(a2*b1*(b4*a3)):=by rw [e2];grind
  _<=2*(a2*b1*(a4*b3)):=Nat.mul_le_mul_left _ (Nat.mul_le_mul_left _ (Nat.le_of_lt hlog))
  _=2*b1*b3*(a2*a4):=by grind
  _=2*b1*b3*(a0*a1*a3):=by rw [e1]
  _=2*a0*(a1*b1)*(a3*b3):=by grind
theorem zlO {X B:Nat} (hB:0<B):(unr X B/10|||unr X B%2)|||(if unr X B%10≠0 then 1 else 0)=unr X (10*B):=by
 have hq:X/(10*B)=X/B/10:=by rw [Nat.mul_comm,Nat.div_div_eq_div_mul]
 have hm:X%(10*B)=0↔(X/B%10=0/\X%B=0):=by
  have d1:=Nat.div_add_mod X B
  have d2:=Nat.div_add_mod (X/B) 10
  have m1:=Nat.mod_lt X hB
  constructor
  ·intro h
   obtain ⟨z,hz⟩:=Nat.dvd_of_mod_eq_zero h
   have:X=B*(10*z):=by rw [hz];grind
   rw [this,Nat.mul_div_cancel_left _ hB]
   exact ⟨Nat.mul_mod_right _ _,Nat.mul_mod_right _ _⟩
  rintro ⟨h1,h2⟩
  rw [h1,Nat.add_zero] at d2
  rw [h2,Nat.add_zero] at d1
  rw [<-d1,<-d2]
  have:B*(10*(X/B/10))=10*B*(X/B/10):=by grind
  rw [this]
  exact Nat.mul_mod_right _ _
 rw [zcu X (10*B),hq]
 rw [zcu X B]
 generalize X/B=z at *
 have or1:∀ n:Nat,n|||1=n/2*2+1:=znz
 by_cases hx:X%B=0
 ·rw [if_pos hx]
  by_cases hz:z%10=0
  ·rw [if_pos (hm.2 ⟨hz,hx⟩),if_neg (by omega)]
   have:z%2=0:=by omega
   rw [this,Nat.or_zero,Nat.or_zero]
  rw [if_neg (fun h=>hz (hm.1 h).1),if_pos hz]
  rcases Nat.mod_two_eq_zero_or_one z with h2|h2
  ·rw [h2,Nat.or_zero,or1]
  rw [h2,or1,or1]
  omega
 rw [if_neg hx,if_neg (fun h=>hx (hm.1 h).2)]
 have h2:(z/2*2+1)%2=1:=by omega
 have h10:(z/2*2+1)%10≠0:=by omega
 have hd:(z/2*2+1)/10=z/10:=by omega
 rw [h2,if_pos h10,hd,or1,or1]
 omega
end Go.Proofs.YtamdnnkdnhkghaaGreatDoor
namespace Go.Proofs.YtamdnnkdnhkghaaGreatDoor
open Go Go.RowKit
theorem zei (x:Int) (w:World) (h1: -2000<=x) (h2:x<=2000):
 Rs 176 #[.int .i64 x] w (.int .i64 (l10 x)):=by
 go_enter Tryz.func176,Tryz.ntmps176
 go_wp2
 go_ret
 exact ⟨rfl,rfl⟩
theorem zhP (x:Nat) (w:World) (h1:1<=x) (h2:x<=1000000000000000000):
 Rs 242 #[.int .u64 x] w (.int .u64 ((4*x-2:Nat):Int)):=by
 have e:((4*x-2:Nat):Int)=(x:Int)*4-2:=by omega
 rw [e]
 go_enter Tryz.func242,Tryz.ntmps242
 go_wp2
 go_ret
 exact ⟨rfl,rfl⟩
def tenth (u:Nat):Nat:=(u/10|||u%2)|||(if u%10≠0 then 1 else 0)
theorem zgL (b:Bool) (w:World):
 Rs 258 #[.bool b] w (.int .u64 (if b=true then 1 else 0)):=by
 cases b
 all_goals go_enter Tryz.func258,Tryz.ntmps258
 all_goals go_wp2
 all_goals go_ret
 all_goals exact ⟨rfl,rfl⟩
theorem zim {u b:Nat} (h:u<9223372036854775808) (hb:b<=1):bits .or .u64 (bits .or .u64 ((u:Int)/10) (bits .and .u64 (u:Int) 1)) (b:Int)=(((u/10|||u%2)|||b:Nat):Int):=by
 have e1:bits .and .u64 (u:Int) 1=((u%2:Nat):Int):=by
  have:=u64_and_nat u 1 (by omega) (by omega)
  rw [Nat.and_one_is_mod] at this
  exact this
 have e2:(u:Int)/10=((u/10:Nat):Int):=by omega
 have h3:(u/10|||u%2)<2^63:=Nat.or_lt_two_pow (by omega) (by omega)
 rw [e1,e2,zf0 (by omega) (by omega),zf0 (by omega) (by omega)]
theorem zrX (u:Nat) (w:World) (h:u<9223372036854775808):
 Calls Tryz.prog 243 #[.int .u64 u,.int .u64 10] w fun e w'=>e=.returned (.int .u64 (tenth u))/\∃ n,w'=w.drewN n:=by
 by_cases h10:(u:Int)%10=0
 ·have HV:Hid (bits .or .u64 (bits .or .u64 ((u:Int)/10) (bits .and .u64 (u:Int) 1)) 0=(tenth u:Int)):=hide (by
   have:=zim (b:=0) h (by omega)
   unfold tenth
   rw [if_neg (by omega)]
   exact this)
  go_enter Tryz.func243,Tryz.ntmps243
  go_wp2_with fail
  go_quiet ((go_at_call 258;exact Calls.quiet_of_same (zgL _ _)))
  go_wp2
  all_goals go_ret
  all_goals exact ⟨zba HV.out,_,rfl⟩
 have HV:Hid (bits .or .u64 (bits .or .u64 ((u:Int)/10) (bits .and .u64 (u:Int) 1)) 1=(tenth u:Int)):=hide (by
  have:=zim (b:=1) h (by omega)
  unfold tenth
  rw [if_pos (by omega)]
  exact this)
 go_enter Tryz.func243,Tryz.ntmps243
 go_wp2_with fail
 go_quiet ((go_at_call 258;exact Calls.quiet_of_same (zgL _ _)))
 go_wp2
 all_goals go_ret
 all_goals exact ⟨zba HV.out,_,rfl⟩
theorem fw_hi (x n i hi lo s u Z:Nat) (E prec p lp:Int) (w:World) (hE1: -1200<=E) (hE2:E<=1000) (hn1:1<=n) (hn2:n<=17) (hp:Hid (p=(n:Int)-1-l10 (E+63))) (hp1: -348<=p) (hp2:p<=347) (hlp:Hid (lp=lp10 p)) (hl1: -1200<=lp) (hl2:lp<=1200)
 (hpi:Hid (p+348=(i:Int))) (hi696:i<696) (hg:20<w.heap.size) (t0:w.cell? ⟨20,i*2,none⟩=some (.int .u64 hi)) (t1:w.cell? ⟨20,i*2+1,none⟩=some (.int .u64 lo)) (t2:w.cell? ⟨6,n,none⟩=some (.int .u64 Z)) (hZ1:1<=Z) (hZ2:Z<=1000000000000000000)
 (hs:Hid ((s:Int)= -(E+lp+3))) (hs64:s<64) (hx2:x<18446744073709551616) (hhi:hi<18446744073709551616) (hlo:lo<18446744073709551616) (hpos:Hid (0<x*hi/T64)) (hu:Hid (u=usc x hi lo s)) (hu63:u<9223372036854775808)
 (hge:4*Z-2<=u):
 Calls Tryz.prog 210 #[.int .u64 x,.int .i64 E,.int .i64 n,.int .i64 prec,.int .u8 101] w fun r w'=>
  r=.returned (.tuple #[.int .u64 (rnd2 (tenth u):Nat),.int .i64 (-(p-1))])/\Below w.heap.size w w':=by
 have hl: -400<=l10 (E+63)/\l10 (E+63)<=400:=by unfold l10;omega
 obtain ⟨hl3,hl4⟩:=hl
 have hpk:(n:Int)-1-l10 (E+63)=p:=hp.out.symm
 clear hp
 have HL:=hide (fun w=>zei (E+63) w (by omega) (by omega))
 generalize l10 (E+63)=k at *
 have HLP:=hide (fun w=>zb1 p w (by omega) (by omega))
 rw [<-hlp.out] at HLP
 have HU:=hide (fun w=>zhP Z w hZ1 hZ2)
 go_enter Tryz.func210,Tryz.ntmps210
 go_wp2_with fail
 refine (HL.out _).mono ?_
 rintro r w1 ⟨rfl,rfl⟩
 go_wp2_with fail
 refine (HLP.out _).mono ?_
 rintro r w1 ⟨rfl,rfl⟩
 go_wp2_with fail
 refine (zcn i hi lo _ E lp p _ hpi.out hi696 (by omega) (by omega) (by omega) (by omega) hg (by simp) (by simp) (by simp) (zbn (by omega) t0) (zbn (by omega) t1) (by simp) (by simp) (by simp)).mono ?_
 rintro r w2 ⟨rfl,rfl⟩
 have hss: -(E+lp+3)=(s:Int):=by have:=hs.out;omega
 rw [hss]
 clear hss
 go_wp2_with fail
 refine (zeV x hi lo s _ _ hx2 hhi hlo hs64 hpos.out (by simp) (by simp) (by simp)).mono ?_
 rintro r w2 ⟨rfl,m,hw2⟩
 have hb:Below w1.heap.size w1 w2:=by
  rw [hw2]
  exact zag ((Below.refl _ _).alloc (Nat.le_refl _) _) _
 have hc:w2.cell? ⟨6,n,none⟩=some (.int .u64 Z):=(hb.cell (p:=⟨6,n,none⟩) (show 6<w1.heap.size by omega)).trans t2
 have HB:=hide hb
 clear hw2 hb
 rw [<-hu.out]
 have hge2:((4*Z-2:Nat):Int)<=(u:Int):=by omega
 have HD:=hide (fun w=>zrX u w hu63)
 have ht63:tenth u<9223372036854775808:=by
  have e:tenth u<2^63:=by
   unfold tenth
   refine Nat.or_lt_two_pow (Nat.or_lt_two_pow (by omega) (by omega)) ?_
   split<;>omega
  exact e
 have HRd:=hide (fun w=>zea (tenth u) w ht63)
 go_wp2_with fail
 refine rs (HU.out _) ?_
 go_wp2_with fail
 refine (HD.out _).mono ?_
 rintro r w3 ⟨rfl,m2,rfl⟩
 go_wp2_with fail
 refine rs (HRd.out _) ?_
 go_wp2
 all_goals go_ret2
 all_goals exact ⟨rfl,zag HB.out _⟩
theorem fw_lo (x n i hi lo s u Z:Nat) (E prec p lp:Int) (w:World) (hE1: -1200<=E) (hE2:E<=1000) (hn1:1<=n) (hn2:n<=17) (hp:Hid (p=(n:Int)-1-l10 (E+63))) (hp1: -348<=p) (hp2:p<=347) (hlp:Hid (lp=lp10 p)) (hl1: -1200<=lp) (hl2:lp<=1200)
 (hpi:Hid (p+348=(i:Int))) (hi696:i<696) (hg:20<w.heap.size) (t0:w.cell? ⟨20,i*2,none⟩=some (.int .u64 hi)) (t1:w.cell? ⟨20,i*2+1,none⟩=some (.int .u64 lo)) (t2:w.cell? ⟨6,n,none⟩=some (.int .u64 Z)) (hZ1:1<=Z) (hZ2:Z<=1000000000000000000)
 (hs:Hid ((s:Int)= -(E+lp+3))) (hs64:s<64) (hx2:x<18446744073709551616) (hhi:hi<18446744073709551616) (hlo:lo<18446744073709551616) (hpos:Hid (0<x*hi/T64)) (hu:Hid (u=usc x hi lo s)) (hu63:u<9223372036854775808)
 (hge:¬ 4*Z-2<=u):
 Calls Tryz.prog 210 #[.int .u64 x,.int .i64 E,.int .i64 n,.int .i64 prec,.int .u8 101] w fun r w'=>
  r=.returned (.tuple #[.int .u64 (rnd2 u:Nat),.int .i64 (-p)])/\Below w.heap.size w w':=by
 have hl: -400<=l10 (E+63)/\l10 (E+63)<=400:=by unfold l10;omega
 obtain ⟨hl3,hl4⟩:=hl
 have hpk:(n:Int)-1-l10 (E+63)=p:=hp.out.symm
 clear hp
 have HL:=hide (fun w=>zei (E+63) w (by omega) (by omega))
 generalize l10 (E+63)=k at *
 have HLP:=hide (fun w=>zb1 p w (by omega) (by omega))
 rw [<-hlp.out] at HLP
 have HU:=hide (fun w=>zhP Z w hZ1 hZ2)
 go_enter Tryz.func210,Tryz.ntmps210
 go_wp2_with fail
 refine (HL.out _).mono ?_
 rintro r w1 ⟨rfl,rfl⟩
 go_wp2_with fail
 refine (HLP.out _).mono ?_
 rintro r w1 ⟨rfl,rfl⟩
 go_wp2_with fail
 refine (zcn i hi lo _ E lp p _ hpi.out hi696 (by omega) (by omega) (by omega) (by omega) hg (by simp) (by simp) (by simp) (zbn (by omega) t0) (zbn (by omega) t1) (by simp) (by simp) (by simp)).mono ?_
 rintro r w2 ⟨rfl,rfl⟩
 have hss: -(E+lp+3)=(s:Int):=by have:=hs.out;omega
 rw [hss]
 clear hss
 go_wp2_with fail
 refine (zeV x hi lo s _ _ hx2 hhi hlo hs64 hpos.out (by simp) (by simp) (by simp)).mono ?_
 rintro r w2 ⟨rfl,m,hw2⟩
 have hb:Below w1.heap.size w1 w2:=by
  rw [hw2]
  exact zag ((Below.refl _ _).alloc (Nat.le_refl _) _) _
 have hc:w2.cell? ⟨6,n,none⟩=some (.int .u64 Z):=(hb.cell (p:=⟨6,n,none⟩) (show 6<w1.heap.size by omega)).trans t2
 have HB:=hide hb
 clear hw2 hb
 rw [<-hu.out]
 have hge2:¬ ((4*Z-2:Nat):Int)<=(u:Int):=by omega
 have HRd:=hide (fun w=>zea u w hu63)
 go_wp2_with fail
 refine rs (HU.out _) ?_
 go_wp2_with fail
 refine rs (HRd.out _) ?_
 go_wp2
 all_goals go_ret2
 all_goals exact ⟨rfl,HB.out⟩
structure FixW (x n:Nat) (E:Int) (d:Nat) (q:Int):Prop where
 lo:10^(n-1)<=d
 hi:d<10^n
 val:(q=fpP n (E+63)/\d=rq (fA x E q) (fB E q))∨(q=fpP n (E+63)-1/\d=rq (fA x E (q+1)) (10*fB E (q+1))/\10^n<=rq (fA x E (q+1)) (fB E (q+1)))
theorem zlQ {u Z:Nat} (hZ:Z%2=0) (hZ1:1<=Z):4*Z-2<=u↔Z<=rnd2 u:=by
 unfold rnd2
 constructor
 ·intro h
  rw [Nat.le_div_iff_mul_le (by omega)]
  by_cases h2:4*Z<=u
  ·omega
  have h3:u/4=Z-1:=by omega
  rw [h3]
  omega
 intro h
 rw [Nat.le_div_iff_mul_le (by omega)] at h
 refine Classical.byContradiction fun hn=>?_
 have h4:u/4%2<=1:=by omega
 omega
theorem zho {A B k:Nat} (hB:0<B) (h:k<=rq A B):(2*k)*B<=2*A+B:=by
 have hd:=Nat.div_add_mod A B
 have hm:=Nat.mod_lt A hB
 unfold rq at h
 split at h
 ·rename_i hc
  have h1:k<=A/B+1:=h
  have h2:B<=2*(A%B):=by omega
  have h3:(2*k)*B<=(2*(A/B+1))*B:=Nat.mul_le_mul_right _ (by omega)
  have h4:(2*(A/B+1))*B=2*(B*(A/B))+2*B:=by grind
  omega
 have h3:(2*k)*B<=(2*(A/B))*B:=Nat.mul_le_mul_right _ (by omega)
 have h4:(2*(A/B))*B=2*(B*(A/B)):=by grind
 omega
theorem zoG {A B k:Nat} (hB:0<B) (hk:1<=k) (h:10*k<=rq A B):k<=rq A (10*B):=by
 have h1:=zho hB h
 by_cases hA:10*B*k<=A
 ·exact zgQ (Nat.mul_pos (by omega) hB) hA
 have hlt:A<10*B*k:=by omega
 have e1:2*(10*k)*B=2*(10*B*k):=by grind
 rw [e1] at h1
 obtain ⟨j,rfl⟩:∃ j,k=j+1:=⟨k-1,by omega⟩
 have e2:10*B*(j+1)=10*B*j+10*B:=by rw [Nat.mul_add,Nat.mul_one]
 rw [e2] at h1 hlt
 have hq:A/(10*B)=j:=by
  refine Nat.div_eq_of_lt_le ?_ ?_
  ·rw [Nat.mul_comm];omega
  rw [Nat.mul_comm,e2];exact hlt
 have hr:A%(10*B)=A-10*B*j:=by
  have:=Nat.div_add_mod A (10*B)
  rw [hq] at this
  omega
 unfold rq
 rw [hq,hr,if_pos (by left;omega)]
 exact Nat.le_refl _
theorem zky {n:Nat} (h:n<=17):10^n<=100000000000000000:=Nat.pow_le_pow_right (by omega) h
theorem zlR (x y n:Nat) (E prec:Int) (w:World) (hxy:x=2048*y) (hx1:9223372036854775808<=x) (hx2:x<18446744073709551616) (h1: -1074<=E+63) (h2:E+63<=1023) (hn1:1<=n) (hn2:n<=17) (hg:20<w.heap.size)
 (hrow:∀ i,i<696->w.cell? ⟨20,i*2,none⟩=some (.int .u64 ((Go.Pinned.pow10Rows.getD i (0,0)).1:Nat))/\w.cell? ⟨20,i*2+1,none⟩=some (.int .u64 ((Go.Pinned.pow10Rows.getD i (0,0)).2:Nat)))
 (hten:w.cell? ⟨6,n,none⟩=some (.int .u64 ((10^n:Nat):Int))):
 Calls Tryz.prog 210 #[.int .u64 x,.int .i64 E,.int .i64 n,.int .i64 prec,.int .u8 101] w fun r w'=>∃ (d:Nat) (q:Int),r=.returned (.tuple #[.int .u64 d,.int .i64 (-q)])/\FixW x n E d q/\Below w.heap.size w w':=by
 obtain ⟨p,hp⟩:∃ p,p=fpP n (E+63):=⟨_,rfl⟩
 have hpr:=zmm hn1 hn2 h1 h2
 have hsr:=zqy hn1 hn2 h1 h2
 rw [<-hp] at hpr
 have hsp:fpS n (E+63)= -(E+lp10 p+3):=by unfold fpS;rw [<-hp];omega
 rw [hsp] at hsr
 obtain ⟨s,hs⟩:∃ s:Nat,(s:Int)= -(E+lp10 p+3):=⟨(-(E+lp10 p+3)).toNat,by omega⟩
 have hrw:=of_decide_eq_true (zjO (p:=p) hpr.1 hpr.2)
 obtain ⟨r1,r2,_,_,_⟩:=hrw
 have hhi:=zkG (p:=p) hpr.1 hpr.2
 have hu:=zr1 (s:=s) (E:=E) (p:=p) hxy hx1 hx2 hpr.1 hpr.2 hs (by omega)
 have hlow:=zhT (n:=n) (E:=E) hn1 h1 h2 hx1
 have hupp:=ziO (n:=n) (E:=E) hn1 h1 h2 hx2
 rw [<-hp] at hlow hupp
 have hB:=zj5 E p
 have h10:=zky hn2
 have h10p:0<10^n:=Nat.pow_pos (by omega)
 have hn10:10^n=10*10^(n-1):=by
  obtain ⟨j,rfl⟩:∃ j,n=j+1:=⟨n-1,by omega⟩
  rw [Nat.pow_succ,Nat.add_sub_cancel];omega
 have hev:10^n%2=0:=by rw [hn10];omega
 have hpos:0<x*(rowAt p).1/T64:=by
  rw [Nat.div_pos_iff]
  refine ⟨by rw [e64];omega,?_⟩
  have:9223372036854775808*9223372036854775808<=x*(rowAt p).1:=Nat.mul_le_mul hx1 hhi
  rw [e64];omega
 have hul:usc x (rowAt p).1 (rowAt p).2 s<9223372036854775808:=by
  rw [hu]
  have h3:=zrp (4*fA x E p) (fB E p)
  have h4:4*fA x E p/fB E p<8*10^n:=by
   rw [Nat.div_lt_iff_lt_mul hB]
   have:8*10^n*fB E p=4*(2*10^n*fB E p):=by grind
   omega
  omega
 have t01:=hrow (p+348).toNat (by omega)
 have hlb: -1200<=lp10 p/\lp10 p<=1200:=by unfold lp10;omega
 have hrnd:=zdY (N:=fA x E p) hB
 by_cases hge:4*10^n-2<=usc x (rowAt p).1 (rowAt p).2 s
 ·refine rb (fw_hi x n (p+348).toNat (rowAt p).1 (rowAt p).2 s _ (10^n) E prec p (lp10 p) w (by omega) (by omega) hn1 hn2 (hide hp) hpr.1 hpr.2 (hide rfl) hlb.1 hlb.2 (hide (by omega)) (by omega) hg t01.1 t01.2 hten h10p (by omega) (hide hs) (by omega) hx2 r1 r2 (hide hpos) (hide rfl) hul hge) fun w' hb=>?_
  refine ⟨_,p-1,rfl,?_,hb⟩
  have hten2:tenth (usc x (rowAt p).1 (rowAt p).2 s)=unr (4*fA x E p) (10*fB E p):=by
   rw [hu]
   exact zlO hB
  have hB10:0<10*fB E p:=Nat.mul_pos (by omega) hB
  have hd:rnd2 (tenth (usc x (rowAt p).1 (rowAt p).2 s))=rq (fA x E p) (10*fB E p):=by rw [hten2,zdY hB10]
  rw [hd]
  have hbig:10^n<=rq (fA x E p) (fB E p):=by
   rw [<-hrnd,<-hu]
   exact (zlQ hev h10p).1 hge
  have hp1:p-1+1=p:=by omega
  refine ⟨?_,?_,.inr ⟨by rw [hp],by rw [hp1],by rw [hp1];exact hbig⟩⟩
  ·refine zoG hB (Nat.pow_pos (by omega)) ?_
   rw [<-hn10]
   exact hbig
  have:rq (fA x E p) (10*fB E p)<=2*10^(n-1):=by
   refine rq_le hB10 ?_
   have:10*fB E p*(2*10^(n-1))=2*(10*10^(n-1))*fB E p:=by grind
   rw [this,<-hn10]
   exact Nat.le_of_lt hupp
  have h1p:0<10^(n-1):=Nat.pow_pos (by omega)
  omega
 refine rb (fw_lo x n (p+348).toNat (rowAt p).1 (rowAt p).2 s _ (10^n) E prec p (lp10 p) w (by omega) (by omega) hn1 hn2 (hide hp) hpr.1 hpr.2 (hide rfl) hlb.1 hlb.2 (hide (by omega)) (by omega) hg t01.1 t01.2 hten h10p (by omega) (hide hs) (by omega) hx2 r1 r2 (hide hpos) (hide rfl) hul hge) fun w' hb=>?_
 refine ⟨_,p,rfl,?_,hb⟩
 have hsm:¬ 10^n<=rnd2 (usc x (rowAt p).1 (rowAt p).2 s):=fun h=>hge ((zlQ hev h10p).2 h)
 rw [hu,hrnd] at hsm ⊢
 refine ⟨zgQ hB (by rw [Nat.mul_comm];exact hlow),by omega,.inl ⟨hp,rfl⟩⟩
def dgA (d n j:Nat):Int:=((Lib.dg d (n-1-j)).toNat:Int)
theorem zcs (d n j:Nat):dgA d n j=48+((d/10^(n-1-j)%10:Nat):Int):=by
 unfold dgA Lib.dg
 rw [UInt8.toNat_ofNat']
 omega
theorem zcf (d n j:Nat):48<=dgA d n j/\dgA d n j<=57:=by rw [zcs];omega
structure SetD (w w':World) (g d n nz:Nat):Prop where
 dig:∀ j,j<n->w'.cell? ⟨g,j,none⟩=some (.int .u8 (dgA d n j))
 le:nz<=n
 tail:∀ j,nz<=j->j<n->dgA d n j=48
 last:nz=0∨dgA d n (nz-1)≠48
 bel:Below g w w'
theorem zmD {w:World} {g m:Nat} {d:Array UInt8}:Below g w ((Sort.putRow (fun (b:UInt8)=>Value.int .u8 (b.toNat:Int)) w g 0 d).drewN m):=by
 refine zag (B:=g) (a:=w) (w:=Sort.putRow (fun (b:UInt8)=>Value.int .u8 (b.toNat:Int)) w g 0 d) ⟨rfl,rfl,rfl,Nat.le_of_eq (Sort.size_putRow _ _ _ _ _).symm,fun k hk=>?_⟩ m
 unfold Sort.putRow Sort.mapBlock
 rw [Array.getElem?_modify,if_neg (by omega)]
theorem zew (g d n:Nat) (P:Int) (w:World) (hg:g<w.heap.size) (hn1:1<=n) (hn2:n<=17) (hd:d<10^n) (hP1: -1000<=P) (hP2:P<=1000)
 (hc:∀ j,j<24->w.cell? ⟨g,j,none⟩=some (.int .u8 0)/\w.frozen? ⟨g,j,none⟩=false):
 Calls Tryz.prog 209 #[.slice (some ⟨g,0,none⟩) 24 24,.int .u64 d,.int .i64 P,.int .i64 n] w fun r w'=>∃ nz:Nat,r=.returned (.tuple #[.int .i64 (n+P),.int .i64 nz])/\SetD w w' g d n nz:=by
 have h18:=zky hn2
 have HHo:Hid (Sort.Holds (fun (b:UInt8)=>Value.int .u8 (b.toNat:Int)) w g 0 (Array.replicate n 0)):=hide (fun j hj=>by
  rw [Array.size_replicate] at hj
  have:=hc j (by omega)
  rw [Nat.zero_add]
  refine ⟨?_,this.2⟩
  rw [this.1,getElem!_pos _ j (by rw [Array.size_replicate];exact hj),Array.getElem_replicate]
  rfl)
 have HF:=Tryz.internal_strconv_formatBase10 g 0 24 d (Array.replicate n 0) w HHo.out (by rw [Array.size_replicate];exact hd) (by omega) (by rw [Array.size_replicate];omega)
 rw [Array.size_replicate] at HF
 have HH:=hide HF
 clear HF
 go_enter Tryz.func209,Tryz.ntmps209
 go_wp2_with fail
 refine HH.out.mono ?_
 rintro e w1 ⟨rfl,m,v',dk,hw1,hfm⟩
 have hcell:∀ j,j<n->w1.cell? ⟨g,j,none⟩=some (.int .u8 (dgA d n j)):=by
  intro j hj
  rw [hw1]
  have h1:=Sort.cell?_putRow (fun (b:UInt8)=>Value.int .u8 (b.toNat:Int)) w g 0 (Array.replicate n 0) dk HHo.out (by rw [hfm.size,Array.size_replicate]) j (by rw [hfm.size];exact hj)
  rw [Nat.zero_add,hfm.done j (Nat.zero_le _) hj] at h1
  exact h1
 have hb1:Below g w w1:=by rw [hw1];exact zmD
 have hsz:w1.heap.size=w.heap.size:=by rw [hw1];simp
 clear hw1
 have Hc:=hide hcell
 have HB:=hide hb1
 clear hcell hb1 hc
 go_wp2_with fail
 go_loop [3] (fun nv=>∃ k:Nat,nv=.int .i64 k/\k<=n/\Hid (∀ j,k<=j->j<n->dgA d n j=48)) (fun nv=>(intOf nv).toNat)
 case atStart=>exact ⟨n,rfl,Nat.le_refl _,hide (fun j h1 h2=>by omega)⟩
 obtain ⟨k,rfl,hk,Ht⟩:=hrel
 by_cases h0:0<k
 ·have hck:=Hc.out (k-1) (by omega)
  have hr:=zcf d n (k-1)
  by_cases h48:dgA d n (k-1)=48
  ·have Hn:Hid (∀ j,k-1<=j->j<n->dgA d n j=48):=hide (fun j h1 h2=>by
    by_cases e:j=k-1
    ·rw [e];exact h48
    exact Ht.out j (by omega) h2)
   rw [h48] at hck
   clear h48 hr Ht
   go_wp2
   go_round
   case rel=>exact ⟨k-1,by go_num,by omega,Hn⟩
   case measure=>simp [intOf];omega
  have hne:(dgA d n (k-1)==48)=false:=by rw [beq_eq_false_iff_ne];exact h48
  have Hl:=hide h48
  clear h48
  go_wp2
  go_ret2
  exact ⟨k,rfl,Hc.out,hk,Ht.out,.inr Hl.out,HB.out⟩
 have hk0:k=0:=by omega
 subst hk0
 go_wp2
 go_ret2
 exact ⟨0,rfl,Hc.out,hk,Ht.out,.inl rfl,HB.out⟩
theorem zaE {wr:World} {ops:Array Oper} {rest:List Oper} {o:Oper} {a:Act} {Q:Exit->Act->World->Prop} (hgd:o.guard=none) (s x:Operand)
 (ho:o.op=.call { callee:=.builtin .append,args:=#[s,x],argTypes:=#[29,29] }) (base lit:Nat) (v:Value) (L:List Int) (z:Int) (hown:OwnB wr base v L) (hne:v.ownBlock≠some lit) (hlit:lit<wr.heap.size) (hs:a.eval s=v) (hx:a.eval x=.slice (some ⟨wr.heap.size,0,none⟩) 1 1)
 (hlen:L.length<=10000000000) (hbase:base<=wr.heap.size)
 (h:∀ v' w',OwnB w' base v' (L++[z])->v'.ownBlock≠some lit->lit<w'.heap.size->(∀ q u,wr.cell? ⟨lit,q,none⟩=some u->w'.cell? ⟨lit,q,none⟩=some u)->(∀ B w0,Below B w0 wr->B<=base->Below B w0 w')->wpList Tryz.prog ops Q rest (a.put o.dst v') w'):
 wpList Tryz.prog ops Q (o::rest) a (wr.alloc (.cells #[.int .u8 z] 5)):=by
 obtain ⟨i0,hi,hz0,hz1,hz2⟩:=info_parts Tryz.info5
 refine wpList_append_own_at _ hgd s x 29 ho base 5 i0 (.int .u8 0) 1 1 Tryz.underlying29 hi hz0 hz1 hz2 rfl (by decide) v L.length (L.map (Value.int .u8)) hs (hown.1.alloc _) ⟨wr.heap.size,0,none⟩ 1 1 [.int .u8 z] hx rfl (zib _ _)
  (fun u hu=>by simp at hu;subst hu;rfl) (by unfold maxLen;omega) (by omega) (by simp;omega) ?_
 intro v' w' h1 h2 h3 h4
 refine h v' w' ⟨by simpa using h1,fun hh=>hown.2 (h3.1 hh).1⟩ ?_ ?_ ?_ (fun B w0 hb hB=>(hb.alloc (by omega) _).grown h2 (by simp;omega) (fun q hq=>?_))
 ·rcases h4 with h4|h4
  ·rw [h4];exact hne
  rw [h4];simp;omega
 ·have:=h2.size
  simp at this
  omega
 ·intro q u hu
  refine h2.cell (a:=⟨lit,q,none⟩) ?_ (fun hh=>hne hh.symm)
  have hb:Below wr.heap.size wr (wr.alloc (.cells #[.int .u8 z] 5)):=(Below.refl _ _).alloc (Nat.le_refl _) _
  rw [hb.cell (p:=⟨lit,q,none⟩) hlit]
  exact hu
 have:=(hown.1.lt q hq).1
 omega
structure Efg (w0:World) (base g:Nat) (N:List Int) (w:World) (v:Value) (L:List Int):Prop where
 own:OwnB w base v L
 ne:v.ownBlock≠some g
 lt:g<w.heap.size
 cells:∀ j,j<N.length->w.cell? ⟨g,j,none⟩=some (.int .u8 (N.getD j 0))
 bas:base<=w.heap.size
 bel:Below base w0 w
theorem Efg.alloc {w0:World} {base g:Nat} {N:List Int} {w:World} {v:Value} {L:List Int} (h:Efg w0 base g N w v L) (o:Obj):Efg w0 base g N (w.alloc o) v L:=by
 refine ⟨⟨h.own.1.alloc _,h.own.2⟩,h.ne,by have:=h.lt;simp;omega,fun j hj=>?_,by have:=h.bas;simp;omega,h.bel.alloc h.bas _⟩
 have hb:Below w.heap.size w (w.alloc o):=(Below.refl _ _).alloc (Nat.le_refl _) o
 rw [hb.cell (p:=⟨g,j,none⟩) h.lt]
 exact h.cells j hj
theorem zlZ {w0:World} {base g:Nat} {N:List Int} {wr:World} {v:Value} {L:List Int} {ops:Array Oper} {rest:List Oper} {o:Oper} {a:Act} {Q:Exit->Act->World->Prop} (he:Efg w0 base g N wr v L) (hgd:o.guard=none) (s x:Operand)
 (ho:o.op=.call { callee:=.builtin .append,args:=#[s,x],argTypes:=#[29,29] }) (hs:a.eval s=v) (ad:Addr) (m c:Nat) (Z:List Int) (hx:a.eval x=.slice (some ad) m c) (hm:Z.length=m) (hcell:∀ j u,(Z.map (Value.int .u8))[j]?=some u->wr.cell? (ad.add j)=some u)
 (hlen:L.length<=1000) (hz:m<=1000)
 (h:∀ v' w',Efg w0 base g N w' v' (L++Z)->wpList Tryz.prog ops Q rest (a.put o.dst v') w'):
 wpList Tryz.prog ops Q (o::rest) a wr:=by
 obtain ⟨i0,hi,hz0,hz1,hz2⟩:=info_parts Tryz.info5
 subst hm
 refine wpList_append_own_at _ hgd s x 29 ho base 5 i0 (.int .u8 0) 1 1 Tryz.underlying29 hi hz0 hz1 hz2 rfl (by decide) v L.length (L.map (Value.int .u8)) hs he.own.1 ad Z.length c (Z.map (Value.int .u8)) hx (by simp) hcell
  (ints_oneCell _ _) (by unfold maxLen;omega) (by omega) he.bas ?_
 intro v' w' h1 h2 h3 h4
 have hsz:=h2.size
 refine h v' w' ⟨⟨by simpa using h1,fun hh=>he.own.2 (h3.1 hh).1⟩,?_,by have:=he.lt;omega,fun j hj=>h2.cell (a:=⟨g,j,none⟩) (he.cells j hj) (fun hh=>he.ne hh.symm),by have:=he.bas;omega,he.bel.grown h2 he.bas (fun q hq=>(he.own.1.lt q hq).1)⟩
 rcases h4 with h4|h4
 ·rw [h4];exact he.ne
 rw [h4]
 have:=he.lt
 intro hh
 have:=Option.some.inj hh
 omega
theorem zjn {w0:World} {base g:Nat} {N:List Int} {wr:World} {v:Value} {L:List Int} {ops:Array Oper} {rest:List Oper} {o:Oper} {a:Act} {Q:Exit->Act->World->Prop} (he:Efg w0 base g N wr v L) (Z:List Int) (m:Nat) (A:Array Value) (hA:A=(Z.map (Value.int .u8)).toArray) (hm:Z.length=m) (hgd:o.guard=none) (s x:Operand)
 (ho:o.op=.call { callee:=.builtin .append,args:=#[s,x],argTypes:=#[29,29] }) (hs:a.eval s=v) (hx:a.eval x=.slice (some ⟨wr.heap.size,0,none⟩) m m)
 (hlen:L.length<=1000) (hz:m<=1000)
 (h:∀ v' w',Efg w0 base g N w' v' (L++Z)->wpList Tryz.prog ops Q rest (a.put o.dst v') w'):
 wpList Tryz.prog ops Q (o::rest) a (wr.alloc (.cells A 5)):=by
 refine zlZ (he.alloc _) hgd s x ho hs ⟨wr.heap.size,0,none⟩ m m Z hx hm (fun j u hj=>?_) hlen hz h
 subst hA
 have e:(⟨wr.heap.size,0,none⟩:Addr).add j=⟨wr.heap.size,j,none⟩:=by
  simp only [Addr.add]
  by_cases e:j=0
  ·subst e;simp
  simp [e]
 rw [e]
 obtain ⟨hlt,hxx⟩:=List.getElem?_eq_some_iff.1 hj
 rw [List.length_map] at hlt
 simp [<-hxx,hlt]
theorem zaG {w0:World} {base g:Nat} {N:List Int} {wr:World} {v:Value} {L:List Int} {ops:Array Oper} {rest:List Oper} {o:Oper} {a:Act} {Q:Exit->Act->World->Prop} (z:Int) (he:Efg w0 base g N wr v L) (hgd:o.guard=none) (s x:Operand)
 (ho:o.op=.call { callee:=.builtin .append,args:=#[s,x],argTypes:=#[29,29] }) (hs:a.eval s=v) (hx:a.eval x=.slice (some ⟨wr.heap.size,0,none⟩) 1 1)
 (hlen:L.length<=1000)
 (h:∀ v' w',Efg w0 base g N w' v' (L++[z])->wpList Tryz.prog ops Q rest (a.put o.dst v') w'):
 wpList Tryz.prog ops Q (o::rest) a (wr.alloc (.cells #[.int .u8 z] 5)):=
 zjn he [z] 1 _ rfl rfl hgd s x ho hs hx hlen (by omega) h
theorem zaX {w0:World} {base g:Nat} {N:List Int} {wr:World} {v:Value} {L:List Int} {ops:Array Oper} {rest:List Oper} {o:Oper} {a:Act} {Q:Exit->Act->World->Prop} (y z:Int) (he:Efg w0 base g N wr v L) (hgd:o.guard=none) (s x:Operand)
 (ho:o.op=.call { callee:=.builtin .append,args:=#[s,x],argTypes:=#[29,29] }) (hs:a.eval s=v) (hx:a.eval x=.slice (some ⟨wr.heap.size,0,none⟩) 2 2)
 (hlen:L.length<=1000)
 (h:∀ v' w',Efg w0 base g N w' v' (L++[y,z])->wpList Tryz.prog ops Q rest (a.put o.dst v') w'):
 wpList Tryz.prog ops Q (o::rest) a (wr.alloc (.cells #[.int .u8 y,.int .u8 z] 5)):=
 zjn he [y,z] 2 _ rfl rfl hgd s x ho hs hx hlen (by omega) h
theorem zav {w0:World} {base g:Nat} {N:List Int} {wr:World} {v:Value} {L:List Int} {ops:Array Oper} {rest:List Oper} {o:Oper} {a:Act} {Q:Exit->Act->World->Prop} (y0 y z:Int) (he:Efg w0 base g N wr v L) (hgd:o.guard=none) (s x:Operand)
 (ho:o.op=.call { callee:=.builtin .append,args:=#[s,x],argTypes:=#[29,29] }) (hs:a.eval s=v) (hx:a.eval x=.slice (some ⟨wr.heap.size,0,none⟩) 3 3)
 (hlen:L.length<=1000)
 (h:∀ v' w',Efg w0 base g N w' v' (L++[y0,y,z])->wpList Tryz.prog ops Q rest (a.put o.dst v') w'):
 wpList Tryz.prog ops Q (o::rest) a (wr.alloc (.cells #[.int .u8 y0,.int .u8 y,.int .u8 z] 5)):=
 zjn he [y0,y,z] 3 _ rfl rfl hgd s x ho hs hx hlen (by omega) h
theorem zmj {w0:World} {base g:Nat} {N:List Int} {wr:World} {v:Value} {L:List Int} {ops:Array Oper} {rest:List Oper} {o:Oper} {a:Act} {Q:Exit->Act->World->Prop} (m c:Nat) (he:Efg w0 base g N wr v L) (hgd:o.guard=none) (s x:Operand)
 (ho:o.op=.call { callee:=.builtin .append,args:=#[s,x],argTypes:=#[29,29] }) (hs:a.eval s=v) (hx:a.eval x=.slice (some ⟨g,1,none⟩) m c)
 (hlen:L.length<=1000) (hm:m+1<=N.length) (hm1:m<=1000)
 (h:∀ v' w',Efg w0 base g N w' v' (L++(N.drop 1).take m)->wpList Tryz.prog ops Q rest (a.put o.dst v') w'):
 wpList Tryz.prog ops Q (o::rest) a wr:=by
 refine zlZ he hgd s x ho hs ⟨g,1,none⟩ m c ((N.drop 1).take m) hx (by simp;omega) (fun j u hj=>?_) hlen hm1 h
 rw [List.getElem?_map] at hj
 have e:(⟨g,1,none⟩:Addr).add j=⟨g,1+j,none⟩:=by
  simp only [Addr.add]
  by_cases e:j=0
  ·subst e;simp
  simp [e]
 rw [e]
 cases hx:((N.drop 1).take m)[j]? with
 |none=>rw [hx] at hj;simp at hj
 |some x=>
  rw [hx] at hj
  simp at hj
  subst hj
  obtain ⟨hlt,hxx⟩:=List.getElem?_eq_some_iff.1 hx
  have hlt2:1+j<N.length:=by simp at hlt;omega
  rw [he.cells (1+j) hlt2,zaz hlt2]
  simp at hxx
  rw [<-hxx]
  congr 3
  omega
def expL (k:Nat):List Int:=if k<10 then [48,48+(k:Int)] else if k<100 then [48+(k:Int)/10,48+(k:Int)%10] else [48+(k:Int)/100,48+(k:Int)/10%10,48+(k:Int)%10]
def digL (d n:Nat):List Int:=(List.range n).map fun j=>dgA d n j
theorem zaa (d n:Nat):(digL d n).length=n:=by simp [digL]
theorem za3 {d n j:Nat} (h:j<n):(digL d n).getD j 0=dgA d n j:=by
 unfold digL
 rw [zaz (by simpa using h)]
 simp
def mantL (d n:Nat):List Int:=[dgA d n 0]++(if n=1 then [] else 46::(digL d n).drop 1)
def eTxt (d n:Nat) (X:Int):List Int:=mantL d n++[101,if X<0 then 45 else 43]++expL X.natAbs
theorem Efg.cast {w0:World} {base g:Nat} {N:List Int} {w:World} {v:Value} {L L':List Int} (h:Efg w0 base g N w v L) (e:L=L'):Efg w0 base g N w v L':=e ▸ h
theorem zfy (d n k:Nat):eTxt d n (k:Int)=mantL d n++[101]++[43]++expL k:=by
 unfold eTxt
 rw [if_neg (by omega),Int.natAbs_natCast]
 simp
theorem ze8 {d n k:Nat} (h:0<k):eTxt d n (-(k:Int))=mantL d n++[101]++[45]++expL k:=by
 unfold eTxt
 rw [if_pos (by omega),Int.natAbs_neg,Int.natAbs_natCast]
 simp
theorem zfZ {k:Nat} (h:k<10):expL k=[48,(k:Int)+48]:=by unfold expL;rw [if_pos h,Int.add_comm]
theorem zge {k:Nat} (h:¬ k<10) (h2:k<100):expL k=[(k:Int)/10+48,(k:Int)%10+48]:=by unfold expL;rw [if_neg h,if_pos h2,Int.add_comm,Int.add_comm 48]
theorem zfM {k:Nat} (h:¬ k<10) (h2:¬ k<100):expL k=[(k:Int)/100+48,(k:Int)/10%10+48,(k:Int)%10+48]:=by unfold expL;rw [if_neg h,if_neg h2,Int.add_comm,Int.add_comm 48,Int.add_comm 48]
theorem zee {d n nz t:Nat} (hz:1<=nz) (h:nz+t<n) (h48:dgA d n (nz+t)=48):((digL d n).drop 1).take (nz-1+t)++[48]=((digL d n).drop 1).take (nz-1+(t+1)):=by
 rw [<-Nat.add_assoc,List.take_succ_eq_append_getElem (by rw [List.length_drop,zaa];omega),List.getElem_drop]
 congr 2
 have hlt:1+(nz-1+t)<(digL d n).length:=by rw [zaa];omega
 have:=za3 (d:=d) (n:=n) (j:=1+(nz-1+t)) (by omega)
 rw [zaz hlt] at this
 have e:nz+t=1+(nz-1+t):=by omega
 rw [this,<-e,h48]
theorem zd2 {d n:Nat}:((digL d n).drop 1).take (n-1)=(digL d n).drop 1:=by
 rw [List.take_of_length_le (by rw [List.length_drop,zaa];omega)]
theorem zb5 {d n:Nat} (h:2<=n):mantL d n=[dgA d n 0]++[46]++(digL d n).drop 1:=by
 unfold mantL
 rw [if_neg (by omega)]
 simp
end Go.Proofs.YtamdnnkdnhkghaaGreatDoor
