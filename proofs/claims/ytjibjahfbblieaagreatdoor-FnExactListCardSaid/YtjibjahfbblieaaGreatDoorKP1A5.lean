import Derived.Test.YtjibjahfbblieaaGreatDoorKP1M4
import Derived.Test.YtjibjahfbblieaaGreatDoorKP1A4
import Derived.WalkSmall
namespace Go.Proofs.YtjibjahfbblieaaGreatDoor.F
theorem qI (N:Nat) {d:Nat} (hd:0<d):∃ W,aC N d W:=by
 have key:∀ m,(∃ k,k<=m/\N<d*2^(53+k))->∃ k,N<d*2^(53+k)/\(k=0∨d*2^(52+k)<=N):=by
  intro m
  induction m with
  |zero=>rintro ⟨k,hk,h⟩;exact ⟨k,h,.inl (by omega)⟩
  |succ m ih=>
   rintro ⟨k,hk,h⟩
   by_cases h0:k=0
   ·exact ⟨k,h,.inl h0⟩
   ·by_cases hle:d*2^(52+k)<=N
    ·exact ⟨k,h,.inr hle⟩
    ·refine ih ⟨k-1,by omega,?_⟩
     have:53+(k-1)=52+k:=by omega
     rw [this];omega
 obtain ⟨k,h1,h2⟩:=key N ⟨N,Nat.le_refl _,by
  have h1:N<2^N:=Nat.lt_two_pow_self
  have h2:2^N<=2^(53+N):=Nat.pow_le_pow_right (by omega) (by omega)
  have h3:1*2^(53+N)<=d*2^(53+N):=Nat.mul_le_mul_right _ hd
  omega⟩
 exact ⟨_,k,h1,h2,rfl⟩
theorem G7 (N D:Nat):N/D<=rq N D:=by unfold rq;omega
theorem o_ {N d:Nat} (h:2*N<d):aC N d 0:=by
 refine ⟨0,?_,.inl rfl,?_⟩
 ·have:d*1<=d*2^(53+0):=Nat.mul_le_mul_left _ (Nat.one_le_two_pow)
  omega
 ·have e1:d*2^0=d:=by simp
  rw [e1]
  unfold rq
  rw [Nat.div_eq_of_lt (by omega),Nat.mod_eq_of_lt (by omega),if_neg (by omega)]
  simp
theorem Dr {N d W a:Nat} (hd:0<d) (ha:2098<=a) (h:d*2^a<=N) (hw:aC N d W):W=ak:=by
 obtain ⟨k,h1,h2,h3⟩:=hw
 have hk:2046<=k:=by
  refine Nat.le_of_not_lt fun hlt=>?_
  have hka:53+k<=a:=by clear h h1 h2 h3;omega
  have:d*2^(53+k)<=d*2^a:=Nat.mul_le_mul_left _ (Nat.pow_le_pow_right (Nat.succ_pos 1) hka)
  exact Nat.lt_irrefl _ (Nat.lt_of_lt_of_le h1 (Nat.le_trans this h))
 have h4:d*2^(52+k)<=N:=by
  rcases h2 with h2|h2
  ·clear h h1 h3;omega
  ·exact h2
 clear h h1 h2
 have h5:4503599627370496<=N/(d*2^k):=by
  rw [Nat.le_div_iff_mul_le (Nat.mul_pos hd (Nat.pow_pos (Nat.succ_pos 1)))]
  have e:4503599627370496*(d*2^k)=d*2^(52+k):=by
   rw [Nat.pow_add];exact Nat.mul_left_comm _ _ _
  rw [e];exact h4
 have h6:=G7 N (d*2^k)
 generalize rq N (d*2^k)=x at *
 generalize N/(d*2^k)=y at *
 clear h4 hd
 rw [h3]
 unfold ak
 omega
def dval (l:List Int):Nat:=l.foldl (fun a c=>a*10+(c-48).toNat) 0
theorem gK (l:List Int) (c:Int):dval (l++[c])=dval l*10+(c-48).toNat:=by simp [dval,List.foldl_append]
def aK (n:Nat):Nat:=if h:n=0 then 0 else aK (n/10)+1
termination_by n
decreasing_by omega
theorem cZ:aK 0=0:=by rw [aK];simp
theorem jg {n:Nat} (h:n≠0):aK n=aK (n/10)+1:=by rw [aK];simp [h]
theorem jr (n c:Nat) (hc:c<10):aK (n*10+c)=if n*10+c=0 then 0 else aK n+1:=by
 by_cases h:n*10+c=0
 ·rw [h,cZ];simp
 ·rw [jg h,if_neg h]
  have:(n*10+c)/10=n:=by omega
  rw [this]
theorem iT (n:Nat):n<10^aK n:=by
 induction n using Nat.strongRecOn with
 |ind n ih=>
  by_cases h:n=0
  ·subst h;rw [cZ];simp
  ·rw [jg h,Nat.pow_succ]
   have:=ih (n/10) (by omega)
   omega
theorem lW {n:Nat} (h:n≠0):10^(aK n-1)<=n:=by
 induction n using Nat.strongRecOn with
 |ind n ih=>
  rw [jg h]
  by_cases h2:n/10=0
  ·rw [h2,cZ];simp;omega
  ·have:=ih (n/10) (by omega) h2
   have hp:aK (n/10)≠0:=by rw [jg h2];omega
   obtain ⟨m,hm⟩:=Nat.exists_eq_succ_of_ne_zero hp
   rw [hm] at this ⊢
   simp only [Nat.succ_eq_add_one,Nat.add_sub_cancel,Nat.pow_succ] at this ⊢
   omega
theorem jG (l:List Int) (h:∀ c∈l,48<=c/\c<=57):aK (dval l)<=l.length:=by
 have key:∀ (l:List Int) (a:Nat),(∀ c∈l,48<=c/\c<=57)->aK (l.foldl (fun a c=>a*10+(c-48).toNat) a)<=aK a+l.length:=by
  intro l
  induction l with
  |nil=>intro a _;simp
  |cons c r ih=>
   intro a hc
   have h1:=hc c (by simp)
   have h2:=ih (a*10+(c-48).toNat) (fun x hx=>hc x (by simp [hx]))
   have h3:=jr a (c-48).toNat (by omega)
   simp only [List.foldl_cons,List.length_cons]
   split at h3<;>omega
 have:=key l 0 h
 rw [cZ] at this
 unfold dval
 omega
theorem qN {N a b:Nat} {E:Int} (h3:2*2^b<10^a) (h:(aK N:Int)+E< -(a:Int)):aC (N*10^E.toNat*2^b) (10^(-E).toNat) 0:=by
 refine o_ ?_
 have hE:E.toNat=0:=by omega
 rw [hE,Nat.pow_zero,Nat.mul_one]
 have h1:=iT N
 have h2:10^aK N*10^a<=10^(-E).toNat:=by
  rw [<-Nat.pow_add];exact Nat.pow_le_pow_right (by omega) (by omega)
 refine Nat.lt_of_lt_of_le ?_ h2
 have e:2*(N*2^b)=N*(2*2^b):=Nat.mul_left_comm _ _ _
 rw [e]
 exact Nat.lt_of_le_of_lt (Nat.mul_le_mul_right _ (Nat.le_of_lt h1)) (Nat.mul_lt_mul_of_pos_left h3 (Nat.pow_pos (by omega)))
theorem EM:2*2^1074<10^330:=by decide+kernel
theorem Fu {N:Nat} {E:Int} (h:(aK N:Int)+E< -330):aC (N*10^E.toNat*2^1074) (10^(-E).toNat) 0:=
 qN (a:=330) (b:=1074) EM (by omega)
theorem DK {N W a b c:Nat} {E:Int} (hc:2098<=c) (h3:2^c<=10^a*2^b) (hN:N≠0) (h:(a:Int)<(aK N:Int)+E) (hw:aC (N*10^E.toNat*2^b) (10^(-E).toNat) W):W=ak:=by
 refine Dr (Nat.pow_pos (by omega)) hc ?_ hw
 have h1:=lW hN
 have h4:10^(-E).toNat*10^a<=10^(aK N-1)*10^E.toNat:=by
  rw [<-Nat.pow_add,<-Nat.pow_add];exact Nat.pow_le_pow_right (by omega) (by omega)
 refine Nat.le_trans (Nat.mul_le_mul_left _ h3) ?_
 rw [<-Nat.mul_assoc]
 exact Nat.le_trans (Nat.mul_le_mul_right _ h4) (Nat.mul_le_mul_right _ (Nat.mul_le_mul_right _ h1))
theorem Ez:2^2098<=10^310*2^1074:=by decide+kernel
theorem IJ {N W:Nat} {E:Int} (hN:N≠0) (h:310<(aK N:Int)+E) (hw:aC (N*10^E.toNat*2^1074) (10^(-E).toNat) W):W=ak:=
 DK (a:=310) (b:=1074) (c:=2098) (by omega) Ez hN (by omega) hw
end Go.Proofs.YtjibjahfbblieaaGreatDoor.F
namespace Go.Proofs.YtjibjahfbblieaaGreatDoor.F
open Go Go.RowKit
set_option linter.unusedVariables false
theorem jX {x y:Nat} (h:x<y):mQ x y= -1:=by simp [mQ,h]
theorem CO {x y:Nat} (h:y<x):mQ x y=1:=by unfold mQ;rw [if_neg (by omega),if_pos h]
theorem Kv {x y:Nat} (h:x=y):mQ x y=0:=by subst h;simp [mQ]
set_option maxHeartbeats 800000 in
set_option maxRecDepth 100000 in
theorem gq (x y:Nat) (va vb:Value) (w:World) (ha:Big w va (dig x)) (hb:Big w vb (dig y)) (hl:(dig x).length<=100000000) (hl2:(dig y).length<=100000000):
 Calls Tryz.prog 136 #[va,vb] w fun e w'=>e=.returned (.int .i64 (mQ x y))/\Below w.heap.size w w':=by
 obtain ⟨g,cap,rfl,h2,h3,h4,h5⟩:=ha
 obtain ⟨g',cap',rfl,h2',h3',h4',h5'⟩:=hb
 unfold maxLen at h3 h3'
 have Hx:=hide (mP x)
 have Hy:=hide (mP y)
 have Hxy:=hide (@jD x y)
 have Hyx:=hide (@jD y x)
 generalize (dig x).length=len at *
 generalize (dig y).length=len' at *
 by_cases hne:len=len'
 ·subst hne
  clear Hxy Hyx
  go_enter Tryz.func136,Tryz.ntmps136
  go_wp2
  go_loopw [5] (fun i wr=>∃ j:Nat,j<=len/\i=.int .i64 ((j:Int)-1)/\Hid (x/10000^j=y/10000^j)/\Below w.heap.size w wr) (fun i _=>(intOf i+1).toNat)
  case atStart=>exact ⟨len,Nat.le_refl _,rfl,hide (by rw [Hx.out,Hy.out]),Below.refl _ _⟩
  case round=>
   obtain ⟨j,hj,rfl,he,hbe⟩:=hrel
   cases j with
   |zero=>
    go_wp2
    go_ret
    exact ⟨dD (Kv (by simpa using he.out)).symm,hbe⟩
   |succ k=>
    have hcx:wr.cell? ⟨g,k,none⟩=some (.int .i64 ((dig x).getD k 0)):=(hbe.cell (by exact h4)).trans (h5 k (by omega))
    have hcy:wr.cell? ⟨g',k,none⟩=some (.int .i64 ((dig y).getD k 0)):=(hbe.cell (by exact h4')).trans (h5' k (by omega))
    rw [jT] at hcx hcy
    have K1:=hide (@H_ x y k he.out)
    have K2:=hide (@H_ y x k he.out.symm)
    have K3:=hide (@cmp_eq x y k he.out)
    generalize x/10000^k%10000=dx at *
    generalize y/10000^k%10000=dy at *
    clear he
    rcases Nat.lt_trichotomy dx dy with h|h|h
    ·have hn1:((dx:Int) !=dy)=true:=by rw [bne_iff_ne];omega
     go_wp2
     go_quiet (fail)
     go_wp2
     go_quiet (fail)
     go_wp2
     go_ret
     exact ⟨dD (jX (K1.out h)).symm,below_drewN (below_drewN hbe _) _⟩
    ·have hn1:((dx:Int) !=dy)=false:=by subst h;simp
     go_wp2
     go_quiet (fail)
     go_wp2
     go_roundw
     case rel=>exact ⟨k,by omega,rfl,hide (K3.out h),below_drewN hbe _⟩
     case measure=>simp [intOf]
    ·have hn1:((dx:Int) !=dy)=true:=by rw [bne_iff_ne];omega
     go_wp2
     go_quiet (fail)
     go_wp2
     go_quiet (fail)
     go_wp2
     go_ret
     exact ⟨dD (CO (K2.out h)).symm,below_drewN (below_drewN hbe _) _⟩
 ·go_enter Tryz.func136,Tryz.ntmps136
  have hn1:((len:Int) !=len')=true:=by rw [bne_iff_ne];omega
  by_cases hlt:len<len'
  ·go_wp2
   go_ret
   exact ⟨dD (jX (Hxy.out hlt)).symm,Below.refl _ _⟩
  ·go_wp2
   go_ret
   exact ⟨dD (CO (Hyx.out (by omega))).symm,Below.refl _ _⟩
theorem JN (wr:World) (u0:Value):∀ j u,[u0][j]?=some u->(wr.alloc (.cells #[u0] 3)).cell? ((⟨wr.heap.size,0,none⟩:Addr).add j)=some u:=by
 intro j u hj
 match j,hj with
 |0,hj=>simp at hj;subst hj;simp [Addr.add]
def qj (w:World) (base:Nat) (v:Value) (L:List Int):Prop:=w.ownsRow base 3 1 v L.length (L.map (Value.int .i64))/\v≠ .slice none 0 0
theorem qj.big {w:World} {base:Nat} {v:Value} {L:List Int} (h:qj w base v L):Big w v L:=iD h.1 h.2
theorem ny (w:World):qj (w.alloc (.cells #[] 3)) w.heap.size (.slice (some ⟨w.heap.size,0,none⟩) 0 0) []:=
 ⟨World.ownsRow_made w #[] 0 (Nat.le_refl _) (by simp [maxLen]) rfl,fun h=>by cases h⟩
theorem nX {wr:World} {ops:Array Oper} {rest:List Oper} {o:Oper} {a:Act} {Q:Exit->Act->World->Prop} (hgd:o.guard=none) (s x:Operand)
 (ho:o.op=.call { callee:=.builtin .append,args:=#[s,x],argTypes:=#[41,41] }) (base:Nat) (v:Value) (L:List Int) (z:Int) (hown:qj wr base v L) (hs:a.eval s=v) (hx:a.eval x=.slice (some ⟨wr.heap.size,0,none⟩) 1 1)
 (hlen:L.length<=10000000000) (hbase:base<=wr.heap.size)
 (h:∀ v' w',qj w' base v' (L++[z])->(∀ B w0,Below B w0 wr->B<=base->Below B w0 w')->wpList Tryz.prog ops Q rest (a.put o.dst v') w'):
 wpList Tryz.prog ops Q (o::rest) a (wr.alloc (.cells #[.int .i64 z] 3)):=by
 obtain ⟨i0,hi,hz0,hz1,hz2⟩:=info_parts Tryz.info3
 refine wpList_append_own _ hgd s x 41 ho base 3 i0 (.int .i64 0) 1 8 Tryz.underlying41 hi hz0 hz1 hz2 rfl (by decide) v L.length (L.map (Value.int .i64)) hs (hown.1.alloc _) ⟨wr.heap.size,0,none⟩ 1 1 [.int .i64 z] hx rfl (JN _ _)
  (fun u hu=>by simp at hu;subst hu;rfl) (by unfold maxLen;omega) (by omega) (by simp;omega) ?_
 intro v' w' h1 h2 h3
 refine h v' w' ⟨by simpa using h1,fun hh=>hown.2 (h3.1 hh).1⟩ (fun B w0 hb hB=>(hb.alloc (by omega) _).grown h2 (by simp;omega) (fun q hq=>?_))
 have:=(hown.1.lt q hq).1
 omega
set_option maxHeartbeats 1600000 in
set_option maxRecDepth 100000 in
theorem uJ (x y:Nat) (va vb:Value) (w:World) (ha:Big w va (dig x)) (hb:Big w vb (dig y)) (hl:(dig x).length<=100000000) (hyx:y<=x):
 Calls Tryz.prog 138 #[va,vb] w fun e w'=>∃ v',e=.returned v'/\Big w' v' (dig (x-y))/\Below w.heap.size w w':=by
 obtain ⟨g,cap,rfl,h2,h3,h4,h5⟩:=ha
 obtain ⟨g',cap',rfl,h2',h3',h4',h5'⟩:=hb
 unfold maxLen at h3 h3'
 have hll:=aQ hyx
 have Hx:=hide (Ch x)
 have Hy:=hide (mP y)
 have Hy2:=hide (Nat.lt_of_le_of_lt hyx (dR x))
 have Hyx:=hide hyx
 clear hyx
 generalize (dig x).length=len at *
 generalize hlen:(dig y).length=len' at *
 have Hlen:=hide hlen
 clear hlen
 go_enter Tryz.func138,Tryz.ntmps138
 go_wp2
 go_loopw [5,6,12] (fun o c i wr=>∃ (k bo:Nat) (L:List Int),k<=len/\i=.int .i64 k/\c=.int .i64 bo/\bo<=1/\L.length=k/\qj wr w.heap.size o L/\
  Ei L/\nval L+y%10000^k=x%10000^k+10000^k*bo/\Below w.heap.size w wr) (fun _ _ i _=>len-(intOf i).toNat)
 case atStart=>
  refine ⟨0,0,[],Nat.zero_le _,rfl,rfl,by omega,rfl,ny w,?_,?_,(Below.refl _ _).alloc (Nat.le_refl _) _⟩
  ·intro d hd;cases hd
  ·simp [nval,Nat.mod_one]
 case round=>
  obtain ⟨k,bo,L,hk,rfl,rfl,hbo,hLk,hown,hok,hval,hb⟩:=hrel
  have hbs:=hb.size
  by_cases hlt:k<len
  ·have hcx:wr.cell? ⟨g,k,none⟩=some (.int .i64 ((dig x).getD k 0)):=(hb.cell (by exact h4)).trans (h5 k (by omega))
   have hcy:k<len'->wr.cell? ⟨g',k,none⟩=some (.int .i64 ((dig y).getD k 0)):=fun hk'=>(hb.cell (by exact h4')).trans (h5' k hk')
   rw [jT] at hcx hcy
   have hyz:len'<=k->y/10000^k%10000=0:=fun hh=>by
    have:y/10000^k=0:=Nat.div_eq_of_lt (Nat.lt_of_lt_of_le (dR y) (by rw [Hlen.out];exact Nat.pow_le_pow_right (by omega) hh))
    omega
   have S:=fun d bo'=>@Af x y k bo _ _ d bo' L hLk rfl rfl hval
   have hdx:x/10000^k%10000<10000:=by omega
   have hdy:y/10000^k%10000<10000:=by omega
   generalize x/10000^k%10000=dx at *
   generalize y/10000^k%10000=dy at *
   have HS:=hide S
   have HLk:=hide hLk
   have Hyz:=hide hyz
   clear hval hLk S hyz h5 h5'
   obtain ⟨d,bo',hdd,hd1,hbo',hsg⟩:∃ d bo':Nat,(d:Int)+dy+bo=dx+10000*bo'/\d<10000/\bo'<=1/\(bo'=1↔(dx:Int)-bo-dy<0):=by
    by_cases hneg:(dx:Int)-bo-dy<0
    ·exact ⟨dx+10000-bo-dy,1,by omega,by omega,by omega,by omega⟩
    ·exact ⟨dx-bo-dy,0,by omega,by omega,by omega,by omega⟩
   have Hdd:=hide hdd
   have Hsg:=hide hsg
   clear hdd hsg
   by_cases hin:k<len'
   ·have hcy':=hcy hin
    by_cases hneg:(dx:Int)-bo-dy<0
    ·go_wp2_with (first
      |(at_builtin;(refine nX rfl _ _ rfl w.heap.size _ L ((dx:Int)-bo-dy+10000) hown rfl rfl (by have:=HLk.out;omega) hbs ?_;intro v' w1 hown' hgrow))
      |go_in)
     have hde:(dx:Int)-bo-dy+10000=((d:Nat):Int)/\bo'=1:=by have:=Hdd.out;have:=Hsg.out;omega
     have R:qj w1 w.heap.size v' (L++[(d:Int)])/\Below w.heap.size w w1:=⟨by rw [hde.1] at hown';exact hown',hgrow _ _ hb (Nat.le_refl _)⟩
     have T:=hide (HS.out d bo' (by have:=Hdd.out;omega))
     have Hbo:=hide hde.2
     clear hown' hgrow hown hde
     go_wp2
     go_roundw
     case rel=>exact ⟨k+1,bo',L++[(d:Int)],by omega,by go_num,by rw [Hbo.out];rfl,hbo',by have:=HLk.out;simp;omega,R.1,jM hok (by omega) (by omega),T.out,R.2⟩
     case measure=>simp [intOf];omega
    ·go_wp2_with (first
      |(at_builtin;refine nX rfl _ _ rfl w.heap.size _ L ((dx:Int)-bo-dy) hown rfl rfl (by have:=HLk.out;omega) hbs ?_;intro v' w1 hown' hgrow)
      |go_in)
     have hde:(dx:Int)-bo-dy=((d:Nat):Int)/\bo'=0:=by have:=Hdd.out;have:=Hsg.out;omega
     have R:qj w1 w.heap.size v' (L++[(d:Int)])/\Below w.heap.size w w1:=⟨by rw [hde.1] at hown';exact hown',hgrow _ _ hb (Nat.le_refl _)⟩
     have T:=hide (HS.out d bo' (by have:=Hdd.out;omega))
     have Hbo:=hide hde.2
     clear hown' hgrow hown hde
     go_wp2
     go_roundw
     case rel=>exact ⟨k+1,bo',L++[(d:Int)],by omega,by go_num,by rw [Hbo.out];rfl,hbo',by have:=HLk.out;simp;omega,R.1,jM hok (by omega) (by omega),T.out,R.2⟩
     case measure=>simp [intOf];omega
   ·have hdy0:=Hyz.out (by omega)
    subst hdy0
    by_cases hneg:(dx:Int)-bo<0
    ·go_wp2_with (first
      |(at_builtin;refine nX rfl _ _ rfl w.heap.size _ L ((dx:Int)-bo+10000) hown rfl rfl (by have:=HLk.out;omega) hbs ?_;intro v' w1 hown' hgrow)
      |go_in)
     have hde:(dx:Int)-bo+10000=((d:Nat):Int)/\bo'=1:=by have:=Hdd.out;have:=Hsg.out;omega
     have R:qj w1 w.heap.size v' (L++[(d:Int)])/\Below w.heap.size w w1:=⟨by rw [hde.1] at hown';exact hown',hgrow _ _ hb (Nat.le_refl _)⟩
     have T:=hide (HS.out d bo' (by have:=Hdd.out;omega))
     have Hbo:=hide hde.2
     clear hown' hgrow hown hde
     go_wp2
     go_roundw
     case rel=>exact ⟨k+1,bo',L++[(d:Int)],by omega,by go_num,by rw [Hbo.out];rfl,hbo',by have:=HLk.out;simp;omega,R.1,jM hok (by omega) (by omega),T.out,R.2⟩
     case measure=>simp [intOf];omega
    ·go_wp2_with (first
      |(at_builtin;refine nX rfl _ _ rfl w.heap.size _ L ((dx:Int)-bo) hown rfl rfl (by have:=HLk.out;omega) hbs ?_;intro v' w1 hown' hgrow)
      |go_in)
     have hde:(dx:Int)-bo=((d:Nat):Int)/\bo'=0:=by have:=Hdd.out;have:=Hsg.out;omega
     have R:qj w1 w.heap.size v' (L++[(d:Int)])/\Below w.heap.size w w1:=⟨by rw [hde.1] at hown';exact hown',hgrow _ _ hb (Nat.le_refl _)⟩
     have T:=hide (HS.out d bo' (by have:=Hdd.out;omega))
     have Hbo:=hide hde.2
     clear hown' hgrow hown hde
     go_wp2
     go_roundw
     case rel=>exact ⟨k+1,bo',L++[(d:Int)],by omega,by go_num,by rw [Hbo.out];rfl,hbo',by have:=HLk.out;simp;omega,R.1,jM hok (by omega) (by omega),T.out,R.2⟩
     case measure=>simp [intOf];omega
  ·have hkl:k=len:=by omega
   subst hkl
   have hv:nval L=x-y/\bo=0:=by
    rw [Hx.out,Nat.mod_eq_of_lt Hy2.out] at hval
    have h1:=Cb hok
    rw [hLk] at h1
    have h2:=Hyx.out
    have h3:=Hy2.out
    by_cases hb0:bo=0
    ·subst hb0;simp at hval;omega
    ·have:bo=1:=by omega
     subst this;omega
   have Hv:=hide hv.1
   have hbig:=hown.big
   clear hv hval
   go_wp2_with (go_at_call 135;refine (om L _ _ hbig (by omega) hok).mono ?_;rintro e w' ⟨v',rfl,hbig',rfl⟩)
   go_ret
   exact ⟨_,rfl,by rw [<-Hv.out];exact hbig',hb⟩
end Go.Proofs.YtjibjahfbblieaaGreatDoor.F
