import Derived.OwnWalk
import Derived.Test.YtamdnnkdnhkghaaGreatDoorQ28
set_option maxHeartbeats 12800000
set_option maxRecDepth 100000
set_option linter.unusedVariables false
namespace Go.Proofs.YtamdnnkdnhkghaaGreatDoor
open Go Go.RowKit
theorem eTxt_zero:eTxt 0 1 0=[]++[48]++[101]++[43]++[48,48]:=by decide
theorem zqm (base:Nat) (w w0:World) (v:Value) (he:Efg w0 base 0 [] w v []):
 Calls Tryz.prog 207 #[v,.bool false,.slice none 0 0,.int .i64 0,.int .i64 0,.int .i64 0,.int .u8 101,.bool false] w fun r w'=>∃ v',r=.returned v'/\Efg w0 base 0 [] w' v' (eTxt 0 1 0):=by
 rw [eTxt_zero]
 go_enter Tryz.func207,Tryz.ntmps207
 go_wp2_with (first |(at_builtin;(first |(refine zaG _ (by assumption) rfl _ _ rfl rfl rfl (by first |(simp;done)|(simp;omega)|(simp [zaa];done)|(simp [zaa];omega)) ?_;intro zv9 zw9 zh9)|(refine zaX _ _ (by assumption) rfl _ _ rfl rfl rfl (by first |(simp;done)|(simp;omega)|(simp [zaa];done)|(simp [zaa];omega)) ?_;intro zv9 zw9 zh9)|(refine zav _ _ _ (by assumption) rfl _ _ rfl rfl rfl (by first |(simp;done)|(simp;omega)|(simp [zaa];done)|(simp [zaa];omega)) ?_;intro zv9 zw9 zh9)))|go_in)
 go_ret
 exact ⟨_,rfl,by assumption⟩
theorem zmi (base:Nat) (v:Value) (w:World) (hown:OwnB w base v []) (hbase:base<=w.heap.size) (hb0:0<base):
 Calls Tryz.prog 182 #[v,.float .f64 0,.int .u8 101,.int .i64 0] w fun e w'=>∃ v',e=.returned v'/\OwnB w' base v' (eTxt 0 1 0)/\Below base w w':=by
 have hfb:=zdm 0
 have e1:bits .and .u64 0 4503599627370495=0:=by decide+kernel
 have e3:bits .and .i64 0 2047=0:=by decide+kernel
 have He:Hid (∀ m,Efg w base 0 [] (w.drewN m) v []):=hide (fun m=>⟨hown.below (zag (Below.refl _ _) m),fun hh=>by have:=(hown.1.lt _ hh).1;omega,by simp;omega,fun j hj=>by simp at hj,by simpa using hbase,(zag (Below.refl _ _) m).mono hbase⟩)
 clear hown
 go_enter Tryz.func182,Tryz.ntmps182
 go_wp2_with fail
 go_quiet (fail)
 go_wp2_with fail
 refine (zqm base _ w v (He.out _)).mono ?_
 rintro e w3 ⟨v3,rfl,he3⟩
 have H3:=hide he3
 clear he3
 go_wp2
 go_ret
 exact ⟨v3,rfl,H3.out.own,H3.out.bel⟩
def xR (r:Nat):Nat:=wM r*2^(64-Lib.bitLen (wM r))
def eR (r:Nat):Int:=wE r-(64-(Lib.bitLen (wM r):Int))
structure FEnv (w:World):Prop where
 sz:21<w.heap.size
 rows:∀ i,i<696->w.cell? ⟨20,i*2,none⟩=some (.int .u64 ((Go.Pinned.pow10Rows.getD i (0,0)).1:Nat))/\w.cell? ⟨20,i*2+1,none⟩=some (.int .u64 ((Go.Pinned.pow10Rows.getD i (0,0)).2:Nat))
 opt:w.cell? ⟨12,0,none⟩=some (.bool true)
 tab:Lib.TabIs Tryz.prog w "internal/strconv.uint64pow10" .u64 Lib.pow10Tab
theorem FEnv.below {w w':World} (h:FEnv w) (hb:Below w.heap.size w w'):FEnv w':=by
 have h1:=h.sz
 have h2:=hb.size
 exact ⟨by omega,fun i hi=>⟨(hb.cell (by show 20<_;omega)).trans (h.rows i hi).1,(hb.cell (by show 20<_;omega)).trans (h.rows i hi).2⟩,(hb.cell (by show 12<_;omega)).trans h.opt,zga h.tab (by omega) hb⟩
theorem FEnv.ten {w:World} (h:FEnv w) {n:Nat} (hn:n<=17):w.cell? ⟨6,n,none⟩=some (.int .u64 ((10^n:Nat):Int)):=by
 have:=h.tab.cell (by kernel_rfl:Tryz.prog.globalNamed "internal/strconv.uint64pow10" =some 6) n (by show n<20;omega)
 rw [this,Lib.pow10Tab_at n (by omega)]
theorem zq6 {r:Nat} (h:0<r):0<wM r:=by unfold wM;split<;>omega
theorem zfe {r:Nat} (h0:0<r) (hr:r<infW):(∃ y,xR r=2048*y)/\9223372036854775808<=xR r/\xR r<18446744073709551616/\1<=Lib.bitLen (wM r)/\Lib.bitLen (wM r)<=53/\ -1074<=eR r+63/\eR r+63<=1023:=by
 have hM:=wM_lt r
 have hM0:=zq6 h0
 obtain ⟨b1,b2,b3⟩:=zcO (wM r) (by omega) (by omega)
 have hk:=wK_lt hr
 have hE:eR r=(wK r:Int)-1074-(64-(Lib.bitLen (wM r):Int)):=rfl
 have hb53:Lib.bitLen (wM r)<=53:=by
  have h2:2^(Lib.bitLen (wM r)-1)<2^53:=Nat.lt_of_le_of_lt b2 hM
  have:=(Nat.pow_lt_pow_iff_right (by omega)).1 h2
  omega
 unfold xR
 generalize Lib.bitLen (wM r)=b at *
 refine ⟨⟨wM r*2^(53-b),?_⟩,?_,?_,b1,hb53,by omega,by omega⟩
 ·have e:64-b=11+(53-b):=by omega
  rw [e,Nat.pow_add]
  generalize 2^(53-b)=z
  have:(2:Nat)^11=2048:=rfl
  rw [this]
  grind
 ·have h1:2^(b-1)*2^(64-b)<=wM r*2^(64-b):=Nat.mul_le_mul_right _ b2
  rw [<-Nat.pow_add] at h1
  have e:b-1+(64-b)=63:=by omega
  rw [e] at h1
  exact h1
 have h1:wM r*2^(64-b)<2^b*2^(64-b):=Nat.mul_lt_mul_of_pos_right b3 (Nat.pow_pos (by omega))
 rw [<-Nat.pow_add] at h1
 have e:b+(64-b)=64:=by omega
 rw [e] at h1
 exact h1
theorem znM {M b x:Nat} (h:M*2^(64-b)=x) (hx:x<18446744073709551616):IntKind.u64.wrap ((M:Int)*2^(64-b))=(x:Int):=by
 have e:(M:Int)*2^(64-b)=(x:Int):=by rw [<-h];push_cast;rfl
 rw [e,IntKind.wrap_u64]
 omega
theorem zoR (r n base:Nat) (v:Value) (w:World) (h0:0<r) (hr:r<infW) (hn1:1<=n) (hn2:n<=17) (hF:FEnv w) (hown:OwnB w base v []) (hbase:base<=w.heap.size):
 Calls Tryz.prog 182 #[v,.float .f64 r,.int .u8 101,.int .i64 ((n:Int)-1)] w fun e w'=>FtoR (xR r) n (eR r) base w e w':=by
 obtain ⟨⟨y,hy⟩,hx1,hx2,b1,b2,hE1,hE2⟩:=zfe h0 hr
 have HF:Hid (∀ w1:World,Below w.heap.size w w1->Calls Tryz.prog 210 #[.int .u64 (xR r),.int .i64 (eR r),.int .i64 n,.int .i64 ((n:Int)-1),.int .u8 101] w1 fun e w'=>∃ (d:Nat) (q:Int),e=.returned (.tuple #[.int .u64 d,.int .i64 (-q)])/\FixW (xR r) n (eR r) d q/\Below w1.heap.size w1 w'):=hide (fun w1 hb=>by
  have hF1:=hF.below hb
  exact zlR (xR r) y n (eR r) _ w1 hy hx1 hx2 hE1 hE2 hn1 hn2 (by have:=hF1.sz;omega) hF1.rows (hF1.ten hn2))
 by_cases hs:r<4503599627370496
 ·have hM:wM r=r:=by unfold wM;rw [if_pos hs]
  have hx:r*2^(64-Lib.bitLen r)=xR r:=by unfold xR;rw [hM]
  have hk:wK r=0:=by unfold wK;omega
  rw [hM] at b1 b2
  refine zqb r n (Lib.bitLen r) (xR r) base (eR r) v w h0 hs hn1 hn2 (hide rfl) b1 b2 (hide (znM hx hx2)) (hide ?_) HF hE1 hE2 hown hbase hF.opt hF.sz hF.tab
  unfold eR wE
  rw [hM,hk]
  omega
 have hM:wM r=r%4503599627370496+4503599627370496:=by unfold wM;rw [if_neg hs]
 have hx:(r%4503599627370496+4503599627370496)*2^(64-Lib.bitLen (r%4503599627370496+4503599627370496))=xR r:=by unfold xR;rw [hM]
 have hk:wK r=r/4503599627370496-1:=rfl
 have hinf:infW=9218868437227405312:=rfl
 rw [hM] at b1 b2
 refine zqx r (wK r) (r%4503599627370496) n (Lib.bitLen (r%4503599627370496+4503599627370496)) (xR r) base (eR r) v w (hide ?_) ?_ (by omega) hn1 hn2 (hide rfl) b1 b2 (hide (znM hx hx2)) (hide ?_) HF hE1 hE2 hown hbase hF.opt hF.sz hF.tab
 ·omega
 ·omega
 unfold eR wE
 rw [hM]
 omega
def txtB (L:List Int):List UInt8:=L.map fun z=>UInt8.ofNat z.toNat
theorem zfU {L:List Int} (h:∀ z∈L,0<=z/\z<256):(txtB L).map (fun b=>((b.toNat:Nat):Int))=L:=by
 unfold txtB
 rw [List.map_map]
 conv=>rhs;rw [<-List.map_id L]
 refine List.map_congr_left (fun z hz=>?_)
 have:=h z hz
 simp only [Function.comp,id]
 rw [UInt8.toNat_ofNat']
 omega
theorem zh0 {k:Nat} (hk:k<1000):∀ z∈expL k,48<=z/\z<=57:=by
 unfold expL
 split
 ·intro z hz;simp at hz;omega
 split
 ·intro z hz;simp at hz;omega
 intro z hz;simp at hz;omega
theorem zcd {d n:Nat}:∀ z∈digL d n,48<=z/\z<=57:=by
 intro z hz
 unfold digL at hz
 rw [List.mem_map] at hz
 obtain ⟨j,_,rfl⟩:=hz
 exact zcf d n j
theorem zgS {d n:Nat}:∀ z∈mantL d n,(48<=z/\z<=57)∨z=46:=by
 intro z hz
 unfold mantL at hz
 rw [List.mem_append] at hz
 rcases hz with hz|hz
 ·have:z=dgA d n 0:=by simpa using hz
  subst this
  exact .inl (zcf d n 0)
 split at hz
 ·cases hz
 rcases List.mem_cons.1 hz with hz|hz
 ·exact .inr hz
 exact .inl (zcd z (List.mem_of_mem_drop hz))
theorem zio {d n:Nat} {X:Int} (h1: -400<=X) (h2:X<=400):∀ z∈eTxt d n X,0<=z/\z<256:=by
 intro z hz
 unfold eTxt at hz
 rw [List.mem_append,List.mem_append] at hz
 rcases hz with (hz|hz)|hz
 ·rcases zgS z hz with h|h<;>omega
 ·simp at hz
  split at hz<;>omega
 have:=zh0 (k:=X.natAbs) (by omega) z hz
 omega
def eStr (d n:Nat) (X:Int):ByteArray:=⟨(txtB (eTxt d n X)).toArray⟩
theorem ziy {w:World} {v:Value} {d n:Nat} {X:Int} (h1: -400<=X) (h2:X<=400) (h:Byt w v (eTxt d n X)):(convert 29 9 v).run Tryz.prog w=.ok (.string (eStr d n X)) w:=by
 refine zdB ?_
 rw [zfU (zio h1 h2)]
 exact h
def FfR (r n:Nat) (w:World) (e:Ending) (w':World):Prop:=
 ∃ d q,e=.returned (.string (eStr d n ((n:Int)-1-q)))/\FixW (xR r) n (eR r) d q/\Below w.heap.size w w'
theorem zsp (r n:Nat) (w:World) (h0:0<r) (hr:r<infW) (hn1:1<=n) (hn2:n<=17) (hF:FEnv w):
 Calls Tryz.prog 145 #[.float .f64 r,.int .u8 101,.int .i64 ((n:Int)-1),.int .i64 64] w fun e w'=>FfR r n w e w':=by
 obtain ⟨i0,hi,hz0,hz1,hz2⟩:=info_parts Tryz.info5
 have hmax:max ((n:Int)-1+4) 24=24:=by omega
 have Hx:=zfe h0 hr
 have HF:=hide (fun w1 (hb:Below w.heap.size w w1) (v:Value) (hown:OwnB w1 w.heap.size v [])=>zoR r n w.heap.size v w1 h0 hr hn1 hn2 (hF.below hb) hown hb.size)
 clear hF
 go_enter Tryz.func145,Tryz.ntmps145
 go_wp2_with (first
  |(at_make;(refine wpList_make_own _ rfl _ _ _ rfl w.heap.size 5 i0 (.int .u8 0) 1 Tryz.underlying29 hi hz0 hz1 _ _ _ 24 rfl rfl rfl (by rw [hz2];omega) (by unfold maxLen;omega) (Nat.le_refl _) ?_;intro w1 hrow hgr))
  |fail)
 have hb:Below w.heap.size w w1:=(Below.refl _ _).grown hgr (Nat.le_refl _) (fun q hq=>by cases hq)
 have Hb:=hide hb
 refine (HF.out w1 hb _ ⟨by simpa using hrow,fun h=>by cases h⟩).mono ?_
 clear hb hrow hgr HF
 rintro e w2 ⟨v2,d,q,rfl,hfix,hown,hb2⟩
 have hX:=fix_X hfix Hx.2.2.2.2.2.1 Hx.2.2.2.2.2.2
 have hcv:=ziy hX.1 hX.2 hown.byt
 have Hfix:=hide hfix
 have Hb2:=hide hb2
 clear hfix hown hb2 hX Hx
 go_wp2
 go_ret
 exact ⟨d,q,rfl,Hfix.out,Hb.out.trans Hb2.out⟩
theorem zu3 (r n:Nat) (w:World) (h0:0<r) (hr:r<infW) (hn1:1<=n) (hn2:n<=17) (hF:FEnv w):
 Calls Tryz.prog 95 #[.float .f64 r,.int .u8 101,.int .i64 ((n:Int)-1),.int .i64 64] w fun e w'=>FfR r n w e w':=by
 have H:=hide (zsp r n w h0 hr hn1 hn2 hF)
 clear hF
 go_enter Tryz.func95,Tryz.ntmps95
 go_wp2_with fail
 refine H.out.mono ?_
 rintro e w2 ⟨d,q,rfl,hfix,hb2⟩
 have Hfix:=hide hfix
 have Hb2:=hide hb2
 clear hfix hb2
 go_wp2
 go_ret
 exact ⟨d,q,rfl,Hfix.out,Hb2.out⟩
theorem zpr (w:World) (hs:0<w.heap.size):
 Rb 145 #[.float .f64 0,.int .u8 101,.int .i64 0,.int .i64 64] w (.string (eStr 0 1 0)):=by
 obtain ⟨i0,hi,hz0,hz1,hz2⟩:=info_parts Tryz.info5
 have HF:=hide (fun w1 (hb:Below w.heap.size w w1) (v:Value) (hown:OwnB w1 w.heap.size v [])=>zmi w.heap.size v w1 hown hb.size hs)
 go_enter Tryz.func145,Tryz.ntmps145
 go_wp2_with (first
  |(at_make;(refine wpList_make_own _ rfl _ _ _ rfl w.heap.size 5 i0 (.int .u8 0) 1 Tryz.underlying29 hi hz0 hz1 _ _ _ 24 rfl rfl rfl (by rw [hz2];omega) (by unfold maxLen;omega) (Nat.le_refl _) ?_;intro w1 hrow hgr))
  |fail)
 have hb:Below w.heap.size w w1:=(Below.refl _ _).grown hgr (Nat.le_refl _) (fun q hq=>by cases hq)
 have Hb:=hide hb
 refine (HF.out w1 hb _ ⟨by simpa using hrow,fun h=>by cases h⟩).mono ?_
 clear hb hrow hgr HF
 rintro e w2 ⟨v2,rfl,hown,hb2⟩
 have hcv:=ziy (by decide) (by decide) hown.byt
 have Hb2:=hide hb2
 clear hown hb2
 go_wp2
 go_ret
 exact ⟨rfl,Hb.out.trans Hb2.out⟩
theorem zr6 (w:World) (hs:0<w.heap.size):
 Rb 95 #[.float .f64 0,.int .u8 101,.int .i64 0,.int .i64 64] w (.string (eStr 0 1 0)):=by
 have H:=hide (zpr w hs)
 go_enter Tryz.func95,Tryz.ntmps95
 go_wp2_with fail
 refine rb H.out fun w2 hb2=>?_
 have Hb2:=hide hb2
 clear hb2
 go_wp2
 go_ret
 exact ⟨rfl,Hb2.out⟩
def gA (V:Nat) (p:Int):Nat:=V*10^p.toNat
def gB (c:Nat) (p:Int):Nat:=2^c*10^(-p).toNat
theorem zc5 (c:Nat) (p:Int):0<gB c p:=Nat.mul_pos (Nat.pow_pos (by omega)) (Nat.pow_pos (by omega))
structure Fmt (V c n d:Nat) (q:Int):Prop where
 lo:10^(n-1)<=d
 hi:d<10^n
 val:∃ p:Int,10^(n-1)*gB c p<=gA V p/\gA V p<10^n*gB c p/\((q=p/\d=rq (gA V p) (gB c p))∨(q=p-1/\d=10^(n-1)/\rq (gA V p) (gB c p)=10^n))
theorem zrb (V c:Nat) {p p':Int} (h:p<=p'):gA V p*10^(p'-p).toNat*gB c p'=gA V p'*gB c p:=by
 unfold gA gB
 have e:p.toNat+(p'-p).toNat+(-p').toNat=p'.toNat+(-p).toNat:=by omega
 have e2:10^p.toNat*10^(p'-p).toNat*10^(-p').toNat=10^p'.toNat*10^(-p).toNat:=by rw [<-Nat.pow_add,<-Nat.pow_add,<-Nat.pow_add,e]
 generalize 10^p.toNat=a1 at *
 generalize 10^(p'-p).toNat=a2 at *
 generalize 10^(-p').toNat=a3 at *
 generalize 10^p'.toNat=a4 at *
 generalize 10^(-p).toNat=a5 at *
 generalize 2^c=z
 calc V*a1*a2*(z*a3)=V*z*(a1*a2*a3):=by grind
  _=V*z*(a4*a5):=by rw [e2]
  _=V*a4*(z*a5):=by grind
theorem g_ten (V c:Nat) (q:Int):gA V q*(10*gB c (q+1))=gA V (q+1)*gB c q:=by
 have:=zrb V c (p:=q) (p':=q+1) (by omega)
 have e:(q+1-q).toNat=1:=by omega
 rw [e,Nat.pow_one] at this
 rw [<-Nat.mul_assoc]
 exact this
theorem zeQ {n:Nat} (h:1<=n):10^n=10*10^(n-1):=by
 obtain ⟨j,rfl⟩:∃ j,n=j+1:=⟨n-1,by omega⟩
 rw [Nat.pow_succ,Nat.add_sub_cancel];omega
theorem p_lt {V c n:Nat} {p p':Int} (hn:1<=n) (h1:10^(n-1)*gB c p<=gA V p) (h2:gA V p'<10^n*gB c p'):¬ p<p':=by
 intro h
 have hs:=zrb V c (p:=p) (p':=p') (by omega)
 have h10:10^1<=10^(p'-p).toNat:=Nat.pow_le_pow_right (by omega) (by omega)
 have hn10:=zeQ hn
 have hB:=zc5 c p
 have hB':=zc5 c p'
 generalize 10^(p'-p).toNat=t at *
 rw [hn10] at h2
 generalize 10^(n-1)=z at *
 generalize gA V p=A at *
 generalize gA V p'=A' at *
 generalize gB c p=B at *
 generalize gB c p'=B' at *
 have a1:A'*B<10*z*B'*B:=Nat.mul_lt_mul_of_pos_right h2 hB
 rw [<-hs] at a1
 have a2:z*B*10<=A*t:=Nat.mul_le_mul h1 h10
 have a3:z*B*10*B'<=A*t*B':=Nat.mul_le_mul_right _ a2
 have e:z*B*10*B'=10*z*B'*B:=by grind
 omega
theorem Fmt.unique {V c n d d':Nat} {q q':Int} (hn:1<=n) (h:Fmt V c n d q) (h':Fmt V c n d' q'):d=d'/\q=q':=by
 obtain ⟨p,a1,a2,a3⟩:=h.val
 obtain ⟨p',b1,b2,b3⟩:=h'.val
 have hp:p=p':=by
  have:=p_lt hn a1 b2
  have:=p_lt hn b1 a2
  omega
 subst hp
 have hlt:=h.hi
 have hlt':=h'.hi
 rcases a3 with ⟨q1,d1⟩|⟨q1,d1,r1⟩<;>rcases b3 with ⟨q2,d2⟩|⟨q2,d2,r2⟩
 ·exact ⟨by rw [d1,d2],by rw [q1,q2]⟩
 ·omega
 ·omega
 exact ⟨by rw [d1,d2],by rw [q1,q2]⟩
theorem zff {A B A' B' k:Nat} (hB:0<B) (h:A*B'=A'*B) (hk:k*B<=A):k*B'<=A':=by
 have h1:k*B*B'<=A*B':=Nat.mul_le_mul_right _ hk
 rw [h] at h1
 have e:k*B*B'=k*B'*B:=by grind
 rw [e] at h1
 exact Nat.le_of_mul_le_mul_right h1 hB
theorem zdx {A B A' B' k:Nat} (hB:0<B) (hB':0<B') (h:A*B'=A'*B) (hk:A<k*B):A'<k*B':=by
 have h1:A*B'<k*B*B':=Nat.mul_lt_mul_of_pos_right hk hB'
 rw [h] at h1
 have e:k*B*B'=k*B'*B:=by grind
 rw [e] at h1
 exact Nat.lt_of_mul_lt_mul_right h1
theorem xv {r c:Nat} (hc:c=1074):xR r*2^(eR r).toNat*2^c=wV r*2^(-(eR r)).toNat:=by
 have hb:Lib.bitLen (wM r)<=64:=by
  by_cases h:wM r=0
  ·rw [h];decide
  exact zfS _ h (by have:=wM_lt r;omega)
 unfold xR wV
 have e:64-Lib.bitLen (wM r)+(eR r).toNat+c=wK r+(-(eR r)).toNat:=by unfold eR wE;omega
 rw [Nat.mul_assoc,Nat.mul_assoc,<-Nat.pow_add,<-Nat.pow_add,Nat.mul_assoc,<-Nat.pow_add,<-e]
 congr 2
 omega
theorem fg {r c:Nat} (hc:c=1074) (q:Int):fA (xR r) (eR r) q*gB c q=gA (wV r) q*fB (eR r) q:=by
 have h:=xv (r:=r) hc
 unfold fA fB gA gB
 generalize 2^(eR r).toNat=a at *
 generalize 2^(-(eR r)).toNat=b at *
 generalize 2^c=z at *
 generalize 10^q.toNat=t
 generalize 10^(-q).toNat=u
 calc xR r*t*a*(z*u)=(xR r*a*z)*(t*u):=by grind
  _=(wV r*b)*(t*u):=by rw [h]
  _=wV r*t*(u*b):=by grind
theorem FixW.fmt {r n d c:Nat} {q:Int} (hc:c=1074) (h0:0<r) (hr:r<infW) (hn:1<=n) (h:FixW (xR r) n (eR r) d q):Fmt (wV r) c n d q:=by
 obtain ⟨_,hx1,hx2,_,_,hE1,hE2⟩:=zfe h0 hr
 have hlow:=zhT (n:=n) (E:=eR r) hn hE1 hE2 hx1
 have hupp:=ziO (n:=n) (E:=eR r) hn hE1 hE2 hx2
 have hn10:=zeQ hn
 refine ⟨h.lo,h.hi,?_⟩
 rcases h.val with ⟨hq,hd⟩|⟨hq,hd,hge⟩
 ·rw [<-hq] at hlow hupp
  have hf:=fg (r:=r) hc q
  have hfB:=zj5 (eR r) q
  have hgB:=zc5 c q
  have hrq:rq (fA (xR r) (eR r) q) (fB (eR r) q)=rq (gA (wV r) q) (gB c q):=zc1 hfB hgB hf
  refine ⟨q,zff hfB hf hlow,zdx hfB hgB hf ?_,.inl ⟨rfl,by rw [hd,hrq]⟩⟩
  have:=h.hi
  rw [hd] at this
  rw [Nat.mul_comm]
  exact rq_lt hfB this
 have hp:fpP n (eR r+63)=q+1:=by omega
 rw [hp] at hlow hupp
 have hf:=fg (r:=r) hc (q+1)
 have hfB:=zj5 (eR r) (q+1)
 have hgB:=zc5 c (q+1)
 have hgq:=zc5 c q
 have ht:=g_ten (wV r) c q
 have hrq:rq (fA (xR r) (eR r) (q+1)) (fB (eR r) (q+1))=rq (gA (wV r) (q+1)) (gB c (q+1)):=zc1 hfB hgB hf
 have hrq10:rq (fA (xR r) (eR r) (q+1)) (10*fB (eR r) (q+1))=rq (gA (wV r) q) (gB c q):=by
  refine zc1 (Nat.mul_pos (by omega) hfB) hgq ?_
  have h1:fA (xR r) (eR r) (q+1)*gB c q*gB c (q+1)=gA (wV r) q*(10*fB (eR r) (q+1))*gB c (q+1):=by
   calc fA (xR r) (eR r) (q+1)*gB c q*gB c (q+1)=(fA (xR r) (eR r) (q+1)*gB c (q+1))*gB c q:=by grind
    _=(gA (wV r) (q+1)*fB (eR r) (q+1))*gB c q:=by rw [hf]
    _=(gA (wV r) (q+1)*gB c q)*fB (eR r) (q+1):=by grind
    _=(gA (wV r) q*(10*gB c (q+1)))*fB (eR r) (q+1):=by rw [ht]
    _=gA (wV r) q*(10*fB (eR r) (q+1))*gB c (q+1):=by grind
  exact Nat.eq_of_mul_eq_mul_right hgB h1
 by_cases hbig:10^n*gB c (q+1)<=gA (wV r) (q+1)
 ·refine ⟨q,?_,?_,.inl ⟨rfl,by rw [hd,hrq10]⟩⟩
  ·refine zff (A:=gA (wV r) (q+1)) (B:=10*gB c (q+1)) (Nat.mul_pos (by omega) hgB) ?_ ?_
   ·exact ht.symm
   rw [hn10] at hbig
   have e:10^(n-1)*(10*gB c (q+1))=10*10^(n-1)*gB c (q+1):=by grind
   rw [e];exact hbig
  have hu:gA (wV r) (q+1)<2*10^n*gB c (q+1):=zdx hfB hgB hf hupp
  have hu2:gA (wV r) q<2*10^(n-1)*gB c q:=by
   refine zdx (A:=gA (wV r) (q+1)) (B:=10*gB c (q+1)) (Nat.mul_pos (by omega) hgB) hgq ht.symm ?_
   rw [hn10] at hu
   have e:2*10^(n-1)*(10*gB c (q+1))=2*(10*10^(n-1))*gB c (q+1):=by grind
   rw [e];exact hu
  refine Nat.lt_of_lt_of_le hu2 (Nat.mul_le_mul_right _ ?_)
  omega
 have hlt:gA (wV r) (q+1)<10^n*gB c (q+1):=by omega
 refine ⟨q+1,zff hfB hf hlow,hlt,.inr ⟨by omega,?_,?_⟩⟩
 ·have h1:=h.lo
  have h2:d<=10^(n-1):=by
   rw [hd,hrq10]
   refine rq_le hgq ?_
   have:=zdx (A:=gA (wV r) (q+1)) (B:=10*gB c (q+1)) (k:=10^(n-1)) (Nat.mul_pos (by omega) hgB) hgq ht.symm (by
    rw [hn10] at hlt
    have e:10^(n-1)*(10*gB c (q+1))=10*10^(n-1)*gB c (q+1):=by grind
    rw [e];exact hlt)
   rw [Nat.mul_comm]
   exact Nat.le_of_lt this
  omega
 have h1:rq (gA (wV r) (q+1)) (gB c (q+1))<=10^n:=rq_le hgB (by rw [Nat.mul_comm];exact Nat.le_of_lt hlt)
 rw [hrq] at hge
 omega
theorem zkk {A B k:Nat} (hB:0<B) (h:rq A B<=k):2*A<=(2*k)*B+B:=by
 have hd:=Nat.div_add_mod A B
 have hm:=Nat.mod_lt A hB
 unfold rq at h
 split at h
 ·have h1:A/B+1<=k:=h
  have h3:(2*(A/B+1))*B<=(2*k)*B:=Nat.mul_le_mul_right _ (by omega)
  have h4:(2*(A/B+1))*B=2*(B*(A/B))+2*B:=by grind
  omega
 rename_i hc
 have h1:A/B<=k:=h
 have h3:(2*(A/B))*B<=(2*k)*B:=Nat.mul_le_mul_right _ (by omega)
 have h4:(2*(A/B))*B=2*(B*(A/B)):=by grind
 omega
theorem zjD {A S M:Nat} (hS:0<S) (h1:2*A<2*(M*S)+S) (h2:2*(M*S)<2*A+S):rq A S=M:=by
 have hd:=Nat.div_add_mod A S
 have hm:=Nat.mod_lt A hS
 by_cases h:M*S<=A
 ·have hq:A/S=M:=by
   refine Nat.div_eq_of_lt_le h ?_
   rw [Nat.add_mul,Nat.one_mul]
   omega
  unfold rq
  rw [hq] at hd ⊢
  rw [Nat.mul_comm S M] at hd
  rw [if_neg (by omega)]
  omega
 obtain ⟨j,rfl⟩:∃ j,M=j+1:=⟨M-1,by
  rcases Nat.eq_zero_or_pos M with e|e
  ·rw [e,Nat.zero_mul] at h;omega
  omega⟩
 rw [Nat.add_mul,Nat.one_mul] at h h1 h2
 have hq:A/S=j:=by
  refine Nat.div_eq_of_lt_le (by omega) ?_
  rw [Nat.add_mul,Nat.one_mul]
  omega
 unfold rq
 rw [hq] at hd ⊢
 rw [Nat.mul_comm S j] at hd
 rw [if_pos (by left;omega)]
theorem zsv (r:Nat):r=wK r*4503599627370496+wM r:=by
 unfold wK wM
 split<;>omega
theorem zu6 {r:Nat}:wK r=0∨4503599627370496<=wM r:=by
 unfold wK wM
 split
 ·left;omega
 right;omega
theorem zkF {A B r:Nat} (h0:0<r) (hr:r<infW) (hB:0<B) (h1:18014398509481984*A<18014398509481985*(wV r*B)) (h2:18014398509481983*(wV r*B)<18014398509481984*A):IsRnd A B r:=by
 have hM:=wM_lt r
 have hM0:=zq6 h0
 have hw:=zsv r
 have hbig:=zu6 (r:=r)
 unfold wV at h1 h2
 generalize wM r=M at *
 generalize wK r=k at *
 have hT:0<2^k:=Nat.pow_pos (by omega)
 have e0:M*2^k*B=M*(B*2^k):=by rw [Nat.mul_assoc,Nat.mul_comm (2^k)]
 rw [e0] at h1 h2
 have hS:0<B*2^k:=Nat.mul_pos hB hT
 have e53:B*2^(53+k)=9007199254740992*(B*2^k):=by rw [Nat.pow_add];grind
 have e52:B*2^(52+k)=4503599627370496*(B*2^k):=by rw [Nat.pow_add];grind
 have hMS:M*(B*2^k)<=9007199254740991*(B*2^k):=Nat.mul_le_mul_right _ (by omega)
 by_cases hc:k=0∨B*2^(52+k)<=A
 ·refine ⟨k,?_,hc,?_⟩
  ·rw [e53];generalize B*2^k=S at *;generalize M*S=X at *;omega
  have:rq A (B*2^k)=M:=by
   generalize B*2^k=S at *
   refine zjD hS ?_ ?_
   ·generalize M*S=X at *;omega
   generalize M*S=X at *;omega
  rw [this,<-hw,Nat.min_eq_left (Nat.le_of_lt hr)]
 have hk:k≠0:=fun h=>hc (.inl h)
 have hA:A<4503599627370496*(B*2^k):=by rw [<-e52];exact Nat.lt_of_not_le (fun h=>hc (.inr h))
 have hM52:M=4503599627370496:=by
  have hge:4503599627370496<=M:=by omega
  rcases Nat.lt_or_ge 4503599627370496 M with hlt|hlt
  ·exfalso
   have:4503599627370497*(B*2^k)<=M*(B*2^k):=Nat.mul_le_mul_right _ hlt
   generalize B*2^k=S at *
   generalize M*S=X at *
   omega
  omega
 obtain ⟨j,rfl⟩:∃ j,k=j+1:=⟨k-1,by omega⟩
 subst hM52
 have e:B*2^(j+1)=2*(B*2^j):=by rw [Nat.pow_succ];grind
 have f53:B*2^(53+j)=9007199254740992*(B*2^j):=by rw [Nat.pow_add];grind
 have f52:B*2^(52+j)=4503599627370496*(B*2^j):=by rw [Nat.pow_add];grind
 rw [e] at hA h1 h2 hS
 refine ⟨j,?_,.inr ?_,?_⟩
 ·rw [f53];omega
 ·rw [f52];omega
 have:rq A (B*2^j)=9007199254740992:=by
  generalize B*2^j=S at *
  refine zjD (by omega) ?_ ?_
  ·omega
  omega
 rw [this]
 have:j*4503599627370496+9007199254740992=r:=by omega
 rw [this,Nat.min_eq_left (Nat.le_of_lt hr)]
theorem Fmt.err {V c n d:Nat} {q:Int} (hn:1<=n) (h:Fmt V c n d q):2*(d*gB c q)<=2*gA V q+gB c q/\2*gA V q<=2*(d*gB c q)+gB c q/\20*(10^(n-1)*gB c q)<=20*gA V q+gB c q:=by
 obtain ⟨p,a1,a2,a3⟩:=h.val
 rcases a3 with ⟨rfl,hd⟩|⟨hq,hd,hr⟩
 ·have hB:=zc5 c q
  have h1:=zho hB (show d<=rq (gA V q) (gB c q) by omega)
  have h2:=zkk hB (show rq (gA V q) (gB c q)<=d by omega)
  rw [Nat.mul_assoc] at h1 h2
  refine ⟨h1,h2,?_⟩
  omega
 have hp:p=q+1:=by omega
 subst hp
 have hB:=zc5 c (q+1)
 have hBq:=zc5 c q
 have ht:=g_ten V c q
 have h1:=zho hB (show 10^n<=rq (gA V (q+1)) (gB c (q+1)) by omega)
 rw [zeQ hn] at h1 a2
 rw [<-hd] at h1 a2 ⊢
 have h3:gA V q<d*gB c q:=by
  refine zdx (A:=gA V (q+1)) (B:=10*gB c (q+1)) (Nat.mul_pos (by omega) hB) hBq ht.symm ?_
  have e:d*(10*gB c (q+1))=10*d*gB c (q+1):=by grind
  rw [e];exact a2
 have h4:20*(d*gB c q)<=20*gA V q+gB c q:=by
  have m1:(2*(10*d)*gB c (q+1))*gB c q<=(2*gA V (q+1)+gB c (q+1))*gB c q:=Nat.mul_le_mul_right _ h1
  have m2:(2*gA V (q+1)+gB c (q+1))*gB c q=(20*gA V q+gB c q)*gB c (q+1):=by
   calc (2*gA V (q+1)+gB c (q+1))*gB c q=2*(gA V (q+1)*gB c q)+gB c (q+1)*gB c q:=by grind
    _=2*(gA V q*(10*gB c (q+1)))+gB c (q+1)*gB c q:=by rw [ht]
    _=(20*gA V q+gB c q)*gB c (q+1):=by grind
  have m3:(2*(10*d)*gB c (q+1))*gB c q=20*(d*gB c q)*gB c (q+1):=by grind
  rw [m2,m3] at m1
  exact Nat.le_of_mul_le_mul_right m1 hB
 refine ⟨by omega,by omega,h4⟩
theorem zjK {d r c:Nat} {q:Int} (hc:c=1074):zam d (-q) r↔IsRnd (d*gB c q) (10^q.toNat) r:=by
 unfold zam gB
 rw [Int.neg_neg,<-hc,Nat.mul_assoc,Nat.mul_comm (2^c)]
theorem Fmt.back17 {r c d:Nat} {q:Int} (hc:c=1074) (h0:0<r) (hr:r<infW) (h:Fmt (wV r) c 17 d q):zam d (-q) r:=by
 obtain ⟨e1,e2,e3⟩:=h.err (by omega)
 rw [zjK hc]
 have hB:=zc5 c q
 have e:wV r*10^q.toNat=gA (wV r) q:=rfl
 have e10:10^(17-1)=10000000000000000:=rfl
 rw [e10] at e3
 refine zkF h0 hr (Nat.pow_pos (by omega)) ?_ ?_
 ·rw [e];omega
 rw [e];omega
theorem zk6 {r c d:Nat} {q:Int} (hc:c=1074) (h0:0<r) (hr:r<infW) (h:d*gB c q=gA (wV r) q):zam d (-q) r:=by
 rw [zjK hc,h]
 have e:wV r*10^q.toNat=gA (wV r) q:=rfl
 have hp:0<gA (wV r) q:=Nat.mul_pos (zeo (by omega)) (Nat.pow_pos (by omega))
 refine zkF h0 hr (Nat.pow_pos (by omega)) ?_ ?_
 ·rw [e];omega
 rw [e];omega
theorem zf5 {A B k:Nat} (hB:0<B) (h:rq A B=10*k):rq A (10*B)=k:=by
 have h1:=zho hB (show 10*k<=rq A B by omega)
 have h2:=zkk hB (show rq A B<=10*k by omega)
 refine zjD (Nat.mul_pos (by omega) hB) ?_ ?_
 ·have e:k*(10*B)=10*(k*B):=by grind
  have e2:2*(10*k)*B=20*(k*B):=by grind
  rw [e];rw [e2] at h2
  omega
 have e:k*(10*B)=10*(k*B):=by grind
 have e2:2*(10*k)*B=20*(k*B):=by grind
 rw [e];rw [e2] at h1
 omega
theorem Fmt.drop {V c n d:Nat} {q:Int} (hn:2<=n) (h:Fmt V c n (10*d) q):Fmt V c (n-1) d (q-1):=by
 obtain ⟨p,a1,a2,a3⟩:=h.val
 have hlo:=h.lo
 have hhi:=h.hi
 have e1:=zeQ (n:=n) (by omega)
 have e2:=zeQ (n:=n-1) (by omega)
 have ht:=g_ten V c (p-1)
 have hp:p-1+1=p:=by omega
 rw [hp] at ht
 have hB:=zc5 c p
 have hB1:=zc5 c (p-1)
 have hrq:rq (gA V (p-1)) (gB c (p-1))=rq (gA V p) (10*gB c p):=zc1 hB1 (Nat.mul_pos (by omega) hB) ht
 have b1:10^(n-1-1)*gB c (p-1)<=gA V (p-1):=by
  refine zff (A:=gA V p) (B:=10*gB c p) (Nat.mul_pos (by omega) hB) ht.symm ?_
  rw [e2] at a1
  have e:10^(n-1-1)*(10*gB c p)=10*10^(n-1-1)*gB c p:=by grind
  rw [e];exact a1
 have b2:gA V (p-1)<10^(n-1)*gB c (p-1):=by
  refine zdx (A:=gA V p) (B:=10*gB c p) (Nat.mul_pos (by omega) hB) hB1 ht.symm ?_
  rw [e1] at a2
  have e:10^(n-1)*(10*gB c p)=10*10^(n-1)*gB c p:=by grind
  rw [e];exact a2
 refine ⟨by omega,by omega,p-1,b1,b2,?_⟩
 rcases a3 with ⟨hq,hd⟩|⟨hq,hd,hr⟩
 ·refine .inl ⟨by omega,?_⟩
  rw [hrq,zf5 hB hd.symm]
 refine .inr ⟨by omega,by omega,?_⟩
 rw [hrq,zf5 hB (k:=10^(n-1)) (by rw [hr,e1])]
theorem zlg {d W:Nat} {q:Int}:zam (10*d) (-q) W↔zam d (-(q-1)) W:=by
 have e: -(q-1)= -q+(1:Nat):=by omega
 constructor
 ·intro h
  obtain ⟨W',h'⟩:=zam.ex d (-(q-1))
  rw [e] at h'
  have h2:=h'.shift
  rw [Nat.pow_one,Nat.mul_comm] at h2
  have:W=W':=h.unique h2
  rw [this,e];exact h'
 intro h
 rw [e] at h
 have:=h.shift
 rw [Nat.pow_one,Nat.mul_comm] at this
 exact this
structure First (r c n d:Nat) (q:Int):Prop where
 n1:1<=n
 n17:n<=17
 fmt:Fmt (wV r) c n d q
 back:zam d (-q) r
 least:∀ m d' q',1<=m->m<n->Fmt (wV r) c m d' q'->¬ zam d' (-q') r
theorem First.unique {r c n d n' d':Nat} {q q':Int} (h:First r c n d q) (h':First r c n' d' q'):n=n'/\d=d'/\q=q':=by
 have hn:n=n':=by
  rcases Nat.lt_trichotomy n n' with g|g|g
  ·exact absurd h.back (h'.least n d q h.n1 g h.fmt)
  ·exact g
  exact absurd h'.back (h.least n' d' q' h'.n1 g h'.fmt)
 subst hn
 exact ⟨rfl,h.fmt.unique h.n1 h'.fmt⟩
theorem First.last {r c n d:Nat} {q:Int} (h:First r c n d q) (hn:2<=n):d%10≠0:=by
 intro h10
 obtain ⟨e,rfl⟩:∃ e,d=10*e:=⟨d/10,by omega⟩
 exact h.least (n-1) e (q-1) (by omega) (by omega) (h.fmt.drop hn) (zlg.1 h.back)
theorem zs1 {d n:Nat} {X:Int} (h1: -400<=X) (h2:X<=400):bs (eStr d n X)=eTxt d n X:=by
 unfold eStr
 rw [bs_of (l:=txtB (eTxt d n X)) rfl]
 exact zfU (zio h1 h2)
theorem fold_dig:∀ (l:List Int) (a:List Int) (b p:Nat),(∀ c∈l,c≠46)->l.foldl dstep (a,b,p)=(a++l,b+p*l.length,p)
 | [],a,b,p,_=>by simp
 |c::l,a,b,p,h=>by
  have hc:c≠46:=h c (by simp)
  rw [List.foldl_cons]
  have e:dstep (a,b,p) c=(a++[c],b+p,p):=by unfold dstep;rw [if_neg hc]
  rw [e,fold_dig l _ _ _ (fun x hx=>h x (by simp [hx]))]
  simp
  rw [Nat.mul_add]
  omega
theorem zen {d n:Nat} (h:1<=n):digL d n=dgA d n 0::(digL d n).drop 1:=by
 unfold digL
 obtain ⟨j,rfl⟩:∃ j,n=j+1:=⟨n-1,by omega⟩
 rw [List.range_succ_eq_map]
 simp
theorem zgk {d n:Nat} (h:1<=n):(mantL d n).length=if n=1 then 1 else n+1:=by
 unfold mantL
 split
 ·simp
 simp [zaa];omega
theorem zjF {d n:Nat} (h:1<=n):dscan (mantL d n)=(digL d n,n-1,if n=1 then 0 else 1):=by
 have hd:∀ c∈digL d n,c≠46:=fun c hc e=>by have:=zcd c hc;omega
 have hd0:dgA d n 0≠46:=by have:=zcf d n 0;omega
 by_cases h1:n=1
 ·subst h1
  have e:mantL d 1=[dgA d 1 0]:=rfl
  rw [e]
  have e2:digL d 1=[dgA d 1 0]:=rfl
  rw [e2]
  unfold dscan
  rw [List.foldl_cons,List.foldl_nil]
  unfold dstep
  rw [if_neg hd0]
  rfl
 rw [zb5 (by omega),if_neg h1]
 unfold dscan
 rw [List.foldl_append,List.foldl_append,List.foldl_cons,List.foldl_nil,List.foldl_cons,List.foldl_nil]
 have e1:dstep ([],0,0) (dgA d n 0)=([dgA d n 0],0,0):=by unfold dstep;rw [if_neg hd0];rfl
 have e2:dstep ([dgA d n 0],0,0) 46=([dgA d n 0],0,1):=by unfold dstep;rw [if_pos rfl]
 rw [e1,e2,fold_dig _ _ _ _ (fun c hc=>hd c (List.mem_of_mem_drop hc))]
 have e3:[dgA d n 0]++(digL d n).drop 1=digL d n:=by conv=>rhs;rw [zen h]
                                                     rfl
 rw [e3,List.length_drop,zaa]
 simp
theorem zeC {d n:Nat} (h:d<10^n):∀ j,j<=n->dval ((digL d n).take j)=d/10^(n-j)
 |0,_=>by
  rw [List.take_zero,Nat.sub_zero,Nat.div_eq_of_lt h]
  rfl
 |j+1,hj=>by
  have hlt:j<(digL d n).length:=by rw [zaa];omega
  have ih:=zeC h j (by omega)
  rw [List.take_succ_eq_append_getElem hlt,zb4,ih]
  have hg:(digL d n)[j]=dgA d n j:=by
   have:=za3 (d:=d) (n:=n) (j:=j) (by omega)
   rw [zaz hlt] at this
   exact this
  rw [hg,zcs]
  have e1:n-j=n-(j+1)+1:=by omega
  have e2:n-1-j=n-(j+1):=by omega
  rw [e1,e2,Nat.pow_succ,<-Nat.div_div_eq_div_mul]
  generalize d/10^(n-(j+1))=z
  omega
theorem zeg {d n:Nat} (h:d<10^n):dval (digL d n)=d:=by
 have:=zeC h n (Nat.le_refl _)
 rw [List.take_of_length_le (by rw [zaa];exact Nat.le_refl _),Nat.sub_self,Nat.pow_zero,Nat.div_one] at this
 exact this
theorem zm3 {k:Nat} (hk:k<1000):expB (expL k)=some (k:Int):=by
 have hall:zae (expL k)=true:=by
  unfold zae
  rw [List.all_eq_true]
  intro z hz
  have:=zh0 hk z hz
  unfold zax
  simp
  omega
 have hl:1<=(expL k).length/\(expL k).length<=3:=by
  unfold expL;split
  ·simp
  split<;>simp
 unfold expB
 rw [if_pos ⟨hl.1,hl.2,hall⟩]
 congr 1
 unfold expL
 split
 ·simp only [dval,List.foldl_cons,List.foldl_nil];omega
 split
 ·simp only [dval,List.foldl_cons,List.foldl_nil];omega
 simp only [dval,List.foldl_cons,List.foldl_nil];omega
theorem zfn (k:Nat):2<=(expL k).length/\(expL k).length<=3:=by
 unfold expL;split
 ·simp
 split<;>simp
theorem zpP {d n:Nat} {X:Int} (hn1:1<=n) (hn2:n<=17) (h1: -400<=X) (h2:X<=400):
 Txt (eStr d n X) (mantL d n).length (digL d n) (n-1) (if n=1 then 0 else 1) X:=by
 have hb:=zs1 (d:=d) (n:=n) h1 h2
 have hsz:(eStr d n X).size=(eTxt d n X).length:=by rw [<-zad,hb]
 have hm:=zgk (d:=d) hn1
 have hx:=zfn X.natAbs
 have hlen:(eTxt d n X).length=(mantL d n).length+2+(expL X.natAbs).length:=by unfold eTxt;simp;omega
 have hk:(mantL d n).length<=18:=by rw [hm];split<;>omega
 have htake:(bs (eStr d n X)).take (mantL d n).length=mantL d n:=by
  rw [hb]
  unfold eTxt
  rw [List.append_assoc,List.take_left]
 have hdrop:(bs (eStr d n X)).drop (mantL d n).length=[101,if X<0 then 45 else 43]++expL X.natAbs:=by
  rw [hb]
  unfold eTxt
  rw [List.append_assoc,List.drop_left]
 refine ⟨by omega,by omega,fun j hj=>?_,by rw [htake];exact zjF hn1,by split<;>omega,?_,.inr ⟨by omega,?_⟩⟩
 ·have hj2:j<(bs (eStr d n X)).length:=by rw [zad];omega
  have e:(bs (eStr d n X)).getD j 0=(mantL d n).getD j 0:=by
   rw [zaz hj2,zaz hj]
   have:((bs (eStr d n X)).take (mantL d n).length)[j]'(by rw [htake];exact hj)=(mantL d n)[j]:=by simp only [htake]
   rw [<-this,List.getElem_take]
  rw [e,zaz hj]
  have:=zgS (d:=d) (n:=n) _ (List.getElem_mem hj)
  unfold isDP zax
  simp
  omega
 ·rw [zen hn1];exact fun h=>by cases h
 rw [hdrop]
 unfold expV
 rw [if_pos (by left;rfl)]
 unfold expS
 have ed:List.drop 1 ([101,if X<0 then 45 else 43]++expL X.natAbs)=(if X<0 then 45 else 43)::expL X.natAbs:=rfl
 rw [ed]
 have e0:((if X<0 then 45 else 43)::expL X.natAbs:List Int).getD 0 0=if X<0 then 45 else 43:=rfl
 have e1:List.drop 1 ((if X<0 then 45 else 43)::expL X.natAbs:List Int)=expL X.natAbs:=rfl
 rw [e0,e1,zm3 (by omega)]
 by_cases hX:X<0
 ·rw [if_pos hX,if_pos rfl]
  simp
  omega
 rw [if_neg hX,if_neg (by decide),if_pos rfl]
 congr 1
 omega
structure FE (w:World):Prop where
 f:FEnv w
 e:∃ G o P po C co ev m,Env w G o P po C co ev m
theorem FE.below {w w':World} (h:FE w) (hb:Below w.heap.size w w'):FE w':=by
 obtain ⟨G,o,P,po,C,co,ev,m,hE⟩:=h.e
 exact ⟨h.f.below hb,G,o,P,po,C,co,ev,m,hE.below hb⟩
def FmtR (r c n:Nat) (w:World) (e:Ending) (w':World):Prop:=
 ∃ d q,e=.returned (.string (eStr d n ((n:Int)-1-q)))/\Fmt (wV r) c n d q/\ -400<=(n:Int)-1-q/\(n:Int)-1-q<=400/\Below w.heap.size w w'
theorem ztT (r n c:Nat) (w:World) (hc:c=1074) (h0:0<r) (hr:r<infW) (hn1:1<=n) (hn2:n<=17) (hF:FE w):
 Calls Tryz.prog 95 #[.float .f64 r,.int .u8 101,.int .i64 ((n:Int)-1),.int .i64 64] w fun e w'=>FmtR r c n w e w':=by
 refine (zu3 r n w h0 hr hn1 hn2 hF.f).mono ?_
 rintro e w' ⟨d,q,rfl,hfix,hb⟩
 obtain ⟨_,hx1,hx2,_,_,hE1,hE2⟩:=zfe h0 hr
 have hX:=fix_X hfix hE1 hE2
 exact ⟨d,q,rfl,hfix.fmt hc h0 hr hn1,hX.1,hX.2,hb⟩
theorem znq {d n:Nat} {q:Int} {w:World} (hF:FE w) (hn1:1<=n) (hn2:n<=17) (hd:d<10^n) (h1: -400<=(n:Int)-1-q) (h2:(n:Int)-1-q<=400):
 Calls Tryz.prog 67 #[.string (eStr d n ((n:Int)-1-q)),.int .i64 64] w fun e w''=>SpfR d (-q) w e w'':=by
 obtain ⟨G,o,P,po,C,co,ev,m,hE⟩:=hF.e
 have:=zjf _ _ _ _ G o P po C co _ _ ev m w (zpP (d:=d) hn1 hn2 h1 h2) hE w (Below.refl _ _)
 have e:(n:Int)-1-q-((n-1:Nat):Int)= -q:=by omega
 rw [zeg hd,e] at this
 exact this
def ShoR (r c:Nat) (w:World) (e:Ending) (w':World):Prop:=
 ∃ n d q,e=.returned (.string (eStr d n ((n:Int)-1-q)))/\First r c n d q/\ -400<=(n:Int)-1-q/\(n:Int)-1-q<=400/\Below w.heap.size w w'
theorem znk (r c:Nat) (w:World) (hc:c=1074) (h0:0<r) (hr:r<infW) (hF:FE w):
 Calls Tryz.prog 54 #[.float .f64 r] w fun e w'=>ShoR r c w e w':=by
 have HFF:=hide (fun (k:Nat) (w1:World) (hb:Below w.heap.size w w1) (hk:k<=16)=>(show Calls Tryz.prog 95 #[.float .f64 r,.int .u8 101,.int .i64 (k:Int),.int .i64 64] w1 fun e w'=>FmtR r c (k+1) w1 e w' by
  have:=ztT r (k+1) c w1 hc h0 hr (by omega) (by omega) (hF.below hb)
  have e:((k+1:Nat):Int)-1=k:=by omega
  rw [e] at this
  exact this))
 have HPF:=hide (fun (d n:Nat) (q:Int) (w1:World) (hb:Below w.heap.size w w1) (hn1:1<=n) (hn2:n<=17) (hd:d<10^n) (h1: -400<=(n:Int)-1-q) (h2:(n:Int)-1-q<=400)=>znq (d:=d) (n:=n) (q:=q) (hF.below hb) hn1 hn2 hd h1 h2)
 have Ho:=hide (zeM hr)
 have Hr:=hide hr
 have H0:=hide h0
 have Hc:=hide hc
 clear hF hr h0 hc
 go_enter Tryz.func54,Tryz.ntmps54
 go_wp2_with fail
 go_loopw [7] (fun cv wr=>∃ k:Nat,cv=.int .i64 k/\k<=16/\Hid (∀ m d' q',1<=m->m<=k->Fmt (wV r) c m d' q'->¬ zam d' (-q') r)/\Below w.heap.size w wr) (fun cv _=>16-(intOf cv).toNat)
 case atStart=>exact ⟨0,rfl,by omega,hide (fun m d' q' h1 h2=>by omega),Below.refl _ _⟩
 obtain ⟨k,rfl,hk,Hl,hb⟩:=hrel
 have Hb:=hide hb
 clear hb
 by_cases hlt:k<16
 ·go_wp2_with fail
  refine (HFF.out k _ Hb.out (by omega)).mono ?_
  rintro e w1 ⟨d,q,rfl,hfmt,hX1,hX2,hb1⟩
  have Hfmt:=hide hfmt
  have HX1:=hide hX1
  have HX2:=hide hX2
  have Hb1:=hide (bt Hb.out hb1)
  clear hfmt hX1 hX2 hb1
  have HP:=HPF.out d (k+1) q _ Hb1.out (by omega) (by omega) Hfmt.out.hi HX1.out HX2.out
  obtain ⟨T,hT⟩:∃ T,T=eStr d (k+1) (((k+1:Nat):Int)-1-q):=⟨_,rfl⟩
  rw [<-hT] at HP ⊢
  have HT:=hide hT
  have HPt:=hide HP
  clear hT HP
  have Hun:Hid (∀ d' q',Fmt (wV r) c (k+1) d' q'->d'=d/\q'=q):=hide (fun d' q' h=>h.unique (by omega) Hfmt.out)
  go_wp2_with fail
  refine HPt.out.mono ?_
  rintro e w2 ⟨W,hdec,hb2,hcase⟩
  have Hdec:=hide hdec
  have Hb2:=hide (bt Hb1.out hb2)
  clear hdec hb2
  have Hstep:Hid (W≠r->∀ m d' q',1<=m->m<=k+1->Fmt (wV r) c m d' q'->¬ zam d' (-q') r):=hide (fun hne m d' q' h1 h2 hf hd=>by
   rcases Nat.lt_or_ge m (k+1) with g|g
   ·exact Hl.out m d' q' h1 (by omega) hf hd
   obtain rfl:m=k+1:=by omega
   obtain ⟨rfl,rfl⟩:=Hun.out d' q' hf
   exact hne (Hdec.out.unique hd))
  rcases hcase with ⟨hfin,rfl⟩|⟨hinf,B,rfl⟩
  ·by_cases hW:W=r
   ·have Hfin:=hide (hW ▸ Hdec.out)
    subst hW
    have ho:FloatKind.f64.format.order W W=some Ordering.eq:=Ho.out
    go_wp2
    go_ret
    exact ⟨k+1,d,q,by rw [<-HT.out];rfl,⟨by omega,by omega,Hfmt.out,Hfin.out,fun m d' q' h1 h2=>Hl.out m d' q' h1 (by omega)⟩,HX1.out,HX2.out,Hb2.out⟩
   have ho:(FloatKind.f64.format.order W r==some Ordering.eq)=false:=by
    rw [beq_eq_false_iff_ne]
    intro h
    exact hW (zkC (zd5 Hdec.out) (Nat.le_of_lt Hr.out) h)
   have HW:=hide hW
   clear hW hfin
   go_wp2
   go_roundw
   case rel=>exact ⟨k+1,by go_num,by omega,hide (Hstep.out HW.out),Hb2.out⟩
   case measure=>simp [intOf];omega
  have HW:Hid (W≠r):=hide (fun h=>by have:=Hr.out;rw [hinf] at h;omega)
  clear hinf
  go_wp2
  go_roundw
  case rel=>exact ⟨k+1,by go_num,by omega,hide (Hstep.out HW.out),Hb2.out⟩
  case measure=>simp [intOf];omega
 obtain rfl:k=16:=by omega
 go_wp2_with fail
 refine (HFF.out 16 _ Hb.out (by omega)).mono ?_
 rintro e w1 ⟨d,q,rfl,hfmt,hX1,hX2,hb1⟩
 have Hfmt:=hide hfmt
 have HX1:=hide hX1
 have HX2:=hide hX2
 have Hb1:=hide (bt Hb.out hb1)
 clear hfmt hX1 hX2 hb1
 go_wp2
 go_ret
 exact ⟨17,d,q,rfl,⟨by omega,by omega,Hfmt.out,Hfmt.out.back17 Hc.out H0.out Hr.out,fun m d' q' h1 h2=>Hl.out m d' q' h1 (by omega)⟩,HX1.out,HX2.out,Hb1.out⟩
def strL (L:List Int):ByteArray:=⟨(txtB L).toArray⟩
theorem zat (L:List Int):(strL L).size=L.length:=by
 show (txtB L).toArray.size=_
 simp [txtB]
theorem zcY (a b:List Int):txtB (a++b)=txtB a++txtB b:=by simp [txtB]
theorem zai (a b:List Int):strL a++strL b=strL (a++b):=by
 apply ByteArray.ext
 simp [strL,zcY]
theorem zbc (L:List Int) (a b:Nat):(strL L).extract a b=strL ((L.drop a).take (b-a)):=by
 apply ByteArray.ext
 rw [ByteArray.data_extract]
 apply Array.ext'
 simp [strL,txtB]
theorem zgC (c:Nat) (w:World) (hc:c<=1000):Rb 99 #[.string ⟨#[48]⟩,.int .i64 c] w (.string (strL (List.replicate c 48))):=by
 refine rb (Tryz.strings_Repeat ⟨#[48]⟩ c w (by omega) (by show 1*c<=_;omega)) fun w' hb=>?_
 refine ⟨?_,hb⟩
 have h:=Lib.repeatL_replicate 48 1 c
 have e:Lib.repeatL (ByteArray.mk #[48]).data.toList c=txtB (List.replicate c 48):=by
  rw [Nat.mul_one] at h
  have h1:(ByteArray.mk #[48]).data.toList=List.replicate 1 48:=rfl
  rw [h1,h]
  simp [txtB]
 rw [e]
 rfl
def zdo (D:List Int) (X:Int):List Int:=
 if X<0 then [48,46]++List.replicate (-X-1).toNat 48++D
 else if X+1<D.length then D.take (X+1).toNat++[46]++D.drop (X+1).toNat
 else D++List.replicate (X+1-D.length).toNat 48++[46,48]
theorem ziM (D:List Int) (X:Int) (w:World) (hD1:1<=D.length) (hD2:D.length<=17) (hX1: -5<=X) (hX2:X<=16):
 Rb 57 #[.string (strL D),.int .i64 X] w (.string (strL (zdo D X))):=by
 have hsz:=zat D
 by_cases h0:X<0
 ·have HR:=hide (fun w1=>zgC (-X-1).toNat w1 (by omega))
  have e1:(((-X-1).toNat:Nat):Int)= -X-1:=by omega
  rw [e1] at HR
  clear e1
  have hr:=zat (List.replicate (-X-1).toNat 48)
  rw [List.length_replicate] at hr
  obtain ⟨R,hR⟩:∃ R,R=strL (List.replicate (-X-1).toNat 48):=⟨_,rfl⟩
  rw [<-hR] at hr HR
  have HRR:=hide hR
  clear hR
  go_enter Tryz.func57,Tryz.ntmps57
  go_wp2_with fail
  refine rb (HR.out _) fun w1 hb1=>?_
  have Hb1:=hide hb1
  clear hb1
  go_wp2
  go_ret
  refine ⟨?_,Hb1.out⟩
  unfold zdo
  rw [if_pos h0,<-zai,<-zai,<-HRR.out]
  rfl
 by_cases h1:X+1<D.length
 ·obtain ⟨k,rfl⟩:∃ k:Nat,X=k:=⟨X.toNat,by omega⟩
  go_enter Tryz.func57,Tryz.ntmps57
  go_wp2
  go_quiet (fail)
  go_wp2
  go_ret
  refine ⟨?_,?_⟩
  ·unfold zdo
   rw [if_neg (by omega),if_pos (by omega),<-zai,<-zai]
   have a1:=zbc D 0 (k+1)
   have a2:=zbc D (k+1) D.length
   have n1:((k:Int)+1).toNat=k+1:=by omega
   rw [n1]
   rw [List.drop_zero,Nat.sub_zero] at a1
   rw [List.take_of_length_le (by rw [List.length_drop];omega)] at a2
   rw [<-a1,<-a2]
   rfl
  exact zag (Below.refl _ _) _
 have HR:=hide (fun w1=>zgC (X+1-D.length).toNat w1 (by omega))
 have e1:(((X+1-D.length).toNat:Nat):Int)=X+1-D.length:=by omega
 rw [e1] at HR
 clear e1
 have hr:=zat (List.replicate (X+1-D.length).toNat 48)
 rw [List.length_replicate] at hr
 obtain ⟨R,hR⟩:∃ R,R=strL (List.replicate (X+1-D.length).toNat 48):=⟨_,rfl⟩
 rw [<-hR] at hr HR
 have HRR:=hide hR
 clear hR
 go_enter Tryz.func57,Tryz.ntmps57
 go_wp2_with fail
 refine rb (HR.out _) fun w1 hb1=>?_
 have Hb1:=hide hb1
 clear hb1
 go_wp2
 go_ret
 refine ⟨?_,Hb1.out⟩
 unfold zdo
 rw [if_neg (by omega),if_neg (by omega),<-zai,<-zai,<-HRR.out]
 rfl
end Go.Proofs.YtamdnnkdnhkghaaGreatDoor
