import Derived.Test.YtlgodacccilabaaGreatDoorJGD0
import Derived.Test.YtlgodacccilabaaGreatDoorJQL
import Derived.Deep.RegionLaw
namespace Go.Proofs.YtlgodacccilabaaGreatDoor
open Go Go.RowKit
set_option linter.unusedVariables false
theorem sl_run (s:ByteArray) (a b:Nat) (h1:a≤b) (h2:b≤s.size) (w:World):(Instr.slice 9 (.string s) (some (.int .i64 (a:Int))) (some (.int .i64 (b:Int))) none).run Tryz.prog w=.ok (.string (s.extract a b)) w:=by
 rw [run_slice_string w 9 s .i64 .i64 _ _ Tryz.underlying9 (by omega) (by omega) (by omega),Int.toNat_natCast,Int.toNat_natCast]
structure FlI (w wr:World) (s t:ByteArray) (c:Nat) (f:Fd) (cv:Value) (T:Option (List UInt8)) (ov:Value) (L:List UInt8) (k fu:Nat):Prop where
 o:OwB wr (w.heap.size+1) ov L
 nn:ov≠ .slice none 0 0
 b:Below w.heap.size w wr
 x:RowF wr 32 w.heap.size 3 (fun j=>#[Value.int .i64 (f.fr:Int),.int .i64 (f.en:Int),cv].getD j (.bool false))
 l:L.length≤k*65536
 k9:k≤t.size
 fu9:t.size<fu+k
 sz:w.heap.size+1≤wr.heap.size
 v:T=(rdRp t c fu k).map (fun r=>L++fil (hdl s f) r)
theorem FlI.step {w wr w5:World} {s t:ByteArray} {c:Nat} {f:Fd} {cv:Value} {T:Option (List UInt8)} {ov v':Value} {L M:List UInt8} {k fu:Nat} (h:FlI w wr s t c f cv T ov L k (fu+1)) (d:Nat) (p:Pc)
 (ho:OwB w5 (w.heap.size+1) v' (L++M)) (hn:v'≠ .slice none 0 0) (h2:∀ B w0,Below B w0 wr→B≤w.heap.size+1→Below B w0 w5) (hM:M.length≤65536*d) (hd:1≤d) (hk:k+d≤t.size)
 (hv:rdRp t c (fu+1) k=(rdRp t c fu (k+d)).map (p::·)) (hp:fil (hdl s f) [p]=M):FlI w w5 s t c f cv T v' (L++M) (k+d) fu:=by
 have hb:=h2 _ _ (Below.refl (w.heap.size+1) wr) (Nat.le_refl _)
 have hl:=h.l
 have hf:=h.fu9
 refine ⟨ho,hn,h2 _ _ h.b (by omega),h.x.low hb (by omega),?_,hk,by omega,Nat.le_trans h.sz hb.size,?_⟩
 ·rw [List.length_append,Nat.add_mul];omega
 ·rw [h.v,hv,Option.map_map]
  congr 1
  funext r
  simp only [Function.comp]
  rw [show p::r=[p]++r from rfl,fil_app,hp,List.append_assoc]
theorem FlI.skip {w wr:World} {s t:ByteArray} {c:Nat} {f:Fd} {cv:Value} {T:Option (List UInt8)} {ov:Value} {L:List UInt8} {k fu:Nat} (h:FlI w wr s t c f cv T ov L k (fu+1)) (d:Nat) (p:Pc) (hd:1≤d) (hk:k+d≤t.size)
 (hv:rdRp t c (fu+1) k=(rdRp t c fu (k+d)).map (p::·)) (hp:fil (hdl s f) [p]=[]):FlI w wr s t c f cv T ov L (k+d) fu:=by
 have:=h.step (w5:=wr) (v':=ov) (M:=[]) d p (by simpa using h.o) h.nn (fun B w0 hb _=>hb) (by simp) hd hk hv hp
 simpa using this
def FlR (T:Option (List UInt8)) (w:World) (e:Ending) (w':World):Prop:=
 Below w.heap.size w w'∧((T=none∧e=.returned (.tuple #[.string ⟨#[]⟩,.bool false]))∨∃ L,T=some L∧e=.returned (.tuple #[.string ⟨L.toArray⟩,.bool true]))
theorem hdl_0 (s:ByteArray) (f:Fd):fil (hdl s f) [.s 0]=(s.extract f.fr f.en).data.toList:=by simp [fil,hdl,cutL]
theorem hdl_pl {s:ByteArray} {f:Fd} {n:Nat} (h:n<f.caps.length) (hp:cx0 f.caps n=true):fil (hdl s f) [.s (n+1)]=Lib.itoa (cx1 f.caps n+1):=by
 simp only [fil,hdl,cx_at h,hp,if_true,List.append_nil]
 congr 1
theorem hdl_cut {s:ByteArray} {f:Fd} {n:Nat} (h:n<f.caps.length) (hp:cx0 f.caps n=false):fil (hdl s f) [.s (n+1)]=(s.extract (cx1 f.caps n).toNat (cx2 f.caps n).toNat).data.toList:=by
 simp only [fil,hdl,cx_at h,hp,List.append_nil,cutL]
 simp
theorem hdl_out {s:ByteArray} {f:Fd} {n:Nat} (h:¬ n<f.caps.length):fil (hdl s f) [.s (n+1)]=[]:=by
 simp only [fil,hdl,List.append_nil]
 rw [List.getElem?_eq_none (by omega)]
theorem cx_rng {f:Fd} {s:ByteArray} (hcp:∀ x∈f.caps,x.2.1≤x.2.2∧x.2.2≤s.size) {n:Nat} (h:n<f.caps.length):∃ a b:Nat,cx1 f.caps n=a∧cx2 f.caps n=b∧a≤b∧b≤s.size:=by
 have:=hcp f.caps[n] (List.getElem_mem h)
 unfold cx1 cx2
 rw [gtD h]
 exact ⟨_,_,rfl,rfl,this.1,this.2⟩
theorem ext_len {s:ByteArray} {a b:Nat} (h:b≤s.size) (hs:s.size≤65536) (d:Nat) (hd:1≤d):(s.extract a b).data.toList.length≤65536*d:=by
 rw [Array.length_toList]
 show (s.extract a b).size≤_
 rw [ByteArray.size_extract]
 omega
set_option maxHeartbeats 6400000 in
set_option maxRecDepth 100000 in
theorem sfill_any (s t:ByteArray) (f:Fd) (c:Nat) (cv:Value) (w:World) (hs:s.size≤65536) (ht:t.size≤1048576) (hc:c≤16) (hf1:f.fr≤f.en) (hf2:f.en≤s.size) (hcp:∀ x∈f.caps,x.2.1≤x.2.2∧x.2.2≤s.size)
 (hcl:f.caps.length≤16) (hcv:CpA w cv f.caps.length (cx0 f.caps) (cx1 f.caps) (cx2 f.caps)):
 Calls Tryz.prog 7 #[.string s,.string t,.agg #[.int .i64 (f.fr:Int),.int .i64 (f.en:Int),cv],.int .i64 (c:Int)] w fun e w'=>FlR ((rdRp t c (t.size+1) 0).map (fil (hdl s f))) w e w':=by
 obtain ⟨T,hT⟩:∃ T,(rdRp t c (t.size+1) 0).map (fil (hdl s f))=T:=⟨_,rfl⟩
 rw [hT]
 obtain ⟨ac,kc,rfl⟩:=hcv.val
 have hw1:(w.alloc (.cells #[.int .i64 (f.fr:Int),.int .i64 (f.en:Int),.slice ac f.caps.length kc] 32)).heap.size=w.heap.size+1:=by simp
 have hI:FlI w ((w.alloc (.cells #[.int .i64 (f.fr:Int),.int .i64 (f.en:Int),.slice ac f.caps.length kc] 32)).alloc (.cells #[] 5)) s t c f (.slice ac f.caps.length kc) T (.slice (some ⟨w.heap.size+1,0,none⟩) 0 0) [] 0 (t.size+1):=by
  refine ⟨⟨rfl,.inr ⟨w.heap.size+1,0,#[],rfl,Nat.le_refl _,?_,Nat.le_refl _,by simp,rfl,rfl⟩⟩,by simp,((Below.refl _ _).alloc (Nat.le_refl _) _).alloc (by simp) _,?_,by simp,by omega,by omega,by simp,?_⟩
  ·have:=heap_alloc_new (w.alloc (.cells #[.int .i64 (f.fr:Int),.int .i64 (f.en:Int),.slice ac f.caps.length kc] 32)) (.cells #[] 5)
   rwa [hw1] at this
  ·exact (RowF.mk' w 32 #[.int .i64 (f.fr:Int),.int .i64 (f.en:Int),.slice ac f.caps.length kc]).keep (Keeps.of (b_1 _ _) (Nat.le_refl _) (fun _=>False)) (fun x=>x)
  ·rw [←hT];simp
 have HI:=hide hI
 have HCV:=hide hcv
 have HCP:=hide (fun n h=>cx_rng hcp (n:=n) h)
 clear hI hT hcv hcp
 go_enter Tryz.func7,Tryz.ntmps7
 go_wp2_with fail
 generalize (w.alloc (.cells #[.int .i64 (f.fr:Int),.int .i64 (f.en:Int),.slice ac f.caps.length kc] 32)).alloc (.cells #[] 5)=w0 at *
 go_loopw [10,11] (fun ov kv wr=>∃ (L:List UInt8) (k fu:Nat),kv=.int .i64 k∧k≤t.size∧t.size<fu+k∧Hid (FlI w wr s t c f (.slice ac f.caps.length kc) T ov L k fu)) (fun _ kv _=>t.size+1-ivN kv)
 case atStart=>exact ⟨[],0,t.size+1,rfl,by omega,by omega,HI⟩
 case round=>
  clear HI
  obtain ⟨L,k,fu0,rfl,hk9,hfu,HI⟩:=hrel
  obtain ⟨ao,co,rfl⟩:=owns_val HI.out.o
  have hl9:=HI.out.l
  have hsz:=HI.out.sz
  by_cases hin:k<t.size
  ·obtain ⟨fu,rfl⟩:∃ fu,fu0=fu+1:=⟨fu0-1,by omega⟩
   have hin2:(k:Int)<(t.size:Int):=by omega
   have hi0:∀ w':World,(Instr.index 9 (.string t) (.int .i64 (k:Int))).run Tryz.prog w'=.ok (.int .u8 (hb t k)) w':=fun w'=>by
    have:=idx_str t (i:=(k:Int)) w' (by omega) (by omega)
    simpa using this
   by_cases h37:hb t k=37
   ·have hq37:(hb t k==37)=true:=by rw [h37];rfl
    by_cases h2:k+1<t.size
    ·have h22:(((k:Int)+1)==(t.size:Int))=false:=by simp;omega
     have hi1:∀ w':World,(Instr.index 9 (.string t) (.int .i64 ((k:Int)+1))).run Tryz.prog w'=.ok (.int .u8 (hb t (k+1))) w':=fun w'=>by
      have:=idx_str t (i:=((k:Int)+1)) w' (by omega) (by omega)
      rw [this,show ((k:Int)+1).toNat=k+1 by omega]
     have hrg:=hb_rng t (k+1)
     have HV:=hide (And.intro h37 h2)
     clear h37
     by_cases hp:hb t (k+1)=37
     ·have hp2:(hb t (k+1)==37)=true:=by rw [hp];rfl
      have HRd:=hide (rdRp_pct (caps:=c) (f:=fu) hin HV.out.1 HV.out.2 hp)
      clear hp
      generalize hb t (k+1)=y at *
      generalize hb t k=x at *
      go_wp2_with (first
       |(have _z:=HI
         at_builtin
         clear _z
         refine app_b rfl _ _ rfl (w.heap.size+1) _ L 37 HI.out.o rfl rfl (by omega) hsz ?_
         intro v' w5 h1 hn h2 h3
         have HI5:=hide (HI.out.step (w5:=w5) (v':=v') (M:=[37]) 2 (.b 37) h1 hn h2 (by simp) (by omega) (by omega) HRd.out rfl)
         clear h1 hn h2 h3)
       |fail)
      go_roundw
      case rel=>exact ⟨L++[37],k+2,fu,by simp;omega,by omega,by omega,HI5⟩
      case measure=>simp [ivN];omega
     ·have hp2:(hb t (k+1)==37)=false:=by simp [hp]
      have HP:=hide hp
      clear hp
      by_cases h48:hb t (k+1)=48∨(hb t (k+1)=49∧c=0)
      ·have HRd:=hide (rdRp_slot (caps:=c) (f:=fu) (n:=0) hin HV.out.1 HV.out.2 HP.out (by
        unfold nmd
        rcases h48 with e|⟨e,e2⟩
        ·rw [e,if_neg (by simp),if_pos (by simp)];rfl
        ·rw [e,if_pos ⟨rfl,e2⟩]))
       have HM:=hide (ext_len (s:=s) (a:=f.fr) (b:=f.en) hf2 hs 2 (by omega))
       have hsl:∀ w':World,(Instr.slice 9 (.string s) (some (.int .i64 (f.fr:Int))) (some (.int .i64 (f.en:Int))) none).run Tryz.prog w'=.ok (.string (s.extract f.fr f.en)) w':=fun w'=>sl_run s f.fr f.en hf1 hf2 w'
       have hez:(s.extract f.fr f.en).size≤65536:=by rw [ByteArray.size_extract];omega
       have HX:=hide HI.out.x
       have x0:wr.cell? ⟨w.heap.size,0,none⟩=some (.int .i64 f.fr):=HX.out.cell (j:=0) (by omega)
       have x1:wr.cell? ⟨w.heap.size,1,none⟩=some (.int .i64 f.en):=HX.out.cell (j:=1) (by omega)
       have HH0:=hide (hdl_0 s f)
       generalize s.extract f.fr f.en=E at *
       clear HX
       by_cases h49:hb t (k+1)=48
       ·have hb1:(hb t (k+1)==48)=true:=by rw [h49];rfl
        clear h48 h49
        generalize hb t (k+1)=y at *
        generalize hb t k=x at *
        go_wp2_with (first
         |(have _z:=HI
           at_builtin
           clear _z
           refine app_str rfl _ _ rfl (w.heap.size+1) _ L E HI.out.o rfl rfl (by omega) hsz ?_
           intro v' w5 h1 hn h2 h3
           have HI5:=hide (HI.out.step (w5:=w5) (v':=v') 2 (.s 0) h1 (hn HI.out.nn) h2 HM.out (by omega) (by omega) HRd.out HH0.out)
           clear h1 hn h2 h3)
         |fail)
        go_roundw
        case rel=>exact ⟨_,k+2,fu,by simp;omega,by omega,by omega,HI5⟩
        case measure=>simp [ivN];omega
       ·have hb1:(hb t (k+1)==48)=false:=by simp [h49]
        have hb2:(hb t (k+1)==49)=true:=by rcases h48 with e|⟨e,e2⟩;exact absurd e h49;rw [e];rfl
        have hc0:((c:Int)==0)=true:=by rcases h48 with e|⟨e,e2⟩;exact absurd e h49;rw [e2];rfl
        clear h48 h49
        generalize hb t (k+1)=y at *
        generalize hb t k=x at *
        go_wp2_with (first
         |(have _z:=HI
           at_builtin
           clear _z
           refine app_str rfl _ _ rfl (w.heap.size+1) _ L E HI.out.o rfl rfl (by omega) hsz ?_
           intro v' w5 h1 hn h2 h3
           have HI5:=hide (HI.out.step (w5:=w5) (v':=v') 2 (.s 0) h1 (hn HI.out.nn) h2 HM.out (by omega) (by omega) HRd.out HH0.out)
           clear h1 hn h2 h3)
         |fail)
        go_roundw
        case rel=>exact ⟨_,k+2,fu,by simp;omega,by omega,by omega,HI5⟩
        case measure=>simp [ivN];omega
      ·have hb1:(hb t (k+1)==48)=false:=by simp;intro e;exact h48 (.inl e)
       have hbz:(hb t (k+1)==49)=false∨((hb t (k+1)==49)=true∧((c:Int)==0)=false):=by
        by_cases e:hb t (k+1)=49
        ·exact .inr ⟨by rw [e];rfl,by simp;intro e2;exact h48 (.inr ⟨e,e2⟩)⟩
        ·exact .inl (by simp [e])
       have HB3:=hide hbz
       clear hbz
       have hrg2:=hrg
       by_cases hbad:hb t (k+1)<49∨57<hb t (k+1)∨(c:Int)≤hb t (k+1)-49
       ·have HVn:=hide (show T=none by
         rw [HI.out.v,rdRp_bad hin HV.out.1 HV.out.2 HP.out (by
          unfold nmd
          rw [if_neg (by rintro ⟨e1,e2⟩;exact h48 (.inr ⟨by omega,e2⟩)),if_neg (by
           rintro ⟨e1,e2⟩
           have:hb t (k+1)≠48:=fun e=>h48 (.inl e)
           omega)])]
         rfl)
        have HB:=hide HI.out.b
        clear h48
        generalize hb t (k+1)=y at *
        generalize hb t k=x at *
        by_cases hq1:y-49<0
        ·have hq1b:y-49<0:=hq1
         rcases HB3.out with hbz|⟨hbz,hcz⟩
         ·skip
          go_wp2_with fail
          all_goals refine bodyPost_ret (v:=.tuple #[.string ⟨#[]⟩,.bool false]) ?_ rfl ⟨HB.out,.inl ⟨HVn.out,rfl⟩⟩
          all_goals simp [results,Tryz.results7,go_sem]
         ·skip
          go_wp2_with fail
          all_goals refine bodyPost_ret (v:=.tuple #[.string ⟨#[]⟩,.bool false]) ?_ rfl ⟨HB.out,.inl ⟨HVn.out,rfl⟩⟩
          all_goals simp [results,Tryz.results7,go_sem]
        ·by_cases hq2:8<y-49
         ·rcases HB3.out with hbz|⟨hbz,hcz⟩
          ·skip
           go_wp2_with fail
           all_goals refine bodyPost_ret (v:=.tuple #[.string ⟨#[]⟩,.bool false]) ?_ rfl ⟨HB.out,.inl ⟨HVn.out,rfl⟩⟩
           all_goals simp [results,Tryz.results7,go_sem]
          ·skip
           go_wp2_with fail
           all_goals refine bodyPost_ret (v:=.tuple #[.string ⟨#[]⟩,.bool false]) ?_ rfl ⟨HB.out,.inl ⟨HVn.out,rfl⟩⟩
           all_goals simp [results,Tryz.results7,go_sem]
         ·have hq3:(c:Int)≤y-49:=by omega
          rcases HB3.out with hbz|⟨hbz,hcz⟩
          ·skip
           go_wp2_with fail
           all_goals refine bodyPost_ret (v:=.tuple #[.string ⟨#[]⟩,.bool false]) ?_ rfl ⟨HB.out,.inl ⟨HVn.out,rfl⟩⟩
           all_goals simp [results,Tryz.results7,go_sem]
          ·skip
           go_wp2_with fail
           all_goals refine bodyPost_ret (v:=.tuple #[.string ⟨#[]⟩,.bool false]) ?_ rfl ⟨HB.out,.inl ⟨HVn.out,rfl⟩⟩
           all_goals simp [results,Tryz.results7,go_sem]
       ·obtain ⟨n,hn⟩:∃ n:Nat,hb t (k+1)=49+n:=⟨(hb t (k+1)-49).toNat,by omega⟩
        have hnc:n<c:=by omega
        have hn8:n≤8:=by omega
        have HRd:=hide (rdRp_slot (caps:=c) (f:=fu) (n:=n+1) hin HV.out.1 HV.out.2 HP.out (by
         unfold nmd
         rw [if_neg (by rintro ⟨e1,e2⟩;omega),if_pos (by omega),show (hb t (k+1)).toNat-48=n+1 by omega]))
        clear h48 hbad HP HV
        generalize hb t (k+1)=y at *
        generalize hb t k=x at *
        subst hn
        have hq1:¬ ((n:Int)<0):=by omega
        have hq2:¬ ((8:Int)<(n:Int)):=by omega
        have hq3:¬ ((c:Int)≤(n:Int)):=by omega
        have hsub:(49+(n:Int)-49)=n:=by omega
        have HX:=hide HI.out.x
        have x2:wr.cell? ⟨w.heap.size,2,none⟩=some (.slice ac f.caps.length kc):=HX.out.cell (j:=2) (by omega)
        clear HX
        by_cases hlt:n<f.caps.length
        ·have hlt2:(n:Int)<(f.caps.length:Int):=by omega
         obtain ⟨cA,cB,hcA,hcB,hcl1,hcl2⟩:=HCP.out n hlt
         obtain ⟨bk,rfl,hbk,hnk,hcc⟩:∃ bk,ac=some ⟨bk,0,none⟩∧bk<w.heap.size∧f.caps.length≤kc∧∀ i,i<f.caps.length→w.cell? ⟨bk,i*3,none⟩=some (.bool (cx0 f.caps i))∧w.cell? ⟨bk,i*3+1,none⟩=some (.int .i64 (cx1 f.caps i))∧w.cell? ⟨bk,i*3+2,none⟩=some (.int .i64 (cx2 f.caps i)):=by
          rcases HCV.out with ⟨e,_⟩|⟨b,cap,e,e1,e2,e3⟩
          ·omega
          ·cases e;exact ⟨b,rfl,e1,e2,e3⟩
         have hcn:=hcc n hlt
         have y0:wr.cell? ⟨bk,n*3,none⟩=some (.bool (cx0 f.caps n)):=(HI.out.b.cell (p:=⟨bk,n*3,none⟩) hbk).trans hcn.1
         have y1:wr.cell? ⟨bk,n*3+1,none⟩=some (.int .i64 (cA:Int)):=(HI.out.b.cell (p:=⟨bk,n*3+1,none⟩) hbk).trans (by rw [hcn.2.1,hcA])
         have y2:wr.cell? ⟨bk,n*3+2,none⟩=some (.int .i64 (cB:Int)):=(HI.out.b.cell (p:=⟨bk,n*3+2,none⟩) hbk).trans (by rw [hcn.2.2,hcB])
         clear hcn hcc
         cases hpl:cx0 f.caps n with
         |true=>
          rw [hpl] at y0
          have HHp:=hide (show fil (hdl s f) [.s (n+1)]=Lib.itoa ((cA+1:Nat):Int) by rw [hdl_pl hlt hpl,hcA];rfl)
          have HLen:=hide (itoa_len (u:=cA+1) (by omega))
          clear hpl hcA hcB
          have HC:=hide (fun w'=>dec_any (cA+1) w' (by omega))
          rw [show (((cA+1:Nat):Int))=(cA:Int)+1 by omega] at HC HHp HLen
          generalize Lib.itoa ((cA:Int)+1)=D at *
          rcases HB3.out with hbz|⟨hbz,hcz⟩
          ·skip
           go_wp2_with (first
            |(have _z:=HI
              go_at_call 16
              clear _z
              refine (HC.out _).mono ?_
              rintro e w4 ⟨rfl,hb4⟩
              have HO4:=hide (owns_keep HI.out.o (Keeps.of hb4 (Nat.le_refl _) (fun _=>False)) (fun _ x=>x.elim))
              have HB4:=hide hb4
              have hs4:=hb4.size
              clear hb4)
            |(have _z:=HO4
              at_builtin
              clear _z
              refine app_str rfl _ _ rfl (w.heap.size+1) _ L ⟨D.toArray⟩ HO4.out rfl rfl (by have:=HLen.out;show L.length+D.length≤_;omega) (by omega) ?_
              intro v' w5 h1 hn h2 h3
              have HI5:=hide (HI.out.step (w5:=w5) (v':=v') (M:=D) 2 (.s (n+1)) h1 (hn HI.out.nn) (fun B w0 hb hB=>h2 B w0 (hb.trans (HB4.out.mono (by omega))) hB) (by have:=HLen.out;omega) (by omega) (by omega) HRd.out HHp.out)
              clear h1 hn h2 h3)
            |fail)
           go_roundw
           case rel=>exact ⟨_,k+2,fu,by simp;omega,by omega,by omega,HI5⟩
           case measure=>simp [ivN];omega
          ·skip
           go_wp2_with (first
            |(have _z:=HI
              go_at_call 16
              clear _z
              refine (HC.out _).mono ?_
              rintro e w4 ⟨rfl,hb4⟩
              have HO4:=hide (owns_keep HI.out.o (Keeps.of hb4 (Nat.le_refl _) (fun _=>False)) (fun _ x=>x.elim))
              have HB4:=hide hb4
              have hs4:=hb4.size
              clear hb4)
            |(have _z:=HO4
              at_builtin
              clear _z
              refine app_str rfl _ _ rfl (w.heap.size+1) _ L ⟨D.toArray⟩ HO4.out rfl rfl (by have:=HLen.out;show L.length+D.length≤_;omega) (by omega) ?_
              intro v' w5 h1 hn h2 h3
              have HI5:=hide (HI.out.step (w5:=w5) (v':=v') (M:=D) 2 (.s (n+1)) h1 (hn HI.out.nn) (fun B w0 hb hB=>h2 B w0 (hb.trans (HB4.out.mono (by omega))) hB) (by have:=HLen.out;omega) (by omega) (by omega) HRd.out HHp.out)
              clear h1 hn h2 h3)
            |fail)
           go_roundw
           case rel=>exact ⟨_,k+2,fu,by simp;omega,by omega,by omega,HI5⟩
           case measure=>simp [ivN];omega
         |false=>
          rw [hpl] at y0
          have HHp:=hide (show fil (hdl s f) [.s (n+1)]=(s.extract cA cB).data.toList by rw [hdl_cut hlt hpl,hcA,hcB];rfl)
          have HM:=hide (ext_len (s:=s) (a:=cA) (b:=cB) hcl2 hs 2 (by omega))
          have hsl:∀ w':World,(Instr.slice 9 (.string s) (some (.int .i64 (cA:Int))) (some (.int .i64 (cB:Int))) none).run Tryz.prog w'=.ok (.string (s.extract cA cB)) w':=fun w'=>sl_run s cA cB hcl1 hcl2 w'
          have hez:(s.extract cA cB).size≤65536:=by rw [ByteArray.size_extract];omega
          clear hpl hcA hcB
          generalize s.extract cA cB=E at *
          have x2d:wr.drew.cell? ⟨w.heap.size,2,none⟩=some (.slice (some ⟨bk,0,none⟩) f.caps.length kc):=x2
          have y1d:wr.drew.cell? ⟨bk,n*3+1,none⟩=some (.int .i64 (cA:Int)):=y1
          have y2d:wr.drew.cell? ⟨bk,n*3+2,none⟩=some (.int .i64 (cB:Int)):=y2
          rcases HB3.out with hbz|⟨hbz,hcz⟩
          ·skip
           go_wp2_with fail
           go_region_law (first
            |(have _z:=HI
              rw [if_pos (by rfl)]
              clear _z
              refine app_str_op (wr:=wr.drew) _ _ rfl (w.heap.size+1) _ L E HI.out.o rfl rfl (by omega) hsz ?_
              intro v' w5 h1 hn h2 h3
              have HI5:=hide (HI.out.step (w5:=w5) (v':=v') 2 (.s (n+1)) h1 (hn HI.out.nn) (fun B w0 hb hB=>h2 B w0 hb.drew hB) HM.out (by omega) (by omega) HRd.out HHp.out)
              clear h1 hn h2 h3)
            |fail)
           all_goals
            go_wp2_with fail
            go_roundw
            case rel=>exact ⟨_,k+2,fu,by simp;omega,by omega,by omega,HI5⟩
            case measure=>simp [ivN];omega
          ·skip
           go_wp2_with fail
           go_region_law (first
            |(have _z:=HI
              rw [if_pos (by rfl)]
              clear _z
              refine app_str_op (wr:=wr.drew) _ _ rfl (w.heap.size+1) _ L E HI.out.o rfl rfl (by omega) hsz ?_
              intro v' w5 h1 hn h2 h3
              have HI5:=hide (HI.out.step (w5:=w5) (v':=v') 2 (.s (n+1)) h1 (hn HI.out.nn) (fun B w0 hb hB=>h2 B w0 hb.drew hB) HM.out (by omega) (by omega) HRd.out HHp.out)
              clear h1 hn h2 h3)
            |fail)
           all_goals
            go_wp2_with fail
            go_roundw
            case rel=>exact ⟨_,k+2,fu,by simp;omega,by omega,by omega,HI5⟩
            case measure=>simp [ivN];omega
        ·have hlt2:¬ ((n:Int)<(f.caps.length:Int)):=by omega
         have HI5:=hide (HI.out.skip 2 (.s (n+1)) (by omega) (by omega) HRd.out (hdl_out hlt))
         clear HI
         rcases HB3.out with hbz|⟨hbz,hcz⟩
         ·skip
          go_wp2_with fail
          go_roundw
          case rel=>exact ⟨L,k+2,fu,by simp;omega,by omega,by omega,HI5⟩
          case measure=>simp [ivN];omega
         ·skip
          go_wp2_with fail
          go_roundw
          case rel=>exact ⟨L,k+2,fu,by simp;omega,by omega,by omega,HI5⟩
          case measure=>simp [ivN];omega
    ·have h22:(((k:Int)+1)==(t.size:Int))=true:=by simp;omega
     have HV:=hide (show T=none by rw [HI.out.v,rdRp_cut hin h37 h2];rfl)
     have HB:=hide HI.out.b
     clear h37
     generalize hb t k=x at *
     go_wp2_with fail
     refine bodyPost_ret (v:=.tuple #[.string ⟨#[]⟩,.bool false]) ?_ rfl ⟨HB.out,.inl ⟨HV.out,rfl⟩⟩
     simp [results,Tryz.results7,go_sem]
   ·have hq37:(hb t k==37)=false:=by simp [h37]
    have HRd:=hide (rdRp_byte (caps:=c) (f:=fu) hin h37)
    have hby:=hb_nat hin
    clear h37
    obtain ⟨y,hy⟩:∃ y,t[k]=y:=⟨_,rfl⟩
    rw [hy] at hby HRd
    rw [hby] at hi0 hq37
    clear hby hy
    go_wp2_with (first
     |(have _z:=HI
       at_builtin
       clear _z
       refine app_b rfl _ _ rfl (w.heap.size+1) _ L y HI.out.o rfl rfl (by omega) hsz ?_
       intro v' w5 h1 hn h2 h3
       have HI5:=hide (HI.out.step (w5:=w5) (v':=v') (M:=[y]) 1 (.b y) h1 hn h2 (by simp) (by omega) (by omega) HRd.out rfl)
       clear h1 hn h2 h3)
     |fail)
    go_roundw
    case rel=>exact ⟨L++[y],k+1,fu,by simp,by omega,by omega,HI5⟩
    case measure=>simp [ivN];omega
  ·have hin2:¬ ((k:Int)<(t.size:Int)):=by omega
   have HV:=hide (show T=some L by rw [HI.out.v,rdRp_end hin];simp [fil])
   have HB:=hide HI.out.b
   have hcs:=ow_string HI.out.o
   go_wp2_with fail
   refine bodyPost_ret (v:=.tuple #[.string ⟨L.toArray⟩,.bool true]) ?_ rfl ⟨HB.out,.inr ⟨L,HV.out,rfl⟩⟩
   simp [results,Tryz.results7,go_sem]
end Go.Proofs.YtlgodacccilabaaGreatDoor
