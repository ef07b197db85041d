import Derived.Test.YtlgodacccilabaaGreatDoorJGH9
import Derived.Test.YtlgodacccilabaaGreatDoorJGH3
namespace Go.Proofs.YtlgodacccilabaaGreatDoor
open Go Go.RowKit
set_option linter.unusedVariables false
structure RcI (w wr:World) (B R:Nat) (s P:ByteArray) (sv:Nat→Value) (dn:Nat) (tl:Bool) (L:List UInt8) (ps:List Pc) (f:Fd) (cv:Value) (Hb:Nat):Prop where
 i:∃ ad bf,RwI wr B R s P sv dn tl L ad bf
 x:RowF wr 32 w.heap.size 3 (fun j=>#[Value.int .i64 (f.fr:Int),.int .i64 (f.en:Int),cv].getD j (.bool false))
 h:RowF wr 109 Hb 10 (hvV (hdB s f))
 v:∀ i,i<10→AhV wr (sv i) (slF i ps 0 0)
 k:KpR R w wr
section
variable {w wr w' : World} {B R : Nat} {s P : ByteArray} {sv : Nat → Value} {dn dn' : Nat} {tl tl' : Bool} {L L' : List UInt8} {ps : List Pc} {f : Fd} {cv : Value} {Hb : Nat}
theorem RcI.drew (h:RcI w wr B R s P sv dn tl L ps f cv Hb):RcI w wr.drew B R s P sv dn tl L ps f cv Hb:=by
 obtain ⟨ad,bf,hi⟩:=h.i
 exact ⟨⟨ad,bf,hi.drew⟩,h.x,h.h,h.v,⟨⟨h.k.k.os,h.k.k.tape,h.k.k.output,h.k.k.size,h.k.k.block⟩,h.k.o⟩⟩
theorem RcI.on (h:RcI w wr B R s P sv dn tl L ps f cv Hb) (hR:R<w.heap.size) (hH:w.heap.size≤Hb) (k:KpR R wr w') (hn:∃ ad bf,RwI w' B R s P sv dn' tl' L' ad bf):RcI w w' B R s P sv dn' tl' L' ps f cv Hb:=by
 obtain ⟨ad,bf,hi⟩:=h.i
 exact ⟨hn,k.row hi h.x (by decide) (by omega),k.row hi h.h (by decide) (by omega),fun i hj=>(h.v i hj).stay (fun g N f hr=>k.row hi hr (by decide) (fun e=>RowF.apart hr hi.r.f (by decide) e)),h.k.trans k⟩
theorem RcI.low (h:RcI w wr B R s P sv dn tl L ps f cv Hb) (hR:R<w.heap.size) (hH:w.heap.size≤Hb) (k:Below wr.heap.size wr w'):RcI w w' B R s P sv dn tl L ps f cv Hb:=by
 obtain ⟨ad,bf,hi⟩:=h.i
 have kk:=Keeps.of k (Nat.le_refl _) (fun _=>False)
 exact h.on hR hH (KpR.new hi kk) ⟨ad,bf,hi.low kk⟩
end
theorem ten_keeps {w:World} {g:Nat} (v:Nat→Value):Keeps w ((((((((((w.setCell ⟨g,0,none⟩ (v 0)).setCell ⟨g,1,none⟩ (v 1)).setCell ⟨g,2,none⟩ (v 2)).setCell ⟨g,3,none⟩ (v 3)).setCell ⟨g,4,none⟩ (v 4)).setCell ⟨g,5,none⟩ (v 5)).setCell ⟨g,6,none⟩ (v 6)).setCell ⟨g,7,none⟩ (v 7)).setCell ⟨g,8,none⟩ (v 8)).setCell ⟨g,9,none⟩ (v 9)) (fun b=>b=g):=
 ((((((((((Keeps.refl w (fun b=>b=g)).setCell (S:=fun b=>b=g) (g:=g) (j:=0) rfl (v 0)).setCell (S:=fun b=>b=g) (g:=g) (j:=1) rfl (v 1)).setCell (S:=fun b=>b=g) (g:=g) (j:=2) rfl (v 2)).setCell (S:=fun b=>b=g) (g:=g) (j:=3) rfl (v 3)).setCell (S:=fun b=>b=g) (g:=g) (j:=4) rfl (v 4)).setCell (S:=fun b=>b=g) (g:=g) (j:=5) rfl (v 5)).setCell (S:=fun b=>b=g) (g:=g) (j:=6) rfl (v 6)).setCell (S:=fun b=>b=g) (g:=g) (j:=7) rfl (v 7)).setCell (S:=fun b=>b=g) (g:=g) (j:=8) rfl (v 8)).setCell (S:=fun b=>b=g) (g:=g) (j:=9) rfl (v 9)
theorem belowDr1 {w1 w2:World} (h:Below w1.drew.heap.size w1.drew w2):Below w1.heap.size w1 w2:=⟨h.os,h.tape,h.output,h.size,h.block⟩
theorem below_past {w1 w2:World} {o:Obj} (h:Below (w1.alloc o).drew.heap.size (w1.alloc o).drew w2):Below w1.heap.size w1 w2:=
 (show Below w1.heap.size w1 (w1.alloc o).drew from ((Below.refl _ _).alloc (Nat.le_refl _) _).drew).trans (h.mono (by show w1.heap.size≤(w1.alloc o).heap.size;simp))
section
variable {w w1 w2 : World} {B R : Nat} {s P : ByteArray} {sv : Nat → Value} {dn : Nat} {tl : Bool} {L : List UInt8} {ad bf : Value} {ps : List Pc} {f : Fd} {cv : Value} {Hb : Nat}
theorem RcI.ini (hi:RwI w1 B R s P sv dn tl L ad bf) (hx:RowF w1 32 w.heap.size 3 (fun j=>#[Value.int .i64 (f.fr:Int),.int .i64 (f.en:Int),cv].getD j (.bool false))) (hv:∀ i,i<10→AhV w1 (sv i) (slF i ps 0 0)) (hk:KpR R w w1) (hb:Below w1.heap.size w1 w2)
 (hR:R<w.heap.size) (hh:RowF w2 109 Hb 10 (hvV (hdB s f))):RcI w w2 B R s P sv dn tl L ps f cv Hb:=by
 have kk:=Keeps.of hb (Nat.le_refl _) (fun _=>False)
 exact ⟨⟨ad,bf,hi.low kk⟩,hx.keep kk (fun x=>x),hh,fun i hj=>(hv i hj).low hb,hk.more hR kk (fun _ x=>x.elim)⟩
theorem RcI.put (hi:RwI w1 B R s P sv dn tl L ad bf) (hx:RowF w1 32 w.heap.size 3 (fun j=>#[Value.int .i64 (f.fr:Int),.int .i64 (f.en:Int),cv].getD j (.bool false))) (hv:∀ i,i<10→AhV w1 (sv i) (slF i ps 0 0)) (hk:KpR R w w1) (hb:Below w1.heap.size w1 w2)
 (hR:R<w.heap.size) (hz:w.heap.size<w1.heap.size) (hh:RowF w2 109 w1.heap.size 10 (fun _=>.string ⟨#[]⟩)):RcI w ((((((((((w2.setCell ⟨w1.heap.size,0,none⟩ (hvV (hdB s f) 0)).setCell ⟨w1.heap.size,1,none⟩ (hvV (hdB s f) 1)).setCell ⟨w1.heap.size,2,none⟩ (hvV (hdB s f) 2)).setCell ⟨w1.heap.size,3,none⟩ (hvV (hdB s f) 3)).setCell ⟨w1.heap.size,4,none⟩ (hvV (hdB s f) 4)).setCell ⟨w1.heap.size,5,none⟩ (hvV (hdB s f) 5)).setCell ⟨w1.heap.size,6,none⟩ (hvV (hdB s f) 6)).setCell ⟨w1.heap.size,7,none⟩ (hvV (hdB s f) 7)).setCell ⟨w1.heap.size,8,none⟩ (hvV (hdB s f) 8)).setCell ⟨w1.heap.size,9,none⟩ (hvV (hdB s f) 9)) B R s P sv dn tl L ps f cv w1.heap.size:=by
 have kk:=Keeps.of hb (Nat.le_refl _) (fun _=>False)
 have kt:=ten_keeps (w:=w2) (g:=w1.heap.size) (hvV (hdB s f))
 have hx2:=hx.keep kk (fun x=>x)
 have hv2:=fun i hj=>(hv i hj).low hb
 exact ⟨⟨ad,bf,(hi.low kk).past kt hh (by decide) (by have:=hi.r.f.lt;omega)⟩,hx2.keep kt (fun e=>by omega),ten_set _ hh,fun i hj=>(hv2 i hj).stay (fun g N f9 hr=>hr.keep kt (fun e=>RowF.apart hr hh (by decide) e)),(hk.more hR kk (fun _ x=>x.elim)).more hR kt (fun b (e:b=w1.heap.size)=>by omega)⟩
end
def RcR (w:World) (B R:Nat) (s P:ByteArray) (sv:Nat→Value) (dn:Nat) (tl:Bool) (L:List UInt8) (ps:List Pc) (f:Fd) (e:Ending) (w':World):Prop:=
 (∃ v,e=.returned v)∧KpR R w w'∧
 ((tl=true∧∃ ad bf,RwI w' B R s P sv dn true L ad bf)∨
  (tl=false∧65536<L.length+(f.fr-dn)+(fil (hdl s f) ps).length∧∃ ad bf,RwI w' B R s P sv f.en true L ad bf)∨
  (tl=false∧L.length+(f.fr-dn)+(fil (hdl s f) ps).length≤65536∧∃ ad bf,RwI w' B R s P sv f.en false (L++cutL s dn f.fr++fil (hdl s f) ps) ad bf))
set_option maxHeartbeats 6400000 in
set_option maxRecDepth 100000 in
theorem replace_any (w:World) (B R:Nat) (s P:ByteArray) (sv:Nat→Value) (dn:Nat) (tl:Bool) (L:List UInt8) (ad bf:Value) (ps:List Pc) (q:Pt) (f:Fd) (cv:Value) (hI:RwI w B R s P sv dn tl L ad bf) (hs:s.size≤65536) (hf:FdK s q f) (hqc:q.caps≤16)
 (hd:tl=false→dn≤f.fr) (hL:L.length≤65536) (hB:B≤w.heap.size) (hR:R<w.heap.size) (hP:P.data.toList=pla ps) (hok:∀ n,Pc.s n∈ps→n<10) (hpl:ps.length≤1048576) (hv:∀ i,i<10→AhV w (sv i) (slF i ps 0 0))
 (hcv:CpA w cv f.caps.length (cx0 f.caps) (cx1 f.caps) (cx2 f.caps)) (ht:Tab w) (hg:0<w.heap.size):
 Calls Tryz.prog 23 #[.pointer (some ⟨R,0,none⟩),.agg #[.int .i64 (f.fr:Int),.int .i64 (f.en:Int),cv]] w fun e w'=>RcR w B R s P sv dn tl L ps f e w':=by
 obtain ⟨ac,kc,rfl⟩:=hcv.val
 have hb1:=b_1 w (.cells #[.int .i64 (f.fr:Int),.int .i64 (f.en:Int),.slice ac f.caps.length kc] 32)
 have k1:=Keeps.of hb1 (Nat.le_refl _) (fun _=>False)
 have hI1:=hI.low k1
 have HX:=hide (RowF.mk' w 32 #[.int .i64 (f.fr:Int),.int .i64 (f.en:Int),.slice ac f.caps.length kc])
 have c15:(w.alloc (.cells #[.int .i64 (f.fr:Int),.int .i64 (f.en:Int),.slice ac f.caps.length kc] 32)).cell? ⟨R,15,none⟩=some (.bool tl):=hI1.r.f.cell (j:=15) (by omega)
 have HK1:=hide (KpR.new hI k1)
 have HI1:=hide hI1
 cases tl with
 |true=>
  have HF:=hide (show RcR w B R s P sv dn true L ps f (.returned (.tuple #[])) (w.alloc (.cells #[.int .i64 (f.fr:Int),.int .i64 (f.en:Int),.slice ac f.caps.length kc] 32)) from ⟨⟨_,rfl⟩,HK1.out,.inl ⟨rfl,ad,bf,HI1.out⟩⟩)
  clear hI hI1 hcv ht hv hP hok
  go_enter Tryz.func23,Tryz.ntmps23
  go_wp2_with fail
  go_end0
  exact HF.out
 |false=>
  have hdn:=hd rfl
  have hfe:=hf.le
  have hen:=hf.en
  have hcl:f.caps.length≤16:=by have:=hf.cn;omega
  have c0:(w.alloc (.cells #[.int .i64 (f.fr:Int),.int .i64 (f.en:Int),.slice ac f.caps.length kc] 32)).cell? ⟨R,0,none⟩=some (.string s):=hI1.r.f.cell (j:=0) (by omega)
  have d0:(w.alloc (.cells #[.int .i64 (f.fr:Int),.int .i64 (f.en:Int),.slice ac f.caps.length kc] 32)).drew.cell? ⟨R,0,none⟩=some (.string s):=c0
  have x0:(w.alloc (.cells #[.int .i64 (f.fr:Int),.int .i64 (f.en:Int),.slice ac f.caps.length kc] 32)).cell? ⟨w.heap.size,0,none⟩=some (.int .i64 f.fr):=HX.out.cell (j:=0) (by simp)
  have x1:(w.alloc (.cells #[.int .i64 (f.fr:Int),.int .i64 (f.en:Int),.slice ac f.caps.length kc] 32)).cell? ⟨w.heap.size,1,none⟩=some (.int .i64 f.en):=HX.out.cell (j:=1) (by simp)
  have x2:(w.alloc (.cells #[.int .i64 (f.fr:Int),.int .i64 (f.en:Int),.slice ac f.caps.length kc] 32)).cell? ⟨w.heap.size,2,none⟩=some (.slice ac f.caps.length kc):=HX.out.cell (j:=2) (by simp)
  have d1:(w.alloc (.cells #[.int .i64 (f.fr:Int),.int .i64 (f.en:Int),.slice ac f.caps.length kc] 32)).drew.cell? ⟨w.heap.size,0,none⟩=some (.int .i64 f.fr):=x0
  have d2:(w.alloc (.cells #[.int .i64 (f.fr:Int),.int .i64 (f.en:Int),.slice ac f.caps.length kc] 32)).drew.cell? ⟨w.heap.size,1,none⟩=some (.int .i64 f.en):=x1
  have d3:(w.alloc (.cells #[.int .i64 (f.fr:Int),.int .i64 (f.en:Int),.slice ac f.caps.length kc] 32)).drew.cell? ⟨w.heap.size,2,none⟩=some (.slice ac f.caps.length kc):=x2
  have HC:=hide (fun (w':World) (hb:Below (w.alloc (.cells #[.int .i64 (f.fr:Int),.int .i64 (f.en:Int),.slice ac f.caps.length kc] 32)).heap.size (w.alloc (.cells #[.int .i64 (f.fr:Int),.int .i64 (f.en:Int),.slice ac f.caps.length kc] 32)) w')=>show Calls Tryz.prog 36 #[.string s,.agg #[.int .i64 (f.fr:Int),.int .i64 (f.en:Int),.slice ac f.caps.length kc]] w' (fun e w''=>e=.returned (.agg #[.string (hdB s f 0),.string (hdB s f 1),.string (hdB s f 2),.string (hdB s f 3),.string (hdB s f 4),.string (hdB s f 5),.string (hdB s f 6),.string (hdB s f 7),.string (hdB s f 8),.string (hdB s f 9)])∧Below w'.heap.size w' w'') from
   (heldBy_any s f (.slice ac f.caps.length kc) w' hs hfe hen hf.cp hcl ((hcv.low hb1).low hb) (tab_same ht ((hb.block _ (by have:=hb1.size;omega)).trans (hb1.block _ hg))) (by have:=hb.size;have:=hb1.size;omega)).mono (by rintro e w9 ⟨rfl,hb9⟩;exact ⟨rfl,hb9⟩))
  have HV1:=hide (fun i hi=>(hv i hi).low hb1)
  have HPO:=hide (And.intro hP hok)
  have HFK:=hide hf
  have hz1:w.heap.size<(w.alloc (.cells #[.int .i64 (f.fr:Int),.int .i64 (f.en:Int),.slice ac f.caps.length kc] 32)).heap.size:=by simp
  clear hI hI1 hcv ht hv hP hok hb1 k1 hd hf
  go_enter Tryz.func23,Tryz.ntmps23
  go_wp2_with fail
  generalize w.alloc (.cells #[.int .i64 (f.fr:Int),.int .i64 (f.en:Int),.slice ac f.caps.length kc] 32)=w1 at *
  rename_i K2 hK2
  have HREST:∀ (Hb:Nat) (w3:World),w.heap.size≤Hb→RcI w w3 B R s P sv dn false L ps f (.slice ac f.caps.length kc) Hb→K2 { tmps:=#[.pointer (some ⟨R,0,none⟩),.agg #[.int .i64 (f.fr:Int),.int .i64 (f.en:Int),.slice ac f.caps.length kc],undef,.pointer (some ⟨w.heap.size,0,none⟩),.pointer (some ⟨Hb,0,none⟩),.pointer (some ⟨R,0,none⟩),.pointer (some ⟨R,0,none⟩),.pointer (some ⟨R,15,none⟩),.bool false,.pointer (some ⟨R,0,none⟩),.pointer (some ⟨R,0,none⟩),.pointer (some ⟨R,0,none⟩),.string s,.agg #[.int .i64 (f.fr:Int),.int .i64 (f.en:Int),.slice ac f.caps.length kc],.agg #[.string (hdB s f 0),.string (hdB s f 1),.string (hdB s f 2),.string (hdB s f 3),.string (hdB s f 4),.string (hdB s f 5),.string (hdB s f 6),.string (hdB s f 7),.string (hdB s f 8),.string (hdB s f 9)],undef,undef,undef,undef,undef,undef,undef,undef,undef,undef,undef,undef,undef,undef,undef,undef,undef,undef,undef,undef,undef,undef,undef,undef,undef,undef,undef,undef,undef,undef,undef,undef,undef,undef,undef,undef,undef,undef,undef,undef,undef,undef,undef],defers:=[] } w3:=by
   clear x0 x1 x2 d0 d1 d2 d3 c0 c15 HC HX HK1 HI1 HV1
   intro Hb w3 hH hI3
   refine hK2 _ _ ?_
   clear hK2
   obtain ⟨ad3,bf3,hi3⟩:=hI3.i
   have c12:w3.cell? ⟨R,12,none⟩=some (.int .i64 (dn:Int)):=hi3.r.f.cell (j:=12) (by omega)
   have c12d:w3.drew.cell? ⟨R,12,none⟩=some (.int .i64 (dn:Int)):=c12
   have y0:w3.cell? ⟨w.heap.size,0,none⟩=some (.int .i64 (f.fr:Int)):=hI3.x.cell (j:=0) (by omega)
   have y0d:w3.drew.cell? ⟨w.heap.size,0,none⟩=some (.int .i64 (f.fr:Int)):=y0
   have h0:w3.cell? ⟨Hb,0,none⟩=some (.string (hdB s f 0)):=hI3.h.cell (j:=0) (by omega)
   have hd0:w3.drew.cell? ⟨Hb,0,none⟩=some (.string (hdB s f 0)):=h0
   have h1:w3.cell? ⟨Hb,1,none⟩=some (.string (hdB s f 1)):=hI3.h.cell (j:=1) (by omega)
   have hd1:w3.drew.cell? ⟨Hb,1,none⟩=some (.string (hdB s f 1)):=h1
   have h2:w3.cell? ⟨Hb,2,none⟩=some (.string (hdB s f 2)):=hI3.h.cell (j:=2) (by omega)
   have hd2:w3.drew.cell? ⟨Hb,2,none⟩=some (.string (hdB s f 2)):=h2
   have h3:w3.cell? ⟨Hb,3,none⟩=some (.string (hdB s f 3)):=hI3.h.cell (j:=3) (by omega)
   have hd3:w3.drew.cell? ⟨Hb,3,none⟩=some (.string (hdB s f 3)):=h3
   have h4:w3.cell? ⟨Hb,4,none⟩=some (.string (hdB s f 4)):=hI3.h.cell (j:=4) (by omega)
   have hd4:w3.drew.cell? ⟨Hb,4,none⟩=some (.string (hdB s f 4)):=h4
   have h5:w3.cell? ⟨Hb,5,none⟩=some (.string (hdB s f 5)):=hI3.h.cell (j:=5) (by omega)
   have hd5:w3.drew.cell? ⟨Hb,5,none⟩=some (.string (hdB s f 5)):=h5
   have h6:w3.cell? ⟨Hb,6,none⟩=some (.string (hdB s f 6)):=hI3.h.cell (j:=6) (by omega)
   have hd6:w3.drew.cell? ⟨Hb,6,none⟩=some (.string (hdB s f 6)):=h6
   have h7:w3.cell? ⟨Hb,7,none⟩=some (.string (hdB s f 7)):=hI3.h.cell (j:=7) (by omega)
   have hd7:w3.drew.cell? ⟨Hb,7,none⟩=some (.string (hdB s f 7)):=h7
   have h8:w3.cell? ⟨Hb,8,none⟩=some (.string (hdB s f 8)):=hI3.h.cell (j:=8) (by omega)
   have hd8:w3.drew.cell? ⟨Hb,8,none⟩=some (.string (hdB s f 8)):=h8
   have h9:w3.cell? ⟨Hb,9,none⟩=some (.string (hdB s f 9)):=hI3.h.cell (j:=9) (by omega)
   have hd9:w3.drew.cell? ⟨Hb,9,none⟩=some (.string (hdB s f 9)):=h9
   have HI3:=hide hI3.drew
   obtain ⟨ln,hln⟩:∃ ln,lnC P.size (fun i=>(slF i ps 0 0).length) (fun i=>(hdB s f i).size) 10=ln:=⟨_,rfl⟩
   have hPz:P.size=(pla ps).length:=by
    have h1:P.data.toList.length=P.size:=Array.length_toList
    rw [←h1,HPO.out.1]
   have hPl:P.size≤1048576:=by rw [hPz];have:=pla_len ps;omega
   have hhz:∀ i,(hdB s f i).size=(hdl s f i).length:=fun i=>by show (hdl s f i).toArray.size=_;simp
   have HLF:=hide (show ln=(fil (hdl s f) ps).length by
    rw [←lnU_fil (hdl s f) ps HPO.out.2,←lnC_lnU,←hln,hPz]
    simp only [hhz])
   have hlb:ln≤100000000000:=by
    rw [HLF.out]
    have h1:=fil_len (hdl_len hs HFK.out) ps
    omega
   have HLn:=hide (show Calls Tryz.prog 38 #[.pointer (some ⟨R,1,none⟩),.agg #[.string (hdB s f 0),.string (hdB s f 1),.string (hdB s f 2),.string (hdB s f 3),.string (hdB s f 4),.string (hdB s f 5),.string (hdB s f 6),.string (hdB s f 7),.string (hdB s f 8),.string (hdB s f 9)]] w3.drew _ from
    length_any R P sv (fun i=>(slF i ps 0 0).length) (hdB s f) w3.drew hPl (fun i _=>by have:=slF_len i ps 0 0;omega) (fun i _=>by rw [hhz];exact hdl_len hs HFK.out i) (hi3.drew.r.f.cell (j:=1) (by omega))
     (fun i hi=>(hi3.drew.r.f.cell (j:=i+2) (by omega)).trans (by simp only [rwF];rw [if_neg (by omega),if_neg (by omega),if_pos (by omega),Nat.add_sub_cancel])) (fun i hi=>by obtain ⟨a,cap,e,_⟩:=hI3.v i hi;exact ⟨a,cap,e⟩))
   rw [hln] at HLn
   obtain ⟨x,hx⟩:∃ x,decide ((65536:Int)<(L.length:Int)+((f.fr:Int)-(dn:Int)+(ln:Int)))=x:=⟨_,rfl⟩
   have HHr:=hide (show ∀ w4,RcI w w4 B R s P sv dn false L ps f (.slice ac f.caps.length kc) Hb→Calls Tryz.prog 37 #[.pointer (some ⟨R,0,none⟩),.int .i64 ((f.fr:Int)-(dn:Int)+(ln:Int))] w4 (fun e w5=>e=.returned (.bool (!x))∧RcI w w5 B R s P sv dn x L ps f (.slice ac f.caps.length kc) Hb) from fun w4 h4=>by
    obtain ⟨ad4,bf4,hi4⟩:=h4.i
    refine (hasRoom_any w4 B R s P sv dn false L ad4 bf4 ((f.fr:Int)-(dn:Int)+(ln:Int)) hi4 (by omega) (by omega)).mono ?_
    rintro e w5 ⟨rfl,h5⟩
    rw [Bool.false_or,hx] at h5 ⊢
    exact ⟨rfl,h4.on hR hH h5.2.1 ⟨ad4,bf4,h5.1⟩⟩)
   have HXX:=hide hx
   have hw1:IntKind.i64.wrap ((f.fr:Int)-(dn:Int))=(f.fr:Int)-(dn:Int):=IntWalk.i64_in _ (by omega)
   have hw2:IntKind.i64.wrap ((f.fr:Int)-(dn:Int)+(ln:Int))=(f.fr:Int)-(dn:Int)+(ln:Int):=IntWalk.i64_in _ (by omega)
   clear hi3 hI3 hx hln hPz hhz
   go_wp2_with fail
   rename_i K3 hK3
   have HREST2:∀ w5:World,RcI w w5 B R s P sv dn x L ps f (.slice ac f.caps.length kc) Hb→K3 { tmps:=#[.pointer (some ⟨R,0,none⟩),.agg #[.int .i64 (f.fr:Int),.int .i64 (f.en:Int),.slice ac f.caps.length kc],undef,.pointer (some ⟨w.heap.size,0,none⟩),.pointer (some ⟨Hb,0,none⟩),.pointer (some ⟨R,0,none⟩),.pointer (some ⟨R,0,none⟩),.pointer (some ⟨R,15,none⟩),.bool false,.pointer (some ⟨R,0,none⟩),.pointer (some ⟨R,0,none⟩),.pointer (some ⟨R,0,none⟩),.string s,.agg #[.int .i64 (f.fr:Int),.int .i64 (f.en:Int),.slice ac f.caps.length kc],.agg #[.string (hdB s f 0),.string (hdB s f 1),.string (hdB s f 2),.string (hdB s f 3),.string (hdB s f 4),.string (hdB s f 5),.string (hdB s f 6),.string (hdB s f 7),.string (hdB s f 8),.string (hdB s f 9)],.pointer (some ⟨R,0,none⟩),.pointer (some ⟨w.heap.size,0,none⟩),.int .i64 (f.fr:Int),.pointer (some ⟨R,0,none⟩),.pointer (some ⟨R,0,none⟩),.pointer (some ⟨R,12,none⟩),.int .i64 (dn:Int),.int .i64 ((f.fr:Int)-(dn:Int)),.pointer (some ⟨R,0,none⟩),.pointer (some ⟨R,0,none⟩),.pointer (some ⟨R,1,none⟩),.agg #[.string (hdB s f 0),.string (hdB s f 1),.string (hdB s f 2),.string (hdB s f 3),.string (hdB s f 4),.string (hdB s f 5),.string (hdB s f 6),.string (hdB s f 7),.string (hdB s f 8),.string (hdB s f 9)],.int .i64 (ln:Int),.int .i64 ((f.fr:Int)-(dn:Int)+(ln:Int)),.bool (!x),undef,undef,undef,undef,undef,undef,undef,undef,undef,undef,undef,undef,undef,undef,undef,undef,undef,undef,undef,undef,undef,undef,undef,undef,undef,undef,undef,undef],defers:=[] } w5:=by
    clear h0 hd0 h1 hd1 h2 hd2 h3 hd3 h4 hd4 h5 hd5 h6 hd6 h7 hd7 h8 hd8 h9 hd9 c12 c12d y0 y0d HI3 HLn HHr hw1 hw2
    intro w5 hI5
    refine hK3 _ _ ?_
    clear hK3
    obtain ⟨ad5,bf5,hi5⟩:=hI5.i
    have y1:w5.cell? ⟨w.heap.size,1,none⟩=some (.int .i64 (f.en:Int)):=hI5.x.cell (j:=1) (by omega)
    cases x with
    |true=>
     have c12:w5.cell? ⟨R,12,none⟩=some (.int .i64 (dn:Int)):=hi5.r.f.cell (j:=12) (by omega)
     have z12:w5.frozen? ⟨R,12,none⟩=false:=hi5.r.f.frz 12
     have HF:=hide (show RcR w B R s P sv dn false L ps f (.returned (.tuple #[])) (w5.setCell ⟨R,12,none⟩ (.int .i64 (f.en:Int))) from
      ⟨⟨_,rfl⟩,hI5.k.trans (KpR.cell hi5 (by omega) _),.inr (.inl ⟨rfl,by have h1:=of_decide_eq_true HXX.out;have h2:=HLF.out;omega,ad5,bf5,⟨(hi5.r.set (j:=12) (by omega) _).congr (rw_dn _),hi5.a,hi5.setC 12 _⟩⟩)⟩)
     clear hi5 hI5
     go_wp2_with fail
     go_end0
     exact HF.out
    |false=>
     have hsm:L.length+(f.fr-dn)+(fil (hdl s f) ps).length≤65536:=by have h1:=of_decide_eq_false HXX.out;have h2:=HLF.out;omega
     have HSM:=hide hsm
     have e0:w5.cell? ⟨R,0,none⟩=some (.string s):=hi5.r.f.cell (j:=0) (by omega)
     have e0d:w5.drew.cell? ⟨R,0,none⟩=some (.string s):=e0
     have e12:w5.cell? ⟨R,12,none⟩=some (.int .i64 (dn:Int)):=hi5.r.f.cell (j:=12) (by omega)
     have e12d:w5.drew.cell? ⟨R,12,none⟩=some (.int .i64 (dn:Int)):=e12
     have y0:w5.cell? ⟨w.heap.size,0,none⟩=some (.int .i64 (f.fr:Int)):=hI5.x.cell (j:=0) (by omega)
     have y0d:w5.drew.cell? ⟨w.heap.size,0,none⟩=some (.int .i64 (f.fr:Int)):=y0
     have hez:(s.extract dn f.fr).size=f.fr-dn:=by rw [ByteArray.size_extract];omega
     have HEZ:=hide hez
     obtain ⟨zz,hzz⟩:∃ zz,(s.extract dn f.fr).size=zz:=⟨_,rfl⟩
     have hB5:B≤w5.drew.heap.size:=Nat.le_trans hB hI5.k.k.size
     have HW:=hide ((writeS_any w5.drew B R s P sv dn false L ad5 bf5 (s.extract dn f.fr) hi5.drew hB5 (by rw [hez];omega)).mono (fun e w6 h=>(⟨by rw [←hzz];exact h.1,hI5.drew.on hR hH h.2.2 (by obtain ⟨bf6,h6⟩:=h.2.1;exact ⟨_,bf6,h6⟩)⟩:e=.returned (.tuple #[.int .i64 zz,.nilIface])∧RcI w w6 B R s P sv dn false (L++(s.extract dn f.fr).data.toList) ps f (.slice ac f.caps.length kc) Hb)))
     have hsl:∀ w':World,(Instr.slice 9 (.string s) (some (.int .i64 (dn:Int))) (some (.int .i64 (f.fr:Int))) none).run Tryz.prog w'=.ok (.string (s.extract dn f.fr)) w':=fun w'=>sl_run s dn f.fr hdn (by omega) w'
     clear hi5 hI5 hez hsm hzz
     go_wp2_with fail
     rename_i K4 hK4
     have HREST3:∀ w6:World,RcI w w6 B R s P sv dn false (L++(s.extract dn f.fr).data.toList) ps f (.slice ac f.caps.length kc) Hb→K4 { tmps:=#[.pointer (some ⟨R,0,none⟩),.agg #[.int .i64 (f.fr:Int),.int .i64 (f.en:Int),.slice ac f.caps.length kc],undef,.pointer (some ⟨w.heap.size,0,none⟩),.pointer (some ⟨Hb,0,none⟩),.pointer (some ⟨R,0,none⟩),.pointer (some ⟨R,0,none⟩),.pointer (some ⟨R,15,none⟩),.bool false,.pointer (some ⟨R,0,none⟩),.pointer (some ⟨R,0,none⟩),.pointer (some ⟨R,0,none⟩),.string s,.agg #[.int .i64 (f.fr:Int),.int .i64 (f.en:Int),.slice ac f.caps.length kc],.agg #[.string (hdB s f 0),.string (hdB s f 1),.string (hdB s f 2),.string (hdB s f 3),.string (hdB s f 4),.string (hdB s f 5),.string (hdB s f 6),.string (hdB s f 7),.string (hdB s f 8),.string (hdB s f 9)],.pointer (some ⟨R,0,none⟩),.pointer (some ⟨w.heap.size,0,none⟩),.int .i64 (f.fr:Int),.pointer (some ⟨R,0,none⟩),.pointer (some ⟨R,0,none⟩),.pointer (some ⟨R,12,none⟩),.int .i64 (dn:Int),.int .i64 ((f.fr:Int)-(dn:Int)),.pointer (some ⟨R,0,none⟩),.pointer (some ⟨R,0,none⟩),.pointer (some ⟨R,1,none⟩),.agg #[.string (hdB s f 0),.string (hdB s f 1),.string (hdB s f 2),.string (hdB s f 3),.string (hdB s f 4),.string (hdB s f 5),.string (hdB s f 6),.string (hdB s f 7),.string (hdB s f 8),.string (hdB s f 9)],.int .i64 (ln:Int),.int .i64 ((f.fr:Int)-(dn:Int)+(ln:Int)),.bool (!false),.pointer (some ⟨R,0,none⟩),.pointer (some ⟨R,0,none⟩),.pointer (some ⟨R,13,none⟩),.pointer (some ⟨R,0,none⟩),.pointer (some ⟨R,0,none⟩),.pointer (some ⟨R,0,none⟩),.string s,.pointer (some ⟨R,0,none⟩),.pointer (some ⟨R,0,none⟩),.pointer (some ⟨R,12,none⟩),.int .i64 (dn:Int),.pointer (some ⟨w.heap.size,0,none⟩),.int .i64 (f.fr:Int),.string (s.extract dn f.fr),.tuple #[.int .i64 (zz:Int),.nilIface],undef,undef,undef,undef,undef,undef,undef,undef,undef,undef,undef,undef,undef],defers:=[] } w6:=by
      clear e0 e0d e12 e12d y0 y0d y1 HW hsl
      intro w6 hI6
      refine hK4 _ _ ?_
      clear hK4
      obtain ⟨ad6,bf6,hi6⟩:=hI6.i
      have h0:w6.cell? ⟨Hb,0,none⟩=some (.string (hdB s f 0)):=hI6.h.cell (j:=0) (by omega)
      have hd0:w6.drew.cell? ⟨Hb,0,none⟩=some (.string (hdB s f 0)):=h0
      have h1:w6.cell? ⟨Hb,1,none⟩=some (.string (hdB s f 1)):=hI6.h.cell (j:=1) (by omega)
      have hd1:w6.drew.cell? ⟨Hb,1,none⟩=some (.string (hdB s f 1)):=h1
      have h2:w6.cell? ⟨Hb,2,none⟩=some (.string (hdB s f 2)):=hI6.h.cell (j:=2) (by omega)
      have hd2:w6.drew.cell? ⟨Hb,2,none⟩=some (.string (hdB s f 2)):=h2
      have h3:w6.cell? ⟨Hb,3,none⟩=some (.string (hdB s f 3)):=hI6.h.cell (j:=3) (by omega)
      have hd3:w6.drew.cell? ⟨Hb,3,none⟩=some (.string (hdB s f 3)):=h3
      have h4:w6.cell? ⟨Hb,4,none⟩=some (.string (hdB s f 4)):=hI6.h.cell (j:=4) (by omega)
      have hd4:w6.drew.cell? ⟨Hb,4,none⟩=some (.string (hdB s f 4)):=h4
      have h5:w6.cell? ⟨Hb,5,none⟩=some (.string (hdB s f 5)):=hI6.h.cell (j:=5) (by omega)
      have hd5:w6.drew.cell? ⟨Hb,5,none⟩=some (.string (hdB s f 5)):=h5
      have h6:w6.cell? ⟨Hb,6,none⟩=some (.string (hdB s f 6)):=hI6.h.cell (j:=6) (by omega)
      have hd6:w6.drew.cell? ⟨Hb,6,none⟩=some (.string (hdB s f 6)):=h6
      have h7:w6.cell? ⟨Hb,7,none⟩=some (.string (hdB s f 7)):=hI6.h.cell (j:=7) (by omega)
      have hd7:w6.drew.cell? ⟨Hb,7,none⟩=some (.string (hdB s f 7)):=h7
      have h8:w6.cell? ⟨Hb,8,none⟩=some (.string (hdB s f 8)):=hI6.h.cell (j:=8) (by omega)
      have hd8:w6.drew.cell? ⟨Hb,8,none⟩=some (.string (hdB s f 8)):=h8
      have h9:w6.cell? ⟨Hb,9,none⟩=some (.string (hdB s f 9)):=hI6.h.cell (j:=9) (by omega)
      have hd9:w6.drew.cell? ⟨Hb,9,none⟩=some (.string (hdB s f 9)):=h9
      have hB6:B≤w6.drew.heap.size:=Nat.le_trans hB hI6.k.k.size
      have hR6:R<w6.drew.heap.size:=hi6.r.f.lt
      have hexl:(L++(s.extract dn f.fr).data.toList).length=L.length+(f.fr-dn):=by
       have h1:(s.extract dn f.fr).data.toList.length=(s.extract dn f.fr).size:=Array.length_toList
       rw [List.length_append,h1,HEZ.out]
      have HWr:=hide ((show Calls Tryz.prog 40 #[.pointer (some ⟨R,1,none⟩),.pointer (some ⟨R,13,none⟩),.agg #[.string (hdB s f 0),.string (hdB s f 1),.string (hdB s f 2),.string (hdB s f 3),.string (hdB s f 4),.string (hdB s f 5),.string (hdB s f 6),.string (hdB s f 7),.string (hdB s f 8),.string (hdB s f 9)]] w6.drew _ from
       write_any w6.drew B R s P sv dn false (L++(s.extract dn f.fr).data.toList) ad6 bf6 ps (hdl s f) (hdB s f) hi6.drew hB6 hR6 HPO.out.1 (fun i _=>rfl) HPO.out.2 hI6.drew.v (by rw [hexl];have:=HSM.out;omega) hpl).mono
       (fun e w7 h=>(⟨h.1,hI6.drew.on hR hH h.2.2 h.2.1⟩:(∃ v,e=.returned v)∧RcI w w7 B R s P sv dn false (L++(s.extract dn f.fr).data.toList++fil (hdl s f) ps) ps f (.slice ac f.caps.length kc) Hb)))
      clear hi6 hI6 hexl
      go_wp2_with fail
      go_region_with (go_at_call 40;refine HWr.out.mono ?_;rintro e w7 ⟨⟨v7,rfl⟩,h7⟩;have HI7:=hide h7;clear h7)
      all_goals
       obtain ⟨ad7,bf7,hi7⟩:=HI7.out.i
       have y1:w7.cell? ⟨w.heap.size,1,none⟩=some (.int .i64 (f.en:Int)):=HI7.out.x.cell (j:=1) (by omega)
       have c12:w7.cell? ⟨R,12,none⟩=some (.int .i64 (dn:Int)):=hi7.r.f.cell (j:=12) (by omega)
       have z12:w7.frozen? ⟨R,12,none⟩=false:=hi7.r.f.frz 12
       have HF:=hide (show RcR w B R s P sv dn false L ps f (.returned (.tuple #[])) (w7.setCell ⟨R,12,none⟩ (.int .i64 (f.en:Int))) from
        ⟨⟨_,rfl⟩,HI7.out.k.trans (KpR.cell hi7 (by omega) _),.inr (.inr ⟨rfl,HSM.out,ad7,bf7,⟨(hi7.r.set (j:=12) (by omega) _).congr (rw_dn _),hi7.a,hi7.setC 12 _⟩⟩)⟩)
       clear hi7 HI7
       go_wp2_with fail
       go_end0
       exact HF.out
     have HR7:=hide HREST3
     clear HREST3 hK4
     go_region_with (go_at_call 39;refine HW.out.mono ?_;rintro e w6 ⟨rfl,h6⟩;have HI6:=hide h6;clear h6)
     all_goals exact HR7.out _ HI6.out
   have HR8:=hide HREST2
   clear HREST2 hK3
   go_region_with (first
    |(go_at_call 38
      refine HLn.out.mono ?_
      rintro e w4 ⟨rfl,hb4⟩
      have hI4:=HI3.out.low hR hH hb4
      have m12:w4.cell? ⟨R,12,none⟩=some (.int .i64 (dn:Int)):=by
       obtain ⟨ad4,bf4,hi4⟩:=hI4.i
       exact hi4.r.f.cell (j:=12) (by omega)
      have mx0:w4.cell? ⟨w.heap.size,0,none⟩=some (.int .i64 (f.fr:Int)):=hI4.x.cell (j:=0) (by omega)
      have HI4:=hide hI4
      clear hb4 hI4)
    |(go_at_call 37
      refine (HHr.out _ HI4.out).mono ?_
      rintro e w5 ⟨rfl,h5⟩
      have HI5:=hide h5
      clear h5))
   all_goals exact HR8.out _ HI5.out
  have HR9:=hide HREST
  clear HREST hK2
  have hRl1:R<w1.heap.size:=HI1.out.r.f.lt
  have y0:(w1.alloc (.cells #[.string ⟨#[]⟩,.string ⟨#[]⟩,.string ⟨#[]⟩,.string ⟨#[]⟩,.string ⟨#[]⟩,.string ⟨#[]⟩,.string ⟨#[]⟩,.string ⟨#[]⟩,.string ⟨#[]⟩,.string ⟨#[]⟩] 109)).cell? ⟨R,0,none⟩=some (.string s):=((b_1 w1 _).cell (p:=⟨R,0,none⟩) hRl1).trans c0
  have yd0:(w1.alloc (.cells #[.string ⟨#[]⟩,.string ⟨#[]⟩,.string ⟨#[]⟩,.string ⟨#[]⟩,.string ⟨#[]⟩,.string ⟨#[]⟩,.string ⟨#[]⟩,.string ⟨#[]⟩,.string ⟨#[]⟩,.string ⟨#[]⟩] 109)).drew.cell? ⟨R,0,none⟩=some (.string s):=y0
  have y1:(w1.alloc (.cells #[.string ⟨#[]⟩,.string ⟨#[]⟩,.string ⟨#[]⟩,.string ⟨#[]⟩,.string ⟨#[]⟩,.string ⟨#[]⟩,.string ⟨#[]⟩,.string ⟨#[]⟩,.string ⟨#[]⟩,.string ⟨#[]⟩] 109)).cell? ⟨w.heap.size,0,none⟩=some (.int .i64 f.fr):=((b_1 w1 _).cell (p:=⟨w.heap.size,0,none⟩) hz1).trans x0
  have yd1:(w1.alloc (.cells #[.string ⟨#[]⟩,.string ⟨#[]⟩,.string ⟨#[]⟩,.string ⟨#[]⟩,.string ⟨#[]⟩,.string ⟨#[]⟩,.string ⟨#[]⟩,.string ⟨#[]⟩,.string ⟨#[]⟩,.string ⟨#[]⟩] 109)).drew.cell? ⟨w.heap.size,0,none⟩=some (.int .i64 f.fr):=y1
  have y2:(w1.alloc (.cells #[.string ⟨#[]⟩,.string ⟨#[]⟩,.string ⟨#[]⟩,.string ⟨#[]⟩,.string ⟨#[]⟩,.string ⟨#[]⟩,.string ⟨#[]⟩,.string ⟨#[]⟩,.string ⟨#[]⟩,.string ⟨#[]⟩] 109)).cell? ⟨w.heap.size,1,none⟩=some (.int .i64 f.en):=((b_1 w1 _).cell (p:=⟨w.heap.size,1,none⟩) hz1).trans x1
  have yd2:(w1.alloc (.cells #[.string ⟨#[]⟩,.string ⟨#[]⟩,.string ⟨#[]⟩,.string ⟨#[]⟩,.string ⟨#[]⟩,.string ⟨#[]⟩,.string ⟨#[]⟩,.string ⟨#[]⟩,.string ⟨#[]⟩,.string ⟨#[]⟩] 109)).drew.cell? ⟨w.heap.size,1,none⟩=some (.int .i64 f.en):=y2
  have y3:(w1.alloc (.cells #[.string ⟨#[]⟩,.string ⟨#[]⟩,.string ⟨#[]⟩,.string ⟨#[]⟩,.string ⟨#[]⟩,.string ⟨#[]⟩,.string ⟨#[]⟩,.string ⟨#[]⟩,.string ⟨#[]⟩,.string ⟨#[]⟩] 109)).cell? ⟨w.heap.size,2,none⟩=some (.slice ac f.caps.length kc):=((b_1 w1 _).cell (p:=⟨w.heap.size,2,none⟩) hz1).trans x2
  have yd3:(w1.alloc (.cells #[.string ⟨#[]⟩,.string ⟨#[]⟩,.string ⟨#[]⟩,.string ⟨#[]⟩,.string ⟨#[]⟩,.string ⟨#[]⟩,.string ⟨#[]⟩,.string ⟨#[]⟩,.string ⟨#[]⟩,.string ⟨#[]⟩] 109)).drew.cell? ⟨w.heap.size,2,none⟩=some (.slice ac f.caps.length kc):=y3
  have HCa:=hide (HC.out w1.drew (Below.refl _ _).drew)
  have HCz:=hide (HC.out (w1.alloc (.cells #[.string ⟨#[]⟩,.string ⟨#[]⟩,.string ⟨#[]⟩,.string ⟨#[]⟩,.string ⟨#[]⟩,.string ⟨#[]⟩,.string ⟨#[]⟩,.string ⟨#[]⟩,.string ⟨#[]⟩,.string ⟨#[]⟩] 109)).drew (b_1 w1 _).drew)
  have HZr:=hide (show ∀ w2,Below (w1.alloc (.cells #[.string ⟨#[]⟩,.string ⟨#[]⟩,.string ⟨#[]⟩,.string ⟨#[]⟩,.string ⟨#[]⟩,.string ⟨#[]⟩,.string ⟨#[]⟩,.string ⟨#[]⟩,.string ⟨#[]⟩,.string ⟨#[]⟩] 109)).drew.heap.size (w1.alloc (.cells #[.string ⟨#[]⟩,.string ⟨#[]⟩,.string ⟨#[]⟩,.string ⟨#[]⟩,.string ⟨#[]⟩,.string ⟨#[]⟩,.string ⟨#[]⟩,.string ⟨#[]⟩,.string ⟨#[]⟩,.string ⟨#[]⟩] 109)).drew w2→RowF w2 109 w1.heap.size 10 (fun _=>.string ⟨#[]⟩) from fun w2 hb2=>by
   have h9:RowF (w1.alloc (.cells #[.string ⟨#[]⟩,.string ⟨#[]⟩,.string ⟨#[]⟩,.string ⟨#[]⟩,.string ⟨#[]⟩,.string ⟨#[]⟩,.string ⟨#[]⟩,.string ⟨#[]⟩,.string ⟨#[]⟩,.string ⟨#[]⟩] 109)).drew 109 w1.heap.size 10 (fun _=>.string ⟨#[]⟩):=arT_row (v:=fun _=>.string ⟨#[]⟩) (heap_alloc_new w1 _)
   exact h9.low hb2 h9.lt)
  go_region_with (go_at_call 36;first
   |(refine HCa.out.mono ?_
     rintro e w2 ⟨rfl,hb2⟩
     have HB2:=hide hb2
     clear hb2)
   |(refine HCz.out.mono ?_
     rintro e w2 ⟨rfl,hb2⟩
     have hz2:=HZr.out w2 hb2
     have z0:w2.cell? ⟨w1.heap.size,0,none⟩=some (.string ⟨#[]⟩):=hz2.cell (j:=0) (by omega)
     have g0:w2.frozen? ⟨w1.heap.size,0,none⟩=false:=hz2.frz 0
     have z1:w2.cell? ⟨w1.heap.size,1,none⟩=some (.string ⟨#[]⟩):=hz2.cell (j:=1) (by omega)
     have g1:w2.frozen? ⟨w1.heap.size,1,none⟩=false:=hz2.frz 1
     have z2:w2.cell? ⟨w1.heap.size,2,none⟩=some (.string ⟨#[]⟩):=hz2.cell (j:=2) (by omega)
     have g2:w2.frozen? ⟨w1.heap.size,2,none⟩=false:=hz2.frz 2
     have z3:w2.cell? ⟨w1.heap.size,3,none⟩=some (.string ⟨#[]⟩):=hz2.cell (j:=3) (by omega)
     have g3:w2.frozen? ⟨w1.heap.size,3,none⟩=false:=hz2.frz 3
     have z4:w2.cell? ⟨w1.heap.size,4,none⟩=some (.string ⟨#[]⟩):=hz2.cell (j:=4) (by omega)
     have g4:w2.frozen? ⟨w1.heap.size,4,none⟩=false:=hz2.frz 4
     have z5:w2.cell? ⟨w1.heap.size,5,none⟩=some (.string ⟨#[]⟩):=hz2.cell (j:=5) (by omega)
     have g5:w2.frozen? ⟨w1.heap.size,5,none⟩=false:=hz2.frz 5
     have z6:w2.cell? ⟨w1.heap.size,6,none⟩=some (.string ⟨#[]⟩):=hz2.cell (j:=6) (by omega)
     have g6:w2.frozen? ⟨w1.heap.size,6,none⟩=false:=hz2.frz 6
     have z7:w2.cell? ⟨w1.heap.size,7,none⟩=some (.string ⟨#[]⟩):=hz2.cell (j:=7) (by omega)
     have g7:w2.frozen? ⟨w1.heap.size,7,none⟩=false:=hz2.frz 7
     have z8:w2.cell? ⟨w1.heap.size,8,none⟩=some (.string ⟨#[]⟩):=hz2.cell (j:=8) (by omega)
     have g8:w2.frozen? ⟨w1.heap.size,8,none⟩=false:=hz2.frz 8
     have z9:w2.cell? ⟨w1.heap.size,9,none⟩=some (.string ⟨#[]⟩):=hz2.cell (j:=9) (by omega)
     have g9:w2.frozen? ⟨w1.heap.size,9,none⟩=false:=hz2.frz 9
     have HB2:=hide hb2
     have HZ2:=hide hz2
     clear hb2 hz2))
  all_goals first
   |(have hz9:=HZ2
     exact HR9.out _ _ (by omega) (RcI.put HI1.out HX.out HV1.out HK1.out (below_past HB2.out) hR hz1 hz9.out))
   |exact HR9.out _ _ (by have h1:=HB2.out.size;have h2:w1.drew.heap.size=w1.heap.size:=rfl;omega) (RcI.ini HI1.out HX.out HV1.out HK1.out ((belowDr1 HB2.out).alloc (by have h1:=HB2.out.size;have h2:w1.drew.heap.size=w1.heap.size:=rfl;omega) _) hR (arT_row (v:=hvV (hdB s f)) (heap_alloc_new _ _)))
end Go.Proofs.YtlgodacccilabaaGreatDoor
