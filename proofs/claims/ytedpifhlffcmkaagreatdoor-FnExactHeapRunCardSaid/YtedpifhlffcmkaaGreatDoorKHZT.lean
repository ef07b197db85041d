import Derived.Test.YtedpifhlffcmkaaGreatDoorKHZS
import Derived.Laws.IdiomCopy
import Derived.Lib.Overlaps
import Derived.Lib.AppendZerosOnto
namespace Go.Proofs.YtedpifhlffcmkaaGreatDoor
open Go Go.RowKit
set_option maxHeartbeats 6400000
set_option maxRecDepth 100000
set_option linter.unusedVariables false
variable {K:Act->World->Prop} {Q:Exit->Act->World->Prop} {a:Act} {base i:Nat} {l:List Value} {v:Value} {w w':World}
attribute [local go_sem] bD
theorem uE {o:Oper} (s x:Operand) (t:TypeId)
 (ho:o.op=.call { callee:=.builtin .append,args:=#[s,x],argTypes:=#[t,t] }) (vs vx v':Value) (hs:a.eval s=vs) (hx:a.eval x=vx) (hr:(Builtin.append_ #[t,t] o.type #[vs,vx]).run Tryz.prog w=.ok v' w')
 (h:K (a.put o.dst v') w'):Oper.wp Tryz.prog o a w K Q:=by
 unfold Oper.wp execOp
 simp only [ho,resolve,invoke,builtin,Sem.run_bind,Sem.run_pure,Result.andThen_ok,List.map_toArray,List.map_cons,List.map_nil,hs,hx,hr]
 exact h
theorem wG (hown:w.ownsRow base 67 1 v l.length l) (h1:∀ u∈l,u.oneCell'=true) (hl:l.length<=1000000) (hi:i<l.length):
 Calls Tryz.prog 78 #[v,.int .i64 (i:Int),.int .i64 ((i:Int)+1)] w fun e w'=>∃ v',e=.returned v'/\w'.ownsRow base 67 1 v' (l.length-1) (l.eraseIdx i)/\Keeps w w' (fun c=>v.ownBlock=some c)/\v'.ownBlock=v.ownBlock:=by
 rcases hown.2 with ⟨rfl,h0⟩|⟨g,cap,cur,rfl,h2,h3,h4,h5,h6,h7⟩
 ·omega
 ·have hdr:w.drew.heap[g]?=some (.cells cur 67 (0,0)):=h3
  have hrg:=au hown (g:=g) (by simp [Value.ownBlock])
  obtain ⟨i0,hi0,hz0,hz1,hz2⟩:=info_parts eu
  rw [Nat.mul_one] at h6 h7
  have hlen:(l.drop (i+1)).length=l.length-(i+1):=List.length_drop ..
  have hne:((i:Int)==(i:Int)+1)=false:=by simp;omega
  have hii:(i:Int)+1<=(l.length:Int):=by omega
  have hic:(i:Int)+1<=(cap:Int):=by omega
  have hlc:(l.length:Int)<=(cap:Int):=by omega
  have hnews:∀ (j:Nat) (u:Value),(l.drop (i+1))[j]?=some u->w.drew.cell? ((⟨g,i+1,none⟩:Addr).add j)=some u:=by
   intro j u hj
   rw [aY]
   rw [List.getElem?_drop] at hj
   have hjl:=(List.getElem?_eq_some_iff.1 hj).1
   show w.cell? ⟨g,i+1+j,none⟩=some u
   rw [hrg.cell (j:=i+1+j) (by omega),List.getD_eq_getElem?_getD,hj]
   rfl
  have hclen:cur.toList.length=cap:=by simpa using h6
  obtain ⟨nw,hnw⟩:∃ nw,nw=(cur.toList.take (i*i0.size)++l.drop (i+1)++cur.toList.drop (i*i0.size+(l.drop (i+1)).length)).toArray:=⟨_,rfl⟩
  have hnl:nw.toList.length=cap:=by
   rw [hnw,hz1]
   simp only [List.length_append,List.length_take,List.length_drop,hclen,Nat.mul_one]
   omega
  have hW:(w.drew.setRow g nw).ownsRow base 67 1 (.slice (some ⟨g,0,none⟩) l.length cap) l.length (nw.toList.take l.length):=⟨by rw [List.length_take,hnl];omega,.inr ⟨g,cap,nw,rfl,h2,setRow_heap w.drew g cur nw 67 (0,0) hdr,h4,h5,by rw [Nat.mul_one];simpa using hnl,by rw [Nat.mul_one]⟩⟩
  have htk:(nw.toList.take l.length).take (l.length-1)=l.eraseIdx i:=by
   rw [List.take_take,Nat.min_eq_left (by omega),hnw,hz1,Nat.mul_one,List.toList_toArray,List.take_append_of_le_length (by simp only [List.length_append,List.length_take,List.length_drop,hclen];omega)]
   have e1:cur.toList.take i=l.take i:=by
    rw [<-h7,List.take_take,Nat.min_eq_left (by omega)]
   rw [e1,List.eraseIdx_eq_take_drop_succ]
   exact List.take_of_length_le (by simp only [List.length_append,List.length_take,List.length_drop];omega)
  obtain ⟨w1,hcl,ho1,hk1,hs1⟩:=jU (w:=w.drew.setRow g nw) (c:=cap-(l.length-1)) (k:=l.length-1) Tryz.underlying70 pG (s:=1) rfl (fun u hu=>by simp [Value.cells] at hu;subst hu;rfl) hW (by omega) 0
  rw [Nat.mul_one] at ho1 hcl
  rw [htk] at ho1
  have kk:Keeps w (w.drew.setRow g nw) (fun c=>(Value.slice (some ⟨g,0,none⟩) l.length cap).ownBlock=some c):=⟨rfl,rfl,rfl,Nat.le_of_eq (setRow_size w.drew g _).symm,fun b hb hn=>setRow_other w.drew g b _ (fun c=>hn (by rw [c];simp [Value.ownBlock]))⟩
  have HF:=ah (And.intro ho1 (kk.trans (hk1.mono (fun c e=>by rw [e];simp [Value.ownBlock]))))
  obtain ⟨a9,c9,hr9,hcond⟩:∃ (a9:Addr) (c9:Nat),(Builtin.append_ #[70,70] 70 #[.slice (some ⟨g,0,none⟩) i cap,.slice (some a9) (l.length-(i+1)) c9]).run Tryz.prog w.drew=.ok (.slice (some ⟨g,0,none⟩) (l.length-1) cap) (w.drew.setRow g nw)/\((cap=i+1/\a9=⟨g,0,none⟩/\c9=0/\l.length=i+1)∨(cap≠i+1/\a9=⟨g,i+1,none⟩/\c9=cap-(i+1))):=by
   by_cases hce:cap=i+1
   ·have hr:=run_append_room (P:=Tryz.prog) w.drew 70 70 67 i0 Tryz.underlying70 hi0 g i cap cur hdr ⟨g,0,none⟩ (l.length-(i+1)) 0 (l.drop (i+1)) (by rw [hz1,hlen];omega) (fun j u hj=>by rw [List.drop_eq_nil_of_le (by omega)] at hj;simp at hj) (fun u hu=>h1 u (List.mem_of_mem_drop hu)) (by omega) (by rw [hz1,hlen];simp at hclen;omega)
    refine ⟨⟨g,0,none⟩,0,?_,.inl ⟨hce,rfl,rfl,by omega⟩⟩
    rw [hr,hnw,show i+(l.length-(i+1))=l.length-1 by omega]
   ·have hr:=run_append_room (P:=Tryz.prog) w.drew 70 70 67 i0 Tryz.underlying70 hi0 g i cap cur hdr ⟨g,i+1,none⟩ (l.length-(i+1)) (cap-(i+1)) (l.drop (i+1)) (by rw [hz1,hlen];omega) hnews (fun u hu=>h1 u (List.mem_of_mem_drop hu)) (by omega) (by rw [hz1,hlen];simp at hclen;omega)
    refine ⟨⟨g,i+1,none⟩,cap-(i+1),?_,.inr ⟨hce,rfl,rfl⟩⟩
    rw [hr,hnw,show i+(l.length-(i+1))=l.length-1 by omega]
  have HR9:=ah hr9
  have hm5:(cap:Int)<=9223372036854775807:=by unfold maxLen at h5;omega
  generalize w.drew.setRow g nw=w2 at *
  clear hr9 kk hk1 hs1 ho1 hW htk hnl hnw hnews hclen hown h3 h7 hdr hrg hi0 hz0 hz1 hz2 h6 h1 h5 h2
  have hlp:(l.length:Int)-1=((l.length-1:Nat):Int):=by omega
  rcases hcond with ⟨hc1,rfl,rfl,hc2⟩|⟨hc1,rfl,rfl⟩
  ·subst hc1
   have HL2:=ah hc2
   have hi3:i+1<=l.length:=by omega
   have hl2:l.length<=i+1:=by omega
   have hp1:(0:Int)<=(i:Int)+1:=by omega
   have hp2:i<=i+1:=by omega
   have hp3:(i:Int)<=(i:Int)+1:=by omega
   rw [show l.length-(i+1)=0 by omega] at HR9
   clear hc2
   go_enter Tryz.func78,Tryz.ntmps78
   go_wp2_with fail
   go_region_law (
    refine uE (.tmp 22) (.tmp 25) 70 rfl _ _ _ rfl rfl HR9.o ?_)
   all_goals
    go_wp2
    go_ret
    exact ⟨_,rfl,HF.o.1,HF.o.2,rfl⟩
  ·have hi1:i<=cap:=by omega
   have hi2:i+1<=cap:=by omega
   have hi3:i+1<=l.length:=by omega
   have hc1':¬ cap=i+1:=hc1
   have hp1:(0:Int)<=(i:Int)+1:=by omega
   go_enter Tryz.func78,Tryz.ntmps78
   go_wp2_with fail
   go_region_law (
    refine uE (.tmp 22) (.tmp 25) 70 rfl _ _ _ rfl rfl HR9.o ?_)
   all_goals
    go_wp2
    go_ret
    exact ⟨_,rfl,HF.o.1,HF.o.2,rfl⟩
end Go.Proofs.YtedpifhlffcmkaaGreatDoor
