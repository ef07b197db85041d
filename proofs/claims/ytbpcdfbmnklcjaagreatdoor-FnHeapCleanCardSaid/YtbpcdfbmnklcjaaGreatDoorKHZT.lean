import Derived.Test.YtbpcdfbmnklcjaaGreatDoorKHZS
import Derived.Laws.IdiomCopy
import Derived.Lib.Overlaps
import Derived.Lib.AppendZerosOnto
namespace Go.Proofs.YtbpcdfbmnklcjaaGreatDoor
open Go Go.RowKit
set_option maxHeartbeats 6400000
set_option maxRecDepth 100000
set_option linter.unusedVariables false
variable {K:Act->World->Prop} {Q:Exit->Act->World->Prop} {a:Act} {base i:Nat} {l:List Value} {v:Value} {w w':World}
attribute [local go_sem] bW
theorem wE {o:Oper} (s x:Operand) (t:TypeId)
 (ho:o.op=.call { callee:=.builtin .append,args:=#[s,x],argTypes:=#[t,t] }) (c b v':Value) (d:a.eval s=c) (hx:a.eval x=b) (hr:(Builtin.append_ #[t,t] o.type #[c,b]).run Tryz.prog w=.ok v' w')
 (h:K (a.put o.dst v') w'):Oper.wp Tryz.prog o a w K Q:=by
 unfold Oper.wp execOp;simp only [ho,resolve,invoke,builtin,Sem.run_bind,Sem.run_pure,Result.andThen_ok,List.map_toArray,List.map_cons,List.map_nil,d,hx,hr];exact h
theorem AL (hown:w.ownsRow base 67 1 v l.length l) (h1:∀ u∈l,u.oneCell'=true) (hl:l.length<=1000000) (hi:i<l.length):
 Calls Tryz.prog 78 #[v,.int .i64 (i:Int),.int .i64 ((i:Int)+1)] w fun e w'=>∃ v',e=.returned v'/\w'.ownsRow base 67 1 v' (l.length-1) (l.eraseIdx i)/\Keeps w w' (fun c=>v.ownBlock=some c)/\v'.ownBlock=v.ownBlock:=by
 rcases hown.2 with ⟨rfl,h0⟩|⟨g,d,h,rfl,h2,h3,h4,h5,h6,Z⟩
 ·omega
 ·have x:w.drew.heap[g]?=some (.cells h 67 (0,0)):=h3
  have F:=ay hown (g:=g) (by simp [Value.ownBlock]);obtain ⟨M,z,U,m,T⟩:=info_parts gY;rw [Nat.mul_one] at h6 Z;have n:(l.drop (i+1)).length=l.length-(i+1):=List.length_drop ..;have a3:((i:Int)==(i:Int)+1)=false:=by simp;omega
  have b0:(i:Int)+1<=(l.length:Int):=by omega
  have b1:(i:Int)+1<=(d:Int):=by omega
  have a6:(l.length:Int)<=(d:Int):=by omega
  have r:∀ (j:Nat) (u:Value),(l.drop (i+1))[j]?=some u->w.drew.cell? ((⟨g,i+1,none⟩:Addr).add j)=some u:=by
   intro j u D;rw [bL];rw [List.getElem?_drop] at D;have a8:=(aJ.1 D).1;show w.cell? ⟨g,i+1+j,none⟩=some u;rw [F.c (i+1+j),bq,D];rfl
  have f:h.toList.length=d:=by simpa using h6
  obtain ⟨p,q⟩:∃ p,p=(h.toList.take (i*M.size)++l.drop (i+1)++h.toList.drop (i*M.size+(l.drop (i+1)).length)).toArray:=⟨_,rfl⟩
  have y:p.toList.length=d:=by
   rw [q,m];simp only [bI,bf,List.length_drop,f,Nat.mul_one];omega
  have hW:(w.drew.setRow g p).ownsRow base 67 1 (.slice (some ⟨g,0,none⟩) l.length d) l.length (p.toList.take l.length):=⟨by rw [bf,y];omega,.inr ⟨g,d,p,rfl,h2,setRow_heap w.drew g h p 67 (0,0) x,h4,h5,by rw [Nat.mul_one];simpa using y,by rw [Nat.mul_one]⟩⟩
  have E:(p.toList.take l.length).take (l.length-1)=l.eraseIdx i:=by
   rw [List.take_take,Nat.min_eq_left (by omega),q,m,Nat.mul_one,List.toList_toArray,List.take_append_of_le_length (by simp only [bI,bf,List.length_drop,f];omega)];have e1:h.toList.take i=l.take i:=by
    rw [<-Z,List.take_take,Nat.min_eq_left (by omega)]
   rw [e1,List.eraseIdx_eq_take_drop_succ];exact List.take_of_length_le (by simp only [bI,bf,List.length_drop];omega)
  obtain ⟨w1,Y,t,H,V⟩:=mK (w:=w.drew.setRow g p) (c:=d-(l.length-1)) (k:=l.length-1) Tryz.underlying70 tX (s:=1) rfl (fun u hu=>by simp [Value.cells] at hu;subst hu;rfl) hW (by omega) 0;rw [Nat.mul_one] at t Y;rw [E] at t;have kk:Keeps w (w.drew.setRow g p) (fun c=>(Value.slice (some ⟨g,0,none⟩) l.length d).ownBlock=some c):=⟨rfl,rfl,rfl,aO (setRow_size w.drew g _).symm,fun b hb hn=>setRow_other w.drew g b _ (fun c=>hn (by rw [c];simp [Value.ownBlock]))⟩
  have S:=ah (And.intro t (kk.trans (H.mono (fun c e=>by rw [e];simp [Value.ownBlock]))));obtain ⟨R,N,G,A⟩:∃ (R:Addr) (N:Nat),(Builtin.append_ #[70,70] 70 #[.slice (some ⟨g,0,none⟩) i d,.slice (some R) (l.length-(i+1)) N]).run Tryz.prog w.drew=.ok (.slice (some ⟨g,0,none⟩) (l.length-1) d) (w.drew.setRow g p)/\((d=i+1/\R=⟨g,0,none⟩/\N=0/\l.length=i+1)∨(d≠i+1/\R=⟨g,i+1,none⟩/\N=d-(i+1))):=by
   by_cases J:d=i+1
   ·have hr:=run_append_room (P:=Tryz.prog) w.drew 70 70 67 M Tryz.underlying70 z g i d h x ⟨g,0,none⟩ (l.length-(i+1)) 0 (l.drop (i+1)) (by rw [m,n];omega) (fun j u D=>by rw [List.drop_eq_nil_of_le (by omega)] at D;simp at D) (fun u hu=>h1 u (List.mem_of_mem_drop hu)) (by omega) (by rw [m,n];simp at f;omega)
    refine ⟨⟨g,0,none⟩,0,?_,.inl ⟨J,rfl,rfl,by omega⟩⟩;rw [hr,q,show i+(l.length-(i+1))=l.length-1 by omega]
   ·have hr:=run_append_room (P:=Tryz.prog) w.drew 70 70 67 M Tryz.underlying70 z g i d h x ⟨g,i+1,none⟩ (l.length-(i+1)) (d-(i+1)) (l.drop (i+1)) (by rw [m,n];omega) r (fun u hu=>h1 u (List.mem_of_mem_drop hu)) (by omega) (by rw [m,n];simp at f;omega)
    refine ⟨⟨g,i+1,none⟩,d-(i+1),?_,.inr ⟨J,rfl,rfl⟩⟩;rw [hr,q,show i+(l.length-(i+1))=l.length-1 by omega]
  have C:=ah G;have a4:(d:Int)<=9223372036854775807:=by unfold maxLen at h5;omega
  generalize w.drew.setRow g p=w2 at *;clear G kk H V t hW E y q r f hown h3 Z x F z U m T h6 h1 h5 h2;have a5:(l.length:Int)-1=((l.length-1:Nat):Int):=by omega
  rcases A with ⟨B,rfl,rfl,L⟩|⟨B,rfl,rfl⟩
  ·subst B
   have b4:=ah L;have X:i+1<=l.length:=by omega
   have a7:l.length<=i+1:=by omega
   have W:(0:Int)<=(i:Int)+1:=by omega
   have a2:i<=i+1:=by omega
   have a1:(i:Int)<=(i:Int)+1:=by omega
   rw [show l.length-(i+1)=0 by omega] at C;clear L;go_enter Tryz.func78,Tryz.ntmps78;go_wp2_with fail
   go_region_law (
    refine wE (.tmp 22) (.tmp 25) 70 rfl _ _ _ rfl rfl C.o ?_)
   all_goals
    go_wp2;go_ret;exact ⟨_,rfl,S.o.1,S.o.2,rfl⟩
  ·have b3:i<=d:=by omega
   have b2:i+1<=d:=by omega
   have X:i+1<=l.length:=by omega
   have a0:¬ d=i+1:=B;have W:(0:Int)<=(i:Int)+1:=by omega
   go_enter Tryz.func78,Tryz.ntmps78;go_wp2_with fail
   go_region_law (
    refine wE (.tmp 22) (.tmp 25) 70 rfl _ _ _ rfl rfl C.o ?_)
   all_goals
    go_wp2;go_ret;exact ⟨_,rfl,S.o.1,S.o.2,rfl⟩
end Go.Proofs.YtbpcdfbmnklcjaaGreatDoor
