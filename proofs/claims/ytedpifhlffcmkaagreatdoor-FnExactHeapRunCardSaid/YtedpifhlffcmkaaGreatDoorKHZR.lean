import Derived.Test.YtedpifhlffcmkaaGreatDoorKIO1
namespace Go.Proofs.YtedpifhlffcmkaaGreatDoor
open Go Go.RowKit
set_option maxHeartbeats 6400000
set_option maxRecDepth 100000
set_option linter.unusedVariables false
variable {L:PM} {R base hand k:Nat} {S:Nat->Prop} {h:Hp} {root:List Bool} {w:World}
attribute [local go_sem] bD
def DY (base:Nat) (S:Nat->Prop) (H R hand:Nat) (w:World) (h:Hp) (e:Ending) (w':World):Prop:=
 (h.pending=[]->e=.returned (.tuple #[.int .i64 0,.int .i64 4])/\w'=w)/\
 ∀ (gs:List Nat) (n:Nat),h.pending=gs++[n]->e=.returned (.tuple #[.int .i64 (n:Int),.int .i64 0])/\∃ L',L'.H=H/\PW base S { h with pending:=gs } L' R n w'/\Keeps w w' (fun b=>S b∨b=R)
theorem vg (x:PW base S h L R hand w) (g:Gd h):Calls Tryz.prog 55 #[.pointer (some ⟨R,0,none⟩)] w (DY base S L.H R hand w h):=by
 obtain ⟨px,py,G,a,r⟩:=id x.p
 have r0:w.cell? ⟨R,0,none⟩=some (.pointer (some ⟨L.H,0,none⟩)):=x.r.cell (j:=0) (by omega)
 rcases List.eq_nil_or_concat h.pending with hp|⟨gs,n,hp⟩
 ·obtain ⟨A,cap,hv,-⟩:=a.EM (k:=16) (by simp [b_])
  rw [show dh (h.wk px py) G 16=[] from hp] at hv
  have c16:w.cell? ⟨L.H,16,none⟩=some (.slice A 0 cap):=by
   rw [a.hp.cell (j:=16) (by omega)]
   exact congrArg some hv
  have HE:=ah (dF w L.H 16 A 0 cap c16)
  rw [show (((0:Nat):Int)==0)=true from rfl] at HE
  have HPE:=ah hp
  clear a r x hv hp
  go_enter Tryz.func55,Tryz.ntmps55
  go_wp2_with fail
  refine HE.o.mono ?_
  rintro e2 w2 ⟨rfl,rfl⟩
  go_wp2
  ((try simp only [Exit.inBlock,Exit.then]);refine bodyPost_ret (results_tmp2 rfl _ _ _) rfl ?_)
  exact ⟨fun _=>⟨rfl,rfl⟩,fun gs n c=>by rw [HPE.o] at c;simp at c⟩
 ·rw [List.concat_eq_append] at hp
  obtain ⟨gp,cap,hv,hcap,hcn,hpat,hpk⟩:=a.pop (k:=16) (by simp [iZ]) (show dh (h.wk px py) G 16=gs++[n] from hp)
  have hpl:=g.s.fp
  rw [hp,List.length_append,List.length_singleton] at hpl
  have c16:w.cell? ⟨L.H,16,none⟩=some (.slice (some ⟨gp,0,none⟩) (gs.length+1) cap):=by
   rw [a.hp.cell (j:=16) (by omega)]
   exact congrArg some hv
  have HE:=ah (dF w L.H 16 (some ⟨gp,0,none⟩) (gs.length+1) cap c16)
  rw [show (((gs.length+1:Nat):Int)==0)=false by simp;omega] at HE
  have HT:=ah (iR w L.H 16 gp gs.length cap (L.tb n) c16 (a.hp.Jv 16) hcn (by omega) hcap)
  obtain ⟨o,ho⟩:=Hp.ES (g.i.ls n (.inr (.inl (by rw [hp];simp))))
  have hRH:R≠L.H:=fun c=>x.r.apart a.hp (by decide) c
  have HRW:=ah (x.r.keep hpk x.n)
  have HPT:=ah hpat
  have HPK:=ah hpk
  have HPE:=ah hp
  have HR:=ah r
  have HHO:=ah ho
  have HNS:=ah x.n
  have hn0:Hq (n≠0):=ah (fun c=>by rw [c,g.i.zero] at ho;cases ho)
  clear a r hv hp hpat hpk hcn x g c16 ho
  go_enter Tryz.func55,Tryz.ntmps55
  go_wp2_with fail
  refine HE.o.mono ?_
  rintro e2 w2 ⟨rfl,rfl⟩
  go_wp2_with fail
  refine HT.o.mono ?_
  rintro e3 w3 ⟨rfl,rfl⟩
  generalize w2.setCell ⟨L.H,16,none⟩ (.slice (some ⟨gp,0,none⟩) gs.length cap)=w4 at *
  have r1:=HRW.o.cell (j:=1) (by omega)
  have z1:=HRW.o.Jv 1
  have HRW5:=ah (HRW.o.set (j:=1) (by omega) (.iface 127 (.pointer (some ⟨L.tb n,0,none⟩))))
  have K5:Hq (Keeps w4 (w4.setCell ⟨R,1,none⟩ (.iface 127 (.pointer (some ⟨L.tb n,0,none⟩)))) (fun b=>b=R)):=ah (Keeps.setCell (S:=fun b=>b=R) (Keeps.refl _ _) rfl _)
  have HPT5:=ah (HPT.o.out (K5.o.mono (fun b e=>by rw [e];exact HNS.o)))
  clear r0
  obtain ⟨pv,hpv⟩:∃ pv,Cr L.H (aG L.tb (cu hand)) 1=pv:=⟨_,rfl⟩
  rw [hpv] at r1
  clear hpv
  go_upto_region 5 with (fail)
  generalize w4.setCell ⟨R,1,none⟩ (.iface 127 (.pointer (some ⟨L.tb n,0,none⟩)))=w5 at *
  clear r1 z1
  have r1:w5.cell? ⟨R,1,none⟩=some (.iface 127 (.pointer (some ⟨L.tb n,0,none⟩))):=HRW5.o.cell (j:=1) (by omega)
  have t1:w5.cell? ⟨L.tb n,1,none⟩=some (.int .i64 (n:Int)):=(HPT5.o.ob n o HHO.o).cell (j:=1) (by omega)
  have hm2:=fK (L.tb n)
  have HHD:=ah (d_ w5 (L.tb n))
  go_wp2_with fail
  refine HHD.o.mono ?_
  rintro e6 w6 ⟨rfl,rfl⟩
  go_wp2
  ((try simp only [Exit.inBlock,Exit.then]);refine bodyPost_ret (results_tmp2 rfl _ _ _) rfl ?_)
  refine ⟨fun c=>by rw [HPE.o] at c;simp at c,fun gs' n' c=>?_⟩
  rw [HPE.o] at c
  obtain ⟨rfl,hn⟩:=List.append_inj' c rfl
  simp at hn
  subst hn
  refine ⟨rfl,_,?_,⟨⟨px,py,G,HPT5.o,?_⟩,?_,HNS.o⟩,(HPK.o.mono (fun b e=>Or.inl e)).trans (K5.o.mono (fun b e=>Or.inr e))⟩
  ·rfl
  ·exact HR.o.same rfl rfl rfl rfl rfl rfl (fun _=>Iff.rfl)
  ·refine HRW5.o.congr (fun j hj=>?_)
   have:j=0∨j=1:=by omega
   rcases this with rfl|rfl
   ·rfl
   ·show _=aG L.tb (cu n)
    rw [iJ hn0.out]
    rfl
theorem vO (x:PW base S h L R hand w) (ok:FK k h root hand) (hk:k+1<=5000) (hf:h.freed=[]) (b:Ja h) (m:Nat) (hm:m<=3):
 Calls Tryz.prog 48 #[.pointer (some ⟨R,0,none⟩),.int .i64 (m:Int)] w (gG base S L.H w (.tuple #[.int .i64 (h.objs.length:Int),.int .i64 0]) ((h.make m).Eb (bV 0 (root++[true]))).Fe):=by
 have HW:=ah (dY w (m:Int) 0 3)
 rw [show (decide ((0:Int)<=(m:Int))&&decide ((m:Int)<=3))=true by simp;omega] at HW
 have r0:w.cell? ⟨R,0,none⟩=some (.pointer (some ⟨L.H,0,none⟩)):=x.r.cell (j:=0) (by omega)
 have HN:=ah (yM x.p ok.g b m)
 obtain ⟨g1,b1⟩:=ok.g.make ok.b hk hf hm
 have hlt:(root++[true]).length=root.length+1:=by simp
 have hmo:(h.make m).objs.length=h.objs.length+1:=by show (h.objs++[_]).length=_;simp
 obtain ⟨g2,b2⟩:=g1.Eb b1 hk hf (gK ok.g.i hm ok.l ok.o) (by
  have h8:=eZ (root++[true]) 0
  rw [hlt,ok.l] at h8
  have h9:=b1.len
  omega)
 have hri:bV 0 (root++[true])=h.roots++[h.objs.length]:=by rw [iw,ok.o,ok.l];simp
 have hrl:=ok.g.s.rt
 have HRI:=ah hri
 have HG2:=ah g2
 have HXR:=ah x.r
 have HXN:=ah x.n
 have HNK:=ah (g2.Gb)
 have HNO:Hq (∃ o,((h.make m).Eb (bV 0 (root++[true]))).Fe.ob h.objs.length=some o):=ah (by
  have hm1:h.objs.length∈((h.make m).Eb (bV 0 (root++[true]))).Fe.roots:=by
   rw [g2.Gb.rt]
   show h.objs.length∈bV 0 (root++[true])
   rw [hri]
   simp
  exact Hp.ES (g2.Fe.i.ls _ (.inl hm1)))
 clear x ok b g1 b1 g2 b2 hri hm hmo hlt
 go_enter Tryz.func48,Tryz.ntmps48
 go_wp2_with fail
 refine HW.o.mono ?_
 rintro e1 w1 ⟨rfl,rfl⟩
 go_wp2_with fail
 refine HN.o.mono ?_
 rintro e2 w2 ⟨L2,rfl,hl2,hp2,hk2⟩
 have HR2:=ah (HXR.o.keep hk2 HXN.o)
 have HP2:=ah hp2
 have HK2:=ah hk2
 obtain ⟨H2,tb2,es2,mp2,li2⟩:=L2
 obtain rfl:H2=L.H:=hl2
 obtain ⟨px,py,G,a,r⟩:=hp2
 have hli:=a.li 10 (by simp [b_])
 obtain ⟨A,cap,hv⟩:=aF hli
 have hv':li2 10=.slice A h.roots.length cap:=hv
 have HLI:Hq (w2.ownsRow base 67 1 (.slice A h.roots.length cap) h.roots.length (h.roots.map (cO tb2 10))):=ah (by
  rw [<-hv']
  exact hli)
 have HA:=ah a
 have HR:=ah r
 have HV:=ah hv'
 have c10:w2.cell? ⟨L.H,10,none⟩=some (.slice A h.roots.length cap):=by
  rw [a.hp.cell (j:=10) (by omega)]
  exact congrArg some hv'
 have z10:=a.hp.Jv 10
 clear r0
 have r0:w2.cell? ⟨R,0,none⟩=some (.pointer (some ⟨L.H,0,none⟩)):=HR2.o.cell (j:=0) (by omega)
 have hRl:=HR2.o.lt
 have hHl:=a.hp.lt
 have hRH:R≠L.H:=fun c=>HR2.o.apart a.hp (by decide) c
 have hHR:L.H≠R:=fun c=>hRH c.symm
 have hbs:=a.bs
 have HBS:=ah hbs
 clear a r hv hv' hli hk2 hbs
 go_wp2_with fail
 go_cut [] (fun wc=>Hq (∃ a9 k9 w9,wc=(w9.setCell ⟨L.H,10,none⟩ (.slice a9 (h.roots.length+1) k9))/\w9.ownsRow base 67 1 (.slice a9 (h.roots.length+1) k9) (h.roots.length+1) (h.roots.map (cO tb2 10)++[cO tb2 10 h.objs.length])/\Keeps w2 w9 (fun c=>(Value.slice A h.roots.length cap).ownBlock=some c)/\∀ g,(Value.slice a9 (h.roots.length+1) k9).ownBlock=some g->(Value.slice A h.roots.length cap).ownBlock=some g∨w2.heap.size<=g))
 case first=>
  go_region_law (
   refine yJ (wr:=w2) (.tmp 26) (.tmp 29) 70 67 1 16 _ rfl Tryz.underlying70 eu rfl (by decide) base (.slice A h.roots.length cap) h.roots.length (h.roots.map (cO tb2 10)) [.iface 127 (.pointer (some ⟨tb2 h.objs.length,0,none⟩))] HLI.o rfl rfl rfl (fun u hu=>by simp at hu;subst hu;rfl) (by omega) (by decide) HBS.o ?_
   intro v' w9 hv1 hv2 hv3
   obtain ⟨a9,k9,hv9⟩:=aF hv1
   subst hv9
   have hr9:=HR2.o.keep hv2 (fun e=>ak HLI.o HR2.o (by decide) e)
   have hh9:=HA.o.hp.keep hv2 (fun e=>ak HLI.o HA.o.hp (by decide) e)
   have c09:w9.cell? ⟨R,0,none⟩=some (.pointer (some ⟨L.H,0,none⟩)):=hr9.cell (j:=0) (by omega)
   have c19:w9.cell? ⟨L.H,10,none⟩=some (.slice A h.roots.length cap):=by
    rw [hh9.cell (j:=10) (by omega)]
    exact congrArg some HV.out
   have z19:=hh9.Jv 10
   have H9:=ah (And.intro hv1 (And.intro hv2 hv3))
   clear hv1 hv2 hv3 hr9 hh9)
  all_goals
   go_wp2_with fail
   go_meet
   exact ⟨a9,k9,w9,rfl,H9.o.1,H9.o.2.1,H9.o.2.2⟩
 case rest=>
 rename World=>w5
 obtain ⟨a9,k9,w9,rfl,h1,h2,h3⟩:=hcut.out
 have hadd:uT (uV 10) base L.H 10 (li2 10) ((dh ((h.make m).wk px py) G 10).map (cO tb2 10)) (cO tb2 10 h.objs.length) w2 (.returned (.tuple #[])) (w9.setCell ⟨L.H,10,none⟩ (.slice a9 (h.roots.length+1) k9)):=by
  have e1:((dh ((h.make m).wk px py) G 10).map (cO tb2 10)).length=h.roots.length:=by rw [List.length_map];rfl
  refine ⟨rfl,a9,k9,w9,by rw [e1],?_,by rw [HV.out];exact h2,by rw [e1,HV.out];exact h3⟩
  rw [e1]
  exact h1
 obtain ⟨-,L5,hl5,ha5,hk5⟩:=HA.o.add (k:=10) (by simp [iZ]) hadd
 have HP5:Hq (PS base S ((h.make m).Eb (bV 0 (root++[true]))) L5 (w9.setCell ⟨L.H,10,none⟩ (.slice a9 (h.roots.length+1) k9))):=ah (by
  rw [HRI.o]
  exact ⟨px,py,G,ha5,HR.o.same rfl rfl rfl rfl rfl rfl (fun _=>Iff.rfl)⟩)
 have HK5:=ah hk5
 have HR5:=ah (HR2.o.keep hk5 HXN.o)
 have HL5:=ah hl5
 generalize w9.setCell ⟨L.H,10,none⟩ (.slice a9 (h.roots.length+1) k9)=w6 at *
 clear hadd ha5 hk5 h1 h2 h3 hcut r0 c10 z10
 obtain ⟨H5,tb5,es5,mp5,li5⟩:=L5
 obtain rfl:H5=L.H:=hl5.H
 obtain rfl:tb5=tb2:=hl5.tb
 clear hl5
 have r0:w6.cell? ⟨R,0,none⟩=some (.pointer (some ⟨L.H,0,none⟩)):=HR5.o.cell (j:=0) (by omega)
 have HPC:=ah (vN HP5.o HG2.o)
 go_wp2_with fail
 refine HPC.o.mono ?_
 rintro e7 w7 ⟨rfl,L7,hl7,hp7,hk7⟩
 have HP7:=ah hp7
 obtain ⟨qx,qy,G7,a7,r7⟩:=hp7
 obtain ⟨oN,hoN⟩:=HNO.o
 have t1:w7.cell? ⟨tb5 h.objs.length,1,none⟩=some (.int .i64 (h.objs.length:Int)):=by
  have:=(a7.ob h.objs.length oN hoN).cell (j:=1) (by omega)
  rw [hl7.tb] at this
  exact this
 have H7:=ah (And.intro hl7 hk7)
 clear a7 r7 hl7 hk7 hoN r0
 go_wp2
 ((try simp only [Exit.inBlock,Exit.then]);refine bodyPost_ret (results_tmp2 rfl _ _ _) rfl ?_)
 exact ⟨rfl,L7,H7.o.1.H,HP7.o,(HK2.o.trans HK5.o).trans H7.o.2⟩
end Go.Proofs.YtedpifhlffcmkaaGreatDoor
