import Derived.Test.YtedpifhlffcmkaaGreatDoorKHYT
import Derived.Test.YtedpifhlffcmkaaGreatDoorKHSJ2
import Derived.Deep.RegionLaw
import Derived.BigRegion
import Derived.Laws.CopyRow
import Derived.Deep.RegionHeld3
namespace Go.Proofs.YtedpifhlffcmkaaGreatDoor
open Go Go.RowKit
set_option maxHeartbeats 6400000
set_option maxRecDepth 100000
set_option linter.unusedVariables false
section
variable {G G':Gh} {L:PM} {S:Nat->Prop} {base:Nat} {w:World}
theorem JO.of {h g:Hp} (x:JO G h) (e:∀ n,g.Lv n↔h.Lv n):JO G g:=⟨x.up,fun n=>(x.lv n).trans (e n).symm⟩
theorem yN (h:Hp) (l:List Nat):(h.Eh l).nu=h.nu:=bQ Hp.mark Hp.EC l h
theorem Wk.Eh {h:Hp} (k:Wk h) (l:List Nat):Wk (h.Eh l):=k.JN (I_.Eh h l) (Nat.le_of_eq (yN h l))
def Hp.wk (h:Hp) (a b:List Nat):Hp:={ h with weak:=a,D8:=b }
theorem JR.num {h h':Hp} (a:JR base S h G L w) (k:Nat) (x:Value) (hk:k<19) (hob:∀ n,h'.ob n=h.ob n) (hl:h'.roots=h.roots/\h'.grey=h.grey/\h'.weak=h.weak/\h'.D8=h.D8/\h'.finals=h.finals/\h'.pending=h.pending/\h'.freed=h.freed) (hg:G'.Jt=G.Jt/\G'.ag=G.ag) (hc:∀ i,i<19->(if i=k then x else iY h G L i)=iY h' G' L i):
 JR base S h' G' L (w.setCell ⟨L.H,k,none⟩ x)/\Keeps w (w.setCell ⟨L.H,k,none⟩ x) S:=by
 refine a.hdr k x hk hob (fun j hj=>?_) hc
 obtain ⟨a1,a2,a3,a4,a5,a6,a7⟩:=hl
 obtain ⟨b1,b2⟩:=hg
 rcases hj with rfl|rfl|rfl|rfl|rfl|rfl|rfl|rfl|rfl
 ·exact b1
 ·exact a1
 ·exact a2
 ·exact b2
 ·exact a3
 ·exact a4
 ·exact a5
 ·exact a6
 ·exact a7
theorem wz {h:Hp} (a:JR base S h G L w) (x:Jy h) (gl:JO G h) (hol:G.Jt.length<=20000) (hag:G.ag=h.again):
 Calls Tryz.prog 130 #[.pointer (some ⟨L.H,0,none⟩)] w fun e w'=>e=.returned (.tuple #[])/\∃ L',JD L L'/\(∃ wk ep,JR base S (h.atomic.wk wk ep) { G with kept:=0,Ee:=0 } L' w')/\Keeps w w' S:=by
 have k1:=x.k.alive
 have t1:=x.t.JN (I_.alive h)
 have k2:=k1.drain t1
 have t2:=t1.drain
 have k3:=k2.look t2
 have t3:=t2.D_
 have k4:Wk h.JY:=k3.settle t3
 have t4:Jl h.JY No:=t3.settle
 have c5:J2 h.JY (h.JY.weak.foldl Hp.Jk h.JY):=J2.fold bq bI h.JY.weak h.JY
 have k5:=k4.cnt c5
 have k6:=k4.at2 t4
 have t6:=t4.at2
 have k7:=k6.Eh h.JY.at2.pending
 have t7:=t6.JN (I_.Eh h.JY.at2 h.JY.at2.pending)
 have k8:Wk h.JY.at2.at3:=k7.settle t7
 have t8:Jl h.JY.at2.at3 No:=t7.settle
 have k9:=k8.cnt (J2.at4 h.JY.at2.at3)
 have c10:J2 h.JY.at2.at3.at4 (h.JY.at2.at3.at4.weak.foldl Hp.Jk h.JY.at2.at3.at4):=J2.fold bq bI _ _
 have k10:=k9.cnt c10
 have hlv5:∀ n,(h.JY.weak.foldl Hp.Jk h.JY).Lv n↔h.Lv n:=fun n=>(c5.lv n).trans ((iW.JY h).lv n)
 have hlv6:∀ n,h.JY.at2.Lv n↔h.Lv n:=fun n=>(mg h.JY n).trans ((iW.JY h).lv n)
 have hlv10:∀ n,(h.JY.at2.at3.at4.weak.foldl Hp.Jk h.JY.at2.at3.at4).Lv n↔h.Lv n:=fun n=>(c10.lv n).trans (((J2.at4 _).lv n).trans (((JM.at3 _).lv n).trans (hlv6 n)))
 have hf5:∀ n∈(h.JY.weak.foldl Hp.Jk h.JY).finals,(h.JY.weak.foldl Hp.Jk h.JY).Lv n:=fun n hn=>(hlv5 n).2 (x.l n (.inr (.inr (by rw [c5.finals,show h.JY.finals=h.finals from (iW.JY h).finals] at hn;exact hn))))
 have hp6:∀ n∈h.JY.at2.pending,h.JY.at2.Lv n:=by
  intro n hn
  refine (hlv6 n).2 ?_
  rw [(dA h.JY).2.1,show h.JY.finals=h.finals from (iW.JY h).finals,show h.JY.pending=h.pending from (iW.JY h).pending] at hn
  rcases List.mem_append.1 hn with c|c
  ·exact x.l n (.inr (.inl c))
  ·exact x.l n (.inr (.inr (List.mem_filter.1 c).1))
 have HG10:=ah (gl.of hlv10)
 have hw1:h.JY.at2.at3.at4.Jp.white=h.white:=by
  rw [(J2.Jp _).white,(J2.at4 _).white,(JM.at3 _).white,(dA h.JY).2.2.2.2.2.2.1]
  exact (iW.JY h).white
 have HWW:Hq (h.JY.at2.at3.at4.Jp.white<=1):=ah (by rw [hw1];exact x.w)
 have hag2:G.ag=h.alive.drain.again:=by rw [hag];exact ((JM.alive h).trans (JM.drain _)).again.symm
 have K1:=ah (And.intro k1 t1)
 have K2:=ah (And.intro k2 (And.intro t2 hag2))
 have K3:=ah (And.intro k3 t3)
 have K4:=ah k4
 have K5:=ah (And.intro k5 hf5)
 have K6:=ah (And.intro k6 hp6)
 have K7:=ah (And.intro k7 t7)
 have K8:=ah k8
 have K9:=ah k9
 have K10:=ah k10
 have s0:=x.k.s
 have HAL:=ah (lC a (fun n hn=>x.l n (.inl hn)) (by have:=s0.nu;omega) (by have:=s0.rt;omega) (fun n hn=>x.l n (.inr (.inl hn))) (by have:=s0.fp;omega))
 clear a x k1 t1 k2 t2 k3 t3 k4 t4 c5 k5 k6 t6 k7 t7 k8 t8 k9 c10 k10 hlv5 hlv6 hlv10 hf5 hp6 hw1 hag hag2 s0 gl
 go_enter Tryz.func130,Tryz.ntmps130
 go_wp2_with fail
 refine HAL.o.mono ?_
 rintro e1 w1 ⟨rfl,⟨H1,tb1,es1,mp1,li1⟩,hl,ha,hk⟩
 obtain rfl:H1=L.H:=hl.H
 have P1:=ah (And.intro hl.x (And.intro ha hk))
 clear hl ha hk
 have C2:=ah (jh P1.o.2.1 K1.o.1 K1.o.2)
 go_wp2_with fail
 refine C2.o.mono ?_
 rintro e2 w2 ⟨rfl,⟨H2,tb2,es2,mp2,li2⟩,hl,ha,hk⟩
 obtain rfl:H2=L.H:=hl.H
 have P2:=ah (And.intro (P1.o.1.trans hl) (And.intro ha (P1.o.2.2.trans hk)))
 clear hl ha hk
 have C3:=ah (vw P2.o.2.1 K2.o.2.2 (fun n hn=>K2.o.1.l n (.inr (.inl hn))) K2.o.1.s.nu)
 go_wp2_with fail
 refine C3.o.mono ?_
 rintro e3 w3 ⟨rfl,⟨H3,tb3,es3,mp3,li3⟩,hl,ha,hk⟩
 obtain rfl:H3=L.H:=hl.H
 have P3:=ah (And.intro (P2.o.1.trans hl.x) (And.intro ha (P2.o.2.2.trans hk)))
 clear hl ha hk
 have C4:=ah (kD P3.o.2.1 K3.o.1 K3.o.2)
 go_wp2_with fail
 refine C4.o.mono ?_
 rintro e4 w4 ⟨rfl,⟨H4,tb4,es4,mp4,li4⟩,hl,ha,hk⟩
 obtain rfl:H4=L.H:=hl.H
 have P4:=ah (And.intro (P3.o.1.trans hl) (And.intro (show JR base S h.JY G _ w4 from ha) (P3.o.2.2.trans hk)))
 clear hl ha hk
 have C5:=ah (qc P4.o.2.1 K4.o)
 go_wp2_with fail
 refine C5.o.mono ?_
 rintro e5 w5 ⟨rfl,ha,hk⟩
 have P5:=ah (And.intro ha (P4.o.2.2.trans hk))
 clear ha hk
 have C6:=ah (AA P5.o.1 K5.o.2 K5.o.1.s.fp)
 go_wp2_with fail
 refine C6.o.mono ?_
 rintro e6 w6 ⟨rfl,⟨H6,tb6,es6,mp6,li6⟩,hl,ha,hk⟩
 obtain rfl:H6=L.H:=hl.H
 have P6:=ah (And.intro (P4.o.1.trans hl) (And.intro (show JR base S h.JY.at2 G _ w6 from ha) (P5.o.2.trans hk)))
 clear hl ha hk
 have C7:=ah (nE P6.o.2.1 K6.o.2 (by have:=K6.o.1.s.nu;omega) (by have:=K6.o.1.s.fp;omega))
 go_wp2_with fail
 refine C7.o.mono ?_
 rintro e7 w7 ⟨rfl,⟨H7,tb7,es7,mp7,li7⟩,hl,ha,hk⟩
 obtain rfl:H7=L.H:=hl.H
 have P7:=ah (And.intro (P6.o.1.trans hl.x) (And.intro ha (P6.o.2.2.trans hk)))
 clear hl ha hk
 have C8:=ah (kD P7.o.2.1 K7.o.1 K7.o.2)
 go_wp2_with fail
 refine C8.o.mono ?_
 rintro e8 w8 ⟨rfl,⟨H8,tb8,es8,mp8,li8⟩,hl,ha,hk⟩
 obtain rfl:H8=L.H:=hl.H
 have P8:=ah (And.intro (P7.o.1.trans hl) (And.intro (show JR base S h.JY.at2.at3 G _ w8 from ha) (P7.o.2.2.trans hk)))
 clear hl ha hk
 have C9:=ah (yO P8.o.2.1 K8.o)
 go_wp2_with fail
 refine C9.o.mono ?_
 rintro e9 w9 ⟨rfl,ha,hk⟩
 have P9:=ah (And.intro ha (P8.o.2.2.trans hk))
 clear ha hk
 have C10:=ah (qc P9.o.1 K9.o)
 go_wp2_with fail
 refine C10.o.mono ?_
 rintro e10 w10 ⟨rfl,ha,hk⟩
 have P10:=ah (And.intro ha (P9.o.2.trans hk))
 clear ha hk
 have C11:=ah (yx P10.o.1 K10.o HG10.o hol)
 go_wp2_with fail
 refine C11.o.mono ?_
 rintro e11 w11 ⟨rfl,ha,hk⟩
 have P11:=ah (And.intro (show JR base S h.JY.at2.at3.at4.Jp G _ w11 from ha) (P10.o.2.trans hk))
 clear ha hk
 have HAT:Hq (h.atomic=h.JY.at2.at3.at4.Jp.Jz):=ah rfl
 have HPL:=ah P8.o.1
 clear C2 C3 C4 C5 C6 C7 C8 C9 C10 C11 P1 P2 P3 P4 P5 P6 P7 P8 P9 P10 K1 K2 K3 K4 K5 K6 K7 K8 K9 K10 HG10
 generalize h.JY.at2.at3.at4.Jp=q at *
 have hqw:=HWW.o
 have c1:w11.cell? ⟨L.H,1,none⟩=some (.int .i64 (q.white:Int)):=P11.o.1.hp.cell (j:=1) (by omega)
 have z1:=P11.o.1.hp.Jv 1
 go_upto_region 12 with (fail)
 have hwv:(1:Int)-(q.white:Int)=((1-q.white:Nat):Int):=by omega
 have Q1:=ah (P11.o.1.num (h':={ q with white:=1-q.white }) (G':=G) 1 (.int .i64 ((1-q.white:Nat):Int)) (by decide) (fun _=>rfl) ⟨rfl,rfl,rfl,rfl,rfl,rfl,rfl⟩ ⟨rfl,rfl⟩ (aS _ rfl rfl rfl rfl rfl rfl rfl rfl rfl rfl rfl rfl rfl rfl rfl rfl rfl rfl rfl))
 rw [hwv]
 clear hwv c1 z1
 generalize w11.setCell ⟨L.H,1,none⟩ (.int .i64 ((1-q.white:Nat):Int))=w12 at *
 have c0:w12.cell? ⟨L.H,0,none⟩=some (.int .i64 (q.state:Int)):=Q1.o.1.hp.cell (j:=0) (by omega)
 have z0:=Q1.o.1.hp.Jv 0
 go_upto_region 13 with (fail)
 have Q2:=ah (Q1.o.1.num (h':={ q with white:=1-q.white,state:=2 }) (G':=G) 0 (.int .i64 2) (by decide) (fun _=>rfl) ⟨rfl,rfl,rfl,rfl,rfl,rfl,rfl⟩ ⟨rfl,rfl⟩ (aS _ rfl rfl rfl rfl rfl rfl rfl rfl rfl rfl rfl rfl rfl rfl rfl rfl rfl rfl rfl))
 clear c0 z0
 generalize w12.setCell ⟨L.H,0,none⟩ (.int .i64 2)=w13 at *
 have c8:w13.cell? ⟨L.H,8,none⟩=some (.int .i64 (G.kept:Int)):=Q2.o.1.hp.cell (j:=8) (by omega)
 have z8:=Q2.o.1.hp.Jv 8
 have c9:w13.cell? ⟨L.H,9,none⟩=some (.int .i64 (G.Ee:Int)):=Q2.o.1.hp.cell (j:=9) (by omega)
 have z9:=Q2.o.1.hp.Jv 9
 have Q3:=ah (Q2.o.1.num (h':={ q with white:=1-q.white,state:=2 }) (G':={ G with kept:=0 }) 8 (.int .i64 0) (by decide) (fun _=>rfl) ⟨rfl,rfl,rfl,rfl,rfl,rfl,rfl⟩ ⟨rfl,rfl⟩ (aS _ rfl rfl rfl rfl rfl rfl rfl rfl rfl rfl rfl rfl rfl rfl rfl rfl rfl rfl rfl))
 have Q4:=ah (Q3.o.1.num (h':={ q with white:=1-q.white,state:=2 }) (G':={ G with kept:=0,Ee:=0 }) 9 (.int .i64 0) (by decide) (fun _=>rfl) ⟨rfl,rfl,rfl,rfl,rfl,rfl,rfl⟩ ⟨rfl,rfl⟩ (aS _ rfl rfl rfl rfl rfl rfl rfl rfl rfl rfl rfl rfl rfl rfl rfl rfl rfl rfl rfl))
 go_wp2
 go_end0
 refine ⟨rfl,⟨L.H,tb8,es8,mp8,li8⟩,HPL.o,⟨q.weak,q.D8,?_⟩,(((P11.o.2.trans Q1.o.2).trans Q2.o.2).trans Q3.o.2).trans Q4.o.2⟩
 rw [HAT.o]
 exact Q4.o.1.aux q.again 1
end
section
variable {G:Gh} {L:PM} {S:Nat->Prop} {base:Nat} {h:Hp} {w:World} {x y:List Nat}
theorem JR.II (a:JR base S h G L w) (k:Nat) (hk:iZ k):∃ L',JD L L'/\JR base S (fM h k []) G L' (w.setCell ⟨L.H,k,none⟩ (.slice none 0 0))/\Keeps w (w.setCell ⟨L.H,k,none⟩ (.slice none 0 0)) S:=by
 obtain ⟨-,p2,p3⟩:=a.Gm (h':=fM h k []) (G':=G) (w1:=w) k hk.p (Keeps.refl w _) (.slice none 0 0) (by rw [jO hk];exact ⟨rfl,.inl ⟨rfl,rfl⟩⟩) (fun g e=>by simp [Value.ownBlock] at e) (gJ h k _) (fun j hj hn=>gV hk hj hn _) (jf hk _ _)
 refine ⟨_,?_,p2,p3⟩
 exact ⟨rfl,rfl,rfl,rfl⟩
theorem JR.I6 (a:JR base S h G L w):∃ L',JD L L'/\JR base S h { G with ag:=[] } L' (w.setCell ⟨L.H,12,none⟩ (.slice none 0 0))/\Keeps w (w.setCell ⟨L.H,12,none⟩ (.slice none 0 0)) S:=by
 obtain ⟨-,p2,p3⟩:=a.Gm (h':=h) (G':={ G with ag:=[] }) (w1:=w) 12 (by simp [b_]) (Keeps.refl w _) (.slice none 0 0) ⟨rfl,.inl ⟨rfl,rfl⟩⟩ (fun g e=>by simp [Value.ownBlock] at e) (fun _=>rfl) (fun j hj hn=>by rcases hj with rfl|rfl|rfl|rfl|rfl|rfl|rfl|rfl|rfl<;>first |rfl|exact absurd rfl hn) (aS _ rfl rfl rfl rfl rfl rfl rfl rfl rfl rfl rfl rfl rfl rfl rfl rfl rfl rfl rfl)
 refine ⟨_,?_,p2,p3⟩
 exact ⟨rfl,rfl,rfl,rfl⟩
theorem sZ (a:JR base S (h.wk x y) G L w) (s:Sm h) (hl:∀ n,n∈h.roots∨n∈h.pending->h.Lv n):
 Calls Tryz.prog 83 #[.pointer (some ⟨L.H,0,none⟩)] w fun e w'=>e=.returned (.tuple #[])/\∃ L',JD L L'/\JR base S h.begin { G with ag:=[] } L' w'/\Keeps w w' S:=by
 have c0:w.cell? ⟨L.H,0,none⟩=some (.int .i64 (h.state:Int)):=a.hp.cell (j:=0) (by omega)
 have z0:=a.hp.Jv 0
 have Q0:=ah (a.num (h':={ h.wk x y with state:=1 }) (G':=G) 0 (.int .i64 1) (by decide) (fun _=>rfl) ⟨rfl,rfl,rfl,rfl,rfl,rfl,rfl⟩ ⟨rfl,rfl⟩ (aS _ rfl rfl rfl rfl rfl rfl rfl rfl rfl rfl rfl rfl rfl rfl rfl rfl rfl rfl rfl))
 have HS:=ah (And.intro s.Ev hl)
 have HP:=ah s
 clear a s hl
 go_enter Tryz.func83,Tryz.ntmps83
 go_upto_region 1 with (fail)
 generalize w.setCell ⟨L.H,0,none⟩ (.int .i64 1)=w1 at *
 obtain ⟨L1,pl1,a1,k1⟩:=Q0.o.1.II 11 (by simp [iZ])
 obtain ⟨H1,tb1,es1,mp1,li1⟩:=L1
 obtain rfl:H1=L.H:=pl1.H
 obtain ⟨L2,pl2,a2,k2⟩:=a1.I6
 obtain ⟨H2,tb2,es2,mp2,li2⟩:=L2
 obtain rfl:H2=L.H:=pl2.H
 obtain ⟨L3,pl3,a3,k3⟩:=a2.II 13 (by simp [iZ])
 obtain ⟨H3,tb3,es3,mp3,li3⟩:=L3
 obtain rfl:H3=L.H:=pl3.H
 obtain ⟨L4,pl4,a4,k4⟩:=a3.II 14 (by simp [iZ])
 obtain ⟨H4,tb4,es4,mp4,li4⟩:=L4
 obtain rfl:H4=L.H:=pl4.H
 have c11:w1.cell? ⟨L.H,11,none⟩=some (L.li 11):=Q0.o.1.hp.cell (j:=11) (by omega)
 have c12:w1.cell? ⟨L.H,12,none⟩=some (L.li 12):=Q0.o.1.hp.cell (j:=12) (by omega)
 have c13:w1.cell? ⟨L.H,13,none⟩=some (L.li 13):=Q0.o.1.hp.cell (j:=13) (by omega)
 have c14:w1.cell? ⟨L.H,14,none⟩=some (L.li 14):=Q0.o.1.hp.cell (j:=14) (by omega)
 have z11:=Q0.o.1.hp.Jv 11
 have z12:=Q0.o.1.hp.Jv 12
 have z13:=Q0.o.1.hp.Jv 13
 have z14:=Q0.o.1.hp.Jv 14
 have A4:=ah (show JR base S h.Ev { G with ag:=[] } _ _ from a4.aux [] h.D7)
 have PK:=ah (And.intro ((pl1.trans pl2).trans (pl3.trans pl4)) (((Q0.o.2.trans k1).trans k2).trans (k3.trans k4)))
 clear a1 a2 a3 a4 k1 k2 k3 k4 pl1 pl2 pl3 pl4 Q0 c0 z0
 go_upto_region 3 with (fail)
 generalize (((w1.setCell ⟨L.H,11,none⟩ (.slice none 0 0)).setCell ⟨L.H,12,none⟩ (.slice none 0 0)).setCell ⟨L.H,13,none⟩ (.slice none 0 0)).setCell ⟨L.H,14,none⟩ (.slice none 0 0)=w5 at *
 have HAL:=ah (lC A4.o (fun n hn=>HS.o.2 n (.inl hn)) (by have:=HS.o.1.nu;omega) (by have:=HP.o.rt;show h.roots.length<=20000;omega) (fun n hn=>HS.o.2 n (.inr hn)) (by have:=HP.o.fp;show h.pending.length<=20000;omega))
 clear c11 c12 c13 c14 z11 z12 z13 z14
 go_wp2_with fail
 refine HAL.o.mono ?_
 rintro e1 w6 ⟨rfl,L6,hl,ha,hk⟩
 have P6:=ah (And.intro hl.x (And.intro ha hk))
 clear hl ha hk
 go_wp2
 go_end0
 exact ⟨rfl,L6,PK.o.1.trans P6.o.1,P6.o.2.1,PK.o.2.trans P6.o.2.2⟩
end
section
variable {G:Gh} {L:PM} {S:Nat->Prop} {base n:Nat} {h:Hp} {o:Ob} {w:World}
theorem Dy (tb:Nat->Nat) (l:List Nat):l.map (cO tb 18)=bU l:=rfl
theorem vV (a:JR base S h G L w) (ho:h.ob n=some o) (hl1:1<=h.live) (hl2:h.live<=20000) (hb1:40+40*o.es.length<=h.bytes) (hb2:h.bytes<=300000) (hfl:h.freed.length<=20000):
 Calls Tryz.prog 139 #[.pointer (some ⟨L.H,0,none⟩),.pointer (some ⟨L.tb n,0,none⟩)] w fun e w'=>e=.returned (.tuple #[])/\∃ L',JD L L'/\JR base S { h with live:=h.live-1,bytes:=h.bytes-(40+40*o.es.length),freed:=h.freed++[n] } G L' w'/\Keeps w w' S:=by
 have c3:w.cell? ⟨L.H,3,none⟩=some (.int .i64 (h.live:Int)):=a.hp.cell (j:=3) (by omega)
 have z3:=a.hp.Jv 3
 have Q0:=ah (a.num (h':={ h with live:=h.live-1 }) (G':=G) 3 (.int .i64 ((h.live-1:Nat):Int)) (by decide) (fun _=>rfl) ⟨rfl,rfl,rfl,rfl,rfl,rfl,rfl⟩ ⟨rfl,rfl⟩ (aS _ rfl rfl rfl rfl rfl rfl rfl rfl rfl rfl rfl rfl rfl rfl rfl rfl rfl rfl rfl))
 have HO:=ah ho
 clear a ho
 go_enter Tryz.func139,Tryz.ntmps139
 go_upto_region 1 with (fail)
 rw [show (h.live:Int)-1=((h.live-1:Nat):Int) by omega]
 generalize w.setCell ⟨L.H,3,none⟩ (.int .i64 ((h.live-1:Nat):Int))=w1 at *
 clear c3 z3
 have c4:w1.cell? ⟨L.H,4,none⟩=some (.int .i64 (h.bytes:Int)):=Q0.o.1.hp.cell (j:=4) (by omega)
 have z4:=Q0.o.1.hp.Jv 4
 have t2:w1.cell? ⟨L.tb n,2,none⟩=some (.int .i64 ((40+40*o.es.length:Nat):Int)):=(Q0.o.1.ob n o HO.o).cell (j:=2) (by omega)
 have Q1:=ah (Q0.o.1.num (h':={ h with live:=h.live-1,bytes:=h.bytes-(40+40*o.es.length) }) (G':=G) 4 (.int .i64 ((h.bytes-(40+40*o.es.length):Nat):Int)) (by decide) (fun _=>rfl) ⟨rfl,rfl,rfl,rfl,rfl,rfl,rfl⟩ ⟨rfl,rfl⟩ (aS _ rfl rfl rfl rfl rfl rfl rfl rfl rfl rfl rfl rfl rfl rfl rfl rfl rfl rfl rfl))
 obtain ⟨z,hz⟩:∃ z:Nat,z=40+40*o.es.length:=⟨_,rfl⟩
 rw [<-hz] at t2 Q1 hb1
 have HZ:=ah hz
 clear hz
 go_wp2_with fail
 go_region
 rw [show (h.bytes:Int)-(z:Int)=((h.bytes-z:Nat):Int) by omega]
 have hdr:∀ x:World,x.drew=x.drewN 1:=fun x=>rfl
 rw [hdr]
 have Q2:=ah (And.intro (Q1.o.1.low (ay (Below.refl _ _) 1)) (Q1.o.2.trans (Keeps.of (ay (Below.refl _ _) 1) (Nat.le_refl _) S)))
 generalize (w1.setCell ⟨L.H,4,none⟩ (.int .i64 ((h.bytes-z:Nat):Int))).drewN 1=w2 at *
 clear c4 z4 t2 hdr Q1
 have c17:w2.cell? ⟨L.H,17,none⟩=some (.bool true):=Q2.o.1.hp.cell (j:=17) (by omega)
 have t1:w2.cell? ⟨L.tb n,1,none⟩=some (.int .i64 (n:Int)):=(Q2.o.1.ob n o HO.o).cell (j:=1) (by omega)
 have hli:=Q2.o.1.li 18 (by simp [b_])
 rw [show dh { h with live:=h.live-1,bytes:=h.bytes-z } G 18=h.freed from rfl,Dy] at hli
 obtain ⟨af,cf,hfv⟩:=aF hli
 have c18:w2.cell? ⟨L.H,18,none⟩=some (.slice af h.freed.length cf):=by
  have:=Q2.o.1.hp.cell (j:=18) (by omega)
  rw [this]
  exact congrArg some hfv
 have z18:=Q2.o.1.hp.Jv 18
 have HFV:=ah (And.intro hfv hli)
 have hHl:=Q2.o.1.hp.lt
 have htl:=(Q2.o.1.ob n o HO.o).lt
 clear hfv hli
 go_wp2_with fail
 go_region_law (
  refine je (wr:=w2) _ _ rfl base (.slice af h.freed.length cf) h.freed n (by have:=HFV.o.2;rw [HFV.o.1] at this;exact this) rfl rfl (by omega) Q2.o.1.bs ?_
  intro v' w8 hv1 hv2 hv3
  obtain ⟨a8,k8,rfl⟩:=aF hv1
  have hls:=Q2.o.1.Gm (h':=fM { h with live:=h.live-1,bytes:=h.bytes-z } 18 (h.freed++[n])) (G':=G) 18 (by simp [b_]) (by rw [HFV.o.1];exact hv2) (.slice a8 (h.freed++[n]).length k8) hv1 (by rw [HFV.o.1];exact hv3) (gJ _ _ _) (fun j hj hn=>gV (by simp [iZ]) hj hn _) (jf (by simp [iZ]) _ _)
  have e18:w8.cell? ⟨L.H,18,none⟩=some (.slice af h.freed.length cf):=by
   have:=hls.1.cell (j:=18) (by omega)
   rw [this]
   exact congrArg some HFV.o.1
  have y18:=hls.1.Jv 18
  have H8:=ah hls.2
  clear hv1 hv2 hv3 hls)
 all_goals
  go_wp2
  go_end0
  have h9:=H8.o
  have e9:(h.freed++[n]).length=h.freed.length+1:=by simp
  rw [e9] at h9
  rw [<-HZ.o]
  refine ⟨rfl,_,?_,h9.1,(Q0.o.2.trans Q2.o.2).trans h9.2⟩
  exact ⟨rfl,rfl,rfl,rfl⟩
end
section
variable {T TS base c cap g k n s:Nat} {w:World} {xs:List Value}
theorem zu (zc:Array Value) (n:Nat):(Builtin.zeroCells zc n).toList.length=n*zc.size:=by simp [Builtin.zeroCells]
theorem BN (zc:Array Value) (n:Nat) (h:∀ u∈zc.toList,u.oneCell'=true):∀ u∈(Builtin.zeroCells zc n).toList,u.oneCell'=true:=by
 intro u hu
 simp only [Builtin.zeroCells,Array.toList_map,List.mem_map] at hu
 obtain ⟨i,hi,rfl⟩:=hu
 have hil:i<n*zc.size:=by simpa using hi
 have hz:0<zc.size:=by
  rcases Nat.eq_zero_or_pos zc.size with c|c
  ·rw [c] at hil;simp at hil
  ·exact c
 have hm:=Nat.mod_lt i hz
 rw [getElem!_pos zc (i%zc.size) hm]
 exact h _ (by simp)
theorem jU {z:Value} (hU:Tryz.prog.underlying TS=some (.slice T)) (hz:∀ w,(zeroValue T).run Tryz.prog w=.ok z w) (hzs:z.cells.size=s) (h1:∀ u∈z.cells.toList,u.oneCell'=true)
 (hown:w.ownsRow base T s (.slice (some ⟨g,0,none⟩) n cap) n xs) (hk:k<n) (ty:TypeId):∃ w1,(Builtin.clear_ #[TS] ty #[.slice (some ⟨g,k*s,none⟩) (n-k) c]).run Tryz.prog w=.ok (.tuple #[]) w1/\w1.ownsRow base T s (.slice (some ⟨g,0,none⟩) k cap) k (xs.take (k*s))/\Keeps w w1 (fun b=>b=g)/\w1.heap.size=w.heap.size:=by
 have hown':=hown
 obtain ⟨hl,hcase⟩:=hown
 rcases hcase with ⟨hv,_⟩|⟨g',cap',cur,hv,hBg,hh,hnc,hcm,hcs,ht⟩
 ·cases hv
 ·simp only [Value.slice.injEq,Option.some.injEq,Addr.mk.injEq,true_and,and_true] at hv
  obtain ⟨rfl,rfl⟩:=hv
  have hle:(n-k)*s+k*s=n*s:=by rw [<-Nat.add_mul,Nat.sub_add_cancel (Nat.le_of_lt hk)]
  have hncs:n*s<=cap*s:=Nat.mul_le_mul_right _ hnc
  have hzl:=zu z.cells (n-k)
  rw [hzs] at hzl
  have hrun:=run_storeCells_at (P:=Tryz.prog) g (k*s) T (Builtin.zeroCells z.cells (n-k)).toList 0 cur w hh (by rw [hzl];omega) (BN _ _ h1)
  rw [Nat.add_zero,hzl,show k*s+(n-k)*s=n*s by omega] at hrun
  have hlen:(cur.toList.take (k*s)++(Builtin.zeroCells z.cells (n-k)).toList++cur.toList.drop (n*s)).length=cap*s:=by
   rw [List.length_append,List.length_append,hzl,List.length_take,List.length_drop,Array.length_toList,hcs]
   omega
  refine ⟨w.setRow g (cur.toList.take (k*s)++(Builtin.zeroCells z.cells (n-k)).toList++cur.toList.drop (n*s)).toArray,?_,⟨?_,.inr ⟨g,cap,_,rfl,hBg,setRow_heap w g cur _ T (0,0) hh,by omega,hcm,by rw [List.size_toArray];exact hlen,?_⟩⟩,⟨rfl,rfl,rfl,Nat.le_of_eq (setRow_size w g _).symm,fun b hb hn=>setRow_other w g b _ hn⟩,setRow_size w g _⟩
  ·obtain ⟨m,hm⟩:∃ m,n-k=m+1:=⟨n-k-1,by omega⟩
   rw [hm] at hrun ⊢
   simp only [Builtin.clear_,Sem.run_bind,run_underlying hU,Result.andThen_ok,hz,hrun,Sem.run_pure,List.getElem?_toArray,List.getElem?_cons_zero]
  ·rw [List.length_take,hl];omega
  ·show ((cur.toList.take (k*s)++(Builtin.zeroCells z.cells (n-k)).toList++cur.toList.drop (n*s)).take (k*s))=xs.take (k*s)
   rw [List.append_assoc,List.take_append_of_le_length (by rw [List.length_take,Array.length_toList,hcs];omega),List.take_take,Nat.min_self,<-ht,List.take_take,Nat.min_eq_left (by omega)]
theorem jk (hU:Tryz.prog.underlying TS=some (.slice T)) (A:Option Addr) (c:Nat) (ty:TypeId):(Builtin.clear_ #[TS] ty #[.slice A 0 c]).run Tryz.prog w=.ok (.tuple #[]) w:=by
 cases A with
 |none=>simp only [Builtin.clear_,Sem.run_bind,run_underlying hU,Result.andThen_ok,Sem.run_pure,List.getElem?_toArray,List.getElem?_cons_zero]
 |some a=>simp only [Builtin.clear_,Sem.run_bind,run_underlying hU,Result.andThen_ok,Sem.run_pure,List.getElem?_toArray,List.getElem?_cons_zero]
end
section
variable {G:Gh} {L:PM} {S:Nat->Prop} {base cap k n:Nat} {h:Hp} {l:List Value} {w w1:World}
theorem pG (w:World):(zeroValue 67).run Tryz.prog w=.ok .nilIface w:=by kernel_rfl
theorem JR.IW (a:JR base S h G L w) (hk:G.kept<=G.Jt.length) {A:Option Addr} (hv:L.li 7=.slice A G.Jt.length cap) (kk:Keeps w w1 (fun b=>(L.li 7).ownBlock=some b)) (ho:w1.ownsRow base 67 1 (.slice A G.kept cap) G.kept ((G.Jt.take G.kept).map (cO L.tb 7))):
 aD w1 77 L.H 19 (iY h G L)/\∃ L',JD L L'/\JR base S h { G with Jt:=G.Jt.take G.kept } L' (w1.setCell ⟨L.H,7,none⟩ (.slice A G.kept cap))/\Keeps w (w1.setCell ⟨L.H,7,none⟩ (.slice A G.kept cap)) S:=by
 have hl:(G.Jt.take G.kept).length=G.kept:=by rw [List.length_take];omega
 obtain ⟨p1,p2,p3⟩:=a.Gm (h':=h) (G':={ G with Jt:=G.Jt.take G.kept }) 7 (by simp [b_]) kk (.slice A G.kept cap) (by show w1.ownsRow base _ 1 _ (G.Jt.take G.kept).length _;rw [hl];exact ho) (fun g e=>.inl (by rw [hv];cases A<;>simp [Value.ownBlock] at e ⊢;exact e)) (fun _=>rfl) (fun j hj hn=>by rcases hj with rfl|rfl|rfl|rfl|rfl|rfl|rfl|rfl|rfl<;>first |rfl|exact absurd rfl hn) (aS _ rfl rfl rfl rfl rfl rfl rfl rfl rfl rfl rfl rfl rfl rfl rfl rfl rfl rfl rfl)
 refine ⟨p1,_,?_,p2,p3⟩
 exact ⟨rfl,rfl,rfl,rfl⟩
theorem jZ {A:Option Addr} (h:w.ownsRow base 67 1 (.slice A n cap) n l) (hk:k<=n):w.ownsRow base 67 1 (.slice A k cap) k (l.take k):=by
 have:=jB h hk
 rw [Nat.mul_one] at this
 exact this
theorem zq (a:JR base S h G L w) (hk:G.kept<=G.Jt.length) (hol:G.Jt.length<=20000) (hby:h.bytes<=300000):
 Calls Tryz.prog 140 #[.pointer (some ⟨L.H,0,none⟩)] w fun e w'=>e=.returned (.tuple #[])/\∃ L',JD L L'/\JR base S { h with state:=0,limit:=max (2*h.bytes) 4096,D6:=0 } { G with Jt:=G.Jt.take G.kept } L' w'/\Keeps w w' S:=by
 have hli:=a.li 7 (by simp [b_])
 obtain ⟨A,cap,hv⟩:=aF hli
 have hv':L.li 7=.slice A G.Jt.length cap:=hv
 have hcap:G.Jt.length<=cap:=by
  obtain ⟨A',cap',hv2,hc2,-⟩:=a.EM (k:=7) (by simp [b_])
  have h9:=hv'.symm.trans hv2
  simp only [Value.slice.injEq] at h9
  rw [h9.2.2]
  exact hc2
 have c7:w.cell? ⟨L.H,7,none⟩=some (.slice A G.Jt.length cap):=by
  have:=a.hp.cell (j:=7) (by omega)
  rw [this]
  exact congrArg some hv'
 have c8:w.cell? ⟨L.H,8,none⟩=some (.int .i64 (G.kept:Int)):=a.hp.cell (j:=8) (by omega)
 have hHl:=a.hp.lt
 have hHo:(L.li 7).ownBlock≠some L.H:=fun e=>ak hli a.hp (by decide) e
 have HA:=ah a
 have HV:=ah hv'
 have HLI:=ah (show w.ownsRow base 67 1 (.slice A G.Jt.length cap) G.Jt.length (G.Jt.map (cO L.tb 7)) from by rw [<-hv'];exact hli)
 have HHO:=ah hHo
 have hk1:(G.kept:Int)<=cap:=by omega
 have hk2:(G.kept:Int)<=G.Jt.length:=by omega
 have hn0:A=none->G.Jt.length=0/\cap=0:=by
  intro hA
  rcases HLI.o.2 with ⟨h1,h2⟩|⟨g,cap',cur,h1,_⟩
  ·rw [hA] at h1
   simp only [Value.slice.injEq] at h1
   exact ⟨h2,h1.2.2⟩
  ·rw [hA] at h1
   simp at h1
 clear a hli hv hv' hHo
 go_enter Tryz.func140,Tryz.ntmps140
 go_wp2_with fail
 go_cut [] (fun wc=>Hq (Keeps w wc (fun b=>(L.li 7).ownBlock=some b)/\wc.ownsRow base 67 1 (.slice A G.kept cap) G.kept ((G.Jt.take G.kept).map (cO L.tb 7))))
 case first=>
  cases hA:A with
  |none=>
   obtain ⟨hn1,hn2⟩:=hn0 hA
   have hk0:G.kept=0:=by omega
   subst hA
   rw [hn1,hn2] at c7 HLI
   rw [hk0] at c8
   subst hn2
   have HK0:=ah hk0
   clear hn0 hn1 hk0 hk1 hk2 hcap hk hol
   have hcl:=jk (w:=w.drew) Tryz.underlying70 none 0 0
   go_region_held3 (fun w'=>w'.cell? ⟨L.H,7,none⟩=some (.slice none 0 0)/\w'.cell? ⟨L.H,8,none⟩=some (.int .i64 0)) (go_keep)
    (fail)
   go_wp2_with fail
   go_meet
   refine ⟨Keeps.of (ay (Below.refl w.heap.size w) 1) (Nat.le_refl _) _,?_⟩
   rw [HK0.o]
   exact ⟨rfl,.inl ⟨rfl,rfl⟩⟩
  |some x=>
   obtain ⟨g,rfl⟩:∃ g,x=⟨g,0,none⟩:=by
    rcases HLI.o.2 with ⟨h1,h2⟩|⟨g,cap',cur,h1,_⟩
    ·rw [hA] at h1;cases h1
    ·rw [hA] at h1
     simp only [Value.slice.injEq,Option.some.injEq] at h1
     exact ⟨g,h1.1⟩
   subst hA
   clear hn0
   by_cases hce:cap=G.kept
   ·have hl9:G.Jt.length=G.kept:=by omega
    rw [hl9,hce] at c7
    have HL9:=ah (And.intro hl9 hce)
    clear hl9 hce hcap hk2
    have hcl:=jk (w:=w.drew) Tryz.underlying70 (some ⟨g,0,none⟩) 0 0
    go_region_held3 (fun w'=>w'.cell? ⟨L.H,7,none⟩=some (.slice (some ⟨g,0,none⟩) G.kept G.kept)/\w'.cell? ⟨L.H,8,none⟩=some (.int .i64 (G.kept:Int))) (go_keep)
     (fail)
    go_wp2_with fail
    go_meet
    refine ⟨Keeps.of (ay (Below.refl w.heap.size w) 1) (Nat.le_refl _) _,?_⟩
    rw [List.map_take]
    exact jZ (aj HLI.o (Keeps.of (ay (Below.refl w.heap.size w) 1) (Nat.le_refl _) (fun _=>False)) (fun _ _ x=>x)) hk
   ·by_cases hlast:G.kept=G.Jt.length
    ·rw [<-hlast] at c7
     have HL9:=ah hlast
     clear hlast hcap hk2
     have hcl:=jk (w:=w.drew) Tryz.underlying70 (some ⟨g,G.kept,none⟩) (cap-G.kept) 0
     go_region_held3 (fun w'=>w'.cell? ⟨L.H,7,none⟩=some (.slice (some ⟨g,0,none⟩) G.kept cap)/\w'.cell? ⟨L.H,8,none⟩=some (.int .i64 (G.kept:Int))) (go_keep)
      (fail)
     go_wp2_with fail
     go_meet
     refine ⟨Keeps.of (ay (Below.refl w.heap.size w) 1) (Nat.le_refl _) _,?_⟩
     rw [List.map_take]
     exact jZ (aj HLI.o (Keeps.of (ay (Below.refl w.heap.size w) 1) (Nat.le_refl _) (fun _=>False)) (fun _ _ x=>x)) hk
    ·obtain ⟨w1,hcl,ho1,hk1',hs1⟩:=jU (w:=w.drew) (c:=cap-G.kept) Tryz.underlying70 pG (s:=1) rfl (fun u hu=>by simp [Value.cells] at hu;subst hu;rfl) (aj HLI.o (Keeps.of (ay (Below.refl w.heap.size w) 1) (Nat.le_refl _) (fun _=>False)) (fun _ _ x=>x)) (show G.kept<G.Jt.length by omega) 0
     rw [Nat.mul_one] at hcl ho1
     have hHg:L.H≠g:=fun e=>HHO.o (by rw [HV.out,e];simp [Value.ownBlock])
     have t7:w1.cell? ⟨L.H,7,none⟩=some (.slice (some ⟨g,0,none⟩) G.Jt.length cap):=(World.cell?_of_block (a:=⟨L.H,7,none⟩) (hk1'.block _ hHl hHg)).trans c7
     have t8:w1.cell? ⟨L.H,8,none⟩=some (.int .i64 (G.kept:Int)):=(World.cell?_of_block (a:=⟨L.H,8,none⟩) (hk1'.block _ hHl hHg)).trans c8
     have H1:=ah (And.intro ho1 hk1')
     clear ho1 hk1' hs1
     have hk3:(G.kept:Int)<G.Jt.length:=by omega
     go_region_held3 (fun w'=>w'.cell? ⟨L.H,7,none⟩=some (.slice (some ⟨g,0,none⟩) G.Jt.length cap)/\w'.cell? ⟨L.H,8,none⟩=some (.int .i64 (G.kept:Int))) (go_keep)
      (fail)
     go_wp2_with fail
     go_meet
     refine ⟨(Keeps.of (ay (Below.refl w.heap.size w) 1) (Nat.le_refl _) _).trans (H1.o.2.mono (fun b e=>by rw [HV.out,e];simp [Value.ownBlock])),?_⟩
     rw [List.map_take]
     exact H1.o.1
 case rest=>
 rename World=>w1
 have hcut1:=hcut
 have HK:=ah (HA.o.IW hk HV.out hcut1.out.1 hcut1.out.2)
 clear hcut hcut1 c7 c8 hn0
 obtain ⟨hrw,L2,pl2,ha2,hk2'⟩:=HK.o
 obtain ⟨H2,tb2,es2,mp2,li2⟩:=L2
 obtain rfl:H2=L.H:=pl2.H
 have c7:w1.cell? ⟨L.H,7,none⟩=some (.slice A G.Jt.length cap):=by
  have:=hrw.cell (j:=7) (by omega)
  rw [this]
  exact congrArg some HV.out
 have c8:w1.cell? ⟨L.H,8,none⟩=some (.int .i64 (G.kept:Int)):=hrw.cell (j:=8) (by omega)
 have z7:=hrw.Jv 7
 have P2:=ah (And.intro pl2 (And.intro (ha2.low (ay (Below.refl _ _) 1)) (hk2'.trans (Keeps.of (ay (Below.refl _ _) 1) (Nat.le_refl _) S))))
 have hHl1:=hrw.lt
 clear hrw pl2 ha2 hk2' HK
 go_wp2_with fail
 go_cut [] (fun wc=>wc=(w1.setCell ⟨L.H,7,none⟩ (.slice A G.kept cap)).drewN 1)
 case first=>
  cases hA:A with
  |none=>
   rcases HLI.o.2 with ⟨h1,h2⟩|⟨g,cap',cur,h1,_⟩
   ·rw [hA] at h1
    simp only [Value.slice.injEq] at h1
    have hc0:cap=0:=h1.2.2
    have hk0:G.kept=0:=by omega
    subst hA
    rw [h2,hc0] at c7
    rw [hk0] at c8
    have HZ:=ah (And.intro hc0 hk0)
    clear h1 h2 hc0 hk0 hk1 hk2 hk hol hcap
    go_region
    go_wp2_with fail
    go_meet
    rw [HZ.o.1,HZ.o.2]
    rfl
   ·rw [hA] at h1;simp at h1
  |some x=>
   obtain ⟨g,rfl⟩:∃ g,x=⟨g,0,none⟩:=by
    rcases HLI.o.2 with ⟨h1,h2⟩|⟨g,cap',cur,h1,_⟩
    ·rw [hA] at h1;cases h1
    ·rw [hA] at h1
     simp only [Value.slice.injEq,Option.some.injEq] at h1
     exact ⟨g,h1.1⟩
   subst hA
   go_region
   go_wp2_with fail
   go_meet
   rfl
 case rest=>
 obtain rfl:=hcut
 generalize (w1.setCell ⟨L.H,7,none⟩ (.slice A G.kept cap)).drewN 1=w2 at *
 clear c7 c8 z7 hHl1
 have c0:w2.cell? ⟨L.H,0,none⟩=some (.int .i64 (h.state:Int)):=P2.o.2.1.hp.cell (j:=0) (by omega)
 have z0:=P2.o.2.1.hp.Jv 0
 have Q0:=ah (P2.o.2.1.num (h':={ h with state:=0 }) (G':={ G with Jt:=G.Jt.take G.kept }) 0 (.int .i64 0) (by decide) (fun _=>rfl) ⟨rfl,rfl,rfl,rfl,rfl,rfl,rfl⟩ ⟨rfl,rfl⟩ (aS _ rfl rfl rfl rfl rfl rfl rfl rfl rfl rfl rfl rfl rfl rfl rfl rfl rfl rfl rfl))
 go_upto_region 3 with (fail)
 generalize w2.setCell ⟨L.H,0,none⟩ (.int .i64 0)=w3 at *
 clear c0 z0
 have c4:w3.cell? ⟨L.H,4,none⟩=some (.int .i64 (h.bytes:Int)):=Q0.o.1.hp.cell (j:=4) (by omega)
 have c6:w3.cell? ⟨L.H,6,none⟩=some (.int .i64 (h.limit:Int)):=Q0.o.1.hp.cell (j:=6) (by omega)
 have z6:=Q0.o.1.hp.Jv 6
 have Q1:=ah (Q0.o.1.num (h':={ h with state:=0,limit:=max (2*h.bytes) 4096 }) (G':={ G with Jt:=G.Jt.take G.kept }) 6 (.int .i64 ((max (2*h.bytes) 4096:Nat):Int)) (by decide) (fun _=>rfl) ⟨rfl,rfl,rfl,rfl,rfl,rfl,rfl⟩ ⟨rfl,rfl⟩ (aS _ rfl rfl rfl rfl rfl rfl rfl rfl rfl rfl rfl rfl rfl rfl rfl rfl rfl rfl rfl))
 go_upto_region 4 with (fail)
 rw [show (if 2*(h.bytes:Int)<4096 then (4096:Int) else 2*(h.bytes:Int))=((max (2*h.bytes) 4096:Nat):Int) by split<;>omega]
 generalize w3.setCell ⟨L.H,6,none⟩ (.int .i64 ((max (2*h.bytes) 4096:Nat):Int))=w4 at *
 clear c4 c6 z6
 have c5:w4.cell? ⟨L.H,5,none⟩=some (.int .i64 (h.D6:Int)):=Q1.o.1.hp.cell (j:=5) (by omega)
 have z5:=Q1.o.1.hp.Jv 5
 have Q2:=ah (Q1.o.1.num (h':={ h with state:=0,limit:=max (2*h.bytes) 4096,D6:=0 }) (G':={ G with Jt:=G.Jt.take G.kept }) 5 (.int .i64 0) (by decide) (fun _=>rfl) ⟨rfl,rfl,rfl,rfl,rfl,rfl,rfl⟩ ⟨rfl,rfl⟩ (aS _ rfl rfl rfl rfl rfl rfl rfl rfl rfl rfl rfl rfl rfl rfl rfl rfl rfl rfl rfl))
 go_wp2
 go_end0
 exact ⟨rfl,_,P2.o.1,Q2.o.1,((P2.o.2.2.trans Q0.o.2).trans Q1.o.2).trans Q2.o.2⟩
end
section
variable {G:Gh} {c c' k n:Nat} {h:Hp}
structure Jm (G:Gh) (h:Hp) (c:Nat):Prop where
 ks:G.kept<=G.Ee
 sl:G.Ee<=G.Jt.length
 ku:(G.Jt.take G.kept).Pairwise (·< ·)
 kl:∀ n,n∈G.Jt.take G.kept↔h.Lv n/\n<c
 du:(G.Jt.drop G.Ee).Pairwise (·< ·)
 dl:∀ n,n∈G.Jt.drop G.Ee↔h.Lv n/\c<=n
theorem Jm.move (x:Jm G h c) (hc:c<=c') (hn:∀ m,c<=m->m<c'->¬ h.Lv m):Jm G h c':=by
 refine ⟨x.ks,x.sl,x.ku,fun n=>(x.kl n).trans ⟨fun e=>⟨e.1,by omega⟩,fun e=>⟨e.1,?_⟩⟩,x.du,fun n=>(x.dl n).trans ⟨fun e=>⟨e.1,?_⟩,fun e=>⟨e.1,by omega⟩⟩⟩
 ·rcases Nat.lt_or_ge n c with d|d
  ·exact d
  ·exact absurd e.1 (hn n d e.2)
 ·rcases Nat.lt_or_ge n c' with d|d
  ·exact absurd e.1 (hn n e.2 d)
  ·exact d
theorem Jm.last (x:Jm G h c) (hd:G.Ee=G.Jt.length) (hc:c<=h.objs.length):h.skip c=h.objs.length/\JO { G with Jt:=G.Jt.take G.kept } h:=by
 have hno:∀ m,c<=m->¬ h.Lv m:=by
  intro m hm hl
  have:=(x.dl m).2 ⟨hl,hm⟩
  rw [hd,List.drop_length] at this
  cases this
 refine ⟨?_,x.ku,fun n=>(x.kl n).trans ⟨fun e=>e.1,fun e=>⟨e,?_⟩⟩⟩
 ·have h1:=h.FC c hc
  have h2:=h.EU c
  have h3:=h.Fj c
  rcases Nat.lt_or_ge (h.skip c) h.objs.length with d|d
  ·cases ho:h.ob (h.skip c) with
   |none=>exact absurd ⟨d,ho⟩ h3
   |some o=>exact absurd ⟨o,ho⟩ (hno _ h2)
  ·omega
 ·rcases Nat.lt_or_ge n c with d|d
  ·exact d
  ·exact absurd e (hno n d)
theorem Jm.next (x:Jm G h c) (hn:G.Jt[G.Ee]?=some n):c<=n/\h.Lv n/\h.skip c=n/\Jm G h n:=by
 have hmem:n∈G.Jt.drop G.Ee:=by
  rw [List.mem_iff_getElem?]
  exact ⟨0,by rw [List.getElem?_drop];simpa using hn⟩
 obtain ⟨hl,hc⟩:=(x.dl n).1 hmem
 have hgap:∀ m,c<=m->m<n->¬ h.Lv m:=by
  intro m h1 h2 h3
  have hm:=(x.dl m).2 ⟨h3,h1⟩
  obtain ⟨j,hj,e⟩:=List.getElem_of_mem hm
  have h0:0<(G.Jt.drop G.Ee).length:=by omega
  have e0:(G.Jt.drop G.Ee)[0]=n:=by
   have:(G.Jt.drop G.Ee)[0]?=some n:=by rw [List.getElem?_drop];simpa using hn
   exact (List.getElem?_eq_some_iff.1 this).2
  rcases Nat.eq_zero_or_pos j with d|d
  ·subst d;omega
  ·have:=List.pairwise_iff_getElem.1 x.du 0 j h0 hj d
   omega
 refine ⟨hc,hl,?_,x.move hc hgap⟩
 obtain ⟨o,ho⟩:=hl
 have hlt:=Hp.Es ho
 have h1:=h.EU c
 have h2:=h.Fj c
 rcases Nat.lt_trichotomy (h.skip c) n with d|d|d
 ·cases hx:h.ob (h.skip c) with
  |none=>exact absurd ⟨by omega,hx⟩ h2
  |some o'=>exact absurd ⟨o',hx⟩ (hgap _ h1 d)
 ·exact d
 ·have:=h.skip_none c n hc d
  rw [ho] at this;cases this
theorem nA {l:List Nat} (h:l[k]?=some n):l.drop k=n::l.drop (k+1):=by
 have hk:=(List.getElem?_eq_some_iff.1 h).1
 rw [List.drop_eq_getElem_cons hk,(List.getElem?_eq_some_iff.1 h).2]
theorem Jm.free {g:Hp} (x:Jm G h n) (hn:G.Jt[G.Ee]?=some n) (hlv:∀ m,g.Lv m↔h.Lv m/\m≠n):Jm { G with Ee:=G.Ee+1 } g (n+1):=by
 have hk:=(List.getElem?_eq_some_iff.1 hn).1
 have hd:=nA hn
 have hdu:=x.du
 rw [hd] at hdu
 refine ⟨by have:=x.ks;show G.kept<=G.Ee+1;omega,hk,x.ku,fun m=>(x.kl m).trans ⟨fun e=>⟨(hlv m).2 ⟨e.1,by omega⟩,by omega⟩,fun e=>⟨((hlv m).1 e.1).1,?_⟩⟩,(List.pairwise_cons.1 hdu).2,fun m=>⟨fun e=>?_,fun e=>?_⟩⟩
 ·have:=((hlv m).1 e.1).2
  omega
 ·have h1:=(x.dl m).1 (by rw [hd];exact List.mem_cons_of_mem _ e)
  have h2:=(List.pairwise_cons.1 hdu).1 m e
  exact ⟨(hlv m).2 ⟨h1.1,by omega⟩,h2⟩
 ·have h1:=(hlv m).1 e.1
  have h2:=(x.dl m).2 ⟨h1.1,by omega⟩
  rw [hd] at h2
  rcases List.mem_cons.1 h2 with c|c
  ·exact absurd c h1.2
  ·exact c
theorem Jm.keep {g:Hp} (x:Jm G h n) (hn:G.Jt[G.Ee]?=some n) (hlv:∀ m,g.Lv m↔h.Lv m):Jm { G with Ee:=G.Ee+1,kept:=G.kept+1,Jt:=G.Jt.set G.kept n } g (n+1):=by
 have hk:=(List.getElem?_eq_some_iff.1 hn).1
 have hks:=x.ks
 have hd:=nA hn
 have hdu:=x.du
 rw [hd] at hdu
 have hln:h.Lv n:=((x.dl n).1 (by rw [hd];simp)).1
 have ht:(G.Jt.set G.kept n).take (G.kept+1)=G.Jt.take G.kept++[n]:=by
  rw [List.take_set,List.take_succ_eq_append_getElem (by omega),List.set_append_right _ _ (by rw [List.length_take];omega)]
  rw [show G.kept-(G.Jt.take G.kept).length=0 by rw [List.length_take];omega]
  rfl
 have hdr:(G.Jt.set G.kept n).drop (G.Ee+1)=G.Jt.drop (G.Ee+1):=by
  rw [List.drop_set_of_lt (by omega)]
 refine ⟨by show G.kept+1<=G.Ee+1;omega,by show G.Ee+1<=(G.Jt.set G.kept n).length;rw [List.length_set];omega,?_,fun m=>?_,?_,fun m=>?_⟩
 ·show ((G.Jt.set G.kept n).take (G.kept+1)).Pairwise (·< ·)
  rw [ht,List.pairwise_append]
  refine ⟨x.ku,List.pairwise_singleton _ _,fun a ha b hb=>?_⟩
  simp at hb
  subst hb
  exact ((x.kl a).1 ha).2
 ·show m∈(G.Jt.set G.kept n).take (G.kept+1)↔_
  rw [ht,List.mem_append,x.kl,hlv]
  simp only [List.mem_singleton]
  constructor
  ·rintro (e|e)
   ·exact ⟨e.1,by omega⟩
   ·subst e;exact ⟨hln,by omega⟩
  ·intro e
   rcases Nat.lt_or_ge m n with d|d
   ·exact .inl ⟨e.1,d⟩
   ·exact .inr (by omega)
 ·show ((G.Jt.set G.kept n).drop (G.Ee+1)).Pairwise (·< ·)
  rw [hdr]
  exact (List.pairwise_cons.1 hdu).2
 ·show m∈(G.Jt.set G.kept n).drop (G.Ee+1)↔_
  rw [hdr,hlv]
  constructor
  ·intro e
   have h1:=(x.dl m).1 (by rw [hd];exact List.mem_cons_of_mem _ e)
   have h2:=(List.pairwise_cons.1 hdu).1 m e
   exact ⟨h1.1,h2⟩
  ·intro e
   have h2:=(x.dl m).2 ⟨e.1,by omega⟩
   rw [hd] at h2
   rcases List.mem_cons.1 h2 with c|c
   ·omega
   ·exact c
structure Jr (h q:Hp) (G:Gh) (c:Nat):Prop where
 e:h.Ec=Hp.close { q with D7:=q.skip c }
 x:Jm G q c
 l:c<=q.objs.length
 s:q.state=2
theorem Jr.fin (hs:h.state=2) (hl:h.D7<=h.objs.length) (x:Jm G h h.D7) (hd:G.Ee=G.Jt.length):Jr h h G h.D7:=by
 obtain ⟨h1,h2⟩:=x.last hd hl
 refine ⟨?_,x,hl,hs⟩
 have h3:Hp.D9 h.skipped=h.skipped:=by
  unfold Hp.D9
  have:h.skipped.ob h.skipped.D7=.none:=by
   show h.ob (h.skip h.D7)=.none
   rw [h1]
   unfold Hp.ob
   rw [List.getElem?_eq_none (Nat.le_refl _)]
   rfl
  rw [this]
 have h4:Hp.skipped h.skipped=h.skipped:=by
  have h5:Hp.skip h.skipped (h.skip h.D7)=h.skip h.D7:=by
   have a1:=Hp.EU h.skipped (h.skip h.D7)
   have a2:=Hp.FC h.skipped (h.skip h.D7) (by rw [h1];exact Nat.le_refl _)
   have a3:h.skipped.objs.length=h.objs.length:=rfl
   omega
  show { h with D7:=Hp.skip h.skipped (h.skip h.D7) }=_
  rw [h5]
  rfl
 unfold Hp.Ec
 rw [h3,h4]
 rfl
theorem Jr.freed {h:Hp} {G:Gh} (hs:h.state=2) (x:Jm G h h.D7) {n:Nat} {o:Ob} (hn:G.Jt[G.Ee]?=some n) (ho:h.ob n=some o) (hw:(eP o.col&&o.col !=h.white)=true):
 Jr h { h with objs:=h.objs.set n none,live:=h.live-1,bytes:=h.bytes-o.size,freed:=h.freed++[n],D7:=n+1 } { G with Ee:=G.Ee+1 } (n+1):=by
 obtain ⟨h1,h2,h3,h4⟩:=x.next hn
 have hlt:=Hp.Es ho
 refine ⟨?_,h4.free hn (fun m=>?_),by show n+1<=(h.objs.set n none).length;rw [List.length_set];omega,hs⟩
 ·unfold Hp.Ec
  have:h.skipped={ h with D7:=n }:=by unfold Hp.skipped;rw [h3]
  rw [this]
  unfold Hp.D9
  rw [show Hp.ob { h with D7:=n } (Hp.D7 { h with D7:=n })=some o from ho]
  simp only
  rw [if_pos hw]
  rfl
 ·show (∃ o',(Hp.ob _ m)=some o')↔_
  unfold Hp.Lv Hp.ob
  simp only [List.getElem?_set]
  by_cases c:n=m
  ·subst c
   simp [hlt]
  ·simp [c,Ne.symm c]
theorem Jr.kept {h:Hp} {G:Gh} (hs:h.state=2) (x:Jm G h h.D7) {n:Nat} {o:Ob} (hn:G.Jt[G.Ee]?=some n) (ho:h.ob n=some o) (hw:(eP o.col&&o.col !=h.white)=false):
 Jr h { h.upd n (fun o=>{ o with col:=h.white }) with D7:=n+1 } { G with Ee:=G.Ee+1,kept:=G.kept+1,Jt:=G.Jt.set G.kept n } (n+1):=by
 obtain ⟨h1,h2,h3,h4⟩:=x.next hn
 have hlt:=Hp.Es ho
 refine ⟨?_,h4.keep hn (fun m=>?_),by show n+1<=(h.upd n (fun o=>{ o with col:=h.white })).objs.length;rw [Hp.El];omega,hs⟩
 ·unfold Hp.Ec
  have:h.skipped={ h with D7:=n }:=by unfold Hp.skipped;rw [h3]
  rw [this]
  unfold Hp.D9
  rw [show Hp.ob { h with D7:=n } (Hp.D7 { h with D7:=n })=some o from ho]
  simp only
  rw [if_neg (by rw [hw];decide)]
  rfl
 ·show (∃ o',(h.upd n (fun o=>{ o with col:=h.white })).ob m=some o')↔_
  unfold Hp.Lv
  rw [Hp.Ed]
  split
  ·cases h.ob m<;>simp
  ·rfl
end
end Go.Proofs.YtedpifhlffcmkaaGreatDoor
