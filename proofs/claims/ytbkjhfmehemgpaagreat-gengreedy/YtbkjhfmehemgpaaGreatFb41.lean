/- Texts put together. -/
import Derived.Test.YtbkjhfmehemgpaaGreatFb37
import Derived.Test.YtbkjhfmehemgpaaGreatFb36
namespace Go.Proofs.YtbkjhfmehemgpaaGreat
set_option maxRecDepth 20000
set_option maxHeartbeats 16000000
open Go.ChangeShapes Go.WideShapes Go.ChangeAt Go.RowKit
set_option linter.unusedVariables false
set_option linter.unusedSimpArgs false
section
open Go.Sort hiding Below
structure RsI (w W1:World) (ws:List Int) (T N k j:Nat) (R S:Int) (v:Value) (Y:Nat→Nat→SL) (f:Nat→Nat→List Int) (GB:Nat) (s:Nat→SL) (W:World):Prop where
 bel:Below W1.heap.size W1 W
 cut:CutA w ws T N (4*k+j) W1.heap.size W
 ad:Blk 37 W (W1.heap.size+1) #[.int .i64 R,.int .i64 S,v]
 ta:TA W1.heap.size W v k Y f
 own:∀ g,v.ownBlock=some g→g≠GB
 gb:W1.heap.size≤GB
 lay:Blk 63 W GB #[(if 0<j then (s 0).v else nilS),(if 1<j then (s 1).v else nilS),(if 2<j then (s 2).v else nilS),(if 3<j then (s 3).v else nilS)]
 row:∀ i,i<j→TS W1.heap.size W (s i) (segA N ws (4*k+i))
theorem ta_other {B:Nat}{w w':World}{v:Value}{n:Nat}{Y:Nat→Nat→SL}{f:Nat→Nat→List Int}{g:Nat}{cs:Array Value}(h:TA B w v n Y f)(o:Only g w w')(q:Blk 63 w g cs)(hg:∀ b,v.ownBlock=some b→b≠g):TA B w' v n Y f:=by
 have k62:Keeps 118 w w':=Keeps.of_only o q (by decide)
 refine⟨⟨h.own.1,?_⟩,fun i hi j hj=>(h.lay i hi j hj).step k62⟩
 rcases h.own.2 with h2|⟨b,cap,cur,hv,hb,hh,r⟩
 ·exact .inl h2
 ·refine .inr ⟨b,cap,cur,hv,hb,?_,r⟩
  exact (o.block b (Array.getElem?_eq_some_iff.1 hh).1 (fun e=>hg b (by rw[hv];rfl) (by simpa using e))).trans hh
theorem RsI.step {w W1:World}{ws:List Int}{T N k j:Nat}{R S:Int}{v:Value}{Y:Nat→Nat→SL}{f:Nat→Nat→List Int}{GB:Nat}{s:Nat→SL}{W X:World}(h:RsI w W1 ws T N k j R S v Y f GB s W)(hj:j<4)(sj:SL)(ts:TS W.heap.size X sj (segA N ws (4*k+j)))(hC:CutA w ws T N (4*k+j+1) W1.heap.size X)(on:Only W1.heap.size W X)(k24:Keeps 37 W X)(k52:Keeps 63 W X)(k62:Keeps 118 W X) :
  X.cell? ⟨GB,j,none⟩=some nilS∧X.frozen? ⟨GB,j,none⟩=false∧Hid (RsI w W1 ws T N k (j+1) R S v Y f GB (upd s j sj) (X.setCell ⟨GB,j,none⟩ (.slice sj.a sj.n sj.c))):=by
 have qG:=k52.blk h.lay
 have qA:=k24.blk h.ad
 have tA:TA W1.heap.size X v k Y f:=⟨k52.own h.ta.own,fun i hi j hj=>(h.ta.lay i hi j hj).step k62⟩
 have bX:=Only.below h.bel (Nat.le_refl _) h.bel.size on
 have onG:=Only.set GB j X (.slice sj.a sj.n sj.c)
 have g24:Keeps 37 X (X.setCell ⟨GB,j,none⟩ (.slice sj.a sj.n sj.c)):=Keeps.of_only onG qG (by decide)
 have g75:Keeps 114 X (X.setCell ⟨GB,j,none⟩ (.slice sj.a sj.n sj.c)):=Keeps.of_only onG qG (by decide)
 have g62:Keeps 118 X (X.setCell ⟨GB,j,none⟩ (.slice sj.a sj.n sj.c)):=Keeps.of_only onG qG (by decide)
 have rows:∀ i,i<j+1→TS W1.heap.size (X.setCell ⟨GB,j,none⟩ (.slice sj.a sj.n sj.c)) (upd s j sj i) (segA N ws (4*k+i)):=fun i hi=>by
  by_cases e:i=j
  ·subst e
   rw[upd_same]
   exact (ts.le h.bel.size).step g62
  ·rw[upd_other s j sj e]
   exact ((h.row i (by omega)).step k62).step g62
 refine⟨?_,qG.open_ j,Only.below bX h.gb bX.size onG,by rw[←Nat.add_assoc];exact hC.keeps g75,g24.blk qA,ta_other tA onG qG h.own,h.own,h.gb,?_,rows⟩
 ·refine qG.cell j ?_
  rcases (show j=0∨j=1∨j=2∨j=3 by omega) with rfl|rfl|rfl|rfl<;>rfl
 ·rcases (show j=0∨j=1∨j=2∨j=3 by omega) with rfl|rfl|rfl|rfl
  ·exact set_blk qG 0 _ rfl
  ·exact set_blk qG 1 _ rfl
  ·exact set_blk qG 2 _ rfl
  ·exact set_blk qG 3 _ rfl
theorem RsI.full {w W1:World}{ws:List Int}{T N k:Nat}{R S:Int}{v:Value}{Y:Nat→Nat→SL}{f:Nat→Nat→List Int}{GB:Nat}{s:Nat→SL}{s0 s1 s2 s3:SL}{W:World}(h:RsI w W1 ws T N k 4 R S v Y f GB (upd (upd (upd (upd s 0 s0) 1 s1) 2 s2) 3 s3) W) :
  Blk 63 W GB #[.slice s0.a s0.n s0.c,.slice s1.a s1.n s1.c,.slice s2.a s2.n s2.c,.slice s3.a s3.n s3.c]∧∀ j,j<4→TS W1.heap.size W (four s0 s1 s2 s3 j) (segA N ws (4*k+j)):=by
 refine⟨h.lay,fun j hj=>?_⟩
 have:=h.row j hj
 rcases (show j=0∨j=1∨j=2∨j=3 by omega) with rfl|rfl|rfl|rfl
 ·exact this
 ·exact this
 ·exact this
 ·exact this
theorem ta_slice {B:Nat}{w:World}{v:Value}{n:Nat}{Y:Nat→Nat→SL}{f:Nat→Nat→List Int}(h:TA B w v n Y f):∃ s:SL,v=.slice s.a s.n s.c:=by
 rcases h.own.2 with⟨e,_⟩|⟨g,cap,cur,e,_⟩
 ·exact⟨⟨none,0,0⟩,e⟩
 ·exact⟨⟨_,_,_⟩,e⟩
theorem refShape_yes (R S d h v u x t n:Int)(x0:Addr)(ml N T c:Nat)(ws:List Int)(w:World)(hr:Reads .i8 w (some x0) T ws)(hc:T≤c)(hT:T=4*ml*N)(hml:ml≤1000)(hl:T≤100000)(hN:N≤1000)(eN:R*d=(N:Int))(q:Int)(hq:(ml:Int)*4=q)(hqT:q*(N:Int)=(T:Int))
  (k35:∀ w,Calls Tryz.prog 47 #[.int .i64 R,.int .i64 S,.agg #[.int .i64 d,.int .i64 h,.int .i64 (ml:Int),.int .i64 v,.int .i64 u,.int .i64 x,.int .i64 t,.int .i64 n]] w fun e w'=>e=.returned (.bool true)∧Below w.heap.size w w') :
  Calls Tryz.prog 38 #[.int .i64 R,.int .i64 S,.agg #[.int .i64 d,.int .i64 h,.int .i64 (ml:Int),.int .i64 v,.int .i64 u,.int .i64 x,.int .i64 t,.int .i64 n],.slice (some x0) T c] w fun e w'=>∃ (L:SL) (Y:Nat→Nat→SL),e=.returned (.tuple #[.agg #[.int .i64 R,.int .i64 S,.slice L.a L.n L.c],.int .i64 0])∧NewA w.heap.size w' L Y (grshapeV ml N ws)∧Below w.heap.size w w':=by
 have hb:=bNw (bNw (Below.refl w.heap.size w) (.cells #[.int .i64 d,.int .i64 h,.int .i64 (ml:Int),.int .i64 v,.int .i64 u,.int .i64 x,.int .i64 t,.int .i64 n] 23)) (.cells #[.int .i64 0,.int .i64 0,nilS] 37)
 have qc:Blk 23 ((w.alloc (.cells #[.int .i64 d,.int .i64 h,.int .i64 (ml:Int),.int .i64 v,.int .i64 u,.int .i64 x,.int .i64 t,.int .i64 n] 23)).alloc (.cells #[.int .i64 0,.int .i64 0,nilS] 37)) w.heap.size #[.int .i64 d,.int .i64 h,.int .i64 (ml:Int),.int .i64 v,.int .i64 u,.int .i64 x,.int .i64 t,.int .i64 n]:=(Blk.new 23 w _).kept (bNw (Below.refl _ _) _)
 have qr:Blk 37 ((w.alloc (.cells #[.int .i64 d,.int .i64 h,.int .i64 (ml:Int),.int .i64 v,.int .i64 u,.int .i64 x,.int .i64 t,.int .i64 n] 23)).alloc (.cells #[.int .i64 0,.int .i64 0,nilS] 37)) (w.heap.size+1) #[.int .i64 0,.int .i64 0,nilS]:=Blk.new_at 37 (w.alloc _) _ _ (by simp)
 obtain⟨c0,c1,c2,c3,c4,c5,c6,c7⟩:=qc.cfg
 have q0:(0:Int)≤q:=by omega
 have q1:q≤4000:=by omega
 have start:∀ W1:World,CutA w ws T N (4*0+0) W1.heap.size ((W1.alloc (.cells #[.slice (some x0) T c] 114)).alloc (.cells #[.int .i64 R,.int .i64 S,nilS] 37)):=fun W1 =>
  ⟨x0,c,by rw[Nat.zero_mul,Nat.sub_zero];exact (Blk.new 114 W1 _).kept (bNw (Below.refl _ _) _),by rw[Nat.zero_mul,Nat.sub_zero,List.drop_zero];exact hr,by omega⟩
 have HS:=hdn start
 have HT:=hdn hT
 clear hr hT start
 go_enter Tryz.func38,Tryz.ntmps38
 go_wp2_with (first|(go_at_call 47;refine (k35 _).mono ?_;rintro e W1 ⟨rfl,h1⟩;replace qr:=qr.kept h1;replace qc:=qc.kept h1;replace hb:=bTn hb h1;clear h1 c0 c1 c2 c3 c4 c5 c6 c7;obtain⟨c0,c1,c2,c3,c4,c5,c6,c7⟩:=qc.cfg;obtain⟨z0,z1,z2⟩:=qr.c3;obtain⟨o0,o1,o2⟩:=qr.o3))
 have cut:=HS.out W1
 have qA:Blk 37 ((W1.alloc (.cells #[.slice (some x0) T c] 114)).alloc (.cells #[.int .i64 R,.int .i64 S,nilS] 37)) (W1.heap.size+1) #[.int .i64 R,.int .i64 S,nilS]:=Blk.new_at 37 (W1.alloc _) _ _ (by simp)
 have bA:Below W1.heap.size W1 ((W1.alloc (.cells #[.slice (some x0) T c] 114)).alloc (.cells #[.int .i64 R,.int .i64 S,nilS] 37)):=bNw (bNw (Below.refl _ _) _) _
 obtain⟨A,eA⟩:∃ A,(W1.alloc (.cells #[.slice (some x0) T c] 114)).alloc (.cells #[.int .i64 R,.int .i64 S,nilS] 37)=A:=⟨_,rfl⟩
 rw[eA] at cut qA bA ⊢
 have HB:=hdn (And.intro hb (And.intro qr (And.intro qc (And.intro cut (And.intro qA bA)))))
 have s1:=hb.size
 clear hb qr qc cut qA bA c0 c1 c2 c3 c4 c5 c6 c7 z0 z1 z2 o0 o1 o2 k35 eA eN hq hqT
 go_loopw [13,14] (fun i _ wr=>∃ k:Nat,k≤ml∧i=.int .i64 k∧Below W1.heap.size W1 wr∧CutA w ws T N (4*k+0) W1.heap.size wr∧∃ (La:SL) (Y:Nat→Nat→SL),Blk 37 wr (W1.heap.size+1) #[.int .i64 R,.int .i64 S,.slice La.a La.n La.c]∧TA W1.heap.size wr (.slice La.a La.n La.c) k Y (fun i j=>segA N ws (4*i+j))) (fun i _ _=>ml-(intOf i).toNat)
 case atStart=>exact⟨0,Nat.zero_le _,rfl,HB.out.2.2.2.2.2,HB.out.2.2.2.1,⟨none,0,0⟩,fun _ _=>SL.nought,HB.out.2.2.2.2.1,TA.nil _ _ _ _⟩
 case round =>
  obtain⟨k,hk,rfl,hbr,cut,La,Y,qA,tA⟩:=hrel
  obtain⟨WR,eWR⟩:∃ WR,WR=wr:=⟨_,rfl⟩
  subst eWR
  obtain⟨c0,c1,c2,c3,c4,c5,c6,c7⟩:=(HB.out.2.2.1.kept hbr).cfg
  by_cases hlt:k<ml
  ·have hlt':(k:Int)<(ml:Int):=by omega
   have b5:=bNw (Below.refl WR.heap.size WR) (.cells #[nilS,nilS,nilS,nilS] 63)
   have st:RsI w W1 ws T N k 0 R S (.slice La.a La.n La.c) Y (fun i j=>segA N ws (4*i+j)) WR.heap.size (fun _=>SL.nought) (WR.alloc (.cells #[nilS,nilS,nilS,nilS] 63)) :=
    ⟨bTn hbr b5,cut.below b5,qA.kept b5,tA.below b5,(fun g hg=>by have:=(tA.own.lt g hg).2;omega),hbr.size,Blk.new 63 WR _,fun i hi=>absurd hi (Nat.not_lt_zero _)⟩
   have HQ:Hid (∀ j,j<4→(4*k+j)*N+N≤T):=fun j hj=>by
    have:=Nat.mul_le_mul_right N (show 4*k+j+1≤4*ml by omega)
    rw[Nat.add_mul (4*k+j),Nat.one_mul] at this
    rw[HT.out]
    exact this
   have BW:Hid (Below w.heap.size w W1):=HB.out.1
   have nx:=fun (j:Nat) (hj:j<4) (s:Nat→SL) (W:World) (g:RsI w W1 ws T N k j R S (.slice La.a La.n La.c) Y (fun i j=>segA N ws (4*i+j)) WR.heap.size s W)=>next_call w ws T N (4*k+j) W1.heap.size W g.cut (HQ.out j hj) hl (bTn BW.out g.bel)
   have HST:=hdn st
   have NX:=hdn nx
   clear st nx b5 cut qA tA hbr
   go_wp2_with (first
    | (go_at_call 61;refine (NX.out 0 (by decide) _ _ HST.out).mono ?_;rintro e X0 ⟨s0,rfl,ts0,hC0,on0,k24,k52,k62⟩;obtain⟨g1,g2,st0⟩:=HST.out.step (by decide) s0 ts0 hC0 on0 k24 k52 k62;clear ts0 hC0 on0 k24 k52 k62 HST)
    | (go_at_call 61;refine (NX.out 1 (by decide) _ _ st0.out).mono ?_;rintro e X1 ⟨s1,rfl,ts1,hC1,on1,k24,k52,k62⟩;obtain⟨g3,g4,st1⟩:=st0.out.step (by decide) s1 ts1 hC1 on1 k24 k52 k62;clear ts1 hC1 on1 k24 k52 k62 st0 g1 g2)
    | (go_at_call 61;refine (NX.out 2 (by decide) _ _ st1.out).mono ?_;rintro e X2 ⟨s2,rfl,ts2,hC2,on2,k24,k52,k62⟩;obtain⟨g1,g2,st2⟩:=st1.out.step (by decide) s2 ts2 hC2 on2 k24 k52 k62;clear ts2 hC2 on2 k24 k52 k62 st1 g3 g4)
    | (go_at_call 61;refine (NX.out 3 (by decide) _ _ st2.out).mono ?_;rintro e X3 ⟨s3,rfl,ts3,hC3,on3,k24,k52,k62⟩;obtain⟨g3,g4,st3⟩:=st2.out.step (by decide) s3 ts3 hC3 on3 k24 k52 k62;obtain⟨V3,eV3⟩:∃ V,X3.setCell ⟨WR.heap.size,3,none⟩ (.slice s3.a s3.n s3.c)=V:=⟨_,rfl⟩;rw[eV3] at st3;obtain⟨fl,rw4⟩:=RsI.full st3.out;obtain⟨d0,d1,d2⟩:=st3.out.ad.c3;obtain⟨y0,y1,y2,y3⟩:=fl.c4;have b6:=bNw (Below.refl V3.heap.size V3) (.cells #[.slice s0.a s0.n s0.c,.slice s1.a s1.n s1.c,.slice s2.a s2.n s2.c,.slice s3.a s3.n s3.c] 63);have qz:Blk 63 (V3.alloc (.cells #[.slice s0.a s0.n s0.c,.slice s1.a s1.n s1.c,.slice s2.a s2.n s2.c,.slice s3.a s3.n s3.c] 63)) V3.heap.size #[.slice s0.a s0.n s0.c,.slice s1.a s1.n s1.c,.slice s2.a s2.n s2.c,.slice s3.a s3.n s3.c]:=Blk.new 63 V3 _;have qd:=st3.out.ad.kept b6;obtain⟨dd0,dd1,dd2⟩:=qd.c3;clear ts3 hC3 on3 k24 k52 k62 st2 g1 g2 fl)
    | (at_builtin;refine grwpList_layer rfl (.tmp 64) (.tmp 66) rfl W1.heap.size k _ Y (fun i j=>segA N ws (4*i+j)) (four s0 s1 s2 s3) V3.heap.size 1 rfl rfl (st3.out.ta.below b6) qz (fun j hj=>(rw4 j hj).below b6) (by omega) (Nat.le_trans st3.out.bel.size b6.size) ?_;intro v6 w6 hb6 k24 k75 ta6;obtain⟨L6,rfl⟩:=ta_slice ta6;have qd6:=k24.blk qd;have z2:=qd6.cell 2 rfl;have o2:=qd6.open_ 2;have hbl:=((bTn st3.out.bel b6).trans hb6);have cut6:=((st3.out.cut.below b6).keeps k75);clear dd0 dd1 dd2 d0 d1 d2 y0 y1 y2 y3 rw4 qz qd b6 hb6 k24 k75 st3 g3 g4 eV3))
   have on6:=Only.set (W1.heap.size+1) 2 w6 (.slice L6.a L6.n L6.c)
   have qA6:Blk 37 (w6.setCell ⟨W1.heap.size+1,2,none⟩ (.slice L6.a L6.n L6.c)) (W1.heap.size+1) #[.int .i64 R,.int .i64 S,.slice L6.a L6.n L6.c]:=set_blk qd6 2 _ rfl
   have ta7:TA W1.heap.size (w6.setCell ⟨W1.heap.size+1,2,none⟩ (.slice L6.a L6.n L6.c)) (.slice L6.a L6.n L6.c) (k+1) (upd Y k (four s0 s1 s2 s3)) (fun i j=>segA N ws (4*i+j)):=⟨(Keeps.of_only on6 qd6 (by decide)).own ta6.own,fun i hi j hj=>(ta6.lay i hi j hj).step (Keeps.of_only on6 qd6 (by decide))⟩
   have cut7:=cut6.keeps (Keeps.of_only on6 qd6 (by decide))
   have bel7:=Only.below hbl (Nat.le_succ _) hbl.size on6
   go_roundw
   case rel=>exact⟨k+1,by omega,by go_num,bel7,cut7,L6,_,qA6,ta7⟩
   case measure=>simp[intOf];omega
  ·have e:k=ml:=by omega
   subst e
   have nlt:¬(k:Int)<(k:Int):=by omega
   obtain⟨a0,a1,a2⟩:=qA.c3
   obtain⟨L',eL,nw⟩:=TA.new (m:=grshapeV k N ws) tA
   have eL':La=L':=SL.v_inj eL
   subst eL'
   have qr:=HB.out.2.1.kept hbr
   have hb:=bTn HB.out.1 hbr
   obtain⟨z0,z1,z2⟩:=qr.c3
   obtain⟨o0,o1,o2⟩:=qr.o3
   have lt2:=HB.out.2.1.lt
   clear cut hbr tA eL
   go_wp2
   obtain⟨W6,eW,q6,only,hz⟩:=set3 qr (.int .i64 R) (.int .i64 S) (.slice La.a La.n La.c)
   rw[eW]
   refine bodyPost_ret (v:=.tuple #[.agg #[.int .i64 R,.int .i64 S,.slice La.a La.n La.c],.int .i64 0]) ?_ rfl ⟨La,rfl,⟨_,(nw.only only lt2).le (by omega)⟩,Only.below hb (Nat.le_succ _) hb.size only⟩
   obtain⟨y0,y1,y2⟩:=q6.c3
   simp[results,Tryz.results38,go_sem,y0,y1,y2]
end
end Go.Proofs.YtbkjhfmehemgpaaGreat
