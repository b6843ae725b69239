/- Texts put together. -/
import Derived.Test.YthliomlmhfjhnaaGreatZp37
import Derived.Test.YthliomlmhfjhnaaGreatZp41
namespace Go.Proofs.YthliomlmhfjhnaaGreat
set_option maxRecDepth 20000
set_option maxHeartbeats 16000000
open Go.ChangeShapes Go.WideShapes Go.ChangeAt Go.RowKit
set_option linter.unusedVariables false
set_option linter.unusedSimpArgs false
theorem QgZ (M:Md)(E L N O:SL)(Y U D:Nat→Nat→SL)(La:SL)(Ya:Nat→Nat→SL)(G:Nat→SL)(x0:Addr)(F:Qaq M)(hok:M.r≠0→∃ R,QcX M R)(i:Nat)(hi:i<M.m.ln)(p:Int)(hp:0≤p∧p≤1000)(w:World)(hM:Qad w E L N O Y U D M.m)(hx0:L.a=some x0)(hG:M.r≠0→∀ j,j<4→IsS w (G j) (M.a.f i j))
  (pa:Option Addr) (n pc:Nat) (A:Nat→Option Addr) (C:Nat→Nat) (P:Nat→List Int) (hP:Grid w pa n A C P) (hC:∀ r,r<n→(P r).length≤C r) (hW:∀ r,r<n→(P r).length=2*M.m.ln*M.D) (hn:n≤100)
  (ax:Option Addr) (cx:Nat) (x:List Int) (hx:Reads .i64 w ax M.D x) :
  Calls Tryz.prog 33 #[.agg (M.mx E x0 L N O),I4 i,M.ad La,.agg #[(G 0).w,(G 1).w,(G 2).w,(G 3).w],.slice pa n pc,I4 p,.slice ax M.D cx] w fun e w'=>(∃ a c b k,e=.returned (.tuple #[.slice a M.D c,.slice b (M.D+M.D) k])∧Reads .i64 w' a M.D (wkL M i x (oL M p P n i x))∧Reads .i64 w' b (M.D+M.D) (kL M p i x++vL M i x)∧∀ x,a=some x→w.heap.size≤x.block)∧Bw w w':=by
 obtain⟨i0,hi2,hz0,hz1,hz2⟩:=info_parts QaT
 obtain⟨j0,hj,hy0,hy1,hy2⟩:=info_parts Qcl
 have d0:=F.d0
 have d1:=F.d1
 have l1:=F.l1
 have hD0:0<M.D:=by omega
 have hb1:=bNw (bNw (bNw (bS w) (.cells (M.mx E x0 L N O) 27)) (.cells (M.rc La) 30)) (.cells #[(G 0).w,(G 1).w,(G 2).w,(G 3).w] 61)
 have q1:Blk 27 (((w.alloc (.cells (M.mx E x0 L N O) 27)).alloc (.cells (M.rc La) 30)).alloc (.cells #[(G 0).w,(G 1).w,(G 2).w,(G 3).w] 61)) w.heap.size (M.mx E x0 L N O):=(Blk.new 27 w _).kept (bNw (bNw bR _) _)
 have q2:Blk 30 (((w.alloc (.cells (M.mx E x0 L N O) 27)).alloc (.cells (M.rc La) 30)).alloc (.cells #[(G 0).w,(G 1).w,(G 2).w,(G 3).w] 61)) (w.heap.size+1) (M.rc La):=(Blk.new_at 30 (w.alloc _) _ _ (by simp)).kept (bNw bR _)
 have q3:Blk 61 (((w.alloc (.cells (M.mx E x0 L N O) 27)).alloc (.cells (M.rc La) 30)).alloc (.cells #[(G 0).w,(G 1).w,(G 2).w,(G 3).w] 61)) (w.heap.size+1+1) #[(G 0).w,(G 1).w,(G 2).w,(G 3).w]:=Blk.new_at 61 ((w.alloc _).alloc _) _ _ (by simp)
 have kr:=fun (W:World) (hb:Bw w W) a c xs=>QkT F (Y i 0) _ (F.f0 i hi) W (((hM.lay i hi).f 0 (by omega)).below hb) a c xs
 have kq:=fun (W:World) (hb:Bw w W) a c xs=>QiK F hi 1 (by omega) (by omega) (Y i 1) W (((hM.lay i hi).f 1 (by omega)).below hb) a c xs
 have kk:=fun (W:World) (hb:Bw w W) a c xs=>QiK F hi 2 (by omega) (by omega) (Y i 2) W (((hM.lay i hi).f 2 (by omega)).below hb) a c xs
 have kv:=fun (W:World) (hb:Bw w W) a c xs=>QiK F hi 3 (by omega) (by omega) (Y i 3) W (((hM.lay i hi).f 3 (by omega)).below hb) a c xs
 have ko:=fun (W:World) (hb:Bw w W) a c xs=>QiK F hi 4 (by omega) (by omega) (Y i 4) W (((hM.lay i hi).f 4 (by omega)).below hb) a c xs
 have k1:=fun (W:World) (hb:Bw w W) ya yc y ha hc hh=>QeE M F hok i hi 0 (by omega) La (G 0) (G 1) W (fun h=>⟨(hG h 0 (by omega)).below hb,(hG h 1 (by omega)).below hb⟩) ya yc y ha hc hh
 have k2:=fun (W:World) (hb:Bw w W) ya yc y ha hc hh=>QeE M F hok i hi 2 (by omega) La (G 2) (G 3) W (fun h=>⟨(hG h 2 (by omega)).below hb,(hG h 3 (by omega)).below hb⟩) ya yc y ha hc hh
 have k3:=fun (W:World) a c xs=>Ql7 F p hp W a c xs
 have k4:=k3
 have kr2:=fun (W:World) (hb:Bw w W) a c xs=>QkT F (Y i 5) _ (F.f5 i hi) W (((hM.lay i hi).f 5 (by omega)).below hb) a c xs
 have kx:=fun (W:World) (hb:Bw w W) a c xs=>QnZ F hi (Y i 6) (Y i 7) (Y i 8) (U i) (D i) W (((hM.lay i hi).f 6 (by omega)).below hb) ((hM.lay i hi).u.below hb) ((hM.lay i hi).d.below hb) a c xs
 have ka:=fun (W:World) a0 c0 xs a1 c1 ys=>QmO F W a0 c0 xs a1 c1 ys
 have kb:=ka
 have hmul:(i+1)*M.D≤M.m.ln*M.D:=Nat.mul_le_mul_right _ (by omega)
 rw[Nat.succ_mul] at hmul
 obtain⟨f1,ef1⟩:∃ f1,2*i*M.D=f1:=⟨_,rfl⟩
 obtain⟨f2,ef2⟩:∃ f2,f1+M.D=f2:=⟨_,rfl⟩
 have e1:f1=2*(i*M.D):=by rw[←ef1,Nat.mul_assoc]
 have e2:2*M.m.ln*M.D=2*(M.m.ln*M.D):=Nat.mul_assoc _ _ _
 have hw8:M.m.ln*M.D≤2*8:=Nat.mul_le_mul l1 d1
 have w1:∀ r,r<n→f1+M.D≤(P r).length:=fun r hr=>by rw[hW r hr];omega
 have w2:∀ r,r<n→f2+M.D≤(P r).length:=fun r hr=>by rw[hW r hr];omega
 have ip:2*(i:Int)*M.d=(f1:Int):=by rw[F.eD,←ef1,Int.natCast_mul,Int.natCast_mul];rfl
 have iq:(f1:Int)+M.d=(f2:Int):=by rw[F.eD];omega
 have hf1:f1≤32:=by omega
 have hf2:f2≤40:=by omega
 have hi2':i≤2:=by omega
 have hkl:=QeV F p i x
 have hvl:=Qek F hi x
 have kp1:∀ W,Bw w W→Calls Tryz.prog 68 #[.slice pa n pc,I4 f1,I4 M.d] W fun e w'=>(∃ v,e=.returned v∧Qab W.heap.size w' v n (cutA A f1) (fun r=>C r-f1) (QeU M p P n i x))∧Bw W w':=fun W hb=>by
  have:=QiL pa n pc A C P f1 M.D (kL M p i x) W (hP.below hb) hC hD0 w1 (by omega)
  rw[←F.eD] at this
  unfold QeU
  rw[ef1]
  exact this
 have kp2:∀ W,Bw w W→Calls Tryz.prog 68 #[.slice pa n pc,I4 f2,I4 M.d] W fun e w'=>(∃ v,e=.returned v∧Qab W.heap.size w' v n (cutA A f2) (fun r=>C r-f2) (Qej M P n i x))∧Bw W w':=fun W hb=>by
  have:=QiL pa n pc A C P f2 M.D (vL M i x) W (hP.below hb) hC hD0 w2 (by omega)
  rw[←F.eD] at this
  unfold Qej
  rw[ef1,ef2]
  exact this
 have lk:∀ r,r<n+1→(QeU M p P n i x r).length=M.D:=fun r hr=>by unfold QeU;rw[ef1];exact QbK P n f1 M.D _ w1 hkl hr
 have lv:∀ r,r<n+1→(Qej M P n i x r).length=M.D:=fun r hr=>by unfold Qej;rw[ef1,ef2];exact QbK P n f2 M.D _ w2 hvl hr
 have k5:∀ (W:World) (u1:Option Addr) (c1:Nat) (A1:Nat→Option Addr) (C1:Nat→Nat) (u2:Option Addr) (c2:Nat) (A2:Nat→Option Addr) (C2:Nat→Nat) (a:Option Addr) (c:Nat),Grid W u1 (n+1) A1 C1 (QeU M p P n i x)→(∀ r,r<n+1→M.D≤C1 r)→Grid W u2 (n+1) A2 C2 (Qej M P n i x)→(∀ r,r<n+1→M.D≤C2 r)→Reads .i64 W a M.D (qL M p i x)→M.D≤c →
   Calls Tryz.prog 69 #[.slice a M.D c,.slice u1 (n+1) c1,.slice u2 (n+1) c2,I4 M.h] W fun e w'=>(∃ a c,e=.returned (.tuple #[.slice a M.D c,I4 0])∧Reads .i64 w' a M.D (oL M p P n i x)∧M.D≤c)∧Bw W w' :=
  fun W u1 c1 A1 C1 u2 c2 A2 C2 a c g1 hc1 g2 hc2 hq hc=>Qn0 F n hn W a c _ hq hc u1 c1 A1 C1 _ g1 (fun r hr=>by rw[lk r hr];exact hc1 r hr) u2 c2 A2 C2 _ g2 (fun r hr=>by rw[lv r hr];exact hc2 r hr) (fun r hr=>⟨lk r hr,lv r hr⟩)
 have fk:(QeU M p P n i x n).length=M.D:=lk n (by omega)
 have fv:(Qej M P n i x n).length=M.D:=lv n (by omega)
 have kl:QeU M p P n i x n=kL M p i x:=Qbs _ _ _ _ _
 have vl:Qej M P n i x n=vL M i x:=Qbs _ _ _ _ _
 have cp1:∀ c10,M.D≤c10→∀ r,r<n+1→M.D≤(fun r=>if r=n then c10 else C r-f1) r:=fun c10 h r hr=>by
  dsimp only
  split
  ·exact h
  ·have:=hC r (by omega);have:=w1 r (by omega);omega
 have cp2:∀ c10,M.D≤c10→∀ r,r<n+1→M.D≤(fun r=>if r=n then c10 else C r-f2) r:=fun c10 h r hr=>by
  dsimp only
  split
  ·exact h
  ·have:=hC r (by omega);have:=w2 r (by omega);omega
 clear hmul ef1 ef2 e1 e2 hw8 w1 w2 lk lv hP hC hW l1
 go_enter Tryz.func33,Tryz.ntmps33
 go_wp2
 refine Qk8 M E L N O Y w.heap.size i x0 U D (hM.below hb1) hx0 hi q1 (by kernel_rfl) rfl (by (repeat' apply And.intro)<;>exact⟨_,rfl,rfl,rfl,rfl,by kernel_rfl⟩) rfl rfl (Nat.le_of_ble_eq_true rfl) ?_
 intro a W2 cb lb hs hd hkp e16 e17 hb2 qc ql
 obtain⟨f,ef,ep⟩:=fPz [39,40,41,42,43,44,45,16,17] rfl hs hd hkp
 simp only[ef] at e16 e17
 simp only[List.foldl,e16,e17,Act.put,List.setIfInBounds_toArray,List.set_cons_succ,List.set_cons_zero] at ep
 clear hs hd hkp e16 e17 ef
 subst ep
 have hb:=bTn hb1 hb2
 have hx2:=hx.below hb
 have QC:=hdn qc
 have QL:=hdn ql
 have QA:=hdn (q2.kept hb2)
 have QG:=hdn (q3.kept hb2)
 have yy0:=ql.cell 0 (v:=(Y i 0).w) rfl
 have zz0:=qc.cell 0 (v:=I4 M.d) rfl
 clear qc ql hb1 hb2 q1 q2 q3 hx hM hG
 go_wp2_with (first
  | (go_at_call 34;refine (kr _ hb _ _ _ hx2).mono ?_;rintro e W3 ⟨⟨a3,c3,rfl,r3,-⟩,h3⟩;have hb3:=bTn hb h3;have QC':=hdn (QC.out.kept h3);clear QC;have QC:=QC';clear QC';have QL':=hdn (QL.out.kept h3);clear QL;have QL:=QL';clear QL';have QA':=hdn (QA.out.kept h3);clear QA;have QA:=QA';clear QA';have QG':=hdn (QG.out.kept h3);clear QG;have QG:=QG';clear QG';replace hx2:=hx2.below h3;have y1:=QL.out.cell 1 (v:=(Y i 1).w) rfl;clear h3 kr)
  | (go_at_call 51;refine (kq _ hb3 _ _ _ r3).mono ?_;rintro e W4 ⟨⟨a4,c4,rfl,r4,l4⟩,h4⟩;have hb4:=bTn hb3 h4;have QC':=hdn (QC.out.kept h4);clear QC;have QC:=QC';clear QC';have QL':=hdn (QL.out.kept h4);clear QL;have QL:=QL';clear QL';have QA':=hdn (QA.out.kept h4);clear QA;have QA:=QA';clear QA';have QG':=hdn (QG.out.kept h4);clear QG;have QG:=QG';clear QG';replace r3:=r3.below h4;replace hx2:=hx2.below h4;have y2:=QL.out.cell 2 (v:=(Y i 2).w) rfl;clear h4 kq y1)
  | (go_at_call 51;refine (kk _ hb4 _ _ _ r3).mono ?_;rintro e W5 ⟨⟨a5,c5,rfl,r5,l5⟩,h5⟩;have hb5:=bTn hb4 h5;have QC':=hdn (QC.out.kept h5);clear QC;have QC:=QC';clear QC';have QL':=hdn (QL.out.kept h5);clear QL;have QL:=QL';clear QL';have QA':=hdn (QA.out.kept h5);clear QA;have QA:=QA';clear QA';have QG':=hdn (QG.out.kept h5);clear QG;have QG:=QG';clear QG';replace r3:=r3.below h5;replace hx2:=hx2.below h5;replace r4:=r4.below h5;have y3:=QL.out.cell 3 (v:=(Y i 3).w) rfl;clear h5 kk y2)
  | (go_at_call 51;refine (kv _ hb5 _ _ _ r3).mono ?_;rintro e W6 ⟨⟨a6,c6,rfl,r6,l6⟩,h6⟩;have hb6:=bTn hb5 h6;have QC':=hdn (QC.out.kept h6);clear QC;have QC:=QC';clear QC';have QL':=hdn (QL.out.kept h6);clear QL;have QL:=QL';clear QL';have QA':=hdn (QA.out.kept h6);clear QA;have QA:=QA';clear QA';have QG':=hdn (QG.out.kept h6);clear QG;have QG:=QG';clear QG';replace r3:=r3.below h6;replace hx2:=hx2.below h6;replace r4:=r4.below h6;replace r5:=r5.below h6;have g0:=QG.out.cell 0 (v:=(G 0).w) rfl;have g1:=QG.out.cell 1 (v:=(G 1).w) rfl;have s0:=QA.out.cell 0 (v:=I4 M.r) rfl;have s1:=QA.out.cell 1 (v:=I4 M.s) rfl;have s2:=QA.out.cell 2 (v:=La.w) rfl;clear h6 kv y3)
  | (go_at_call 66;refine (k1 _ hb6 _ _ _ _ _ _ r4 l4 r3).mono ?_;rintro e W7 ⟨⟨a7,c7,rfl,r7,l7⟩,h7⟩;have hb7:=bTn hb6 h7;have QC':=hdn (QC.out.kept h7);clear QC;have QC:=QC';clear QC';have QL':=hdn (QL.out.kept h7);clear QL;have QL:=QL';clear QL';have QA':=hdn (QA.out.kept h7);clear QA;have QA:=QA';clear QA';have QG':=hdn (QG.out.kept h7);clear QG;have QG:=QG';clear QG';replace r3:=r3.below h7;replace hx2:=hx2.below h7;replace r5:=r5.below h7;replace r6:=r6.below h7;have g2:=QG.out.cell 2 (v:=(G 2).w) rfl;have g3:=QG.out.cell 3 (v:=(G 3).w) rfl;have t0:=QA.out.cell 0 (v:=I4 M.r) rfl;have t1:=QA.out.cell 1 (v:=I4 M.s) rfl;have t2:=QA.out.cell 2 (v:=La.w) rfl;clear h7 k1 r4 g0 g1 s0 s1 s2)
  | (go_at_call 66;refine (k2 _ hb7 _ _ _ _ _ _ r6 l6 r3).mono ?_;rintro e W8 ⟨⟨a8,c8,rfl,r8,l8⟩,h8⟩;have hb8:=bTn hb7 h8;have QC':=hdn (QC.out.kept h8);clear QC;have QC:=QC';clear QC';have QL':=hdn (QL.out.kept h8);clear QL;have QL:=QL';clear QL';replace hx2:=hx2.below h8;replace r5:=r5.below h8;replace r7:=r7.below h8;have z8:=QC.out.cell 1 (v:=I4 M.h) rfl;clear h8 k2 r3 r6 g2 g3 t0 t1 t2 QA QG)
  | (go_at_call 67;refine (k3 _ _ _ _ r7 l7).mono ?_;rintro e W9 ⟨⟨a9,c9,rfl,r9,l9⟩,h9⟩;have hb9:=bTn hb8 h9;have QC':=hdn (QC.out.kept h9);clear QC;have QC:=QC';clear QC';have QL':=hdn (QL.out.kept h9);clear QL;have QL:=QL';clear QL';replace hx2:=hx2.below h9;replace r5:=r5.below h9;replace r8:=r8.below h9;have z9:=QC.out.cell 1 (v:=I4 M.h) rfl;clear h9 k3 r7 z8)
  | (go_at_call 67;refine (k4 _ _ _ _ r5 l5).mono ?_;rintro e W10 ⟨⟨a10,c10,rfl,r10,l10⟩,h10⟩;have hb10:=bTn hb9 h10;have QC':=hdn (QC.out.kept h10);clear QC;have QC:=QC';clear QC';have QL':=hdn (QL.out.kept h10);clear QL;have QL:=QL';clear QL';replace hx2:=hx2.below h10;replace r8:=r8.below h10;replace r9:=r9.below h10;clear h10 k4 r5 z9)
  | (go_at_call 68;refine (kp1 _ hb10).mono ?_;rintro e W11 ⟨⟨v11,rfl,og11⟩,h11⟩;clear kp1)
  | (at_builtin;refine Qaa rfl (.tmp 117) (.tmp 119) 31 rfl W10.heap.size 34 j0 (.slice none 0 0) 24 Tryz.underlying31 hj hy0 hy1 hy2 rfl _ n _ rfl (og11.own.alloc _) ⟨_,0,none⟩ 1 (.slice a10 M.D c10) rfl (Qai _ _ _) (QaC _ _ _) (by unfold maxLen;omega) (by omega) (bNw h11 _).size ?_;intro v12 W12 ho12 hg12 hs12;have bA12:=below_append (bNw h11 _) (og11.own.alloc _) hg12;obtain⟨u12,k12,rfl,G12⟩:=Qi0 h11 og11 fk hD0 (by rw[kl];exact r10) ho12 hg12 hs12;have hb12:=bTn hb10 bA12;have QC':=hdn (QC.out.kept bA12);clear QC;have QC:=QC';clear QC';have QL':=hdn (QL.out.kept bA12);clear QL;have QL:=QL';clear QL';replace hx2:=hx2.below bA12;replace r8:=r8.below bA12;replace r9:=r9.below bA12;replace r10:=r10.below bA12;have hb12':=hb12;clear bA12 ho12 hg12 hs12 og11 h11)
  | (go_at_call 68;refine (kp2 _ hb12).mono ?_;rintro e W13 ⟨⟨v13,rfl,og13⟩,h13⟩;clear kp2)
  | (at_builtin;refine Qaa rfl (.tmp 129) (.tmp 131) 31 rfl W12.heap.size 34 j0 (.slice none 0 0) 24 Tryz.underlying31 hj hy0 hy1 hy2 rfl _ n _ rfl (og13.own.alloc _) ⟨_,0,none⟩ 1 (.slice a8 M.D c8) rfl (Qai _ _ _) (QaC _ _ _) (by unfold maxLen;omega) (by omega) (bNw h13 _).size ?_;intro v14 W14 ho14 hg14 hs14;have bA14:=below_append (bNw h13 _) (og13.own.alloc _) hg14;obtain⟨u14,k14,rfl,G14⟩:=Qi0 h13 og13 fv hD0 (by rw[vl];exact r8) ho14 hg14 hs14;have hb14:=bTn hb12 bA14;have QC':=hdn (QC.out.kept bA14);clear QC;have QC:=QC';clear QC';have QL':=hdn (QL.out.kept bA14);clear QL;have QL:=QL';clear QL';replace hx2:=hx2.below bA14;replace r8:=r8.below bA14;replace r9:=r9.below bA14;replace r10:=r10.below bA14;replace G12:=G12.below bA14;have z14:=QC.out.cell 1 (v:=I4 M.h) rfl;clear bA14 ho14 hg14 hs14 og13 h13)
  | (go_at_call 69;refine (k5 _ _ _ _ _ _ _ _ _ _ _ G12 (cp1 _ l10) G14 (cp2 _ l8) r9 l9).mono ?_;rintro e W15 ⟨⟨a15,c15,rfl,r15,l15⟩,h15⟩;have hb15:=bTn hb14 h15;have QC':=hdn (QC.out.kept h15);clear QC;have QC:=QC';clear QC';have QL':=hdn (QL.out.kept h15);clear QL;have QL:=QL';clear QL';replace hx2:=hx2.below h15;replace r8:=r8.below h15;replace r10:=r10.below h15;have y4:=QL.out.cell 4 (v:=(Y i 4).w) rfl;clear h15 k5 r9 G12 G14 z14)
  | (go_at_call 51;refine (ko _ hb15 _ _ _ r15).mono ?_;rintro e W16 ⟨⟨a16,c16,rfl,r16,l16⟩,h16⟩;have hb16:=bTn hb15 h16;have QC':=hdn (QC.out.kept h16);clear QC;have QC:=QC';clear QC';have QL':=hdn (QL.out.kept h16);clear QL;have QL:=QL';clear QL';replace hx2:=hx2.below h16;replace r8:=r8.below h16;replace r10:=r10.below h16;clear h16 ko r15 y4)
  | (go_at_call 70;refine (ka _ _ _ _ _ _ _ hx2 r16).mono ?_;rintro e W17 ⟨⟨a17,c17,rfl,r17,l17,-⟩,h17⟩;have hb17:=bTn hb16 h17;have QC':=hdn (QC.out.kept h17);clear QC;have QC:=QC';clear QC';have QL':=hdn (QL.out.kept h17);clear QL;have QL:=QL';clear QL';replace r8:=r8.below h17;replace r10:=r10.below h17;have y5:=QL.out.cell 5 (v:=(Y i 5).w) rfl;clear h17 ka hx2 r16)
  | (go_at_call 34;refine (kr2 _ hb17 _ _ _ r17).mono ?_;rintro e W18 ⟨⟨a18,c18,rfl,r18,-⟩,h18⟩;have hb18:=bTn hb17 h18;have QC':=hdn (QC.out.kept h18);clear QC;have QC:=QC';clear QC';have QL':=hdn (QL.out.kept h18);clear QL;have QL:=QL';clear QL';replace r8:=r8.below h18;replace r10:=r10.below h18;replace r17:=r17.below h18;have z4:=QC.out.cell 4 (v:=I4 M.u) rfl;have z6:=QC.out.cell 6 (v:=I4 M.t) rfl;have y6:=QL.out.cell 6 (v:=(Y i 6).w) rfl;have y7:=QL.out.cell 7 (v:=(Y i 7).w) rfl;have y8:=QL.out.cell 8 (v:=(Y i 8).w) rfl;clear h18 kr2 y5)
  | (go_at_call 71;refine (kx _ hb18 _ _ _ r18).mono ?_;rintro e W19 ⟨⟨a19,c19,rfl,r19⟩,h19⟩;have hb19:=bTn hb18 h19;replace r8:=r8.below h19;replace r10:=r10.below h19;replace r17:=r17.below h19;clear h19 kx r18 z4 z6 y6 y7 y8 QC QL)
  | (go_at_call 70;refine (kb _ _ _ _ _ _ _ r17 r19).mono ?_;rintro e W20 ⟨⟨a20,c20,rfl,r20,l20,f20⟩,h20⟩;have hb20:=bTn hb19 h20;replace r8:=r8.below h20;replace r10:=r10.below h20;have f20h:Hid (∀ x,a20=some x→w.heap.size≤x.block):=fun x hx=>Nat.le_trans hb19.size (f20 x hx);clear h20 kb r17 r19 f20)
  | (at_builtin;refine Qav rfl (.tmp 185) (.tmp 186) 34 rfl W20.heap.size 2 i0 (I4 0) 8 Tryz.underlying34 hi2 hz0 hz1 hz2 rfl _ 0 [] rfl (World.ownsRow_lit _ #[] 0 nL (by decide) rfl) .i64 a10 M.D c10 _ rfl (r10.below (bNw bR _)) (Qk0 r10 hD0) (by unfold maxLen;omega) (by omega) (bNw bR _).size ?_;intro v21 W21 ho21 hg21;have bn21:=bNw (Below.refl W20.heap.size W20) (.cells #[] 2);have b21:Bw W20 W21:=bn21.grown hg21 bn21.size (fun g h=>Nat.le_of_eq (Option.some.inj h));have r8':=r8.below b21;simp only[Nat.zero_add,List.nil_append] at ho21;clear bn21 hg21)
  | (at_builtin;refine Qav rfl (.tmp 187) (.tmp 188) 34 rfl W20.heap.size 2 i0 (I4 0) 8 Tryz.underlying34 hi2 hz0 hz1 hz2 rfl _ M.D _ rfl ho21 .i64 a8 M.D c8 _ rfl r8' (Qk0 r8' hD0) (by unfold maxLen;omega) (by omega) b21.size ?_;intro v22 W22 ho22 hg22;have b22:=below_append b21 ho21 hg22;have r20':=r20.below b22;have hb22:=bTn hb20 b22;have wk:=r10.wf_mem;have wv:=r8'.wf_mem;rw[←List.map_append] at ho22;obtain⟨b9,k9,rfl,rb⟩:=oRe (zs:=kL M p i x++vL M i x) ho22 (by rw[List.length_append,hkl,hvl]) (fun z hz=>(List.mem_append.1 hz).elim (wk z) (wv z)) (fun j hj=>Qik _ j (by have e1:=hkl;have e2:=hvl;unfold kL nrmL at e1;unfold vL nrmL at e2;rw[List.length_append,e1,e2];exact hj));clear wk wv;clear ho22 hg22 ho21 b21 b22 r8' r20))
 refine bodyPost_ret (v:=.tuple #[.slice a20 M.D c20,.slice b9 (M.D+M.D) k9]) ?_ rfl ⟨⟨a20,c20,b9,k9,rfl,r20',rb,f20h.out⟩,hb22⟩
 simp[results,Tryz.results33,go_sem]
theorem Qg0 (M:Md)(E L N O:SL)(Y U D:Nat→Nat→SL)(La:SL)(Ya:Nat→Nat→SL)(G:Nat→SL)(F:Qaq M)(hok:M.r≠0→∃ R,QcX M R)(i:Nat)(hi:i<M.m.ln)(p:Int)(hp:0≤p∧p≤1000)(w:World)(hM:Qad w E L N O Y U D M.m)(hG:M.r≠0→∀ j,j<4→IsS w (G j) (M.a.f i j))
  (pa:Option Addr) (n pc:Nat) (A:Nat→Option Addr) (C:Nat→Nat) (P:Nat→List Int) (hP:Grid w pa n A C P) (hC:∀ r,r<n→(P r).length≤C r) (hW:∀ r,r<n→(P r).length=2*M.m.ln*M.D) (hn:n≤100)
  (ax:Option Addr) (cx:Nat) (x:List Int) (hx:Reads .i64 w ax M.D x) :
  Calls Tryz.prog 33 #[.agg #[I4 M.d,I4 M.h,I4 M.l,I4 M.v,I4 M.u,I4 M.x,I4 M.t,I4 M.n,.slice E.a E.n E.c,.slice L.a L.n L.c,.slice N.a N.n N.c,.slice O.a O.n O.c],I4 i,.agg #[I4 M.r,I4 M.s,.slice La.a La.n La.c],.agg #[.slice (G 0).a (G 0).n (G 0).c,.slice (G 1).a (G 1).n (G 1).c,.slice (G 2).a (G 2).n (G 2).c,.slice (G 3).a (G 3).n (G 3).c],.slice pa n pc,I4 p,.slice ax M.D cx] w fun e w'=>(∃ a c b k,e=.returned (.tuple #[.slice a M.D c,.slice b (M.D+M.D) k])∧Reads .i64 w' a M.D (wkL M i x (oL M p P n i x))∧Reads .i64 w' b (M.D+M.D) (kL M p i x++vL M i x)∧∀ x,a=some x→w.heap.size≤x.block)∧Bw w w':=by
 obtain⟨x0,hx0⟩:=hM.some_ (by omega)
 have:=QgZ M E L N O Y U D La Ya G x0 F hok i hi p hp w hM hx0 hG pa n pc A C P hP hC hW hn ax cx x hx
 rw[hx0,hM.len]
 exact this
theorem Qml (M:Md)(E L N O:SL)(Y U D:Nat→Nat→SL)(La:SL)(Ya:Nat→Nat→SL)(x0:Addr)(F:Qaq M)(hr0:M.r=0)(i:Nat)(hi:i<M.m.ln)(p:Int)(hp:0≤p∧p≤1000)(w:World)(hM:Qad w E L N O Y U D M.m)(hx0:L.a=some x0)(ax:Option Addr)(cx:Nat)(x:List Int)(hx:Reads .i64 w ax M.D x) :
  Calls Tryz.prog 60 #[.agg (M.mx E x0 L N O),M.ad La,I4 i,I4 p,.slice ax M.D cx] w fun e w'=>(∃ q cq k ck v cv,e=.returned (.tuple #[.slice q M.D cq,.slice k M.D ck,.slice v M.D cv])∧(Reads .i64 w' q M.D (qL M p i x)∧M.D≤cq)∧(Reads .i64 w' k M.D (kL M p i x)∧M.D≤ck)∧(Reads .i64 w' v M.D (vL M i x)∧M.D≤cv∧∀ x,v=some x→w.heap.size≤x.block))∧Bw w w':=by
 have hb1:=bNw (bNw (bS w) (.cells (M.mx E x0 L N O) 27)) (.cells (M.rc La) 30)
 have q1:Blk 27 ((w.alloc (.cells (M.mx E x0 L N O) 27)).alloc (.cells (M.rc La) 30)) w.heap.size (M.mx E x0 L N O):=(Blk.new 27 w _).kept (bNw bR _)
 have q2:Blk 30 ((w.alloc (.cells (M.mx E x0 L N O) 27)).alloc (.cells (M.rc La) 30)) (w.heap.size+1) (M.rc La):=Blk.new_at 30 (w.alloc _) _ _ (by simp)
 have kr:=fun (W:World) (hb:Bw w W) a c xs=>QiS F (Y i 0) _ (F.f0 i hi) W (((hM.lay i hi).f 0 (by omega)).below hb) a c xs
 have kq:=fun (W:World) (hb:Bw w W) a c xs=>QeS F hi 1 (by omega) (by omega) (Y i 1) W (((hM.lay i hi).f 1 (by omega)).below hb) a c xs
 have kk:=fun (W:World) (hb:Bw w W) a c xs=>QeS F hi 2 (by omega) (by omega) (Y i 2) W (((hM.lay i hi).f 2 (by omega)).below hb) a c xs
 have kv:=fun (W:World) (hb:Bw w W) a c xs=>QeS F hi 3 (by omega) (by omega) (Y i 3) W (((hM.lay i hi).f 3 (by omega)).below hb) a c xs
 have kg:=Qfw M.r M.s La hr0
 have hnot:∀ (x:Bool) (w:World),(Op.unary .not (.bool x)).run Tryz.prog w=.ok (.bool (!x)) w:=fun _ _=>rfl
 have eq:qL M p i x=headsL (matL (M.m.f i 1) (nrmL M i x)) p (M.D/M.H) M.H:=by unfold qL Qbi;rw[if_pos hr0]
 have ev:vL M i x=matL (M.m.f i 3) (nrmL M i x):=by unfold vL Qbi;rw[if_pos hr0]
 unfold nrmL at eq ev
 rw[eq,ev]
 unfold kL nrmL
 clear eq ev hr0
 go_enter Tryz.func60,Tryz.ntmps60
 go_wp2
 refine Qg1 M E L N O Y w.heap.size i x0 U D (hM.below hb1) hx0 hi q1 (by kernel_rfl) rfl (by (repeat' apply And.intro)<;>exact⟨_,rfl,rfl,rfl,rfl,by kernel_rfl⟩) rfl rfl (Nat.le_of_ble_eq_true rfl) ?_
 intro a W2 cb lb hs hd hkp e13 e14 hb2 qc ql
 obtain⟨f,ef,ep⟩:=fPz [17,18,19,20,21,22,23,13,14] rfl hs hd hkp
 simp only[ef] at e13 e14
 simp only[List.foldl,e13,e14,Act.put,List.setIfInBounds_toArray,List.set_cons_succ,List.set_cons_zero] at ep
 clear hs hd hkp e13 e14 ef
 subst ep
 have hb:=bTn hb1 hb2
 have hx2:=hx.below hb
 have QC:=hdn qc
 have QL:=hdn ql
 have QA:=hdn (q2.kept hb2)
 have yy0:=ql.cell 0 (v:=(Y i 0).w) rfl
 clear qc ql hb1 hb2 q1 q2 hx hM
 go_wp2_with (first
  | (go_at_call 64;refine (kr _ hb _ _ _ hx2).mono ?_;rintro e W3 ⟨⟨a3,c3,rfl,r3,-⟩,h3⟩;clear kr;have hb3:=bTn hb h3;have QC':=hdn (QC.out.kept h3);clear QC;have QC:=QC';clear QC';have QL':=hdn (QL.out.kept h3);clear QL;have QL:=QL';clear QL';have QA':=hdn (QA.out.kept h3);clear QA;have QA:=QA';clear QA';have y1:=QL.out.cell 1 (v:=(Y i 1).w) rfl;have z3:=QC.out.cell 0 (v:=I4 M.d) rfl;clear h3 hx2)
  | (go_at_call 48;refine (QaY _ _ _ _).mono ?_;rintro e w' ⟨rfl,hq⟩;obtain rfl:=hq.symm;clear hq)
  | (go_at_call 49;refine (kq _ hb3 _ _ _ r3).mono ?_;rintro e W4 ⟨⟨a4,c4,rfl,r4,l4,-⟩,h4⟩;clear kq;have hb4:=bTn hb3 h4;have QC':=hdn (QC.out.kept h4);clear QC;have QC:=QC';clear QC';have QL':=hdn (QL.out.kept h4);clear QL;have QL:=QL';clear QL';have QA':=hdn (QA.out.kept h4);clear QA;have QA:=QA';clear QA';replace r3:=r3.below h4;have y2:=QL.out.cell 2 (v:=(Y i 2).w) rfl;have z4:=QC.out.cell 0 (v:=I4 M.d) rfl;clear h4 y1 z3)
  | (go_at_call 49;refine (kk _ hb4 _ _ _ r3).mono ?_;rintro e W5 ⟨⟨a5,c5,rfl,r5,l5,-⟩,h5⟩;clear kk;have hb5:=bTn hb4 h5;have QC':=hdn (QC.out.kept h5);clear QC;have QC:=QC';clear QC';have QL':=hdn (QL.out.kept h5);clear QL;have QL:=QL';clear QL';have QA':=hdn (QA.out.kept h5);clear QA;have QA:=QA';clear QA';replace r3:=r3.below h5;replace r4:=r4.below h5;have y3:=QL.out.cell 3 (v:=(Y i 3).w) rfl;have z5:=QC.out.cell 0 (v:=I4 M.d) rfl;clear h5 y2 z4)
  | (go_at_call 49;refine (kv _ hb5 _ _ _ r3).mono ?_;rintro e W6 ⟨⟨a6,c6,rfl,r6,l6,f6⟩,h6⟩;clear kv;have FV:Hid (∀ x,a6=some x→w.heap.size≤x.block):=fun x hx=>Nat.le_trans hb5.size (f6 x hx);clear f6;have hb6:=bTn hb5 h6;have QC':=hdn (QC.out.kept h6);clear QC;have QC:=QC';clear QC';have QL':=hdn (QL.out.kept h6);clear QL;have QL:=QL';clear QL';have QA':=hdn (QA.out.kept h6);clear QA;have QA:=QA';clear QA';replace r3:=r3.below h6;replace r4:=r4.below h6;replace r5:=r5.below h6;obtain⟨s0,s1,s2⟩:=QA.out.c3;clear h6 y3 z5)
  | (go_at_call 53;refine (kg _).mono ?_;rintro e W7 ⟨rfl,h7⟩;clear kg;have hb7:=bTn hb6 h7;have QC':=hdn (QC.out.kept h7);clear QC;have QC:=QC';clear QC';have QL':=hdn (QL.out.kept h7);clear QL;have QL:=QL';clear QL';have QA':=hdn (QA.out.kept h7);clear QA;have QA:=QA';clear QA';replace r3:=r3.below h7;replace r4:=r4.below h7;replace r5:=r5.below h7;replace r6:=r6.below h7;clear h7 s0 s1 s2))
 refine Qg2 cb M.D c4 c5 c6 a4 a5 a6 M.h p (headsL (matL (M.m.f i 1) (rmsZ x (M.m.f i 0) M.D)) p (M.D/M.H) M.H) (headsL (matL (M.m.f i 2) (rmsZ x (M.m.f i 0) M.D)) p (M.D/M.H) M.H) (fun W=>Bw W7 W) (by kernel_rfl) rfl (by (repeat' apply And.intro)<;>exact⟨_,rfl,rfl,rfl,rfl,by kernel_rfl⟩) bR.drew (Qap _ 1 (by omega)) (fun W hb=>Qam ((QC.out.kept hb).cell 1 (v:=I4 M.h) rfl)) (fun W hb=>(Qeb F p hp W _ _ _ (r4.below hb) l4).mono fun e w' ⟨⟨a,c,q1,q2,q3⟩,q4⟩=>⟨a,c,q1,q2,q3,q4,bTn hb q4⟩) trivial (Qap _ 1 (by omega)) (fun W hb=>Qam ((QC.out.kept hb).cell 1 (v:=I4 M.h) rfl)) (fun W hb=>(Qeb F p hp W _ _ _ (r5.below hb) l5).mono fun e w' ⟨⟨a,c,q1,q2,q3⟩,q4⟩=>⟨a,c,q1,q2,q3,q4,bTn hb q4⟩) trivial rfl rfl rfl rfl rfl (Nat.le_of_ble_eq_true rfl) ?_
 intro a W9 hs hd hkp hS9 hval
 have e12:a.tmps.getD 12 undef=.slice a6 M.D c6:=hval 19 12 (by decide) rfl
 obtain⟨q9,qc9,e10,f10,z10⟩:=hval 17 10 (by decide) rfl
 obtain⟨k9,kc9,e11,f11,z11⟩:=hval 18 11 (by decide) rfl
 obtain⟨f,ef,ep⟩:=fPz [101,102,103,104,105,106,107,108,109,110,111,112,113,114,115,116,117,10,11,12] rfl hs hd hkp
 simp only[ef] at e12 e10 e11
 simp only[List.foldl,e12,e10,e11,Act.put,List.setIfInBounds_toArray,List.set_cons_succ,List.set_cons_zero] at ep
 have H9:=hdn hS9
 clear hs hd hkp hval hS9 e12 e10 e11 ef
 subst ep
 have fv:=r6.below H9.out
 have hbE:=bTn hb7 H9.out
 go_wp2
 refine bodyPost_ret (v:=.tuple #[.slice q9 M.D qc9,.slice k9 M.D kc9,.slice a6 M.D c6]) ?_ rfl ⟨⟨q9,qc9,k9,kc9,a6,c6,rfl,⟨f10,z10⟩,⟨f11,z11⟩,fv,l6,FV.out⟩,hbE⟩
 simp[results,Tryz.results60,go_sem]
theorem Qla (M:Md)(E L N O:SL)(Y U D:Nat→Nat→SL)(La:SL)(Ya:Nat→Nat→SL)(x0 y0:Addr)(F:Qaq M)(hr0:M.r≠0)(R:Nat)(A:QcX M R)(i:Nat)(hi:i<M.m.ln)(p:Int)(hp:0≤p∧p≤1000)(w:World)(hM:Qad w E L N O Y U D M.m)(hA:AdAt w La Ya M.a)(hx0:L.a=some x0)(hy0:La.a=some y0)(ax:Option Addr)(cx:Nat)(x:List Int)(hx:Reads .i64 w ax M.D x) :
  Calls Tryz.prog 60 #[.agg (M.mx E x0 L N O),.agg #[I4 M.r,I4 M.s,.slice (some y0) M.m.ln La.c],I4 i,I4 p,.slice ax M.D cx] w fun e w'=>(∃ q cq k ck v cv,e=.returned (.tuple #[.slice q M.D cq,.slice k M.D ck,.slice v M.D cv])∧(Reads .i64 w' q M.D (qL M p i x)∧M.D≤cq)∧(Reads .i64 w' k M.D (kL M p i x)∧M.D≤ck)∧(Reads .i64 w' v M.D (vL M i x)∧M.D≤cv∧∀ x,v=some x→w.heap.size≤x.block))∧Bw w w':=by
 have hia:i<M.a.ln:=by rw[A.ln];exact hi
 have hb1:=bNw (bNw (bS w) (.cells (M.mx E x0 L N O) 27)) (.cells #[I4 M.r,I4 M.s,.slice (some y0) M.m.ln La.c] 30)
 have q1:Blk 27 ((w.alloc (.cells (M.mx E x0 L N O) 27)).alloc (.cells #[I4 M.r,I4 M.s,.slice (some y0) M.m.ln La.c] 30)) w.heap.size (M.mx E x0 L N O):=(Blk.new 27 w _).kept (bNw bR _)
 have q2:Blk 30 ((w.alloc (.cells (M.mx E x0 L N O) 27)).alloc (.cells #[I4 M.r,I4 M.s,.slice (some y0) M.m.ln La.c] 30)) (w.heap.size+1) #[I4 M.r,I4 M.s,.slice (some y0) M.m.ln La.c]:=Blk.new_at 30 (w.alloc _) _ _ (by simp)
 have kr:=fun (W:World) (hb:Bw w W) a c xs=>QiS F (Y i 0) _ (F.f0 i hi) W (((hM.lay i hi).f 0 (by omega)).below hb) a c xs
 have kq:=fun (W:World) (hb:Bw w W) a c xs=>QeS F hi 1 (by omega) (by omega) (Y i 1) W (((hM.lay i hi).f 1 (by omega)).below hb) a c xs
 have kk:=fun (W:World) (hb:Bw w W) a c xs=>QeS F hi 2 (by omega) (by omega) (Y i 2) W (((hM.lay i hi).f 2 (by omega)).below hb) a c xs
 have kv:=fun (W:World) (hb:Bw w W) a c xs=>QeS F hi 3 (by omega) (by omega) (Y i 3) W (((hM.lay i hi).f 3 (by omega)).below hb) a c xs
 have kg:∀ w,Calls Tryz.prog 53 #[.agg #[I4 M.r,I4 M.s,.slice (some y0) M.m.ln La.c]] w fun e w'=>e=.returned (.bool true)∧Bw w w':=fun w=>QcT M.r M.s ⟨some y0,M.m.ln,La.c⟩ hr0 w
 have cg:=fun (W:World) (hb:Bw w W) j hj=>(hA.below hb).cell y0 hy0 i hia j hj
 have ka:=fun (W:World) (hb:Bw w W) a c xs=>QiT F A hi 0 (by omega) (Ya i 0) (Ya i 1) W ((hA.lay i hia 0 (by omega)).below hb) ((hA.lay i hia 1 (by omega)).below hb) a c xs
 have kb:=fun (W:World) (hb:Bw w W) a c xs=>QiT F A hi 2 (by omega) (Ya i 2) (Ya i 3) W ((hA.lay i hia 2 (by omega)).below hb) ((hA.lay i hia 3 (by omega)).below hb) a c xs
 have k1:=fun (W:World) a0 c0 xs a1 c1 ys=>QmP F W a0 c0 xs a1 c1 ys
 have k2:=k1
 have hnot:∀ (x:Bool) (w:World),(Op.unary .not (.bool x)).run Tryz.prog w=.ok (.bool (!x)) w:=fun _ _=>rfl
 have eq:qL M p i x=headsL (Qc8 (matL (M.m.f i 1) (nrmL M i x)) (QdF (M.a.f i 0) (M.a.f i (0+1)) M.r M.s (nrmL M i x))) p (M.D/M.H) M.H:=by unfold qL Qbi;rw[if_neg hr0]
 have ev:vL M i x=Qc8 (matL (M.m.f i 3) (nrmL M i x)) (QdF (M.a.f i 2) (M.a.f i (2+1)) M.r M.s (nrmL M i x)):=by unfold vL Qbi;rw[if_neg hr0]
 unfold nrmL at eq ev
 rw[eq,ev]
 unfold kL nrmL
 have hlt:(i:Int)<(M.m.ln:Int):=by omega
 clear eq ev hr0 hA
 go_enter Tryz.func60,Tryz.ntmps60
 go_wp2
 refine Qg1 M E L N O Y w.heap.size i x0 U D (hM.below hb1) hx0 hi q1 (by kernel_rfl) rfl (by (repeat' apply And.intro)<;>exact⟨_,rfl,rfl,rfl,rfl,by kernel_rfl⟩) rfl rfl (Nat.le_of_ble_eq_true rfl) ?_
 intro a W2 cb lb hs hd hkp e13 e14 hb2 qc ql
 obtain⟨f,ef,ep⟩:=fPz [17,18,19,20,21,22,23,13,14] rfl hs hd hkp
 simp only[ef] at e13 e14
 simp only[List.foldl,e13,e14,Act.put,List.setIfInBounds_toArray,List.set_cons_succ,List.set_cons_zero] at ep
 clear hs hd hkp e13 e14 ef
 subst ep
 have hb:=bTn hb1 hb2
 have hx2:=hx.below hb
 have QC:=hdn qc
 have QL:=hdn ql
 have QA:=hdn (q2.kept hb2)
 have yy0:=ql.cell 0 (v:=(Y i 0).w) rfl
 clear qc ql hb1 hb2 q1 q2 hx hM
 go_wp2_with (first
  | (go_at_call 64;refine (kr _ hb _ _ _ hx2).mono ?_;rintro e W3 ⟨⟨a3,c3,rfl,r3,-⟩,h3⟩;clear kr;have hb3:=bTn hb h3;have QC':=hdn (QC.out.kept h3);clear QC;have QC:=QC';clear QC';have QL':=hdn (QL.out.kept h3);clear QL;have QL:=QL';clear QL';have QA':=hdn (QA.out.kept h3);clear QA;have QA:=QA';clear QA';have y1:=QL.out.cell 1 (v:=(Y i 1).w) rfl;have z3:=QC.out.cell 0 (v:=I4 M.d) rfl;clear h3 hx2)
  | (go_at_call 48;refine (QaY _ _ _ _).mono ?_;rintro e w' ⟨rfl,hq⟩;obtain rfl:=hq.symm;clear hq)
  | (go_at_call 49;refine (kq _ hb3 _ _ _ r3).mono ?_;rintro e W4 ⟨⟨a4,c4,rfl,r4,l4,-⟩,h4⟩;clear kq;have hb4:=bTn hb3 h4;have QC':=hdn (QC.out.kept h4);clear QC;have QC:=QC';clear QC';have QL':=hdn (QL.out.kept h4);clear QL;have QL:=QL';clear QL';have QA':=hdn (QA.out.kept h4);clear QA;have QA:=QA';clear QA';replace r3:=r3.below h4;have y2:=QL.out.cell 2 (v:=(Y i 2).w) rfl;have z4:=QC.out.cell 0 (v:=I4 M.d) rfl;clear h4 y1 z3)
  | (go_at_call 49;refine (kk _ hb4 _ _ _ r3).mono ?_;rintro e W5 ⟨⟨a5,c5,rfl,r5,l5,-⟩,h5⟩;clear kk;have hb5:=bTn hb4 h5;have QC':=hdn (QC.out.kept h5);clear QC;have QC:=QC';clear QC';have QL':=hdn (QL.out.kept h5);clear QL;have QL:=QL';clear QL';have QA':=hdn (QA.out.kept h5);clear QA;have QA:=QA';clear QA';replace r3:=r3.below h5;replace r4:=r4.below h5;have y3:=QL.out.cell 3 (v:=(Y i 3).w) rfl;have z5:=QC.out.cell 0 (v:=I4 M.d) rfl;clear h5 y2 z4)
  | (go_at_call 49;refine (kv _ hb5 _ _ _ r3).mono ?_;rintro e W6 ⟨⟨a6,c6,rfl,r6,l6,f6⟩,h6⟩;clear kv;have FV:Hid (∀ x,a6=some x→w.heap.size≤x.block):=fun x hx=>Nat.le_trans hb5.size (f6 x hx);clear f6;have hb6:=bTn hb5 h6;have QC':=hdn (QC.out.kept h6);clear QC;have QC:=QC';clear QC';have QL':=hdn (QL.out.kept h6);clear QL;have QL:=QL';clear QL';have QA':=hdn (QA.out.kept h6);clear QA;have QA:=QA';clear QA';replace r3:=r3.below h6;replace r4:=r4.below h6;replace r5:=r5.below h6;obtain⟨s0,s1,s2⟩:=QA.out.c3;clear h6 y3 z5)
  | (go_at_call 53;refine (kg _).mono ?_;rintro e W7 ⟨rfl,h7⟩;clear kg;have hb7:=bTn hb6 h7;have QC':=hdn (QC.out.kept h7);clear QC;have QC:=QC';clear QC';have QL':=hdn (QL.out.kept h7);clear QL;have QL:=QL';clear QL';have QA':=hdn (QA.out.kept h7);clear QA;have QA:=QA';clear QA';replace r3:=r3.below h7;replace r4:=r4.below h7;replace r5:=r5.below h7;replace r6:=r6.below h7;have s2':=QA.out.cell 2 (v:=.slice (some y0) M.m.ln La.c) rfl;have d0:=cg _ hb7 0 (by omega);have d1:=cg _ hb7 1 (by omega);have d2:=cg _ hb7 2 (by omega);have d3:=cg _ hb7 3 (by omega);unfold SL.v at d0 d1 d2 d3;simp only[Addr.add_zero',Addr.add_succ'] at d0 d1 d2 d3;have n8:=bNw (Below.refl W7.heap.size W7) (.cells #[(Ya i 0).w,(Ya i 1).w,(Ya i 2).w,(Ya i 3).w] 61);have hb8:=bTn hb7 n8;have QG:=hdn (Blk.new 61 W7 #[(Ya i 0).w,(Ya i 1).w,(Ya i 2).w,(Ya i 3).w]);have QA8:=hdn (QA.out.kept n8);have QC8:=hdn (QC.out.kept n8);clear QA QC;have QA:=QA8;have QC:=QC8;clear QA8 QC8;replace r3:=r3.below n8;replace r4:=r4.below n8;replace r5:=r5.below n8;replace r6:=r6.below n8;have g0:=QG.out.cell 0 (v:=(Ya i 0).w) rfl;have g1:=QG.out.cell 1 (v:=(Ya i 1).w) rfl;have s0:=QA.out.cell 0 (v:=I4 M.r) rfl;have s1:=QA.out.cell 1 (v:=I4 M.s) rfl;clear h7 n8 cg)
  | (go_at_call 94;refine (ka _ hb8 _ _ _ r3).mono ?_;rintro e W9 ⟨⟨a9,c9,rfl,r9⟩,h9⟩;clear ka;have hb9:=bTn hb8 h9;have QC':=hdn (QC.out.kept h9);clear QC;have QC:=QC';clear QC';have QA':=hdn (QA.out.kept h9);clear QA;have QA:=QA';clear QA';have QG':=hdn (QG.out.kept h9);clear QG;have QG:=QG';clear QG';replace r3:=r3.below h9;replace r4:=r4.below h9;replace r5:=r5.below h9;replace r6:=r6.below h9;clear h9 g0 g1 s0 s1)
  | (go_at_call 93;refine (k1 _ _ _ _ _ _ _ r4 r9).mono ?_;rintro e W10 ⟨⟨a10,c10,rfl,r10,l10,-⟩,h10⟩;clear k1;have hb10:=bTn hb9 h10;have QC':=hdn (QC.out.kept h10);clear QC;have QC:=QC';clear QC';have QA':=hdn (QA.out.kept h10);clear QA;have QA:=QA';clear QA';have QG':=hdn (QG.out.kept h10);clear QG;have QG:=QG';clear QG';replace r3:=r3.below h10;replace r5:=r5.below h10;replace r6:=r6.below h10;have g2:=QG.out.cell 2 (v:=(Ya i 2).w) rfl;have g3:=QG.out.cell 3 (v:=(Ya i 3).w) rfl;have s0:=QA.out.cell 0 (v:=I4 M.r) rfl;have s1:=QA.out.cell 1 (v:=I4 M.s) rfl;clear h10 r4 r9)
  | (go_at_call 94;refine (kb _ hb10 _ _ _ r3).mono ?_;rintro e W11 ⟨⟨a11,c11,rfl,r11⟩,h11⟩;clear kb;have hb11:=bTn hb10 h11;have QC':=hdn (QC.out.kept h11);clear QC;have QC:=QC';clear QC';replace r5:=r5.below h11;replace r6:=r6.below h11;replace r10:=r10.below h11;clear h11 g2 g3 s0 s1 r3)
  | (go_at_call 93;refine (k2 _ _ _ _ _ _ _ r6 r11).mono ?_;rintro e W12 ⟨⟨a12,c12,rfl,r12,l12,f12⟩,h12⟩;clear k2;have FW:Hid (∀ x,a12=some x→w.heap.size≤x.block):=fun x hx=>Nat.le_trans hb11.size (f12 x hx);clear f12;have hb12:=bTn hb11 h12;have QC':=hdn (QC.out.kept h12);clear QC;have QC:=QC';clear QC';replace r5:=r5.below h12;replace r10:=r10.below h12;clear h12 r6 r11))
 refine Qg2 cb M.D c10 c5 c12 a10 a5 a12 M.h p (headsL (Qc8 (matL (M.m.f i 1) (rmsZ x (M.m.f i 0) M.D)) (QdF (M.a.f i 0) (M.a.f i (0+1)) M.r M.s (rmsZ x (M.m.f i 0) M.D))) p (M.D/M.H) M.H) (headsL (matL (M.m.f i 2) (rmsZ x (M.m.f i 0) M.D)) p (M.D/M.H) M.H) (fun W=>Bw W12 W) (by kernel_rfl) rfl (by (repeat' apply And.intro)<;>exact⟨_,rfl,rfl,rfl,rfl,by kernel_rfl⟩) bR.drew (Qap _ 1 (by omega)) (fun W hb=>Qam ((QC.out.kept hb).cell 1 (v:=I4 M.h) rfl)) (fun W hb=>(Qeb F p hp W _ _ _ (r10.below hb) l10).mono fun e w' ⟨⟨a,c,q1,q2,q3⟩,q4⟩=>⟨a,c,q1,q2,q3,q4,bTn hb q4⟩) trivial (Qap _ 1 (by omega)) (fun W hb=>Qam ((QC.out.kept hb).cell 1 (v:=I4 M.h) rfl)) (fun W hb=>(Qeb F p hp W _ _ _ (r5.below hb) l5).mono fun e w' ⟨⟨a,c,q1,q2,q3⟩,q4⟩=>⟨a,c,q1,q2,q3,q4,bTn hb q4⟩) trivial rfl rfl rfl rfl rfl (Nat.le_of_ble_eq_true rfl) ?_
 intro a W9 hs hd hkp hS9 hval
 have e12:a.tmps.getD 12 undef=.slice a12 M.D c12:=hval 19 12 (by decide) rfl
 obtain⟨q9,qc9,e10,f10,z10⟩:=hval 17 10 (by decide) rfl
 obtain⟨k9,kc9,e11,f11,z11⟩:=hval 18 11 (by decide) rfl
 obtain⟨f,ef,ep⟩:=fPz [101,102,103,104,105,106,107,108,109,110,111,112,113,114,115,116,117,10,11,12] rfl hs hd hkp
 simp only[ef] at e12 e10 e11
 simp only[List.foldl,e12,e10,e11,Act.put,List.setIfInBounds_toArray,List.set_cons_succ,List.set_cons_zero] at ep
 have H9:=hdn hS9
 clear hs hd hkp hval hS9 e12 e10 e11 ef
 subst ep
 have fv:=r12.below H9.out
 have hbE:=bTn hb12 H9.out
 go_wp2
 refine bodyPost_ret (v:=.tuple #[.slice q9 M.D qc9,.slice k9 M.D kc9,.slice a12 M.D c12]) ?_ rfl ⟨⟨q9,qc9,k9,kc9,a12,c12,rfl,⟨f10,z10⟩,⟨f11,z11⟩,fv,l12,FW.out⟩,hbE⟩
 simp[results,Tryz.results60,go_sem]
theorem Qjz (M:Md)(E L N O:SL)(Y U D:Nat→Nat→SL)(La:SL)(Ya:Nat→Nat→SL)(F:Qaq M)(hok:M.r≠0→∃ R,QcX M R)(i:Nat)(hi:i<M.m.ln)(p:Int)(hp:0≤p∧p≤1000)(w:World)(hM:Qad w E L N O Y U D M.m)(hA:AdAt w La Ya M.a)(ax:Option Addr)(cx:Nat)(x:List Int)(hx:Reads .i64 w ax M.D x) :
  Calls Tryz.prog 60 #[.agg #[I4 M.d,I4 M.h,I4 M.l,I4 M.v,I4 M.u,I4 M.x,I4 M.t,I4 M.n,.slice E.a E.n E.c,.slice L.a L.n L.c,.slice N.a N.n N.c,.slice O.a O.n O.c],.agg #[I4 M.r,I4 M.s,.slice La.a La.n La.c],I4 i,I4 p,.slice ax M.D cx] w fun e w'=>(∃ q cq k ck v cv,e=.returned (.tuple #[.slice q M.D cq,.slice k M.D ck,.slice v M.D cv])∧(Reads .i64 w' q M.D (qL M p i x)∧M.D≤cq)∧(Reads .i64 w' k M.D (kL M p i x)∧M.D≤ck)∧(Reads .i64 w' v M.D (vL M i x)∧M.D≤cv∧∀ x,v=some x→w.heap.size≤x.block))∧Bw w w':=by
 obtain⟨x0,hx0⟩:=hM.some_ (by omega)
 by_cases hr0:M.r=0
 ·have:=Qml M E L N O Y U D La Ya x0 F hr0 i hi p hp w hM hx0 ax cx x hx
  rw[hx0,hM.len]
  exact this
 ·obtain⟨R,A⟩:=hok hr0
  obtain⟨y0,hy0⟩:=hA.some_ (by rw[A.ln];omega)
  have:=Qla M E L N O Y U D La Ya x0 y0 F hr0 R A i hi p hp w hM hA hx0 hy0 ax cx x hx
  rw[hx0,hM.len,hy0,hA.len,A.ln]
  exact this
end Go.Proofs.YthliomlmhfjhnaaGreat
